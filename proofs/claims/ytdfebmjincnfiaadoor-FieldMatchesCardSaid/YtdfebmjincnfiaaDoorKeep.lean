/- What stays in the world through calls that write some blocks alone; a block's cells, whatever they are, written by copy and clear. -/
import Derived.Test.YtdfebmjincnfiaaDoorRow
import Derived.Lib.SliceRun
namespace Go.Proofs.YtdfebmjincnfiaaDoor
open Go.RowKit

/-- nothing that was there has turned but the blocks of S -/
structure Keep (S : List Nat) (w w' : World) : Prop where
  os : w'.os = w.os
  tape : w'.tape = w.tape
  output : w'.output = w.output
  size : w.heap.size ≤ w'.heap.size
  block : ∀ i, i < w.heap.size → i ∉ S → w'.heap[i]? = w.heap[i]?
theorem Keep.refl (S : List Nat) (w : World) : Keep S w w := ⟨rfl, rfl, rfl, Nat.le_refl _, fun _ _ _ => rfl⟩
theorem Keep.of_below {S : List Nat} {w w' : World} (h : Below w.heap.size w w') : Keep S w w' := ⟨h.os, h.tape, h.output, h.size, fun i hi _ => h.block i hi⟩
theorem Keep.of_grown {S : List Nat} {w w' : World} {row : Option Nat} (h : w.grownBy w' row) (hr : ∀ j, row = some j → j ∈ S ∨ w.heap.size ≤ j) : Keep S w w' :=
  ⟨h.os, h.tape, h.output, h.size, fun i hi hn => h.block i hi fun e => by
    rcases hr i e.symm with h1 | h1
    · exact hn h1
    · omega⟩
theorem Keep.trans {S S' : List Nat} {a b c : World} (h : Keep S a b) (k : Keep S' b c) (hs : ∀ i ∈ S', i ∈ S ∨ a.heap.size ≤ i) : Keep S a c :=
  ⟨k.os.trans h.os, k.tape.trans h.tape, k.output.trans h.output, Nat.le_trans h.size k.size, fun i hi hn =>
    (k.block i (Nat.lt_of_lt_of_le hi h.size) fun hm => by
      rcases hs i hm with h1 | h1
      · exact hn h1
      · omega).trans (h.block i hi hn)⟩
theorem Keep.to_below {S : List Nat} {w w' : World} {B : Nat} (h : Keep S w w') (hs : ∀ i ∈ S, B ≤ i) (hB : B ≤ w.heap.size) : Below B w w' :=
  ⟨h.os, h.tape, h.output, h.size, fun i hi => h.block i (by omega) fun hm => by have := hs i hm; omega⟩
theorem Keep.then_below {S : List Nat} {a b c : World} (h : Keep S a b) (k : Below b.heap.size b c) : Keep S a c := h.trans (Keep.of_below (S := []) k) (fun i hi => by cases hi)
theorem Keep.drewN {S : List Nat} {a b : World} (h : Keep S a b) (n : Nat) : Keep S a (b.drewN n) := ⟨h.os, h.tape, h.output, h.size, h.block⟩
theorem Keep.drew {S : List Nat} {a b : World} (h : Keep S a b) : Keep S a b.drew := ⟨h.os, h.tape, h.output, h.size, h.block⟩
theorem Keep.cell {S : List Nat} {w w' : World} (h : Keep S w w') {p : Addr} {v : Value} (hc : w.cell? p = some v) (hp : p.block ∉ S) : w'.cell? p = some v := by
  have hl : p.block < w.heap.size := by
    simp only [World.cell?] at hc
    cases hg : w.heap[p.block]? with
    | none => rw [hg] at hc; cases hc
    | some o => exact (Array.getElem?_eq_some_iff.1 hg).1
  have e := h.block p.block hl hp
  simp only [World.cell?] at hc ⊢
  rw [e]; exact hc
theorem keep_set (b o : Nat) (w : World) (x : Value) : Keep [b] w (w.setCell ⟨b, o, none⟩ x) :=
  ⟨rfl, rfl, rfl, by simp [World.setCell], fun i hi hn => by
    have : b ≠ i := fun e => hn (by simp [e])
    simp [World.setCell, Array.getElem?_modify, this]⟩
theorem Rd.keep {k : IntKind} {S : List Nat} {w w' : World} {v : Value} {xs : List Int} (h : Rd k w v xs) (hk : Keep S w w') (hn : ∀ j, v.ownBlock = some j → j ∉ S) : Rd k w' v xs := by
  rcases h with h | ⟨h1, b, o, c, rfl, h2, h3, h4, h5⟩
  · exact .inl h
  · exact .inr ⟨h1, b, o, c, rfl, h2, h3, Nat.lt_of_lt_of_le h4 hk.size, fun i hi => hk.cell (h5 i hi) (hn b rfl)⟩
theorem Rd.blt {k : IntKind} {w : World} {v : Value} {xs : List Int} (h : Rd k w v xs) (hx : xs ≠ []) : ∀ j, v.ownBlock = some j → j < w.heap.size := by
  intro j hj
  rcases h with ⟨h0, _⟩ | ⟨_, b, o, c, rfl, _, _, h4, _⟩
  · exact absurd h0 hx
  · simp only [Value.ownBlock, Option.some.injEq] at hj; subst hj; exact h4

/-- block g HOLDS THE CELLS cs -/
def Cs (w : World) (g : Nat) (cs : List Value) : Prop := ∃ T, w.heap[g]? = some (.cells cs.toArray T (0, 0))
theorem Cs.lt {w : World} {g : Nat} {cs : List Value} (h : Cs w g cs) : g < w.heap.size := by
  obtain ⟨T, e⟩ := h
  exact (Array.getElem?_eq_some_iff.1 e).1
theorem Cs.block {w w' : World} {g : Nat} {cs : List Value} (h : Cs w g cs) (e : w'.heap[g]? = w.heap[g]?) : Cs w' g cs := by
  obtain ⟨T, h⟩ := h
  exact ⟨T, e.trans h⟩
theorem Cs.keep {S : List Nat} {w w' : World} {g : Nat} {cs : List Value} (h : Cs w g cs) (k : Keep S w w') (hn : g ∉ S) : Cs w' g cs := h.block (k.block g h.lt hn)
theorem Cs.below {w w' : World} {g : Nat} {cs : List Value} (h : Cs w g cs) (hb : Below w.heap.size w w') : Cs w' g cs := h.block (hb.block g h.lt)
theorem Cs.grown {w w' : World} {row : Option Nat} {g : Nat} {cs : List Value} (h : Cs w g cs) (hg : w.grownBy w' row) (hn : some g ≠ row) : Cs w' g cs := h.block (hg.block g h.lt hn)
theorem Cs.get {w : World} {g : Nat} {cs : List Value} (h : Cs w g cs) (j : Nat) (u : Value) (hu : cs[j]? = some u) : w.cell? ⟨g, j, none⟩ = some u := by
  obtain ⟨T, e⟩ := h
  simpa [World.cell?, e] using hu
theorem Cs.free {w : World} {g : Nat} {cs : List Value} (h : Cs w g cs) (j : Nat) : w.frozen? ⟨g, j, none⟩ = false := by
  obtain ⟨T, e⟩ := h
  simp [World.frozen?, e]
theorem Cs.set {w : World} {g : Nat} {cs : List Value} (h : Cs w g cs) (j : Nat) (u : Value) : Cs (w.setCell ⟨g, j, none⟩ u) g (cs.set j u) := by
  obtain ⟨T, e⟩ := h
  exact ⟨T, by simp [World.setCell, Array.getElem?_modify, e]⟩
theorem Cs.made (w : World) (cs : Array Value) (T : TypeId) : Cs (w.alloc (.cells cs T)) w.heap.size cs.toList := ⟨T, by show (w.heap.push _)[w.heap.size]? = _; simp⟩
theorem grown_set (b o : Nat) (w : World) (x : Value) : w.grownBy (w.setCell ⟨b, o, none⟩ x) (some b) :=
  ⟨rfl, rfl, rfl, by simp [World.setCell], fun i hi hn => by
    have : b ≠ i := fun e => hn (by simp [e])
    simp [World.setCell, Array.getElem?_modify, this]⟩
theorem grown_setRow (w : World) (g : Nat) (cs : Array Value) : w.grownBy (w.setRow g cs) (some g) :=
  ⟨rfl, rfl, rfl, by simp [World.setRow], fun j _ hj => setRow_other w g j _ (fun e => hj (by rw [e]))⟩

/-- copy(dst, src): dst lies in block g from off on -/
theorem wpList_copy_cs {P : Program} (w : World) {ops : Array Oper} {rest : List Oper} {o : Oper} {a : Act} {Q : Exit → Act → World → Prop} (hgd : o.guard = none) (d s : Operand) (dT sT : TypeId)
    (ho : o.op = .call { callee := .builtin .copy, args := #[d, s], argTypes := #[dT, sT] }) (elem : TypeId) (hu : P.underlying dT = some (.slice elem)) (hsz : (P.info? elem).map (·.size) = some 1)
    (g off dLen dCap sLen sCap : Nat) (ad : Addr) (hd : a.eval d = .slice (some ⟨g, off, none⟩) dLen dCap) (hs : a.eval s = .slice (some ad) sLen sCap)
    (cur : List Value) (hg : Cs w g cur) (cs : List Value) (hn : cs.length = Nat.min sLen dLen) (hsrc : 0 < cs.length → ∀ j v, cs[j]? = some v → w.cell? (ad.add j) = some v) (hfit : off + cs.length ≤ cur.length) (h1 : ∀ v ∈ cs, v.oneCell' = true)
    (h : ∀ w', Hid (Cs w' g (splice cur off cs)) → w.grownBy w' (some g) → wpList P ops Q rest (a.put o.dst (goInt cs.length)) w') : wpList P ops Q (o :: rest) a w := by
  obtain ⟨T, hg⟩ := hg
  have hsrc' : ∀ j v, cs[j]? = some v → w.cell? (ad.add j) = some v := fun j v hv => hsrc (by have := (List.getElem?_eq_some_iff.1 hv).1; omega) j v hv
  refine wpList_copy_own hgd d s dT sT ho elem hu hsz g off dLen dCap ad sLen sCap hd hs cur.toArray T hg cs hn hsrc' (by simpa using hfit) h1 ?_
  exact h _ (show Cs _ _ _ from ⟨T, by simpa [splice] using setRow_heap w g _ _ T _ hg⟩) (grown_setRow w g _)
theorem step_copy_cs {P : Program} {ops : Array Oper} {o : Oper} {a : Act} {w : World} {K : Act → World → Prop} {Q : Exit → Act → World → Prop} {E : Prop} (hgd : o.guard = none) (d s : Operand) (dT sT : TypeId)
    (ho : o.op = .call { callee := .builtin .copy, args := #[d, s], argTypes := #[dT, sT] }) (elem : TypeId) (hu : P.underlying dT = some (.slice elem)) (hsz : (P.info? elem).map (·.size) = some 1)
    (g off dLen dCap sLen sCap : Nat) (ad : Addr) (hd : a.eval d = .slice (some ⟨g, off, none⟩) dLen dCap) (hs : a.eval s = .slice (some ad) sLen sCap)
    (cur : List Value) (hg : Cs w g cur) (cs : List Value) (hn : cs.length = Nat.min sLen dLen) (hsrc : 0 < cs.length → ∀ j v, cs[j]? = some v → w.cell? (ad.add j) = some v) (hfit : off + cs.length ≤ cur.length) (h1 : ∀ v ∈ cs, v.oneCell' = true)
    (h : ∀ w', Hid (Cs w' g (splice cur off cs)) → w.grownBy w' (some g) → K (a.put o.dst (goInt cs.length)) w') :
    if Region.wanted o (yielded ops a.tmps) = true then Oper.wp P o a w K Q else E := by
  obtain ⟨T, hg⟩ := hg
  rw [if_pos (by simp [Region.wanted, hgd])]
  have hsrc' : ∀ j v, cs[j]? = some v → w.cell? (ad.add j) = some v := fun j v hv => hsrc (by have := (List.getElem?_eq_some_iff.1 hv).1; omega) j v hv
  have hrun := run_copy_row (P := P) w dT sT o.type elem g off dLen dCap ad sLen sCap cur.toArray T cs hu hsz hg hn hsrc' (by simpa using hfit) h1
  unfold Oper.wp
  simp [execOp, ho, resolve, invoke, builtin, hd, hs, hrun, Result.andThen]
  exact h _ (show Cs _ _ _ from ⟨T, by simpa [splice] using setRow_heap w g _ _ T _ hg⟩) (grown_setRow w g _)

theorem run_clear_cs {P : Program} (w : World) (t e ty : TypeId) (z : Value) (ht : P.underlying t = some (.slice e)) (hv : ∀ w, (zeroValue e).run P w = .ok z w) (hz : z.cells = #[z]) (h1 : z.oneCell' = true) (g o n c : Nat) (hn : 0 < n)
    (T : TypeId) (cur : List Value) (hg : w.heap[g]? = some (.cells cur.toArray T (0, 0))) (hfit : o + n ≤ cur.length) :
    (Builtin.clear_ #[t] ty #[.slice (some ⟨g, o, none⟩) n c]).run P w = .ok (.tuple #[]) (w.setRow g (splice cur o (List.replicate n z)).toArray) := by
  have hzc : (Builtin.zeroCells z.cells n).toList = List.replicate n z := by
    rw [hz]
    simp [Builtin.zeroCells]
    apply List.ext_getElem
    · simp
    · intro i h1 h2
      simp [Nat.mod_one]
  have hst := run_storeCells_at P g o T (List.replicate n z) 0 cur.toArray w hg (by simp; omega) (by intro v hv'; rw [List.eq_of_mem_replicate hv']; exact h1)
  have e : (cur.toArray.toList.take (o + 0) ++ List.replicate n z ++ cur.toArray.toList.drop (o + 0 + (List.replicate n z).length)).toArray = (splice cur o (List.replicate n z)).toArray := by simp [splice]
  rw [e] at hst
  obtain ⟨m, rfl⟩ : ∃ m, n = m + 1 := ⟨n - 1, by omega⟩
  simp [Builtin.clear_, run_underlying ht, hv, hzc, hst]
/-- clear(s): s lies in block g from off on -/
theorem wpList_clear_cs {P : Program} (w : World) {ops : Array Oper} {rest : List Oper} {o : Oper} {a : Act} {Q : Exit → Act → World → Prop} (hgd : o.guard = none) (s : Operand) (t : TypeId)
    (ho : o.op = .call { callee := .builtin .clear, args := #[s], argTypes := #[t] }) (e : TypeId) (z : Value) (ht : P.underlying t = some (.slice e)) (hv : ∀ w, (zeroValue e).run P w = .ok z w) (hz : z.cells = #[z]) (h1 : z.oneCell' = true)
    (g off n c : Nat) (hs : a.eval s = .slice (some ⟨g, off, none⟩) n c) (hn : 0 < n) (cur : List Value) (hg : Cs w g cur) (hfit : off + n ≤ cur.length)
    (h : ∀ w', Hid (Cs w' g (splice cur off (List.replicate n z))) → w.grownBy w' (some g) → wpList P ops Q rest (a.put o.dst (.tuple #[])) w') : wpList P ops Q (o :: rest) a w := by
  obtain ⟨T, hg⟩ := hg
  refine wpList_plain hgd fun K hK => ?_
  have hrun := run_clear_cs w t e o.type z ht hv hz h1 g off n c hn T cur hg hfit
  unfold Oper.wp
  simp only [execOp, ho, resolve, invoke, builtin, Sem.run_bind, Sem.run_pure, Result.andThen_ok, List.map_toArray, List.map_cons, List.map_nil, hs, hrun]
  exact hK _ _ (h _ (show Cs _ _ _ from ⟨T, setRow_heap w g _ _ T _ hg⟩) (grown_setRow w g _))
theorem step_clear_cs {P : Program} {ops : Array Oper} {o : Oper} {a : Act} {w : World} {K : Act → World → Prop} {Q : Exit → Act → World → Prop} {E : Prop} (hgd : o.guard = none) (s : Operand) (t : TypeId)
    (ho : o.op = .call { callee := .builtin .clear, args := #[s], argTypes := #[t] }) (e : TypeId) (z : Value) (ht : P.underlying t = some (.slice e)) (hv : ∀ w, (zeroValue e).run P w = .ok z w) (hz : z.cells = #[z]) (h1 : z.oneCell' = true)
    (g off n c : Nat) (hs : a.eval s = .slice (some ⟨g, off, none⟩) n c) (hn : 0 < n) (cur : List Value) (hg : Cs w g cur) (hfit : off + n ≤ cur.length)
    (h : ∀ w', Hid (Cs w' g (splice cur off (List.replicate n z))) → w.grownBy w' (some g) → K (a.put o.dst (.tuple #[])) w') :
    if Region.wanted o (yielded ops a.tmps) = true then Oper.wp P o a w K Q else E := by
  obtain ⟨T, hg⟩ := hg
  rw [if_pos (by simp [Region.wanted, hgd])]
  have hrun := run_clear_cs w t e o.type z ht hv hz h1 g off n c hn T cur hg hfit
  unfold Oper.wp
  simp only [execOp, ho, resolve, invoke, builtin, Sem.run_bind, Sem.run_pure, Result.andThen_ok, List.map_toArray, List.map_cons, List.map_nil, hs, hrun]
  exact h _ (show Cs _ _ _ from ⟨T, setRow_heap w g _ _ T _ hg⟩) (grown_setRow w g _)
end Go.Proofs.YtdfebmjincnfiaaDoor
