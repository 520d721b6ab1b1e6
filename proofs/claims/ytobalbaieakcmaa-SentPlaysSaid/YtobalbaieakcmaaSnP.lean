/- Rows of datagrams (three numbers each), ours and the document's; rows that the library has sorted. -/
import Derived.Test.YtobalbaieakcmaaSnK
import Derived.Test.YtobalbaieakcmaaRowW
import Derived.Shelf.GgSortFunc.InsertionK
set_option linter.unusedSimpArgs false
set_option linter.unusedVariables false
namespace Go.Proofs.Ytobalbaieakcmaa
open Go.RowKit Go.Sort

def pkCell (p : Pk) : List Value := [.int .i64 p.n, .int .i64 p.t, .int .i64 p.s]
def pkC (l : List Pk) : List Value := l.flatMap pkCell
theorem pkC_len (l : List Pk) : (pkC l).length = l.length * 3 := flat_len pkCell 3 (fun _ => rfl) l
theorem pkC_append (a b : List Pk) : pkC (a ++ b) = pkC a ++ pkC b := by simp [pkC]
theorem pkC_get (l : List Pk) (i j : Nat) (hi : i < l.length) (hj : j < 3) : (pkC l)[i * 3 + j]? = (pkCell l[i])[j]? := flat_get pkCell 3 (fun _ => rfl) l i j hi hj
theorem pkC_one (l : List Pk) : ∀ u ∈ pkC l, u.oneCell' = true := by
  intro u hu
  obtain ⟨s, _, hs⟩ := List.mem_flatMap.1 hu
  simp only [pkCell, List.mem_cons, List.not_mem_nil, or_false] at hs
  rcases hs with rfl | rfl | rfl <;> rfl

/-- v READS AS THE DATAGRAMS l -/
def RdP (w : World) (v : Value) (l : List Pk) : Prop := RdC 3 w v l.length (pkC l)
/-- v IS A ROW OF THE CALL's OWN (from block B on) THAT HOLDS THE DATAGRAMS l -/
def OwnP (T : TypeId) (w : World) (B : Nat) (v : Value) (l : List Pk) : Prop := w.ownsRow B T 3 v l.length (pkC l)
theorem RdP.nil (w : World) : RdP w (.slice none 0 0) [] := RdC.nil 3 w
theorem OwnP.nil (T : TypeId) (w : World) (B : Nat) : OwnP T w B (.slice none 0 0) [] := World.ownsRow_nil w B _ 3
theorem OwnP.rd {T : TypeId} {w : World} {B : Nat} {v : Value} {l : List Pk} (h : OwnP T w B v l) : RdP w v l := RdC.of_owns h
theorem OwnP.kept {T : TypeId} {w w' : World} {B : Nat} {v : Value} {l : List Pk} {row : Option Nat} (h : OwnP T w B v l) (hg : w.grownBy w' row) (hne : ∀ j, v.ownBlock = some j → row ≠ some j) : OwnP T w' B v l := by
  refine World.ownsRow.kept h hg ?_
  cases hv : v.ownBlock with
  | none => exact .inl rfl
  | some j => exact .inr fun e => hne j hv e.symm
theorem OwnP.mono {T : TypeId} {w : World} {B B' : Nat} {v : Value} {l : List Pk} (h : OwnP T w B v l) (hb : B' ≤ B) : OwnP T w B' v l := by
  obtain ⟨h1, h2⟩ := h
  refine ⟨h1, ?_⟩
  rcases h2 with h2 | ⟨g, cap, cur, a1, a2, a3⟩
  · exact .inl h2
  · exact .inr ⟨g, cap, cur, a1, Nat.le_trans hb a2, a3⟩
theorem OwnP.blk {T : TypeId} {w : World} {B : Nat} {v : Value} {l : List Pk} (h : OwnP T w B v l) : ∀ j, v.ownBlock = some j → B ≤ j := fun j hj => (World.ownsRow.lt h j hj).1
theorem OwnP.blt {T : TypeId} {w : World} {B : Nat} {v : Value} {l : List Pk} (h : OwnP T w B v l) : ∀ j, v.ownBlock = some j → j < w.heap.size := fun j hj => (World.ownsRow.lt h j hj).2
theorem OwnP.slice {T : TypeId} {w : World} {B : Nat} {v : Value} {l : List Pk} (h : OwnP T w B v l) : ∃ a c, v = .slice a l.length c ∧ l.length ≤ c ∧ c ≤ maxLen := RdC.isSlice h.rd
theorem OwnP.block {T : TypeId} {w w' : World} {B : Nat} {v : Value} {l : List Pk} (h : OwnP T w B v l) (hb : ∀ j, v.ownBlock = some j → w'.heap[j]? = w.heap[j]?) : OwnP T w' B v l := by
  obtain ⟨h1, h2⟩ := h
  refine ⟨h1, ?_⟩
  rcases h2 with h2 | ⟨g, cap, cur, rfl, a2, a3, a4⟩
  · exact .inl h2
  · exact .inr ⟨g, cap, cur, rfl, a2, (hb g rfl).trans a3, a4⟩
theorem RdP.slice {w : World} {v : Value} {l : List Pk} (h : RdP w v l) : ∃ a c, v = .slice a l.length c ∧ l.length ≤ c ∧ c ≤ maxLen := RdC.isSlice h
theorem RdP.below {w w' : World} {v : Value} {l : List Pk} (h : RdP w v l) (hb : Below w.heap.size w w') : RdP w' v l := RdC.below h hb
theorem RdP.kept {w w' : World} {v : Value} {l : List Pk} {row : Option Nat} (h : RdP w v l) (hg : w.grownBy w' row) (hne : ∀ j, v.ownBlock = some j → row ≠ some j) : RdP w' v l := RdC.kept h hg hne
theorem RdP.form {w : World} {v : Value} {l : List Pk} (h : RdP w v l) (hs : l ≠ []) : ∃ b o c, v = .slice (some ⟨b, o, none⟩) l.length c ∧ b < w.heap.size := by
  obtain ⟨_, ⟨h0, _⟩ | ⟨_, b, o, c, rfl, _, _, h4, _⟩⟩ := h
  · exact absurd (List.length_eq_zero_iff.1 h0) hs
  · exact ⟨b, o, c, rfl, h4⟩
theorem RdP.cells {w : World} {b o n c : Nat} {l : List Pk} (h : RdP w (.slice (some ⟨b, o, none⟩) n c) l) (k : Nat) (hk : k < l.length) :
    w.cell? ⟨b, o + k * 3, none⟩ = some (.int .i64 (l.getD k default).n) ∧ w.cell? ⟨b, o + k * 3 + 1, none⟩ = some (.int .i64 (l.getD k default).t) ∧ w.cell? ⟨b, o + k * 3 + 2, none⟩ = some (.int .i64 (l.getD k default).s) := by
  have e : l.getD k default = l[k] := by simp [List.getD, hk]
  have hn : n = l.length := by obtain ⟨_, _, e, _⟩ := h.slice; simp only [Value.slice.injEq] at e; exact e.2.1
  subst hn
  rw [e]
  have cell : ∀ j u, j < 3 → (pkCell l[k])[j]? = some u → w.cell? ⟨b, o + k * 3 + j, none⟩ = some u := fun j u hj hu =>
    RdC.cell h (k * 3 + j) u ((pkC_get l k j hk hj).trans hu) _ (by omega)
  exact ⟨cell 0 _ (by omega) rfl, cell 1 _ (by omega) rfl, cell 2 _ (by omega) rfl⟩
theorem RdP.built (w : World) (p : Pk) (T : TypeId) : RdP (w.alloc (.cells #[.int .i64 p.n, .int .i64 p.t, .int .i64 p.s] T)) (.slice (some ⟨w.heap.size, 0, none⟩) 1 1) [p] :=
  RdC.built 3 w #[.int .i64 p.n, .int .i64 p.t, .int .i64 p.s] T rfl
theorem OwnP.built (w : World) (B : Nat) (p : Pk) (T : TypeId) (hB : B ≤ w.heap.size) : OwnP T (w.alloc (.cells #[.int .i64 p.n, .int .i64 p.t, .int .i64 p.s] T)) B (.slice (some ⟨w.heap.size, 0, none⟩) 1 1) [p] :=
  ⟨rfl, .inr ⟨w.heap.size, 1, #[.int .i64 p.n, .int .i64 p.t, .int .i64 p.s], rfl, hB, by show (w.heap.push _)[w.heap.size]? = _; simp, Nat.le_refl _, by decide, rfl, rfl⟩⟩

theorem elemPkS : ElemC Try.prog 54 3 24 (.agg #[.int .i64 0, .int .i64 0, .int .i64 0]) := ⟨info_parts (by kernel_rfl), rfl, by decide⟩
theorem elemPkR : ElemC Try.prog 67 3 24 (.agg #[.int .i64 0, .int .i64 0, .int .i64 0]) := ⟨info_parts (by kernel_rfl), rfl, by decide⟩

/-- append OF DATAGRAMS ONTO A ROW OF THE CALL's OWN -/
theorem wpList_append_pkS (w : World) {ops : Array Oper} {rest : List Oper} {o : Oper} {a : Act} {Q : Exit → Act → World → Prop} (hgd : o.guard = none) (s x : Operand)
    (ho : o.op = .call { callee := .builtin .append, args := #[s, x], argTypes := #[36, 36] })
    (B : Nat) (v : Value) (xs : List Pk) (hs : a.eval s = v) (hown : OwnP 54 w B v xs) (u : Value) (ys : List Pk) (hx : a.eval x = u) (hr : RdP w u ys)
    (hby : xs.length + ys.length ≤ 100000) (hB : B ≤ w.heap.size)
    (h : ∀ v' w', OwnP 54 w' B v' (xs ++ ys) → w.grownBy w' v.ownBlock → wpList Try.prog ops Q rest (a.put o.dst v') w') : wpList Try.prog ops Q (o :: rest) a w :=
  wpList_append_rows w hgd s x 36 ho elemPkS Try.underlying36 B v xs.length (pkC xs) hs hown u ys.length (pkC ys) hx hr (pkC_one ys) (by omega) (by unfold maxLen; omega) hB
    fun v' w' h1 h2 => h v' w' (show w'.ownsRow _ _ _ _ (xs ++ ys).length _ by rw [List.length_append, pkC_append]; exact h1) h2
theorem wpList_append_pkR (w : World) {ops : Array Oper} {rest : List Oper} {o : Oper} {a : Act} {Q : Exit → Act → World → Prop} (hgd : o.guard = none) (s x : Operand)
    (ho : o.op = .call { callee := .builtin .append, args := #[s, x], argTypes := #[25, 25] })
    (B : Nat) (v : Value) (xs : List Pk) (hs : a.eval s = v) (hown : OwnP 67 w B v xs) (u : Value) (ys : List Pk) (hx : a.eval x = u) (hr : RdP w u ys)
    (hby : xs.length + ys.length ≤ 100000) (hB : B ≤ w.heap.size)
    (h : ∀ v' w', OwnP 67 w' B v' (xs ++ ys) → w.grownBy w' v.ownBlock → wpList Try.prog ops Q rest (a.put o.dst v') w') : wpList Try.prog ops Q (o :: rest) a w :=
  wpList_append_rows w hgd s x 25 ho elemPkR Try.underlying25 B v xs.length (pkC xs) hs hown u ys.length (pkC ys) hx hr (pkC_one ys) (by omega) (by unfold maxLen; omega) hB
    fun v' w' h1 h2 => h v' w' (show w'.ownsRow _ _ _ _ (xs ++ ys).length _ by rw [List.length_append, pkC_append]; exact h1) h2

/-! ### between a row of the call's own and the sort's words -/
theorem flat_pk (l : List Pk) : flatK pkCell 3 l.toArray = (pkC l).toArray := by
  refine ext_get! (by rw [size_flatK, List.size_toArray, List.size_toArray, pkC_len]) fun t ht => ?_
  rw [size_flatK, List.size_toArray] at ht
  rw [get_flatK _ _ _ _ (by rw [List.size_toArray]; exact ht)]
  have h1 : t / 3 < l.length := by omega
  have h2 : t % 3 < 3 := Nat.mod_lt _ (by omega)
  have g := pkC_get l (t / 3) (t % 3) h1 h2
  rw [show t / 3 * 3 + t % 3 = t by omega] at g
  have h3 : (pkCell l[t / 3]).length = 3 := rfl
  rw [List.getElem?_eq_getElem (by rw [pkC_len]; omega), List.getElem?_eq_getElem (by omega)] at g
  have g' := Option.some.inj g
  rw [getElem!_pos l.toArray (t / 3) (by simpa using h1), getElem!_pos (pkC l).toArray t (by simpa [pkC_len] using ht)]
  rw [List.getElem_toArray, List.getElem_toArray, g', getElem!_pos (pkCell l[t / 3]) (t % 3) (by omega)]
theorem holds_own {w : World} {g : Nat} {cur : Array Value} {e : TypeId} {F : List Value} (hb : w.heap[g]? = some (.cells cur e (0, 0))) (ht : cur.toList.take F.length = F) : Holds id w g 0 F.toArray := by
  intro j hj
  have hj' : j < F.length := by simpa using hj
  refine ⟨?_, by simp [World.frozen?, hb]⟩
  have h1 : (cur.toList.take F.length)[j]? = F[j]? := by rw [ht]
  rw [List.getElem?_take_of_lt hj'] at h1
  simp only [World.cell?, hb, Nat.zero_add]
  simp only [Option.isSome_none, Bool.false_eq_true, if_false]
  rw [← Array.getElem?_toList, h1]
  simp [hj']
theorem heap_sortedV {w : World} {g n : Nat} {os : Array Obj} {cur : Array Value} {e : TypeId} {fr : Nat × Nat} (d : Array Value) (hb : w.heap[g]? = some (.cells cur e fr)) :
    (grow (putRow id (Sort.ahead w n) g 0 d) os).heap[g]? = some (.cells (putCells id 0 d cur) e fr) := by
  have hg : g < w.heap.size := (Array.getElem?_eq_some_iff.1 hb).1
  rw [heap_grow_old _ _ (by simpa using hg)]
  simp [putRow, mapBlock, Sort.ahead, Array.getElem?_modify, hb, onCells]
theorem grownBy_sortedV {w : World} {g n : Nat} {os : Array Obj} (d : Array Value) : w.grownBy (grow (putRow id (Sort.ahead w n) g 0 d) os) (some g) := by
  refine ⟨rfl, rfl, rfl, by simp, fun k hk hne => ?_⟩
  rw [heap_grow_old _ _ (by simpa using hk)]
  have : g ≠ k := fun e => hne (by rw [e])
  simp [putRow, mapBlock, Sort.ahead, Array.getElem?_modify, this]
theorem take_putV (cur : Array Value) (F : List Value) (h : F.length ≤ cur.size) : (putCells id 0 F.toArray cur).toList.take F.length = F := by
  apply List.ext_getElem?
  intro j
  by_cases hj : j < F.length
  · rw [List.getElem?_take_of_lt hj, Array.getElem?_toList]
    simp [putCells, hj, show j < cur.size by omega]
  · rw [List.getElem?_take_eq_none (by omega), List.getElem?_eq_none (by omega)]
/-- BEHIND THE SORT the same slice owns the sorted list -/
theorem owns_sorted {T : TypeId} {w : World} {B g n : Nat} {os : Array Obj} {c : Nat} {gs l : List Pk} (h : OwnP T w B (.slice (some ⟨g, 0, none⟩) gs.length c) gs) (hl : l.length = gs.length) :
    OwnP T (sortWorldK pkCell 3 w g 0 n l.toArray os) B (.slice (some ⟨g, 0, none⟩) gs.length c) l := by
  obtain ⟨h1, h2⟩ := h
  rcases h2 with ⟨q, _⟩ | ⟨g', cap, cur, q, hB, hb, hn, hm, hs, ht⟩
  · cases q
  · simp only [Value.slice.injEq, Option.some.injEq, Addr.mk.injEq, and_true, true_and] at q
    obtain ⟨rfl, rfl⟩ := q
    unfold OwnP
    rw [hl]
    refine ⟨by rw [pkC_len, hl], .inr ⟨g, c, putCells id 0 (pkC l).toArray cur, rfl, hB, ?_, hn, hm, by simp [putCells, hs], ?_⟩⟩
    · unfold sortWorldK putRowK
      rw [flat_pk]
      exact heap_sortedV _ hb
    · have := take_putV cur (pkC l) (by rw [pkC_len, hs, hl]; omega)
      rwa [pkC_len, hl] at this
theorem grown_sorted {w : World} {g n : Nat} {os : Array Obj} (d : Array Pk) : w.grownBy (sortWorldK pkCell 3 w g 0 n d os) (some g) := grownBy_sortedV _
theorem holds_pk {T : TypeId} {w : World} {B g c : Nat} {gs : List Pk} (h : OwnP T w B (.slice (some ⟨g, 0, none⟩) gs.length c) gs) : HoldsK pkCell 3 w g 0 gs.toArray := by
  obtain ⟨h1, h2⟩ := h
  rcases h2 with ⟨q, _⟩ | ⟨g', cap, cur, q, hB, hb, hn, hm, hs, ht⟩
  · cases q
  · simp only [Value.slice.injEq, Option.some.injEq, Addr.mk.injEq, and_true, true_and] at q
    obtain ⟨rfl, rfl⟩ := q
    unfold HoldsK
    rw [flat_pk]
    exact holds_own hb (by rw [pkC_len]; exact ht)
/-- a row that is sorted by number, of the datagrams of l: it is l -/
theorem sorted_is {lt : Pk → Pk → Bool} (hlt : ∀ x y, lt x y = decide (x.n < y.n)) {d d' : Array Pk} {l : List Pk} (hp : PermIn 0 d.size d d') (hs : SortedIn lt 0 d.size d') (hl : Up l) (hd : d.toList.Perm l) : d' = l.toArray := by
  have e : d'.toList.Perm d.toList := by
    have h3 := hp.2.2
    rw [Array.extract_size] at h3
    have e1 : d'.extract 0 d.size = d' := by rw [← hp.1, Array.extract_size]
    rwa [e1] at h3
  have hperm := e.trans hd
  have hsort : d'.toList.Pairwise fun p q => p.n ≤ q.n := by
    rw [List.pairwise_iff_getElem]
    intro i j hi hj hij
    have hi' : i < d'.size := by simpa using hi
    have hj' : j < d'.size := by simpa using hj
    have := hs i j (Nat.zero_le _) hij (by rw [← hp.1]; omega)
    rw [getElem!_pos d' j hj', getElem!_pos d' i hi', hlt] at this
    simp only [decide_eq_false_iff_not] at this
    simp only [Array.getElem_toList]; omega
  have hap : d'.toList.Pairwise fun p q => p.n ≠ q.n := (hperm.pairwise_iff (fun {a b} h => Ne.symm h)).2 hl.apart
  have hup : Up d'.toList := by
    have := hsort.and hap
    exact this.imp fun h => by omega
  have := up_perm hup hl hperm
  rw [← this]
end Go.Proofs.Ytobalbaieakcmaa
