/- Rows whose elements take m cells each (structs), cell by cell; rows kept through calls that write one block alone. -/
import Derived.Test.YtdfebmjincnfiaaDoorGen
import Derived.Deep.Slices
namespace Go.Proofs.YtdfebmjincnfiaaDoor
open Go.RowKit

/-- v READS AS n ELEMENTS OF m CELLS EACH; fl: all cells, one behind the other -/
def RdC (m : Nat) (w : World) (v : Value) (n : Nat) (fl : List Value) : Prop :=
  fl.length = n * m ∧
  ((n = 0 ∧ ∃ a c, v = .slice a 0 c ∧ c ≤ maxLen ∧ (a = none → c = 0)) ∨
   (0 < n ∧ ∃ b o c, v = .slice (some ⟨b, o, none⟩) n c ∧ n ≤ c ∧ c ≤ maxLen ∧ b < w.heap.size ∧ ∀ j u, fl[j]? = some u → w.cell? ⟨b, o + j, none⟩ = some u))

theorem RdC.nil (m : Nat) (w : World) : RdC m w (.slice none 0 0) 0 [] := ⟨by simp, .inl ⟨rfl, none, 0, rfl, by simp, fun _ => rfl⟩⟩
theorem RdC.isSlice {m n : Nat} {w : World} {v : Value} {fl : List Value} (h : RdC m w v n fl) : ∃ a c, v = .slice a n c ∧ n ≤ c ∧ c ≤ maxLen := by
  obtain ⟨_, ⟨rfl, a, c, rfl, hc, _⟩ | ⟨_, b, o, c, rfl, h2, h3, _⟩⟩ := h
  · exact ⟨_, _, rfl, Nat.zero_le _, hc⟩
  · exact ⟨_, _, rfl, h2, h3⟩
theorem RdC.kept {m n : Nat} {w w' : World} {v : Value} {fl : List Value} {row : Option Nat} (h : RdC m w v n fl) (hg : w.grownBy w' row) (hne : ∀ j, v.ownBlock = some j → row ≠ some j) : RdC m w' v n fl := by
  obtain ⟨h0, h | ⟨h1, b, o, c, rfl, h2, h3, h4, h5⟩⟩ := h
  · exact ⟨h0, .inl h⟩
  · exact ⟨h0, .inr ⟨h1, b, o, c, rfl, h2, h3, Nat.lt_of_lt_of_le h4 hg.size, fun j u hu => hg.cell (h5 j u hu) (fun e => hne b rfl e.symm)⟩⟩
theorem RdC.below {m n : Nat} {w w' : World} {v : Value} {fl : List Value} (h : RdC m w v n fl) (hb : Below w.heap.size w w') : RdC m w' v n fl := by
  obtain ⟨h0, h | ⟨h1, b, o, c, rfl, h2, h3, h4, h5⟩⟩ := h
  · exact ⟨h0, .inl h⟩
  · exact ⟨h0, .inr ⟨h1, b, o, c, rfl, h2, h3, Nat.lt_of_lt_of_le h4 hb.size, fun j u hu => (hb.cell (p := ⟨b, o + j, none⟩) h4).trans (h5 j u hu)⟩⟩
theorem RdC.blt {m n : Nat} {w : World} {v : Value} {fl : List Value} (h : RdC m w v n fl) (hn : 0 < n) : ∀ j, v.ownBlock = some j → j < w.heap.size := by
  intro j hj
  obtain ⟨_, ⟨rfl, _⟩ | ⟨_, b, o, c, rfl, h2, h3, h4, _⟩⟩ := h
  · omega
  · simp only [Value.ownBlock, Option.some.injEq] at hj; subst hj; exact h4
theorem RdC.of_owns {m n B e : Nat} {w : World} {v : Value} {fl : List Value} (h : w.ownsRow B e m v n fl) : RdC m w v n fl := by
  have h0 := h
  obtain ⟨hl, hc⟩ := h
  refine ⟨hl, ?_⟩
  rcases hc with ⟨rfl, rfl⟩ | ⟨g, cap, cur, rfl, hb, hg, hn, hm, hs, ht⟩
  · exact .inl ⟨rfl, none, 0, rfl, by simp, fun _ => rfl⟩
  · by_cases hx : n = 0
    · subst hx; exact .inl ⟨rfl, _, cap, rfl, hm, fun h => by cases h⟩
    · refine .inr ⟨by omega, g, 0, cap, rfl, hn, hm, (Array.getElem?_eq_some_iff.1 hg).1, fun j u hu => ?_⟩
      have := World.ownsRow.cells h0 (g := g) rfl j u hu
      rw [Addr.add_lit] at this
      exact this

theorem Rd.kept {k : IntKind} {w w' : World} {v : Value} {xs : List Int} {row : Option Nat} (h : Rd k w v xs) (hg : w.grownBy w' row) (hne : ∀ j, v.ownBlock = some j → row ≠ some j) : Rd k w' v xs := by
  rcases h with h | ⟨h1, b, o, c, rfl, h2, h3, h4, h5⟩
  · exact .inl h
  · exact .inr ⟨h1, b, o, c, rfl, h2, h3, Nat.lt_of_lt_of_le h4 hg.size, fun i hi => hg.cell (h5 i hi) (fun e => hne b rfl e.symm)⟩
theorem block_kept {w w' : World} {row : Option Nat} {b : Nat} {o : Obj} (h : w.heap[b]? = some o) (hg : w.grownBy w' row) (hne : row ≠ some b) : w'.heap[b]? = some o :=
  (hg.block b (Array.getElem?_eq_some_iff.1 h).1 (fun e => hne e.symm)).trans h
theorem grownBy_trans {a b c : World} {row : Option Nat} (h : a.grownBy b row) (k : b.grownBy c row) : a.grownBy c row :=
  ⟨k.os.trans h.os, k.tape.trans h.tape, k.output.trans h.output, Nat.le_trans h.size k.size, fun j hj hne => (k.block j (Nat.lt_of_lt_of_le hj h.size) hne).trans (h.block j hj hne)⟩
theorem grownBy_none {a b : World} {row : Option Nat} (h : a.grownBy b none) : a.grownBy b row := ⟨h.os, h.tape, h.output, h.size, fun j hj _ => h.block j hj (by simp)⟩
theorem grownBy_new {a b : World} {row : Option Nat} {j : Nat} (h : a.grownBy b (some j)) (hj : a.heap.size ≤ j) : a.grownBy b row :=
  ⟨h.os, h.tape, h.output, h.size, fun k hk _ => h.block k hk (fun e => by cases e; omega)⟩
theorem grownBy_of_below {a b : World} {row : Option Nat} (h : Below a.heap.size a b) : a.grownBy b row := ⟨h.os, h.tape, h.output, h.size, fun j hj _ => h.block j hj⟩
theorem grownBy_drewN {a b : World} {row : Option Nat} (h : a.grownBy b row) (n : Nat) : a.grownBy (b.drewN n) row := ⟨h.os, h.tape, h.output, h.size, h.block⟩
theorem grownBy_drew {a b : World} {row : Option Nat} (h : a.grownBy b row) : a.grownBy b.drew row := ⟨h.os, h.tape, h.output, h.size, h.block⟩
theorem grownBy_alloc' {a b : World} {row : Option Nat} (h : a.grownBy b row) (o : Obj) : a.grownBy (b.alloc o) row := grownBy_trans h (World.grownBy_alloc b o row)
theorem grownBy_set {a b : World} {row : Option Nat} (h : a.grownBy b row) (p : Addr) (v : Value) (hp : row = some p.block ∨ a.heap.size ≤ p.block) : a.grownBy (b.setCell p v) row := by
  have k : Below 0 b (b.setCell p v) := (Below.refl 0 b).setCell (Nat.zero_le _) v
  refine ⟨k.os.trans h.os, k.tape.trans h.tape, k.output.trans h.output, Nat.le_trans h.size k.size, fun j hj hne => ?_⟩
  rw [← h.block j hj hne]
  refine Below.heap_setCell _ _ _ _ ?_
  rcases hp with hp | hp
  · rw [hp] at hne; exact fun e => hne (by rw [e])
  · omega

/-- THE ELEMENT's ROW OF THE TABLE, a struct -/
structure ElemC (P : Program) (e : TypeId) (m bytes : Nat) (z : Value) : Prop where
  info : ∃ i, P.info? e = some i ∧ i.zero = some z ∧ i.size = m ∧ i.bytes = bytes
  size : z.cells.size = m
  pos : 0 < m

/-- append OF WHATEVER READS AS n MORE ELEMENTS ONTO A ROW OF THE CALL's OWN -/
theorem wpList_append_rows {P : Program} (w : World) {ops : Array Oper} {rest : List Oper} {o : Oper} {a : Act} {Q : Exit → Act → World → Prop} (hgd : o.guard = none) (s x : Operand) (t : TypeId)
    (ho : o.op = .call { callee := .builtin .append, args := #[s, x], argTypes := #[t, t] }) {e : TypeId} {m bytes : Nat} {z : Value} (hE : ElemC P e m bytes z) (ht : P.underlying t = some (.slice e))
    (B : Nat) (v : Value) (n : Nat) (fl : List Value) (hs : a.eval s = v) (hown : w.ownsRow B e m v n fl) (u : Value) (k : Nat) (gl : List Value) (hx : a.eval x = u) (hr : RdC m w u k gl) (hone : ∀ u ∈ gl, u.oneCell' = true)
    (hby : (n + k) * bytes ≤ 140737488355328) (h63 : n + k ≤ maxLen) (hB : B ≤ w.heap.size)
    (h : ∀ v' w', w'.ownsRow B e m v' (n + k) (fl ++ gl) → w.grownBy w' v.ownBlock → wpList P ops Q rest (a.put o.dst v') w') : wpList P ops Q (o :: rest) a w := by
  obtain ⟨i, hi, hz, hsz, hbs⟩ := hE.info
  obtain ⟨hlen, ⟨rfl, ad, c, rfl, hc, hn⟩ | ⟨h0, b, off, c, rfl, h2, h3, h4, h5⟩⟩ := hr
  · obtain rfl : gl = [] := List.eq_nil_of_length_eq_zero (by simpa using hlen)
    cases ad with
    | none =>
      obtain rfl := hn rfl
      refine wpList_plain hgd fun K hK => ?_
      have hrun := run_append_owned_none (P := P) w B t o.type e i m ht hi v n _ hown
      unfold Oper.wp
      simp only [execOp, ho, resolve, invoke, builtin, Sem.run_bind, Sem.run_pure, Result.andThen_ok, List.map_toArray, List.map_cons, List.map_nil, hs, hx, hrun]
      exact hK _ _ (h v w (by simpa using hown) (World.grownBy.refl w _))
    | some ad =>
      exact wpList_append_own w hgd s x t ho B e i z m bytes ht hi hz hsz hbs hE.size hE.pos v n _ hs hown ad 0 c [] hx (by simp) (fun j u hu => by simp at hu) (fun u hu => by simp at hu) (by simpa using h63) (by simpa using hby) hB
        fun v' w' a1 a2 _ => h v' w' a1 a2
  · exact wpList_append_own w hgd s x t ho B e i z m bytes ht hi hz hsz hbs hE.size hE.pos v n _ hs hown ⟨b, off, none⟩ k c gl hx hlen (fun j u hu => by rw [Addr.add_lit]; exact h5 j u hu) hone h63 hby hB
      fun v' w' a1 a2 _ => h v' w' a1 a2

/-- a list of elements of m cells each, laid flat -/
theorem flat_len {α : Type} (c : α → List Value) (m : Nat) (hc : ∀ x, (c x).length = m) (l : List α) : (l.flatMap c).length = l.length * m := by
  induction l with
  | nil => simp
  | cons x l ih => simp [hc, ih, Nat.succ_mul]; omega
theorem flat_get {α : Type} (c : α → List Value) (m : Nat) (hc : ∀ x, (c x).length = m) (l : List α) (i j : Nat) (hi : i < l.length) (hj : j < m) : (l.flatMap c)[i * m + j]? = (c l[i])[j]? := by
  induction l generalizing i with
  | nil => simp at hi
  | cons x l ih =>
    cases i with
    | zero => simp [List.getElem?_append_left, hc, hj]
    | succ i =>
      simp only [List.length_cons] at hi
      rw [List.flatMap_cons, List.getElem?_append_right (by rw [hc, Nat.succ_mul]; omega), hc, show (i + 1) * m + j - m = i * m + j by rw [Nat.succ_mul]; omega, ih i (by omega)]
      simp
theorem RdC.cell {m n : Nat} {w : World} {b o c : Nat} {fl : List Value} (h : RdC m w (.slice (some ⟨b, o, none⟩) n c) n fl) (q : Nat) (u : Value) (hu : fl[q]? = some u) (r : Nat) (hr : r = o + q) : w.cell? ⟨b, r, none⟩ = some u := by
  subst hr
  obtain ⟨h0, ⟨rfl, _⟩ | ⟨_, b', o', c', e, _, _, _, h5⟩⟩ := h
  · obtain rfl : fl = [] := List.eq_nil_of_length_eq_zero (by simpa using h0)
    simp at hu
  · simp only [Value.slice.injEq, Option.some.injEq, Addr.mk.injEq, and_true, true_and] at e
    obtain ⟨⟨rfl, rfl⟩, rfl⟩ := e
    exact h5 q u hu

/-- append OF WHATEVER READS AS ys ONTO A ROW OF THE CALL's OWN, as one operation -/
theorem wp_append_rd {P : Program} (w : World) {o : Oper} {a : Act} {K : Act → World → Prop} {Q : Exit → Act → World → Prop} (s x : Operand) (t : TypeId)
    (ho : o.op = .call { callee := .builtin .append, args := #[s, x], argTypes := #[t, t] }) {e : TypeId} {k : IntKind} {bytes : Nat} (hE : Elem P e k bytes) (ht : P.underlying t = some (.slice e))
    (B : Nat) (v : Value) (xs : List Int) (hs : a.eval s = v) (hown : Own k e w B v xs) (u : Value) (ys : List Int) (hx : a.eval x = u) (hr : Rd k w u ys)
    (hby : (xs.length + ys.length) * bytes ≤ 140737488355328) (h63 : xs.length + ys.length ≤ maxLen) (hB : B ≤ w.heap.size)
    (h : ∀ v' w', Own k e w' B v' (xs ++ ys) → w.grownBy w' v.ownBlock → K (a.put o.dst v') w') : o.wp P a w K Q := by
  obtain ⟨i, hi, hz, hsz, hbs⟩ := hE.info
  have fin : ∀ v' w', w'.ownsRow B e 1 v' (xs.length + ys.length) (xs.map (Value.int k) ++ ys.map (Value.int k)) → w.grownBy w' v.ownBlock → K (a.put o.dst v') w' :=
    fun v' w' h1 h2 => h v' w' (show w'.ownsRow B e 1 v' (xs ++ ys).length _ by rw [List.length_append, List.map_append]; exact h1) h2
  rcases hr with ⟨rfl, ad, c, rfl, hc, hn⟩ | ⟨h0, b, off, c, rfl, h2, h3, h4, h5⟩
  · cases ad with
    | none =>
      obtain rfl := hn rfl
      have hrun := run_append_owned_none (P := P) w B t o.type e i 1 ht hi v xs.length _ hown
      unfold Oper.wp
      simp only [execOp, ho, resolve, invoke, builtin, Sem.run_bind, Sem.run_pure, Result.andThen_ok, List.map_toArray, List.map_cons, List.map_nil, hs, hx, hrun]
      exact fin v w (by simpa [Own] using hown) (World.grownBy.refl w _)
    | some ad =>
      exact wp_append_own w s x t ho B e i (.int k 0) 1 bytes ht hi hz hsz hbs rfl (by omega) v xs.length _ hs hown ad 0 c [] hx rfl (fun j u hu => by simp at hu) (fun u hu => by simp at hu) (by simpa using h63) (by simpa using hby) hB
        fun v' w' a1 a2 _ => fin v' w' (by simpa using a1) a2
  · exact wp_append_own w s x t ho B e i (.int k 0) 1 bytes ht hi hz hsz hbs rfl (by omega) v xs.length _ hs hown ⟨b, off, none⟩ ys.length c (ys.map (Value.int k)) hx (by simp) (Rd.src h5) (ints_oneCell k ys) h63 hby hB
      fun v' w' a1 a2 _ => fin v' w' a1 a2
/-- the same in a region that draws its order -/
theorem step_append_rd {P : Program} {ops : Array Oper} {w : World} {o : Oper} {a : Act} {K : Act → World → Prop} {Q : Exit → Act → World → Prop} {E : Prop} (hgd : o.guard = none) (s x : Operand) (t : TypeId)
    (ho : o.op = .call { callee := .builtin .append, args := #[s, x], argTypes := #[t, t] }) {e : TypeId} {k : IntKind} {bytes : Nat} (hE : Elem P e k bytes) (ht : P.underlying t = some (.slice e))
    (B : Nat) (v : Value) (xs : List Int) (hs : a.eval s = v) (hown : Own k e w B v xs) (u : Value) (ys : List Int) (hx : a.eval x = u) (hr : Rd k w u ys)
    (hby : (xs.length + ys.length) * bytes ≤ 140737488355328) (h63 : xs.length + ys.length ≤ maxLen) (hB : B ≤ w.heap.size)
    (h : ∀ v' w', Own k e w' B v' (xs ++ ys) → w.grownBy w' v.ownBlock → K (a.put o.dst v') w') : if Region.wanted o (yielded ops a.tmps) = true then Oper.wp P o a w K Q else E := by
  rw [if_pos (by simp [Region.wanted, hgd])]
  exact wp_append_rd w s x t ho hE ht B v xs hs hown u ys hx hr hby h63 hB h

/-- a part of a slice -/
theorem Rd.cut {k : IntKind} {w : World} {b o n c : Nat} {xs : List Int} (h : Rd k w (.slice (some ⟨b, o, none⟩) n c) xs) (i m : Nat) (him : i + m ≤ n) (ao : Option Addr) (hao : ¬ c = i → ao = some ⟨b, o + i, none⟩) (hn : ao ≠ none) : Rd k w (.slice ao m (c - i)) ((xs.drop i).take m) := by
  have hl : n = xs.length ∧ n ≤ c ∧ c ≤ maxLen := by
    rcases h with ⟨rfl, a, c', q, hc, _⟩ | ⟨h0, b', o', c', q, h2, h3, h4, h5⟩
    · simp only [Value.slice.injEq] at q; obtain ⟨_, rfl, rfl⟩ := q; exact ⟨rfl, Nat.zero_le _, hc⟩
    · simp only [Value.slice.injEq] at q; obtain ⟨_, rfl, rfl⟩ := q; exact ⟨rfl, h2, h3⟩
  obtain ⟨rfl, hc, hm⟩ := hl
  have hlen : ((xs.drop i).take m).length = m := by rw [List.length_take, List.length_drop]; omega
  by_cases hm0 : m = 0
  · subst hm0
    exact .inl ⟨by simp, ao, c - i, rfl, by omega, fun h => absurd h hn⟩
  · rw [hao (by omega)]
    rcases h with ⟨rfl, _⟩ | ⟨h0, b', o', c', q, h2, h3, h4, h5⟩
    · simp at him; omega
    · simp only [Value.slice.injEq, Option.some.injEq, Addr.mk.injEq, and_true, true_and] at q
      obtain ⟨⟨rfl, rfl⟩, rfl⟩ := q
      refine .inr ⟨fun h => hm0 (by rw [← hlen, h]; rfl), b, o + i, c - i, by rw [hlen], by rw [hlen]; omega, by omega, h4, fun j hj => ?_⟩
      rw [hlen] at hj
      rw [show o + i + j = o + (i + j) by omega, h5 (i + j) (by omega)]
      simp [List.getD, hj]

/-- append of elements onto a row of the call's own, as one operation -/
theorem wp_append_rows {P : Program} (w : World) {o : Oper} {a : Act} {K : Act → World → Prop} {Q : Exit → Act → World → Prop} (s x : Operand) (t : TypeId)
    (ho : o.op = .call { callee := .builtin .append, args := #[s, x], argTypes := #[t, t] }) {e : TypeId} {m bytes : Nat} {z : Value} (hE : ElemC P e m bytes z) (ht : P.underlying t = some (.slice e))
    (B : Nat) (v : Value) (n : Nat) (fl : List Value) (hs : a.eval s = v) (hown : w.ownsRow B e m v n fl) (u : Value) (k : Nat) (gl : List Value) (hx : a.eval x = u) (hr : RdC m w u k gl) (hone : ∀ u ∈ gl, u.oneCell' = true)
    (hby : (n + k) * bytes ≤ 140737488355328) (h63 : n + k ≤ maxLen) (hB : B ≤ w.heap.size)
    (h : ∀ v' w', w'.ownsRow B e m v' (n + k) (fl ++ gl) → w.grownBy w' v.ownBlock → K (a.put o.dst v') w') : o.wp P a w K Q := by
  obtain ⟨i, hi, hz, hsz, hbs⟩ := hE.info
  obtain ⟨hlen, ⟨rfl, ad, c, rfl, hc, hn⟩ | ⟨h0, b, off, c, rfl, h2, h3, h4, h5⟩⟩ := hr
  · obtain rfl : gl = [] := List.eq_nil_of_length_eq_zero (by simpa using hlen)
    cases ad with
    | none =>
      obtain rfl := hn rfl
      have hrun := run_append_owned_none (P := P) w B t o.type e i m ht hi v n _ hown
      unfold Oper.wp
      simp only [execOp, ho, resolve, invoke, builtin, Sem.run_bind, Sem.run_pure, Result.andThen_ok, List.map_toArray, List.map_cons, List.map_nil, hs, hx, hrun]
      exact h v w (by simpa using hown) (World.grownBy.refl w _)
    | some ad =>
      exact wp_append_own w s x t ho B e i z m bytes ht hi hz hsz hbs hE.size hE.pos v n _ hs hown ad 0 c [] hx (by simp) (fun j u hu => by simp at hu) (fun u hu => by simp at hu) (by simpa using h63) (by simpa using hby) hB
        fun v' w' a1 a2 _ => h v' w' a1 a2
  · exact wp_append_own w s x t ho B e i z m bytes ht hi hz hsz hbs hE.size hE.pos v n _ hs hown ⟨b, off, none⟩ k c gl hx hlen (fun j u hu => by rw [Addr.add_lit]; exact h5 j u hu) hone h63 hby hB
      fun v' w' a1 a2 _ => h v' w' a1 a2
theorem step_append_rows {P : Program} {ops : Array Oper} {w : World} {o : Oper} {a : Act} {K : Act → World → Prop} {Q : Exit → Act → World → Prop} {E : Prop} (hgd : o.guard = none) (s x : Operand) (t : TypeId)
    (ho : o.op = .call { callee := .builtin .append, args := #[s, x], argTypes := #[t, t] }) {e : TypeId} {m bytes : Nat} {z : Value} (hE : ElemC P e m bytes z) (ht : P.underlying t = some (.slice e))
    (B : Nat) (v : Value) (n : Nat) (fl : List Value) (hs : a.eval s = v) (hown : w.ownsRow B e m v n fl) (u : Value) (k : Nat) (gl : List Value) (hx : a.eval x = u) (hr : RdC m w u k gl) (hone : ∀ u ∈ gl, u.oneCell' = true)
    (hby : (n + k) * bytes ≤ 140737488355328) (h63 : n + k ≤ maxLen) (hB : B ≤ w.heap.size)
    (h : ∀ v' w', w'.ownsRow B e m v' (n + k) (fl ++ gl) → w.grownBy w' v.ownBlock → K (a.put o.dst v') w') : if Region.wanted o (yielded ops a.tmps) = true then Oper.wp P o a w K Q else E := by
  rw [if_pos (by simp [Region.wanted, hgd])]
  exact wp_append_rows w s x t ho hE ht B v n fl hs hown u k gl hx hr hone hby h63 hB h
/-- one element just built reads as its cells -/
theorem RdC.built (m : Nat) (w : World) (cs : Array Value) (e : TypeId) (hm : cs.size = m) : RdC m (w.alloc (.cells cs e)) (.slice (some ⟨w.heap.size, 0, none⟩) 1 1) 1 cs.toList := by
  refine ⟨by simpa using hm, .inr ⟨by omega, w.heap.size, 0, 1, rfl, Nat.le_refl _, by simp [maxLen], by simp, fun j u hu => ?_⟩⟩
  rw [World.cell?_alloc_at _ _ _ _ rfl, Nat.zero_add]
  simpa using hu
end Go.Proofs.YtdfebmjincnfiaaDoor
