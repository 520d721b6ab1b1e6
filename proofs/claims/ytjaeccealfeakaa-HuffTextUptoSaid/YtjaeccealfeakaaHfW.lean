/- Rows of words (two numbers each), of either type; blocks of numbers. -/
import Derived.Test.YtjaeccealfeakaaHfM
import Derived.Test.YtjaeccealfeakaaRowW
import Derived.Test.YtjaeccealfeakaaKeep
import Derived.Test.YtjaeccealfeakaaBe
import Derived.BigQuiet
namespace Go.Proofs.Ytjaeccealfeakaa
open Go.RowKit

def wdCell (s : Nat × Nat) : List Value := [.int .i64 (s.1 : Int), .int .i64 (s.2 : Int)]
def wdC (l : List (Nat × Nat)) : List Value := l.flatMap wdCell
theorem wdC_len (l : List (Nat × Nat)) : (wdC l).length = l.length * 2 := flat_len wdCell 2 (fun _ => rfl) l
theorem wdC_append (a b : List (Nat × Nat)) : wdC (a ++ b) = wdC a ++ wdC b := by simp [wdC]
theorem wdC_get0 (l : List (Nat × Nat)) (i : Nat) (hi : i < l.length) : (wdC l)[i * 2]? = some (.int .i64 (((l.getD i (0, 0)).1 : Nat) : Int)) := by
  have := flat_get wdCell 2 (fun _ => rfl) l i 0 hi (by omega)
  simp only [Nat.add_zero] at this
  rw [wdC, this]; simp [wdCell, List.getD, hi]
theorem wdC_get1 (l : List (Nat × Nat)) (i : Nat) (hi : i < l.length) : (wdC l)[i * 2 + 1]? = some (.int .i64 (((l.getD i (0, 0)).2 : Nat) : Int)) := by
  have := flat_get wdCell 2 (fun _ => rfl) l i 1 hi (by omega)
  rw [wdC, this]; simp [wdCell, List.getD, hi]
theorem wdC_one (l : List (Nat × Nat)) : ∀ u ∈ wdC l, u.oneCell' = true := by
  intro u hu
  obtain ⟨s, _, hs⟩ := List.mem_flatMap.1 hu
  simp only [wdCell, List.mem_cons, List.not_mem_nil, or_false] at hs
  rcases hs with rfl | rfl <;> rfl
theorem wdC_set (l : List (Nat × Nat)) (i : Nat) (s : Nat × Nat) : wdC (l.set i s) = ((wdC l).set (i * 2) (.int .i64 (s.1 : Int))).set (i * 2 + 1) (.int .i64 (s.2 : Int)) := by
  induction l generalizing i with
  | nil => simp [wdC]
  | cons x l ih =>
    cases i with
    | zero => simp [wdC, wdCell]
    | succ i =>
      have h := ih i
      simp only [wdC, List.set_cons_succ, List.flatMap_cons, wdCell] at h ⊢
      rw [h, show (i + 1) * 2 = i * 2 + 1 + 1 by omega]
      simp
theorem wdC_zero (n : Nat) : wdC (List.replicate n (0, 0)) = List.replicate (n * 2) (.int .i64 0) := by
  induction n with
  | zero => rfl
  | succ n ih =>
    rw [List.replicate_succ, wdC, List.flatMap_cons, ← wdC, ih]
    show List.replicate 2 (Value.int .i64 0) ++ _ = _
    rw [List.replicate_append_replicate]
    congr 1; omega
theorem madeCells_zero2 (k : IntKind) (n : Nat) : (madeCells #[Value.int k 0, .int k 0] n).toList = List.replicate n (.int k 0) := by
  apply List.ext_getElem
  · simp [madeCells]
  · intro i h1 h2
    have : i % 2 = 0 ∨ i % 2 = 1 := by omega
    rcases this with e | e <;> simp [madeCells, e]

/-- v READS AS THE WORDS l -/
def RdW (w : World) (v : Value) (l : List (Nat × Nat)) : Prop := RdC 2 w v l.length (wdC l)
/-- v IS A ROW OF THE CALL's OWN THAT HOLDS THE WORDS l -/
def OwnW (e : TypeId) (w : World) (B : Nat) (v : Value) (l : List (Nat × Nat)) : Prop := w.ownsRow B e 2 v l.length (wdC l)
theorem RdW.nil (w : World) : RdW w (.slice none 0 0) [] := RdC.nil 2 w
theorem OwnW.nil (e : TypeId) (w : World) (B : Nat) : OwnW e w B (.slice none 0 0) [] := World.ownsRow_nil w B _ 2
theorem OwnW.rd {e : TypeId} {w : World} {B : Nat} {v : Value} {l : List (Nat × Nat)} (h : OwnW e w B v l) : RdW w v l := RdC.of_owns h
theorem OwnW.kept {e : TypeId} {w w' : World} {B : Nat} {v : Value} {l : List (Nat × Nat)} {row : Option Nat} (h : OwnW e w B v l) (hg : w.grownBy w' row) (hne : ∀ j, v.ownBlock = some j → row ≠ some j) : OwnW e w' B v l := by
  refine World.ownsRow.kept h hg ?_
  cases hv : v.ownBlock with
  | none => exact .inl rfl
  | some j => exact .inr fun e => hne j hv e.symm
theorem OwnW.mono {e : TypeId} {w : World} {B B' : Nat} {v : Value} {l : List (Nat × Nat)} (h : OwnW e w B v l) (hb : B' ≤ B) : OwnW e w B' v l := by
  obtain ⟨h1, h2⟩ := h
  refine ⟨h1, ?_⟩
  rcases h2 with h2 | ⟨g, cap, cur, a1, a2, a3⟩
  · exact .inl h2
  · exact .inr ⟨g, cap, cur, a1, Nat.le_trans hb a2, a3⟩
theorem OwnW.below {e : TypeId} {w w' : World} {B : Nat} {v : Value} {l : List (Nat × Nat)} (h : OwnW e w B v l) (hb : Below w.heap.size w w') : OwnW e w' B v l := by
  obtain ⟨h1, h2⟩ := h
  refine ⟨h1, ?_⟩
  rcases h2 with h2 | ⟨g, cap, cur, a1, a2, a3, a4⟩
  · exact .inl h2
  · exact .inr ⟨g, cap, cur, a1, a2, by rw [hb.block g (Array.getElem?_eq_some_iff.1 a3).1]; exact a3, a4⟩
theorem OwnW.blk {e : TypeId} {w : World} {B : Nat} {v : Value} {l : List (Nat × Nat)} (h : OwnW e w B v l) : ∀ j, v.ownBlock = some j → B ≤ j := fun j hj => (World.ownsRow.lt h j hj).1
theorem OwnW.blt {e : TypeId} {w : World} {B : Nat} {v : Value} {l : List (Nat × Nat)} (h : OwnW e w B v l) : ∀ j, v.ownBlock = some j → j < w.heap.size := fun j hj => (World.ownsRow.lt h j hj).2
theorem OwnW.len {e : TypeId} {w : World} {B g n c : Nat} {l : List (Nat × Nat)} (h : OwnW e w B (.slice (some ⟨g, 0, none⟩) n c) l) : n = l.length := by
  rcases h.2 with ⟨q, _⟩ | ⟨g', cap', cur, q, _⟩
  · cases q
  · simp only [Value.slice.injEq] at q; exact q.2.1
theorem OwnW.at0 {e : TypeId} {w : World} {B g n c : Nat} {l : List (Nat × Nat)} (h : OwnW e w B (.slice (some ⟨g, 0, none⟩) n c) l) (i : Nat) (hi : i < l.length) : w.cell? ⟨g, i * 2, none⟩ = some (.int .i64 (((l.getD i (0, 0)).1 : Nat) : Int)) := by
  obtain rfl := h.len
  rw [World.ownsRow.cellAt h (i * 2) (by omega)]
  exact wdC_get0 l i hi
theorem OwnW.at1 {e : TypeId} {w : World} {B g n c : Nat} {l : List (Nat × Nat)} (h : OwnW e w B (.slice (some ⟨g, 0, none⟩) n c) l) (i : Nat) (hi : i < l.length) : w.cell? ⟨g, i * 2 + 1, none⟩ = some (.int .i64 (((l.getD i (0, 0)).2 : Nat) : Int)) := by
  obtain rfl := h.len
  rw [World.ownsRow.cellAt h (i * 2 + 1) (by omega)]
  exact wdC_get1 l i hi
theorem OwnW.fz {e : TypeId} {w : World} {B g n c : Nat} {l : List (Nat × Nat)} (h : OwnW e w B (.slice (some ⟨g, 0, none⟩) n c) l) (j : Nat) : w.frozen? ⟨g, j, none⟩ = false := by
  obtain rfl := h.len
  exact World.ownsRow.frozenAt h j
theorem OwnW.set {e : TypeId} {w : World} {B g n c : Nat} {l : List (Nat × Nat)} (h : OwnW e w B (.slice (some ⟨g, 0, none⟩) n c) l) (i x y : Nat) :
    OwnW e ((w.setCell ⟨g, i * 2, none⟩ (.int .i64 (x : Int))).setCell ⟨g, i * 2 + 1, none⟩ (.int .i64 (y : Int))) B (.slice (some ⟨g, 0, none⟩) n c) (l.set i (x, y)) := by
  obtain rfl := h.len
  have h1 := (World.ownsRow.stored h (i * 2) (.int .i64 (x : Int))).1
  have h2 := (World.ownsRow.stored h1 (i * 2 + 1) (.int .i64 (y : Int))).1
  unfold OwnW
  rw [List.length_set, wdC_set]
  exact h2
theorem OwnW.slice {e : TypeId} {w : World} {B : Nat} {v : Value} {l : List (Nat × Nat)} (h : OwnW e w B v l) : ∃ a c, v = .slice a l.length c ∧ l.length ≤ c ∧ c ≤ maxLen := RdC.isSlice h.rd
theorem OwnW.shape {e : TypeId} {w : World} {B n c : Nat} {a : Option Addr} {l : List (Nat × Nat)} (h : OwnW e w B (.slice a n c) l) (hl : 0 < l.length) : ∃ g, a = some ⟨g, 0, none⟩ ∧ B ≤ g ∧ g < w.heap.size := by
  rcases h.2 with ⟨q, h0⟩ | ⟨g', cap', cur, q, hb, hg, _⟩
  · omega
  · simp only [Value.slice.injEq] at q
    exact ⟨g', q.1, hb, (Array.getElem?_eq_some_iff.1 hg).1⟩
theorem RdW.cells {w : World} {b o n c : Nat} {ss : List (Nat × Nat)} (h : RdW w (.slice (some ⟨b, o, none⟩) n c) ss) (hn : n = ss.length) (k : Nat) (hk : k < ss.length) :
    w.cell? ⟨b, o + k * 2, none⟩ = some (.int .i64 (((ss.getD k (0, 0)).1 : Nat) : Int)) ∧ w.cell? ⟨b, o + k * 2 + 1, none⟩ = some (.int .i64 (((ss.getD k (0, 0)).2 : Nat) : Int)) := by
  subst hn
  exact ⟨RdC.cell h _ _ (wdC_get0 ss k hk) _ rfl, RdC.cell h _ _ (wdC_get1 ss k hk) _ (by omega)⟩
theorem RdW.form {w : World} {v : Value} {ss : List (Nat × Nat)} (h : RdW w v ss) (hs : 0 < ss.length) : ∃ b o c, v = .slice (some ⟨b, o, none⟩) ss.length c ∧ b < w.heap.size := by
  obtain ⟨_, ⟨h0, _⟩ | ⟨_, b, o, c, rfl, _, _, h4, _⟩⟩ := h
  · omega
  · exact ⟨b, o, c, rfl, h4⟩
theorem RdW.below {w w' : World} {v : Value} {ss : List (Nat × Nat)} (h : RdW w v ss) (hb : Below w.heap.size w w') : RdW w' v ss := RdC.below h hb
theorem RdW.isSlice {w : World} {v : Value} {ss : List (Nat × Nat)} (h : RdW w v ss) : ∃ a c, v = .slice a ss.length c ∧ ss.length ≤ c ∧ c ≤ maxLen := RdC.isSlice h
theorem elemW : ElemC Try.prog 44 2 16 (.agg #[.int .i64 0, .int .i64 0]) := ⟨info_parts (by kernel_rfl), rfl, by decide⟩
theorem elemRW : ElemC Try.prog 49 2 16 (.agg #[.int .i64 0, .int .i64 0]) := ⟨info_parts (by kernel_rfl), rfl, by decide⟩
theorem elemInt : Elem Try.prog 3 .i64 8 := ⟨Try.underlying3, info_parts (by kernel_rfl)⟩
theorem alloc_at (w : World) (o : Obj) : (w.alloc o).heap[w.heap.size]? = some o := by show (w.heap.push o)[w.heap.size]? = _; simp

/-- make([]Word, n): a row of n words of no bits -/
theorem wpList_make_words (w : World) {ops : Array Oper} {rest : List Oper} {o : Oper} {a : Act} {Q : Exit → Act → World → Prop} (hgd : o.guard = none) (l c : Operand) (t e : TypeId) (hop : o.op = Op.makeSlice t l c)
    (hE : ElemC Try.prog e 2 16 (.agg #[.int .i64 0, .int .i64 0])) (ht : Try.prog.underlying t = some (.slice e)) (n : Nat) (hl : a.eval l = .int .i64 (n : Int)) (hc : a.eval c = .int .i64 (n : Int)) (hn : n ≤ 256) (B : Nat) (hB : B ≤ w.heap.size)
    (hK : ∀ g w', B ≤ g → OwnW e w' B (.slice (some ⟨g, 0, none⟩) n n) (List.replicate n (0, 0)) → w.grownBy w' none → wpList Try.prog ops Q rest (a.put o.dst (.slice (some ⟨g, 0, none⟩) n n)) w') : wpList Try.prog ops Q (o :: rest) a w := by
  obtain ⟨i, hi, hz, hsz, hbs⟩ := hE.info
  have hr := run_make (P := Try.prog) w t e i (.agg #[.int .i64 0, .int .i64 0]) ht hi hz .i64 .i64 (n : Int) (n : Int) (by omega) (Int.le_refl _) (by rw [hbs]; omega) (by omega)
  refine wpList_plain hgd fun K hK' => ?_
  unfold Oper.wp
  simp [execOp, hop, hl, hc, hr, Result.andThen]
  have e1 : (madeCells (Value.cells (.agg #[.int .i64 0, .int .i64 0])) (n * i.size)).toList = wdC (List.replicate n (0, 0)) := by
    rw [hsz, wdC_zero]
    exact madeCells_zero2 .i64 (n * 2)
  have own := World.ownsRow_lit (base := B) (e := e) (size := 2) w (madeCells (Value.cells (.agg #[.int .i64 0, .int .i64 0])) (n * i.size)) n hB (by unfold maxLen; omega) (by rw [size_madeCells, hsz])
  rw [e1] at own
  refine hK' _ _ (hK w.heap.size _ hB ?_ (World.grownBy_alloc w _ none))
  show World.ownsRow _ B e 2 _ (List.replicate n (0, 0)).length _
  rw [List.length_replicate]
  exact own

/-! ### blocks of numbers: arrays -/
/-- the cells of numbers -/
def nC (l : List Nat) : List Value := l.map fun (n : Nat) => Value.int .i64 (n : Int)
theorem nC_get (l : List Nat) (i : Nat) (hi : i < l.length) : (nC l)[i]? = some (.int .i64 ((l.getD i 0 : Nat) : Int)) := by simp [nC, List.getD, hi]
theorem nC_set (l : List Nat) (i x : Nat) : nC (l.set i x) = (nC l).set i (.int .i64 (x : Int)) := by simp [nC, List.map_set]
/-- block g HOLDS THE NUMBERS l -/
def Nb (w : World) (g : Nat) (l : List Nat) : Prop := Cs w g (nC l)
theorem Nb.get {w : World} {g : Nat} {l : List Nat} (h : Nb w g l) (i : Nat) (hi : i < l.length) : w.cell? ⟨g, i, none⟩ = some (.int .i64 ((l.getD i 0 : Nat) : Int)) := Cs.get h i _ (nC_get l i hi)
theorem Nb.set {w : World} {g : Nat} {l : List Nat} (h : Nb w g l) (i x : Nat) : Nb (w.setCell ⟨g, i, none⟩ (.int .i64 (x : Int))) g (l.set i x) := by
  have := Cs.set h i (.int .i64 (x : Int))
  unfold Nb; rw [nC_set]; exact this
end Go.Proofs.Ytjaeccealfeakaa
