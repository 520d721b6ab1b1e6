/- The mathematics of play; blocks that are written over. -/
import Derived.Test.YtfcojlnbocncpaaRtI
import Derived.Test.YtfcojlnbocncpaaRow
set_option linter.unusedSimpArgs false
set_option linter.unusedVariables false
namespace Go.Proofs.Ytfcojlnbocncpaa
open Go.RowKit

def stepQ (d : Int) (q : St) (x : Int) : St := if (tickB x && tickB d) = true then (sampleE q x d).1 else q
def playQ (d : Int) (xs : List Int) : St := xs.foldl (stepQ d) nul
def takenL (d : Int) (xs : List Int) : List Int := xs.filter fun x => tickB x && tickB d

theorem sample_right {q : St} {n d : Int} (hr : rightB q = true) (ht : (tickB n && tickB d) = true) : rightB (sampleE q n d).1 = true ∧ (sampleE q n d).2 = 0 := by
  obtain ⟨h, l, s, v, t⟩ := q
  have hn : 0 ≤ n ∧ n ≤ 1099511627776 := by simp only [Bool.and_eq_true, tick_iff] at ht; exact ht.1
  have hd : 0 ≤ d ∧ d ≤ 1099511627776 := by simp only [Bool.and_eq_true, tick_iff] at ht; exact ht.2
  cases h
  · rw [sampleE_c hr ht]
    exact ⟨right_mk hn hn (by rw [Int.tdiv_eq_ediv_of_nonneg hn.1]; omega) hn (Int.le_refl _), rfl⟩
  · rw [sampleE_d hr ht]
    obtain ⟨hl, hs, hv, _, _⟩ := right_has hr rfl
    simp only at hl hs hv
    have hm : 0 ≤ lowI l n ∧ lowI l n ≤ n ∧ lowI l n ≤ 1099511627776 := by unfold lowI; split <;> omega
    have ha := adj_tick (n := n) (d := d) (l := lowI l n) hn.1 hn.2 hd.1 hm.1
    have hp := apart_tick (a := s) (b := adjI n d (lowI l n)) hs.1 hs.2 ha.1 ha.2
    refine ⟨right_mk ⟨hm.1, hm.2.2⟩ ?_ ?_ hn hm.2.1, rfl⟩
    · simp only
      rw [Int.tdiv_eq_ediv_of_nonneg (by omega)]; omega
    · simp only
      rw [Int.tdiv_eq_ediv_of_nonneg (by omega)]; omega
theorem step_right {d : Int} {q : St} {x : Int} (hr : rightB q = true) : rightB (stepQ d q x) = true := by
  unfold stepQ
  split
  · exact (sample_right hr ‹_›).1
  · exact hr
theorem fold_right {d : Int} (xs : List Int) : ∀ q, rightB q = true → rightB (xs.foldl (stepQ d) q) = true := by
  induction xs with
  | nil => intro q h; exact h
  | cons x xs ih => intro q h; exact ih _ (step_right h)
theorem play_right (d : Int) (xs : List Int) : rightB (playQ d xs) = true := fold_right xs _ right_nul
theorem play_more (d : Int) (xs : List Int) (k : Nat) (h : k < xs.length) : playQ d (xs.take (k + 1)) = stepQ d (playQ d (xs.take k)) (xs.getD k 0) := by
  rw [List.take_succ_eq_append_getElem h, playQ, List.foldl_append]
  simp [playQ, List.getD, h]
theorem taken_more (d : Int) (xs : List Int) (k : Nat) (h : k < xs.length) : takenL d (xs.take (k + 1)) = takenL d (xs.take k) ++ (if (tickB (xs.getD k 0) && tickB d) = true then [xs.getD k 0] else []) := by
  rw [List.take_succ_eq_append_getElem h, takenL, List.filter_append]
  congr 1
  simp only [List.getD, List.getElem?_eq_getElem h, Option.getD_some, List.filter_cons, List.filter_nil]
theorem taken_len (d : Int) (xs : List Int) : (takenL d xs).length ≤ xs.length := List.length_filter_le _ _
/-- where play stands -/
structure AtPlay (d : Int) (xs : List Int) (k : Nat) (h : Bool) (l s v t : Int) (ys : List Int) : Prop where
  st : playQ d (xs.take k) = ⟨h, l, s, v, t⟩
  tk : takenL d (xs.take k) = ys
  le : k ≤ xs.length
theorem AtPlay.right {d : Int} {xs : List Int} {k : Nat} {h : Bool} {l s v t : Int} {ys : List Int} (H : AtPlay d xs k h l s v t ys) : rightB ⟨h, l, s, v, t⟩ = true := H.st ▸ play_right d _
theorem AtPlay.few {d : Int} {xs : List Int} {k : Nat} {h : Bool} {l s v t : Int} {ys : List Int} (H : AtPlay d xs k h l s v t ys) : ys.length ≤ k := by
  have := taken_len d (xs.take k)
  rw [H.tk, List.length_take] at this
  omega
theorem AtPlay.skip {d : Int} {xs : List Int} {k : Nat} {h : Bool} {l s v t : Int} {ys : List Int} (H : AtPlay d xs k h l s v t ys) (hk : k < xs.length) (hx : (tickB (xs.getD k 0) && tickB d) = false) : AtPlay d xs (k + 1) h l s v t ys :=
  ⟨by rw [play_more d xs k hk, H.st, stepQ, hx]; rfl, by rw [taken_more d xs k hk, H.tk, hx]; simp, hk⟩
theorem AtPlay.more {d : Int} {xs : List Int} {k : Nat} {h h' : Bool} {l s v t l' s' v' t' e' : Int} {ys : List Int} (H : AtPlay d xs k h l s v t ys) (hk : k < xs.length) (hx : (tickB (xs.getD k 0) && tickB d) = true)
    (he : sampleE ⟨h, l, s, v, t⟩ (xs.getD k 0) d = (⟨h', l', s', v', t'⟩, e')) : AtPlay d xs (k + 1) h' l' s' v' t' (ys ++ [xs.getD k 0]) :=
  ⟨by rw [play_more d xs k hk, H.st, stepQ, if_pos hx, he], by rw [taken_more d xs k hk, H.tk, if_pos hx], hk⟩
theorem AtPlay.done {d : Int} {xs : List Int} {k : Nat} {h : Bool} {l s v t : Int} {ys : List Int} (H : AtPlay d xs k h l s v t ys) (hk : ¬ k < xs.length) : playQ d xs = ⟨h, l, s, v, t⟩ ∧ takenL d xs = ys := by
  have := H.st
  have h2 := H.tk
  rw [List.take_of_length_le (by omega)] at this h2
  exact ⟨this, h2⟩

theorem Held.other {b : Nat} {h : Bool} {l s v t : Int} {W : World} (H : Held b h l s v t W) {p : Addr} (hp : b ≠ p.block) (u : Value) : Held b h l s v t (W.setCell p u) := by
  obtain ⟨T, e⟩ := H
  exact ⟨T, by rw [Below.heap_setCell _ _ _ _ hp]; exact e⟩
theorem Held.others {b : Nat} {h : Bool} {l s v t : Int} {W : World} (H : Held b h l s v t W) (r : Nat) (hr : b ≠ r) (v0 v1 v2 v3 v4 : Value) : Held b h l s v t (((((W.setCell ⟨r, 0, none⟩ v0).setCell ⟨r, 1, none⟩ v1).setCell ⟨r, 2, none⟩ v2).setCell ⟨r, 3, none⟩ v3).setCell ⟨r, 4, none⟩ v4) :=
  ((((H.other (p := ⟨r, 0, none⟩) hr v0).other (p := ⟨r, 1, none⟩) hr v1).other (p := ⟨r, 2, none⟩) hr v2).other (p := ⟨r, 3, none⟩) hr v3).other (p := ⟨r, 4, none⟩) hr v4
theorem Held.grown {b : Nat} {h : Bool} {l s v t : Int} {W W' : World} {row : Option Nat} (H : Held b h l s v t W) (hg : W.grownBy W' row) (hr : row ≠ some b) : Held b h l s v t W' := by
  obtain ⟨T, e⟩ := H
  exact ⟨T, block_kept e hg hr⟩
theorem setCell_at (W : World) (b j : Nat) (u : Value) (c : Array Value) (T : TypeId) (fr : Nat × Nat) (h : W.heap[b]? = some (.cells c T fr)) : (W.setCell ⟨b, j, none⟩ u).heap[b]? = some (.cells (c.setIfInBounds j u) T fr) := by
  simp [World.setCell, Array.getElem?_modify, h]
theorem Held.set {b : Nat} {h : Bool} {l s v t : Int} {W : World} (H : Held b h l s v t W) (h' : Bool) (l' s' v' t' : Int) :
    Held b h' l' s' v' t' (((((W.setCell ⟨b, 0, none⟩ (.bool h')).setCell ⟨b, 1, none⟩ (.int .i64 l')).setCell ⟨b, 2, none⟩ (.int .i64 s')).setCell ⟨b, 3, none⟩ (.int .i64 v')).setCell ⟨b, 4, none⟩ (.int .i64 t')) := by
  obtain ⟨T, e⟩ := H
  refine ⟨T, ?_⟩
  rw [setCell_at _ _ _ _ _ _ _ (setCell_at _ _ _ _ _ _ _ (setCell_at _ _ _ _ _ _ _ (setCell_at _ _ _ _ _ _ _ (setCell_at _ _ _ _ _ _ _ e))))]
  simp
theorem own_five {w : World} {B : Nat} {v : Value} {xs : List Int} (h : Own .i64 3 w B v xs) (b : Nat) (hb : b < B) (v0 v1 v2 v3 v4 : Value) :
    Own .i64 3 (((((w.setCell ⟨b, 0, none⟩ v0).setCell ⟨b, 1, none⟩ v1).setCell ⟨b, 2, none⟩ v2).setCell ⟨b, 3, none⟩ v3).setCell ⟨b, 4, none⟩ v4) B v xs :=
  ownsRow_setCell_below (ownsRow_setCell_below (ownsRow_setCell_below (ownsRow_setCell_below (ownsRow_setCell_below h hb _) hb _) hb _) hb _) hb _
theorem elemInt : Elem Try.prog 3 .i64 8 := ⟨Try.underlying3, info_parts (by kernel_rfl)⟩

/-- WHAT play ANSWERS -/
def PlayIs (w : World) (d : Int) (xs : List Int) (e : Ending) (w' : World) : Prop :=
  ∃ u, e = .returned (.tuple #[.agg #[.bool (playQ d xs).h, .int .i64 (playQ d xs).l, .int .i64 (playQ d xs).s, .int .i64 (playQ d xs).v, .int .i64 (playQ d xs).t], u, .bool true]) ∧ Own .i64 3 w' w.heap.size u (takenL d xs) ∧ Below w.heap.size w w'
end Go.Proofs.Ytfcojlnbocncpaa
