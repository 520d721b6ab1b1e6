/- Walks of layer 6: the wait for a loss. -/
import Derived.Test.YtfcojlnbocncpaaRtC
set_option linter.unusedSimpArgs false
set_option linter.unusedVariables false
namespace Go.Proofs.Ytfcojlnbocncpaa
open Go.RowKit

theorem lossE_a {h : Bool} {l s v t : Int} (hr : rightB ⟨h, l, s, v, t⟩ = false) : lossE ⟨h, l, s, v, t⟩ = (0, 1) := by rw [lossE, hr]; rfl
theorem lossE_b {l s v t : Int} (hr : rightB ⟨false, l, s, v, t⟩ = true) : lossE ⟨false, l, s, v, t⟩ = (112, 0) := by rw [lossE, hr]; rfl
theorem lossE_c {l s v t : Int} (hr : rightB ⟨true, l, s, v, t⟩ = true) : lossE ⟨true, l, s, v, t⟩ = (highI ((9 * highI s t).tdiv 8) 1, 0) := by rw [lossE, hr]; rfl

set_option maxHeartbeats 400000 in
theorem loss_a (h : Bool) (l s v t : Int) (w : World) (hr : rightB ⟨h, l, s, v, t⟩ = false) :
    Calls Try.prog 18 #[.agg #[.bool h, .int .i64 l, .int .i64 s, .int .i64 v, .int .i64 t]] w fun e w' => e = .returned (.tuple #[.int .i64 0, .int .i64 1]) ∧ Below w.heap.size w w' := by
  have B := Lib.hid ((Below.refl w.heap.size w).alloc (Nat.le_refl _) (.cells #[.bool h, .int .i64 l, .int .i64 s, .int .i64 v, .int .i64 t] 24))
  have HP := Lib.hid (held_last h l s v t 24 w)
  have R := Lib.hid (fun w => right_b h l s v t _ hr w)
  clear hr
  go_enter Try.func18, Try.ntmps18
  go_wp2_with fail
  refine (R.out _).mono ?_
  rintro e w2 ⟨rfl, hb2⟩
  have BB := Lib.hid (B.out.trans (hb2.mono B.out.size))
  obtain ⟨p0, p1, p2, p3, p4⟩ := (HP.out.below hb2).facts
  clear R hb2 B HP
  go_wp2
  go_ret2
  exact ⟨rfl, BB.out⟩

set_option maxHeartbeats 400000 in
theorem loss_b (l s v t : Int) (w : World) (hr : rightB ⟨false, l, s, v, t⟩ = true) :
    Calls Try.prog 18 #[.agg #[.bool false, .int .i64 l, .int .i64 s, .int .i64 v, .int .i64 t]] w fun e w' => e = .returned (.tuple #[.int .i64 112, .int .i64 0]) ∧ Below w.heap.size w w' := by
  have B := Lib.hid ((Below.refl w.heap.size w).alloc (Nat.le_refl _) (.cells #[.bool false, .int .i64 l, .int .i64 s, .int .i64 v, .int .i64 t] 24))
  have HP := Lib.hid (held_last false l s v t 24 w)
  have R := Lib.hid (fun w => right_b false l s v t _ hr w)
  clear hr
  go_enter Try.func18, Try.ntmps18
  go_wp2_with fail
  refine (R.out _).mono ?_
  rintro e w2 ⟨rfl, hb2⟩
  have BB := Lib.hid (B.out.trans (hb2.mono B.out.size))
  obtain ⟨p0, p1, p2, p3, p4⟩ := (HP.out.below hb2).facts
  clear R hb2 B HP
  go_wp2
  go_ret2
  exact ⟨rfl, BB.out⟩

set_option maxHeartbeats 400000 in
theorem loss_c1 (l s v t q : Int) (w : World) (hr : rightB ⟨true, l, s, v, t⟩ = true) (hA : s < t) (hq : q = (9 * t).tdiv 8) (hC : q < 1) :
    Calls Try.prog 18 #[.agg #[.bool true, .int .i64 l, .int .i64 s, .int .i64 v, .int .i64 t]] w fun e w' => e = .returned (.tuple #[.int .i64 1, .int .i64 0]) ∧ Below w.heap.size w w' := by
  obtain ⟨hl, hs, hv, ht, _⟩ := right_has hr rfl
  simp only at hl hs hv ht
  have w1 : IntKind.i64.wrap (9 * t) = 9 * t := wraps_i64' _ (by omega) (by omega)
  have w2 : IntKind.i64.wrap ((9 * t).tdiv 8) = q := by
    rw [hq, Int.tdiv_eq_ediv_of_nonneg (by omega)]; exact wraps_i64' _ (by omega) (by omega)
  clear hl hs hv ht hq
  have B := Lib.hid ((Below.refl w.heap.size w).alloc (Nat.le_refl _) (.cells #[.bool true, .int .i64 l, .int .i64 s, .int .i64 v, .int .i64 t] 24))
  have HP := Lib.hid (held_last true l s v t 24 w)
  have R := Lib.hid (fun w => right_b true l s v t _ hr w)
  clear hr
  go_enter Try.func18, Try.ntmps18
  go_wp2_with fail
  refine (R.out _).mono ?_
  rintro e w2 ⟨rfl, hb2⟩
  have BB := Lib.hid (B.out.trans (hb2.mono B.out.size))
  obtain ⟨p0, p1, p2, p3, p4⟩ := (HP.out.below hb2).facts
  clear R hb2 B HP
  go_wp2
  go_ret2
  exact ⟨rfl, BB.out⟩

set_option maxHeartbeats 400000 in
theorem loss_c2 (l s v t q : Int) (w : World) (hr : rightB ⟨true, l, s, v, t⟩ = true) (hA : s < t) (hq : q = (9 * t).tdiv 8) (hC : ¬ q < 1) :
    Calls Try.prog 18 #[.agg #[.bool true, .int .i64 l, .int .i64 s, .int .i64 v, .int .i64 t]] w fun e w' => e = .returned (.tuple #[.int .i64 q, .int .i64 0]) ∧ Below w.heap.size w w' := by
  obtain ⟨hl, hs, hv, ht, _⟩ := right_has hr rfl
  simp only at hl hs hv ht
  have w1 : IntKind.i64.wrap (9 * t) = 9 * t := wraps_i64' _ (by omega) (by omega)
  have w2 : IntKind.i64.wrap ((9 * t).tdiv 8) = q := by
    rw [hq, Int.tdiv_eq_ediv_of_nonneg (by omega)]; exact wraps_i64' _ (by omega) (by omega)
  clear hl hs hv ht hq
  have B := Lib.hid ((Below.refl w.heap.size w).alloc (Nat.le_refl _) (.cells #[.bool true, .int .i64 l, .int .i64 s, .int .i64 v, .int .i64 t] 24))
  have HP := Lib.hid (held_last true l s v t 24 w)
  have R := Lib.hid (fun w => right_b true l s v t _ hr w)
  clear hr
  go_enter Try.func18, Try.ntmps18
  go_wp2_with fail
  refine (R.out _).mono ?_
  rintro e w2 ⟨rfl, hb2⟩
  have BB := Lib.hid (B.out.trans (hb2.mono B.out.size))
  obtain ⟨p0, p1, p2, p3, p4⟩ := (HP.out.below hb2).facts
  clear R hb2 B HP
  go_wp2
  go_ret2
  exact ⟨rfl, BB.out⟩

set_option maxHeartbeats 400000 in
theorem loss_c3 (l s v t q : Int) (w : World) (hr : rightB ⟨true, l, s, v, t⟩ = true) (hA : ¬ s < t) (hq : q = (9 * s).tdiv 8) (hC : q < 1) :
    Calls Try.prog 18 #[.agg #[.bool true, .int .i64 l, .int .i64 s, .int .i64 v, .int .i64 t]] w fun e w' => e = .returned (.tuple #[.int .i64 1, .int .i64 0]) ∧ Below w.heap.size w w' := by
  obtain ⟨hl, hs, hv, ht, _⟩ := right_has hr rfl
  simp only at hl hs hv ht
  have w1 : IntKind.i64.wrap (9 * s) = 9 * s := wraps_i64' _ (by omega) (by omega)
  have w2 : IntKind.i64.wrap ((9 * s).tdiv 8) = q := by
    rw [hq, Int.tdiv_eq_ediv_of_nonneg (by omega)]; exact wraps_i64' _ (by omega) (by omega)
  clear hl hs hv ht hq
  have B := Lib.hid ((Below.refl w.heap.size w).alloc (Nat.le_refl _) (.cells #[.bool true, .int .i64 l, .int .i64 s, .int .i64 v, .int .i64 t] 24))
  have HP := Lib.hid (held_last true l s v t 24 w)
  have R := Lib.hid (fun w => right_b true l s v t _ hr w)
  clear hr
  go_enter Try.func18, Try.ntmps18
  go_wp2_with fail
  refine (R.out _).mono ?_
  rintro e w2 ⟨rfl, hb2⟩
  have BB := Lib.hid (B.out.trans (hb2.mono B.out.size))
  obtain ⟨p0, p1, p2, p3, p4⟩ := (HP.out.below hb2).facts
  clear R hb2 B HP
  go_wp2
  go_ret2
  exact ⟨rfl, BB.out⟩

set_option maxHeartbeats 400000 in
theorem loss_c4 (l s v t q : Int) (w : World) (hr : rightB ⟨true, l, s, v, t⟩ = true) (hA : ¬ s < t) (hq : q = (9 * s).tdiv 8) (hC : ¬ q < 1) :
    Calls Try.prog 18 #[.agg #[.bool true, .int .i64 l, .int .i64 s, .int .i64 v, .int .i64 t]] w fun e w' => e = .returned (.tuple #[.int .i64 q, .int .i64 0]) ∧ Below w.heap.size w w' := by
  obtain ⟨hl, hs, hv, ht, _⟩ := right_has hr rfl
  simp only at hl hs hv ht
  have w1 : IntKind.i64.wrap (9 * s) = 9 * s := wraps_i64' _ (by omega) (by omega)
  have w2 : IntKind.i64.wrap ((9 * s).tdiv 8) = q := by
    rw [hq, Int.tdiv_eq_ediv_of_nonneg (by omega)]; exact wraps_i64' _ (by omega) (by omega)
  clear hl hs hv ht hq
  have B := Lib.hid ((Below.refl w.heap.size w).alloc (Nat.le_refl _) (.cells #[.bool true, .int .i64 l, .int .i64 s, .int .i64 v, .int .i64 t] 24))
  have HP := Lib.hid (held_last true l s v t 24 w)
  have R := Lib.hid (fun w => right_b true l s v t _ hr w)
  clear hr
  go_enter Try.func18, Try.ntmps18
  go_wp2_with fail
  refine (R.out _).mono ?_
  rintro e w2 ⟨rfl, hb2⟩
  have BB := Lib.hid (B.out.trans (hb2.mono B.out.size))
  obtain ⟨p0, p1, p2, p3, p4⟩ := (HP.out.below hb2).facts
  clear R hb2 B HP
  go_wp2
  go_ret2
  exact ⟨rfl, BB.out⟩

theorem loss_any (h : Bool) (l s v t : Int) (w : World) :
    Calls Try.prog 18 #[.agg #[.bool h, .int .i64 l, .int .i64 s, .int .i64 v, .int .i64 t]] w fun e w' => e = .returned (.tuple #[.int .i64 (lossE ⟨h, l, s, v, t⟩).1, .int .i64 (lossE ⟨h, l, s, v, t⟩).2]) ∧ Below w.heap.size w w' := by
  cases hr : rightB ⟨h, l, s, v, t⟩
  · rw [lossE_a hr]; exact loss_a h l s v t w hr
  cases h
  · rw [lossE_b hr]; exact loss_b l s v t w hr
  · rw [lossE_c hr]
    by_cases hA : s < t
    · rw [show highI s t = t from if_pos hA]
      by_cases hC : (9 * t).tdiv 8 < 1
      · rw [show highI ((9 * t).tdiv 8) 1 = 1 from if_pos hC]; exact loss_c1 l s v t _ w hr hA rfl hC
      · rw [show highI ((9 * t).tdiv 8) 1 = (9 * t).tdiv 8 from if_neg hC]; exact loss_c2 l s v t _ w hr hA rfl hC
    · rw [show highI s t = s from if_neg hA]
      by_cases hC : (9 * s).tdiv 8 < 1
      · rw [show highI ((9 * s).tdiv 8) 1 = 1 from if_pos hC]; exact loss_c3 l s v t _ w hr hA rfl hC
      · rw [show highI ((9 * s).tdiv 8) 1 = (9 * s).tdiv 8 from if_neg hC]; exact loss_c4 l s v t _ w hr hA rfl hC

set_option maxHeartbeats 400000 in
theorem rloss_a (h : Bool) (l s v t : Int) (w : World) (hr : rightB ⟨h, l, s, v, t⟩ = false) :
    Calls Try.prog 19 #[.agg #[.bool h, .int .i64 l, .int .i64 s, .int .i64 v, .int .i64 t]] w fun e w' => e = .returned (.tuple #[.int .i64 0, .int .i64 1]) ∧ Below w.heap.size w w' := by
  have B := Lib.hid ((Below.refl w.heap.size w).alloc (Nat.le_refl _) (.cells #[.bool h, .int .i64 l, .int .i64 s, .int .i64 v, .int .i64 t] 23))
  have HP := Lib.hid (held_last h l s v t 23 w)
  have R := Lib.hid (fun w => rright_b h l s v t _ hr w)
  clear hr
  go_enter Try.func19, Try.ntmps19
  go_wp2_with fail
  refine (R.out _).mono ?_
  rintro e w2 ⟨rfl, hb2⟩
  have BB := Lib.hid (B.out.trans (hb2.mono B.out.size))
  obtain ⟨p0, p1, p2, p3, p4⟩ := (HP.out.below hb2).facts
  clear R hb2 B HP
  go_wp2
  go_ret2
  exact ⟨rfl, BB.out⟩

set_option maxHeartbeats 400000 in
theorem rloss_b (l s v t : Int) (w : World) (hr : rightB ⟨false, l, s, v, t⟩ = true) :
    Calls Try.prog 19 #[.agg #[.bool false, .int .i64 l, .int .i64 s, .int .i64 v, .int .i64 t]] w fun e w' => e = .returned (.tuple #[.int .i64 112, .int .i64 0]) ∧ Below w.heap.size w w' := by
  have B := Lib.hid ((Below.refl w.heap.size w).alloc (Nat.le_refl _) (.cells #[.bool false, .int .i64 l, .int .i64 s, .int .i64 v, .int .i64 t] 23))
  have HP := Lib.hid (held_last false l s v t 23 w)
  have R := Lib.hid (fun w => rright_b false l s v t _ hr w)
  clear hr
  go_enter Try.func19, Try.ntmps19
  go_wp2_with fail
  refine (R.out _).mono ?_
  rintro e w2 ⟨rfl, hb2⟩
  have BB := Lib.hid (B.out.trans (hb2.mono B.out.size))
  obtain ⟨p0, p1, p2, p3, p4⟩ := (HP.out.below hb2).facts
  clear R hb2 B HP
  go_wp2
  go_ret2
  exact ⟨rfl, BB.out⟩

set_option maxHeartbeats 400000 in
theorem rloss_c1 (l s v t q : Int) (w : World) (hr : rightB ⟨true, l, s, v, t⟩ = true) (hA : s < t) (hq : q = (9 * t).tdiv 8) (hC : q < 1) :
    Calls Try.prog 19 #[.agg #[.bool true, .int .i64 l, .int .i64 s, .int .i64 v, .int .i64 t]] w fun e w' => e = .returned (.tuple #[.int .i64 1, .int .i64 0]) ∧ Below w.heap.size w w' := by
  obtain ⟨hl, hs, hv, ht, _⟩ := right_has hr rfl
  simp only at hl hs hv ht
  have w1 : IntKind.i64.wrap (t * 9) = t * 9 := wraps_i64' _ (by omega) (by omega)
  have w2 : IntKind.i64.wrap ((t * 9).tdiv 8) = q := by
    rw [hq, Int.mul_comm 9 t, Int.tdiv_eq_ediv_of_nonneg (by omega)]; exact wraps_i64' _ (by omega) (by omega)
  clear hl hs hv ht hq
  have B := Lib.hid ((Below.refl w.heap.size w).alloc (Nat.le_refl _) (.cells #[.bool true, .int .i64 l, .int .i64 s, .int .i64 v, .int .i64 t] 23))
  have HP := Lib.hid (held_last true l s v t 23 w)
  have R := Lib.hid (fun w => rright_b true l s v t _ hr w)
  clear hr
  go_enter Try.func19, Try.ntmps19
  go_wp2_with fail
  refine (R.out _).mono ?_
  rintro e w2 ⟨rfl, hb2⟩
  have BB := Lib.hid (B.out.trans (hb2.mono B.out.size))
  obtain ⟨p0, p1, p2, p3, p4⟩ := (HP.out.below hb2).facts
  clear R hb2 B HP
  go_wp2
  go_ret2
  exact ⟨rfl, BB.out⟩

set_option maxHeartbeats 400000 in
theorem rloss_c2 (l s v t q : Int) (w : World) (hr : rightB ⟨true, l, s, v, t⟩ = true) (hA : s < t) (hq : q = (9 * t).tdiv 8) (hC : ¬ q < 1) :
    Calls Try.prog 19 #[.agg #[.bool true, .int .i64 l, .int .i64 s, .int .i64 v, .int .i64 t]] w fun e w' => e = .returned (.tuple #[.int .i64 q, .int .i64 0]) ∧ Below w.heap.size w w' := by
  obtain ⟨hl, hs, hv, ht, _⟩ := right_has hr rfl
  simp only at hl hs hv ht
  have w1 : IntKind.i64.wrap (t * 9) = t * 9 := wraps_i64' _ (by omega) (by omega)
  have w2 : IntKind.i64.wrap ((t * 9).tdiv 8) = q := by
    rw [hq, Int.mul_comm 9 t, Int.tdiv_eq_ediv_of_nonneg (by omega)]; exact wraps_i64' _ (by omega) (by omega)
  clear hl hs hv ht hq
  have B := Lib.hid ((Below.refl w.heap.size w).alloc (Nat.le_refl _) (.cells #[.bool true, .int .i64 l, .int .i64 s, .int .i64 v, .int .i64 t] 23))
  have HP := Lib.hid (held_last true l s v t 23 w)
  have R := Lib.hid (fun w => rright_b true l s v t _ hr w)
  clear hr
  go_enter Try.func19, Try.ntmps19
  go_wp2_with fail
  refine (R.out _).mono ?_
  rintro e w2 ⟨rfl, hb2⟩
  have BB := Lib.hid (B.out.trans (hb2.mono B.out.size))
  obtain ⟨p0, p1, p2, p3, p4⟩ := (HP.out.below hb2).facts
  clear R hb2 B HP
  go_wp2
  go_ret2
  exact ⟨rfl, BB.out⟩

set_option maxHeartbeats 400000 in
theorem rloss_c3 (l s v t q : Int) (w : World) (hr : rightB ⟨true, l, s, v, t⟩ = true) (hA : ¬ s < t) (hq : q = (9 * s).tdiv 8) (hC : q < 1) :
    Calls Try.prog 19 #[.agg #[.bool true, .int .i64 l, .int .i64 s, .int .i64 v, .int .i64 t]] w fun e w' => e = .returned (.tuple #[.int .i64 1, .int .i64 0]) ∧ Below w.heap.size w w' := by
  obtain ⟨hl, hs, hv, ht, _⟩ := right_has hr rfl
  simp only at hl hs hv ht
  have w1 : IntKind.i64.wrap (s * 9) = s * 9 := wraps_i64' _ (by omega) (by omega)
  have w2 : IntKind.i64.wrap ((s * 9).tdiv 8) = q := by
    rw [hq, Int.mul_comm 9 s, Int.tdiv_eq_ediv_of_nonneg (by omega)]; exact wraps_i64' _ (by omega) (by omega)
  clear hl hs hv ht hq
  have B := Lib.hid ((Below.refl w.heap.size w).alloc (Nat.le_refl _) (.cells #[.bool true, .int .i64 l, .int .i64 s, .int .i64 v, .int .i64 t] 23))
  have HP := Lib.hid (held_last true l s v t 23 w)
  have R := Lib.hid (fun w => rright_b true l s v t _ hr w)
  clear hr
  go_enter Try.func19, Try.ntmps19
  go_wp2_with fail
  refine (R.out _).mono ?_
  rintro e w2 ⟨rfl, hb2⟩
  have BB := Lib.hid (B.out.trans (hb2.mono B.out.size))
  obtain ⟨p0, p1, p2, p3, p4⟩ := (HP.out.below hb2).facts
  clear R hb2 B HP
  go_wp2
  go_ret2
  exact ⟨rfl, BB.out⟩

set_option maxHeartbeats 400000 in
theorem rloss_c4 (l s v t q : Int) (w : World) (hr : rightB ⟨true, l, s, v, t⟩ = true) (hA : ¬ s < t) (hq : q = (9 * s).tdiv 8) (hC : ¬ q < 1) :
    Calls Try.prog 19 #[.agg #[.bool true, .int .i64 l, .int .i64 s, .int .i64 v, .int .i64 t]] w fun e w' => e = .returned (.tuple #[.int .i64 q, .int .i64 0]) ∧ Below w.heap.size w w' := by
  obtain ⟨hl, hs, hv, ht, _⟩ := right_has hr rfl
  simp only at hl hs hv ht
  have w1 : IntKind.i64.wrap (s * 9) = s * 9 := wraps_i64' _ (by omega) (by omega)
  have w2 : IntKind.i64.wrap ((s * 9).tdiv 8) = q := by
    rw [hq, Int.mul_comm 9 s, Int.tdiv_eq_ediv_of_nonneg (by omega)]; exact wraps_i64' _ (by omega) (by omega)
  clear hl hs hv ht hq
  have B := Lib.hid ((Below.refl w.heap.size w).alloc (Nat.le_refl _) (.cells #[.bool true, .int .i64 l, .int .i64 s, .int .i64 v, .int .i64 t] 23))
  have HP := Lib.hid (held_last true l s v t 23 w)
  have R := Lib.hid (fun w => rright_b true l s v t _ hr w)
  clear hr
  go_enter Try.func19, Try.ntmps19
  go_wp2_with fail
  refine (R.out _).mono ?_
  rintro e w2 ⟨rfl, hb2⟩
  have BB := Lib.hid (B.out.trans (hb2.mono B.out.size))
  obtain ⟨p0, p1, p2, p3, p4⟩ := (HP.out.below hb2).facts
  clear R hb2 B HP
  go_wp2
  go_ret2
  exact ⟨rfl, BB.out⟩

theorem rloss_any (h : Bool) (l s v t : Int) (w : World) :
    Calls Try.prog 19 #[.agg #[.bool h, .int .i64 l, .int .i64 s, .int .i64 v, .int .i64 t]] w fun e w' => e = .returned (.tuple #[.int .i64 (lossE ⟨h, l, s, v, t⟩).1, .int .i64 (lossE ⟨h, l, s, v, t⟩).2]) ∧ Below w.heap.size w w' := by
  cases hr : rightB ⟨h, l, s, v, t⟩
  · rw [lossE_a hr]; exact rloss_a h l s v t w hr
  cases h
  · rw [lossE_b hr]; exact rloss_b l s v t w hr
  · rw [lossE_c hr]
    by_cases hA : s < t
    · rw [show highI s t = t from if_pos hA]
      by_cases hC : (9 * t).tdiv 8 < 1
      · rw [show highI ((9 * t).tdiv 8) 1 = 1 from if_pos hC]; exact rloss_c1 l s v t _ w hr hA rfl hC
      · rw [show highI ((9 * t).tdiv 8) 1 = (9 * t).tdiv 8 from if_neg hC]; exact rloss_c2 l s v t _ w hr hA rfl hC
    · rw [show highI s t = s from if_neg hA]
      by_cases hC : (9 * s).tdiv 8 < 1
      · rw [show highI ((9 * s).tdiv 8) 1 = 1 from if_pos hC]; exact rloss_c3 l s v t _ w hr hA rfl hC
      · rw [show highI ((9 * s).tdiv 8) 1 = (9 * s).tdiv 8 from if_neg hC]; exact rloss_c4 l s v t _ w hr hA rfl hC
end Go.Proofs.Ytfcojlnbocncpaa
