/- Walks of layer 6: the wait for a probe. -/
import Derived.Test.YtfcojlnbocncpaaRtC
set_option linter.unusedSimpArgs false
set_option linter.unusedVariables false
namespace Go.Proofs.Ytfcojlnbocncpaa
open Go.RowKit

theorem dbl_great {k : Nat} {n : Int} (h : ¬ n < 1048576) : dbl k n = n := by
  cases k with
  | zero => rfl
  | succ k => rw [dbl, if_neg h]
theorem dbl_less {k : Nat} {n : Int} (h : n < 1048576) : dbl (k + 1) n = dbl k (n * 2) := by rw [dbl, if_pos h]
theorem probeE_a {h : Bool} {l s v t k : Int} (hr : rightB ⟨h, l, s, v, t⟩ = false) : probeE ⟨h, l, s, v, t⟩ k = (0, 1) := by rw [probeE, hr]; rfl
theorem probeE_b {h : Bool} {l s v t k : Int} (hr : rightB ⟨h, l, s, v, t⟩ = true) (hk : k < 0) : probeE ⟨h, l, s, v, t⟩ k = (0, 1) := by rw [probeE, if_pos hr, if_pos hk]
theorem probeE_c {h : Bool} {l s v t k : Int} (hr : rightB ⟨h, l, s, v, t⟩ = true) (hk : ¬ k < 0) : probeE ⟨h, l, s, v, t⟩ k = (lowI (dbl k.toNat (startI ⟨h, l, s, v, t⟩)) 1048576, 0) := by rw [probeE, if_pos hr, if_neg hk]; rfl

set_option maxHeartbeats 800000 in
theorem probe_a (h : Bool) (l s v t k : Int) (w : World) (hr : rightB ⟨h, l, s, v, t⟩ = false) :
    Calls Try.prog 16 #[.agg #[.bool h, .int .i64 l, .int .i64 s, .int .i64 v, .int .i64 t], .int .i64 k] w fun e w' => e = .returned (.tuple #[.int .i64 0, .int .i64 1]) ∧ Below w.heap.size w w' := by
  have B := Lib.hid ((Below.refl w.heap.size w).alloc (Nat.le_refl _) (.cells #[.bool h, .int .i64 l, .int .i64 s, .int .i64 v, .int .i64 t] 24))
  have HP := Lib.hid (held_last h l s v t 24 w)
  have R := Lib.hid (fun w => right_b h l s v t _ hr w)
  clear hr
  go_enter Try.func16, Try.ntmps16
  go_wp2_with fail
  refine (R.out _).mono ?_
  rintro e w2 ⟨rfl, hb2⟩
  have BB := Lib.hid (B.out.trans (hb2.mono B.out.size))
  obtain ⟨p0, p1, p2, p3, p4⟩ := (HP.out.below hb2).facts
  clear R hb2 B HP
  go_wp2
  go_ret2
  exact ⟨rfl, BB.out⟩

set_option maxHeartbeats 800000 in
theorem probe_b (h : Bool) (l s v t k : Int) (w : World) (hr : rightB ⟨h, l, s, v, t⟩ = true) (hk : k < 0) :
    Calls Try.prog 16 #[.agg #[.bool h, .int .i64 l, .int .i64 s, .int .i64 v, .int .i64 t], .int .i64 k] w fun e w' => e = .returned (.tuple #[.int .i64 0, .int .i64 1]) ∧ Below w.heap.size w w' := by
  have tk : decide (k < 0) = true := decide_eq_true hk
  have B := Lib.hid ((Below.refl w.heap.size w).alloc (Nat.le_refl _) (.cells #[.bool h, .int .i64 l, .int .i64 s, .int .i64 v, .int .i64 t] 24))
  have HP := Lib.hid (held_last h l s v t 24 w)
  have R := Lib.hid (fun w => right_b h l s v t _ hr w)
  clear hr
  go_enter Try.func16, Try.ntmps16
  go_wp2_with fail
  refine (R.out _).mono ?_
  rintro e w2 ⟨rfl, hb2⟩
  have BB := Lib.hid (B.out.trans (hb2.mono B.out.size))
  obtain ⟨p0, p1, p2, p3, p4⟩ := (HP.out.below hb2).facts
  clear R hb2 B HP
  go_wp2
  go_ret2
  exact ⟨rfl, BB.out⟩

set_option maxHeartbeats 800000 in
theorem probe_c (l s v t k n : Int) (w : World) (hr : rightB ⟨false, l, s, v, t⟩ = true) (hk : ¬ k < 0) (hk1 : k ≤ 9223372036854775807) (hn : n = 125) :
    Calls Try.prog 16 #[.agg #[.bool false, .int .i64 l, .int .i64 s, .int .i64 v, .int .i64 t], .int .i64 k] w fun e w' => e = .returned (.tuple #[.int .i64 (lowI (dbl k.toNat n) 1048576), .int .i64 0]) ∧ Below w.heap.size w w' := by
  have tk : decide (k < 0) = false := decide_eq_false hk
  have N0 : Hid (0 ≤ n ∧ n ≤ 8796093022208) := by show _ ∧ _; omega
  have B := Lib.hid ((Below.refl w.heap.size w).alloc (Nat.le_refl _) (.cells #[.bool false, .int .i64 l, .int .i64 s, .int .i64 v, .int .i64 t] 24))
  have HP := Lib.hid (held_last false l s v t 24 w)
  have R := Lib.hid (fun w => right_b false l s v t _ hr w)
  clear hr
  go_enter Try.func16, Try.ntmps16
  go_wp2_with fail
  refine (R.out _).mono ?_
  rintro e w2 ⟨rfl, hb2⟩
  have BB := Lib.hid (B.out.trans (hb2.mono B.out.size))
  obtain ⟨p0, p1, p2, p3, p4⟩ := (HP.out.below hb2).facts
  clear R hb2 B HP
  go_wp2_with fail
  clear p0 p1 p2 p3 p4
  rw [← hn]
  clear hn
  go_loop [6, 25] (fun m i => ∃ (j : Nat) (x : Int), i = .int .i64 j ∧ m = .int .i64 x ∧ (j : Int) ≤ k ∧ 0 ≤ x ∧ x ≤ 8796093022208 ∧ dbl (k.toNat - j) x = dbl k.toNat n) (fun _ i => k.toNat - (intOf i).toNat)
  case atStart => exact ⟨0, n, rfl, rfl, by omega, N0.out.1, N0.out.2, rfl⟩
  case round =>
    obtain ⟨j, x, rfl, rfl, hj, hx0, hx1, hd⟩ := hrel
    have HD := Lib.hid hd
    clear hd
    by_cases hlt : (j : Int) < k
    · by_cases hg : x < 1048576
      · have w1 : IntKind.i64.wrap (x * 2) = x * 2 := wraps_i64' _ (by omega) (by omega)
        have w2 : IntKind.i64.wrap ((j : Int) + 1) = (j : Int) + 1 := wraps_i64' _ (by omega) (by omega)
        have t1 : decide (x ≥ 1048576) = false := decide_eq_false (by omega)
        have t2 : decide (x < 1048576) = true := decide_eq_true hg
        have t3 : decide ((j : Int) < k) = true := decide_eq_true hlt
        have HE : Hid (dbl (k.toNat - (j + 1)) (x * 2) = dbl k.toNat n) := by
          show _ = _
          rw [← HD.out, show k.toNat - j = k.toNat - (j + 1) + 1 by omega, dbl_less hg]
        go_wp2
        go_round
        case rel => exact ⟨j + 1, x * 2, by go_num, rfl, by omega, by omega, by omega, HE.out⟩
        case measure => simp [intOf, w2]; omega
      · have t1 : decide (x ≥ 1048576) = true := decide_eq_true (by omega)
        have t2 : decide (x < 1048576) = false := decide_eq_false hg
        have t3 : decide ((j : Int) < k) = true := decide_eq_true hlt
        have HE : Hid (dbl k.toNat n = x) := by
          show _ = _
          rw [← HD.out, dbl_great hg]
        by_cases hm : 1048576 < x
        · go_wp2
          go_ret2
          rw [HE.out, show lowI x 1048576 = 1048576 from if_pos (by omega)]
          exact ⟨rfl, BB.out⟩
        · go_wp2
          go_ret2
          rw [HE.out, show lowI x 1048576 = x from if_neg (by omega)]
          exact ⟨rfl, BB.out⟩
    · have t3 : decide ((j : Int) < k) = false := decide_eq_false hlt
      have HE : Hid (dbl k.toNat n = x) := by
        show _ = _
        rw [← HD.out, show k.toNat - j = 0 by omega]; rfl
      by_cases hm : 1048576 < x
      · go_wp2
        go_ret2
        rw [HE.out, show lowI x 1048576 = 1048576 from if_pos (by omega)]
        exact ⟨rfl, BB.out⟩
      · go_wp2
        go_ret2
        rw [HE.out, show lowI x 1048576 = x from if_neg (by omega)]
        exact ⟨rfl, BB.out⟩

set_option maxHeartbeats 800000 in
theorem probe_d0 (l s v t k n : Int) (w : World) (hr : rightB ⟨true, l, s, v, t⟩ = true) (hk : ¬ k < 0) (hk1 : k ≤ 9223372036854775807) (hv1 : 4 * v < 1) (hn : n = s + 1 + 25) :
    Calls Try.prog 16 #[.agg #[.bool true, .int .i64 l, .int .i64 s, .int .i64 v, .int .i64 t], .int .i64 k] w fun e w' => e = .returned (.tuple #[.int .i64 (lowI (dbl k.toNat n) 1048576), .int .i64 0]) ∧ Below w.heap.size w w' := by
  have tk : decide (k < 0) = false := decide_eq_false hk
  obtain ⟨hl, hs, hv, ht, _⟩ := right_has hr rfl
  simp only at hl hs hv ht
  have x0 : IntKind.i64.wrap (4 * v) = 4 * v := wraps_i64' _ (by omega) (by omega)
  have x1 : IntKind.i64.wrap (s + 1) = s + 1 := wraps_i64' _ (by omega) (by omega)
  have x2 : IntKind.i64.wrap (s + 1 + 25) = n := by rw [hn]; exact wraps_i64' _ (by omega) (by omega)
  have N0 : Hid (0 ≤ n ∧ n ≤ 8796093022208) := by show _ ∧ _; omega
  clear hl hs hv ht hn
  have B := Lib.hid ((Below.refl w.heap.size w).alloc (Nat.le_refl _) (.cells #[.bool true, .int .i64 l, .int .i64 s, .int .i64 v, .int .i64 t] 24))
  have HP := Lib.hid (held_last true l s v t 24 w)
  have R := Lib.hid (fun w => right_b true l s v t _ hr w)
  clear hr
  go_enter Try.func16, Try.ntmps16
  go_wp2_with fail
  refine (R.out _).mono ?_
  rintro e w2 ⟨rfl, hb2⟩
  have BB := Lib.hid (B.out.trans (hb2.mono B.out.size))
  obtain ⟨p0, p1, p2, p3, p4⟩ := (HP.out.below hb2).facts
  clear R hb2 B HP
  go_wp2_with fail
  clear p0 p1 p2 p3 p4 x0 x1 x2
  go_loop [6, 25] (fun m i => ∃ (j : Nat) (x : Int), i = .int .i64 j ∧ m = .int .i64 x ∧ (j : Int) ≤ k ∧ 0 ≤ x ∧ x ≤ 8796093022208 ∧ dbl (k.toNat - j) x = dbl k.toNat n) (fun _ i => k.toNat - (intOf i).toNat)
  case atStart => exact ⟨0, n, rfl, rfl, by omega, N0.out.1, N0.out.2, rfl⟩
  case round =>
    obtain ⟨j, x, rfl, rfl, hj, hx0, hx1, hd⟩ := hrel
    have HD := Lib.hid hd
    clear hd
    by_cases hlt : (j : Int) < k
    · by_cases hg : x < 1048576
      · have w1 : IntKind.i64.wrap (x * 2) = x * 2 := wraps_i64' _ (by omega) (by omega)
        have w2 : IntKind.i64.wrap ((j : Int) + 1) = (j : Int) + 1 := wraps_i64' _ (by omega) (by omega)
        have t1 : decide (x ≥ 1048576) = false := decide_eq_false (by omega)
        have t2 : decide (x < 1048576) = true := decide_eq_true hg
        have t3 : decide ((j : Int) < k) = true := decide_eq_true hlt
        have HE : Hid (dbl (k.toNat - (j + 1)) (x * 2) = dbl k.toNat n) := by
          show _ = _
          rw [← HD.out, show k.toNat - j = k.toNat - (j + 1) + 1 by omega, dbl_less hg]
        go_wp2
        go_round
        case rel => exact ⟨j + 1, x * 2, by go_num, rfl, by omega, by omega, by omega, HE.out⟩
        case measure => simp [intOf, w2]; omega
      · have t1 : decide (x ≥ 1048576) = true := decide_eq_true (by omega)
        have t2 : decide (x < 1048576) = false := decide_eq_false hg
        have t3 : decide ((j : Int) < k) = true := decide_eq_true hlt
        have HE : Hid (dbl k.toNat n = x) := by
          show _ = _
          rw [← HD.out, dbl_great hg]
        by_cases hm : 1048576 < x
        · go_wp2
          go_ret2
          rw [HE.out, show lowI x 1048576 = 1048576 from if_pos (by omega)]
          exact ⟨rfl, BB.out⟩
        · go_wp2
          go_ret2
          rw [HE.out, show lowI x 1048576 = x from if_neg (by omega)]
          exact ⟨rfl, BB.out⟩
    · have t3 : decide ((j : Int) < k) = false := decide_eq_false hlt
      have HE : Hid (dbl k.toNat n = x) := by
        show _ = _
        rw [← HD.out, show k.toNat - j = 0 by omega]; rfl
      by_cases hm : 1048576 < x
      · go_wp2
        go_ret2
        rw [HE.out, show lowI x 1048576 = 1048576 from if_pos (by omega)]
        exact ⟨rfl, BB.out⟩
      · go_wp2
        go_ret2
        rw [HE.out, show lowI x 1048576 = x from if_neg (by omega)]
        exact ⟨rfl, BB.out⟩

set_option maxHeartbeats 800000 in
theorem probe_d1 (l s v t k n : Int) (w : World) (hr : rightB ⟨true, l, s, v, t⟩ = true) (hk : ¬ k < 0) (hk1 : k ≤ 9223372036854775807) (hv1 : ¬ 4 * v < 1) (hn : n = s + 4 * v + 25) :
    Calls Try.prog 16 #[.agg #[.bool true, .int .i64 l, .int .i64 s, .int .i64 v, .int .i64 t], .int .i64 k] w fun e w' => e = .returned (.tuple #[.int .i64 (lowI (dbl k.toNat n) 1048576), .int .i64 0]) ∧ Below w.heap.size w w' := by
  have tk : decide (k < 0) = false := decide_eq_false hk
  obtain ⟨hl, hs, hv, ht, _⟩ := right_has hr rfl
  simp only at hl hs hv ht
  have x0 : IntKind.i64.wrap (4 * v) = 4 * v := wraps_i64' _ (by omega) (by omega)
  have x1 : IntKind.i64.wrap (s + 4 * v) = s + 4 * v := wraps_i64' _ (by omega) (by omega)
  have x2 : IntKind.i64.wrap (s + 4 * v + 25) = n := by rw [hn]; exact wraps_i64' _ (by omega) (by omega)
  have N0 : Hid (0 ≤ n ∧ n ≤ 8796093022208) := by show _ ∧ _; omega
  clear hl hs hv ht hn
  have B := Lib.hid ((Below.refl w.heap.size w).alloc (Nat.le_refl _) (.cells #[.bool true, .int .i64 l, .int .i64 s, .int .i64 v, .int .i64 t] 24))
  have HP := Lib.hid (held_last true l s v t 24 w)
  have R := Lib.hid (fun w => right_b true l s v t _ hr w)
  clear hr
  go_enter Try.func16, Try.ntmps16
  go_wp2_with fail
  refine (R.out _).mono ?_
  rintro e w2 ⟨rfl, hb2⟩
  have BB := Lib.hid (B.out.trans (hb2.mono B.out.size))
  obtain ⟨p0, p1, p2, p3, p4⟩ := (HP.out.below hb2).facts
  clear R hb2 B HP
  go_wp2_with fail
  clear p0 p1 p2 p3 p4 x0 x1 x2
  go_loop [6, 25] (fun m i => ∃ (j : Nat) (x : Int), i = .int .i64 j ∧ m = .int .i64 x ∧ (j : Int) ≤ k ∧ 0 ≤ x ∧ x ≤ 8796093022208 ∧ dbl (k.toNat - j) x = dbl k.toNat n) (fun _ i => k.toNat - (intOf i).toNat)
  case atStart => exact ⟨0, n, rfl, rfl, by omega, N0.out.1, N0.out.2, rfl⟩
  case round =>
    obtain ⟨j, x, rfl, rfl, hj, hx0, hx1, hd⟩ := hrel
    have HD := Lib.hid hd
    clear hd
    by_cases hlt : (j : Int) < k
    · by_cases hg : x < 1048576
      · have w1 : IntKind.i64.wrap (x * 2) = x * 2 := wraps_i64' _ (by omega) (by omega)
        have w2 : IntKind.i64.wrap ((j : Int) + 1) = (j : Int) + 1 := wraps_i64' _ (by omega) (by omega)
        have t1 : decide (x ≥ 1048576) = false := decide_eq_false (by omega)
        have t2 : decide (x < 1048576) = true := decide_eq_true hg
        have t3 : decide ((j : Int) < k) = true := decide_eq_true hlt
        have HE : Hid (dbl (k.toNat - (j + 1)) (x * 2) = dbl k.toNat n) := by
          show _ = _
          rw [← HD.out, show k.toNat - j = k.toNat - (j + 1) + 1 by omega, dbl_less hg]
        go_wp2
        go_round
        case rel => exact ⟨j + 1, x * 2, by go_num, rfl, by omega, by omega, by omega, HE.out⟩
        case measure => simp [intOf, w2]; omega
      · have t1 : decide (x ≥ 1048576) = true := decide_eq_true (by omega)
        have t2 : decide (x < 1048576) = false := decide_eq_false hg
        have t3 : decide ((j : Int) < k) = true := decide_eq_true hlt
        have HE : Hid (dbl k.toNat n = x) := by
          show _ = _
          rw [← HD.out, dbl_great hg]
        by_cases hm : 1048576 < x
        · go_wp2
          go_ret2
          rw [HE.out, show lowI x 1048576 = 1048576 from if_pos (by omega)]
          exact ⟨rfl, BB.out⟩
        · go_wp2
          go_ret2
          rw [HE.out, show lowI x 1048576 = x from if_neg (by omega)]
          exact ⟨rfl, BB.out⟩
    · have t3 : decide ((j : Int) < k) = false := decide_eq_false hlt
      have HE : Hid (dbl k.toNat n = x) := by
        show _ = _
        rw [← HD.out, show k.toNat - j = 0 by omega]; rfl
      by_cases hm : 1048576 < x
      · go_wp2
        go_ret2
        rw [HE.out, show lowI x 1048576 = 1048576 from if_pos (by omega)]
        exact ⟨rfl, BB.out⟩
      · go_wp2
        go_ret2
        rw [HE.out, show lowI x 1048576 = x from if_neg (by omega)]
        exact ⟨rfl, BB.out⟩

theorem probe_any (h : Bool) (l s v t k : Int) (w : World) (hk1 : k ≤ 9223372036854775807) :
    Calls Try.prog 16 #[.agg #[.bool h, .int .i64 l, .int .i64 s, .int .i64 v, .int .i64 t], .int .i64 k] w fun e w' => e = .returned (.tuple #[.int .i64 (probeE ⟨h, l, s, v, t⟩ k).1, .int .i64 (probeE ⟨h, l, s, v, t⟩ k).2]) ∧ Below w.heap.size w w' := by
  cases hr : rightB ⟨h, l, s, v, t⟩
  · rw [probeE_a hr]; exact probe_a h l s v t k w hr
  by_cases hk : k < 0
  · rw [probeE_b hr hk]; exact probe_b h l s v t k w hr hk
  rw [probeE_c hr hk]
  cases h
  · exact probe_c l s v t k _ w hr hk hk1 rfl
  · by_cases hv : 4 * v < 1
    · exact probe_d0 l s v t k _ w hr hk hk1 hv (by simp [startI, hv])
    · exact probe_d1 l s v t k _ w hr hk hk1 hv (by simp [startI, hv])

set_option maxHeartbeats 800000 in
theorem rprobe_a (h : Bool) (l s v t k : Int) (w : World) (hr : rightB ⟨h, l, s, v, t⟩ = false) :
    Calls Try.prog 17 #[.agg #[.bool h, .int .i64 l, .int .i64 s, .int .i64 v, .int .i64 t], .int .i64 k] w fun e w' => e = .returned (.tuple #[.int .i64 0, .int .i64 1]) ∧ Below w.heap.size w w' := by
  have B := Lib.hid ((Below.refl w.heap.size w).alloc (Nat.le_refl _) (.cells #[.bool h, .int .i64 l, .int .i64 s, .int .i64 v, .int .i64 t] 23))
  have HP := Lib.hid (held_last h l s v t 23 w)
  have R := Lib.hid (fun w => rright_b h l s v t _ hr w)
  clear hr
  go_enter Try.func17, Try.ntmps17
  go_wp2_with fail
  refine (R.out _).mono ?_
  rintro e w2 ⟨rfl, hb2⟩
  have BB := Lib.hid (B.out.trans (hb2.mono B.out.size))
  obtain ⟨p0, p1, p2, p3, p4⟩ := (HP.out.below hb2).facts
  clear R hb2 B HP
  go_wp2
  go_ret2
  exact ⟨rfl, BB.out⟩

set_option maxHeartbeats 800000 in
theorem rprobe_b (h : Bool) (l s v t k : Int) (w : World) (hr : rightB ⟨h, l, s, v, t⟩ = true) (hk : k < 0) :
    Calls Try.prog 17 #[.agg #[.bool h, .int .i64 l, .int .i64 s, .int .i64 v, .int .i64 t], .int .i64 k] w fun e w' => e = .returned (.tuple #[.int .i64 0, .int .i64 1]) ∧ Below w.heap.size w w' := by
  have tk : decide (k < 0) = true := decide_eq_true hk
  have B := Lib.hid ((Below.refl w.heap.size w).alloc (Nat.le_refl _) (.cells #[.bool h, .int .i64 l, .int .i64 s, .int .i64 v, .int .i64 t] 23))
  have HP := Lib.hid (held_last h l s v t 23 w)
  have R := Lib.hid (fun w => rright_b h l s v t _ hr w)
  clear hr
  go_enter Try.func17, Try.ntmps17
  go_wp2_with fail
  refine (R.out _).mono ?_
  rintro e w2 ⟨rfl, hb2⟩
  have BB := Lib.hid (B.out.trans (hb2.mono B.out.size))
  obtain ⟨p0, p1, p2, p3, p4⟩ := (HP.out.below hb2).facts
  clear R hb2 B HP
  go_wp2
  go_ret2
  exact ⟨rfl, BB.out⟩

set_option maxHeartbeats 800000 in
theorem rprobe_c (l s v t k n : Int) (w : World) (hr : rightB ⟨false, l, s, v, t⟩ = true) (hk : ¬ k < 0) (hk1 : k ≤ 9223372036854775807) (hn : n = 125) :
    Calls Try.prog 17 #[.agg #[.bool false, .int .i64 l, .int .i64 s, .int .i64 v, .int .i64 t], .int .i64 k] w fun e w' => e = .returned (.tuple #[.int .i64 (lowI (dbl k.toNat n) 1048576), .int .i64 0]) ∧ Below w.heap.size w w' := by
  have tk : decide (k < 0) = false := decide_eq_false hk
  have N0 : Hid (0 ≤ n ∧ n ≤ 8796093022208) := by show _ ∧ _; omega
  have B := Lib.hid ((Below.refl w.heap.size w).alloc (Nat.le_refl _) (.cells #[.bool false, .int .i64 l, .int .i64 s, .int .i64 v, .int .i64 t] 23))
  have HP := Lib.hid (held_last false l s v t 23 w)
  have R := Lib.hid (fun w => rright_b false l s v t _ hr w)
  clear hr
  go_enter Try.func17, Try.ntmps17
  go_wp2_with fail
  refine (R.out _).mono ?_
  rintro e w2 ⟨rfl, hb2⟩
  have BB := Lib.hid (B.out.trans (hb2.mono B.out.size))
  obtain ⟨p0, p1, p2, p3, p4⟩ := (HP.out.below hb2).facts
  clear R hb2 B HP
  go_wp2_with fail
  clear p0 p1 p2 p3 p4
  rw [← hn]
  clear hn
  go_loop [6, 7] (fun m i => ∃ (j : Nat) (x : Int), i = .int .i64 j ∧ m = .int .i64 x ∧ (j : Int) ≤ k ∧ 0 ≤ x ∧ x ≤ 8796093022208 ∧ dbl (k.toNat - j) x = dbl k.toNat n) (fun _ i => k.toNat - (intOf i).toNat)
  case atStart => exact ⟨0, n, rfl, rfl, by omega, N0.out.1, N0.out.2, rfl⟩
  case round =>
    obtain ⟨j, x, rfl, rfl, hj, hx0, hx1, hd⟩ := hrel
    have HD := Lib.hid hd
    clear hd
    by_cases hlt : (j : Int) < k
    · by_cases hg : x < 1048576
      · have w1 : IntKind.i64.wrap (2 * x) = x * 2 := by rw [Int.mul_comm]; exact wraps_i64' _ (by omega) (by omega)
        have w2 : IntKind.i64.wrap ((j : Int) + 1) = (j : Int) + 1 := wraps_i64' _ (by omega) (by omega)
        have t1 : decide (x ≥ 1048576) = false := decide_eq_false (by omega)
        have t2 : decide (x < 1048576) = true := decide_eq_true hg
        have t3 : decide ((j : Int) < k) = true := decide_eq_true hlt
        have HE : Hid (dbl (k.toNat - (j + 1)) (x * 2) = dbl k.toNat n) := by
          show _ = _
          rw [← HD.out, show k.toNat - j = k.toNat - (j + 1) + 1 by omega, dbl_less hg]
        go_wp2
        go_round
        case rel => exact ⟨j + 1, x * 2, by go_num, rfl, by omega, by omega, by omega, HE.out⟩
        case measure => simp [intOf, w2]; omega
      · have t1 : decide (x ≥ 1048576) = true := decide_eq_true (by omega)
        have t2 : decide (x < 1048576) = false := decide_eq_false hg
        have t3 : decide ((j : Int) < k) = true := decide_eq_true hlt
        have HE : Hid (dbl k.toNat n = x) := by
          show _ = _
          rw [← HD.out, dbl_great hg]
        by_cases hm : 1048576 < x
        · go_wp2
          go_ret2
          rw [HE.out, show lowI x 1048576 = 1048576 from if_pos (by omega)]
          exact ⟨rfl, BB.out⟩
        · go_wp2
          go_ret2
          rw [HE.out, show lowI x 1048576 = x from if_neg (by omega)]
          exact ⟨rfl, BB.out⟩
    · have t3 : decide ((j : Int) < k) = false := decide_eq_false hlt
      have HE : Hid (dbl k.toNat n = x) := by
        show _ = _
        rw [← HD.out, show k.toNat - j = 0 by omega]; rfl
      by_cases hm : 1048576 < x
      · go_wp2
        go_ret2
        rw [HE.out, show lowI x 1048576 = 1048576 from if_pos (by omega)]
        exact ⟨rfl, BB.out⟩
      · go_wp2
        go_ret2
        rw [HE.out, show lowI x 1048576 = x from if_neg (by omega)]
        exact ⟨rfl, BB.out⟩

set_option maxHeartbeats 800000 in
theorem rprobe_d0 (l s v t k n : Int) (w : World) (hr : rightB ⟨true, l, s, v, t⟩ = true) (hk : ¬ k < 0) (hk1 : k ≤ 9223372036854775807) (hv1 : 4 * v < 1) (hn : n = s + 1 + 25) :
    Calls Try.prog 17 #[.agg #[.bool true, .int .i64 l, .int .i64 s, .int .i64 v, .int .i64 t], .int .i64 k] w fun e w' => e = .returned (.tuple #[.int .i64 (lowI (dbl k.toNat n) 1048576), .int .i64 0]) ∧ Below w.heap.size w w' := by
  have tk : decide (k < 0) = false := decide_eq_false hk
  obtain ⟨hl, hs, hv, ht, _⟩ := right_has hr rfl
  simp only at hl hs hv ht
  have x0 : IntKind.i64.wrap (4 * v) = 4 * v := wraps_i64' _ (by omega) (by omega)
  have x1 : IntKind.i64.wrap (s + 1) = s + 1 := wraps_i64' _ (by omega) (by omega)
  have x2 : IntKind.i64.wrap (s + 1 + 25) = n := by rw [hn]; exact wraps_i64' _ (by omega) (by omega)
  have N0 : Hid (0 ≤ n ∧ n ≤ 8796093022208) := by show _ ∧ _; omega
  clear hl hs hv ht hn
  have B := Lib.hid ((Below.refl w.heap.size w).alloc (Nat.le_refl _) (.cells #[.bool true, .int .i64 l, .int .i64 s, .int .i64 v, .int .i64 t] 23))
  have HP := Lib.hid (held_last true l s v t 23 w)
  have R := Lib.hid (fun w => rright_b true l s v t _ hr w)
  clear hr
  go_enter Try.func17, Try.ntmps17
  go_wp2_with fail
  refine (R.out _).mono ?_
  rintro e w2 ⟨rfl, hb2⟩
  have BB := Lib.hid (B.out.trans (hb2.mono B.out.size))
  obtain ⟨p0, p1, p2, p3, p4⟩ := (HP.out.below hb2).facts
  clear R hb2 B HP
  go_wp2_with fail
  clear p0 p1 p2 p3 p4 x0 x1 x2
  go_loop [6, 7] (fun m i => ∃ (j : Nat) (x : Int), i = .int .i64 j ∧ m = .int .i64 x ∧ (j : Int) ≤ k ∧ 0 ≤ x ∧ x ≤ 8796093022208 ∧ dbl (k.toNat - j) x = dbl k.toNat n) (fun _ i => k.toNat - (intOf i).toNat)
  case atStart => exact ⟨0, n, rfl, rfl, by omega, N0.out.1, N0.out.2, rfl⟩
  case round =>
    obtain ⟨j, x, rfl, rfl, hj, hx0, hx1, hd⟩ := hrel
    have HD := Lib.hid hd
    clear hd
    by_cases hlt : (j : Int) < k
    · by_cases hg : x < 1048576
      · have w1 : IntKind.i64.wrap (2 * x) = x * 2 := by rw [Int.mul_comm]; exact wraps_i64' _ (by omega) (by omega)
        have w2 : IntKind.i64.wrap ((j : Int) + 1) = (j : Int) + 1 := wraps_i64' _ (by omega) (by omega)
        have t1 : decide (x ≥ 1048576) = false := decide_eq_false (by omega)
        have t2 : decide (x < 1048576) = true := decide_eq_true hg
        have t3 : decide ((j : Int) < k) = true := decide_eq_true hlt
        have HE : Hid (dbl (k.toNat - (j + 1)) (x * 2) = dbl k.toNat n) := by
          show _ = _
          rw [← HD.out, show k.toNat - j = k.toNat - (j + 1) + 1 by omega, dbl_less hg]
        go_wp2
        go_round
        case rel => exact ⟨j + 1, x * 2, by go_num, rfl, by omega, by omega, by omega, HE.out⟩
        case measure => simp [intOf, w2]; omega
      · have t1 : decide (x ≥ 1048576) = true := decide_eq_true (by omega)
        have t2 : decide (x < 1048576) = false := decide_eq_false hg
        have t3 : decide ((j : Int) < k) = true := decide_eq_true hlt
        have HE : Hid (dbl k.toNat n = x) := by
          show _ = _
          rw [← HD.out, dbl_great hg]
        by_cases hm : 1048576 < x
        · go_wp2
          go_ret2
          rw [HE.out, show lowI x 1048576 = 1048576 from if_pos (by omega)]
          exact ⟨rfl, BB.out⟩
        · go_wp2
          go_ret2
          rw [HE.out, show lowI x 1048576 = x from if_neg (by omega)]
          exact ⟨rfl, BB.out⟩
    · have t3 : decide ((j : Int) < k) = false := decide_eq_false hlt
      have HE : Hid (dbl k.toNat n = x) := by
        show _ = _
        rw [← HD.out, show k.toNat - j = 0 by omega]; rfl
      by_cases hm : 1048576 < x
      · go_wp2
        go_ret2
        rw [HE.out, show lowI x 1048576 = 1048576 from if_pos (by omega)]
        exact ⟨rfl, BB.out⟩
      · go_wp2
        go_ret2
        rw [HE.out, show lowI x 1048576 = x from if_neg (by omega)]
        exact ⟨rfl, BB.out⟩

set_option maxHeartbeats 800000 in
theorem rprobe_d1 (l s v t k n : Int) (w : World) (hr : rightB ⟨true, l, s, v, t⟩ = true) (hk : ¬ k < 0) (hk1 : k ≤ 9223372036854775807) (hv1 : ¬ 4 * v < 1) (hn : n = s + 4 * v + 25) :
    Calls Try.prog 17 #[.agg #[.bool true, .int .i64 l, .int .i64 s, .int .i64 v, .int .i64 t], .int .i64 k] w fun e w' => e = .returned (.tuple #[.int .i64 (lowI (dbl k.toNat n) 1048576), .int .i64 0]) ∧ Below w.heap.size w w' := by
  have tk : decide (k < 0) = false := decide_eq_false hk
  obtain ⟨hl, hs, hv, ht, _⟩ := right_has hr rfl
  simp only at hl hs hv ht
  have x0 : IntKind.i64.wrap (4 * v) = 4 * v := wraps_i64' _ (by omega) (by omega)
  have x1 : IntKind.i64.wrap (s + 4 * v) = s + 4 * v := wraps_i64' _ (by omega) (by omega)
  have x2 : IntKind.i64.wrap (s + 4 * v + 25) = n := by rw [hn]; exact wraps_i64' _ (by omega) (by omega)
  have N0 : Hid (0 ≤ n ∧ n ≤ 8796093022208) := by show _ ∧ _; omega
  clear hl hs hv ht hn
  have B := Lib.hid ((Below.refl w.heap.size w).alloc (Nat.le_refl _) (.cells #[.bool true, .int .i64 l, .int .i64 s, .int .i64 v, .int .i64 t] 23))
  have HP := Lib.hid (held_last true l s v t 23 w)
  have R := Lib.hid (fun w => rright_b true l s v t _ hr w)
  clear hr
  go_enter Try.func17, Try.ntmps17
  go_wp2_with fail
  refine (R.out _).mono ?_
  rintro e w2 ⟨rfl, hb2⟩
  have BB := Lib.hid (B.out.trans (hb2.mono B.out.size))
  obtain ⟨p0, p1, p2, p3, p4⟩ := (HP.out.below hb2).facts
  clear R hb2 B HP
  go_wp2_with fail
  clear p0 p1 p2 p3 p4 x0 x1 x2
  go_loop [6, 7] (fun m i => ∃ (j : Nat) (x : Int), i = .int .i64 j ∧ m = .int .i64 x ∧ (j : Int) ≤ k ∧ 0 ≤ x ∧ x ≤ 8796093022208 ∧ dbl (k.toNat - j) x = dbl k.toNat n) (fun _ i => k.toNat - (intOf i).toNat)
  case atStart => exact ⟨0, n, rfl, rfl, by omega, N0.out.1, N0.out.2, rfl⟩
  case round =>
    obtain ⟨j, x, rfl, rfl, hj, hx0, hx1, hd⟩ := hrel
    have HD := Lib.hid hd
    clear hd
    by_cases hlt : (j : Int) < k
    · by_cases hg : x < 1048576
      · have w1 : IntKind.i64.wrap (2 * x) = x * 2 := by rw [Int.mul_comm]; exact wraps_i64' _ (by omega) (by omega)
        have w2 : IntKind.i64.wrap ((j : Int) + 1) = (j : Int) + 1 := wraps_i64' _ (by omega) (by omega)
        have t1 : decide (x ≥ 1048576) = false := decide_eq_false (by omega)
        have t2 : decide (x < 1048576) = true := decide_eq_true hg
        have t3 : decide ((j : Int) < k) = true := decide_eq_true hlt
        have HE : Hid (dbl (k.toNat - (j + 1)) (x * 2) = dbl k.toNat n) := by
          show _ = _
          rw [← HD.out, show k.toNat - j = k.toNat - (j + 1) + 1 by omega, dbl_less hg]
        go_wp2
        go_round
        case rel => exact ⟨j + 1, x * 2, by go_num, rfl, by omega, by omega, by omega, HE.out⟩
        case measure => simp [intOf, w2]; omega
      · have t1 : decide (x ≥ 1048576) = true := decide_eq_true (by omega)
        have t2 : decide (x < 1048576) = false := decide_eq_false hg
        have t3 : decide ((j : Int) < k) = true := decide_eq_true hlt
        have HE : Hid (dbl k.toNat n = x) := by
          show _ = _
          rw [← HD.out, dbl_great hg]
        by_cases hm : 1048576 < x
        · go_wp2
          go_ret2
          rw [HE.out, show lowI x 1048576 = 1048576 from if_pos (by omega)]
          exact ⟨rfl, BB.out⟩
        · go_wp2
          go_ret2
          rw [HE.out, show lowI x 1048576 = x from if_neg (by omega)]
          exact ⟨rfl, BB.out⟩
    · have t3 : decide ((j : Int) < k) = false := decide_eq_false hlt
      have HE : Hid (dbl k.toNat n = x) := by
        show _ = _
        rw [← HD.out, show k.toNat - j = 0 by omega]; rfl
      by_cases hm : 1048576 < x
      · go_wp2
        go_ret2
        rw [HE.out, show lowI x 1048576 = 1048576 from if_pos (by omega)]
        exact ⟨rfl, BB.out⟩
      · go_wp2
        go_ret2
        rw [HE.out, show lowI x 1048576 = x from if_neg (by omega)]
        exact ⟨rfl, BB.out⟩

theorem rprobe_any (h : Bool) (l s v t k : Int) (w : World) (hk1 : k ≤ 9223372036854775807) :
    Calls Try.prog 17 #[.agg #[.bool h, .int .i64 l, .int .i64 s, .int .i64 v, .int .i64 t], .int .i64 k] w fun e w' => e = .returned (.tuple #[.int .i64 (probeE ⟨h, l, s, v, t⟩ k).1, .int .i64 (probeE ⟨h, l, s, v, t⟩ k).2]) ∧ Below w.heap.size w w' := by
  cases hr : rightB ⟨h, l, s, v, t⟩
  · rw [probeE_a hr]; exact rprobe_a h l s v t k w hr
  by_cases hk : k < 0
  · rw [probeE_b hr hk]; exact rprobe_b h l s v t k w hr hk
  rw [probeE_c hr hk]
  cases h
  · exact rprobe_c l s v t k _ w hr hk hk1 rfl
  · by_cases hv : 4 * v < 1
    · exact rprobe_d0 l s v t k _ w hr hk hk1 hv (by simp [startI, hv])
    · exact rprobe_d1 l s v t k _ w hr hk hk1 hv (by simp [startI, hv])
end Go.Proofs.Ytfcojlnbocncpaa
