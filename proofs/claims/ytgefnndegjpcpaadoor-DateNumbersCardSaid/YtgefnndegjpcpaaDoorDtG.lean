/- Walks of layer 16: the document's calendar. -/
import Derived.Test.YtgefnndegjpcpaaDoorDtB
set_option maxRecDepth 100000
set_option linter.unusedSimpArgs false
set_option linter.unusedVariables false
namespace Go.Proofs.YtgefnndegjpcpaaDoor
open Go.RowKit

theorem rleap_any (y : Int) (w : World) (h0 : 0 ≤ y) (h1 : y ≤ 9999) :
    Calls Tryd.prog 39 #[.int .i64 y] w fun e w' => e = .returned (.bool (leapB y)) ∧ w' = w := by
  have r4 := wrem y 4 h0 (by omega) (by decide)
  have r100 := wrem y 100 h0 (by omega) (by decide)
  have r400 := wrem y 400 h0 (by omega) (by decide)
  unfold leapB
  go_enter Tryd.func39, Tryd.ntmps39
  go_wp2
  all_goals
    go_ret
    refine ⟨?_, rfl⟩
    first
      | (simp_all; done)
      | (simp_all; rfl)
      | (simp_all; omega)

set_option maxHeartbeats 1600000 in
theorem rdays_any (y m : Int) (w : World) (h0 : 0 ≤ y) (h1 : y ≤ 9999) :
    Calls Tryd.prog 27 #[.int .i64 y, .int .i64 m] w fun e w' => e = .returned (.int .i64 (dim y m)) ∧ w' = w := by
  have hL := Lib.hid (rleap_any y · h0 h1)
  unfold dim
  by_cases e2 : m = 2
  · subst e2
    cases hl : leapB y <;> rw [hl] at hL
    all_goals
      go_enter Tryd.func27, Tryd.ntmps27
      go_wp2_with (go_at_call 39; refine (hL.out _).mono ?_; rintro x w2 ⟨rfl, rfl⟩)
      go_ret
      exact ⟨rfl, rfl⟩
  · rw [if_neg e2]
    clear hL
    by_cases e4 : m = 4
    · subst e4
      go_enter Tryd.func27, Tryd.ntmps27
      go_wp2
      go_ret
      exact ⟨rfl, rfl⟩
    · by_cases e6 : m = 6
      · subst e6
        go_enter Tryd.func27, Tryd.ntmps27
        go_wp2
        go_ret
        exact ⟨rfl, rfl⟩
      · by_cases e9 : m = 9
        · subst e9
          go_enter Tryd.func27, Tryd.ntmps27
          go_wp2
          go_ret
          exact ⟨rfl, rfl⟩
        · by_cases e11 : m = 11
          · subst e11
            go_enter Tryd.func27, Tryd.ntmps27
            go_wp2
            go_ret
            exact ⟨rfl, rfl⟩
          · rw [if_neg (by omega)]
            have b2 : (m == 2) = false := beq_eq_false_iff_ne.2 e2
            have b4 : (m == 4) = false := beq_eq_false_iff_ne.2 e4
            have b6 : (m == 6) = false := beq_eq_false_iff_ne.2 e6
            have b9 : (m == 9) = false := beq_eq_false_iff_ne.2 e9
            have b11 : (m == 11) = false := beq_eq_false_iff_ne.2 e11
            go_enter Tryd.func27, Tryd.ntmps27
            go_wp2
            go_ret
            exact ⟨rfl, rfl⟩

set_option maxHeartbeats 1600000 in
theorem before_any (y : Int) (w : World) (h0 : 0 ≤ y) (h1 : y ≤ 10000) :
    Calls Tryd.prog 26 #[.int .i64 y] w fun e w' => e = .returned (.int .i64 (toYear y)) ∧ w' = w := by
  by_cases hy : y = 0
  · subst hy
    go_enter Tryd.func26, Tryd.ntmps26
    go_wp2
    go_ret
    exact ⟨rfl, rfl⟩
  · have hv : toYear y = 365 * y + (y - 1) / 4 - (y - 1) / 100 + (y - 1) / 400 + 1 := by unfold toYear; omega
    have e1 := wraps_i64' (y - 1) (by omega) (by omega)
    have e2 := wraps_i64' (365 * y) (by omega) (by omega)
    have d1 := wquo (y - 1) 4 (by omega) (by omega) (by decide)
    have d2 := wquo (y - 1) 100 (by omega) (by omega) (by decide)
    have d3 := wquo (y - 1) 400 (by omega) (by omega) (by decide)
    have s1 := wraps_i64' (365 * y + (y - 1) / 4) (by omega) (by omega)
    have s2 := wraps_i64' (365 * y + (y - 1) / 4 - (y - 1) / 100) (by omega) (by omega)
    have s3 := wraps_i64' (365 * y + (y - 1) / 4 - (y - 1) / 100 + (y - 1) / 400) (by omega) (by omega)
    have s4 := wraps_i64' (365 * y + (y - 1) / 4 - (y - 1) / 100 + (y - 1) / 400 + 1) (by omega) (by omega)
    rw [hv]
    clear hv
    go_enter Tryd.func26, Tryd.ntmps26
    go_wp2
    go_ret
    exact ⟨rfl, rfl⟩

set_option maxHeartbeats 1600000 in
theorem rweek_any (n : Int) (w : World) :
    Calls Tryd.prog 16 #[.int .i64 n] w fun e w' => e = .returned (.int .i64 (weekI n)) ∧ w' = w := by
  unfold weekI inB
  by_cases h1 : -62167219200 ≤ n
  · have d1 : decide (n < -62167219200) = false := decide_eq_false (by omega)
    rw [decide_eq_true h1, Bool.true_and]
    by_cases h2 : n ≤ 253402300799
    · have d2 : decide (n > 253402300799) = false := decide_eq_false (by omega)
      rw [decide_eq_true h2]
      have s1 := wraps_i64' (n + 62167219200) (by omega) (by omega)
      have q1 := wquo (n + 62167219200) 86400 (by omega) (by omega) (by decide)
      have s2 := wraps_i64' ((n + 62167219200) / 86400 + 5) (by omega) (by omega)
      have r1 := wrem ((n + 62167219200) / 86400 + 5) 7 (by omega) (by omega) (by decide)
      clear h1 h2
      go_enter Tryd.func16, Tryd.ntmps16
      go_wp2
      go_ret
      exact ⟨rfl, rfl⟩
    · have d2 : decide (n > 253402300799) = true := decide_eq_true (by omega)
      rw [decide_eq_false h2]
      clear h1 h2
      go_enter Tryd.func16, Tryd.ntmps16
      go_wp2
      go_ret
      exact ⟨rfl, rfl⟩
  · have d1 : decide (n < -62167219200) = true := decide_eq_true (by omega)
    rw [decide_eq_false h1, Bool.false_and]
    clear h1
    go_enter Tryd.func16, Tryd.ntmps16
    go_wp2
    go_ret
    exact ⟨rfl, rfl⟩
end Go.Proofs.YtgefnndegjpcpaaDoor
