/- Walks of layer 3: Width and Cut, of the code and of the reference. -/
import Derived.Test.YtdhljbakjflpoaaPnumA
namespace Go.Proofs.Ytdhljbakjflpoaa
open Go.RowKit

set_option maxHeartbeats 800000 in
theorem w_bad (n acked : Int) (w : World) (h : ¬ IsNum n ∨ acked < -1 ∨ acked ≥ n) : Calls Try.prog 8 #[.int .i64 n, .int .i64 acked] w (Two w 0 1) := by
  by_cases hn : IsNum n
  · have e : decide (IsNum n) = true := by simp [hn]
    by_cases h1 : acked < -1
    · have d1 : decide (acked < -1) = true := by simp [h1]
      clear h
      go_enter Try.func8, Try.ntmps8
      go_wp2_with fail
      refine (isNumber_any n _).mono ?_
      rintro e w' ⟨rfl, rfl⟩
      rw [e]
      go_wp2
      go_ret2
      exact ⟨rfl, rfl⟩
    · have d1 : decide (acked < -1) = false := by simp; omega
      have d2 : decide (acked ≥ n) = true := by simp [hn, h1] at h; simp; omega
      clear h
      go_enter Try.func8, Try.ntmps8
      go_wp2_with fail
      refine (isNumber_any n _).mono ?_
      rintro e w' ⟨rfl, rfl⟩
      rw [e]
      go_wp2
      go_ret2
      exact ⟨rfl, rfl⟩
  · have e : decide (IsNum n) = false := by simp [hn]
    clear h
    go_enter Try.func8, Try.ntmps8
    go_wp2_with fail
    refine (isNumber_any n _).mono ?_
    rintro e w' ⟨rfl, rfl⟩
    rw [e]
    go_wp2
    go_ret2
    exact ⟨rfl, rfl⟩

set_option maxHeartbeats 1600000 in
theorem w_0 (n acked : Int) (w : World) (hn : IsNum n) (h1 : ¬ acked < -1) (h2 : ¬ acked ≥ n)  (g0 : n - acked ≤ 128) : Calls Try.prog 8 #[.int .i64 n, .int .i64 acked] w (Two w 1 0) := by
  have e : decide (IsNum n) = true := by simp [hn]
  have e1 : decide (acked < -1) = false := decide_eq_false h1
  have e2 : decide (acked ≥ n) = false := decide_eq_false h2
  obtain ⟨n0, n1⟩ := hn
  have hwr : IntKind.i64.wrap (n - acked) = n - acked := wrap_small _ (by omega) (by omega)

  have d0 : decide (n - acked ≤ 128) = true := decide_eq_true g0
  clear g0 n0 n1 h1 h2
  go_enter Try.func8, Try.ntmps8
  go_wp2_with fail
  refine (isNumber_any n _).mono ?_
  rintro e w' ⟨rfl, rfl⟩
  rw [e]
  go_wp2
  refine wp_loop_rounds 1 ?_
  repeat any_goals (rw [rounds_succ]; go_wp2)
  go_ret2
  exact ⟨rfl, rfl⟩

set_option maxHeartbeats 1600000 in
theorem w_1 (n acked : Int) (w : World) (hn : IsNum n) (h1 : ¬ acked < -1) (h2 : ¬ acked ≥ n) (g0 : ¬ n - acked ≤ 128) (g1 : n - acked ≤ 32768) : Calls Try.prog 8 #[.int .i64 n, .int .i64 acked] w (Two w 2 0) := by
  have e : decide (IsNum n) = true := by simp [hn]
  have e1 : decide (acked < -1) = false := decide_eq_false h1
  have e2 : decide (acked ≥ n) = false := decide_eq_false h2
  obtain ⟨n0, n1⟩ := hn
  have hwr : IntKind.i64.wrap (n - acked) = n - acked := wrap_small _ (by omega) (by omega)
  have d0 : decide (n - acked ≤ 128) = false := decide_eq_false g0
  have d1 : decide (n - acked ≤ 32768) = true := decide_eq_true g1
  clear g0 g1 n0 n1 h1 h2
  go_enter Try.func8, Try.ntmps8
  go_wp2_with fail
  refine (isNumber_any n _).mono ?_
  rintro e w' ⟨rfl, rfl⟩
  rw [e]
  go_wp2
  refine wp_loop_rounds 2 ?_
  repeat any_goals (rw [rounds_succ]; go_wp2)
  go_ret2
  exact ⟨rfl, rfl⟩

set_option maxHeartbeats 1600000 in
theorem w_2 (n acked : Int) (w : World) (hn : IsNum n) (h1 : ¬ acked < -1) (h2 : ¬ acked ≥ n) (g0 : ¬ n - acked ≤ 128) (g1 : ¬ n - acked ≤ 32768) (g2 : n - acked ≤ 8388608) : Calls Try.prog 8 #[.int .i64 n, .int .i64 acked] w (Two w 3 0) := by
  have e : decide (IsNum n) = true := by simp [hn]
  have e1 : decide (acked < -1) = false := decide_eq_false h1
  have e2 : decide (acked ≥ n) = false := decide_eq_false h2
  obtain ⟨n0, n1⟩ := hn
  have hwr : IntKind.i64.wrap (n - acked) = n - acked := wrap_small _ (by omega) (by omega)
  have d0 : decide (n - acked ≤ 128) = false := decide_eq_false g0
  have d1 : decide (n - acked ≤ 32768) = false := decide_eq_false g1
  have d2 : decide (n - acked ≤ 8388608) = true := decide_eq_true g2
  clear g0 g1 g2 n0 n1 h1 h2
  go_enter Try.func8, Try.ntmps8
  go_wp2_with fail
  refine (isNumber_any n _).mono ?_
  rintro e w' ⟨rfl, rfl⟩
  rw [e]
  go_wp2
  refine wp_loop_rounds 3 ?_
  repeat any_goals (rw [rounds_succ]; go_wp2)
  go_ret2
  exact ⟨rfl, rfl⟩

set_option maxHeartbeats 1600000 in
theorem w_3 (n acked : Int) (w : World) (hn : IsNum n) (h1 : ¬ acked < -1) (h2 : ¬ acked ≥ n) (g0 : ¬ n - acked ≤ 128) (g1 : ¬ n - acked ≤ 32768) (g2 : ¬ n - acked ≤ 8388608) (g3 : n - acked ≤ 2147483648) : Calls Try.prog 8 #[.int .i64 n, .int .i64 acked] w (Two w 4 0) := by
  have e : decide (IsNum n) = true := by simp [hn]
  have e1 : decide (acked < -1) = false := decide_eq_false h1
  have e2 : decide (acked ≥ n) = false := decide_eq_false h2
  obtain ⟨n0, n1⟩ := hn
  have hwr : IntKind.i64.wrap (n - acked) = n - acked := wrap_small _ (by omega) (by omega)
  have d0 : decide (n - acked ≤ 128) = false := decide_eq_false g0
  have d1 : decide (n - acked ≤ 32768) = false := decide_eq_false g1
  have d2 : decide (n - acked ≤ 8388608) = false := decide_eq_false g2
  have d3 : decide (n - acked ≤ 2147483648) = true := decide_eq_true g3
  clear g0 g1 g2 g3 n0 n1 h1 h2
  go_enter Try.func8, Try.ntmps8
  go_wp2_with fail
  refine (isNumber_any n _).mono ?_
  rintro e w' ⟨rfl, rfl⟩
  rw [e]
  go_wp2
  refine wp_loop_rounds 4 ?_
  repeat any_goals (rw [rounds_succ]; go_wp2)
  go_ret2
  exact ⟨rfl, rfl⟩

set_option maxHeartbeats 1600000 in
theorem w_4 (n acked : Int) (w : World) (hn : IsNum n) (h1 : ¬ acked < -1) (h2 : ¬ acked ≥ n) (g0 : ¬ n - acked ≤ 128) (g1 : ¬ n - acked ≤ 32768) (g2 : ¬ n - acked ≤ 8388608) (g3 : ¬ n - acked ≤ 2147483648) : Calls Try.prog 8 #[.int .i64 n, .int .i64 acked] w (Two w 0 1) := by
  have e : decide (IsNum n) = true := by simp [hn]
  have e1 : decide (acked < -1) = false := decide_eq_false h1
  have e2 : decide (acked ≥ n) = false := decide_eq_false h2
  obtain ⟨n0, n1⟩ := hn
  have hwr : IntKind.i64.wrap (n - acked) = n - acked := wrap_small _ (by omega) (by omega)
  have d0 : decide (n - acked ≤ 128) = false := decide_eq_false g0
  have d1 : decide (n - acked ≤ 32768) = false := decide_eq_false g1
  have d2 : decide (n - acked ≤ 8388608) = false := decide_eq_false g2
  have d3 : decide (n - acked ≤ 2147483648) = false := decide_eq_false g3
  clear g0 g1 g2 g3 n0 n1 h1 h2
  go_enter Try.func8, Try.ntmps8
  go_wp2_with fail
  refine (isNumber_any n _).mono ?_
  rintro e w' ⟨rfl, rfl⟩
  rw [e]
  go_wp2
  refine wp_loop_rounds 5 ?_
  repeat any_goals (rw [rounds_succ]; go_wp2)
  go_ret2
  exact ⟨rfl, rfl⟩

theorem w_any (n acked : Int) (w : World) : Calls Try.prog 8 #[.int .i64 n, .int .i64 acked] w (Two w (widthI n acked) (if widthI n acked = 0 then 1 else 0)) := by
  by_cases h : ¬ IsNum n ∨ acked < -1 ∨ acked ≥ n
  · have e : widthI n acked = 0 := by unfold widthI; rw [if_pos h]
    rw [e]; exact w_bad n acked w h
  · have hn : IsNum n := by
      by_cases hn : IsNum n
      · exact hn
      · exact absurd (.inl hn) h
    have h1 : ¬ acked < -1 := fun x => h (.inr (.inl x))
    have h2 : ¬ acked ≥ n := fun x => h (.inr (.inr x))
    unfold widthI
    rw [if_neg h]
    by_cases g0 : n - acked ≤ 128
    · rw [if_pos g0]; exact w_0 n acked w hn h1 h2 g0
    rw [if_neg g0]
    by_cases g1 : n - acked ≤ 32768
    · rw [if_pos g1]; exact w_1 n acked w hn h1 h2 g0 g1
    rw [if_neg g1]
    by_cases g2 : n - acked ≤ 8388608
    · rw [if_pos g2]; exact w_2 n acked w hn h1 h2 g0 g1 g2
    rw [if_neg g2]
    by_cases g3 : n - acked ≤ 2147483648
    · rw [if_pos g3]; exact w_3 n acked w hn h1 h2 g0 g1 g2 g3
    rw [if_neg g3]
    exact w_4 n acked w hn h1 h2 g0 g1 g2 g3

set_option maxHeartbeats 800000 in
theorem rw_bad (n acked : Int) (w : World) (h : ¬ IsNum n ∨ acked < -1 ∨ acked ≥ n) : Calls Try.prog 9 #[.int .i64 n, .int .i64 acked] w (Two w 0 1) := by
  by_cases hn : IsNum n
  · have e : decide (IsNum n) = true := by simp [hn]
    by_cases h1 : acked < -1
    · have d1 : decide (acked < -1) = true := by simp [h1]
      clear h
      go_enter Try.func9, Try.ntmps9
      go_wp2_with fail
      refine (right_any n _).mono ?_
      rintro e w' ⟨rfl, rfl⟩
      rw [e]
      go_wp2
      go_ret2
      exact ⟨rfl, rfl⟩
    · have d1 : decide (acked < -1) = false := by simp; omega
      have d2 : decide (acked ≥ n) = true := by simp [hn, h1] at h; simp; omega
      clear h
      go_enter Try.func9, Try.ntmps9
      go_wp2_with fail
      refine (right_any n _).mono ?_
      rintro e w' ⟨rfl, rfl⟩
      rw [e]
      go_wp2
      go_ret2
      exact ⟨rfl, rfl⟩
  · have e : decide (IsNum n) = false := by simp [hn]
    clear h
    go_enter Try.func9, Try.ntmps9
    go_wp2_with fail
    refine (right_any n _).mono ?_
    rintro e w' ⟨rfl, rfl⟩
    rw [e]
    go_wp2
    go_ret2
    exact ⟨rfl, rfl⟩

set_option maxHeartbeats 1600000 in
theorem rw_0 (n acked : Int) (w : World) (hn : IsNum n) (h1 : ¬ acked < -1) (h2 : ¬ acked ≥ n)  (g0 : n - acked ≤ 128) : Calls Try.prog 9 #[.int .i64 n, .int .i64 acked] w (Two w 1 0) := by
  have e : decide (IsNum n) = true := by simp [hn]
  have e1 : decide (acked < -1) = false := decide_eq_false h1
  have e2 : decide (acked ≥ n) = false := decide_eq_false h2
  obtain ⟨n0, n1⟩ := hn
  have hwr : IntKind.i64.wrap (n - acked) = n - acked := wrap_small _ (by omega) (by omega)

  have d0 : decide (n - acked ≤ 128) = true := decide_eq_true g0
  clear g0 n0 n1 h1 h2
  go_enter Try.func9, Try.ntmps9
  go_wp2_with fail
  refine (right_any n _).mono ?_
  rintro e w' ⟨rfl, rfl⟩
  rw [e]
  go_wp2
  refine wp_loop_rounds 1 ?_
  repeat any_goals (rw [rounds_succ]; go_wp2)
  go_ret2
  exact ⟨rfl, rfl⟩

set_option maxHeartbeats 1600000 in
theorem rw_1 (n acked : Int) (w : World) (hn : IsNum n) (h1 : ¬ acked < -1) (h2 : ¬ acked ≥ n) (g0 : ¬ n - acked ≤ 128) (g1 : n - acked ≤ 32768) : Calls Try.prog 9 #[.int .i64 n, .int .i64 acked] w (Two w 2 0) := by
  have e : decide (IsNum n) = true := by simp [hn]
  have e1 : decide (acked < -1) = false := decide_eq_false h1
  have e2 : decide (acked ≥ n) = false := decide_eq_false h2
  obtain ⟨n0, n1⟩ := hn
  have hwr : IntKind.i64.wrap (n - acked) = n - acked := wrap_small _ (by omega) (by omega)
  have d0 : decide (n - acked ≤ 128) = false := decide_eq_false g0
  have d1 : decide (n - acked ≤ 32768) = true := decide_eq_true g1
  clear g0 g1 n0 n1 h1 h2
  go_enter Try.func9, Try.ntmps9
  go_wp2_with fail
  refine (right_any n _).mono ?_
  rintro e w' ⟨rfl, rfl⟩
  rw [e]
  go_wp2
  refine wp_loop_rounds 2 ?_
  repeat any_goals (rw [rounds_succ]; go_wp2)
  go_ret2
  exact ⟨rfl, rfl⟩

set_option maxHeartbeats 1600000 in
theorem rw_2 (n acked : Int) (w : World) (hn : IsNum n) (h1 : ¬ acked < -1) (h2 : ¬ acked ≥ n) (g0 : ¬ n - acked ≤ 128) (g1 : ¬ n - acked ≤ 32768) (g2 : n - acked ≤ 8388608) : Calls Try.prog 9 #[.int .i64 n, .int .i64 acked] w (Two w 3 0) := by
  have e : decide (IsNum n) = true := by simp [hn]
  have e1 : decide (acked < -1) = false := decide_eq_false h1
  have e2 : decide (acked ≥ n) = false := decide_eq_false h2
  obtain ⟨n0, n1⟩ := hn
  have hwr : IntKind.i64.wrap (n - acked) = n - acked := wrap_small _ (by omega) (by omega)
  have d0 : decide (n - acked ≤ 128) = false := decide_eq_false g0
  have d1 : decide (n - acked ≤ 32768) = false := decide_eq_false g1
  have d2 : decide (n - acked ≤ 8388608) = true := decide_eq_true g2
  clear g0 g1 g2 n0 n1 h1 h2
  go_enter Try.func9, Try.ntmps9
  go_wp2_with fail
  refine (right_any n _).mono ?_
  rintro e w' ⟨rfl, rfl⟩
  rw [e]
  go_wp2
  refine wp_loop_rounds 3 ?_
  repeat any_goals (rw [rounds_succ]; go_wp2)
  go_ret2
  exact ⟨rfl, rfl⟩

set_option maxHeartbeats 1600000 in
theorem rw_3 (n acked : Int) (w : World) (hn : IsNum n) (h1 : ¬ acked < -1) (h2 : ¬ acked ≥ n) (g0 : ¬ n - acked ≤ 128) (g1 : ¬ n - acked ≤ 32768) (g2 : ¬ n - acked ≤ 8388608) (g3 : n - acked ≤ 2147483648) : Calls Try.prog 9 #[.int .i64 n, .int .i64 acked] w (Two w 4 0) := by
  have e : decide (IsNum n) = true := by simp [hn]
  have e1 : decide (acked < -1) = false := decide_eq_false h1
  have e2 : decide (acked ≥ n) = false := decide_eq_false h2
  obtain ⟨n0, n1⟩ := hn
  have hwr : IntKind.i64.wrap (n - acked) = n - acked := wrap_small _ (by omega) (by omega)
  have d0 : decide (n - acked ≤ 128) = false := decide_eq_false g0
  have d1 : decide (n - acked ≤ 32768) = false := decide_eq_false g1
  have d2 : decide (n - acked ≤ 8388608) = false := decide_eq_false g2
  have d3 : decide (n - acked ≤ 2147483648) = true := decide_eq_true g3
  clear g0 g1 g2 g3 n0 n1 h1 h2
  go_enter Try.func9, Try.ntmps9
  go_wp2_with fail
  refine (right_any n _).mono ?_
  rintro e w' ⟨rfl, rfl⟩
  rw [e]
  go_wp2
  refine wp_loop_rounds 4 ?_
  repeat any_goals (rw [rounds_succ]; go_wp2)
  go_ret2
  exact ⟨rfl, rfl⟩

set_option maxHeartbeats 1600000 in
theorem rw_4 (n acked : Int) (w : World) (hn : IsNum n) (h1 : ¬ acked < -1) (h2 : ¬ acked ≥ n) (g0 : ¬ n - acked ≤ 128) (g1 : ¬ n - acked ≤ 32768) (g2 : ¬ n - acked ≤ 8388608) (g3 : ¬ n - acked ≤ 2147483648) : Calls Try.prog 9 #[.int .i64 n, .int .i64 acked] w (Two w 0 1) := by
  have e : decide (IsNum n) = true := by simp [hn]
  have e1 : decide (acked < -1) = false := decide_eq_false h1
  have e2 : decide (acked ≥ n) = false := decide_eq_false h2
  obtain ⟨n0, n1⟩ := hn
  have hwr : IntKind.i64.wrap (n - acked) = n - acked := wrap_small _ (by omega) (by omega)
  have d0 : decide (n - acked ≤ 128) = false := decide_eq_false g0
  have d1 : decide (n - acked ≤ 32768) = false := decide_eq_false g1
  have d2 : decide (n - acked ≤ 8388608) = false := decide_eq_false g2
  have d3 : decide (n - acked ≤ 2147483648) = false := decide_eq_false g3
  clear g0 g1 g2 g3 n0 n1 h1 h2
  go_enter Try.func9, Try.ntmps9
  go_wp2_with fail
  refine (right_any n _).mono ?_
  rintro e w' ⟨rfl, rfl⟩
  rw [e]
  go_wp2
  refine wp_loop_rounds 5 ?_
  repeat any_goals (rw [rounds_succ]; go_wp2)
  go_ret2
  exact ⟨rfl, rfl⟩

theorem rw_any (n acked : Int) (w : World) : Calls Try.prog 9 #[.int .i64 n, .int .i64 acked] w (Two w (widthI n acked) (if widthI n acked = 0 then 1 else 0)) := by
  by_cases h : ¬ IsNum n ∨ acked < -1 ∨ acked ≥ n
  · have e : widthI n acked = 0 := by unfold widthI; rw [if_pos h]
    rw [e]; exact rw_bad n acked w h
  · have hn : IsNum n := by
      by_cases hn : IsNum n
      · exact hn
      · exact absurd (.inl hn) h
    have h1 : ¬ acked < -1 := fun x => h (.inr (.inl x))
    have h2 : ¬ acked ≥ n := fun x => h (.inr (.inr x))
    unfold widthI
    rw [if_neg h]
    by_cases g0 : n - acked ≤ 128
    · rw [if_pos g0]; exact rw_0 n acked w hn h1 h2 g0
    rw [if_neg g0]
    by_cases g1 : n - acked ≤ 32768
    · rw [if_pos g1]; exact rw_1 n acked w hn h1 h2 g0 g1
    rw [if_neg g1]
    by_cases g2 : n - acked ≤ 8388608
    · rw [if_pos g2]; exact rw_2 n acked w hn h1 h2 g0 g1 g2
    rw [if_neg g2]
    by_cases g3 : n - acked ≤ 2147483648
    · rw [if_pos g3]; exact rw_3 n acked w hn h1 h2 g0 g1 g2 g3
    rw [if_neg g3]
    exact rw_4 n acked w hn h1 h2 g0 g1 g2 g3

set_option maxHeartbeats 800000 in
theorem cut_bad (n k : Int) (w : World) (h : ¬ IsNum n ∨ ¬ IsWid k) : Calls Try.prog 10 #[.int .i64 n, .int .i64 k] w (Two w 0 1) := by
  by_cases hn : IsNum n
  · have e : decide (IsNum n) = true := by simp [hn]
    have hk : ¬ IsWid k := by
      rcases h with h | h
      · exact absurd hn h
      · exact h
    have ek : decide (IsWid k) = false := by simp [hk]
    clear h
    go_enter Try.func10, Try.ntmps10
    go_wp2_with fail
    refine (isNumber_any n _).mono ?_
    rintro e w' ⟨rfl, rfl⟩
    rw [e]
    go_wp2_with fail
    refine (isWidth_any k _).mono ?_
    rintro e w' ⟨rfl, rfl⟩
    rw [ek]
    go_wp2
    go_ret2
    exact ⟨rfl, rfl⟩
  · have e : decide (IsNum n) = false := by simp [hn]
    clear h
    go_enter Try.func10, Try.ntmps10
    go_wp2_with fail
    refine (isNumber_any n _).mono ?_
    rintro e w' ⟨rfl, rfl⟩
    rw [e]
    go_wp2
    go_ret2
    exact ⟨rfl, rfl⟩

set_option maxHeartbeats 800000 in
theorem cut_good (n k : Int) (w : World) (hn : IsNum n) (hk : IsWid k) : Calls Try.prog 10 #[.int .i64 n, .int .i64 k] w (Two w (n % cnt k) 0) := by
  have e : decide (IsNum n) = true := by simp [hn]
  have ek : decide (IsWid k) = true := by simp [hk]
  go_enter Try.func10, Try.ntmps10
  go_wp2_with fail
  refine (isNumber_any n _).mono ?_
  rintro e w' ⟨rfl, rfl⟩
  rw [e]
  go_wp2_with fail
  refine (isWidth_any k _).mono ?_
  rintro e w' ⟨rfl, rfl⟩
  rw [ek]
  go_wp2_with fail
  refine (low_any n k _ hk).mono ?_
  rintro e w' ⟨rfl, rfl⟩
  go_wp2
  go_ret2
  exact ⟨rfl, rfl⟩

def cutOk (n k : Int) : Bool := decide (IsNum n) && decide (IsWid k)
theorem cut_any (n k : Int) (w : World) : Calls Try.prog 10 #[.int .i64 n, .int .i64 k] w (Two w (if cutOk n k then n % cnt k else 0) (if cutOk n k then 0 else 1)) := by
  by_cases hn : IsNum n
  · by_cases hk : IsWid k
    · have e : cutOk n k = true := by simp [cutOk, hn, hk]
      rw [e]; exact cut_good n k w hn hk
    · have e : cutOk n k = false := by simp [cutOk, hk]
      rw [e]; exact cut_bad n k w (.inr hk)
  · have e : cutOk n k = false := by simp [cutOk, hn]
    rw [e]; exact cut_bad n k w (.inl hn)

set_option maxHeartbeats 800000 in
theorem rcut_bad (n k : Int) (w : World) (h : ¬ IsNum n ∨ ¬ IsWid k) : Calls Try.prog 11 #[.int .i64 n, .int .i64 k] w (Two w 0 1) := by
  by_cases hn : IsNum n
  · have e : decide (IsNum n) = true := by simp [hn]
    have hk : ¬ IsWid k := by
      rcases h with h | h
      · exact absurd hn h
      · exact h
    clear h
    by_cases k1 : k < 1
    · have d1 : decide (k < 1) = true := by simp; omega
      go_enter Try.func11, Try.ntmps11
      go_wp2_with fail
      refine (right_any n _).mono ?_
      rintro e w' ⟨rfl, rfl⟩
      rw [e]
      go_wp2
      go_ret2
      exact ⟨rfl, rfl⟩
    · have d1 : decide (k < 1) = false := by simp; omega
      have d2 : decide (k > 4) = true := by unfold IsWid at hk; simp; omega
      go_enter Try.func11, Try.ntmps11
      go_wp2_with fail
      refine (right_any n _).mono ?_
      rintro e w' ⟨rfl, rfl⟩
      rw [e]
      go_wp2
      go_ret2
      exact ⟨rfl, rfl⟩
  · have e : decide (IsNum n) = false := by simp [hn]
    clear h
    go_enter Try.func11, Try.ntmps11
    go_wp2_with fail
    refine (right_any n _).mono ?_
    rintro e w' ⟨rfl, rfl⟩
    rw [e]
    go_wp2
    go_ret2
    exact ⟨rfl, rfl⟩

set_option maxHeartbeats 800000 in
theorem rcut_good (n k : Int) (w : World) (hn : IsNum n) (hk : IsWid k) : Calls Try.prog 11 #[.int .i64 n, .int .i64 k] w (Two w (n % cnt k) 0) := by
  have e : decide (IsNum n) = true := by simp [hn]
  obtain ⟨n0, n1⟩ := hn
  rcases hk.cases with rfl | rfl | rfl | rfl
  · have hm : n.tmod 256 = n % 256 := Int.tmod_eq_emod_of_nonneg n0
    go_enter Try.func11, Try.ntmps11
    go_wp2_with fail
    refine (right_any n _).mono ?_
    rintro e w' ⟨rfl, rfl⟩
    rw [e]
    go_wp2
    go_ret2
    exact ⟨rfl, rfl⟩
  · have hm : n.tmod 65536 = n % 65536 := Int.tmod_eq_emod_of_nonneg n0
    go_enter Try.func11, Try.ntmps11
    go_wp2_with fail
    refine (right_any n _).mono ?_
    rintro e w' ⟨rfl, rfl⟩
    rw [e]
    go_wp2
    go_ret2
    exact ⟨rfl, rfl⟩
  · have hm : n.tmod 16777216 = n % 16777216 := Int.tmod_eq_emod_of_nonneg n0
    go_enter Try.func11, Try.ntmps11
    go_wp2_with fail
    refine (right_any n _).mono ?_
    rintro e w' ⟨rfl, rfl⟩
    rw [e]
    go_wp2
    go_ret2
    exact ⟨rfl, rfl⟩
  · have hm : n.tmod 4294967296 = n % 4294967296 := Int.tmod_eq_emod_of_nonneg n0
    go_enter Try.func11, Try.ntmps11
    go_wp2_with fail
    refine (right_any n _).mono ?_
    rintro e w' ⟨rfl, rfl⟩
    rw [e]
    go_wp2
    go_ret2
    exact ⟨rfl, rfl⟩

theorem rcut_any (n k : Int) (w : World) : Calls Try.prog 11 #[.int .i64 n, .int .i64 k] w (Two w (if cutOk n k then n % cnt k else 0) (if cutOk n k then 0 else 1)) := by
  by_cases hn : IsNum n
  · by_cases hk : IsWid k
    · have e : cutOk n k = true := by simp [cutOk, hn, hk]
      rw [e]; exact rcut_good n k w hn hk
    · have e : cutOk n k = false := by simp [cutOk, hk]
      rw [e]; exact rcut_bad n k w (.inr hk)
  · have e : cutOk n k = false := by simp [cutOk, hn]
    rw [e]; exact rcut_bad n k w (.inl hn)
end Go.Proofs.Ytdhljbakjflpoaa
