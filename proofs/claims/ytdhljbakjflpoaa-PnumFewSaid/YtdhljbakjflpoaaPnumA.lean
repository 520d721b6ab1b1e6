/- Walks of layer 3: isNumber, isWidth, count, low, Right. -/
import Derived.Test.YtdhljbakjflpoaaPnumM
namespace Go.Proofs.Ytdhljbakjflpoaa
open Go.RowKit

theorem isNumber_any (n : Int) (w : World) :
    Calls Try.prog 15 #[.int .i64 n] w fun e w' => e = .returned (.bool (decide (IsNum n))) ∧ w = w' := by
  by_cases h0 : 0 ≤ n
  · by_cases h1 : n ≤ 4611686018427387903
    · have e : decide (IsNum n) = true := by simp [IsNum, h0, h1]
      rw [e]
      clear e
      have d0 : decide (n ≥ 0) = true := by simp [h0]
      have d1 : decide (n ≤ 4611686018427387903) = true := by simp [h1]
      go_enter Try.func15, Try.ntmps15
      go_wp2
      go_ret
      exact ⟨rfl, rfl⟩
    · have e : decide (IsNum n) = false := by simp [IsNum, h1]
      rw [e]
      clear e
      have d0 : decide (n ≥ 0) = true := by simp [h0]
      have d1 : decide (n ≤ 4611686018427387903) = false := by simp [h1]
      go_enter Try.func15, Try.ntmps15
      go_wp2
      go_ret
      exact ⟨rfl, rfl⟩
  · have e : decide (IsNum n) = false := by simp [IsNum, h0]
    rw [e]
    clear e
    have d0 : decide (n ≥ 0) = false := by simp; omega
    go_enter Try.func15, Try.ntmps15
    go_wp2
    go_ret
    exact ⟨rfl, rfl⟩

theorem right_any (n : Int) (w : World) :
    Calls Try.prog 17 #[.int .i64 n] w fun e w' => e = .returned (.bool (decide (IsNum n))) ∧ w = w' := by
  by_cases h0 : 0 ≤ n
  · by_cases h1 : n ≤ 4611686018427387903
    · have e : decide (IsNum n) = true := by simp [IsNum, h0, h1]
      rw [e]
      clear e
      have d0 : decide (n ≥ 0) = true := by simp [h0]
      have d1 : decide (n ≤ 4611686018427387903) = true := by simp [h1]
      go_enter Try.func17, Try.ntmps17
      go_wp2
      go_ret
      exact ⟨rfl, rfl⟩
    · have e : decide (IsNum n) = false := by simp [IsNum, h1]
      rw [e]
      clear e
      have d0 : decide (n ≥ 0) = true := by simp [h0]
      have d1 : decide (n ≤ 4611686018427387903) = false := by simp [h1]
      go_enter Try.func17, Try.ntmps17
      go_wp2
      go_ret
      exact ⟨rfl, rfl⟩
  · have e : decide (IsNum n) = false := by simp [IsNum, h0]
    rw [e]
    clear e
    have d0 : decide (n ≥ 0) = false := by simp; omega
    go_enter Try.func17, Try.ntmps17
    go_wp2
    go_ret
    exact ⟨rfl, rfl⟩

theorem isWidth_any (n : Int) (w : World) :
    Calls Try.prog 18 #[.int .i64 n] w fun e w' => e = .returned (.bool (decide (IsWid n))) ∧ w = w' := by
  by_cases h0 : 1 ≤ n
  · by_cases h1 : n ≤ 4
    · have e : decide (IsWid n) = true := by simp [IsWid, h0, h1]
      rw [e]
      clear e
      have d0 : decide (n ≥ 1) = true := by simp [h0]
      have d1 : decide (n ≤ 4) = true := by simp [h1]
      go_enter Try.func18, Try.ntmps18
      go_wp2
      go_ret
      exact ⟨rfl, rfl⟩
    · have e : decide (IsWid n) = false := by simp [IsWid, h1]
      rw [e]
      clear e
      have d0 : decide (n ≥ 1) = true := by simp [h0]
      have d1 : decide (n ≤ 4) = false := by simp [h1]
      go_enter Try.func18, Try.ntmps18
      go_wp2
      go_ret
      exact ⟨rfl, rfl⟩
  · have e : decide (IsWid n) = false := by simp [IsWid, h0]
    rw [e]
    clear e
    have d0 : decide (n ≥ 1) = false := by simp; omega
    go_enter Try.func18, Try.ntmps18
    go_wp2
    go_ret
    exact ⟨rfl, rfl⟩

theorem count_any (n : Int) (w : World) (h : IsWid n) :
    Calls Try.prog 16 #[.int .i64 n] w fun e w' => e = .returned (.int .i64 (cnt n)) ∧ w = w' := by
  rcases h.cases with rfl | rfl | rfl | rfl
  all_goals
    go_enter Try.func16, Try.ntmps16
    go_wp2
    go_ret
    exact ⟨rfl, rfl⟩

theorem low_any (n k : Int) (w : World) (h : IsWid k) :
    Calls Try.prog 19 #[.int .i64 n, .int .i64 k] w fun e w' => e = .returned (.int .i64 (n % cnt k)) ∧ w = w' := by
  have hm1 := Lib.hid (mask1 n)
  have hm2 := Lib.hid (mask2 n)
  have hm3 := Lib.hid (mask3 n)
  have hm4 := Lib.hid (mask4 n)
  rcases h.cases with rfl | rfl | rfl | rfl
  · have hm := hm1.out
    go_enter Try.func19, Try.ntmps19
    go_wp2
    go_ret
    exact ⟨rfl, rfl⟩
  · have hm := hm2.out
    go_enter Try.func19, Try.ntmps19
    go_wp2
    go_ret
    exact ⟨rfl, rfl⟩
  · have hm := hm3.out
    go_enter Try.func19, Try.ntmps19
    go_wp2
    go_ret
    exact ⟨rfl, rfl⟩
  · have hm := hm4.out
    go_enter Try.func19, Try.ntmps19
    go_wp2
    go_ret
    exact ⟨rfl, rfl⟩
end Go.Proofs.Ytdhljbakjflpoaa
