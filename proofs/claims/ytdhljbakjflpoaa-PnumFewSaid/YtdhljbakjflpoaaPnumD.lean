/- Walks of layer 3: Grow of the reference. -/
import Derived.Test.YtdhljbakjflpoaaPnumC
namespace Go.Proofs.Ytdhljbakjflpoaa
open Go.RowKit

set_option maxHeartbeats 1600000 in
theorem rgrow_1 (l c : Int) (w : World) (h : GrowOk l c 1) : Calls Try.prog 14 #[.int .i64 l, .int .i64 c, .int .i64 1] w (Two w (growI l c 1) 0) := by
  obtain ⟨l0, l1, hk, c0, c1⟩ := h
  have c2 : c < 256 := c1
  clear hk c1
  have d0 : decide (l < -1) = false := by simp; omega
  have d1 : decide (l > 4611686018427387903) = false := by simp; omega
  have d2 : decide (c < 0) = false := by simp; omega
  have d3 : decide (c ≥ 256) = false := by simp; omega
  obtain ⟨m, hm⟩ : ∃ m, m = (c - (l + 1 - 128 + 1)) % 256 := ⟨_, rfl⟩
  have hg : Hid (growI l c 1 = if (if l + 1 - 128 + 1 + m < 0 then l + 1 - 128 + 1 + m + 256 else l + 1 - 128 + 1 + m) > 4611686018427387903 then (if l + 1 - 128 + 1 + m < 0 then l + 1 - 128 + 1 + m + 256 else l + 1 - 128 + 1 + m) - 256 else (if l + 1 - 128 + 1 + m < 0 then l + 1 - 128 + 1 + m + 256 else l + 1 - 128 + 1 + m)) := Lib.hid (grow_eq l c 1 256 m rfl hm)
  obtain ⟨q, hq⟩ : ∃ q, q = (l + 1) % 256 := ⟨_, rfl⟩
  have hqa : (l + 1).tmod 256 = q := by rw [Int.tmod_eq_emod_of_nonneg (by omega), hq]
  have q0 : 0 ≤ q := by omega
  have q1 : q < 256 := by omega
  have q2 : q ≤ l + 1 := by omega
  have hM := Lib.hid hm
  have hQ := Lib.hid hq
  have w1 : IntKind.i64.wrap (l + 1) = l + 1 := by rw [IntKind.wrap_i64]; omega
  have w2 : IntKind.i64.wrap (l + 1 - q) = l + 1 - q := by rw [IntKind.wrap_i64]; omega
  have w3 : IntKind.i64.wrap (l + 1 - q + c) = l + 1 - q + c := by rw [IntKind.wrap_i64]; omega
  have w4 : IntKind.i64.wrap (l + 1 - 128) = l + 1 - 128 := by rw [IntKind.wrap_i64]; omega
  have w5 : IntKind.i64.wrap (l + 1 + 128) = l + 1 + 128 := by rw [IntKind.wrap_i64]; omega
  clear hm hq
  go_enter Try.func14, Try.ntmps14
  go_wp2
  all_goals
    go_ret2
    exact ⟨two_eq (by have h1 := hM.out; have h2 := hQ.out; rw [hg.out]; repeat' split
                      all_goals omega), rfl⟩

set_option maxHeartbeats 1600000 in
theorem rgrow_2 (l c : Int) (w : World) (h : GrowOk l c 2) : Calls Try.prog 14 #[.int .i64 l, .int .i64 c, .int .i64 2] w (Two w (growI l c 2) 0) := by
  obtain ⟨l0, l1, hk, c0, c1⟩ := h
  have c2 : c < 65536 := c1
  clear hk c1
  have d0 : decide (l < -1) = false := by simp; omega
  have d1 : decide (l > 4611686018427387903) = false := by simp; omega
  have d2 : decide (c < 0) = false := by simp; omega
  have d3 : decide (c ≥ 65536) = false := by simp; omega
  obtain ⟨m, hm⟩ : ∃ m, m = (c - (l + 1 - 32768 + 1)) % 65536 := ⟨_, rfl⟩
  have hg : Hid (growI l c 2 = if (if l + 1 - 32768 + 1 + m < 0 then l + 1 - 32768 + 1 + m + 65536 else l + 1 - 32768 + 1 + m) > 4611686018427387903 then (if l + 1 - 32768 + 1 + m < 0 then l + 1 - 32768 + 1 + m + 65536 else l + 1 - 32768 + 1 + m) - 65536 else (if l + 1 - 32768 + 1 + m < 0 then l + 1 - 32768 + 1 + m + 65536 else l + 1 - 32768 + 1 + m)) := Lib.hid (grow_eq l c 2 65536 m rfl hm)
  obtain ⟨q, hq⟩ : ∃ q, q = (l + 1) % 65536 := ⟨_, rfl⟩
  have hqa : (l + 1).tmod 65536 = q := by rw [Int.tmod_eq_emod_of_nonneg (by omega), hq]
  have q0 : 0 ≤ q := by omega
  have q1 : q < 65536 := by omega
  have q2 : q ≤ l + 1 := by omega
  have hM := Lib.hid hm
  have hQ := Lib.hid hq
  have w1 : IntKind.i64.wrap (l + 1) = l + 1 := by rw [IntKind.wrap_i64]; omega
  have w2 : IntKind.i64.wrap (l + 1 - q) = l + 1 - q := by rw [IntKind.wrap_i64]; omega
  have w3 : IntKind.i64.wrap (l + 1 - q + c) = l + 1 - q + c := by rw [IntKind.wrap_i64]; omega
  have w4 : IntKind.i64.wrap (l + 1 - 32768) = l + 1 - 32768 := by rw [IntKind.wrap_i64]; omega
  have w5 : IntKind.i64.wrap (l + 1 + 32768) = l + 1 + 32768 := by rw [IntKind.wrap_i64]; omega
  clear hm hq
  go_enter Try.func14, Try.ntmps14
  go_wp2
  all_goals
    go_ret2
    exact ⟨two_eq (by have h1 := hM.out; have h2 := hQ.out; rw [hg.out]; repeat' split
                      all_goals omega), rfl⟩

set_option maxHeartbeats 1600000 in
theorem rgrow_3 (l c : Int) (w : World) (h : GrowOk l c 3) : Calls Try.prog 14 #[.int .i64 l, .int .i64 c, .int .i64 3] w (Two w (growI l c 3) 0) := by
  obtain ⟨l0, l1, hk, c0, c1⟩ := h
  have c2 : c < 16777216 := c1
  clear hk c1
  have d0 : decide (l < -1) = false := by simp; omega
  have d1 : decide (l > 4611686018427387903) = false := by simp; omega
  have d2 : decide (c < 0) = false := by simp; omega
  have d3 : decide (c ≥ 16777216) = false := by simp; omega
  obtain ⟨m, hm⟩ : ∃ m, m = (c - (l + 1 - 8388608 + 1)) % 16777216 := ⟨_, rfl⟩
  have hg : Hid (growI l c 3 = if (if l + 1 - 8388608 + 1 + m < 0 then l + 1 - 8388608 + 1 + m + 16777216 else l + 1 - 8388608 + 1 + m) > 4611686018427387903 then (if l + 1 - 8388608 + 1 + m < 0 then l + 1 - 8388608 + 1 + m + 16777216 else l + 1 - 8388608 + 1 + m) - 16777216 else (if l + 1 - 8388608 + 1 + m < 0 then l + 1 - 8388608 + 1 + m + 16777216 else l + 1 - 8388608 + 1 + m)) := Lib.hid (grow_eq l c 3 16777216 m rfl hm)
  obtain ⟨q, hq⟩ : ∃ q, q = (l + 1) % 16777216 := ⟨_, rfl⟩
  have hqa : (l + 1).tmod 16777216 = q := by rw [Int.tmod_eq_emod_of_nonneg (by omega), hq]
  have q0 : 0 ≤ q := by omega
  have q1 : q < 16777216 := by omega
  have q2 : q ≤ l + 1 := by omega
  have hM := Lib.hid hm
  have hQ := Lib.hid hq
  have w1 : IntKind.i64.wrap (l + 1) = l + 1 := by rw [IntKind.wrap_i64]; omega
  have w2 : IntKind.i64.wrap (l + 1 - q) = l + 1 - q := by rw [IntKind.wrap_i64]; omega
  have w3 : IntKind.i64.wrap (l + 1 - q + c) = l + 1 - q + c := by rw [IntKind.wrap_i64]; omega
  have w4 : IntKind.i64.wrap (l + 1 - 8388608) = l + 1 - 8388608 := by rw [IntKind.wrap_i64]; omega
  have w5 : IntKind.i64.wrap (l + 1 + 8388608) = l + 1 + 8388608 := by rw [IntKind.wrap_i64]; omega
  clear hm hq
  go_enter Try.func14, Try.ntmps14
  go_wp2
  all_goals
    go_ret2
    exact ⟨two_eq (by have h1 := hM.out; have h2 := hQ.out; rw [hg.out]; repeat' split
                      all_goals omega), rfl⟩

set_option maxHeartbeats 1600000 in
theorem rgrow_4 (l c : Int) (w : World) (h : GrowOk l c 4) : Calls Try.prog 14 #[.int .i64 l, .int .i64 c, .int .i64 4] w (Two w (growI l c 4) 0) := by
  obtain ⟨l0, l1, hk, c0, c1⟩ := h
  have c2 : c < 4294967296 := c1
  clear hk c1
  have d0 : decide (l < -1) = false := by simp; omega
  have d1 : decide (l > 4611686018427387903) = false := by simp; omega
  have d2 : decide (c < 0) = false := by simp; omega
  have d3 : decide (c ≥ 4294967296) = false := by simp; omega
  obtain ⟨m, hm⟩ : ∃ m, m = (c - (l + 1 - 2147483648 + 1)) % 4294967296 := ⟨_, rfl⟩
  have hg : Hid (growI l c 4 = if (if l + 1 - 2147483648 + 1 + m < 0 then l + 1 - 2147483648 + 1 + m + 4294967296 else l + 1 - 2147483648 + 1 + m) > 4611686018427387903 then (if l + 1 - 2147483648 + 1 + m < 0 then l + 1 - 2147483648 + 1 + m + 4294967296 else l + 1 - 2147483648 + 1 + m) - 4294967296 else (if l + 1 - 2147483648 + 1 + m < 0 then l + 1 - 2147483648 + 1 + m + 4294967296 else l + 1 - 2147483648 + 1 + m)) := Lib.hid (grow_eq l c 4 4294967296 m rfl hm)
  obtain ⟨q, hq⟩ : ∃ q, q = (l + 1) % 4294967296 := ⟨_, rfl⟩
  have hqa : (l + 1).tmod 4294967296 = q := by rw [Int.tmod_eq_emod_of_nonneg (by omega), hq]
  have q0 : 0 ≤ q := by omega
  have q1 : q < 4294967296 := by omega
  have q2 : q ≤ l + 1 := by omega
  have hM := Lib.hid hm
  have hQ := Lib.hid hq
  have w1 : IntKind.i64.wrap (l + 1) = l + 1 := by rw [IntKind.wrap_i64]; omega
  have w2 : IntKind.i64.wrap (l + 1 - q) = l + 1 - q := by rw [IntKind.wrap_i64]; omega
  have w3 : IntKind.i64.wrap (l + 1 - q + c) = l + 1 - q + c := by rw [IntKind.wrap_i64]; omega
  have w4 : IntKind.i64.wrap (l + 1 - 2147483648) = l + 1 - 2147483648 := by rw [IntKind.wrap_i64]; omega
  have w5 : IntKind.i64.wrap (l + 1 + 2147483648) = l + 1 + 2147483648 := by rw [IntKind.wrap_i64]; omega
  clear hm hq
  go_enter Try.func14, Try.ntmps14
  go_wp2
  all_goals
    go_ret2
    exact ⟨two_eq (by have h1 := hM.out; have h2 := hQ.out; rw [hg.out]; repeat' split
                      all_goals omega), rfl⟩

set_option maxHeartbeats 1600000 in
theorem rgrow_bad (l c k : Int) (w : World) (h : ¬ GrowOk l c k) : Calls Try.prog 14 #[.int .i64 l, .int .i64 c, .int .i64 k] w (Two w 0 1) := by
  by_cases l0 : l < -1
  · have d0 : decide (l < -1) = true := by simp [l0]
    clear h
    go_enter Try.func14, Try.ntmps14
    go_wp2
    go_ret2
    exact ⟨rfl, rfl⟩
  have d0 : decide (l < -1) = false := by simp; omega
  by_cases l1 : l > 4611686018427387903
  · have d1 : decide (l > 4611686018427387903) = true := by simp; omega
    clear h
    go_enter Try.func14, Try.ntmps14
    go_wp2
    go_ret2
    exact ⟨rfl, rfl⟩
  have d1 : decide (l > 4611686018427387903) = false := by simp; omega
  by_cases k0 : k < 1
  · have d2 : decide (k < 1) = true := by simp; omega
    clear h
    go_enter Try.func14, Try.ntmps14
    go_wp2
    go_ret2
    exact ⟨rfl, rfl⟩
  have d2 : decide (k < 1) = false := by simp; omega
  by_cases k1 : k > 4
  · have d3 : decide (k > 4) = true := by simp; omega
    clear h
    go_enter Try.func14, Try.ntmps14
    go_wp2
    go_ret2
    exact ⟨rfl, rfl⟩
  have d3 : decide (k > 4) = false := by simp; omega
  have hk : IsWid k := ⟨by omega, by omega⟩
  by_cases c0 : c < 0
  · have d4 : decide (c < 0) = true := by simp; omega
    clear h
    go_enter Try.func14, Try.ntmps14
    go_wp2
    go_ret2
    exact ⟨rfl, rfl⟩
  · have d4 : decide (c < 0) = false := by simp; omega
    rcases hk.cases with rfl | rfl | rfl | rfl
    · have d7 : decide (c ≥ 256) = true := by
        by_cases c1 : c < 256
        · exact absurd ⟨by omega, by omega, hk, by omega, c1⟩ h
        · simp; omega
      clear h
      go_enter Try.func14, Try.ntmps14
      go_wp2
      go_ret2
      exact ⟨rfl, rfl⟩
    · have d7 : decide (c ≥ 65536) = true := by
        by_cases c1 : c < 65536
        · exact absurd ⟨by omega, by omega, hk, by omega, c1⟩ h
        · simp; omega
      clear h
      go_enter Try.func14, Try.ntmps14
      go_wp2
      go_ret2
      exact ⟨rfl, rfl⟩
    · have d7 : decide (c ≥ 16777216) = true := by
        by_cases c1 : c < 16777216
        · exact absurd ⟨by omega, by omega, hk, by omega, c1⟩ h
        · simp; omega
      clear h
      go_enter Try.func14, Try.ntmps14
      go_wp2
      go_ret2
      exact ⟨rfl, rfl⟩
    · have d7 : decide (c ≥ 4294967296) = true := by
        by_cases c1 : c < 4294967296
        · exact absurd ⟨by omega, by omega, hk, by omega, c1⟩ h
        · simp; omega
      clear h
      go_enter Try.func14, Try.ntmps14
      go_wp2
      go_ret2
      exact ⟨rfl, rfl⟩

theorem rgrow_any (l c k : Int) (w : World) : Calls Try.prog 14 #[.int .i64 l, .int .i64 c, .int .i64 k] w (Two w (if GrowOk l c k then growI l c k else 0) (if GrowOk l c k then 0 else 1)) := by
  by_cases h : GrowOk l c k
  · rw [if_pos h, if_pos h]
    rcases h.2.2.1.cases with rfl | rfl | rfl | rfl
    · exact rgrow_1 l c w h
    · exact rgrow_2 l c w h
    · exact rgrow_3 l c w h
    · exact rgrow_4 l c w h
  · rw [if_neg h, if_neg h]
    exact rgrow_bad l c k w h
end Go.Proofs.Ytdhljbakjflpoaa
