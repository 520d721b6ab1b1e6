/- Walks of layer 3: Grow of the code. -/
import Derived.Test.YtdhljbakjflpoaaPnumB
namespace Go.Proofs.Ytdhljbakjflpoaa
open Go.RowKit

theorem two_eq {a b c : Int} (h : a = b) : Ending.returned (.tuple #[.int .i64 a, .int .i64 c]) = Ending.returned (.tuple #[.int .i64 b, .int .i64 c]) := by rw [h]
theorem grow_eq (l c w k m : Int) (hk : cnt w = k) (hm : m = (c - (l + 1 - k / 2 + 1)) % k) :
    growI l c w = if (if l + 1 - k / 2 + 1 + m < 0 then l + 1 - k / 2 + 1 + m + k else l + 1 - k / 2 + 1 + m) > 4611686018427387903 then (if l + 1 - k / 2 + 1 + m < 0 then l + 1 - k / 2 + 1 + m + k else l + 1 - k / 2 + 1 + m) - k else (if l + 1 - k / 2 + 1 + m < 0 then l + 1 - k / 2 + 1 + m + k else l + 1 - k / 2 + 1 + m) := by
  subst hm; subst hk; rfl

set_option maxHeartbeats 1600000 in
theorem grow_1 (l c : Int) (w : World) (h : GrowOk l c 1) : Calls Try.prog 13 #[.int .i64 l, .int .i64 c, .int .i64 1] w (Two w (growI l c 1) 0) := by
  obtain ⟨l0, l1, hk, c0, c1⟩ := h
  have c2 : c < 256 := c1
  clear hk c1
  have d2 : decide (c < 0) = false := by simp; omega
  have d3 : decide (c ≥ 256) = false := by simp; omega
  obtain ⟨m, hm⟩ : ∃ m, m = (c - (l + 1 - 128 + 1)) % 256 := ⟨_, rfl⟩
  have hg : Hid (growI l c 1 = if (if l + 1 - 128 + 1 + m < 0 then l + 1 - 128 + 1 + m + 256 else l + 1 - 128 + 1 + m) > 4611686018427387903 then (if l + 1 - 128 + 1 + m < 0 then l + 1 - 128 + 1 + m + 256 else l + 1 - 128 + 1 + m) - 256 else (if l + 1 - 128 + 1 + m < 0 then l + 1 - 128 + 1 + m + 256 else l + 1 - 128 + 1 + m)) := Lib.hid (grow_eq l c 1 256 m rfl hm)
  have hma := mask1 (c - (l + 1 - 128 + 1))
  rw [← hm] at hma
  have m0 : 0 ≤ m := by omega
  have m1 : m < 256 := by omega
  clear hm
  by_cases hl : l = -1
  · subst hl
    have e : c - (-1 + 1 - 128 + 1) = c + 127 := by omega
    rw [e] at hma
    clear e
    go_enter Try.func13, Try.ntmps13
    go_wp2
    all_goals
      go_ret2
      exact ⟨two_eq (by rw [hg.out]; repeat' split
                        all_goals omega), rfl⟩
  · have e : (l == -1) = false := by simp [hl]
    have en : decide (IsNum l) = true := decide_eq_true ⟨by omega, l1⟩
    have w1 : IntKind.i64.wrap (l + 1) = l + 1 := by rw [IntKind.wrap_i64]; omega
    have w2 : IntKind.i64.wrap (l + 1 - 128) = l + 1 - 128 := by rw [IntKind.wrap_i64]; omega
    have w3 : IntKind.i64.wrap (l + 1 - 128 + 1) = l + 1 - 128 + 1 := by rw [IntKind.wrap_i64]; omega
    have w4 : IntKind.i64.wrap (c - (l + 1 - 128 + 1)) = c - (l + 1 - 128 + 1) := by rw [IntKind.wrap_i64]; omega
    have w5 : IntKind.i64.wrap (l + 1 - 128 + 1 + m) = l + 1 - 128 + 1 + m := by rw [IntKind.wrap_i64]; omega
    go_enter Try.func13, Try.ntmps13
    go_wp2_with fail
    refine (isNumber_any l _).mono ?_
    rintro e w' ⟨rfl, rfl⟩
    rw [en]
    go_wp2
    all_goals
      go_ret2
      exact ⟨two_eq (by rw [hg.out]; repeat' split
                        all_goals omega), rfl⟩

set_option maxHeartbeats 1600000 in
theorem grow_2 (l c : Int) (w : World) (h : GrowOk l c 2) : Calls Try.prog 13 #[.int .i64 l, .int .i64 c, .int .i64 2] w (Two w (growI l c 2) 0) := by
  obtain ⟨l0, l1, hk, c0, c1⟩ := h
  have c2 : c < 65536 := c1
  clear hk c1
  have d2 : decide (c < 0) = false := by simp; omega
  have d3 : decide (c ≥ 65536) = false := by simp; omega
  obtain ⟨m, hm⟩ : ∃ m, m = (c - (l + 1 - 32768 + 1)) % 65536 := ⟨_, rfl⟩
  have hg : Hid (growI l c 2 = if (if l + 1 - 32768 + 1 + m < 0 then l + 1 - 32768 + 1 + m + 65536 else l + 1 - 32768 + 1 + m) > 4611686018427387903 then (if l + 1 - 32768 + 1 + m < 0 then l + 1 - 32768 + 1 + m + 65536 else l + 1 - 32768 + 1 + m) - 65536 else (if l + 1 - 32768 + 1 + m < 0 then l + 1 - 32768 + 1 + m + 65536 else l + 1 - 32768 + 1 + m)) := Lib.hid (grow_eq l c 2 65536 m rfl hm)
  have hma := mask2 (c - (l + 1 - 32768 + 1))
  rw [← hm] at hma
  have m0 : 0 ≤ m := by omega
  have m1 : m < 65536 := by omega
  clear hm
  by_cases hl : l = -1
  · subst hl
    have e : c - (-1 + 1 - 32768 + 1) = c + 32767 := by omega
    rw [e] at hma
    clear e
    go_enter Try.func13, Try.ntmps13
    go_wp2
    all_goals
      go_ret2
      exact ⟨two_eq (by rw [hg.out]; repeat' split
                        all_goals omega), rfl⟩
  · have e : (l == -1) = false := by simp [hl]
    have en : decide (IsNum l) = true := decide_eq_true ⟨by omega, l1⟩
    have w1 : IntKind.i64.wrap (l + 1) = l + 1 := by rw [IntKind.wrap_i64]; omega
    have w2 : IntKind.i64.wrap (l + 1 - 32768) = l + 1 - 32768 := by rw [IntKind.wrap_i64]; omega
    have w3 : IntKind.i64.wrap (l + 1 - 32768 + 1) = l + 1 - 32768 + 1 := by rw [IntKind.wrap_i64]; omega
    have w4 : IntKind.i64.wrap (c - (l + 1 - 32768 + 1)) = c - (l + 1 - 32768 + 1) := by rw [IntKind.wrap_i64]; omega
    have w5 : IntKind.i64.wrap (l + 1 - 32768 + 1 + m) = l + 1 - 32768 + 1 + m := by rw [IntKind.wrap_i64]; omega
    go_enter Try.func13, Try.ntmps13
    go_wp2_with fail
    refine (isNumber_any l _).mono ?_
    rintro e w' ⟨rfl, rfl⟩
    rw [en]
    go_wp2
    all_goals
      go_ret2
      exact ⟨two_eq (by rw [hg.out]; repeat' split
                        all_goals omega), rfl⟩

set_option maxHeartbeats 1600000 in
theorem grow_3 (l c : Int) (w : World) (h : GrowOk l c 3) : Calls Try.prog 13 #[.int .i64 l, .int .i64 c, .int .i64 3] w (Two w (growI l c 3) 0) := by
  obtain ⟨l0, l1, hk, c0, c1⟩ := h
  have c2 : c < 16777216 := c1
  clear hk c1
  have d2 : decide (c < 0) = false := by simp; omega
  have d3 : decide (c ≥ 16777216) = false := by simp; omega
  obtain ⟨m, hm⟩ : ∃ m, m = (c - (l + 1 - 8388608 + 1)) % 16777216 := ⟨_, rfl⟩
  have hg : Hid (growI l c 3 = if (if l + 1 - 8388608 + 1 + m < 0 then l + 1 - 8388608 + 1 + m + 16777216 else l + 1 - 8388608 + 1 + m) > 4611686018427387903 then (if l + 1 - 8388608 + 1 + m < 0 then l + 1 - 8388608 + 1 + m + 16777216 else l + 1 - 8388608 + 1 + m) - 16777216 else (if l + 1 - 8388608 + 1 + m < 0 then l + 1 - 8388608 + 1 + m + 16777216 else l + 1 - 8388608 + 1 + m)) := Lib.hid (grow_eq l c 3 16777216 m rfl hm)
  have hma := mask3 (c - (l + 1 - 8388608 + 1))
  rw [← hm] at hma
  have m0 : 0 ≤ m := by omega
  have m1 : m < 16777216 := by omega
  clear hm
  by_cases hl : l = -1
  · subst hl
    have e : c - (-1 + 1 - 8388608 + 1) = c + 8388607 := by omega
    rw [e] at hma
    clear e
    go_enter Try.func13, Try.ntmps13
    go_wp2
    all_goals
      go_ret2
      exact ⟨two_eq (by rw [hg.out]; repeat' split
                        all_goals omega), rfl⟩
  · have e : (l == -1) = false := by simp [hl]
    have en : decide (IsNum l) = true := decide_eq_true ⟨by omega, l1⟩
    have w1 : IntKind.i64.wrap (l + 1) = l + 1 := by rw [IntKind.wrap_i64]; omega
    have w2 : IntKind.i64.wrap (l + 1 - 8388608) = l + 1 - 8388608 := by rw [IntKind.wrap_i64]; omega
    have w3 : IntKind.i64.wrap (l + 1 - 8388608 + 1) = l + 1 - 8388608 + 1 := by rw [IntKind.wrap_i64]; omega
    have w4 : IntKind.i64.wrap (c - (l + 1 - 8388608 + 1)) = c - (l + 1 - 8388608 + 1) := by rw [IntKind.wrap_i64]; omega
    have w5 : IntKind.i64.wrap (l + 1 - 8388608 + 1 + m) = l + 1 - 8388608 + 1 + m := by rw [IntKind.wrap_i64]; omega
    go_enter Try.func13, Try.ntmps13
    go_wp2_with fail
    refine (isNumber_any l _).mono ?_
    rintro e w' ⟨rfl, rfl⟩
    rw [en]
    go_wp2
    all_goals
      go_ret2
      exact ⟨two_eq (by rw [hg.out]; repeat' split
                        all_goals omega), rfl⟩

set_option maxHeartbeats 1600000 in
theorem grow_4 (l c : Int) (w : World) (h : GrowOk l c 4) : Calls Try.prog 13 #[.int .i64 l, .int .i64 c, .int .i64 4] w (Two w (growI l c 4) 0) := by
  obtain ⟨l0, l1, hk, c0, c1⟩ := h
  have c2 : c < 4294967296 := c1
  clear hk c1
  have d2 : decide (c < 0) = false := by simp; omega
  have d3 : decide (c ≥ 4294967296) = false := by simp; omega
  obtain ⟨m, hm⟩ : ∃ m, m = (c - (l + 1 - 2147483648 + 1)) % 4294967296 := ⟨_, rfl⟩
  have hg : Hid (growI l c 4 = if (if l + 1 - 2147483648 + 1 + m < 0 then l + 1 - 2147483648 + 1 + m + 4294967296 else l + 1 - 2147483648 + 1 + m) > 4611686018427387903 then (if l + 1 - 2147483648 + 1 + m < 0 then l + 1 - 2147483648 + 1 + m + 4294967296 else l + 1 - 2147483648 + 1 + m) - 4294967296 else (if l + 1 - 2147483648 + 1 + m < 0 then l + 1 - 2147483648 + 1 + m + 4294967296 else l + 1 - 2147483648 + 1 + m)) := Lib.hid (grow_eq l c 4 4294967296 m rfl hm)
  have hma := mask4 (c - (l + 1 - 2147483648 + 1))
  rw [← hm] at hma
  have m0 : 0 ≤ m := by omega
  have m1 : m < 4294967296 := by omega
  clear hm
  by_cases hl : l = -1
  · subst hl
    have e : c - (-1 + 1 - 2147483648 + 1) = c + 2147483647 := by omega
    rw [e] at hma
    clear e
    go_enter Try.func13, Try.ntmps13
    go_wp2
    all_goals
      go_ret2
      exact ⟨two_eq (by rw [hg.out]; repeat' split
                        all_goals omega), rfl⟩
  · have e : (l == -1) = false := by simp [hl]
    have en : decide (IsNum l) = true := decide_eq_true ⟨by omega, l1⟩
    have w1 : IntKind.i64.wrap (l + 1) = l + 1 := by rw [IntKind.wrap_i64]; omega
    have w2 : IntKind.i64.wrap (l + 1 - 2147483648) = l + 1 - 2147483648 := by rw [IntKind.wrap_i64]; omega
    have w3 : IntKind.i64.wrap (l + 1 - 2147483648 + 1) = l + 1 - 2147483648 + 1 := by rw [IntKind.wrap_i64]; omega
    have w4 : IntKind.i64.wrap (c - (l + 1 - 2147483648 + 1)) = c - (l + 1 - 2147483648 + 1) := by rw [IntKind.wrap_i64]; omega
    have w5 : IntKind.i64.wrap (l + 1 - 2147483648 + 1 + m) = l + 1 - 2147483648 + 1 + m := by rw [IntKind.wrap_i64]; omega
    go_enter Try.func13, Try.ntmps13
    go_wp2_with fail
    refine (isNumber_any l _).mono ?_
    rintro e w' ⟨rfl, rfl⟩
    rw [en]
    go_wp2
    all_goals
      go_ret2
      exact ⟨two_eq (by rw [hg.out]; repeat' split
                        all_goals omega), rfl⟩

set_option maxHeartbeats 1600000 in
theorem grow_bad (l c k : Int) (w : World) (h : ¬ GrowOk l c k) : Calls Try.prog 13 #[.int .i64 l, .int .i64 c, .int .i64 k] w (Two w 0 1) := by
  by_cases hl : l = -1
  · subst hl
    by_cases hk : IsWid k
    · have ek : decide (IsWid k) = true := by simp [hk]
      by_cases c0 : c < 0
      · have d2 : decide (c < 0) = true := by simp [c0]
        clear h
        go_enter Try.func13, Try.ntmps13
        go_wp2_with fail
        refine (isWidth_any k _).mono ?_
        rintro e w' ⟨rfl, rfl⟩
        rw [ek]
        go_wp2
        go_ret2
        exact ⟨rfl, rfl⟩
      · have d2 : decide (c < 0) = false := by simp; omega
        have d3 : decide (c ≥ cnt k) = true := by
          by_cases c1 : c < cnt k
          · exact absurd ⟨by omega, by omega, hk, by omega, c1⟩ h
          · simp; omega
        clear h
        go_enter Try.func13, Try.ntmps13
        go_wp2_with fail
        refine (isWidth_any k _).mono ?_
        rintro e w' ⟨rfl, rfl⟩
        rw [ek]
        go_wp2_with fail
        refine (count_any k _ hk).mono ?_
        rintro e w' ⟨rfl, rfl⟩
        go_wp2
        go_ret2
        exact ⟨rfl, rfl⟩
    · have ek : decide (IsWid k) = false := by simp [hk]
      clear h
      go_enter Try.func13, Try.ntmps13
      go_wp2_with fail
      refine (isWidth_any k _).mono ?_
      rintro e w' ⟨rfl, rfl⟩
      rw [ek]
      go_wp2
      go_ret2
      exact ⟨rfl, rfl⟩
  · have e : (l == -1) = false := by simp [hl]
    by_cases hn : IsNum l
    · have en : decide (IsNum l) = true := by simp [hn]
      by_cases hk : IsWid k
      · have ek : decide (IsWid k) = true := by simp [hk]
        by_cases c0 : c < 0
        · have d2 : decide (c < 0) = true := by simp [c0]
          clear h
          go_enter Try.func13, Try.ntmps13
          go_wp2_with fail
          refine (isNumber_any l _).mono ?_
          rintro e w' ⟨rfl, rfl⟩
          rw [en]
          go_wp2_with fail
          refine (isWidth_any k _).mono ?_
          rintro e w' ⟨rfl, rfl⟩
          rw [ek]
          go_wp2
          go_ret2
          exact ⟨rfl, rfl⟩
        · have d2 : decide (c < 0) = false := by simp; omega
          have d3 : decide (c ≥ cnt k) = true := by
            by_cases c1 : c < cnt k
            · exact absurd ⟨by have := hn.1; omega, hn.2, hk, by omega, c1⟩ h
            · simp; omega
          clear h
          go_enter Try.func13, Try.ntmps13
          go_wp2_with fail
          refine (isNumber_any l _).mono ?_
          rintro e w' ⟨rfl, rfl⟩
          rw [en]
          go_wp2_with fail
          refine (isWidth_any k _).mono ?_
          rintro e w' ⟨rfl, rfl⟩
          rw [ek]
          go_wp2_with fail
          refine (count_any k _ hk).mono ?_
          rintro e w' ⟨rfl, rfl⟩
          go_wp2
          go_ret2
          exact ⟨rfl, rfl⟩
      · have ek : decide (IsWid k) = false := by simp [hk]
        clear h
        go_enter Try.func13, Try.ntmps13
        go_wp2_with fail
        refine (isNumber_any l _).mono ?_
        rintro e w' ⟨rfl, rfl⟩
        rw [en]
        go_wp2_with fail
        refine (isWidth_any k _).mono ?_
        rintro e w' ⟨rfl, rfl⟩
        rw [ek]
        go_wp2
        go_ret2
        exact ⟨rfl, rfl⟩
    · have en : decide (IsNum l) = false := by simp [hn]
      clear h
      go_enter Try.func13, Try.ntmps13
      go_wp2_with fail
      refine (isNumber_any l _).mono ?_
      rintro e w' ⟨rfl, rfl⟩
      rw [en]
      go_wp2
      go_ret2
      exact ⟨rfl, rfl⟩

theorem grow_any (l c k : Int) (w : World) : Calls Try.prog 13 #[.int .i64 l, .int .i64 c, .int .i64 k] w (Two w (if GrowOk l c k then growI l c k else 0) (if GrowOk l c k then 0 else 1)) := by
  by_cases h : GrowOk l c k
  · rw [if_pos h, if_pos h]
    rcases h.2.2.1.cases with rfl | rfl | rfl | rfl
    · exact grow_1 l c w h
    · exact grow_2 l c w h
    · exact grow_3 l c w h
    · exact grow_4 l c w h
  · rw [if_neg h, if_neg h]
    exact grow_bad l c k w h
end Go.Proofs.Ytdhljbakjflpoaa
