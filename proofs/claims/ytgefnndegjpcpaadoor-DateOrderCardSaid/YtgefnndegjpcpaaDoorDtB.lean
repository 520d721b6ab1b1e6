/- Walks of layer 16: years, months, numbers. -/
import Derived.Test.YtgefnndegjpcpaaDoorDtA
set_option maxRecDepth 100000
set_option linter.unusedSimpArgs false
set_option linter.unusedVariables false
namespace Go.Proofs.YtgefnndegjpcpaaDoor
open Go.RowKit

set_option maxHeartbeats 1600000 in
theorem toYear_any (y : Int) (w : World) (h0 : 0 ≤ y) (h1 : y ≤ 10000) :
    Calls Tryd.prog 23 #[.int .i64 y] w fun e w' => e = .returned (.int .i64 (toYear y)) ∧ w' = w := by
  have e1 := wraps_i64' (y + 3) (by omega) (by omega)
  have e2 := wraps_i64' (y + 99) (by omega) (by omega)
  have e3 := wraps_i64' (y + 399) (by omega) (by omega)
  have d1 := wquo (y + 3) 4 (by omega) (by omega) (by decide)
  have d2 := wquo (y + 99) 100 (by omega) (by omega) (by decide)
  have d3 := wquo (y + 399) 400 (by omega) (by omega) (by decide)
  have s1 := wraps_i64' ((y + 3) / 4 - (y + 99) / 100) (by omega) (by omega)
  have s2 := wraps_i64' ((y + 3) / 4 - (y + 99) / 100 + (y + 399) / 400) (by omega) (by omega)
  have m1 := wraps_i64' (y * 365) (by omega) (by omega)
  have m2 := wraps_i64' (y * 365 + ((y + 3) / 4 - (y + 99) / 100 + (y + 399) / 400)) (by omega) (by omega)
  unfold toYear
  go_enter Tryd.func23, Tryd.ntmps23
  go_wp2
  go_ret
  exact ⟨rfl, rfl⟩

set_option maxHeartbeats 1600000 in
theorem toMon_any (y m : Int) (w : World) (h0 : 0 ≤ y) (h1 : y ≤ 9999) (m0 : 1 ≤ m) (m1 : m ≤ 12) :
    Calls Tryd.prog 24 #[.int .i64 y, .int .i64 m] w fun e w' => e = .returned (.int .i64 (toMon y (m - 1).toNat)) ∧ Below w.heap.size w w' := by
  have BB := Lib.hid (Below.refl w.heap.size w)
  go_enter Tryd.func24, Tryd.ntmps24
  go_wp2_with fail
  go_loopw [5, 6] (fun a b wx => ∃ k : Nat, k < 12 ∧ (k : Int) + 1 ≤ m ∧ a = .int .i64 (toMon y k) ∧ b = .int .i64 ((k : Int) + 1) ∧ Below w.heap.size w wx) (fun _ b _ => 13 - (intOf b).toNat)
  case atStart => exact ⟨0, by omega, by omega, rfl, rfl, BB.out⟩
  case round =>
    obtain ⟨k, hk, hkm, rfl, rfl, hb⟩ := hrel
    have BB := Lib.hid hb
    clear hb
    have hd := dim_bound y ((k : Int) + 1)
    have hn := mon_nonneg y k
    have hl := mon_le y (k := k) (by omega)
    have hs : toMon y (k + 1) = toMon y k + dim y ((k : Int) + 1) := rfl
    have hw1 := wraps_i64' ((k : Int) + 1 + 1) (by omega) (by omega)
    have hw2 := wraps_i64' (toMon y k + dim y ((k : Int) + 1)) (by omega) (by omega)
    have HS := Lib.hid hs
    have HV : Hid (¬ (k : Int) + 1 < m → toMon y k = toMon y (m - 1).toNat) := fun h => by rw [show (m - 1).toNat = k by omega]
    have DM := Lib.hid (fun W => dim_any y ((k : Int) + 1) W h0 h1 (by omega) (by omega))
    generalize toMon y k = s at hw2 HS hn hl HV ⊢
    generalize dim y ((k : Int) + 1) = d at hw2 HS DM hd
    clear hs
    by_cases hlt : (k : Int) + 1 < m
    · go_wp2_with (go_at_call 38; refine (DM.out _).mono ?_; rintro x w2 ⟨rfl, hb⟩; have B2 := Lib.hid (BB.out.trans (hb.mono BB.out.size)); clear hb)
      go_round
      case rel => exact ⟨k + 1, by omega, by omega, by rw [HS.out], by go_num, B2.out⟩
      case measure => simp [intOf, hw1]; omega
    · have e := HV.out hlt
      subst e
      clear DM HS HV
      go_wp2_with fail
      go_ret
      exact ⟨rfl, BB.out⟩

set_option maxHeartbeats 1600000 in
/-- the year of a day -/
theorem yearOf_any (y r : Int) (w : World) (h0 : 0 ≤ y) (h1 : y ≤ 9999) (r0 : 0 ≤ r) (r1 : toYear y + r < toYear (y + 1)) :
    Calls Tryd.prog 29 #[.int .i64 (toYear y + r)] w fun e w' => e = .returned (.int .i64 y) ∧ w' = w := by
  have hy := year_bounds h0 h1
  have hn : toYear (y + 1) ≤ 366 * (y + 1) := by unfold toYear; omega
  obtain ⟨D, hD⟩ : ∃ D, D = toYear y + r := ⟨_, rfl⟩
  rw [← hD] at r1 ⊢
  have hD0 : 0 ≤ D := by omega
  have hD1 : D < 3660000 := by omega
  have hq := wquo D 366 hD0 (by omega) (by decide)
  have hs : D / 366 ≤ y := by omega
  have HY : Hid (∀ k : Int, 0 ≤ k → k < y → toYear (k + 1) ≤ D) := fun k _ hk => by
    have := year_mono (show k + 1 ≤ y by omega)
    omega
  clear hn hD
  go_enter Tryd.func29, Tryd.ntmps29
  go_wp2_with fail
  go_loopw [3] (fun a wx => ∃ k : Int, 0 ≤ k ∧ k ≤ y ∧ a = .int .i64 k ∧ wx = w) (fun a _ => (y + 1 - intOf a).toNat)
  case atStart => exact ⟨D / 366, by omega, hs, rfl, rfl⟩
  case round =>
    obtain ⟨k, k0, k1, rfl, rfl⟩ := hrel
    have hw1 := wraps_i64' (k + 1) (by omega) (by omega)
    have TY := Lib.hid (fun W => toYear_any (k + 1) W (by omega) (by omega))
    by_cases hlt : k < y
    · have hle := HY.out k k0 hlt
      generalize toYear (k + 1) = q at TY hle
      go_wp2_with (go_at_call 23; refine (TY.out _).mono ?_; rintro x w2 ⟨rfl, rfl⟩)
      go_round
      case rel => exact ⟨k + 1, by omega, by omega, by go_num, by trivial⟩
      case measure => simp [intOf, hw1]; omega
    · have e : k = y := by omega
      subst e
      have hle : ¬ toYear (k + 1) ≤ D := by omega
      generalize toYear (k + 1) = q at TY hle
      go_wp2_with (go_at_call 23; refine (TY.out _).mono ?_; rintro x w2 ⟨rfl, rfl⟩)
      go_ret
      exact ⟨rfl, by trivial⟩

set_option maxHeartbeats 1600000 in
/-- the month of a day -/
theorem monthOf_any (y m r : Int) (w : World) (h0 : 0 ≤ y) (h1 : y ≤ 9999) (m0 : 1 ≤ m) (m1 : m ≤ 12) (r0 : toMon y (m - 1).toNat ≤ r) (r1 : r < toMon y m.toNat) :
    Calls Tryd.prog 30 #[.int .i64 y, .int .i64 r] w fun e w' => e = .returned (.int .i64 m) ∧ Below w.heap.size w w' := by
  have BB := Lib.hid (Below.refl w.heap.size w)
  have hr0 : 0 ≤ r := by have := mon_nonneg y (m - 1).toNat; omega
  have hr1 : r ≤ 366 := by have := mon_le y (k := m.toNat) (by omega); omega
  go_enter Tryd.func30, Tryd.ntmps30
  go_wp2_with fail
  go_loopw [1, 5] (fun a b wx => ∃ k : Nat, (k : Int) + 1 ≤ m ∧ a = .int .i64 (r - toMon y k) ∧ b = .int .i64 ((k : Int) + 1) ∧ Below w.heap.size w wx) (fun _ b _ => 13 - (intOf b).toNat)
  case atStart => exact ⟨0, by omega, by simp [toMon], rfl, BB.out⟩
  case round =>
    obtain ⟨k, hkm, rfl, rfl, hb⟩ := hrel
    have BB := Lib.hid hb
    clear hb
    have hd := dim_bound y ((k : Int) + 1)
    have hn := mon_nonneg y k
    have hl := mon_le y (k := k) (by omega)
    have hs : toMon y (k + 1) = toMon y k + dim y ((k : Int) + 1) := rfl
    have hle : toMon y k ≤ r := by have := mon_mono y (show k ≤ (m - 1).toNat by omega); omega
    have hw1 := wraps_i64' ((k : Int) + 1 + 1) (by omega) (by omega)
    have hw2 := wraps_i64' (r - toMon y k - dim y ((k : Int) + 1)) (by omega) (by omega)
    have DM := Lib.hid (fun W => dim_any y ((k : Int) + 1) W h0 h1 (by omega) (by omega))
    by_cases hlt : (k : Int) + 1 < m
    · have hge : r - toMon y k ≥ dim y ((k : Int) + 1) := by
        have := mon_mono y (show k + 1 ≤ (m - 1).toNat by omega)
        omega
      have HS : Hid (toMon y (k + 1) = toMon y k + dim y ((k : Int) + 1)) := hs
      generalize toMon y k = s at hw2 HS hge ⊢
      generalize dim y ((k : Int) + 1) = d at hw2 HS DM hge
      clear hs
      go_wp2_with (go_at_call 38; refine (DM.out _).mono ?_; rintro x w2 ⟨rfl, hb⟩; have BB := Lib.hid (BB.out.trans (hb.mono BB.out.size)); clear hb)
      go_round
      case rel => exact ⟨k + 1, by omega, by rw [HS.out]; congr 1; omega, by go_num, BB.out⟩
      case measure => simp [intOf, hw1]; omega
    · have e : m.toNat = k + 1 := by omega
      have hge : ¬ r - toMon y k ≥ dim y ((k : Int) + 1) := by
        rw [e] at r1
        omega
      have em : m = (k : Int) + 1 := by omega
      subst em
      generalize toMon y k = s at hw2 hge ⊢
      generalize dim y ((k : Int) + 1) = d at hw2 DM hge
      clear hs
      go_wp2_with (go_at_call 38; refine (DM.out _).mono ?_; rintro x w2 ⟨rfl, hb⟩; have BB := Lib.hid (BB.out.trans (hb.mono BB.out.size)); clear hb)
      go_ret
      exact ⟨rfl, BB.out⟩

theorem inside_any (n : Int) (w : World) :
    Calls Tryd.prog 28 #[.int .i64 n] w fun e w' => e = .returned (.bool (inB n)) ∧ w' = w := by
  unfold inB
  go_enter Tryd.func28, Tryd.ntmps28
  go_wp2
  all_goals
    go_ret
    refine ⟨ret_bool ?_, rfl⟩
    first
      | (simp_all; done)
      | (simp_all; omega)
theorem inside_b {n : Int} {b : Bool} (hb : inB n = b) (w : World) :
    Calls Tryd.prog 28 #[.int .i64 n] w fun e w' => e = .returned (.bool b) ∧ w' = w := hb ▸ inside_any n w

set_option maxHeartbeats 1600000 in
theorem week_any (n : Int) (w : World) :
    Calls Tryd.prog 15 #[.int .i64 n] w fun e w' => e = .returned (.int .i64 (weekI n)) ∧ w' = w := by
  unfold weekI
  cases hi : inB n
  · have IN := Lib.hid (fun W => inside_b hi W)
    clear hi
    go_enter Tryd.func15, Tryd.ntmps15
    go_wp2_with (go_at_call 28; refine (IN.out _).mono ?_; rintro x w2 ⟨rfl, rfl⟩)
    go_ret
    exact ⟨rfl, rfl⟩
  · have IN := Lib.hid (fun W => inside_b hi W)
    rw [in_iff] at hi
    have s1 := wraps_i64' (n + 62167219200) (by omega) (by omega)
    have d1 := wquo (n + 62167219200) 86400 (by omega) (by omega) (by decide)
    have s2 := wraps_i64' ((n + 62167219200) / 86400 + 5) (by omega) (by omega)
    have r1 := wrem ((n + 62167219200) / 86400 + 5) 7 (by omega) (by omega) (by decide)
    clear hi
    go_enter Tryd.func15, Tryd.ntmps15
    go_wp2_with (go_at_call 28; refine (IN.out _).mono ?_; rintro x w2 ⟨rfl, rfl⟩)
    go_ret
    exact ⟨rfl, rfl⟩
end Go.Proofs.YtgefnndegjpcpaaDoor
