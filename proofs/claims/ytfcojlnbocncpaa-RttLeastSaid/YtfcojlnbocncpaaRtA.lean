/- Walks of layer 6: ticks; the adjusted sample; how far two numbers are apart. -/
import Derived.Test.YtfcojlnbocncpaaRtM
set_option linter.unusedSimpArgs false
set_option linter.unusedVariables false
namespace Go.Proofs.Ytfcojlnbocncpaa
open Go.RowKit

theorem wraps_i64' (n : Int) (h₀ : -9223372036854775808 ≤ n) (h₁ : n < 9223372036854775808) : IntKind.i64.wrap n = n := by rw [IntKind.wrap_i64]; omega

theorem tick_any (n : Int) (w : World) :
    Calls Try.prog 24 #[.int .i64 n] w fun e w' => e = .returned (.bool (tickB n)) ∧ w' = w := by
  by_cases h1 : 0 ≤ n
  · have e1 : decide (n ≥ 0) = true := decide_eq_true h1
    have e3 : tickB n = decide (n ≤ 1099511627776) := by simp [tickB, h1]
    rw [e3]
    clear e3
    go_enter Try.func24, Try.ntmps24
    go_wp2
    go_ret
    exact ⟨rfl, rfl⟩
  · have e1 : decide (n ≥ 0) = false := decide_eq_false h1
    have e3 : tickB n = false := by simp [tickB, h1]
    rw [e3]
    clear h1 e3
    go_enter Try.func24, Try.ntmps24
    go_wp2
    go_ret
    exact ⟨rfl, rfl⟩
theorem tick_b (n : Int) (b : Bool) (w : World) (hb : tickB n = b) : Calls Try.prog 24 #[.int .i64 n] w fun e w' => e = .returned (.bool b) ∧ w' = w := hb ▸ tick_any n w

set_option maxHeartbeats 1600000 in
theorem areTicks_any (v : Value) (xs : List Int) (w : World) (hr : Rd .i64 w v xs) :
    Calls Try.prog 21 #[v] w fun e w' => e = .returned (.bool (xs.all tickB)) ∧ w' = w := by
  rcases hr with ⟨rfl, a, c, rfl, _, _⟩ | ⟨h0, b, o, c, rfl, hc, hm, hb, hcell⟩
  · go_enter Try.func21, Try.ntmps21
    go_wp2_with fail
    refine wp_loop_rounds 1 ?_
    rw [rounds_succ]
    go_wp2
    go_ret
    exact ⟨rfl, rfl⟩
  · unfold maxLen at hm
    have HC := Lib.hid hcell
    clear hcell h0
    go_enter Try.func21, Try.ntmps21
    go_wp2_with fail
    go_loop [7] (fun i => ∃ (k : Nat), i = .int .i64 k ∧ k ≤ xs.length ∧ (xs.drop k).all tickB = xs.all tickB) (fun i => xs.length - (intOf i).toNat)
    case atStart => exact ⟨0, rfl, Nat.zero_le _, by simp⟩
    case round =>
      obtain ⟨k, rfl, hk, hall⟩ := hrel
      have HA := Lib.hid hall
      clear hall
      by_cases hlt : k < xs.length
      · have hd : xs.drop k = xs.getD k 0 :: xs.drop (k + 1) := by rw [List.drop_eq_getElem_cons hlt]; simp [List.getD, hlt]
        have q0 := HC.out k hlt
        generalize xs.getD k 0 = x at hd q0
        have hi1 : (k : Int) < (xs.length : Int) := by omega
        have hw1 : IntKind.i64.wrap ((k : Int) + 1) = (k : Int) + 1 := wraps_i64' _ (by omega) (by omega)
        have HD := Lib.hid hd
        clear hd
        by_cases h1 : 0 ≤ x
        · have t1 : decide (x < 0) = false := decide_eq_false (by omega)
          by_cases h2 : x ≤ 1099511627776
          · have t2 : decide (x > 1099511627776) = false := decide_eq_false (by omega)
            have HE : Hid ((xs.drop (k + 1)).all tickB = xs.all tickB) := by
              show _ = _; rw [← HA.out, HD.out, List.all_cons, tick_iff.2 ⟨h1, h2⟩, Bool.true_and]
            clear h1 h2
            go_wp2
            go_round
            case rel => exact ⟨k + 1, by go_num, by omega, HE.out⟩
            case measure => simp [intOf, hw1]; omega
          · have t2 : decide (x > 1099511627776) = true := decide_eq_true (by omega)
            have HE : Hid (xs.all tickB = false) := by
              show _ = _; rw [← HA.out, HD.out, List.all_cons]; simp [tickB, h2]
            clear h1 h2
            go_wp2
            go_ret
            rw [HE.out]
            exact ⟨rfl, rfl⟩
        · have t1 : decide (x < 0) = true := decide_eq_true (by omega)
          have HE : Hid (xs.all tickB = false) := by
            show _ = _; rw [← HA.out, HD.out, List.all_cons]; simp [tickB, h1]
          clear h1
          go_wp2
          go_ret
          rw [HE.out]
          exact ⟨rfl, rfl⟩
      · have hk2 : k = xs.length := by omega
        have HE : Hid (xs.all tickB = true) := by
          show _ = _; rw [← HA.out, hk2, List.drop_length]; rfl
        clear hk2
        go_wp2
        go_ret
        rw [HE.out]
        exact ⟨rfl, rfl⟩

set_option maxHeartbeats 800000 in
theorem adjust_any (n d l : Int) (w : World) (hn : 0 ≤ n) (hn1 : n ≤ 1099511627776) (hd : 0 ≤ d) (hd1 : d ≤ 1099511627776) :
    Calls Try.prog 22 #[.int .i64 n, .int .i64 d, .int .i64 l] w fun e w' => e = .returned (.int .i64 (adjI n d l)) ∧ w' = w := by
  by_cases h1 : 25 < d
  · have e1 : adjI n d l = if n - 25 < l then n else n - 25 := by rw [adjI, cutI, if_pos h1]
    have w1 : IntKind.i64.wrap (n - 25) = n - 25 := wraps_i64' _ (by omega) (by omega)
    by_cases h2 : n - 25 < l
    · rw [e1, if_pos h2]
      clear e1
      go_enter Try.func22, Try.ntmps22
      go_wp2
      go_ret
      exact ⟨rfl, rfl⟩
    · rw [e1, if_neg h2]
      clear e1
      go_enter Try.func22, Try.ntmps22
      go_wp2
      go_ret
      exact ⟨rfl, rfl⟩
  · have e1 : adjI n d l = if n - d < l then n else n - d := by rw [adjI, cutI, if_neg h1]
    have w1 : IntKind.i64.wrap (n - d) = n - d := wraps_i64' _ (by omega) (by omega)
    by_cases h2 : n - d < l
    · rw [e1, if_pos h2]
      clear e1
      go_enter Try.func22, Try.ntmps22
      go_wp2
      go_ret
      exact ⟨rfl, rfl⟩
    · rw [e1, if_neg h2]
      clear e1
      go_enter Try.func22, Try.ntmps22
      go_wp2
      go_ret
      exact ⟨rfl, rfl⟩

set_option maxHeartbeats 800000 in
theorem apart_any (a b : Int) (w : World) (ha : 0 ≤ a) (ha1 : a ≤ 1099511627776) (hb : 0 ≤ b) (hb1 : b ≤ 1099511627776) :
    Calls Try.prog 23 #[.int .i64 a, .int .i64 b] w fun e w' => e = .returned (.int .i64 (apartI a b)) ∧ w' = w := by
  by_cases h1 : a < b
  · have e1 : apartI a b = b - a := by rw [apartI, if_pos h1]
    have w1 : IntKind.i64.wrap (b - a) = b - a := wraps_i64' _ (by omega) (by omega)
    have h2 : ¬ b < a := by omega
    rw [e1]
    clear e1
    go_enter Try.func23, Try.ntmps23
    go_wp2
    go_ret
    exact ⟨rfl, rfl⟩
  · have e1 : apartI a b = a - b := by rw [apartI, if_neg h1]
    have w1 : IntKind.i64.wrap (a - b) = a - b := wraps_i64' _ (by omega) (by omega)
    rw [e1]
    clear e1
    by_cases h2 : b < a
    · go_enter Try.func23, Try.ntmps23
      go_wp2
      go_ret
      exact ⟨rfl, rfl⟩
    · obtain rfl : a = b := by omega
      rw [Int.sub_self]
      clear w1
      go_enter Try.func23, Try.ntmps23
      go_wp2
      go_ret
      exact ⟨rfl, rfl⟩
end Go.Proofs.Ytfcojlnbocncpaa
