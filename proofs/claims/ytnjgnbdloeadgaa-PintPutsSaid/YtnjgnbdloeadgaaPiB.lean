/- Walks of layer 11: Size. -/
import Derived.Test.YtnjgnbdloeadgaaPiA
set_option maxRecDepth 100000
namespace Go.Proofs.Ytnjgnbdloeadgaa
open Go.RowKit

theorem bitLen_up (m : Nat) (hm : m < 2 ^ 64) : m < 2 ^ Lib.bitLen m := by
  by_cases h : m < 2 ^ Lib.bitLen m
  · exact h
  · have hp : 0 < 2 ^ Lib.bitLen m := Nat.pow_pos (by decide)
    have h1 := Lib.bitLen_shift (Lib.bitLen m) m (by omega) hm
    have h2 : m / 2 ^ Lib.bitLen m ≠ 0 := by
      have := Nat.div_pos (show 2 ^ Lib.bitLen m ≤ m by omega) hp
      omega
    have h3 := Lib.bitLen_half (m / 2 ^ Lib.bitLen m) h2 (Nat.lt_of_le_of_lt (Nat.div_le_self _ _) hm)
    omega
theorem bitLen_low (m : Nat) (hm : m < 2 ^ 64) (h : Lib.bitLen m ≠ 0) : 2 ^ (Lib.bitLen m - 1) ≤ m := by
  by_cases h1 : m < 2 ^ (Lib.bitLen m - 1)
  · by_cases h2 : Lib.bitLen m - 1 ≤ 64
    · have := Lib.bitLen_le m (Lib.bitLen m - 1) h2 h1
      omega
    · have := Lib.bitLen_le m 64 (by decide) hm
      omega
  · omega
/-- how many groups: by how many bits -/
theorem grp_bits (m : Nat) (hm : m < 2 ^ 64) : (grp m).length = max 1 ((Lib.bitLen m + 6) / 7) := by
  have up := bitLen_up m hm
  have low := bitLen_low m hm
  generalize Lib.bitLen m = L at *
  have e : ∀ k, 128 ^ k = 2 ^ (7 * k) := fun k => by rw [show (128 : Nat) = 2 ^ 7 from rfl, ← Nat.pow_mul]
  have a : (grp m).length ≤ max 1 ((L + 6) / 7) := by
    refine grp_len_le _ m ?_ (Nat.le_max_left _ _)
    rw [e]
    exact Nat.lt_of_lt_of_le up (Nat.pow_le_pow_right (by decide) (by omega))
  by_cases h1 : (L + 6) / 7 ≤ 1
  · have := grp_pos m
    omega
  · have b := grp_len_ge ((L + 6) / 7 - 1) m (by
      rw [e]
      exact Nat.le_trans (Nat.pow_le_pow_right (by decide) (by omega)) (low (by omega)))
    omega

set_option maxHeartbeats 1000000 in
theorem size_any (k n : Int) (w : World) : Calls Try.prog 11 #[.int .i64 k, .int .i64 n] w fun e w' => e = .returned (.int .i64 (sizeP k n)) ∧ w = w' := by
  by_cases hk : IsW k
  · have dk : decide (IsW k) = true := decide_eq_true hk
    by_cases h0 : n < 0
    · have e : sizeP k n = 0 := if_neg fun h => by have := h.2; omega
      have d0 : decide (n < 0) = true := decide_eq_true h0
      rw [e]; clear e h0
      go_enter Try.func11, Try.ntmps11
      go_wp2_with (go_at_call 19; refine (isW_any k _).mono ?_; rintro e w' ⟨rfl, rfl⟩; rw [dk])
      go_ret
      exact ⟨rfl, rfl⟩
    · have d0 : decide (n < 0) = false := decide_eq_false h0
      by_cases h1 : n > 4611686018427387903
      · have e : sizeP k n = 0 := if_neg fun h => by have := h.2; omega
        have d1 : decide (n > 4611686018427387903) = true := decide_eq_true h1
        rw [e]; clear e h0 h1
        go_enter Try.func11, Try.ntmps11
        go_wp2_with (go_at_call 19; refine (isW_any k _).mono ?_; rintro e w' ⟨rfl, rfl⟩; rw [dk])
        go_ret
        exact ⟨rfl, rfl⟩
      · have d1 : decide (n > 4611686018427387903) = false := decide_eq_false h1
        have e : sizeP k n = (sizeN k n : Int) := if_pos ⟨hk, by omega, by omega⟩
        rw [e]; clear e
        have f0 := fullI_pos k
        have f1 := fullI_le k
        by_cases h2 : n < fullI k
        · have e : sizeN k n = 1 := sizeN_lt h2
          have d2 : decide (n < fullI k) = true := decide_eq_true h2
          rw [e]; clear e h0 h1 h2 f0 f1
          go_enter Try.func11, Try.ntmps11
          go_wp2_with (first
            | (go_at_call 19; refine (isW_any k _).mono ?_; rintro e w' ⟨rfl, rfl⟩; rw [dk])
            | (go_at_call 16; refine (ones_any k _ hk).mono ?_; rintro e w' ⟨rfl, rfl⟩))
          go_ret
          exact ⟨rfl, rfl⟩
        · have d2 : decide (n < fullI k) = false := decide_eq_false h2
          have hw : IntKind.i64.wrap (n - fullI k) = n - fullI k := wrap_small _ (by omega) (by omega)
          have hu : IntKind.u64.wrap (n - fullI k) = n - fullI k := by rw [IntKind.wrap_u64]; omega
          obtain ⟨L, hL⟩ : ∃ L, L = Lib.bitLen (n - fullI k).toNat := ⟨_, rfl⟩
          have hl : L ≤ 62 := by rw [hL]; exact Lib.bitLen_le _ 62 (by decide) (by omega)
          have hg := grp_bits (n - fullI k).toNat (by omega)
          have e := sizeN_ge h2
          rw [hg, ← hL] at e
          have H : Hid (∀ W : World, Calls Try.prog 20 #[.int .u64 (n - fullI k)] W fun e w' => e = .returned (.int .i64 L) ∧ W = w') := fun W => by
            have := len_any (n - fullI k) W (by omega) (by omega)
            rw [← hL] at this; exact this
          have e' := Lib.hid e
          clear e h0 h1 h2 f0 f1 hg hL
          go_enter Try.func11, Try.ntmps11
          go_wp2_with (first
            | (go_at_call 19; refine (isW_any k _).mono ?_; rintro e w' ⟨rfl, rfl⟩; rw [dk])
            | (go_at_call 16; refine (ones_any k _ hk).mono ?_; rintro e w' ⟨rfl, rfl⟩)
            | (go_at_call 20; refine (H.out _).mono ?_; rintro e w' ⟨rfl, rfl⟩))
          all_goals
            go_ret
            exact ⟨ret_int (by rw [e'.out]; omega), rfl⟩
  · have e : sizeP k n = 0 := if_neg fun h => hk h.1
    have dk : decide (IsW k) = false := decide_eq_false hk
    rw [e]; clear e
    go_enter Try.func11, Try.ntmps11
    go_wp2_with (go_at_call 19; refine (isW_any k _).mono ?_; rintro e w' ⟨rfl, rfl⟩; rw [dk])
    go_ret
    exact ⟨rfl, rfl⟩
end Go.Proofs.Ytnjgnbdloeadgaa
