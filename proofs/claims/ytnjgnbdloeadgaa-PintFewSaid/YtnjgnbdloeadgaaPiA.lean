/- Walks of layer 11: isWidth, width, ones, areFlags, bits.Len, Size. -/
import Derived.Test.YtnjgnbdloeadgaaPiM
import Derived.Test.YtnjgnbdloeadgaaBe
import Derived.Lib.BitFns
set_option maxRecDepth 100000
namespace Go.Proofs.Ytnjgnbdloeadgaa
open Go.RowKit

theorem isW_any (k : Int) (w : World) : Calls Try.prog 19 #[.int .i64 k] w fun e w' => e = .returned (.bool (decide (IsW k))) ∧ w = w' := by
  by_cases h0 : 1 ≤ k
  · have d0 : decide (k ≥ 1) = true := decide_eq_true h0
    by_cases h1 : k ≤ 8
    · have e : decide (IsW k) = true := by simp [IsW, h0, h1]
      have d1 : decide (k ≤ 8) = true := decide_eq_true h1
      rw [e]; clear e h0 h1
      go_enter Try.func19, Try.ntmps19
      go_wp2
      go_ret
      exact ⟨rfl, rfl⟩
    · have e : decide (IsW k) = false := by simp [IsW, h1]
      have d1 : decide (k ≤ 8) = false := decide_eq_false h1
      rw [e]; clear e h0 h1
      go_enter Try.func19, Try.ntmps19
      go_wp2
      go_ret
      exact ⟨rfl, rfl⟩
  · have e : decide (IsW k) = false := by simp [IsW, h0]
    have d0 : decide (k ≥ 1) = false := decide_eq_false h0
    rw [e]; clear e h0
    go_enter Try.func19, Try.ntmps19
    go_wp2
    go_ret
    exact ⟨rfl, rfl⟩

theorem rwidth_any (k : Int) (w : World) : Calls Try.prog 18 #[.int .i64 k] w fun e w' => e = .returned (.bool (decide (IsW k))) ∧ w = w' := by
  by_cases h0 : 1 ≤ k
  · have d0 : decide (k ≥ 1) = true := decide_eq_true h0
    by_cases h1 : k ≤ 8
    · have e : decide (IsW k) = true := by simp [IsW, h0, h1]
      have d1 : decide (k ≤ 8) = true := decide_eq_true h1
      rw [e]; clear e h0 h1
      go_enter Try.func18, Try.ntmps18
      go_wp2
      go_ret
      exact ⟨rfl, rfl⟩
    · have e : decide (IsW k) = false := by simp [IsW, h1]
      have d1 : decide (k ≤ 8) = false := decide_eq_false h1
      rw [e]; clear e h0 h1
      go_enter Try.func18, Try.ntmps18
      go_wp2
      go_ret
      exact ⟨rfl, rfl⟩
  · have e : decide (IsW k) = false := by simp [IsW, h0]
    have d0 : decide (k ≥ 1) = false := decide_eq_false h0
    rw [e]; clear e h0
    go_enter Try.func18, Try.ntmps18
    go_wp2
    go_ret
    exact ⟨rfl, rfl⟩

theorem ones_any (k : Int) (w : World) (hk : IsW k) : Calls Try.prog 16 #[.int .i64 k] w fun e w' => e = .returned (.int .i64 (fullI k)) ∧ w = w' := by
  rcases hk.cases with rfl | rfl | rfl | rfl | rfl | rfl | rfl | rfl
  all_goals
    go_enter Try.func16, Try.ntmps16
    go_wp2
    go_ret
    exact ⟨rfl, rfl⟩

theorem flags_and (k f : Int) (hk : IsW k) : bits .and .i64 f (fullI k) = f % (fullI k + 1) := by
  rcases hk.cases with rfl | rfl | rfl | rfl | rfl | rfl | rfl | rfl
  · exact and_mask f 1 1 (by decide) (by decide)
  · exact and_mask f 3 2 (by decide) (by decide)
  · exact and_mask f 7 3 (by decide) (by decide)
  · exact and_mask f 15 4 (by decide) (by decide)
  · exact and_mask f 31 5 (by decide) (by decide)
  · exact and_mask f 63 6 (by decide) (by decide)
  · exact and_mask f 127 7 (by decide) (by decide)
  · exact and_mask f 255 8 (by decide) (by decide)

theorem areFlags_any (f k : Int) (w : World) (hk : IsW k) : Calls Try.prog 15 #[.int .i64 f, .int .i64 k] w fun e w' => e = .returned (.bool (decide (OkF f k))) ∧ w = w' := by
  by_cases h0 : 0 ≤ f
  · have d0 : decide (f ≥ 0) = true := decide_eq_true h0
    by_cases h1 : f ≤ 255
    · have d1 : decide (f ≤ 255) = true := decide_eq_true h1
      have a := flags_and k f hk
      by_cases h2 : f % (fullI k + 1) = 0
      · have e : decide (OkF f k) = true := decide_eq_true ⟨h0, h1, h2⟩
        have d2 : (bits .and .i64 f (fullI k) == 0) = true := by rw [a, h2]; rfl
        rw [e]; clear e h0 h1 h2 a
        go_enter Try.func15, Try.ntmps15
        go_wp2_with (go_at_call 16; refine (ones_any k _ hk).mono ?_; rintro e w' ⟨rfl, rfl⟩)
        go_ret
        exact ⟨rfl, rfl⟩
      · have e : decide (OkF f k) = false := decide_eq_false fun h => h2 h.2.2
        have d2 : (bits .and .i64 f (fullI k) == 0) = false := by rw [a]; simp [h2]
        rw [e]; clear e h0 h1 h2 a
        go_enter Try.func15, Try.ntmps15
        go_wp2_with (go_at_call 16; refine (ones_any k _ hk).mono ?_; rintro e w' ⟨rfl, rfl⟩)
        go_ret
        exact ⟨rfl, rfl⟩
    · have e : decide (OkF f k) = false := decide_eq_false fun h => h1 h.2.1
      have d1 : decide (f ≤ 255) = false := decide_eq_false h1
      rw [e]; clear e h0 h1
      go_enter Try.func15, Try.ntmps15
      go_wp2
      go_ret
      exact ⟨rfl, rfl⟩
  · have e : decide (OkF f k) = false := decide_eq_false fun h => h0 h.1
    have d0 : decide (f ≥ 0) = false := decide_eq_false h0
    rw [e]; clear e h0
    go_enter Try.func15, Try.ntmps15
    go_wp2
    go_ret
    exact ⟨rfl, rfl⟩

theorem tab_size : Lib.len8tab.size = 256 := by decide +kernel
theorem tab_at : ∀ n : Fin 256, Lib.len8tab[n.val]!.toNat = Lib.bitLen n.val := by decide +kernel
theorem tab_le : ∀ n : Fin 256, Lib.bitLen n.val ≤ 8 := by decide +kernel
theorem tab_of (y : Int) (h0 : 0 ≤ y) (h1 : y < 256) (h : y.toNat < Lib.len8tab.size) : Lib.len8tab[y.toNat].toNat = Lib.bitLen y.toNat := by
  have := tab_at ⟨y.toNat, by omega⟩
  simp only [getElem!_pos, h] at this
  exact this
theorem bits_at (x : Int) (k : Nat) (d : Int) (hd : d = ((2 ^ k : Nat) : Int)) (hk : k = 0 ∨ d ≤ x) (h0 : 0 ≤ x) (h1 : x ≤ 18446744073709551615) (y : Int) (hy : y = x / d) (hb : y < 256) (hs : k ≤ 56) (hl : y.toNat < Lib.len8tab.size) :
    wrap64 ((k : Int) + wrap64 ((Lib.len8tab[y.toNat].toNat : Nat) : Int)) = Lib.bitLen x.toNat := by
  have hp : 0 < 2 ^ k := Nat.pow_pos (by decide)
  obtain ⟨m, rfl⟩ := Int.eq_ofNat_of_zero_le h0
  subst hd
  have e : Lib.bitLen m = k + Lib.bitLen (m / 2 ^ k) := by
    rcases hk with rfl | hk
    · simp
    · exact Lib.bitLen_shift k m (by omega) (by omega)
  rw [← Int.natCast_ediv] at hy
  subst hy
  have hb' : m / 2 ^ k < 256 := by exact_mod_cast hb
  rw [tab_of _ (Int.natCast_nonneg _) hb hl, Int.toNat_natCast, Int.toNat_natCast, e]
  have := tab_le ⟨m / 2 ^ k, hb'⟩
  simp only [wrap64] at *
  generalize Lib.bitLen (m / 2 ^ k) = q at *
  clear hb hb' hk h1 h0 e hl
  omega
theorem bits_at0 (x : Int) (h0 : 0 ≤ x) (hb : x < 256) (hl : x.toNat < Lib.len8tab.size) : wrap64 (wrap64 ((Lib.len8tab[x.toNat].toNat : Nat) : Int)) = Lib.bitLen x.toNat := by
  rw [tab_of _ h0 hb hl]
  have := tab_le ⟨x.toNat, by omega⟩
  simp only [wrap64] at *
  omega
set_option maxHeartbeats 1000000 in
theorem len64_any (x : Int) (w : World) (h0 : 0 ≤ x) (h1 : x ≤ 18446744073709551615) :
    Calls Try.prog 23 #[.int .u64 x] w fun e w' => e = .returned (.int .i64 (Lib.bitLen x.toNat)) ∧ w = w' := by
  go_enter Try.func23, Try.ntmps23
  go_wp2
  all_goals first
    | (exfalso; have := tab_size; omega)
    | (go_ret; refine ⟨ret_int ?_, rfl⟩)
  · exact bits_at x 56 72057594037927936 (by decide) (.inr (by omega)) h0 h1 _ (by omega) (by omega) (by decide) _
  · exact bits_at x 48 281474976710656 (by decide) (.inr (by omega)) h0 h1 _ (by omega) (by omega) (by decide) _
  · exact bits_at x 40 1099511627776 (by decide) (.inr (by omega)) h0 h1 _ (by omega) (by omega) (by decide) _
  · exact bits_at x 32 4294967296 (by decide) (.inr (by omega)) h0 h1 _ (by omega) (by omega) (by decide) _
  · exact bits_at x 24 16777216 (by decide) (.inr (by omega)) h0 h1 _ (by omega) (by omega) (by decide) _
  · exact bits_at x 16 65536 (by decide) (.inr (by omega)) h0 h1 _ (by omega) (by omega) (by decide) _
  · exact bits_at x 8 256 (by decide) (.inr (by omega)) h0 h1 _ (by omega) (by omega) (by decide) _
  · exact bits_at0 x h0 (by omega) _

theorem len_any (x : Int) (w : World) (h0 : 0 ≤ x) (h1 : x ≤ 18446744073709551615) :
    Calls Try.prog 20 #[.int .u64 x] w fun e w' => e = .returned (.int .i64 (Lib.bitLen x.toNat)) ∧ w = w' := by
  go_enter Try.func20, Try.ntmps20
  go_wp2_with (go_at_call 23; refine (len64_any x _ h0 h1).mono ?_; rintro e w' ⟨rfl, rfl⟩)
  go_ret
  exact ⟨rfl, rfl⟩

end Go.Proofs.Ytnjgnbdloeadgaa
