/- Walks of layer 1: Get where a number stands. -/
import Derived.Test.YtfkkimaebhjneaaDoorVintH
namespace Go.Proofs.YtfkkimaebhjneaaDoor
open Go.RowKit

theorem wraps_i64' (n : Int) (h₀ : 0 ≤ n) (h₁ : n < 2 ^ 63) : IntKind.i64.wrap n = n := by rw [IntKind.wrap_i64]; omega
theorem or_low (n c : Int) (h0 : 0 ≤ n) (h1 : n < 18014398509481984) (h2 : 0 ≤ c) (h3 : c < 256) : bits .or .i64 (n * 256) c = n * 256 + c :=
  bits_join .i64 63 (by decide) wraps_i64' 8 _ _ (by omega) (by omega) (by omega) h2 (by simpa using h3) (by omega)

/-- the number of the bytes behind the first one, k of them -/
def acc (xs : List Int) (a : Nat) : Nat → Int
  | 0 => xs.getD a 0 % 64
  | k + 1 => acc xs a k * 256 + xs.getD (a + 1 + k) 0
theorem acc_lo {xs : List Int} (hx : Bts xs) (a k : Nat) : 0 ≤ acc xs a k := by
  induction k with
  | zero => have := getD_bts hx a; unfold acc; omega
  | succ k ih => have := getD_bts hx (a + 1 + k); unfold acc; omega
theorem acc_hi {xs : List Int} (hx : Bts xs) (a k : Nat) : acc xs a k < 64 * 256 ^ k := by
  induction k with
  | zero => have := getD_bts hx a; unfold acc; omega
  | succ k ih => have := getD_bts hx (a + 1 + k); rw [acc, Int.pow_succ]; omega
theorem acc_hi6 {xs : List Int} (hx : Bts xs) (a k : Nat) (hk : k < 7) : acc xs a k < 18014398509481984 := by
  have h := acc_hi hx a k
  have h6 : (256 : Int) ^ 6 = 281474976710656 := by decide
  have : (256 : Int) ^ k ≤ 256 ^ 6 := by
    have h : ((256 ^ k : Nat) : Int) ≤ ((256 ^ 6 : Nat) : Int) := Int.ofNat_le.2 (Nat.pow_le_pow_right (by decide) (by omega))
    rw [Int.natCast_pow, Int.natCast_pow] at h
    exact h
  omega

set_option maxHeartbeats 800000 in
theorem get_ok1 (v : Value) (xs : List Int) (a : Nat) (w : World) (ht : Tab w) (hr : Rd .u8 w v xs) (hx : Bts xs) (hw : a + 1 ≤ xs.length) (hq : xs.getD a 0 / 64 = 0) :
    Calls Tryd.prog 57 #[v, .int .i64 a] w (GetIs w (acc xs a 0) (a + 1) 0 0) := by
  have hl : xs.length ≤ 9223372036854775807 := hr.len
  rcases hr with ⟨rfl, _⟩ | ⟨_, b, o, cp, rfl, h2, h3, h4, h5⟩
  · simp at hw
  have hc := h5 a (by omega)
  have hcr := getD_bts hx a
  have h0 : Hid (acc xs a 0 = xs.getD a 0 % 64) := rfl
  obtain ⟨c, hcc⟩ : ∃ c, c = xs.getD a 0 := ⟨_, rfl⟩
  rw [← hcc] at hc hcr hq h0
  clear hcc
  obtain ⟨hc0, hc1⟩ := hcr
  have hpos := ht.pos
  obtain ⟨c0, c1, c2, c3⟩ := ht
  have hne : ((a : Int) == (xs.length : Int)) = false := by simp; omega
  have t1 : decide ((a : Int) < 0) = false := by simp
  have t2 : decide (xs.length < a) = false := by simp; omega
  have hx' := Lib.hid hx; clear hx
  have h5' := Lib.hid h5; clear h5
  have h3' := Lib.hid h3; clear h3
  have hand : bits .and .u8 c 63 = c % 64 := u8_and63 c hc0 hc1
  go_enter Tryd.func57, Tryd.ntmps57
  go_wp2
  all_goals
    refine wp_loop_rounds 1 ?_
    rw [rounds_succ]
    go_wp2
    refine bodyPost_ret (v := .tuple #[.int .i64 (acc xs a 0), .int .i64 (a + 1), fault 0 0]) (by simp [results, Tryd.results57, go_sem, fault, h0.out]) rfl ⟨rfl, ?_⟩
    go_grown

set_option maxHeartbeats 800000 in
theorem get_ok2 (v : Value) (xs : List Int) (a : Nat) (w : World) (ht : Tab w) (hr : Rd .u8 w v xs) (hx : Bts xs) (hw : a + 2 ≤ xs.length) (hq : xs.getD a 0 / 64 = 1) :
    Calls Tryd.prog 57 #[v, .int .i64 a] w (GetIs w (acc xs a 1) (a + 2) 0 0) := by
  have hl : xs.length ≤ 9223372036854775807 := hr.len
  rcases hr with ⟨rfl, _⟩ | ⟨_, b, o, cp, rfl, h2, h3, h4, h5⟩
  · simp at hw
  have hc := h5 a (by omega)
  have hcr := getD_bts hx a
  have h0 : Hid (acc xs a 0 = xs.getD a 0 % 64) := rfl
  obtain ⟨c, hcc⟩ : ∃ c, c = xs.getD a 0 := ⟨_, rfl⟩
  rw [← hcc] at hc hcr hq h0
  clear hcc
  obtain ⟨hc0, hc1⟩ := hcr
  have hpos := ht.pos
  obtain ⟨c0, c1, c2, c3⟩ := ht
  have hne : ((a : Int) == (xs.length : Int)) = false := by simp; omega
  have t1 : decide ((a : Int) < 0) = false := by simp
  have t2 : decide (xs.length < a) = false := by simp; omega
  have hx' := Lib.hid hx; clear hx
  have h5' := Lib.hid h5; clear h5
  have h3' := Lib.hid h3; clear h3
  have hand : bits .and .u8 c 63 = c % 64 := u8_and63 c hc0 hc1
  go_enter Tryd.func57, Tryd.ntmps57
  go_wp2
  go_loop [9, 58] (fun n i => ∃ k : Nat, k ≤ 1 ∧ i = .int .i64 k ∧ n = .int .i64 (acc xs a k)) (fun _ i => 1 - (intOf i).toNat)
  case atStart => exact ⟨0, Nat.zero_le _, rfl, by rw [h0.out]⟩
  case round =>
    obtain ⟨k, hk, rfl, rfl⟩ := hrel
    by_cases hlt : k < 1
    · have hcell := Rd.cellOf h5'.out (a + 1 + k) (o + (a + 1) + k) (by omega) (by omega)
      have hd := getD_bts hx'.out (a + 1 + k)
      have hS : Hid (acc xs a (k + 1) = acc xs a k * 256 + xs.getD (a + 1 + k) 0) := rfl
      have hl0 := acc_lo hx'.out a k
      have hl6 := acc_hi6 hx'.out a k (by omega)
      obtain ⟨d, hdd⟩ : ∃ d, d = xs.getD (a + 1 + k) 0 := ⟨_, rfl⟩
      rw [← hdd] at hcell hd hS
      clear hdd
      obtain ⟨hd0, hd1⟩ := hd
      have hor := or_low _ _ hl0 hl6 hd0 hd1
      go_wp2
      go_round
      case rel => exact ⟨k + 1, by omega, by go_num, by rw [hS.out]⟩
      case measure => simp [intOf]; omega
    · obtain rfl : k = 1 := by omega
      go_wp2
      refine bodyPost_ret (v := .tuple #[.int .i64 (acc xs a 1), .int .i64 (a + 2), fault 0 0]) (by simp [results, Tryd.results57, go_sem, fault]) rfl ⟨rfl, ?_⟩
      go_grown

set_option maxHeartbeats 800000 in
theorem get_ok4 (v : Value) (xs : List Int) (a : Nat) (w : World) (ht : Tab w) (hr : Rd .u8 w v xs) (hx : Bts xs) (hw : a + 4 ≤ xs.length) (hq : xs.getD a 0 / 64 = 2) :
    Calls Tryd.prog 57 #[v, .int .i64 a] w (GetIs w (acc xs a 3) (a + 4) 0 0) := by
  have hl : xs.length ≤ 9223372036854775807 := hr.len
  rcases hr with ⟨rfl, _⟩ | ⟨_, b, o, cp, rfl, h2, h3, h4, h5⟩
  · simp at hw
  have hc := h5 a (by omega)
  have hcr := getD_bts hx a
  have h0 : Hid (acc xs a 0 = xs.getD a 0 % 64) := rfl
  obtain ⟨c, hcc⟩ : ∃ c, c = xs.getD a 0 := ⟨_, rfl⟩
  rw [← hcc] at hc hcr hq h0
  clear hcc
  obtain ⟨hc0, hc1⟩ := hcr
  have hpos := ht.pos
  obtain ⟨c0, c1, c2, c3⟩ := ht
  have hne : ((a : Int) == (xs.length : Int)) = false := by simp; omega
  have t1 : decide ((a : Int) < 0) = false := by simp
  have t2 : decide (xs.length < a) = false := by simp; omega
  have hx' := Lib.hid hx; clear hx
  have h5' := Lib.hid h5; clear h5
  have h3' := Lib.hid h3; clear h3
  have hand : bits .and .u8 c 63 = c % 64 := u8_and63 c hc0 hc1
  go_enter Tryd.func57, Tryd.ntmps57
  go_wp2
  go_loop [9, 58] (fun n i => ∃ k : Nat, k ≤ 3 ∧ i = .int .i64 k ∧ n = .int .i64 (acc xs a k)) (fun _ i => 3 - (intOf i).toNat)
  case atStart => exact ⟨0, Nat.zero_le _, rfl, by rw [h0.out]⟩
  case round =>
    obtain ⟨k, hk, rfl, rfl⟩ := hrel
    by_cases hlt : k < 3
    · have hcell := Rd.cellOf h5'.out (a + 1 + k) (o + (a + 1) + k) (by omega) (by omega)
      have hd := getD_bts hx'.out (a + 1 + k)
      have hS : Hid (acc xs a (k + 1) = acc xs a k * 256 + xs.getD (a + 1 + k) 0) := rfl
      have hl0 := acc_lo hx'.out a k
      have hl6 := acc_hi6 hx'.out a k (by omega)
      obtain ⟨d, hdd⟩ : ∃ d, d = xs.getD (a + 1 + k) 0 := ⟨_, rfl⟩
      rw [← hdd] at hcell hd hS
      clear hdd
      obtain ⟨hd0, hd1⟩ := hd
      have hor := or_low _ _ hl0 hl6 hd0 hd1
      go_wp2
      go_round
      case rel => exact ⟨k + 1, by omega, by go_num, by rw [hS.out]⟩
      case measure => simp [intOf]; omega
    · obtain rfl : k = 3 := by omega
      go_wp2
      refine bodyPost_ret (v := .tuple #[.int .i64 (acc xs a 3), .int .i64 (a + 4), fault 0 0]) (by simp [results, Tryd.results57, go_sem, fault]) rfl ⟨rfl, ?_⟩
      go_grown

set_option maxHeartbeats 800000 in
theorem get_ok8 (v : Value) (xs : List Int) (a : Nat) (w : World) (ht : Tab w) (hr : Rd .u8 w v xs) (hx : Bts xs) (hw : a + 8 ≤ xs.length) (hq : xs.getD a 0 / 64 = 3) :
    Calls Tryd.prog 57 #[v, .int .i64 a] w (GetIs w (acc xs a 7) (a + 8) 0 0) := by
  have hl : xs.length ≤ 9223372036854775807 := hr.len
  rcases hr with ⟨rfl, _⟩ | ⟨_, b, o, cp, rfl, h2, h3, h4, h5⟩
  · simp at hw
  have hc := h5 a (by omega)
  have hcr := getD_bts hx a
  have h0 : Hid (acc xs a 0 = xs.getD a 0 % 64) := rfl
  obtain ⟨c, hcc⟩ : ∃ c, c = xs.getD a 0 := ⟨_, rfl⟩
  rw [← hcc] at hc hcr hq h0
  clear hcc
  obtain ⟨hc0, hc1⟩ := hcr
  have hpos := ht.pos
  obtain ⟨c0, c1, c2, c3⟩ := ht
  have hne : ((a : Int) == (xs.length : Int)) = false := by simp; omega
  have t1 : decide ((a : Int) < 0) = false := by simp
  have t2 : decide (xs.length < a) = false := by simp; omega
  have hx' := Lib.hid hx; clear hx
  have h5' := Lib.hid h5; clear h5
  have h3' := Lib.hid h3; clear h3
  have hand : bits .and .u8 c 63 = c % 64 := u8_and63 c hc0 hc1
  go_enter Tryd.func57, Tryd.ntmps57
  go_wp2
  go_loop [9, 58] (fun n i => ∃ k : Nat, k ≤ 7 ∧ i = .int .i64 k ∧ n = .int .i64 (acc xs a k)) (fun _ i => 7 - (intOf i).toNat)
  case atStart => exact ⟨0, Nat.zero_le _, rfl, by rw [h0.out]⟩
  case round =>
    obtain ⟨k, hk, rfl, rfl⟩ := hrel
    by_cases hlt : k < 7
    · have hcell := Rd.cellOf h5'.out (a + 1 + k) (o + (a + 1) + k) (by omega) (by omega)
      have hd := getD_bts hx'.out (a + 1 + k)
      have hS : Hid (acc xs a (k + 1) = acc xs a k * 256 + xs.getD (a + 1 + k) 0) := rfl
      have hl0 := acc_lo hx'.out a k
      have hl6 := acc_hi6 hx'.out a k (by omega)
      obtain ⟨d, hdd⟩ : ∃ d, d = xs.getD (a + 1 + k) 0 := ⟨_, rfl⟩
      rw [← hdd] at hcell hd hS
      clear hdd
      obtain ⟨hd0, hd1⟩ := hd
      have hor := or_low _ _ hl0 hl6 hd0 hd1
      go_wp2
      go_round
      case rel => exact ⟨k + 1, by omega, by go_num, by rw [hS.out]⟩
      case measure => simp [intOf]; omega
    · obtain rfl : k = 7 := by omega
      go_wp2
      refine bodyPost_ret (v := .tuple #[.int .i64 (acc xs a 7), .int .i64 (a + 8), fault 0 0]) (by simp [results, Tryd.results57, go_sem, fault]) rfl ⟨rfl, ?_⟩
      go_grown
end Go.Proofs.YtfkkimaebhjneaaDoor
