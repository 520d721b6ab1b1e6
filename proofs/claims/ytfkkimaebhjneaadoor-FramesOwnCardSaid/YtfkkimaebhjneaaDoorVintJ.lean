/- Walks of layer 1: the reference's Get. -/
import Derived.Test.YtfkkimaebhjneaaDoorVintI
namespace Go.Proofs.YtfkkimaebhjneaaDoor
open Go.RowKit

theorem rget_low (v : Value) (a : Int) (w : World) (h : a < 0) :
    Calls Tryd.prog 60 #[v, .int .i64 a] w (GetIs w 0 0 1 a) := by
  have h1 : decide (a < 0) = true := by simp; omega
  go_enter Tryd.func60, Tryd.ntmps60
  go_wp2
  refine bodyPost_ret (v := .tuple #[.int .i64 0, .int .i64 0, fault 1 a]) (by simp [results, Tryd.results60, go_sem, fault]) rfl ⟨rfl, ?_⟩
  go_grown

theorem rget_high (v : Value) (xs : List Int) (a : Int) (w : World) (hr : Rd .u8 w v xs) (h0 : 0 ≤ a) (h : xs.length < a) :
    Calls Tryd.prog 60 #[v, .int .i64 a] w (GetIs w 0 0 1 a) := by
  obtain ⟨p, c, rfl⟩ := hr.isSlice
  have h1 : decide (a < 0) = false := by simp; omega
  have h2 : decide ((xs.length : Int) < a) = true := by simp; omega
  clear hr
  go_enter Tryd.func60, Tryd.ntmps60
  go_wp2
  refine bodyPost_ret (v := .tuple #[.int .i64 0, .int .i64 0, fault 1 a]) (by simp [results, Tryd.results60, go_sem, fault]) rfl ⟨rfl, ?_⟩
  go_grown

theorem rget_end (v : Value) (xs : List Int) (w : World) (hr : Rd .u8 w v xs) :
    Calls Tryd.prog 60 #[v, .int .i64 xs.length] w (GetIs w 0 0 3 xs.length) := by
  obtain ⟨p, c, rfl⟩ := hr.isSlice
  clear hr
  go_enter Tryd.func60, Tryd.ntmps60
  go_wp2
  refine bodyPost_ret (v := .tuple #[.int .i64 0, .int .i64 0, fault 3 xs.length]) (by simp [results, Tryd.results60, go_sem, fault]) rfl ⟨rfl, ?_⟩
  go_grown

set_option maxHeartbeats 800000 in
theorem rget_short (v : Value) (xs : List Int) (a : Nat) (w : World) (hr : Rd .u8 w v xs) (hx : Bts xs) (h : a < xs.length) (hw : xs.length < a + widN (xs.getD a 0)) :
    Calls Tryd.prog 60 #[v, .int .i64 a] w (GetIs w 0 0 3 xs.length) := by
  have hl : xs.length ≤ 9223372036854775807 := hr.len
  rcases hr with ⟨rfl, _⟩ | ⟨_, b, o, cp, rfl, h2, h3, h4, h5⟩
  · simp at h
  have hc := h5 a h
  have hcr : 0 ≤ xs.getD a 0 ∧ xs.getD a 0 < 256 := hx _ (by simp [List.getD, List.getElem?_eq_getElem h])
  clear h5 hx
  obtain ⟨c, hcc⟩ : ∃ c, c = xs.getD a 0 := ⟨_, rfl⟩
  rw [← hcc] at hc hcr hw
  clear hcc
  obtain ⟨hc0, hc1⟩ := hcr
  have hne : ((a : Int) == (xs.length : Int)) = false := by simp; omega
  have hq : c / 64 = 0 ∨ c / 64 = 1 ∨ c / 64 = 2 ∨ c / 64 = 3 := by omega
  unfold widN at hw
  have t1 : decide ((a : Int) < 0) = false := by simp
  have t2 : decide (xs.length < a) = false := by simp; omega
  rcases hq with hq | hq | hq | hq
  all_goals
    simp [hq] at hw
    first
    | (exfalso; omega)
    | (
      go_enter Tryd.func60, Tryd.ntmps60
      go_wp2
      refine bodyPost_ret (v := .tuple #[.int .i64 0, .int .i64 0, fault 3 xs.length]) (by simp [results, Tryd.results60, go_sem, fault]) rfl ⟨rfl, ?_⟩
      go_grown)

set_option maxHeartbeats 800000 in
theorem rget_ok1 (v : Value) (xs : List Int) (a : Nat) (w : World) (hr : Rd .u8 w v xs) (hx : Bts xs) (hw : a + 1 ≤ xs.length) (hq : xs.getD a 0 / 64 = 0) :
    Calls Tryd.prog 60 #[v, .int .i64 a] w (GetIs w (acc xs a 0) (a + 1) 0 0) := by
  have hl : xs.length ≤ 9223372036854775807 := hr.len
  rcases hr with ⟨rfl, _⟩ | ⟨_, b, o, cp, rfl, h2, h3, h4, h5⟩
  · simp at hw
  have hc := h5 a (by omega)
  have hcr := getD_bts hx a
  have h0 : Hid (acc xs a 0 = xs.getD a 0 % 64) := rfl
  obtain ⟨c, hcc⟩ : ∃ c, c = xs.getD a 0 := ⟨_, rfl⟩
  rw [← hcc] at hc hcr hq h0
  clear hcc
  obtain ⟨hc0, hc1⟩ := hcr
  have hne : ((a : Int) == (xs.length : Int)) = false := by simp; omega
  have t1 : decide ((a : Int) < 0) = false := by simp
  have t2 : decide (xs.length < a) = false := by simp; omega
  have hx' := Lib.hid hx; clear hx
  have h5' := Lib.hid h5; clear h5
  have h3' := Lib.hid h3; clear h3
  have hand : bits .and .u8 c 63 = c % 64 := u8_and63 c hc0 hc1
  go_enter Tryd.func60, Tryd.ntmps60
  go_wp2
  go_loop [8, 9] (fun n i => ∃ k : Nat, k ≤ 0 ∧ i = .int .i64 (k + 1 : Nat) ∧ n = .int .i64 (acc xs a k)) (fun _ i => 1 - (intOf i).toNat)
  case atStart => exact ⟨0, Nat.zero_le _, rfl, by rw [h0.out]⟩
  case round =>
    obtain ⟨k, hk, rfl, rfl⟩ := hrel
    by_cases hlt : k < 0
    · omega
    · obtain rfl : k = 0 := by omega
      go_wp2
      refine bodyPost_ret (v := .tuple #[.int .i64 (acc xs a 0), .int .i64 (a + 1), fault 0 0]) (by simp [results, Tryd.results60, go_sem, fault]) rfl ⟨rfl, ?_⟩
      go_grown

set_option maxHeartbeats 800000 in
theorem rget_ok2 (v : Value) (xs : List Int) (a : Nat) (w : World) (hr : Rd .u8 w v xs) (hx : Bts xs) (hw : a + 2 ≤ xs.length) (hq : xs.getD a 0 / 64 = 1) :
    Calls Tryd.prog 60 #[v, .int .i64 a] w (GetIs w (acc xs a 1) (a + 2) 0 0) := by
  have hl : xs.length ≤ 9223372036854775807 := hr.len
  rcases hr with ⟨rfl, _⟩ | ⟨_, b, o, cp, rfl, h2, h3, h4, h5⟩
  · simp at hw
  have hc := h5 a (by omega)
  have hcr := getD_bts hx a
  have h0 : Hid (acc xs a 0 = xs.getD a 0 % 64) := rfl
  obtain ⟨c, hcc⟩ : ∃ c, c = xs.getD a 0 := ⟨_, rfl⟩
  rw [← hcc] at hc hcr hq h0
  clear hcc
  obtain ⟨hc0, hc1⟩ := hcr
  have hne : ((a : Int) == (xs.length : Int)) = false := by simp; omega
  have t1 : decide ((a : Int) < 0) = false := by simp
  have t2 : decide (xs.length < a) = false := by simp; omega
  have hx' := Lib.hid hx; clear hx
  have h5' := Lib.hid h5; clear h5
  have h3' := Lib.hid h3; clear h3
  have hand : bits .and .u8 c 63 = c % 64 := u8_and63 c hc0 hc1
  go_enter Tryd.func60, Tryd.ntmps60
  go_wp2
  go_loop [8, 9] (fun n i => ∃ k : Nat, k ≤ 1 ∧ i = .int .i64 (k + 1 : Nat) ∧ n = .int .i64 (acc xs a k)) (fun _ i => 2 - (intOf i).toNat)
  case atStart => exact ⟨0, Nat.zero_le _, rfl, by rw [h0.out]⟩
  case round =>
    obtain ⟨k, hk, rfl, rfl⟩ := hrel
    by_cases hlt : k < 1
    · have hcell := Rd.cellOf h5'.out (a + 1 + k) (o + (a + (k + 1))) (by omega) (by omega)
      have hd := getD_bts hx'.out (a + 1 + k)
      have hS : Hid (acc xs a (k + 1) = acc xs a k * 256 + xs.getD (a + 1 + k) 0) := rfl
      have hl0 := acc_lo hx'.out a k
      have hl6 := acc_hi6 hx'.out a k (by omega)
      obtain ⟨d, hdd⟩ : ∃ d, d = xs.getD (a + 1 + k) 0 := ⟨_, rfl⟩
      rw [← hdd] at hcell hd hS
      clear hdd
      obtain ⟨hd0, hd1⟩ := hd
      go_wp2
      go_round
      case rel => exact ⟨k + 1, by omega, by go_num, by rw [hS.out]⟩
      case measure => simp [intOf]; omega
    · obtain rfl : k = 1 := by omega
      go_wp2
      refine bodyPost_ret (v := .tuple #[.int .i64 (acc xs a 1), .int .i64 (a + 2), fault 0 0]) (by simp [results, Tryd.results60, go_sem, fault]) rfl ⟨rfl, ?_⟩
      go_grown

set_option maxHeartbeats 800000 in
theorem rget_ok4 (v : Value) (xs : List Int) (a : Nat) (w : World) (hr : Rd .u8 w v xs) (hx : Bts xs) (hw : a + 4 ≤ xs.length) (hq : xs.getD a 0 / 64 = 2) :
    Calls Tryd.prog 60 #[v, .int .i64 a] w (GetIs w (acc xs a 3) (a + 4) 0 0) := by
  have hl : xs.length ≤ 9223372036854775807 := hr.len
  rcases hr with ⟨rfl, _⟩ | ⟨_, b, o, cp, rfl, h2, h3, h4, h5⟩
  · simp at hw
  have hc := h5 a (by omega)
  have hcr := getD_bts hx a
  have h0 : Hid (acc xs a 0 = xs.getD a 0 % 64) := rfl
  obtain ⟨c, hcc⟩ : ∃ c, c = xs.getD a 0 := ⟨_, rfl⟩
  rw [← hcc] at hc hcr hq h0
  clear hcc
  obtain ⟨hc0, hc1⟩ := hcr
  have hne : ((a : Int) == (xs.length : Int)) = false := by simp; omega
  have t1 : decide ((a : Int) < 0) = false := by simp
  have t2 : decide (xs.length < a) = false := by simp; omega
  have hx' := Lib.hid hx; clear hx
  have h5' := Lib.hid h5; clear h5
  have h3' := Lib.hid h3; clear h3
  have hand : bits .and .u8 c 63 = c % 64 := u8_and63 c hc0 hc1
  go_enter Tryd.func60, Tryd.ntmps60
  go_wp2
  go_loop [8, 9] (fun n i => ∃ k : Nat, k ≤ 3 ∧ i = .int .i64 (k + 1 : Nat) ∧ n = .int .i64 (acc xs a k)) (fun _ i => 4 - (intOf i).toNat)
  case atStart => exact ⟨0, Nat.zero_le _, rfl, by rw [h0.out]⟩
  case round =>
    obtain ⟨k, hk, rfl, rfl⟩ := hrel
    by_cases hlt : k < 3
    · have hcell := Rd.cellOf h5'.out (a + 1 + k) (o + (a + (k + 1))) (by omega) (by omega)
      have hd := getD_bts hx'.out (a + 1 + k)
      have hS : Hid (acc xs a (k + 1) = acc xs a k * 256 + xs.getD (a + 1 + k) 0) := rfl
      have hl0 := acc_lo hx'.out a k
      have hl6 := acc_hi6 hx'.out a k (by omega)
      obtain ⟨d, hdd⟩ : ∃ d, d = xs.getD (a + 1 + k) 0 := ⟨_, rfl⟩
      rw [← hdd] at hcell hd hS
      clear hdd
      obtain ⟨hd0, hd1⟩ := hd
      go_wp2
      go_round
      case rel => exact ⟨k + 1, by omega, by go_num, by rw [hS.out]⟩
      case measure => simp [intOf]; omega
    · obtain rfl : k = 3 := by omega
      go_wp2
      refine bodyPost_ret (v := .tuple #[.int .i64 (acc xs a 3), .int .i64 (a + 4), fault 0 0]) (by simp [results, Tryd.results60, go_sem, fault]) rfl ⟨rfl, ?_⟩
      go_grown

set_option maxHeartbeats 800000 in
theorem rget_ok8 (v : Value) (xs : List Int) (a : Nat) (w : World) (hr : Rd .u8 w v xs) (hx : Bts xs) (hw : a + 8 ≤ xs.length) (hq : xs.getD a 0 / 64 = 3) :
    Calls Tryd.prog 60 #[v, .int .i64 a] w (GetIs w (acc xs a 7) (a + 8) 0 0) := by
  have hl : xs.length ≤ 9223372036854775807 := hr.len
  rcases hr with ⟨rfl, _⟩ | ⟨_, b, o, cp, rfl, h2, h3, h4, h5⟩
  · simp at hw
  have hc := h5 a (by omega)
  have hcr := getD_bts hx a
  have h0 : Hid (acc xs a 0 = xs.getD a 0 % 64) := rfl
  obtain ⟨c, hcc⟩ : ∃ c, c = xs.getD a 0 := ⟨_, rfl⟩
  rw [← hcc] at hc hcr hq h0
  clear hcc
  obtain ⟨hc0, hc1⟩ := hcr
  have hne : ((a : Int) == (xs.length : Int)) = false := by simp; omega
  have t1 : decide ((a : Int) < 0) = false := by simp
  have t2 : decide (xs.length < a) = false := by simp; omega
  have hx' := Lib.hid hx; clear hx
  have h5' := Lib.hid h5; clear h5
  have h3' := Lib.hid h3; clear h3
  have hand : bits .and .u8 c 63 = c % 64 := u8_and63 c hc0 hc1
  go_enter Tryd.func60, Tryd.ntmps60
  go_wp2
  go_loop [8, 9] (fun n i => ∃ k : Nat, k ≤ 7 ∧ i = .int .i64 (k + 1 : Nat) ∧ n = .int .i64 (acc xs a k)) (fun _ i => 8 - (intOf i).toNat)
  case atStart => exact ⟨0, Nat.zero_le _, rfl, by rw [h0.out]⟩
  case round =>
    obtain ⟨k, hk, rfl, rfl⟩ := hrel
    by_cases hlt : k < 7
    · have hcell := Rd.cellOf h5'.out (a + 1 + k) (o + (a + (k + 1))) (by omega) (by omega)
      have hd := getD_bts hx'.out (a + 1 + k)
      have hS : Hid (acc xs a (k + 1) = acc xs a k * 256 + xs.getD (a + 1 + k) 0) := rfl
      have hl0 := acc_lo hx'.out a k
      have hl6 := acc_hi6 hx'.out a k (by omega)
      obtain ⟨d, hdd⟩ : ∃ d, d = xs.getD (a + 1 + k) 0 := ⟨_, rfl⟩
      rw [← hdd] at hcell hd hS
      clear hdd
      obtain ⟨hd0, hd1⟩ := hd
      go_wp2
      go_round
      case rel => exact ⟨k + 1, by omega, by go_num, by rw [hS.out]⟩
      case measure => simp [intOf]; omega
    · obtain rfl : k = 7 := by omega
      go_wp2
      refine bodyPost_ret (v := .tuple #[.int .i64 (acc xs a 7), .int .i64 (a + 8), fault 0 0]) (by simp [results, Tryd.results60, go_sem, fault]) rfl ⟨rfl, ?_⟩
      go_grown
end Go.Proofs.YtfkkimaebhjneaaDoor
