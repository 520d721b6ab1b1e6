/- Walks of layer 3: alive and the five laws. -/
import Derived.Test.YtdhljbakjflpoaaPnumD
namespace Go.Proofs.Ytdhljbakjflpoaa
open Go.RowKit

theorem alive_any (w : World) : Calls Try.prog 12 #[] w fun e w' => e = .returned (.bool true) ∧ w = w' := by
  have h1 := Lib.hid (show (if GrowOk 2821665002 39730 2 then growI 2821665002 39730 2 else 0) = 2821692210 by decide)
  have h2 := Lib.hid (show (if GrowOk 2821665002 39730 2 then (0 : Int) else 1) = 0 by decide)
  have h3 := Lib.hid (show (if cutOk 2821692210 2 = true then (2821692210 : Int) % cnt 2 else 0) = 39730 by decide)
  have h4 := Lib.hid (show (if cutOk 2821692210 2 = true then (0 : Int) else 1) = 0 by decide)
  go_enter Try.func12, Try.ntmps12
  go_wp2_with fail
  refine (grow_any 2821665002 39730 2 _).mono ?_
  rintro e w' ⟨rfl, rfl⟩
  rw [h1.out, h2.out]
  go_wp2_with fail
  refine (cut_any 2821692210 2 _).mono ?_
  rintro e w' ⟨rfl, rfl⟩
  rw [h3.out, h4.out]
  go_wp2
  go_ret
  exact ⟨rfl, rfl⟩

theorem yes_same (w : World) : Yes w (.returned (.bool true)) w := ⟨rfl, Below.refl _ _⟩

/-- P3.1 -/
theorem pnumWidths_walk (n acked k : Int) (w : World) : Calls Try.prog 3 #[.int .i64 n, .int .i64 acked, .int .i64 k] w (Yes w) := by
  obtain ⟨a, ha⟩ : ∃ a, a = widthI n acked := ⟨_, rfl⟩
  obtain ⟨c, hc⟩ : ∃ c : Int, c = if widthI n acked = 0 then 1 else 0 := ⟨_, rfl⟩
  obtain ⟨b, hb⟩ : ∃ b : Int, b = if cutOk n k then n % cnt k else 0 := ⟨_, rfl⟩
  obtain ⟨d, hd⟩ : ∃ d : Int, d = if cutOk n k then 0 else 1 := ⟨_, rfl⟩
  have h1 := Lib.hid ha
  have h2 := Lib.hid hc
  have h3 := Lib.hid hb
  have h4 := Lib.hid hd
  have hcw : IntKind.i64.wrap c = c := by rw [hc]; split <;> decide
  have hdw : IntKind.i64.wrap d = d := by rw [hd]; split <;> decide
  clear ha hc hb hd
  go_enter Try.func3, Try.ntmps3
  go_wp2_with fail
  refine (w_any n acked _).mono ?_
  rintro e w' ⟨rfl, rfl⟩
  rw [← h2.out, ← h1.out]
  go_wp2_with fail
  refine (rw_any n acked _).mono ?_
  rintro e w' ⟨rfl, rfl⟩
  rw [← h2.out, ← h1.out]
  go_wp2_with fail
  refine (cut_any n k _).mono ?_
  rintro e w' ⟨rfl, rfl⟩
  rw [← h3.out, ← h4.out]
  go_wp2_with fail
  refine (rcut_any n k _).mono ?_
  rintro e w' ⟨rfl, rfl⟩
  rw [← h3.out, ← h4.out]
  go_wp2_with fail
  refine (alive_any _).mono ?_
  rintro e w' ⟨rfl, rfl⟩
  go_wp2_with fail
  go_ret
  exact yes_same _

/-- P3.2 -/
theorem pnumGrows_walk (l c k : Int) (w : World) : Calls Try.prog 4 #[.int .i64 l, .int .i64 c, .int .i64 k] w (Yes w) := by
  obtain ⟨b, hb⟩ : ∃ b : Int, b = if GrowOk l c k then growI l c k else 0 := ⟨_, rfl⟩
  obtain ⟨d, hd⟩ : ∃ d : Int, d = if GrowOk l c k then 0 else 1 := ⟨_, rfl⟩
  have h3 := Lib.hid hb
  have h4 := Lib.hid hd
  have hdw : IntKind.i64.wrap d = d := by rw [hd]; split <;> decide
  clear hb hd
  go_enter Try.func4, Try.ntmps4
  go_wp2_with fail
  refine (grow_any l c k _).mono ?_
  rintro e w' ⟨rfl, rfl⟩
  rw [← h3.out, ← h4.out]
  go_wp2_with fail
  refine (rgrow_any l c k _).mono ?_
  rintro e w' ⟨rfl, rfl⟩
  rw [← h3.out, ← h4.out]
  go_wp2_with fail
  refine (alive_any _).mono ?_
  rintro e w' ⟨rfl, rfl⟩
  go_wp2_with fail
  go_ret
  exact yes_same _

/-- what Width answers, if it answers -/
theorem widthI_ok {n acked : Int} (h : ¬ widthI n acked = 0) : IsNum n ∧ -1 ≤ acked ∧ acked < n ∧
    ((widthI n acked = 1 ∧ n - acked ≤ 128) ∨ (widthI n acked = 2 ∧ 128 < n - acked ∧ n - acked ≤ 32768) ∨ (widthI n acked = 3 ∧ 32768 < n - acked ∧ n - acked ≤ 8388608) ∨ (widthI n acked = 4 ∧ 8388608 < n - acked ∧ n - acked ≤ 2147483648)) := by
  by_cases hb : ¬ IsNum n ∨ acked < -1 ∨ acked ≥ n
  · exact absurd (by unfold widthI; rw [if_pos hb]) h
  · have hn : IsNum n := by
      by_cases hn : IsNum n
      · exact hn
      · exact absurd (.inl hn) hb
    have h1 : ¬ acked < -1 := fun x => hb (.inr (.inl x))
    have h2 : ¬ acked ≥ n := fun x => hb (.inr (.inr x))
    refine ⟨hn, by omega, by omega, ?_⟩
    unfold widthI at h ⊢
    rw [if_neg hb] at h ⊢
    by_cases g0 : n - acked ≤ 128
    · rw [if_pos g0]; omega
    rw [if_neg g0] at h ⊢
    by_cases g1 : n - acked ≤ 32768
    · rw [if_pos g1]; omega
    rw [if_neg g1] at h ⊢
    by_cases g2 : n - acked ≤ 8388608
    · rw [if_pos g2]; omega
    rw [if_neg g2] at h ⊢
    by_cases g3 : n - acked ≤ 2147483648
    · rw [if_pos g3]; omega
    rw [if_neg g3] at h
    exact absurd rfl h

/-- THE ROW OF CUT NUMBERS IS AT LEAST TWICE WHAT IS NOT ACKED: what was cut is the number again -/
theorem back (n l w k : Int) (hw : cnt w = k) (hk : k = 256 ∨ k = 65536 ∨ k = 16777216 ∨ k = 4294967296) (hv : IsWid w) (hn : IsNum n) (h0 : -1 ≤ l) (h1 : l < n) (h2 : n - l ≤ k / 2) :
    GrowOk l (n % k) w ∧ growI l (n % k) w = n := by
  obtain ⟨n0, n1⟩ := hn
  have hp : 0 < k := by omega
  have m0 := Int.emod_nonneg n (by omega : k ≠ 0)
  have m1 := Int.emod_lt_of_pos n hp
  refine ⟨⟨h0, by omega, hv, m0, by rw [hw]; exact m1⟩, ?_⟩
  rw [grow_eq l _ w k _ hw rfl]
  obtain ⟨m, hm⟩ : ∃ m, m = (n % k - (l + 1 - k / 2 + 1)) % k := ⟨_, rfl⟩
  rw [← hm]
  have e : l + 1 - k / 2 + 1 + m = n := by
    rcases hk with rfl | rfl | rfl | rfl <;> omega
  rw [e, if_neg (by omega), if_neg (by omega)]

/-- what grows lies near, and has its low bits -/
theorem near (l c w k : Int) (hw : cnt w = k) (hk : k = 256 ∨ k = 65536 ∨ k = 16777216 ∨ k = 4294967296) (h : GrowOk l c w) :
    IsNum (growI l c w) ∧ growI l c w % k = c ∧ growI l c w - l ≤ k ∧ l - growI l c w ≤ k := by
  obtain ⟨l0, l1, hv, c0, c1⟩ := h
  rw [hw] at c1
  rw [grow_eq l c w k _ hw rfl]
  obtain ⟨m, hm⟩ : ∃ m, m = (c - (l + 1 - k / 2 + 1)) % k := ⟨_, rfl⟩
  rw [← hm]
  unfold IsNum
  rcases hk with rfl | rfl | rfl | rfl <;> (repeat' split) <;> omega

theorem IsWid.row {w : Int} (h : IsWid w) : cnt w = 256 ∨ cnt w = 65536 ∨ cnt w = 16777216 ∨ cnt w = 4294967296 := by
  rcases h.cases with rfl | rfl | rfl | rfl
  · exact .inl rfl
  · exact .inr (.inl rfl)
  · exact .inr (.inr (.inl rfl))
  · exact .inr (.inr (.inr rfl))

/-- P3.3, of arguments that Width takes -/
theorem back_ok (n acked l : Int) (h : ¬ widthI n acked = 0) (h0 : acked ≤ l) (h1 : l < n) :
    cutOk n (widthI n acked) = true ∧ GrowOk l (n % cnt (widthI n acked)) (widthI n acked) ∧ growI l (n % cnt (widthI n acked)) (widthI n acked) = n := by
  obtain ⟨hn, ha, hb, hc⟩ := widthI_ok h
  have hv : IsWid (widthI n acked) := by
    unfold IsWid; omega
  refine ⟨by simp [cutOk, hn, hv], ?_⟩
  refine back n l _ _ rfl hv.row hv hn (by omega) h1 ?_
  rcases hc with ⟨e, g⟩ | ⟨e, _, g⟩ | ⟨e, _, g⟩ | ⟨e, _, g⟩ <;> rw [e] <;> unfold cnt <;> simp <;> omega
end Go.Proofs.Ytdhljbakjflpoaa
