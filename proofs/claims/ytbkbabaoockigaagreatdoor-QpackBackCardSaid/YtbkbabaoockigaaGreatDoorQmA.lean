/- Walks of layer 14, the document's: a number is got where one stands. -/
import Derived.Test.YtbkbabaoockigaaGreatDoorPk1
set_option maxRecDepth 100000
set_option linter.unusedSimpArgs false
set_option linter.unusedVariables false
namespace Go.Proofs.YtbkbabaoockigaaGreatDoor
open Go.RowKit

theorem getP_form {xs : List Int} {a : Nat} {k f n x : Int} (hk : IsW k) (ha : a < xs.length) (h : getP xs a k = (f, n, x, 0, 0)) :
    (xs.getD a 0 % (fullI k + 1) < fullI k ∧ f = xs.getD a 0 - xs.getD a 0 % (fullI k + 1) ∧ n = xs.getD a 0 % (fullI k + 1) ∧ x = (a : Int) + 1) ∨
    (¬ xs.getD a 0 % (fullI k + 1) < fullI k ∧ f = xs.getD a 0 - xs.getD a 0 % (fullI k + 1) ∧ ∃ j : Nat, addG (xs.drop (a + 1)) 0 (xs.getD a 0 % (fullI k + 1)) = .inl (n, j) ∧ x = (a : Int) + 1 + (j : Int)) := by
  unfold getP at h
  rw [if_neg (by rintro (h | h | h) <;> first | omega | exact h hk), if_neg (by omega)] at h
  simp only [Int.toNat_natCast] at h
  split at h
  · rename_i h1
    simp only [Prod.mk.injEq] at h
    exact .inl ⟨h1, h.1.symm, h.2.1.symm, h.2.2.1.symm⟩
  · rename_i h1
    split at h
    · rename_i n' j e
      simp only [Prod.mk.injEq] at h
      obtain ⟨h2, h3, h4, _⟩ := h
      exact .inr ⟨h1, h2.symm, j, by rw [e, h3], h4.symm⟩
    · rename_i y j e
      simp only [Prod.mk.injEq] at h
      have := addG_why _ _ _ _ _ e
      omega
theorem emod_le_self' {c d : Int} (h0 : 0 ≤ c) (h1 : 0 < d) : c % d ≤ c := by
  obtain ⟨C, rfl⟩ := Int.eq_ofNat_of_zero_le h0
  obtain ⟨D, rfl⟩ := Int.eq_ofNat_of_zero_le (Int.le_of_lt h1)
  rw [← Int.natCast_emod]
  have := Nat.mod_le C D
  omega
theorem rget_cell {w : World} {va : Option Addr} {vc : Nat} {xs : List Int} (hr : Rd .u8 w (.slice va xs.length vc) xs) {a : Nat} (ha : a < xs.length) :
    ∃ b o, va = some ⟨b, o, none⟩ ∧ b < w.heap.size ∧ w.cell? ⟨b, o + a, none⟩ = some (.int .u8 (xs.getD a 0)) := by
  rcases hr with ⟨rfl, _⟩ | ⟨_, b, o, cp, he, h2, h3, h4, h5⟩
  · simp at ha
  · simp only [Value.slice.injEq] at he
    exact ⟨b, o, he.1, h4, h5 _ ha⟩

set_option maxHeartbeats 4000000 in
theorem rget_small (v : Value) (xs : List Int) (a : Nat) (k : Int) (w : World) (hr : Rd .u8 w v xs) (hx : Bts xs) (hk : IsW k) (ha : a < xs.length) (c m : Int) (hc : c = xs.getD a 0) (hm : m = c % (fullI k + 1)) (hs : m < fullI k) :
    Calls Tryz.prog 55 #[v, .int .i64 a, .int .i64 k] w fun e w' => e = .returned (getV (c - m, m, (a : Int) + 1, 0, 0)) ∧ Below w.heap.size w w' := by
  have hrl := hr.len
  have hml : maxLen = 9223372036854775807 := rfl
  rw [hml] at hrl
  have hcb := getD_bts hx a
  rw [← hc] at hcb
  have dk : decide (IsW k) = true := decide_eq_true hk
  obtain ⟨va, vc, rfl⟩ := hr.isSlice
  obtain ⟨b, o, rfl, hb, hcell⟩ := rget_cell hr ha
  rw [← hc] at hcell
  have hs0 : decide ((a : Int) < 0) = false := decide_eq_false (by omega)
  have hs1 : decide ((a : Int) > (xs.length : Int)) = false := decide_eq_false (by omega)
  have hs2 : ((a : Int) == (xs.length : Int)) = false := by simp; omega
  have hw2 : IntKind.i64.wrap ((a : Int) + 1) = (a : Int) + 1 := by rw [IntKind.wrap_i64]; omega
  have d5 : decide (m < fullI k) = true := decide_eq_true hs
  have m0 : 0 ≤ m := by rw [hm]; exact Int.emod_nonneg _ (by have := fullI_pos k; omega)
  have hmc : m ≤ c := by rw [hm]; exact emod_le_self' hcb.1 (by have := fullI_pos k; omega)
  have hw1 : IntKind.i64.wrap (c - m) = c - m := by rw [IntKind.wrap_i64]; omega
  have dm : c % (fullI k + 1) = m := hm.symm
  have dt : c.tmod (fullI k + 1) = m := by rw [Int.tmod_eq_emod_of_nonneg hcb.1]; exact dm
  clear hr hx hc hs hm
  rcases hk.cases with rfl | rfl | rfl | rfl | rfl | rfl | rfl | rfl
  all_goals
    simp only [fullI] at dm dt d5
    simp only [Int.reduceAdd, Int.reduceEq, ↓reduceIte] at dm dt d5
    go_enter Tryz.func55, Tryz.ntmps55
    go_wp2_with (go_at_call 69; refine (rwidth_any _ _).mono ?_; rintro e w' ⟨rfl, rfl⟩; rw [dk])
    refine bodyPost_ret (v := getV (c - m, m, (a : Int) + 1, 0, 0)) (by simp [results, Tryz.results55, go_sem, fault, getV]) rfl ⟨rfl, ?_⟩
    go_grown

set_option maxHeartbeats 8000000 in
theorem rget_large (v : Value) (xs : List Int) (a : Nat) (k : Int) (w : World) (hr : Rd .u8 w v xs) (hx : Bts xs) (hk : IsW k) (ha : a < xs.length) (c m : Int) (hc : c = xs.getD a 0) (hm : m = c % (fullI k + 1)) (hs : ¬ m < fullI k) (n : Int) (j : Nat) (hA : addG (xs.drop (a + 1)) 0 m = .inl (n, j)) :
    Calls Tryz.prog 55 #[v, .int .i64 a, .int .i64 k] w fun e w' => e = .returned (getV (c - m, n, (a : Int) + 1 + (j : Int), 0, 0)) ∧ Below w.heap.size w w' := by
  have hrl := hr.len
  have hml : maxLen = 9223372036854775807 := rfl
  rw [hml] at hrl
  have hcb := getD_bts hx a
  rw [← hc] at hcb
  have dk : decide (IsW k) = true := decide_eq_true hk
  have HX := Lib.hid hx
  obtain ⟨va, vc, rfl⟩ := hr.isSlice
  obtain ⟨b, o, rfl, hb, hcell⟩ := rget_cell hr ha
  have HCell : Hid (∀ i, i < xs.length → w.cell? ⟨b, o + i, none⟩ = some (.int .u8 (xs.getD i 0))) := by
    intro i hi
    obtain ⟨b', o', he, _, h'⟩ := rget_cell hr hi
    simp only [Option.some.injEq, Addr.mk.injEq] at he
    rw [he.1, he.2.1]; exact h'
  rw [← hc] at hcell
  have hs0 : decide ((a : Int) < 0) = false := decide_eq_false (by omega)
  have hs1 : decide ((a : Int) > (xs.length : Int)) = false := decide_eq_false (by omega)
  have hs2 : ((a : Int) == (xs.length : Int)) = false := by simp; omega
  have hw2 : IntKind.i64.wrap ((a : Int) + 1) = (a : Int) + 1 := by rw [IntKind.wrap_i64]; omega
  have d5 : decide (m < fullI k) = false := decide_eq_false hs
  have m0 : 0 ≤ m := by rw [hm]; exact Int.emod_nonneg _ (by have := fullI_pos k; omega)
  have hmc : m ≤ c := by rw [hm]; exact emod_le_self' hcb.1 (by have := fullI_pos k; omega)
  have hw1 : IntKind.i64.wrap (c - m) = c - m := by rw [IntKind.wrap_i64]; omega
  have dm : c % (fullI k + 1) = m := hm.symm
  have dt : c.tmod (fullI k + 1) = m := by rw [Int.tmod_eq_emod_of_nonneg hcb.1]; exact dm
  have A0 : Hid (addG (xs.drop (a + 1 + 0)) 0 m = .inl (n, j)) := hA
  have hm9 : m ≤ 4611686018427387903 := by omega
  clear hr hx hc hs hm hA
  rcases hk.cases with rfl | rfl | rfl | rfl | rfl | rfl | rfl | rfl
  all_goals
    simp only [fullI] at dm dt d5
    simp only [Int.reduceAdd, Int.reduceEq, ↓reduceIte] at dm dt d5
    go_enter Tryz.func55, Tryz.ntmps55
    go_wp2_with (go_at_call 69; refine (rwidth_any _ _).mono ?_; rintro e w' ⟨rfl, rfl⟩; rw [dk])
    go_loop [1, 11, 13] (fun p q i => ∃ (t : Nat) (nk : Int), t ≤ 9 ∧ a + 1 + t ≤ xs.length ∧ 0 ≤ nk ∧ nk ≤ 4611686018427387903 ∧ p = .int .i64 ((a : Int) + 1 + (t : Int)) ∧ q = .int .i64 nk ∧ i = .int .i64 (t : Int) ∧ Hid (addG (xs.drop (a + 1 + t)) t nk = .inl (n, j))) (fun _ _ i => xs.length - (intOf i).toNat)
    case atStart => exact ⟨0, m, by omega, by omega, m0, hm9, by simp, rfl, rfl, A0⟩
    case round =>
      obtain ⟨t, nk, ht9, ht, n0, n1, rfl, rfl, rfl, A⟩ := hrel
      clear A0
      have hlt : a + 1 + t < xs.length := by
        by_cases h : a + 1 + t < xs.length
        · exact h
        · have := A.out
          rw [List.drop_eq_nil_of_le (by omega), addG_end] at this
          cases this
      obtain ⟨u, hu⟩ : ∃ u, u = xs.getD (a + 1 + t) 0 := ⟨_, rfl⟩
      have hub := getD_bts HX.out (a + 1 + t)
      rw [← hu] at hub
      have hcl := HCell.out _ hlt
      rw [← hu] at hcl
      have hcl2 : w.cell? ⟨b, o + ((a : Int) + 1 + (t : Int)).toNat, none⟩ = some (.int .u8 u) := by
        rw [show ((a : Int) + 1 + (t : Int)).toNat = a + 1 + t by omega]; exact hcl
      have hAA := A.out
      rw [drop_at hlt, ← hu] at hAA
      clear A hu
      have hno : ¬ (t = 9 ∨ (4611686018427387903 - nk) / ((128 ^ t : Nat) : Int) < u % 128) := by
        intro h
        rw [addG_bad h] at hAA
        cases hAA
      have e9 : decide ((t : Int) ≥ 9) = false := decide_eq_false (by omega)
      have e9' : decide (t ≥ 9) = false := decide_eq_false (by omega)
      have e9'' : decide (9 ≤ t) = false := decide_eq_false (by omega)
      have dl : decide ((a : Int) + 1 + (t : Int) ≥ (xs.length : Int)) = false := decide_eq_false (by omega)
      have hP : (0 : Int) < 2 ^ (7 * t) := by rw [two_pow7]; have : 0 < 128 ^ t := Nat.pow_pos (by decide); omega
      have hsub : IntKind.i64.wrap (4611686018427387903 - nk) = 4611686018427387903 - nk := by rw [IntKind.wrap_i64]; omega
      have h7 : IntKind.i64.wrap (7 * (t : Int)) = ((7 * t : Nat) : Int) := by rw [IntKind.wrap_i64]; omega
      have d1 : decide (u % 128 > (4611686018427387903 - nk) / 2 ^ (7 * t)) = false := decide_eq_false (by rw [two_pow7]; exact fun h => hno (.inr h))
      have hroom := addG_room (n := nk) (c := u) (i := t) (fun hh => hno (.inr hh))
      have hm0 : 0 ≤ u % 128 * ((128 ^ t : Nat) : Int) := Int.mul_nonneg (by omega) (Int.natCast_nonneg _)
      rw [← two_pow7] at hroom hm0
      have hsh : IntKind.i64.wrap (u % 128 * 2 ^ (7 * t)) = u % 128 * 2 ^ (7 * t) := by
        generalize u % 128 * (2 : Int) ^ (7 * t) = q at hroom hm0 ⊢
        rw [IntKind.wrap_i64]; omega
      have hsum : IntKind.i64.wrap (nk + u % 128 * 2 ^ (7 * t)) = nk + u % 128 * 2 ^ (7 * t) := by
        generalize u % 128 * (2 : Int) ^ (7 * t) = q at hroom hm0 ⊢
        rw [IntKind.wrap_i64]; omega
      have hw3 : IntKind.i64.wrap ((a : Int) + 1 + (t : Int) + 1) = (a : Int) + 1 + (t : Int) + 1 := by rw [IntKind.wrap_i64]; omega
      have hut : u.tmod 128 = u % 128 := Int.tmod_eq_emod_of_nonneg hub.1
      by_cases hl : u < 128
      · rw [addG_last hno hl] at hAA
        simp only [Sum.inl.injEq, Prod.mk.injEq] at hAA
        obtain ⟨hn, hj⟩ := hAA
        rw [← two_pow7] at hn
        have HN : Hid (nk + u % 128 * 2 ^ (7 * t) = n ∧ (a : Int) + 1 + (t : Int) + 1 = (a : Int) + 1 + (j : Int)) := ⟨hn, by omega⟩
        have d2 : decide (u < 128) = true := decide_eq_true hl
        clear hn hj hno hl hroom hm0
        have hsh' : wrap64 (u % 128 * 2 ^ (7 * t)) = u % 128 * 2 ^ (7 * t) := (IntWalk.i64_left _).symm.trans hsh
        have hsum' : wrap64 (nk + u % 128 * 2 ^ (7 * t)) = nk + u % 128 * 2 ^ (7 * t) := (IntWalk.i64_left _).symm.trans hsum
        go_wp2_with fail
        refine bodyPost_ret (v := getV (c - m, nk + u % 128 * 2 ^ (7 * t), (a : Int) + 1 + (t : Int) + 1, 0, 0)) (by simp [results, Tryz.results55, go_sem, fault, getV, hsh', hsum']) rfl ⟨by rw [HN.out.1, HN.out.2], ?_⟩
        go_grown
      · rw [addG_more hno hl] at hAA
        rw [← two_pow7] at hAA
        have AA : Hid (addG (xs.drop (a + 1 + (t + 1))) (t + 1) (nk + u % 128 * 2 ^ (7 * t)) = .inl (n, j)) := hAA
        have d2 : decide (u < 128) = false := decide_eq_false hl
        have ht8 : t + 1 ≤ 9 := by omega
        clear hAA hno hl
        go_wp2_with fail
        go_round
        case rel => exact ⟨t + 1, _, ht8, by omega, Int.add_nonneg n0 hm0, hroom, by simp; omega, rfl, by go_num, AA⟩
        case measure => simp [intOf]; omega

theorem rget_ok (v : Value) (xs : List Int) (a : Nat) (k : Int) (w : World) (hr : Rd .u8 w v xs) (hx : Bts xs) (hk : IsW k) (ha : a < xs.length) {f n x : Int} (hP : getP xs a k = (f, n, x, 0, 0)) :
    Calls Tryz.prog 55 #[v, .int .i64 a, .int .i64 k] w fun e w' => e = .returned (.tuple #[.int .i64 f, .int .i64 n, .int .i64 x, .agg #[.int .i64 0, .int .i64 0]]) ∧ Below w.heap.size w w' := by
  rcases getP_form hk ha hP with ⟨h1, rfl, rfl, rfl⟩ | ⟨h1, rfl, j, hj, rfl⟩
  · exact rget_small v xs a k w hr hx hk ha _ _ rfl rfl h1
  · exact rget_large v xs a k w hr hx hk ha _ _ rfl rfl h1 n j hj
end Go.Proofs.YtbkbabaoockigaaGreatDoor
