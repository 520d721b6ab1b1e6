/- The law Between. -/
import Derived.Test.YtfcojlnbocncpaaRtK
import Derived.Test.YtfcojlnbocncpaaRtP
set_option linter.unusedSimpArgs false
set_option linter.unusedVariables false
namespace Go.Proofs.Ytfcojlnbocncpaa
open Go.RowKit

set_option maxHeartbeats 800000 in
theorem between_none (v : Value) (xs : List Int) (d : Int) (w : World) (hr : Rd .i64 w v xs) (hl : xs.length * 8 ≤ 140737488351232) (h0 : takenL d xs = []) :
    Calls Try.prog 7 #[v, .int .i64 d] w (Yes w) := by
  have P := Lib.hid (play_any v xs d w hr hl)
  have HQ := Lib.hid (play_none h0)
  have H0 := Lib.hid h0
  obtain ⟨va, vc, rfl⟩ := hr.isSlice
  clear hr h0
  go_enter Try.func7, Try.ntmps7
  go_wp2_with fail
  refine P.out.mono ?_
  rintro e w1 ⟨u, rfl, ow, b1⟩
  rw [HQ.out]
  rw [H0.out] at ow
  obtain ⟨ua, uc, rfl⟩ := ow.len
  have BB := Lib.hid (b1.alloc b1.size (.cells #[.bool false, .int .i64 0, .int .i64 0, .int .i64 0, .int .i64 0] 24))
  clear b1 ow P HQ H0
  unfold nul
  simp only [List.length_nil]
  go_wp2_with fail
  refine (alive_any _).mono ?_
  rintro e w9 ⟨rfl, bn⟩
  have b9 := Lib.hid (BB.out.trans (bn.mono BB.out.size))
  clear bn BB
  go_wp2
  go_ret
  exact ⟨rfl, b9.out⟩

set_option maxHeartbeats 1600000 in
theorem between_some (v : Value) (xs : List Int) (d : Int) (w : World) (hr : Rd .i64 w v xs) (hl : xs.length * 8 ≤ 140737488351232) (n : Int) (ys : List Int) (h0 : takenL d xs = n :: ys) :
    Calls Try.prog 7 #[v, .int .i64 d] w (Yes w) := by
  have P := Lib.hid (play_any v xs d w hr hl)
  have HM := play_among h0
  obtain ⟨q, hq⟩ : ∃ q, playQ d xs = q := ⟨_, rfl⟩
  rw [hq] at HM
  obtain ⟨h, l, s, u, t⟩ := q
  obtain ⟨ys', hys⟩ : ∃ ys', n :: ys = ys' := ⟨_, rfl⟩
  have hlen : ys'.length = ys.length + 1 := by rw [← hys]; rfl
  have HF := Lib.hid (show ys'.getD 0 0 = n by rw [← hys]; rfl)
  obtain ⟨hgh, hghe⟩ : ∃ g, mostL n ys' = g := ⟨_, rfl⟩
  have HLe := Lib.hid (show leastL n ys' = l by rw [← hys]; exact HM.least.symm)
  have HHi := Lib.hid hghe
  have hh : h = true := HM.has
  subst hh
  obtain ⟨r1, r2, r3, _, _⟩ := right_has HM.right rfl
  simp only at r1 r2 r3
  have m1 : s ≤ hgh := by rw [← hghe, ← hys]; exact HM.high
  have m2 : l - 1 ≤ s := by have := HM.low; rw [← HM.least] at this; exact this
  rw [hys] at h0
  have hfew : ys'.length ≤ xs.length := by have := taken_len d xs; rw [h0] at this; exact this
  have HQ := Lib.hid hq
  have H0 := Lib.hid h0
  obtain ⟨va, vc, rfl⟩ := hr.isSlice
  have hl9 : ys'.length < 9223372036854775807 := by omega
  obtain ⟨L, hL⟩ : ∃ L, L = ys'.length := ⟨_, rfl⟩
  rw [← hL] at hlen hl9
  have hL0 : ((L : Int) == 0) = false := by simp; omega
  have hL1 : (0 : Int) < (L : Int) := by omega
  have HL := Lib.hid hL
  have hL2 : 0 < L := by omega
  have t1 : decide (s ≤ hgh) = true := decide_eq_true m1
  have t2 : decide (s ≥ l - 1) = true := decide_eq_true m2
  have t3 : decide (u ≥ 0) = true := decide_eq_true r3.1
  have w1 : IntKind.i64.wrap (l - 1) = l - 1 := wraps_i64' _ (by omega) (by omega)
  have M := Lib.hid (And.intro m1 m2)
  clear hr h0 hq HM hys hL hfew hl hlen hghe r1 r2 r3 m1 m2
  go_enter Try.func7, Try.ntmps7
  go_wp2_with fail
  refine P.out.mono ?_
  rintro e w1 ⟨u8, rfl, ow, b1⟩
  rw [HQ.out]
  rw [H0.out] at ow
  obtain ⟨ua, uc, rfl⟩ := ow.len
  obtain ⟨g, rfl, hg⟩ := ow.shape (by have := HL.out; omega)
  rw [← HL.out]
  have BB := Lib.hid (b1.alloc b1.size (.cells #[.bool true, .int .i64 l, .int .i64 s, .int .i64 u, .int .i64 t] 24))
  have OW := Lib.hid (ow.alloc (.cells #[.bool true, .int .i64 l, .int .i64 s, .int .i64 u, .int .i64 t] 24))
  have HS := Lib.hid (held_last true l s u t 24 w1)
  clear b1 ow P HQ H0
  simp only
  go_wp2_with fail
  generalize w1.alloc (.cells #[.bool true, .int .i64 l, .int .i64 s, .int .i64 u, .int .i64 t] 24) = w9 at BB OW HS ⊢
  generalize w1.heap.size = p at HS ⊢
  have x0 : w9.cell? ⟨g, 0, none⟩ = some (.int .i64 n) := by rw [← HF.out]; exact (OW.out.at 0 (by have := HL.out; omega)).1
  have y0 : w9.drew.cell? ⟨g, 0, none⟩ = some (.int .i64 n) := x0
  go_quiet (fail)
  have OW := Lib.hid (OW.out.below (below_drewN (Below.refl w9.heap.size w9) nq))
  have HS := Lib.hid (HS.out.below (below_drewN (Below.refl w9.heap.size w9) nq))
  have b9 := Lib.hid (below_drewN BB.out nq)
  clear x0 y0 BB
  generalize w9.drewN nq = w8 at OW HS b9 ⊢
  obtain ⟨p0, p1, p2, p3, p4⟩ := HS.out.facts
  go_wp2_with fail
  go_loop [8, 9, 38] (fun a b i => ∃ (k : Nat), i = .int .i64 k ∧ k ≤ L ∧ a = .int .i64 (leastL n (ys'.take k)) ∧ b = .int .i64 (mostL n (ys'.take k))) (fun _ _ i => L - (intOf i).toNat)
  case atStart => exact ⟨0, rfl, Nat.zero_le _, rfl, rfl⟩
  case round =>
    obtain ⟨k, rfl, hk, rfl, rfl⟩ := hrel
    by_cases hlt : k < L
    · have hlt' : k < ys'.length := by have := HL.out; omega
      have x1 : w8.cell? ⟨g, k, none⟩ = some (.int .i64 (ys'.getD k 0)) := (OW.out.at k hlt').1
      have HE := Lib.hid (least_more n ys' k hlt')
      have HG := Lib.hid (most_more n ys' k hlt')
      have hi1 : (k : Int) < (L : Int) := by omega
      have hw1 : IntKind.i64.wrap ((k : Int) + 1) = (k : Int) + 1 := wraps_i64' _ (by omega) (by omega)
      generalize ys'.getD k 0 = x at x1 HE HG
      generalize leastL n (ys'.take k) = a at HE ⊢
      generalize mostL n (ys'.take k) = c at HG ⊢
      clear hlt'
      by_cases hx : x < a
      · by_cases hy : c < x
        · have HE2 : Hid (leastL n (ys'.take (k + 1)) = x) := by show _ = _; rw [HE.out]; exact if_pos hx
          have HG2 : Hid (mostL n (ys'.take (k + 1)) = x) := by show _ = _; rw [HG.out]; exact if_pos hy
          go_wp2
          go_round
          case rel => exact ⟨k + 1, by go_num, by omega, by rw [HE2.out], by rw [HG2.out]⟩
          case measure => simp [intOf, hw1]; omega
        · have HE2 : Hid (leastL n (ys'.take (k + 1)) = x) := by show _ = _; rw [HE.out]; exact if_pos hx
          have HG2 : Hid (mostL n (ys'.take (k + 1)) = c) := by show _ = _; rw [HG.out]; exact if_neg hy
          go_wp2
          go_round
          case rel => exact ⟨k + 1, by go_num, by omega, by rw [HE2.out], by rw [HG2.out]⟩
          case measure => simp [intOf, hw1]; omega
      · by_cases hy : c < x
        · have HE2 : Hid (leastL n (ys'.take (k + 1)) = a) := by show _ = _; rw [HE.out]; exact if_neg hx
          have HG2 : Hid (mostL n (ys'.take (k + 1)) = x) := by show _ = _; rw [HG.out]; exact if_pos hy
          go_wp2
          go_round
          case rel => exact ⟨k + 1, by go_num, by omega, by rw [HE2.out], by rw [HG2.out]⟩
          case measure => simp [intOf, hw1]; omega
        · have HE2 : Hid (leastL n (ys'.take (k + 1)) = a) := by show _ = _; rw [HE.out]; exact if_neg hx
          have HG2 : Hid (mostL n (ys'.take (k + 1)) = c) := by show _ = _; rw [HG.out]; exact if_neg hy
          go_wp2
          go_round
          case rel => exact ⟨k + 1, by go_num, by omega, by rw [HE2.out], by rw [HG2.out]⟩
          case measure => simp [intOf, hw1]; omega
    · have hk2 : k = ys'.length := by have := HL.out; omega
      have HE : Hid (leastL n (ys'.take k) = l) := by
        show _ = _
        rw [hk2, List.take_of_length_le (Nat.le_refl _)]; exact HLe.out
      have HG : Hid (mostL n (ys'.take k) = hgh) := by
        show _ = _
        rw [hk2, List.take_of_length_le (Nat.le_refl _)]; exact HHi.out
      rw [HE.out, HG.out]
      clear hk2 HE HG
      go_wp2_with fail
      refine (alive_any _).mono ?_
      rintro e w7 ⟨rfl, bn⟩
      have b7 := Lib.hid (b9.out.trans (bn.mono b9.out.size))
      clear bn
      go_wp2
      go_ret
      exact ⟨rfl, b7.out⟩

/-- P6.5 -/
theorem rttBetween_walk (v : Value) (xs : List Int) (d : Int) (w : World) (hr : Rd .i64 w v xs) (hl : xs.length * 8 ≤ 140737488351232) :
    Calls Try.prog 7 #[v, .int .i64 d] w (Yes w) := by
  cases h0 : takenL d xs with
  | nil => exact between_none v xs d w hr hl h0
  | cons n ys => exact between_some v xs d w hr hl n ys h0
end Go.Proofs.Ytfcojlnbocncpaa
