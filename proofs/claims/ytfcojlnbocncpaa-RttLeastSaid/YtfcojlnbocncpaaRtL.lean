/- The law Least. -/
import Derived.Test.YtfcojlnbocncpaaRtK
import Derived.Test.YtfcojlnbocncpaaRtP
set_option linter.unusedSimpArgs false
set_option linter.unusedVariables false
namespace Go.Proofs.Ytfcojlnbocncpaa
open Go.RowKit

set_option maxHeartbeats 800000 in
theorem least_none (v : Value) (xs : List Int) (d : Int) (w : World) (hr : Rd .i64 w v xs) (hl : xs.length * 8 ≤ 140737488351232) (h0 : takenL d xs = []) :
    Calls Try.prog 5 #[v, .int .i64 d] w (Yes w) := by
  have P := Lib.hid (play_any v xs d w hr hl)
  have HQ := Lib.hid (play_none h0)
  have H0 := Lib.hid h0
  have hg := guard_not
  have q24 := fun w => eql_any false false 0 0 0 0 0 0 0 0 w
  rw [same_self] at q24
  obtain ⟨va, vc, rfl⟩ := hr.isSlice
  clear hr h0
  go_enter Try.func5, Try.ntmps5
  go_wp2_with fail
  refine P.out.mono ?_
  rintro e w1 ⟨u, rfl, ow, b1⟩
  rw [HQ.out]
  rw [H0.out] at ow
  obtain ⟨ua, uc, rfl⟩ := ow.len
  have BB := Lib.hid (b1.alloc b1.size (.cells #[.bool false, .int .i64 0, .int .i64 0, .int .i64 0, .int .i64 0] 24))
  clear b1 ow P HQ H0
  unfold nul
  simp only [List.length_nil]
  go_wp2_with fail
  refine (alive_any _).mono ?_
  rintro e w9 ⟨rfl, bn⟩
  have b9 := Lib.hid (BB.out.trans (bn.mono BB.out.size))
  have HS := Lib.hid ((held_last false 0 0 0 0 24 w1).below bn)
  obtain ⟨p0, p1, p2, p3, p4⟩ := HS.out.facts
  clear bn BB HS
  go_wp2
  go_ret
  exact ⟨rfl, b9.out⟩

set_option maxHeartbeats 1600000 in
theorem least_some (v : Value) (xs : List Int) (d : Int) (w : World) (hr : Rd .i64 w v xs) (hl : xs.length * 8 ≤ 140737488351232) (n : Int) (ys : List Int) (h0 : takenL d xs = n :: ys) :
    Calls Try.prog 5 #[v, .int .i64 d] w (Yes w) := by
  have P := Lib.hid (play_any v xs d w hr hl)
  have HM := play_among h0
  obtain ⟨q, hq⟩ : ∃ q, playQ d xs = q := ⟨_, rfl⟩
  rw [hq] at HM
  obtain ⟨h, l, s, u, t⟩ := q
  obtain ⟨ys', hys⟩ : ∃ ys', n :: ys = ys' := ⟨_, rfl⟩
  have hlen : ys'.length = ys.length + 1 := by rw [← hys]; rfl
  have HF := Lib.hid (show ys'.getD 0 0 = n by rw [← hys]; rfl)
  have HT := Lib.hid (show ys'.getD ys.length 0 = t by rw [← hys, ← last_getD]; exact HM.last.symm)
  have HLe := Lib.hid (show leastL n ys' = l by rw [← hys]; exact HM.least.symm)
  have hh : h = true := HM.has
  subst hh
  rw [hys] at h0
  have hfew : ys'.length ≤ xs.length := by have := taken_len d xs; rw [h0] at this; exact this
  have HQ := Lib.hid hq
  have H0 := Lib.hid h0
  obtain ⟨va, vc, rfl⟩ := hr.isSlice
  have hl9 : ys'.length < 9223372036854775807 := by omega
  obtain ⟨m, hm⟩ : ∃ m, m = ys.length := ⟨_, rfl⟩
  rw [← hm] at hlen HT
  obtain ⟨L, hL⟩ : ∃ L, L = ys'.length := ⟨_, rfl⟩
  rw [← hL] at hlen hl9
  have hL0 : ((L : Int) == 0) = false := by simp; omega
  have hL1 : (0 : Int) < (L : Int) := by omega
  have HL := Lib.hid hL
  have HLM := Lib.hid hlen
  clear hm hL hfew hl hlen
  clear hr h0 hq HM hys
  go_enter Try.func5, Try.ntmps5
  go_wp2_with fail
  refine P.out.mono ?_
  rintro e w1 ⟨u8, rfl, ow, b1⟩
  rw [HQ.out]
  rw [H0.out] at ow
  obtain ⟨ua, uc, rfl⟩ := ow.len
  obtain ⟨g, rfl, hg⟩ := ow.shape (by have := HL.out; omega)
  rw [← HL.out]
  have BB := Lib.hid (b1.alloc b1.size (.cells #[.bool true, .int .i64 l, .int .i64 s, .int .i64 u, .int .i64 t] 24))
  have OW := Lib.hid (ow.alloc (.cells #[.bool true, .int .i64 l, .int .i64 s, .int .i64 u, .int .i64 t] 24))
  have HS := Lib.hid (held_last true l s u t 24 w1)
  clear b1 ow P HQ H0
  simp only
  go_wp2_with fail
  refine (alive_any _).mono ?_
  generalize w1.alloc (.cells #[.bool true, .int .i64 l, .int .i64 s, .int .i64 u, .int .i64 t] 24) = w2 at BB OW HS ⊢
  generalize w1.heap.size = p at HS ⊢
  rintro e w9 ⟨rfl, bn⟩
  have b9 := Lib.hid (BB.out.trans (bn.mono BB.out.size))
  have OW := Lib.hid (OW.out.below bn)
  have HS := Lib.hid (HS.out.below bn)
  obtain ⟨p0, p1, p2, p3, p4⟩ := HS.out.facts
  have x0 : w9.cell? ⟨g, 0, none⟩ = some (.int .i64 n) := by rw [← HF.out]; exact (OW.out.at 0 (by have := HL.out; omega)).1
  clear bn BB HS
  go_wp2_with fail
  go_loop [8, 35] (fun a i => ∃ (k : Nat), i = .int .i64 k ∧ k ≤ L ∧ a = .int .i64 (leastL n (ys'.take k))) (fun _ i => L - (intOf i).toNat)
  case atStart => exact ⟨0, rfl, Nat.zero_le _, rfl⟩
  case round =>
    obtain ⟨k, rfl, hk, rfl⟩ := hrel
    by_cases hlt : k < L
    · have hlt' : k < ys'.length := by have := HL.out; omega
      have x1 : w9.cell? ⟨g, k, none⟩ = some (.int .i64 (ys'.getD k 0)) := (OW.out.at k hlt').1
      have HE := Lib.hid (least_more n ys' k hlt')
      have hi1 : (k : Int) < (L : Int) := by omega
      have hw1 : IntKind.i64.wrap ((k : Int) + 1) = (k : Int) + 1 := wraps_i64' _ (by omega) (by omega)
      generalize ys'.getD k 0 = x at x1 HE
      generalize leastL n (ys'.take k) = a at HE ⊢
      clear hlt'
      by_cases hx : x < a
      · have HE2 : Hid (leastL n (ys'.take (k + 1)) = x) := by show _ = _; rw [HE.out]; exact if_pos hx
        go_wp2
        go_round
        case rel => exact ⟨k + 1, by go_num, by omega, by rw [HE2.out]⟩
        case measure => simp [intOf, hw1]; omega
      · have HE2 : Hid (leastL n (ys'.take (k + 1)) = a) := by show _ = _; rw [HE.out]; exact if_neg hx
        go_wp2
        go_round
        case rel => exact ⟨k + 1, by go_num, by omega, by rw [HE2.out]⟩
        case measure => simp [intOf, hw1]; omega
    · have hk2 : k = ys'.length := by have := HL.out; omega
      have HE : Hid (leastL n (ys'.take k) = l) := by
        show _ = _
        rw [hk2, List.take_of_length_le (Nat.le_refl _)]; exact HLe.out
      have hmL : m < ys'.length := by have := HLM.out; have := HL.out; omega
      have x2 : w9.cell? ⟨g, m, none⟩ = some (.int .i64 t) := by rw [← HT.out]; exact (OW.out.at m hmL).1
      have HW : Hid (IntKind.i64.wrap ((L : Int) - 1) = (m : Int)) := by
        have := HLM.out
        show _ = _
        rw [wraps_i64' _ (by omega) (by omega)]; omega
      have hw2 := HW.out
      have hm1 : (m : Int) < (L : Int) := by have := HLM.out; omega
      have hm2 : (0 : Int) ≤ (m : Int) := by omega
      rw [HE.out]
      have d0 : w9.drew.cell? ⟨p, 0, none⟩ = some (.bool true) := p0
      have d1 : w9.drew.cell? ⟨p, 1, none⟩ = some (.int .i64 l) := p1
      have d4 : w9.drew.cell? ⟨p, 4, none⟩ = some (.int .i64 t) := p4
      have dx : w9.drew.cell? ⟨g, m, none⟩ = some (.int .i64 t) := x2
      clear hk2 hmL HE
      go_wp2_with fail
      go_quiet (fail)
      go_wp2
      go_ret
      exact ⟨rfl, below_drewN b9.out _⟩

/-- P6.3 -/
theorem rttLeast_walk (v : Value) (xs : List Int) (d : Int) (w : World) (hr : Rd .i64 w v xs) (hl : xs.length * 8 ≤ 140737488351232) :
    Calls Try.prog 5 #[v, .int .i64 d] w (Yes w) := by
  cases h0 : takenL d xs with
  | nil => exact least_none v xs d w hr hl h0
  | cons n ys => exact least_some v xs d w hr hl n ys h0
end Go.Proofs.Ytfcojlnbocncpaa
