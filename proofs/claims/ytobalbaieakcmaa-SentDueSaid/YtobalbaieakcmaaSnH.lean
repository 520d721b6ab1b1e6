/- Layer 5's Has, for layer 8. -/
import Derived.Test.YtobalbaieakcmaaSnB2
import Derived.Test.YtobalbaieakcmaaSpR1
set_option linter.unusedSimpArgs false
set_option linter.unusedVariables false
namespace Go.Proofs.Ytobalbaieakcmaa
open Go.RowKit
theorem has_eq {n : Int} : ∀ {ss : List (Int × Int)} {l : Int}, riseB l ss = true → inB n ss = (decide (upN n ss < ss.length) && decide ((ss.getD (upN n ss) (0, 0)).1 ≤ n))
  | [], _, _ => rfl
  | s :: r, l, h => by
    rw [rise_cons] at h
    have ih := has_eq (n := n) h.2
    by_cases c : s.2 < n
    · rw [inB, upN, if_pos c, ih, List.getD_cons_succ, List.length_cons]
      rw [decide_eq_false (by omega), Bool.false_or]
      congr 1
      rw [decide_eq_decide]; omega
    · rw [inB, upN, if_neg c]
      have : inB n r = false := by
        cases q : inB n r with
        | false => rfl
        | true => have := in_rise h.2 q; omega
      rw [this, Bool.eq_iff_iff]
      simp; omega

theorem has_any (v : Value) (ss : List (Int × Int)) (n : Int) (w : World) (hr : RdS w v ss) :
    Calls Try.prog 34 #[v, .int .i64 n] w fun e w' => e = .returned (.bool (rightB ss && inB n ss)) ∧ Below w.heap.size w w' := by
  have HRt := right_any v ss w hr
  cases h : rightB ss <;> rw [h] at HRt
  · obtain ⟨va, vc, rfl, _, _⟩ := hr.isSlice
    have HRt' := Lib.hid HRt
    clear HRt hr h
    go_enter Try.func34, Try.ntmps34
    go_wp2_with (go_at_call 30; refine HRt'.out.mono ?_; rintro e w2 ⟨rfl, hb2⟩)
    go_ret
    exact ⟨rfl, hb2⟩
  · have hR : riseB 0 ss = true ∧ ss.length ≤ 256 := by simpa [rightB, and_comm] using h
    have HE := Lib.hid (has_eq (n := n) hR.1)
    rw [Bool.true_and]
    have HR := Lib.hid hr
    have H := Lib.hid h
    have hk := upN_le n ss
    have hl := hR.2
    have HRt' := Lib.hid HRt
    clear hR
    by_cases hlt : upN n ss < ss.length
    · obtain ⟨b, o, c, rfl, hb⟩ := hr.form (by intro h0; rw [h0] at hlt; simp at hlt)
      have HK := Lib.hid (decide_eq_true hlt)
      generalize hu : upN n ss = k at hlt HE hk HK
      have HU := Lib.hid hu
      obtain ⟨q0, q1⟩ := hr.cells rfl k hlt
      have Q0 := Lib.hid q0
      generalize (ss.getD k (0, 0)).1 = x at Q0 HE
      have hi1 : (k : Int) < (ss.length : Int) := by omega
      have hi1' : decide ((k : Int) < (ss.length : Int)) = true := decide_eq_true hi1
      clear HRt hr h q0 q1 hu
      go_enter Try.func34, Try.ntmps34
      go_wp2_with (first
        | (go_at_call 30; refine HRt'.out.mono ?_; rintro e w2 ⟨rfl, hb2⟩)
        | (go_at_call 43; refine (upTo_any _ ss n _ (HR.out.below hb2) H.out).mono ?_; rw [HU.out]; rintro e w3 ⟨rfl, hb3⟩; have hb4 := Lib.hid (hb2.trans (hb3.mono hb2.size)); have c3 : w3.cell? ⟨b, o + k * 2, none⟩ = some (.int .i64 x) := (hb4.out.cell (p := ⟨b, o + k * 2, none⟩) hb).trans Q0.out))
      go_ret
      rw [HE.out, HK.out, Bool.true_and]
      exact ⟨rfl, hb4.out⟩
    · have HK := Lib.hid (decide_eq_false hlt)
      obtain ⟨va, vc, rfl, _, _⟩ := hr.isSlice
      generalize hu : upN n ss = k at hlt HE hk HK
      have HU := Lib.hid hu
      have hi1 : decide ((k : Int) < (ss.length : Int)) = false := decide_eq_false (by omega)
      have hi2 : decide (k < ss.length) = false := decide_eq_false (by omega)
      clear HRt hr h hu
      go_enter Try.func34, Try.ntmps34
      go_wp2_with (first
        | (go_at_call 30; refine HRt'.out.mono ?_; rintro e w2 ⟨rfl, hb2⟩)
        | (go_at_call 43; refine (upTo_any _ ss n _ (HR.out.below hb2) H.out).mono ?_; rw [HU.out]; rintro e w3 ⟨rfl, hb3⟩; have hb4 := Lib.hid (hb2.trans (hb3.mono hb2.size))))
      go_ret
      rw [HE.out, HK.out, Bool.false_and]
      exact ⟨rfl, hb4.out⟩

theorem rhas_any (v : Value) (ss : List (Int × Int)) (n : Int) (w : World) (hr : RdS w v ss) :
    Calls Try.prog 37 #[v, .int .i64 n] w fun e w' => e = .returned (.bool (rightB ss && inB n ss)) ∧ Below w.heap.size w w' := by
  by_cases h0 : ss = []
  · subst h0
    obtain ⟨va, vc, rfl, _, _⟩ := hr.isSlice
    clear hr
    go_enter Try.func37, Try.ntmps37
    go_wp2_with fail
    refine wp_loop_rounds 1 ?_
    rw [rounds_succ]
    go_wp2
    go_ret
    exact ⟨rfl, Below.refl _ _⟩
  have hm : ss.length ≤ maxLen := by obtain ⟨_, _, e, h1, h2⟩ := hr.isSlice; omega
  unfold maxLen at hm
  obtain ⟨b, o, c, rfl, hb⟩ := hr.form h0
  have HR := Lib.hid hr
  clear hr h0
  go_enter Try.func37, Try.ntmps37
  go_wp2_with fail
  go_loop [5, 6] (fun s i => ∃ (k : Nat) (r : Bool), i = .int .i64 k ∧ s = .bool r ∧ k ≤ ss.length ∧ (r || inB n (ss.drop k)) = inB n ss) (fun _ i => ss.length - (intOf i).toNat)
  case atStart => exact ⟨0, false, rfl, rfl, Nat.zero_le _, rfl⟩
  case round =>
    obtain ⟨k, r, rfl, rfl, hk, hin⟩ := hrel
    have HI := Lib.hid hin
    clear hin
    by_cases hlt : k < ss.length
    · obtain ⟨q0, q1⟩ := HR.out.cells rfl k hlt
      have hd : ss.drop k = ss.getD k (0, 0) :: ss.drop (k + 1) := by rw [List.drop_eq_getElem_cons hlt]; simp [List.getD, hlt]
      obtain ⟨⟨x, y⟩, hs⟩ : ∃ s, s = ss.getD k (0, 0) := ⟨_, rfl⟩
      rw [← hs] at q0 q1 hd
      simp only at q0 q1
      have HD := Lib.hid hd
      have hi1 : (k : Int) < (ss.length : Int) := by omega
      have hw1 : IntKind.i64.wrap ((k : Int) + 1) = (k : Int) + 1 := wraps_i64' _ (by omega) (by omega)
      clear hd hs
      cases r
      · by_cases h1 : x ≤ n
        · have t1 : decide (x ≤ n) = true := decide_eq_true h1
          by_cases h2 : n ≤ y
          · have t2 : decide (n ≤ y) = true := decide_eq_true h2
            have HE : Hid ((true || inB n (ss.drop (k + 1))) = inB n ss) := by
              show _ = _; rw [← HI.out, HD.out, inB, decide_eq_true ⟨h1, h2⟩]; rfl
            clear h1 h2
            go_wp2
            go_round
            case rel => exact ⟨k + 1, true, by go_num, rfl, by omega, HE.out⟩
            case measure => simp [intOf, hw1]; omega
          · have t2 : decide (n ≤ y) = false := decide_eq_false h2
            have HE : Hid ((false || inB n (ss.drop (k + 1))) = inB n ss) := by
              show _ = _; rw [← HI.out, HD.out, inB, decide_eq_false (by simp only; omega)]; rfl
            clear h1 h2
            go_wp2
            go_round
            case rel => exact ⟨k + 1, false, by go_num, rfl, by omega, HE.out⟩
            case measure => simp [intOf, hw1]; omega
        · have t1 : decide (x ≤ n) = false := decide_eq_false h1
          have HE : Hid ((false || inB n (ss.drop (k + 1))) = inB n ss) := by
            show _ = _; rw [← HI.out, HD.out, inB, decide_eq_false (by simp only; omega)]; rfl
          clear h1
          go_wp2
          go_round
          case rel => exact ⟨k + 1, false, by go_num, rfl, by omega, HE.out⟩
          case measure => simp [intOf, hw1]; omega
      · have HE : Hid ((true || inB n (ss.drop (k + 1))) = inB n ss) := by
          show _ = _; rw [← HI.out]; rfl
        go_wp2
        go_round
        case rel => exact ⟨k + 1, true, by go_num, rfl, by omega, HE.out⟩
        case measure => simp [intOf, hw1]; omega
    · have hk2 : k = ss.length := by omega
      have HE : Hid (inB n ss = r) := by
        show _ = _; rw [← HI.out, hk2, List.drop_length, inB, Bool.or_false]
      clear hk2
      cases r
      · go_wp2
        go_ret
        rw [HE.out, Bool.and_false]
        exact ⟨rfl, Below.refl _ _⟩
      · go_wp2_with (go_at_call 35; refine (rright_any _ ss _ HR.out).mono ?_; rintro e w2 ⟨rfl, hb2⟩)
        go_ret
        rw [HE.out, Bool.and_true]
        exact ⟨rfl, hb2⟩

end Go.Proofs.Ytobalbaieakcmaa
