/- Walks of layer 5: Has, Count, Same. -/
import Derived.Test.YticbhdbpfpdofaaSpB2
import Derived.Test.YticbhdbpfpdofaaSpR1
set_option linter.unusedSimpArgs false
set_option linter.unusedVariables false
namespace Go.Proofs.Yticbhdbpfpdofaa
open Go.RowKit

theorem has_eq {n : Int} : ∀ {ss : List (Int × Int)} {l : Int}, riseB l ss = true → inB n ss = (decide (upN n ss < ss.length) && decide ((ss.getD (upN n ss) (0, 0)).1 ≤ n))
  | [], _, _ => rfl
  | s :: r, l, h => by
    rw [rise_cons] at h
    have ih := has_eq (n := n) h.2
    by_cases c : s.2 < n
    · rw [inB, upN, if_pos c, ih, List.getD_cons_succ, List.length_cons]
      rw [decide_eq_false (by omega), Bool.false_or]
      congr 1
      rw [decide_eq_decide]; omega
    · rw [inB, upN, if_neg c]
      have : inB n r = false := by
        cases q : inB n r with
        | false => rfl
        | true => have := in_rise h.2 q; omega
      rw [this, Bool.eq_iff_iff]
      simp; omega

set_option maxHeartbeats 1600000 in
theorem has_any (v : Value) (ss : List (Int × Int)) (n : Int) (w : World) (hr : RdS w v ss) :
    Calls Try.prog 12 #[v, .int .i64 n] w fun e w' => e = .returned (.bool (rightB ss && inB n ss)) ∧ Below w.heap.size w w' := by
  have HRt := right_any v ss w hr
  cases h : rightB ss <;> rw [h] at HRt
  · obtain ⟨va, vc, rfl, _, _⟩ := hr.isSlice
    have HRt' := Lib.hid HRt
    clear HRt hr h
    go_enter Try.func12, Try.ntmps12
    go_wp2_with (go_at_call 10; refine HRt'.out.mono ?_; rintro e w2 ⟨rfl, hb2⟩)
    go_ret
    exact ⟨rfl, hb2⟩
  · have hR : riseB 0 ss = true ∧ ss.length ≤ 256 := by simpa [rightB, and_comm] using h
    have HE := Lib.hid (has_eq (n := n) hR.1)
    rw [Bool.true_and]
    have HR := Lib.hid hr
    have H := Lib.hid h
    have hk := upN_le n ss
    have hl := hR.2
    have HRt' := Lib.hid HRt
    clear hR
    by_cases hlt : upN n ss < ss.length
    · obtain ⟨b, o, c, rfl, hb⟩ := hr.form (by intro h0; rw [h0] at hlt; simp at hlt)
      have HK := Lib.hid (decide_eq_true hlt)
      generalize hu : upN n ss = k at hlt HE hk HK
      have HU := Lib.hid hu
      obtain ⟨q0, q1⟩ := hr.cells rfl k hlt
      have Q0 := Lib.hid q0
      generalize (ss.getD k (0, 0)).1 = x at Q0 HE
      have hi1 : (k : Int) < (ss.length : Int) := by omega
      have hi1' : decide ((k : Int) < (ss.length : Int)) = true := decide_eq_true hi1
      clear HRt hr h q0 q1 hu
      go_enter Try.func12, Try.ntmps12
      go_wp2_with (first
        | (go_at_call 10; refine HRt'.out.mono ?_; rintro e w2 ⟨rfl, hb2⟩)
        | (go_at_call 31; refine (upTo_any _ ss n _ (HR.out.below hb2) H.out).mono ?_; rw [HU.out]; rintro e w3 ⟨rfl, hb3⟩; have hb4 := Lib.hid (hb2.trans (hb3.mono hb2.size)); have c3 : w3.cell? ⟨b, o + k * 2, none⟩ = some (.int .i64 x) := (hb4.out.cell (p := ⟨b, o + k * 2, none⟩) hb).trans Q0.out))
      go_ret
      rw [HE.out, HK.out, Bool.true_and]
      exact ⟨rfl, hb4.out⟩
    · have HK := Lib.hid (decide_eq_false hlt)
      obtain ⟨va, vc, rfl, _, _⟩ := hr.isSlice
      generalize hu : upN n ss = k at hlt HE hk HK
      have HU := Lib.hid hu
      have hi1 : decide ((k : Int) < (ss.length : Int)) = false := decide_eq_false (by omega)
      have hi2 : decide (k < ss.length) = false := decide_eq_false (by omega)
      clear HRt hr h hu
      go_enter Try.func12, Try.ntmps12
      go_wp2_with (first
        | (go_at_call 10; refine HRt'.out.mono ?_; rintro e w2 ⟨rfl, hb2⟩)
        | (go_at_call 31; refine (upTo_any _ ss n _ (HR.out.below hb2) H.out).mono ?_; rw [HU.out]; rintro e w3 ⟨rfl, hb3⟩; have hb4 := Lib.hid (hb2.trans (hb3.mono hb2.size))))
      go_ret
      rw [HE.out, HK.out, Bool.false_and]
      exact ⟨rfl, hb4.out⟩

set_option maxHeartbeats 1600000 in
theorem rhas_any (v : Value) (ss : List (Int × Int)) (n : Int) (w : World) (hr : RdS w v ss) :
    Calls Try.prog 13 #[v, .int .i64 n] w fun e w' => e = .returned (.bool (rightB ss && inB n ss)) ∧ Below w.heap.size w w' := by
  by_cases h0 : ss = []
  · subst h0
    obtain ⟨va, vc, rfl, _, _⟩ := hr.isSlice
    clear hr
    go_enter Try.func13, Try.ntmps13
    go_wp2_with fail
    refine wp_loop_rounds 1 ?_
    rw [rounds_succ]
    go_wp2
    go_ret
    exact ⟨rfl, Below.refl _ _⟩
  have hm : ss.length ≤ maxLen := by obtain ⟨_, _, e, h1, h2⟩ := hr.isSlice; omega
  unfold maxLen at hm
  obtain ⟨b, o, c, rfl, hb⟩ := hr.form h0
  have HR := Lib.hid hr
  clear hr h0
  go_enter Try.func13, Try.ntmps13
  go_wp2_with fail
  go_loop [5, 6] (fun s i => ∃ (k : Nat) (r : Bool), i = .int .i64 k ∧ s = .bool r ∧ k ≤ ss.length ∧ (r || inB n (ss.drop k)) = inB n ss) (fun _ i => ss.length - (intOf i).toNat)
  case atStart => exact ⟨0, false, rfl, rfl, Nat.zero_le _, rfl⟩
  case round =>
    obtain ⟨k, r, rfl, rfl, hk, hin⟩ := hrel
    have HI := Lib.hid hin
    clear hin
    by_cases hlt : k < ss.length
    · obtain ⟨q0, q1⟩ := HR.out.cells rfl k hlt
      have hd : ss.drop k = ss.getD k (0, 0) :: ss.drop (k + 1) := by rw [List.drop_eq_getElem_cons hlt]; simp [List.getD, hlt]
      obtain ⟨⟨x, y⟩, hs⟩ : ∃ s, s = ss.getD k (0, 0) := ⟨_, rfl⟩
      rw [← hs] at q0 q1 hd
      simp only at q0 q1
      have HD := Lib.hid hd
      have hi1 : (k : Int) < (ss.length : Int) := by omega
      have hw1 : IntKind.i64.wrap ((k : Int) + 1) = (k : Int) + 1 := wraps_i64' _ (by omega) (by omega)
      clear hd hs
      cases r
      · by_cases h1 : x ≤ n
        · have t1 : decide (x ≤ n) = true := decide_eq_true h1
          by_cases h2 : n ≤ y
          · have t2 : decide (n ≤ y) = true := decide_eq_true h2
            have HE : Hid ((true || inB n (ss.drop (k + 1))) = inB n ss) := by
              show _ = _; rw [← HI.out, HD.out, inB, decide_eq_true ⟨h1, h2⟩]; rfl
            clear h1 h2
            go_wp2
            go_round
            case rel => exact ⟨k + 1, true, by go_num, rfl, by omega, HE.out⟩
            case measure => simp [intOf, hw1]; omega
          · have t2 : decide (n ≤ y) = false := decide_eq_false h2
            have HE : Hid ((false || inB n (ss.drop (k + 1))) = inB n ss) := by
              show _ = _; rw [← HI.out, HD.out, inB, decide_eq_false (by simp only; omega)]; rfl
            clear h1 h2
            go_wp2
            go_round
            case rel => exact ⟨k + 1, false, by go_num, rfl, by omega, HE.out⟩
            case measure => simp [intOf, hw1]; omega
        · have t1 : decide (x ≤ n) = false := decide_eq_false h1
          have HE : Hid ((false || inB n (ss.drop (k + 1))) = inB n ss) := by
            show _ = _; rw [← HI.out, HD.out, inB, decide_eq_false (by simp only; omega)]; rfl
          clear h1
          go_wp2
          go_round
          case rel => exact ⟨k + 1, false, by go_num, rfl, by omega, HE.out⟩
          case measure => simp [intOf, hw1]; omega
      · have HE : Hid ((true || inB n (ss.drop (k + 1))) = inB n ss) := by
          show _ = _; rw [← HI.out]; rfl
        go_wp2
        go_round
        case rel => exact ⟨k + 1, true, by go_num, rfl, by omega, HE.out⟩
        case measure => simp [intOf, hw1]; omega
    · have hk2 : k = ss.length := by omega
      have HE : Hid (inB n ss = r) := by
        show _ = _; rw [← HI.out, hk2, List.drop_length, inB, Bool.or_false]
      clear hk2
      cases r
      · go_wp2
        go_ret
        rw [HE.out, Bool.and_false]
        exact ⟨rfl, Below.refl _ _⟩
      · go_wp2_with (go_at_call 11; refine (rright_any _ ss _ HR.out).mono ?_; rintro e w2 ⟨rfl, hb2⟩)
        go_ret
        rw [HE.out, Bool.and_true]
        exact ⟨rfl, hb2⟩

def countI (ss : List (Int × Int)) : Int := if rightB ss = true then sumL ss else 0

set_option maxHeartbeats 1600000 in
theorem count_any (v : Value) (ss : List (Int × Int)) (w : World) (hr : RdS w v ss) :
    Calls Try.prog 14 #[v] w fun e w' => e = .returned (.int .i64 (countI ss)) ∧ Below w.heap.size w w' := by
  have HRt := right_any v ss w hr
  cases h : rightB ss <;> rw [h] at HRt
  · obtain ⟨va, vc, rfl, _, _⟩ := hr.isSlice
    have HRt' := Lib.hid HRt
    have e : countI ss = 0 := by simp [countI, h]
    rw [e]
    clear HRt hr h e
    go_enter Try.func14, Try.ntmps14
    go_wp2_with (go_at_call 10; refine HRt'.out.mono ?_; rintro e w2 ⟨rfl, hb2⟩)
    go_ret
    exact ⟨rfl, hb2⟩
  have hR : riseB 0 ss = true ∧ ss.length ≤ 256 := by simpa [rightB, and_comm] using h
  have e : countI ss = sumL ss := by simp [countI, h]
  rw [e]
  have HRt' := Lib.hid HRt
  have hl := hR.2
  clear e h HRt
  by_cases h0 : ss = []
  · subst h0
    obtain ⟨va, vc, rfl, _, _⟩ := hr.isSlice
    clear hr hR
    go_enter Try.func14, Try.ntmps14
    go_wp2_with (go_at_call 10; refine HRt'.out.mono ?_; rintro e w2 ⟨rfl, hb2⟩)
    refine wp_loop_rounds 1 ?_
    rw [rounds_succ]
    go_wp2
    go_ret
    exact ⟨rfl, hb2⟩
  obtain ⟨b, o, c, rfl, hb⟩ := hr.form h0
  have HR := Lib.hid hr
  have HT := Lib.hid hR.1
  have hsum := sum_rise hR.1 (by omega)
  clear hr h0 hR
  go_enter Try.func14, Try.ntmps14
  go_wp2_with (go_at_call 10; refine HRt'.out.mono ?_; rintro e w2 ⟨rfl, hb2⟩)
  have HB2 := Lib.hid hb2
  clear hb2
  go_loopw [3, 11] (fun s i wr => ∃ (k : Nat) (m l : Int), i = .int .i64 k ∧ s = .int .i64 m ∧ k ≤ ss.length ∧ 0 ≤ m ∧ 0 ≤ l ∧ l ≤ 4611686018427387905 ∧ m + sumL (ss.drop k) = sumL ss ∧ riseB l (ss.drop k) = true ∧ Below w.heap.size w wr) (fun _ i _ => ss.length - (intOf i).toNat)
  case atStart => exact ⟨0, 0, 0, rfl, rfl, Nat.zero_le _, by omega, by omega, by omega, by simp, HT.out, HB2.out⟩
  case round =>
    obtain ⟨k, m, l, rfl, rfl, hk, hm, hl0, hl1, hsu, hri, hbel⟩ := hrel
    have hz := hbel.size
    by_cases hlt : k < ss.length
    · obtain ⟨q0, q1⟩ := (HR.out.below hbel).cells rfl k hlt
      have hd : ss.drop k = ss.getD k (0, 0) :: ss.drop (k + 1) := by rw [List.drop_eq_getElem_cons hlt]; simp [List.getD, hlt]
      obtain ⟨⟨x, y⟩, hs⟩ : ∃ s, s = ss.getD k (0, 0) := ⟨_, rfl⟩
      rw [← hs] at q0 q1 hd
      simp only at q0 q1
      rw [hd, rise_cons] at hri
      rw [hd, sumL] at hsu
      simp only at hri hsu
      have hs2 := sum_rise hri.2 (by omega)
      have HN : Hid (m + (y - x + 1) + sumL (ss.drop (k + 1)) = sumL ss ∧ riseB (y + 2) (ss.drop (k + 1)) = true) := ⟨by omega, hri.2⟩
      have hi1 : (k : Int) < (ss.length : Int) := by omega
      have hw1 : IntKind.i64.wrap ((k : Int) + 1) = (k : Int) + 1 := wraps_i64' _ (by omega) (by omega)
      have hxy : l ≤ x ∧ x ≤ y ∧ y ≤ 4611686018427387903 := hri.1
      have hb0 : 0 ≤ m + (y - x + 1) ∧ m + (y - x + 1) ≤ 4611686018427387905 := by omega
      have hw2 : IntKind.i64.wrap (y - x) = y - x := wraps_i64' _ (by omega) (by omega)
      have hw3 : IntKind.i64.wrap (y - x + 1) = y - x + 1 := wraps_i64' _ (by omega) (by omega)
      have hw4 : IntKind.i64.wrap (m + (y - x + 1)) = m + (y - x + 1) := wraps_i64' _ (by omega) (by omega)
      clear hd hs hsu hri hs2
      go_wp2
      exact ⟨⟨k + 1, m + (y - x + 1), y + 2, by go_num, by go_num, by omega, by omega, by omega, by omega, HN.out.1, HN.out.2, hbel.alloc hz _⟩, by simp [intOf, hw1]; omega⟩
    · have hk2 : k = ss.length := by omega
      have HE : Hid (sumL ss = m) := by
        show _ = _; rw [← hsu, hk2, List.drop_length, sumL]; omega
      clear hk2 hsu hri
      go_wp2
      go_ret
      rw [HE.out]
      exact ⟨rfl, hbel⟩

set_option maxHeartbeats 1600000 in
theorem rcount_any (v : Value) (ss : List (Int × Int)) (w : World) (hr : RdS w v ss) :
    Calls Try.prog 15 #[v] w fun e w' => e = .returned (.int .i64 (countI ss)) ∧ Below w.heap.size w w' := by
  have HRt := rright_any v ss w hr
  cases h : rightB ss <;> rw [h] at HRt
  · obtain ⟨va, vc, rfl, _, _⟩ := hr.isSlice
    have HRt' := Lib.hid HRt
    have e : countI ss = 0 := by simp [countI, h]
    rw [e]
    clear HRt hr h e
    go_enter Try.func15, Try.ntmps15
    go_wp2_with (go_at_call 11; refine HRt'.out.mono ?_; rintro e w2 ⟨rfl, hb2⟩)
    go_ret
    exact ⟨rfl, hb2⟩
  have hR : riseB 0 ss = true ∧ ss.length ≤ 256 := by simpa [rightB, and_comm] using h
  have e : countI ss = sumL ss := by simp [countI, h]
  rw [e]
  have HRt' := Lib.hid HRt
  have hl := hR.2
  clear e h HRt
  by_cases h0 : ss = []
  · subst h0
    obtain ⟨va, vc, rfl, _, _⟩ := hr.isSlice
    clear hr hR
    go_enter Try.func15, Try.ntmps15
    go_wp2_with (go_at_call 11; refine HRt'.out.mono ?_; rintro e w2 ⟨rfl, hb2⟩)
    refine wp_loop_rounds 1 ?_
    rw [rounds_succ]
    go_wp2
    go_ret
    exact ⟨rfl, hb2⟩
  obtain ⟨b, o, c, rfl, hb⟩ := hr.form h0
  have HR := Lib.hid hr
  have HT := Lib.hid hR.1
  have hsum := sum_rise hR.1 (by omega)
  clear hr h0 hR
  go_enter Try.func15, Try.ntmps15
  go_wp2_with (go_at_call 11; refine HRt'.out.mono ?_; rintro e w2 ⟨rfl, hb2⟩)
  have HB2 := Lib.hid hb2
  clear hb2
  go_loopw [3, 4] (fun s i wr => ∃ (k : Nat) (m l : Int), i = .int .i64 k ∧ s = .int .i64 m ∧ k ≤ ss.length ∧ 0 ≤ m ∧ 0 ≤ l ∧ l ≤ 4611686018427387905 ∧ m + sumL (ss.drop k) = sumL ss ∧ riseB l (ss.drop k) = true ∧ Below w.heap.size w wr) (fun _ i _ => ss.length - (intOf i).toNat)
  case atStart => exact ⟨0, 0, 0, rfl, rfl, Nat.zero_le _, by omega, by omega, by omega, by simp, HT.out, HB2.out⟩
  case round =>
    obtain ⟨k, m, l, rfl, rfl, hk, hm, hl0, hl1, hsu, hri, hbel⟩ := hrel
    have hz := hbel.size
    by_cases hlt : k < ss.length
    · obtain ⟨q0, q1⟩ := (HR.out.below hbel).cells rfl k hlt
      have hd : ss.drop k = ss.getD k (0, 0) :: ss.drop (k + 1) := by rw [List.drop_eq_getElem_cons hlt]; simp [List.getD, hlt]
      obtain ⟨⟨x, y⟩, hs⟩ : ∃ s, s = ss.getD k (0, 0) := ⟨_, rfl⟩
      rw [← hs] at q0 q1 hd
      simp only at q0 q1
      rw [hd, rise_cons] at hri
      rw [hd, sumL] at hsu
      simp only at hri hsu
      have hs2 := sum_rise hri.2 (by omega)
      have HN : Hid (m + (y - x + 1) + sumL (ss.drop (k + 1)) = sumL ss ∧ riseB (y + 2) (ss.drop (k + 1)) = true) := ⟨by omega, hri.2⟩
      have hi1 : (k : Int) < (ss.length : Int) := by omega
      have hi2 : (0 : Int) ≤ (k : Int) := by omega
      have hw1 : IntKind.i64.wrap ((k : Int) + 1) = (k : Int) + 1 := wraps_i64' _ (by omega) (by omega)
      have hxy : l ≤ x ∧ x ≤ y ∧ y ≤ 4611686018427387903 := hri.1
      have hb0 : 0 ≤ m + (y - x + 1) ∧ m + (y - x + 1) ≤ 4611686018427387905 := by omega
      have hw2 : IntKind.i64.wrap (y - x) = y - x := wraps_i64' _ (by omega) (by omega)
      have hw3 : IntKind.i64.wrap (y - x + 1) = y - x + 1 := wraps_i64' _ (by omega) (by omega)
      have hw4 : IntKind.i64.wrap (m + (y - x + 1)) = m + (y - x + 1) := wraps_i64' _ (by omega) (by omega)
      have d0 : wr.drew.cell? ⟨b, o + k * 2, none⟩ = some (.int .i64 x) := q0
      have d1 : wr.drew.cell? ⟨b, o + k * 2 + 1, none⟩ = some (.int .i64 y) := q1
      have HBel := Lib.hid hbel
      clear hd hs hsu hri hs2 hbel
      go_wp2_with fail
      go_quiet (fail)
      go_wp2
      exact ⟨⟨k + 1, m + (y - x + 1), y + 2, by go_num, by go_num, by omega, by omega, by omega, by omega, HN.out.1, HN.out.2, below_drewN HBel.out _⟩, by simp [intOf, hw1]; omega⟩
    · have hk2 : k = ss.length := by omega
      have HE : Hid (sumL ss = m) := by
        show _ = _; rw [← hsu, hk2, List.drop_length, sumL]; omega
      clear hk2 hsu hri
      go_wp2
      go_ret
      rw [HE.out]
      exact ⟨rfl, hbel⟩

theorem take_eq_step {α : Type} {ss ts : List α} {k : Nat} (h1 : k < ss.length) (h2 : k < ts.length) (h : ss.take k = ts.take k) : (ss.take (k + 1) = ts.take (k + 1)) ↔ ss[k] = ts[k] := by
  rw [List.take_succ_eq_append_getElem h1, List.take_succ_eq_append_getElem h2, h]
  constructor
  · intro e; have := List.append_cancel_left e; simpa using this
  · intro e; rw [e]

set_option maxHeartbeats 3200000 in
theorem rsame_any (a b : Value) (ss ts : List (Int × Int)) (w : World) (ha : RdS w a ss) (hb : RdS w b ts) :
    Calls Try.prog 21 #[a, b] w fun e w' => e = .returned (.bool (decide (ss = ts))) ∧ Below w.heap.size w w' := by
  by_cases hl : ss.length = ts.length
  · by_cases h0 : ss = []
    · subst h0
      obtain rfl : ts = [] := List.eq_nil_of_length_eq_zero (by simpa using hl.symm)
      obtain ⟨aa, ac, rfl, _, _⟩ := RdC.isSlice ha
      obtain ⟨ba, bc, rfl, _, _⟩ := RdC.isSlice hb
      clear ha hb
      go_enter Try.func21, Try.ntmps21
      go_wp2_with fail
      refine wp_loop_rounds 1 ?_
      rw [rounds_succ]
      go_wp2
      go_ret
      exact ⟨rfl, Below.refl _ _⟩
    · obtain ⟨p, o, c, rfl, hp⟩ := RdS.form ha h0
      obtain ⟨p', o', c', rfl, hp'⟩ := RdS.form hb (by intro h; rw [h] at hl; exact h0 (List.eq_nil_of_length_eq_zero hl))
      have hm : ss.length ≤ maxLen := by obtain ⟨_, _, e, h1, h2⟩ := RdC.isSlice ha; omega
      unfold maxLen at hm
      have HA := Lib.hid ha
      have HB := Lib.hid hb
      have HL := Lib.hid hl
      have hne : ((ss.length : Int) != (ts.length : Int)) = false := by simp [hl]
      have hll : ss.length = ts.length := hl
      generalize hn : ts.length = n at hll hne hb ⊢
      have HN := Lib.hid hn
      clear ha hb hl hn
      rw [hll] at hne hm ⊢
      have HLL := Lib.hid hll
      clear hll
      go_enter Try.func21, Try.ntmps21
      go_wp2_with fail
      go_loopw [5] (fun i wr => ∃ (k : Nat), i = .int .i64 k ∧ k ≤ n ∧ ss.take k = ts.take k ∧ Below w.heap.size w wr) (fun i _ => n - (intOf i).toNat)
      case atStart => exact ⟨0, rfl, Nat.zero_le _, by simp, Below.refl _ _⟩
      case round =>
        obtain ⟨k, rfl, hk, htk, hbel⟩ := hrel
        have HTK := Lib.hid htk
        clear htk
        by_cases hlt : k < n
        · have ks : k < ss.length := by have := HLL.out; omega
          have kt : k < ts.length := by have := HN.out; omega
          obtain ⟨q0, q1⟩ := (HA.out.below hbel).cells rfl k ks
          obtain ⟨r0, r1⟩ := (HB.out.below hbel).cells rfl k kt
          have HS := Lib.hid (take_eq_step ks kt HTK.out)
          have e1 : ss.getD k (0, 0) = ss[k] := by simp [List.getD, ks]
          have e2 : ts.getD k (0, 0) = ts[k] := by simp [List.getD, kt]
          rw [e1] at q0 q1
          rw [e2] at r0 r1
          obtain ⟨⟨x, y⟩, hxy⟩ : ∃ s, s = ss[k] := ⟨_, rfl⟩
          obtain ⟨⟨x', y'⟩, hxy'⟩ : ∃ s, s = ts[k] := ⟨_, rfl⟩
          rw [← hxy, ← hxy'] at HS
          rw [← hxy] at q0 q1
          rw [← hxy'] at r0 r1
          simp only at q0 q1 r0 r1
          have hi1 : (k : Int) < (n : Int) := by omega
          have hi2 : (0 : Int) ≤ (k : Int) := by omega
          have hw1 : IntKind.i64.wrap ((k : Int) + 1) = (k : Int) + 1 := wraps_i64' _ (by omega) (by omega)
          have d0 : wr.drew.cell? ⟨p, o + k * 2, none⟩ = some (.int .i64 x) := q0
          have d1 : wr.drew.cell? ⟨p, o + k * 2 + 1, none⟩ = some (.int .i64 y) := q1
          have d2 : wr.drew.cell? ⟨p', o' + k * 2, none⟩ = some (.int .i64 x') := r0
          have d3 : wr.drew.cell? ⟨p', o' + k * 2 + 1, none⟩ = some (.int .i64 y') := r1
          clear hxy hxy' e1 e2 ks kt
          by_cases hq : x = x' ∧ y = y'
          · obtain ⟨rfl, rfl⟩ := hq
            have HE : Hid (ss.take (k + 1) = ts.take (k + 1)) := HS.out.2 rfl
            clear HS
            go_wp2_with fail
            go_quiet (fail)
            go_wp2
            exact ⟨⟨k + 1, by go_num, by omega, HE.out, below_drewN hbel _⟩, by simp [intOf]; omega⟩
          · have HE : Hid (decide (ss = ts) = false) := by
              show _ = _
              refine decide_eq_false fun e => hq ?_
              subst e
              have := HS.out.1 rfl
              simpa using this
            clear HS
            by_cases hx : x = x'
            · have hy : (y == y') = false := by simp; exact fun e => hq ⟨hx, e⟩
              have hx2 : (x == x') = true := by simp [hx]
              clear hq hx
              go_wp2_with fail
              go_quiet (fail)
              go_wp2
              go_ret
              rw [HE.out]
              exact ⟨rfl, below_drewN hbel _⟩
            · have hx2 : (x == x') = false := by simp [hx]
              clear hq hx
              go_wp2_with fail
              go_quiet (fail)
              go_wp2
              go_ret
              rw [HE.out]
              exact ⟨rfl, below_drewN hbel _⟩
        · have hk2 : k = n := by omega
          have HE : Hid (decide (ss = ts) = true) := by
            show _ = _
            refine decide_eq_true ?_
            have h := HTK.out
            rw [hk2, List.take_of_length_le (by rw [HLL.out]; exact Nat.le_refl _), List.take_of_length_le (by rw [HN.out]; exact Nat.le_refl _)] at h
            exact h
          clear hk2
          go_wp2
          go_ret
          rw [HE.out]
          exact ⟨rfl, hbel⟩
  · obtain ⟨aa, ac, rfl, _, _⟩ := RdC.isSlice ha
    obtain ⟨ba, bc, rfl, _, _⟩ := RdC.isSlice hb
    have e : decide (ss = ts) = false := decide_eq_false fun h => hl (by rw [h])
    have hne : ((ss.length : Int) != (ts.length : Int)) = true := by simp; omega
    rw [e]
    clear ha hb hl e
    go_enter Try.func21, Try.ntmps21
    go_wp2
    go_ret
    exact ⟨rfl, Below.refl _ _⟩

end Go.Proofs.Yticbhdbpfpdofaa
