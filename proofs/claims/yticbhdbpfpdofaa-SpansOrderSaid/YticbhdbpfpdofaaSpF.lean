/- Walks of layer 5: Take. -/
import Derived.Test.YticbhdbpfpdofaaSpE
set_option linter.unusedSimpArgs false
set_option linter.unusedVariables false
namespace Go.Proofs.Yticbhdbpfpdofaa
open Go.RowKit

def takeE (ss : List (Int × Int)) (f t : Int) : List (Int × Int) × Int := if (rightB ss && spanB f t) = true then (if (takeR ss f t).length ≤ 256 then (takeR ss f t, 0) else ([], 6)) else ([], 1)
theorem ap_len (x y : Int) : (apS x y).length ≤ 1 := by rw [apS]; split <;> simp

set_option maxHeartbeats 1600000 in
theorem take_A (b o n c : Nat) (ss : List (Int × Int)) (f t : Int) (w : World) (hr : RdS w (.slice (some ⟨b, o, none⟩) n c) ss) (hR : rightB ss = true) (hS : spanB f t = true) (hlt : upN f ss < bhN t ss) :
    Calls Try.prog 19 #[.slice (some ⟨b, o, none⟩) n c, .int .i64 f, .int .i64 t] w (Gives2 (takeE ss f t).1 (takeE ss f t).2 w) := by
  have hft : 0 ≤ f ∧ f ≤ t ∧ t ≤ 4611686018427387903 := by simpa [spanB] using hS
  have hRi : riseB 0 ss = true ∧ ss.length ≤ 256 := by simpa [rightB, and_comm] using hR
  obtain ⟨a', c', e', hn1, hn2⟩ := hr.isSlice
  simp only [Value.slice.injEq] at e'
  obtain ⟨rfl, rfl, rfl⟩ := e'
  have HM := mayBoth_any _ ss f t w hr
  rw [hR, hS, Bool.and_self] at HM
  have HMay := Lib.hid HM
  have HR := Lib.hid hr
  have HRt := Lib.hid hR
  have HE : Hid ((takeE ss f t) = if (takeP ss f t).length ≤ 256 then (takeP ss f t, 0) else ([], 6)) := by
    show _ = _
    rw [takeP_eq hft.2.1 hRi.1 (Int.le_refl 0), takeE, hR, hS]; rfl
  have hk1 := bhN_le t ss
  have hP : Hid (takeP ss f t = ss.take (upN f ss) ++ ((apS (ss.getD (upN f ss) (0, 0)).1 (f - 1) ++ apS (t + 1) (ss.getD (bhN t ss - 1) (0, 0)).2) ++ ss.drop (bhN t ss))) := by
    show _ = _
    rw [takeP, restP, if_pos hlt]
  have HB := Lib.hid (show b < w.heap.size from (by
    obtain ⟨_, ⟨h0, _⟩ | ⟨_, b', o', c', e, _, _, h4, _⟩⟩ := hr
    · rw [h0] at hk1; omega
    · simp only [Value.slice.injEq, Option.some.injEq, Addr.mk.injEq] at e; rw [e.1.1]; exact h4))
  generalize hp : upN f ss = p at hlt hP
  generalize hq : bhN t ss = q at hlt hP hk1
  have HPp := Lib.hid hp
  have HQq := Lib.hid hq
  have c0 := (hr.cells rfl p (by omega)).1
  have c1 := (hr.cells rfl (q - 1) (by omega)).2
  have C0 := Lib.hid c0
  have C1 := Lib.hid c1
  generalize (ss.getD p (0, 0)).1 = x0 at C0 hP
  generalize (ss.getD (q - 1) (0, 0)).2 = y1 at C1 hP
  have hw1 : IntKind.i64.wrap (f - 1) = f - 1 := by rw [IntKind.wrap_i64]; omega
  have hw2 : IntKind.i64.wrap (t + 1) = t + 1 := by rw [IntKind.wrap_i64]; omega
  have hw3 : IntKind.i64.wrap ((q : Int) - 1) = (q : Int) - 1 := by rw [IntKind.wrap_i64]; omega
  have hi1 : (p : Int) < (ss.length : Int) := by omega
  have hi2 : (0 : Int) ≤ (q : Int) - 1 := by omega
  have hi3 : (q : Int) - 1 < (ss.length : Int) := by omega
  have hi4 : ((q : Int) - 1).toNat = q - 1 := by omega
  have ht1 : decide ((p : Int) < (q : Int)) = true := decide_eq_true (by omega)
  have hi5 : (p : Int) ≤ (c : Int) := by omega
  have hi6 : (q : Int) ≤ (ss.length : Int) := by omega
  have hl := hRi.2
  unfold maxLen at hn2
  clear HM hr hR hS hp hq c0 c1 hRi
  go_enter Try.func19, Try.ntmps19
  go_wp2_with fail
  refine HMay.out.mono ?_
  rintro e w1 ⟨rfl, hb1⟩
  have B1 := Lib.hid hb1
  clear hb1
  go_wp2_with fail
  refine (upTo_any _ ss _ _ (HR.out.below B1.out) HRt.out).mono ?_
  rw [HPp.out]
  rintro e w2 ⟨rfl, hb2⟩
  have B2 := Lib.hid (B1.out.trans (hb2.mono B1.out.size))
  clear hb2
  go_wp2_with fail
  refine (behind_any _ ss _ _ (HR.out.below B2.out) HRt.out).mono ?_
  rw [HQq.out]
  rintro e w3 ⟨rfl, hb3⟩
  have B3 := Lib.hid (B2.out.trans (hb3.mono B2.out.size))
  clear hb3
  have z3 := B3.out.size
  have k0 : w3.cell? ⟨b, o + p * 2, none⟩ = some (.int .i64 x0) := (B3.out.cell (p := ⟨b, _, none⟩) HB.out).trans C0.out
  go_wp2_with fail
  refine (apSpan_any w3.heap.size _ [] x0 (f - 1) w3 (OwnS.nil _ _) (Nat.le_refl _) (by simp)).mono ?_
  rintro e w4 ⟨v4, rfl, o4, g4⟩
  have B4 := Lib.hid (B3.out.grown g4 z3 (fun j h => by cases h))
  have O4 := Lib.hid o4
  have G4 := Lib.hid (show w3.heap.size ≤ w4.heap.size from g4.size)
  have k1 : w4.cell? ⟨b, o + (q - 1) * 2 + 1, none⟩ = some (.int .i64 y1) := (B4.out.cell (p := ⟨b, _, none⟩) HB.out).trans C1.out
  clear k0 o4 g4
  go_wp2_with fail
  refine (apSpan_any w3.heap.size v4 _ (t + 1) y1 w4 O4.out G4.out (by have := ap_len x0 (f - 1); simp; omega)).mono ?_
  rintro e w5 ⟨v5, rfl, o5, g5⟩
  obtain ⟨va5, n5, vc5, rfl⟩ : ∃ va n vc, v5 = .slice va n vc := by obtain ⟨a, c, h, _⟩ := o5.slice; exact ⟨a, _, c, h⟩
  have B5 := Lib.hid (B4.out.grown g5 B4.out.size (fun j h => Nat.le_trans z3 (O4.out.blk j h)))
  have R1 := Lib.hid o5.rd
  have hrl : Hid (([] ++ apS x0 (f - 1) ++ apS (t + 1) y1).length ≤ 2) := by show _ ≤ _; have := ap_len x0 (f - 1); have := ap_len (t + 1) y1; simp; omega
  have E0 : Hid (takeP ss f t = ss.take p ++ ([] ++ apS x0 (f - 1) ++ apS (t + 1) y1) ++ ss.drop q) := by
    show _ = _
    rw [hP.out]; simp
  generalize [] ++ apS x0 (f - 1) ++ apS (t + 1) y1 = rl at R1 hrl E0
  clear k1 o5 g5 hi1 hi2 hi3 hi4 ht1 hw1 hw2 hw3
  go_wp2_with fail
  have R0 : Hid (RdS w5 (.slice (some ⟨b, o, none⟩) p c) (ss.take p)) := by
    have := (HR.out.below B5.out).cut 0 p (by omega) (some ⟨b, o, none⟩) (fun _ => by simp) (by simp)
    show RdS _ _ _
    simpa using this
  have R2 : Hid (RdS w5 (.slice (if c = q then some ⟨b, o, none⟩ else some ⟨b, o + q * 2, none⟩) (ss.length - q) (c - q)) (ss.drop q)) := by
    have := (HR.out.below B5.out).cut q (ss.length - q) (by omega) (if c = q then some ⟨b, o, none⟩ else some ⟨b, o + q * 2, none⟩) (fun h => by rw [if_neg h]) (by split <;> simp)
    rw [List.take_of_length_le (by rw [List.length_drop]; exact Nat.le_refl _)] at this
    exact this
  have hT : (ss.take p).length + rl.length + (ss.drop q).length ≤ 8796093022208 := by have := hrl.out; rw [List.length_take, List.length_drop]; omega
  have HT := Lib.hid hT
  clear hT
  by_cases hlen : (takeP ss f t).length ≤ 256
  · have HE2 : Hid (takeE ss f t = (takeP ss f t, 0)) := by show _ = _; rw [HE.out, if_pos hlen]
    have HL : Hid ((ss.take p ++ rl ++ ss.drop q).length ≤ 256) := by rw [E0.out] at hlen; exact hlen
    clear hlen
    go_region_law (first
      | (go_simp; go_at_call 35; refine (concat3d_any w5 _ _ _ _ (ss.take p) rl (ss.drop q) (by simp) R0.out R1.out R2.out HT.out).mono ?_; rintro e w7 ⟨v7, rfl, o7, b7⟩; have O7 := Lib.hid o7; have B7 := Lib.hid b7; clear o7 b7)
      | (go_simp; go_at_call 34; refine (notMany_ok v7 _ _ O7.out.rd HL.out).mono ?_; rintro e w6 ⟨rfl, rfl⟩))
    all_goals go_wp2
    all_goals go_ret2
    all_goals
      have B6 := below_drewN (B5.out.alloc B5.out.size (.cells #[.slice (some ⟨b, o, none⟩) p c, .slice va5 n5 vc5, .slice (if c = q then some ⟨b, o, none⟩ else some ⟨b, o + q * 2, none⟩) (ss.length - q) (c - q)] 22)) 1
      rw [HE2.out, E0.out]
      exact ⟨v7, rfl, O7.out.mono B6.size, B6.trans (B7.out.mono B6.size)⟩
  · have HE2 : Hid (takeE ss f t = ([], 6)) := by show _ = _; rw [HE.out, if_neg hlen]
    have HL : Hid (256 < (ss.take p ++ rl ++ ss.drop q).length) := by rw [E0.out] at hlen; exact Nat.lt_of_not_le hlen
    clear hlen
    go_region_law (first
      | (go_simp; go_at_call 35; refine (concat3d_any w5 _ _ _ _ (ss.take p) rl (ss.drop q) (by simp) R0.out R1.out R2.out HT.out).mono ?_; rintro e w7 ⟨v7, rfl, o7, b7⟩; have O7 := Lib.hid o7; have B7 := Lib.hid b7; clear o7 b7)
      | (go_simp; go_at_call 34; refine (notMany_no v7 _ _ O7.out.rd HL.out).mono ?_; rintro e w6 ⟨rfl, rfl⟩))
    all_goals go_wp2
    all_goals go_ret2
    all_goals
      have B6 := below_drewN (B5.out.alloc B5.out.size (.cells #[.slice (some ⟨b, o, none⟩) p c, .slice va5 n5 vc5, .slice (if c = q then some ⟨b, o, none⟩ else some ⟨b, o + q * 2, none⟩) (ss.length - q) (c - q)] 22)) 1
      rw [HE2.out]
      exact ⟨_, rfl, OwnS.nil _ _, B6.trans (B7.out.mono B6.size)⟩

set_option maxHeartbeats 1600000 in
theorem take_B (a : Addr) (n c : Nat) (ss : List (Int × Int)) (f t : Int) (w : World) (hr : RdS w (.slice (some a) n c) ss) (hR : rightB ss = true) (hS : spanB f t = true) (hlt : ¬ upN f ss < bhN t ss) :
    Calls Try.prog 19 #[.slice (some a) n c, .int .i64 f, .int .i64 t] w (Gives2 (takeE ss f t).1 (takeE ss f t).2 w) := by
  have hft : 0 ≤ f ∧ f ≤ t ∧ t ≤ 4611686018427387903 := by simpa [spanB] using hS
  have hRi : riseB 0 ss = true ∧ ss.length ≤ 256 := by simpa [rightB, and_comm] using hR
  obtain ⟨a', c', e', hn1, hn2⟩ := hr.isSlice
  simp only [Value.slice.injEq] at e'
  obtain ⟨rfl, rfl, rfl⟩ := e'
  have HM := mayBoth_any _ ss f t w hr
  rw [hR, hS, Bool.and_self] at HM
  have HMay := Lib.hid HM
  have HR := Lib.hid hr
  have HRt := Lib.hid hR
  have HE : Hid ((takeE ss f t) = if (takeP ss f t).length ≤ 256 then (takeP ss f t, 0) else ([], 6)) := by
    show _ = _
    rw [takeP_eq hft.2.1 hRi.1 (Int.le_refl 0), takeE, hR, hS]; rfl
  have hk1 := bhN_le t ss
  have hP : Hid (takeP ss f t = ss.take (upN f ss) ++ ([] ++ ss.drop (bhN t ss))) := by
    show _ = _
    rw [takeP, restP, if_neg hlt]
  have hle : upN f ss ≤ bhN t ss := up_le_bh (by omega) hRi.1
  generalize hp : upN f ss = p at hlt hle hP
  generalize hq : bhN t ss = q at hlt hle hP hk1
  obtain rfl : p = q := by omega
  have HPp := Lib.hid hp
  have HQq := Lib.hid hq
  have ht1 : decide ((p : Int) < (p : Int)) = false := decide_eq_false (Int.lt_irrefl _)
  have ht2 : decide (p < p) = false := decide_eq_false (Nat.lt_irrefl p)
  have hi5 : (p : Int) ≤ (c : Int) := by omega
  have hi6 : (p : Int) ≤ (ss.length : Int) := by omega
  have hl := hRi.2
  unfold maxLen at hn2
  clear HM hr hR hS hp hq hRi hlt hle
  go_enter Try.func19, Try.ntmps19
  go_wp2_with fail
  refine HMay.out.mono ?_
  rintro e w1 ⟨rfl, hb1⟩
  have B1 := Lib.hid hb1
  clear hb1
  go_wp2_with fail
  refine (upTo_any _ ss _ _ (HR.out.below B1.out) HRt.out).mono ?_
  rw [HPp.out]
  rintro e w2 ⟨rfl, hb2⟩
  have B2 := Lib.hid (B1.out.trans (hb2.mono B1.out.size))
  clear hb2
  go_wp2_with fail
  refine (behind_any _ ss _ _ (HR.out.below B2.out) HRt.out).mono ?_
  rw [HQq.out]
  rintro e w3 ⟨rfl, hb3⟩
  have B3 := Lib.hid (B2.out.trans (hb3.mono B2.out.size))
  clear hb3
  have z3 := B3.out.size
  have hrl : Hid (([] : List (Int × Int)).length ≤ 2) := by show _ ≤ _; simp
  have E0 : Hid (takeP ss f t = ss.take p ++ [] ++ ss.drop p) := by
    show _ = _
    rw [hP.out]; simp
  have R1 : Hid (RdS w3 (.slice none 0 0) []) := RdS.nil _
  go_wp2_with fail
  clear ht1 ht2
  generalize ([] : List (Int × Int)) = rl at R1 hrl E0
  have R0 : Hid (RdS w3 (.slice (some a) p c) (ss.take p)) := by
    have := (HR.out.below B3.out).cutAny 0 p (by omega) (some a) (fun _ => by cases a; simp [Addr.add]) (by simp)
    show RdS _ _ _
    simpa using this
  have R2 : Hid (RdS w3 (.slice (if c = p then some a else some (a.add (p * 2))) (ss.length - p) (c - p)) (ss.drop p)) := by
    have := (HR.out.below B3.out).cutAny p (ss.length - p) (by omega) (if c = p then some a else some (a.add (p * 2))) (fun h => by rw [if_neg h]) (by split <;> simp)
    rw [List.take_of_length_le (by rw [List.length_drop]; exact Nat.le_refl _)] at this
    exact this
  have hT : (ss.take p).length + rl.length + (ss.drop p).length ≤ 8796093022208 := by have := hrl.out; rw [List.length_take, List.length_drop]; omega
  have HT := Lib.hid hT
  clear hT
  by_cases hlen : (takeP ss f t).length ≤ 256
  · have HE2 : Hid (takeE ss f t = (takeP ss f t, 0)) := by show _ = _; rw [HE.out, if_pos hlen]
    have HL : Hid ((ss.take p ++ rl ++ ss.drop p).length ≤ 256) := by rw [E0.out] at hlen; exact hlen
    clear hlen
    go_region_law (first
      | (go_simp; go_at_call 35; refine (concat3d_any w3 _ _ _ _ (ss.take p) rl (ss.drop p) (by simp) R0.out R1.out R2.out HT.out).mono ?_; rintro e w5 ⟨v5, rfl, o5, b5⟩; have O5 := Lib.hid o5; have B5 := Lib.hid b5; clear o5 b5)
      | (go_simp; go_at_call 34; refine (notMany_ok v5 _ _ O5.out.rd HL.out).mono ?_; rintro e w6 ⟨rfl, rfl⟩))
    all_goals go_wp2
    all_goals go_ret2
    all_goals
      have B6 := below_drewN (B3.out.alloc B3.out.size (.cells #[.slice (some a) p c, .slice none 0 0, .slice (if c = p then some a else some (a.add (p * 2))) (ss.length - p) (c - p)] 22)) 1
      rw [HE2.out, E0.out]
      exact ⟨v5, rfl, O5.out.mono B6.size, B6.trans (B5.out.mono B6.size)⟩
  · have HE2 : Hid (takeE ss f t = ([], 6)) := by show _ = _; rw [HE.out, if_neg hlen]
    have HL : Hid (256 < (ss.take p ++ rl ++ ss.drop p).length) := by rw [E0.out] at hlen; exact Nat.lt_of_not_le hlen
    clear hlen
    go_region_law (first
      | (go_simp; go_at_call 35; refine (concat3d_any w3 _ _ _ _ (ss.take p) rl (ss.drop p) (by simp) R0.out R1.out R2.out HT.out).mono ?_; rintro e w5 ⟨v5, rfl, o5, b5⟩; have O5 := Lib.hid o5; have B5 := Lib.hid b5; clear o5 b5)
      | (go_simp; go_at_call 34; refine (notMany_no v5 _ _ O5.out.rd HL.out).mono ?_; rintro e w6 ⟨rfl, rfl⟩))
    all_goals go_wp2
    all_goals go_ret2
    all_goals
      have B6 := below_drewN (B3.out.alloc B3.out.size (.cells #[.slice (some a) p c, .slice none 0 0, .slice (if c = p then some a else some (a.add (p * 2))) (ss.length - p) (c - p)] 22)) 1
      rw [HE2.out]
      exact ⟨_, rfl, OwnS.nil _ _, B6.trans (B5.out.mono B6.size)⟩

set_option maxHeartbeats 1600000 in
theorem take_C (f t : Int) (w : World) (hS : spanB f t = true) :
    Calls Try.prog 19 #[.slice none 0 0, .int .i64 f, .int .i64 t] w (Gives2 (takeE [] f t).1 (takeE [] f t).2 w) := by
  have hft : 0 ≤ f ∧ f ≤ t ∧ t ≤ 4611686018427387903 := by simpa [spanB] using hS
  have hr : RdS w (.slice none 0 0) [] := RdS.nil w
  have HM := mayBoth_any _ [] f t w hr
  rw [hS, show rightB [] = true from rfl, Bool.and_self] at HM
  have HMay := Lib.hid HM
  have HR := Lib.hid hr
  have HE2 : Hid (takeE [] f t = ([], 0)) := by show _ = _; simp [takeE, hS, takeR, clipL, show rightB [] = true from rfl]
  have HPp : Hid (upN f [] = 0) := rfl
  have HQq : Hid (bhN t [] = 0) := rfl
  have HRt : Hid (rightB [] = true) := rfl
  clear HM hr hS
  go_enter Try.func19, Try.ntmps19
  go_wp2_with fail
  refine HMay.out.mono ?_
  rintro e w1 ⟨rfl, hb1⟩
  have B1 := Lib.hid hb1
  clear hb1
  go_wp2_with fail
  refine (upTo_any _ [] _ _ (HR.out.below B1.out) HRt.out).mono ?_
  rw [HPp.out]
  rintro e w2 ⟨rfl, hb2⟩
  have B2 := Lib.hid (B1.out.trans (hb2.mono B1.out.size))
  clear hb2
  go_wp2_with fail
  refine (behind_any _ [] _ _ (HR.out.below B2.out) HRt.out).mono ?_
  rw [HQq.out]
  rintro e w3 ⟨rfl, hb3⟩
  have B3 := Lib.hid (B2.out.trans (hb3.mono B2.out.size))
  clear hb3
  have z3 := B3.out.size
  have R0 : Hid (RdS w3 (.slice none 0 0) []) := RdS.nil _
  go_wp2_with fail
  go_region_law (first
    | (go_simp; go_at_call 35; refine (concat3d_any w3 _ _ _ _ [] [] [] (by simp) R0.out R0.out R0.out (by simp)).mono ?_; rintro e w5 ⟨v5, rfl, o5, b5⟩; have O5 := Lib.hid o5; have B5 := Lib.hid b5; clear o5 b5)
    | (go_simp; go_at_call 34; refine (notMany_ok v5 _ _ O5.out.rd (by simp)).mono ?_; rintro e w6 ⟨rfl, rfl⟩))
  all_goals go_wp2
  all_goals go_ret2
  all_goals
    have B6 := below_drewN (B3.out.alloc B3.out.size (.cells #[.slice none 0 0, .slice none 0 0, .slice none 0 0] 22)) 1
    rw [HE2.out]
    exact ⟨v5, rfl, O5.out.mono B6.size, B6.trans (B5.out.mono B6.size)⟩

theorem take_any (v : Value) (ss : List (Int × Int)) (f t : Int) (w : World) (hr : RdS w v ss) :
    Calls Try.prog 19 #[v, .int .i64 f, .int .i64 t] w (Gives2 (takeE ss f t).1 (takeE ss f t).2 w) := by
  by_cases h : (rightB ss && spanB f t) = true
  · obtain ⟨hR, hS⟩ := Bool.and_eq_true_iff.1 h
    obtain ⟨a, c, rfl, _, _⟩ := hr.isSlice
    cases a with
    | none =>
      obtain ⟨rfl, rfl⟩ := hr.nilCut
      exact take_C f t w hS
    | some a =>
      by_cases hlt : upN f ss < bhN t ss
      · obtain ⟨b', o', c', e, _⟩ := hr.form (by intro h0; rw [h0] at hlt; exact absurd hlt (Nat.lt_irrefl 0))
        simp only [Value.slice.injEq, Option.some.injEq] at e
        obtain ⟨rfl, _, rfl⟩ := e
        exact take_A b' o' _ c ss f t w hr hR hS hlt
      · exact take_B a _ c ss f t w hr hR hS hlt
  · have HE : Hid (takeE ss f t = ([], 1)) := by show _ = _; rw [takeE, if_neg h]
    have HM := mayBoth_any _ ss f t w hr
    rw [Bool.eq_false_iff.2 h] at HM
    have HM' := Lib.hid HM
    obtain ⟨a, c, rfl, _, _⟩ := hr.isSlice
    rw [HE.out]
    clear HM hr h
    go_enter Try.func19, Try.ntmps19
    go_wp2_with (go_at_call 32; refine HM'.out.mono ?_; rintro e w1 ⟨rfl, hb1⟩)
    go_ret2
    exact ⟨_, rfl, OwnS.nil _ _, hb1⟩
end Go.Proofs.Yticbhdbpfpdofaa
