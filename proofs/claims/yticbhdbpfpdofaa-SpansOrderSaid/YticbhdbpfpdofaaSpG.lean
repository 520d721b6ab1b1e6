/- Walks of layer 5: Top, Gaps. -/
import Derived.Test.YticbhdbpfpdofaaSpC
set_option linter.unusedSimpArgs false
set_option linter.unusedVariables false
namespace Go.Proofs.Yticbhdbpfpdofaa
open Go.RowKit

def topE (ss : List (Int × Int)) (n : Int) : List (Int × Int) × Int := if rightB ss = true ∧ 0 ≤ n then (ss.drop (ss.length - n.toNat), 0) else ([], 1)

set_option maxHeartbeats 1600000 in
theorem top_A (v : Value) (ss : List (Int × Int)) (n : Int) (k : Nat) (w : World) (hr : RdS w v ss) (hR : rightB ss = true) (hn : 0 ≤ n) (hn2 : n ≤ 9223372036854775807) (hk : k = ss.length - n.toNat) :
    Calls Try.prog 22 #[v, .int .i64 n] w (Gives2 (ss.drop k) 0 w) := by
  have hRi : riseB 0 ss = true ∧ ss.length ≤ 256 := by simpa [rightB, and_comm] using hR
  have HM := right_any _ ss w hr
  rw [hR] at HM
  have HRt := Lib.hid HM
  have HR := Lib.hid hr
  have hw : IntKind.i64.wrap ((ss.length : Int) - n) = (ss.length : Int) - n := by rw [IntKind.wrap_i64]; omega
  have t1 : decide (n < 0) = false := decide_eq_false (by omega)
  obtain ⟨va, c, rfl, hc1, hc2⟩ := hr.isSlice
  have hl := hRi.2
  unfold maxLen at hc2
  by_cases hle : (ss.length : Int) - n ≤ 0
  · obtain rfl : k = 0 := by omega
    have t2 : decide ((ss.length : Int) - n ≤ 0) = true := decide_eq_true hle
    have t3 : decide (0 < (ss.length : Int) - n) = false := decide_eq_false (by omega)
    cases va with
    | none =>
      obtain ⟨rfl, rfl⟩ := hr.nilCut
      have R0 : Hid (∀ V, Below w.heap.size w V → RdS V (.slice none 0 0) []) := fun V _ => RdS.nil _
      clear HM hr hk hR hRi hle
      go_enter Try.func22, Try.ntmps22
      go_wp2_with (first
        | (go_at_call 10; refine HRt.out.mono ?_; rintro e w1 ⟨rfl, hb1⟩; have B1 := Lib.hid hb1; clear hb1)
        | (go_at_call 38; refine (clone_any _ [] _ (R0.out _ B1.out) (by simp)).mono ?_; rintro e w2 ⟨v2, rfl, o2, b2⟩))
      all_goals go_ret2
      all_goals exact ⟨v2, rfl, o2.mono B1.out.size, B1.out.trans (b2.mono B1.out.size)⟩
    | some a =>
      have hi0 : (ss.length : Int) ≤ (c : Int) := by omega
      have hnl : ¬ n < (ss.length : Int) := by omega
      clear HM hr hk hR hRi hle
      go_enter Try.func22, Try.ntmps22
      go_wp2_with (first
        | (go_at_call 10; refine HRt.out.mono ?_; rintro e w1 ⟨rfl, hb1⟩; have B1 := Lib.hid hb1; clear hb1))
      all_goals
        subst_vars
        first
          | ((with_reducible refine (clone_any _ ss _ (HR.out.below B1.out) (by omega)).mono ?_); rintro e w2 ⟨v2, rfl, o2, b2⟩)
          | skip
      all_goals go_wp2
      all_goals go_ret2
      all_goals exact ⟨v2, rfl, o2.mono B1.out.size, B1.out.trans (b2.mono B1.out.size)⟩
  · have hnl : n < (ss.length : Int) := by omega
    have hk2 : ((ss.length : Int) - n).toNat = k := by omega
    have hk3 : k ≤ ss.length := by omega
    have hi1 : (k : Int) ≤ (ss.length : Int) := by omega
    have hi2 : (0 : Int) ≤ (ss.length : Int) - n := by omega
    have hi3 : (ss.length : Int) - n ≤ (ss.length : Int) := by omega
    have hld : Hid ((ss.drop k).length ≤ 8796093022208) := by show _ ≤ _; rw [List.length_drop]; omega
    cases va with
    | none =>
      obtain ⟨rfl, rfl⟩ := hr.nilCut
      simp at hnl; omega
    | some a =>
      by_cases hck : c = k
      · subst hck
        have R0 : Hid (∀ V, Below w.heap.size w V → RdS V (.slice (some a) (ss.length - c) 0) (ss.drop c)) := fun V hV => by
          have := (hr.below hV).cutAny c (ss.length - c) (by omega) (some a) (fun h => absurd rfl h) (by simp)
          rw [List.take_of_length_le (by rw [List.length_drop]; exact Nat.le_refl _), Nat.sub_self] at this
          exact this
        clear HM hr hk hR hRi hle hc1 hi1
        go_enter Try.func22, Try.ntmps22
        go_wp2_with (first
          | (go_at_call 10; refine HRt.out.mono ?_; rintro e w1 ⟨rfl, hb1⟩; have B1 := Lib.hid hb1; clear hb1)
          | (go_at_call 38; ((with_reducible refine (clone_any _ (ss.drop c) _ (R0.out _ B1.out) hld.out).mono ?_); rintro e w2 ⟨v2, rfl, o2, b2⟩)))
        all_goals go_ret2
        all_goals exact ⟨v2, rfl, o2.mono B1.out.size, B1.out.trans (b2.mono B1.out.size)⟩
      · have R0 : Hid (∀ V, Below w.heap.size w V → RdS V (.slice (some (a.add (k * 2))) (ss.length - k) (c - k)) (ss.drop k)) := fun V hV => by
          have := (hr.below hV).cutAny k (ss.length - k) (by omega) (some (a.add (k * 2))) (fun _ => rfl) (by simp)
          rw [List.take_of_length_le (by rw [List.length_drop]; exact Nat.le_refl _)] at this
          exact this
        clear HM hr hk hR hRi hle
        go_enter Try.func22, Try.ntmps22
        go_wp2_with (first
          | (go_at_call 10; refine HRt.out.mono ?_; rintro e w1 ⟨rfl, hb1⟩; have B1 := Lib.hid hb1; clear hb1)
          | (go_at_call 38; ((with_reducible refine (clone_any _ (ss.drop k) _ (R0.out _ B1.out) hld.out).mono ?_); rintro e w2 ⟨v2, rfl, o2, b2⟩)))
        all_goals go_ret2
        all_goals exact ⟨v2, rfl, o2.mono B1.out.size, B1.out.trans (b2.mono B1.out.size)⟩

theorem top_any (v : Value) (ss : List (Int × Int)) (n : Int) (w : World) (hr : RdS w v ss) (hn2 : n ≤ 9223372036854775807) :
    Calls Try.prog 22 #[v, .int .i64 n] w (Gives2 (topE ss n).1 (topE ss n).2 w) := by
  by_cases h : rightB ss = true ∧ 0 ≤ n
  · have HE : topE ss n = (ss.drop (ss.length - n.toNat), 0) := if_pos h
    rw [HE]
    exact top_A v ss n _ w hr h.1 h.2 hn2 rfl
  · have HE : topE ss n = ([], 1) := if_neg h
    rw [HE]
    have HM := right_any _ ss w hr
    obtain ⟨va, c, rfl, _, _⟩ := hr.isSlice
    by_cases hR : rightB ss = true
    · rw [hR] at HM
      have HRt := Lib.hid HM
      have t1 : decide (n < 0) = true := decide_eq_true (by rcases Int.lt_or_le n 0 with h1 | h1; exact h1; exact absurd ⟨hR, h1⟩ h)
      clear HM hr h hR HE
      go_enter Try.func22, Try.ntmps22
      go_wp2_with (go_at_call 10; refine HRt.out.mono ?_; rintro e w1 ⟨rfl, hb1⟩)
      go_ret2
      exact ⟨_, rfl, OwnS.nil _ _, hb1⟩
    · rw [Bool.eq_false_iff.2 hR] at HM
      have HRt := Lib.hid HM
      clear HM hr h hR HE
      go_enter Try.func22, Try.ntmps22
      go_wp2_with (go_at_call 10; refine HRt.out.mono ?_; rintro e w1 ⟨rfl, hb1⟩)
      go_ret2
      exact ⟨_, rfl, OwnS.nil _ _, hb1⟩

def gapsE (ss : List (Int × Int)) (f t : Int) : List (Int × Int) × Int := if (rightB ss && spanB f t) = true then (gapR t ss f, 0) else ([], 1)

set_option maxHeartbeats 1600000 in
/-- the loop over what lies between -/
theorem gaps_A (v : Value) (ss : List (Int × Int)) (f t : Int) (w : World) (hr : RdS w v ss) (hR : rightB ss = true) (hS : spanB f t = true) :
    Calls Try.prog 24 #[v, .int .i64 f, .int .i64 t] w (Gives2 (gapR t ss f) 0 w) := by
  have hft : 0 ≤ f ∧ f ≤ t ∧ t ≤ 4611686018427387903 := by simpa [spanB] using hS
  have hRi : riseB 0 ss = true ∧ ss.length ≤ 256 := by simpa [rightB, and_comm] using hR
  obtain ⟨va, c, rfl, hn1, hn2⟩ := hr.isSlice
  have HM := mayBoth_any _ ss f t w hr
  rw [hR, hS, Bool.and_self] at HM
  have HMay := Lib.hid HM
  have HR := Lib.hid hr
  have HRt := Lib.hid hR
  have HG := gapP_eq hRi.1 hft.2.1
  have hk1 := bhN_le t ss
  have hle : upN f ss ≤ bhN t ss := up_le_bh (by omega) hRi.1
  generalize hp : upN f ss = p at hle HG
  generalize hq : bhN t ss = q at hle hk1 HG
  have HPp := Lib.hid hp
  have HQq := Lib.hid hq
  have HGp := Lib.hid HG
  have hl := hRi.2
  have HRi := Lib.hid hRi.1
  unfold maxLen at hn2
  by_cases hpq : p = q
  · subst hpq
    have HE : Hid (apS f t = gapR t ss f) := by
      show _ = _
      rw [← HGp.out, show (ss.take p).drop p = [] from List.drop_eq_nil_of_le (by rw [List.length_take]; omega)]; rfl
    have hi1 : (p : Int) ≤ (c : Int) := by omega
    have hi2 : p ≤ c := by omega
    clear HM hr hR hS hp hq hRi HG hle
    cases va with
    | none =>
      obtain ⟨h1, rfl⟩ := HR.out.nilCut
      have H1 : Hid (ss.length = 0) := by show _ = _; rw [h1]; rfl
      obtain rfl : p = 0 := by have := H1.out; omega
      clear h1
      go_enter Try.func24, Try.ntmps24
      go_wp2_with (first
        | (go_at_call 32; refine HMay.out.mono ?_; rintro e w1 ⟨rfl, hb1⟩; have B1 := Lib.hid hb1; clear hb1)
        | (go_at_call 31; refine (upTo_any _ ss _ _ (HR.out.below B1.out) HRt.out).mono ?_; rw [HPp.out]; rintro e w2 ⟨rfl, hb2⟩; have B2 := Lib.hid (B1.out.trans (hb2.mono B1.out.size)); clear hb2)
        | (go_at_call 33; refine (behind_any _ ss _ _ (HR.out.below B2.out) HRt.out).mono ?_; rw [HQq.out]; rintro e w3 ⟨rfl, hb3⟩; have B3 := Lib.hid (B2.out.trans (hb3.mono B2.out.size)); clear hb3))
      refine wp_loop_rounds 1 ?_
      rw [rounds_succ]
      go_wp2_with (go_at_call 36; refine (apSpan_any w.heap.size _ [] f t w3 (OwnS.nil _ _) B3.out.size (by simp)).mono ?_; rintro e w4 ⟨v4, rfl, o4, g4⟩)
      go_ret2
      rw [List.nil_append, HE.out] at o4
      exact ⟨v4, rfl, o4, B3.out.grown g4 B3.out.size (fun j h => by cases h)⟩
    | some a =>
      go_enter Try.func24, Try.ntmps24
      go_wp2_with (first
        | (go_at_call 32; refine HMay.out.mono ?_; rintro e w1 ⟨rfl, hb1⟩; have B1 := Lib.hid hb1; clear hb1)
        | (go_at_call 31; refine (upTo_any _ ss _ _ (HR.out.below B1.out) HRt.out).mono ?_; rw [HPp.out]; rintro e w2 ⟨rfl, hb2⟩; have B2 := Lib.hid (B1.out.trans (hb2.mono B1.out.size)); clear hb2)
        | (go_at_call 33; refine (behind_any _ ss _ _ (HR.out.below B2.out) HRt.out).mono ?_; rw [HQq.out]; rintro e w3 ⟨rfl, hb3⟩; have B3 := Lib.hid (B2.out.trans (hb3.mono B2.out.size)); clear hb3))
      all_goals
        refine wp_loop_rounds 1 ?_
        rw [rounds_succ]
        go_wp2_with (go_at_call 36; refine (apSpan_any w.heap.size _ [] f t w3 (OwnS.nil _ _) B3.out.size (by simp)).mono ?_; rintro e w4 ⟨v4, rfl, o4, g4⟩)
        go_ret2
        rw [List.nil_append, HE.out] at o4
        exact ⟨v4, rfl, o4, B3.out.grown g4 B3.out.size (fun j h => by cases h)⟩
  · obtain ⟨b, o, c', e, hb⟩ := hr.form (by intro h0; rw [h0] at hk1; simp at hk1; omega)
    simp only [Value.slice.injEq] at e
    obtain ⟨rfl, _, rfl⟩ := e
    have hcp : ¬ c = p := by omega
    have hi1 : (p : Int) ≤ (q : Int) := by omega
    have hi2 : (q : Int) ≤ (c : Int) := by omega
    have hi3 : p ≤ q := hle
    have hi4 : q ≤ c := by omega
    obtain ⟨mid, hmid⟩ : ∃ mid, mid = (ss.take q).drop p := ⟨_, rfl⟩
    have hml : mid.length = q - p := by rw [hmid, List.length_drop, List.length_take]; omega
    have hmr : Hid (∀ s ∈ mid, 0 ≤ s.1 ∧ s.1 ≤ s.2 ∧ s.2 ≤ 4611686018427387903) := fun s hs => by
      rw [hmid] at hs
      exact rise_mem HRi.out s (List.mem_of_mem_take (List.mem_of_mem_drop hs))
    have RM : Hid (∀ V, Below w.heap.size w V → RdS V (.slice (some ⟨b, o + p * 2, none⟩) (q - p) (c - p)) mid) := fun V hV => by
      have := (hr.below hV).cut p (q - p) (by omega) (some ⟨b, o + p * 2, none⟩) (fun _ => rfl) (by simp)
      rw [hmid]
      rw [← List.drop_take] at this
      exact this
    rw [← hmid] at HGp
    have HML := Lib.hid hml
    clear HM hr hR hS hp hq hRi HG hle hmid hml
    go_enter Try.func24, Try.ntmps24
    go_wp2_with (first
      | (go_at_call 32; refine HMay.out.mono ?_; rintro e w1 ⟨rfl, hb1⟩; have B1 := Lib.hid hb1; clear hb1)
      | (go_at_call 31; refine (upTo_any _ ss _ _ (HR.out.below B1.out) HRt.out).mono ?_; rw [HPp.out]; rintro e w2 ⟨rfl, hb2⟩; have B2 := Lib.hid (B1.out.trans (hb2.mono B1.out.size)); clear hb2)
      | (go_at_call 33; refine (behind_any _ ss _ _ (HR.out.below B2.out) HRt.out).mono ?_; rw [HQq.out]; rintro e w3 ⟨rfl, hb3⟩; have B3 := Lib.hid (B2.out.trans (hb3.mono B2.out.size)); clear hb3))
    go_loopw [8, 9, 27] (fun s8 s9 i wr => ∃ (k : Nat) (acc : List (Int × Int)) (at_ : Int) (a : Option Addr) (n8 c8 : Nat), i = .int .i64 k ∧ s9 = .int .i64 at_ ∧ s8 = .slice a n8 c8 ∧ k ≤ q - p ∧ 0 ≤ at_ ∧ at_ ≤ 4611686018427387904 ∧ acc.length ≤ k ∧ acc ++ gapP t (mid.drop k) at_ = gapR t ss f ∧ OwnS wr w.heap.size (.slice a n8 c8) acc ∧ Below w.heap.size w wr) (fun _ _ i _ => (q - p) - (intOf i).toNat)
    case atStart => exact ⟨0, [], f, none, 0, 0, rfl, rfl, rfl, Nat.zero_le _, by omega, by omega, by simp, by simpa using HGp.out, OwnS.nil _ _, B3.out⟩
    case round =>
      obtain ⟨k, acc, at_, a, n8, c8, rfl, rfl, rfl, hk, ha0, ha1, hal, hacc, own, hbel⟩ := hrel
      have HA := Lib.hid hacc
      have OW := Lib.hid own
      have HB := Lib.hid hbel
      have hz := hbel.size
      by_cases hlt : k < q - p
      · obtain ⟨q0, q1⟩ := (RM.out wr hbel).cells HML.out.symm k (by rw [HML.out]; exact hlt)
        have hd : mid.drop k = mid.getD k (0, 0) :: mid.drop (k + 1) := by
          have hk2 : k < mid.length := by rw [HML.out]; exact hlt
          rw [List.drop_eq_getElem_cons hk2]; simp [List.getD, hk2]
        have hsm := hmr.out (mid.getD k (0, 0)) (by
          have hk2 : k < mid.length := by rw [HML.out]; exact hlt
          simp [List.getD, hk2])
        obtain ⟨⟨x, y⟩, hs⟩ : ∃ s, s = mid.getD k (0, 0) := ⟨_, rfl⟩
        rw [← hs] at q0 q1 hd hsm
        simp only at q0 q1 hsm
        have HD := Lib.hid hd
        have hi5 : (k : Int) < ((q - p : Nat) : Int) := by omega
        have hw1 : IntKind.i64.wrap ((k : Int) + 1) = (k : Int) + 1 := wraps_i64' _ (by omega) (by omega)
        have hw2 : IntKind.i64.wrap (x - 1) = x - 1 := by rw [IntKind.wrap_i64]; omega
        have hw3 : IntKind.i64.wrap (y + 1) = y + 1 := by rw [IntKind.wrap_i64]; omega
        have OA : Hid (OwnS (wr.alloc (.cells #[.int .i64 x, .int .i64 y] 42)) w.heap.size (.slice a n8 c8) acc) := own.below ((Below.refl _ _).alloc (Nat.le_refl _) _)
        have BA : Hid (Below w.heap.size w (wr.alloc (.cells #[.int .i64 x, .int .i64 y] 42))) := hbel.alloc hz _
        have HAL := Lib.hid (show acc.length ≤ 1000000 by omega)
        have hneq : Hid (∀ j, (Value.slice a n8 c8).ownBlock = some j → j ≠ wr.heap.size) := fun j hj => by have := own.blt j hj; omega
        clear hd hs hacc own hbel
        go_wp2_with fail
        refine (apSpan_any w.heap.size _ acc at_ (x - 1) _ OA.out BA.out.size HAL.out).mono ?_
        rintro e w4 ⟨v4, rfl, o4, g4⟩
        obtain ⟨a4, n4, c4, rfl⟩ : ∃ a n c, v4 = .slice a n c := by obtain ⟨a, c, h, _⟩ := o4.slice; exact ⟨a, _, c, h⟩
        have k1 : w4.cell? ⟨wr.heap.size, 1, none⟩ = some (.int .i64 y) := g4.cell (w := wr.alloc (.cells #[.int .i64 x, .int .i64 y] 42)) (by rw [World.cell?_alloc_at _ _ _ _ rfl]; rfl) (fun e => hneq.out _ e.symm rfl)
        have B4 := Lib.hid (BA.out.grown g4 BA.out.size (fun j h => OA.out.blk j h))
        have O4 := Lib.hid o4
        have HE : Hid ((acc ++ apS at_ (x - 1)) ++ gapP t (mid.drop (k + 1)) (y + 1) = gapR t ss f) := by
          show _ = _
          rw [← HA.out, HD.out, gapP, List.append_assoc]
        have HL2 : Hid ((acc ++ apS at_ (x - 1)).length ≤ k + 1) := by
          show _ ≤ _
          rw [List.length_append]
          have : (apS at_ (x - 1)).length ≤ 1 := by rw [apS]; split <;> simp
          omega
        clear o4 g4
        go_wp2_with fail
        exact ⟨⟨k + 1, acc ++ apS at_ (x - 1), y + 1, a4, n4, c4, by go_num, rfl, rfl, by omega, by omega, by omega, HL2.out, HE.out, O4.out, B4.out⟩, by simp [intOf, hw1]; omega⟩
      · have hk2 : k = q - p := by omega
        have HE : Hid (acc ++ apS at_ t = gapR t ss f) := by
          show _ = _
          rw [← HA.out, hk2, ← HML.out, List.drop_length]; rfl
        have HAL := Lib.hid (show acc.length ≤ 1000000 by omega)
        clear hacc own hbel hk2
        go_wp2_with (go_at_call 36; refine (apSpan_any w.heap.size _ acc at_ t wr OW.out hz HAL.out).mono ?_; rintro e w4 ⟨v4, rfl, o4, g4⟩)
        go_ret2
        rw [HE.out] at o4
        exact ⟨v4, rfl, o4, HB.out.grown g4 hz (fun j h => OW.out.blk j h)⟩

theorem gaps_any (v : Value) (ss : List (Int × Int)) (f t : Int) (w : World) (hr : RdS w v ss) :
    Calls Try.prog 24 #[v, .int .i64 f, .int .i64 t] w (Gives2 (gapsE ss f t).1 (gapsE ss f t).2 w) := by
  by_cases h : (rightB ss && spanB f t) = true
  · obtain ⟨hR, hS⟩ := Bool.and_eq_true_iff.1 h
    have HE : gapsE ss f t = (gapR t ss f, 0) := if_pos h
    rw [HE]
    exact gaps_A v ss f t w hr hR hS
  · have HE : Hid (gapsE ss f t = ([], 1)) := by show _ = _; rw [gapsE, if_neg h]
    have HM := mayBoth_any _ ss f t w hr
    rw [Bool.eq_false_iff.2 h] at HM
    have HM' := Lib.hid HM
    obtain ⟨a, c, rfl, _, _⟩ := hr.isSlice
    rw [HE.out]
    clear HM hr h
    go_enter Try.func24, Try.ntmps24
    go_wp2_with (go_at_call 32; refine HM'.out.mono ?_; rintro e w1 ⟨rfl, hb1⟩)
    go_ret2
    exact ⟨_, rfl, OwnS.nil _ _, hb1⟩
end Go.Proofs.Yticbhdbpfpdofaa
