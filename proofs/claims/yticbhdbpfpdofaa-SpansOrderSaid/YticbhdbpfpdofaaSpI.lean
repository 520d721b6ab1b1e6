/- Walks of layer 5: the document's Take, Top, Gaps. -/
import Derived.Test.YticbhdbpfpdofaaSpH
set_option linter.unusedSimpArgs false
set_option linter.unusedVariables false
namespace Go.Proofs.Yticbhdbpfpdofaa
open Go.RowKit

set_option maxHeartbeats 1600000 in
theorem rtake_any (v : Value) (ss : List (Int × Int)) (f t : Int) (w : World) (hr : RdS w v ss) :
    Calls Try.prog 20 #[v, .int .i64 f, .int .i64 t] w (Gives2 (takeE ss f t).1 (takeE ss f t).2 w) := by
  have HM := rright_any _ ss w hr
  obtain ⟨a, c, rfl, _, _⟩ := hr.isSlice
  by_cases hR : rightB ss = true
  · rw [hR] at HM
    have HRt := Lib.hid HM
    by_cases hS : spanB f t = true
    · have hft : 0 ≤ f ∧ f ≤ t ∧ t ≤ 4611686018427387903 := by simpa [spanB] using hS
      have hRi : riseB 0 ss = true ∧ ss.length ≤ 256 := by simpa [rightB, and_comm] using hR
      have HS := Lib.hid hS
      have HR := Lib.hid hr
      have HE : Hid (takeE ss f t = if (takeR ss f t).length ≤ 256 then (takeR ss f t, 0) else ([], 6)) := by show _ = _; simp [takeE, hR, hS]
      have hw1 : IntKind.i64.wrap (f - 1) = f - 1 := by rw [IntKind.wrap_i64]; omega
      have hw2 : IntKind.i64.wrap (t + 1) = t + 1 := by rw [IntKind.wrap_i64]; omega
      have hl := hRi.2
      have hl2 : (clipL 0 (f - 1) ss).length + (clipL (t + 1) 4611686018427387903 ss).length ≤ 8796093022208 := by have := clip_len (a := 0) (b := f - 1) ss; have := clip_len (a := t + 1) (b := 4611686018427387903) ss; omega
      have HL2 := Lib.hid hl2
      have HTE : Hid (takeR ss f t = clipL 0 (f - 1) ss ++ clipL (t + 1) 4611686018427387903 ss) := rfl
      have hNl : Hid (∃ m : Nat, m = (takeR ss f t).length) := ⟨_, rfl⟩
      clear HM hr hR hS hRi hl2
      go_enter Try.func20, Try.ntmps20
      go_wp2_with fail
      refine HRt.out.mono ?_
      rintro e w1 ⟨rfl, hb1⟩
      have B1 := Lib.hid hb1
      clear hb1
      go_wp2_with (go_at_call 26; refine (rspan_b f t true _ HS.out).mono ?_; rintro e w2 ⟨rfl, rfl⟩)
      refine (rclip_any _ ss 0 (f - 1) _ (HR.out.below B1.out) hl).mono ?_
      rintro e w3 ⟨v3, rfl, o3, b3⟩
      have B3 := Lib.hid (B1.out.trans (b3.mono B1.out.size))
      have O3 := Lib.hid (o3.mono B1.out.size)
      clear o3 b3
      go_wp2_with fail
      refine (rclip_any _ ss (t + 1) 4611686018427387903 _ (HR.out.below B3.out) hl).mono ?_
      rintro e w4 ⟨v4, rfl, o4, b4⟩
      have B4 := Lib.hid (B3.out.trans (b4.mono B3.out.size))
      have O34 := Lib.hid (O3.out.below b4)
      have R4 := Lib.hid o4.rd
      clear o4 b4
      go_wp2_with (at_builtin; ((with_reducible refine wpList_append_spans _ ?_ (.tmp 21) (.tmp 25) ?_ w.heap.size v3 (clipL 0 (f - 1) ss) ?_ O34.out v4 (clipL (t + 1) 4611686018427387903 ss) ?_ R4.out ?_ ?_ ?_); rfl; rfl; rfl; rfl; (exact HL2.out); (exact B4.out.size); intro v5 w5 o5 g5; rw [← HTE.out] at o5; obtain ⟨a5, c5, rfl, h51, h52⟩ := o5.slice; have O5 := Lib.hid o5; have B5 := Lib.hid (B4.out.grown g5 B4.out.size (fun j h => O34.out.blk j h)); clear o5 g5 h51 h52; generalize hN : (takeR ss f t).length = N; have HN := Lib.hid hN; clear hN; by_cases hlen : N ≤ 256))
      · have t1 : decide (256 < (N : Int)) = false := decide_eq_false (by omega)
        have HE2 : Hid (takeE ss f t = (takeR ss f t, 0)) := by show _ = _; rw [HE.out, if_pos (by rw [HN.out]; exact hlen)]
        clear hlen
        go_wp2
        go_ret2
        rw [HE2.out]
        exact ⟨_, rfl, by have := O5.out; rw [HN.out] at this; exact this, B5.out⟩
      · have t1 : decide (256 < (N : Int)) = true := decide_eq_true (by omega)
        have HE2 : Hid (takeE ss f t = ([], 6)) := by show _ = _; rw [HE.out, if_neg (by rw [HN.out]; exact hlen)]
        clear hlen
        go_wp2
        go_ret2
        rw [HE2.out]
        exact ⟨_, rfl, OwnS.nil _ _, B5.out⟩
    · have HE : Hid (takeE ss f t = ([], 1)) := by show _ = _; simp [takeE, hS]
      have HS := Lib.hid (Bool.eq_false_iff.2 hS)
      rw [HE.out]
      clear HM hr hR hS
      go_enter Try.func20, Try.ntmps20
      go_wp2_with (first
        | (go_at_call 11; refine HRt.out.mono ?_; rintro e w1 ⟨rfl, hb1⟩)
        | (go_at_call 26; refine (rspan_b f t false _ HS.out).mono ?_; rintro e w2 ⟨rfl, rfl⟩))
      go_ret2
      exact ⟨_, rfl, OwnS.nil _ _, hb1⟩
  · rw [Bool.eq_false_iff.2 hR] at HM
    have HRt := Lib.hid HM
    have HE : Hid (takeE ss f t = ([], 1)) := by show _ = _; simp [takeE, hR]
    rw [HE.out]
    clear HM hr hR
    go_enter Try.func20, Try.ntmps20
    go_wp2_with (go_at_call 11; refine HRt.out.mono ?_; rintro e w1 ⟨rfl, hb1⟩)
    go_ret2
    exact ⟨_, rfl, OwnS.nil _ _, hb1⟩

theorem drop_take_step (ss : List (Int × Int)) (k d : Nat) (hk : k < ss.length) : (ss.take (k + 1)).drop d = if d ≤ k then (ss.take k).drop d ++ [ss.getD k (0, 0)] else (ss.take k).drop d := by
  rw [List.take_succ_eq_append_getElem hk]
  by_cases h : d ≤ k
  · rw [if_pos h, List.drop_append_of_le_length (by rw [List.length_take]; omega)]
    simp [List.getD, hk]
  · rw [if_neg h, List.drop_eq_nil_of_le (by simp; omega), List.drop_eq_nil_of_le (by rw [List.length_take]; omega)]

set_option maxHeartbeats 1600000 in
theorem rtop_A (v : Value) (ss : List (Int × Int)) (n : Int) (w : World) (hr : RdS w v ss) (hR : rightB ss = true) (hn : 0 ≤ n) :
    Calls Try.prog 23 #[v, .int .i64 n] w (Gives2 (ss.drop (ss.length - n.toNat)) 0 w) := by
  have hRi : riseB 0 ss = true ∧ ss.length ≤ 256 := by simpa [rightB, and_comm] using hR
  have HM := rright_any _ ss w hr
  rw [hR] at HM
  have HRt := Lib.hid HM
  have t1 : decide (n < 0) = false := decide_eq_false (by omega)
  have hl := hRi.2
  by_cases h0 : ss = []
  · subst h0
    obtain ⟨va, c, rfl, _, _⟩ := hr.isSlice
    clear HM hr hR hRi
    go_enter Try.func23, Try.ntmps23
    go_wp2_with (go_at_call 11; refine HRt.out.mono ?_; rintro e w1 ⟨rfl, hb1⟩)
    refine wp_loop_rounds 1 ?_
    rw [rounds_succ]
    go_wp2
    go_ret2
    rw [List.drop_nil]
    exact ⟨_, rfl, OwnS.nil _ _, hb1⟩
  obtain ⟨b, o, c, rfl, hb⟩ := hr.form h0
  have HR := Lib.hid hr
  obtain ⟨d, hd0⟩ : ∃ d, d = ss.length - n.toNat := ⟨_, rfl⟩
  rw [← hd0]
  have HDn := Lib.hid (show ∀ k : Nat, k < ss.length → (((ss.length : Int) - (k : Int) ≤ n) ↔ d ≤ k) from fun k hk => by omega)
  clear HM hr h0 hR hRi hd0
  go_enter Try.func23, Try.ntmps23
  go_wp2_with (go_at_call 11; refine HRt.out.mono ?_; rintro e w1 ⟨rfl, hb1⟩; have B1 := Lib.hid hb1; clear hb1)
  go_loopw [6, 7] (fun s6 i wr => ∃ (k : Nat) (a : Option Addr) (n8 c8 : Nat), i = .int .i64 k ∧ s6 = .slice a n8 c8 ∧ k ≤ ss.length ∧ OwnS wr w.heap.size (.slice a n8 c8) ((ss.take k).drop d) ∧ Below w.heap.size w wr) (fun _ i _ => ss.length - (intOf i).toNat)
  case atStart => exact ⟨0, none, 0, 0, rfl, rfl, Nat.zero_le _, by simpa using OwnS.nil _ _, B1.out⟩
  case round =>
    obtain ⟨k, a, n8, c8, rfl, rfl, hk, own, hbel⟩ := hrel
    have OW := Lib.hid own
    have HB := Lib.hid hbel
    have hz := hbel.size
    by_cases hlt : k < ss.length
    · obtain ⟨q0, q1⟩ := (HR.out.below hbel).cells rfl k hlt
      have hst := drop_take_step ss k d hlt
      have hdn := HDn.out k hlt
      obtain ⟨⟨x, y⟩, hs⟩ : ∃ s, s = ss.getD k (0, 0) := ⟨_, rfl⟩
      rw [← hs] at q0 q1 hst
      simp only at q0 q1
      have HST := Lib.hid hst
      have hll : Hid (((ss.take k).drop d).length ≤ 256) := by show _ ≤ _; rw [List.length_drop, List.length_take]; omega
      have hi1 : (k : Int) < (ss.length : Int) := by omega
      have hw1 : IntKind.i64.wrap ((k : Int) + 1) = (k : Int) + 1 := wraps_i64' _ (by omega) (by omega)
      have hw2 : IntKind.i64.wrap ((ss.length : Int) - (k : Int)) = (ss.length : Int) - (k : Int) := wraps_i64' _ (by omega) (by omega)
      by_cases hle : (ss.length : Int) - (k : Int) ≤ n
      · have t2 : decide ((ss.length : Int) - (k : Int) ≤ n) = true := decide_eq_true hle
        have HC : Hid ((ss.take (k + 1)).drop d = (ss.take k).drop d ++ [(x, y)]) := by show _ = _; rw [HST.out, if_pos (hdn.1 hle)]
        have OA : Hid (OwnS (wr.alloc (.cells #[.int .i64 x, .int .i64 y] 42)) w.heap.size (.slice a n8 c8) ((ss.take k).drop d)) := own.below ((Below.refl _ _).alloc (Nat.le_refl _) _)
        have RA : Hid (RdS (wr.alloc (.cells #[.int .i64 x, .int .i64 y] 42)) (.slice (some ⟨wr.heap.size, 0, none⟩) 1 1) [(x, y)]) := reads_built wr x y
        have BA : Hid (Below w.heap.size w (wr.alloc (.cells #[.int .i64 x, .int .i64 y] 42))) := hbel.alloc hz _
        clear hs hst own hbel hdn hle
        go_wp2_with (at_builtin; ((with_reducible refine wpList_append_spans _ ?_ (.tmp 27) (.tmp 32) ?_ w.heap.size _ ((ss.take k).drop d) ?_ OA.out _ [(x, y)] ?_ RA.out ?_ ?_ ?_); rfl; rfl; rfl; rfl; (have := hll.out; simp at this ⊢; omega); (exact BA.out.size); intro v4 w4 o4 g4; obtain ⟨a4, n4, c4, rfl⟩ : ∃ a n c, v4 = .slice a n c := (by obtain ⟨a, c, h, _⟩ := o4.slice; exact ⟨a, _, c, h⟩)))
        exact ⟨⟨k + 1, a4, n4, c4, by go_num, rfl, hlt, by rw [HC.out]; exact o4, BA.out.grown g4 BA.out.size (fun j h => OA.out.blk j h)⟩, by simp [intOf, hw1]; omega⟩
      · have t2 : decide ((ss.length : Int) - (k : Int) ≤ n) = false := decide_eq_false hle
        have HC : Hid ((ss.take (k + 1)).drop d = (ss.take k).drop d) := by show _ = _; rw [HST.out, if_neg (fun h => hle (hdn.2 h))]
        clear hs hst own hbel hdn hle
        go_wp2
        exact ⟨⟨k + 1, a, n8, c8, by go_num, rfl, hlt, by rw [HC.out]; exact OW.out, HB.out⟩, by simp [intOf, hw1]; omega⟩
    · have hk2 : k = ss.length := by omega
      have HE : Hid (ss.take k = ss) := by show _ = _; rw [hk2, List.take_length]
      clear hk2 own hbel
      go_wp2
      go_ret2
      have O9 := OW.out
      rw [HE.out] at O9
      exact ⟨_, rfl, O9, HB.out⟩

theorem rtop_any (v : Value) (ss : List (Int × Int)) (n : Int) (w : World) (hr : RdS w v ss) :
    Calls Try.prog 23 #[v, .int .i64 n] w (Gives2 (topE ss n).1 (topE ss n).2 w) := by
  by_cases h : rightB ss = true ∧ 0 ≤ n
  · have HE : topE ss n = (ss.drop (ss.length - n.toNat), 0) := if_pos h
    rw [HE]
    exact rtop_A v ss n w hr h.1 h.2
  · have HE : topE ss n = ([], 1) := if_neg h
    rw [HE]
    have HM := rright_any _ ss w hr
    obtain ⟨va, c, rfl, _, _⟩ := hr.isSlice
    by_cases hR : rightB ss = true
    · rw [hR] at HM
      have HRt := Lib.hid HM
      have t1 : decide (n < 0) = true := decide_eq_true (by rcases Int.lt_or_le n 0 with h1 | h1; exact h1; exact absurd ⟨hR, h1⟩ h)
      clear HM hr h hR HE
      go_enter Try.func23, Try.ntmps23
      go_wp2_with (go_at_call 11; refine HRt.out.mono ?_; rintro e w1 ⟨rfl, hb1⟩)
      go_ret2
      exact ⟨_, rfl, OwnS.nil _ _, hb1⟩
    · rw [Bool.eq_false_iff.2 hR] at HM
      have HRt := Lib.hid HM
      clear HM hr h hR HE
      go_enter Try.func23, Try.ntmps23
      go_wp2_with (go_at_call 11; refine HRt.out.mono ?_; rintro e w1 ⟨rfl, hb1⟩)
      go_ret2
      exact ⟨_, rfl, OwnS.nil _ _, hb1⟩

set_option maxHeartbeats 1600000 in
theorem rgaps_A (v : Value) (ss : List (Int × Int)) (f t : Int) (w : World) (hr : RdS w v ss) (hR : rightB ss = true) (hS : spanB f t = true) :
    Calls Try.prog 25 #[v, .int .i64 f, .int .i64 t] w (Gives2 (gapR t ss f) 0 w) := by
  have hft : 0 ≤ f ∧ f ≤ t ∧ t ≤ 4611686018427387903 := by simpa [spanB] using hS
  have hRi : riseB 0 ss = true ∧ ss.length ≤ 256 := by simpa [rightB, and_comm] using hR
  have HM := rright_any _ ss w hr
  rw [hR] at HM
  have HRt := Lib.hid HM
  have HR := Lib.hid hr
  have HS := Lib.hid hS
  obtain ⟨va, c, rfl, _, _⟩ := hr.isSlice
  have HG := gapC_eq hRi.1 hft.2.1
  have hcl := clip_len (a := f) (b := t) ss
  have hcr := clip_rise (a := f) (b := t) (m := 0) hRi.1 (by omega)
  generalize hmid : clipL f t ss = mid at HG hcl hcr
  have HMid := Lib.hid hmid
  have HGp := Lib.hid HG
  have hmr : Hid (∀ s ∈ mid, 0 ≤ s.1 ∧ s.1 ≤ s.2 ∧ s.2 ≤ 4611686018427387903) := fun s hs => rise_mem hcr s hs
  have hl := hRi.2
  have hml : mid.length ≤ 256 := by omega
  clear HM hr hR hS hRi HG hcl hcr hmid
  go_enter Try.func25, Try.ntmps25
  go_wp2_with fail
  refine HRt.out.mono ?_
  rintro e w1 ⟨rfl, hb1⟩
  have B1 := Lib.hid hb1
  clear hb1
  go_wp2_with (go_at_call 26; refine (rspan_b f t true _ HS.out).mono ?_; rintro e w2 ⟨rfl, rfl⟩)
  refine (rclip_any _ ss f t _ (HR.out.below B1.out) hl).mono ?_
  rw [HMid.out]
  rintro e w3 ⟨v3, rfl, o3, b3⟩
  have B3 := Lib.hid (B1.out.trans (b3.mono B1.out.size))
  have RM := Lib.hid o3.rd
  clear o3 b3
  by_cases h0 : mid = []
  · subst h0
    have HE : Hid (apS f t = gapR t ss f) := HGp.out
    rw [ap_one hft.2.1] at HE
    have RA : Hid (RdS (w3.alloc (.cells #[.int .i64 f, .int .i64 t] 42)) (.slice (some ⟨w3.heap.size, 0, none⟩) 1 1) [(f, t)]) := reads_built w3 f t
    have BA : Hid (Below w.heap.size w (w3.alloc (.cells #[.int .i64 f, .int .i64 t] 42))) := B3.out.alloc B3.out.size _
    obtain ⟨a3, c3, rfl, _, _⟩ := RM.out.isSlice
    have t1 : decide (f ≤ t) = true := decide_eq_true hft.2.1
    clear hl hml
    go_wp2_with fail
    refine wp_loop_rounds 1 ?_
    rw [rounds_succ]
    go_wp2_with (at_builtin; ((with_reducible refine wpList_append_spans _ ?_ (.tmp 59) (.tmp 63) ?_ w.heap.size _ [] ?_ (OwnS.nil _ _) _ [(f, t)] ?_ RA.out ?_ ?_ ?_); rfl; rfl; rfl; rfl; (simp); (exact BA.out.size); intro v4 w4 o4 g4))
    go_ret2
    rw [← HE.out]
    exact ⟨v4, rfl, o4, BA.out.grown g4 BA.out.size (fun j h => by cases h)⟩
  obtain ⟨b, o, c', rfl, hb⟩ := RM.out.form h0
  clear h0
  have hz3 := B3.out.size
  go_wp2_with fail
  go_loopw [8, 9, 11] (fun s8 s9 i wr => ∃ (k : Nat) (acc : List (Int × Int)) (at_ : Int) (a : Option Addr) (n8 c8 : Nat), i = .int .i64 k ∧ s9 = .int .i64 at_ ∧ s8 = .slice a n8 c8 ∧ k ≤ mid.length ∧ 0 ≤ at_ ∧ at_ ≤ 4611686018427387904 ∧ acc.length ≤ k ∧ acc ++ gapP t (mid.drop k) at_ = gapR t ss f ∧ OwnS wr w3.heap.size (.slice a n8 c8) acc ∧ Below w3.heap.size w3 wr) (fun _ _ i _ => mid.length - (intOf i).toNat)
  case atStart => exact ⟨0, [], f, none, 0, 0, rfl, rfl, rfl, Nat.zero_le _, by omega, by omega, by simp, by simpa using HGp.out, OwnS.nil _ _, Below.refl _ _⟩
  case round =>
    obtain ⟨k, acc, at_, a, n8, c8, rfl, rfl, rfl, hk, ha0, ha1, hal, hacc, own, hbel⟩ := hrel
    have HA := Lib.hid hacc
    have OW := Lib.hid own
    have HB := Lib.hid hbel
    have hz := hbel.size
    have HAL := Lib.hid (show acc.length ≤ 1000000 by omega)
    by_cases hlt : k < mid.length
    · obtain ⟨q0, q1⟩ := (RM.out.below hbel).cells rfl k hlt
      have hd : mid.drop k = mid.getD k (0, 0) :: mid.drop (k + 1) := by rw [List.drop_eq_getElem_cons hlt]; simp [List.getD, hlt]
      have hsm := hmr.out (mid.getD k (0, 0)) (by simp [List.getD, hlt])
      obtain ⟨⟨x, y⟩, hs⟩ : ∃ s, s = mid.getD k (0, 0) := ⟨_, rfl⟩
      have hs' := Lib.hid hs
      rw [← hs] at q0 q1 hd hsm
      simp only at q0 q1 hsm
      have HD := Lib.hid hd
      have hi5 : (k : Int) < (mid.length : Int) := by omega
      have hw1 : IntKind.i64.wrap ((k : Int) + 1) = (k : Int) + 1 := wraps_i64' _ (by omega) (by omega)
      have hw2 : IntKind.i64.wrap (x - 1) = x - 1 := by rw [IntKind.wrap_i64]; omega
      have hw3 : IntKind.i64.wrap (y + 1) = y + 1 := by rw [IntKind.wrap_i64]; omega
      by_cases hgt : at_ < x
      · have t1 : decide (at_ < x) = true := decide_eq_true hgt
        have HE : Hid ((acc ++ [(at_, x - 1)]) ++ gapP t (mid.drop (k + 1)) (y + 1) = gapR t ss f) := by
          show _ = _
          rw [← HA.out, HD.out, gapP, ap_one (by omega), List.append_assoc]
        have OA : Hid (OwnS (wr.alloc (.cells #[.int .i64 at_, .int .i64 (x - 1)] 42)) w3.heap.size (.slice a n8 c8) acc) := own.below ((Below.refl _ _).alloc (Nat.le_refl _) _)
        have RA : Hid (RdS (wr.alloc (.cells #[.int .i64 at_, .int .i64 (x - 1)] 42)) (.slice (some ⟨wr.heap.size, 0, none⟩) 1 1) [(at_, x - 1)]) := reads_built wr at_ (x - 1)
        have BA : Hid (Below w3.heap.size w3 (wr.alloc (.cells #[.int .i64 at_, .int .i64 (x - 1)] 42))) := hbel.alloc hz _
        have HLT := Lib.hid hlt
        clear hd hs hacc own hbel hgt
        go_wp2_with (at_builtin; ((with_reducible refine wpList_append_spans _ ?_ (.tmp 39) (.tmp 48) ?_ w3.heap.size _ acc ?_ OA.out _ [(at_, x - 1)] ?_ RA.out ?_ ?_ ?_); rfl; rfl; rfl; rfl; (have := HAL.out; simp; omega); (exact BA.out.size); intro v4 w4 o4 g4; obtain ⟨a4, n4, c4, rfl⟩ : ∃ a n c, v4 = .slice a n c := (by obtain ⟨a, c, h, _⟩ := o4.slice; exact ⟨a, _, c, h⟩); have B4 := Lib.hid (BA.out.grown g4 BA.out.size (fun j h => OA.out.blk j h)); have k1 : w4.cell? ⟨b, o + k * 2 + 1, none⟩ = some (.int .i64 y) := by (have h1 := ((RM.out.below B4.out).cells rfl k HLT.out).2; rw [← hs'.out] at h1; exact h1)))
        exact ⟨⟨k + 1, acc ++ [(at_, x - 1)], y + 1, a4, n4, c4, by go_num, rfl, rfl, by omega, by omega, by omega, by simp; omega, HE.out, o4, B4.out⟩, by simp [intOf, hw1]; omega⟩
      · have t1 : decide (at_ < x) = false := decide_eq_false hgt
        have HE : Hid (acc ++ gapP t (mid.drop (k + 1)) (y + 1) = gapR t ss f) := by
          show _ = _
          rw [← HA.out, HD.out, gapP, ap_none (by omega), List.nil_append]
        clear hd hs hacc own hbel hgt
        go_wp2
        exact ⟨⟨k + 1, acc, y + 1, a, n8, c8, by go_num, rfl, rfl, by omega, by omega, by omega, by omega, HE.out, OW.out, HB.out⟩, by simp [intOf, hw1]; omega⟩
    · have hk2 : k = mid.length := by omega
      have hap : Hid (acc ++ apS at_ t = gapR t ss f) := by
        show _ = _
        rw [← HA.out, hk2, List.drop_length]; rfl
      clear hk2
      by_cases hle : at_ ≤ t
      · have t1 : decide (at_ ≤ t) = true := decide_eq_true hle
        rw [ap_one hle] at hap
        have OA : Hid (OwnS (wr.alloc (.cells #[.int .i64 at_, .int .i64 t] 42)) w3.heap.size (.slice a n8 c8) acc) := own.below ((Below.refl _ _).alloc (Nat.le_refl _) _)
        have RA : Hid (RdS (wr.alloc (.cells #[.int .i64 at_, .int .i64 t] 42)) (.slice (some ⟨wr.heap.size, 0, none⟩) 1 1) [(at_, t)]) := reads_built wr at_ t
        have BA : Hid (Below w3.heap.size w3 (wr.alloc (.cells #[.int .i64 at_, .int .i64 t] 42))) := hbel.alloc hz _
        clear hacc own hbel hle
        go_wp2_with (at_builtin; ((with_reducible refine wpList_append_spans _ ?_ (.tmp 59) (.tmp 63) ?_ w3.heap.size _ acc ?_ OA.out _ [(at_, t)] ?_ RA.out ?_ ?_ ?_); rfl; rfl; rfl; rfl; (have := HAL.out; simp; omega); (exact BA.out.size); intro v4 w4 o4 g4))
        go_ret2
        rw [← hap.out]
        exact ⟨v4, rfl, o4.mono hz3, B3.out.trans ((BA.out.grown g4 BA.out.size (fun j h => OA.out.blk j h)).mono hz3)⟩
      · have t1 : decide (at_ ≤ t) = false := decide_eq_false hle
        rw [ap_none (by omega), List.append_nil] at hap
        clear hacc own hbel hle
        go_wp2
        go_ret2
        rw [← hap.out]
        exact ⟨_, rfl, OW.out.mono hz3, B3.out.trans (HB.out.mono hz3)⟩

theorem rgaps_any (v : Value) (ss : List (Int × Int)) (f t : Int) (w : World) (hr : RdS w v ss) :
    Calls Try.prog 25 #[v, .int .i64 f, .int .i64 t] w (Gives2 (gapsE ss f t).1 (gapsE ss f t).2 w) := by
  by_cases h : (rightB ss && spanB f t) = true
  · obtain ⟨hR, hS⟩ := Bool.and_eq_true_iff.1 h
    have HE : gapsE ss f t = (gapR t ss f, 0) := if_pos h
    rw [HE]
    exact rgaps_A v ss f t w hr hR hS
  · have HE : Hid (gapsE ss f t = ([], 1)) := by show _ = _; rw [gapsE, if_neg h]
    have HM := rright_any _ ss w hr
    obtain ⟨a, c, rfl, _, _⟩ := hr.isSlice
    rw [HE.out]
    by_cases hR : rightB ss = true
    · rw [hR] at HM h
      rw [Bool.true_and] at h
      have HRt := Lib.hid HM
      have HS := Lib.hid (Bool.eq_false_iff.2 h)
      clear HM hr hR h
      go_enter Try.func25, Try.ntmps25
      go_wp2_with (first
        | (go_at_call 11; refine HRt.out.mono ?_; rintro e w1 ⟨rfl, hb1⟩)
        | (go_at_call 26; refine (rspan_b f t false _ HS.out).mono ?_; rintro e w2 ⟨rfl, rfl⟩))
      go_ret2
      exact ⟨_, rfl, OwnS.nil _ _, hb1⟩
    · rw [Bool.eq_false_iff.2 hR] at HM
      have HRt := Lib.hid HM
      clear HM hr hR h
      go_enter Try.func25, Try.ntmps25
      go_wp2_with (go_at_call 11; refine HRt.out.mono ?_; rintro e w1 ⟨rfl, hb1⟩)
      go_ret2
      exact ⟨_, rfl, OwnS.nil _ _, hb1⟩
end Go.Proofs.Yticbhdbpfpdofaa
