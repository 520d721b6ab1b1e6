/- Walks of layer 16: a text's number. -/
import Derived.Test.YtgefnndegjpcpaaDoorDtK
import Derived.Test.YtgefnndegjpcpaaDoorDtF
import Derived.Test.YtgefnndegjpcpaaDoorDtE
set_option maxRecDepth 100000
set_option linter.unusedSimpArgs false
set_option linter.unusedVariables false
namespace Go.Proofs.YtgefnndegjpcpaaDoor
open Go.RowKit

theorem txt_extract (l : List UInt8) (a b : Nat) : (txt l).extract a b = txt (sub l a b) := by
  apply ByteArray.ext
  apply Array.toList_inj.1
  rw [Lib.extract_data]
  rfl
theorem sub_len (l : List UInt8) (a b : Nat) : (sub l a b).length ≤ b - a := by
  unfold sub
  rw [List.length_take]
  omega

set_option maxHeartbeats 4000000 in
theorem parse_short (l : List UInt8) (w : World) (hl : l.length ≤ 9223372036854775807) (h : ¬ l.length = 29) :
    Calls Tryd.prog 20 #[.string (txt l)] w fun e w' => e = .returned (.tuple #[.int .i64 0, .int .i64 15]) ∧ Below w.heap.size w w' := by
  have sz := txt_size l
  have h2 : ((l.length : Int) == 29) = false := beq_eq_false_iff_ne.2 (by omega)
  have h3 : ((l.length : Int) != 29) = true := by simp [bne, h2]
  go_enter Tryd.func20, Tryd.ntmps20
  go_wp2
  go_ret2
  exact ⟨rfl, Below.refl _ _⟩

set_option maxHeartbeats 8000000 in
theorem parse_long (l : List UInt8) (w : World) (h29 : l.length = 29) (ht : Tb w) :
    Calls Tryd.prog 20 #[.string (txt l)] w fun e w' => e = .returned (.tuple #[.int .i64 (parseE l).1, .int .i64 (parseE l).2]) ∧ Below w.heap.size w w' := by
  have sz := txt_size l
  rw [h29] at sz
  have x1 := txt_extract l 12 16
  have x2 := txt_extract l 8 11
  have x3 := txt_extract l 5 7
  have x4 := txt_extract l 17 19
  have x5 := txt_extract l 20 22
  have x6 := txt_extract l 23 25
  have v1 := Lib.hid (fun W => value_any (sub l 12 16) (Nat.le_trans (sub_len _ _ _) (by omega)) W)
  have v2 := Lib.hid (fun W => monthNamed_any (sub l 8 11) W)
  have v3 := Lib.hid (fun W => value_any (sub l 5 7) (Nat.le_trans (sub_len _ _ _) (by omega)) W)
  have v4 := Lib.hid (fun W => value_any (sub l 17 19) (Nat.le_trans (sub_len _ _ _) (by omega)) W)
  have v5 := Lib.hid (fun W => value_any (sub l 20 22) (Nat.le_trans (sub_len _ _ _) (by omega)) W)
  have v6 := Lib.hid (fun W => value_any (sub l 23 25) (Nat.le_trans (sub_len _ _ _) (by omega)) W)
  have NB : Hid (∀ W, Calls Tryd.prog 9 #[.agg #[.int .i64 (valL (sub l 12 16)), .int .i64 (monL (sub l 8 11)), .int .i64 (valL (sub l 5 7)), .int .i64 (valL (sub l 17 19)), .int .i64 (valL (sub l 20 22)), .int .i64 (valL (sub l 23 25))]] W fun e w' => e = .returned (.tuple #[.int .i64 (numE (readD valL l)).1, .int .i64 (numE (readD valL l)).2]) ∧ Below W.heap.size W w') := fun W => number_any (readD valL l) W
  have BB := Lib.hid (Below.refl w.heap.size w)
  have TT := Lib.hid ht
  have PV : Hid (parseE l = if rightB (readD valL l) then (if fmtL (readD valL l) = l then (numI (readD valL l), 0) else (0, 15)) else (0, 15)) := by
    show _ = _
    simp only [parseE, parseV, h29, if_true]
  have FM : Hid (∀ W, Tb W → rightB (readD valL l) = true → Calls Tryd.prog 18 #[.int .i64 (numI (readD valL l))] W fun e w' => e = .returned (.tuple #[.string (txt (fmtL (readD valL l))), .int .i64 0]) ∧ Below W.heap.size W w') := fun W hW hr => format_at W hW hr rfl
  have hc := txt_eq (fmtL (readD valL l)) l
  have NE : Hid (numE (readD valL l) = if rightB (readD valL l) then (numI (readD valL l), 0) else (0, 1)) := rfl
  generalize readD valL l = D at NB PV FM hc NE
  generalize valL (sub l 12 16) = n1 at v1 NB
  generalize monL (sub l 8 11) = n2 at v2 NB
  generalize valL (sub l 5 7) = n3 at v3 NB
  generalize valL (sub l 17 19) = n4 at v4 NB
  generalize valL (sub l 20 22) = n5 at v5 NB
  generalize valL (sub l 23 25) = n6 at v6 NB
  generalize txt (sub l 12 16) = s1 at x1 v1
  generalize txt (sub l 8 11) = s2 at x2 v2
  generalize txt (sub l 5 7) = s3 at x3 v3
  generalize txt (sub l 17 19) = s4 at x4 v4
  generalize txt (sub l 20 22) = s5 at x5 v5
  generalize txt (sub l 23 25) = s6 at x6 v6
  have hP : Hid (∀ p, parseE l = p → p = (0, 15) ∨ p = (numI D, 0)) := fun p hp => by
    rw [← hp, PV.out]
    split
    · split <;> simp
    · simp
  generalize parseE l = PE at PV hP ⊢
  have PV2 := Lib.hid PV.out
  clear h29 ht hP PV
  go_enter Tryd.func20, Tryd.ntmps20
  go_upto_region 3 with fail
  have TT : Hid (Tb w.drew) := TT.out.below (Below.refl _ w).drew
  have BB := Lib.hid BB.out.drew
  have bnow := BB.out
  go_region_held (fun W => Below w.heap.size w W)
    (first
      | (exact bnow))
    (first
      | (go_at_call 36; refine (v2.out _).mono ?_; rintro e wn ⟨rfl, bn⟩; have BB := Lib.hid (BB.out.trans (bn.mono BB.out.size)); have TT := Lib.hid (TT.out.below bn); clear bn; have bnow := BB.out)
      | (go_at_call 9; refine (NB.out _).mono ?_; rintro e wm ⟨rfl, bn⟩; have BB := Lib.hid (BB.out.trans (bn.mono BB.out.size)); have TT := Lib.hid (TT.out.below bn); clear bn; have bnow := BB.out)
      | (go_at_call_of 35 (Value.string s1); refine (v1.out _).mono ?_; rintro e wn ⟨rfl, rfl⟩)
      | (go_at_call_of 35 (Value.string s3); refine (v3.out _).mono ?_; rintro e wn ⟨rfl, rfl⟩)
      | (go_at_call_of 35 (Value.string s4); refine (v4.out _).mono ?_; rintro e wn ⟨rfl, rfl⟩)
      | (go_at_call_of 35 (Value.string s5); refine (v5.out _).mono ?_; rintro e wn ⟨rfl, rfl⟩)
      | (go_at_call_of 35 (Value.string s6); refine (v6.out _).mono ?_; rintro e wn ⟨rfl, rfl⟩))
  cases hr : rightB D
  · have en := numE_no hr
    have ep : PE = (0, 15) := by rw [PV2.out, hr]; rfl
    subst ep
    simp only [en]
    clear PV2 FM hc NE en
    go_wp2_with fail
    go_ret2
    exact ⟨rfl, BB.out⟩
  · have en := numE_yes hr
    have FM2 := Lib.hid (fun W hW => FM.out W hW hr)
    simp only [en]
    by_cases hf : fmtL D = l
    · have ep : PE = (numI D, 0) := by rw [PV2.out, hr, if_pos rfl, if_pos hf]
      subst ep
      rw [decide_eq_true hf] at hc
      clear PV2 FM NE en hf
      generalize txt (fmtL D) = F0 at FM2 hc
      go_wp2_with (go_at_call 18; refine (FM2.out _ TT.out).mono ?_; rintro x w2 ⟨rfl, hb⟩; have BB := Lib.hid (BB.out.trans (hb.mono BB.out.size)); clear hb)
      go_ret2
      exact ⟨rfl, BB.out⟩
    · have ep : PE = (0, 15) := by rw [PV2.out, hr, if_pos rfl, if_neg hf]
      subst ep
      rw [decide_eq_false hf] at hc
      clear PV2 FM NE en hf
      generalize txt (fmtL D) = F0 at FM2 hc
      go_wp2_with (go_at_call 18; refine (FM2.out _ TT.out).mono ?_; rintro x w2 ⟨rfl, hb⟩; have BB := Lib.hid (BB.out.trans (hb.mono BB.out.size)); clear hb)
      go_ret2
      exact ⟨rfl, BB.out⟩

/-- a text's number -/
theorem parse_any (l : List UInt8) (w : World) (hl : l.length ≤ 9223372036854775807) (ht : Tb w) :
    Calls Tryd.prog 20 #[.string (txt l)] w fun e w' => e = .returned (.tuple #[.int .i64 (parseE l).1, .int .i64 (parseE l).2]) ∧ Below w.heap.size w w' := by
  by_cases h : l.length = 29
  · exact parse_long l w h ht
  · have : parseE l = (0, 15) := by rw [parseE, parseV, if_neg h]
    rw [this]
    exact parse_short l w hl h
end Go.Proofs.YtgefnndegjpcpaaDoor
