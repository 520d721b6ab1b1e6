/- Walks of layer 16: a text's number, by the document. -/
import Derived.Test.YtgefnndegjpcpaaDoorDtR
import Derived.Test.YtgefnndegjpcpaaDoorDtQ
import Derived.Test.YtgefnndegjpcpaaDoorDtN
import Derived.Deep.RegionHeld
import Derived.Deep.CutBlock
set_option maxRecDepth 100000
set_option linter.unusedSimpArgs false
set_option linter.unusedVariables false
namespace Go.Proofs.YtgefnndegjpcpaaDoor
open Go.RowKit

theorem cut_text (l : List UInt8) (a b : Nat) : (txt l).extract a b = txt (sub l a b) := by
  apply ByteArray.ext
  apply Array.toList_inj.1
  rw [Lib.extract_data]
  rfl
theorem sub_len' (l : List UInt8) (a b : Nat) : (sub l a b).length ≤ b - a := by
  unfold sub
  rw [List.length_take]
  omega
theorem numE_yes' {t : Dt} (h : rightB t = true) : numE t = (numI t, 0) := by rw [numE, if_pos h]
theorem numE_no' {t : Dt} (h : rightB t = false) : numE t = (0, 1) := by rw [numE, h]; rfl

set_option maxHeartbeats 4000000 in
theorem rparse_short (l : List UInt8) (w : World) (hl : l.length ≤ 9223372036854775807) (h : ¬ l.length = 29) :
    Calls Tryd.prog 21 #[.string (txt l)] w fun e w' => e = .returned (.tuple #[.int .i64 0, .int .i64 15]) ∧ Below w.heap.size w w' := by
  have sz := txt_size l
  have h2 : ((l.length : Int) == 29) = false := beq_eq_false_iff_ne.2 (by omega)
  have h3 : ((l.length : Int) != 29) = true := by simp [bne, h2]
  go_enter Tryd.func21, Tryd.ntmps21
  go_wp2
  go_ret2
  exact ⟨rfl, Below.refl _ _⟩

set_option maxHeartbeats 8000000 in
theorem rparse_long (l : List UInt8) (w : World) (h29 : l.length = 29) :
    Calls Tryd.prog 21 #[.string (txt l)] w fun e w' => e = .returned (.tuple #[.int .i64 (parseV numL l).1, .int .i64 (parseV numL l).2]) ∧ Below w.heap.size w w' := by
  have sz := txt_size l
  rw [h29] at sz
  have x1 := cut_text l 12 16
  have x2 := cut_text l 8 11
  have x3 := cut_text l 5 7
  have x4 := cut_text l 17 19
  have x5 := cut_text l 20 22
  have x6 := cut_text l 23 25
  have v1 := Lib.hid (fun W => rvalue_any (sub l 12 16) (Nat.le_trans (sub_len' _ _ _) (by omega)) W)
  have v3 := Lib.hid (fun W => rvalue_any (sub l 5 7) (Nat.le_trans (sub_len' _ _ _) (by omega)) W)
  have v4 := Lib.hid (fun W => rvalue_any (sub l 17 19) (Nat.le_trans (sub_len' _ _ _) (by omega)) W)
  have v5 := Lib.hid (fun W => rvalue_any (sub l 20 22) (Nat.le_trans (sub_len' _ _ _) (by omega)) W)
  have v6 := Lib.hid (fun W => rvalue_any (sub l 23 25) (Nat.le_trans (sub_len' _ _ _) (by omega)) W)
  have NB : Hid (∀ W, Calls Tryd.prog 11 #[.agg #[.int .i64 (numL (sub l 12 16)), .int .i64 (monL (sub l 8 11)), .int .i64 (numL (sub l 5 7)), .int .i64 (numL (sub l 17 19)), .int .i64 (numL (sub l 20 22)), .int .i64 (numL (sub l 23 25))]] W fun e w' => e = .returned (.tuple #[.int .i64 (numE (readD numL l)).1, .int .i64 (numE (readD numL l)).2]) ∧ Below W.heap.size W w') := fun W => rnumber_any (readD numL l) W
  have PV : Hid (parseV numL l = if rightB (readD numL l) then (if fmtL (readD numL l) = l then (numI (readD numL l), 0) else (0, 15)) else (0, 15)) := by
    show _ = _
    simp only [parseV, h29, if_true]
  have FM : Hid (∀ W, rightB (readD numL l) = true → Calls Tryd.prog 19 #[.int .i64 (numI (readD numL l))] W fun e w' => e = .returned (.tuple #[.string (txt (fmtL (readD numL l))), .int .i64 0]) ∧ Below W.heap.size W w') := fun W hr => rformat_at W hr rfl
  have hc := txt_eq (fmtL (readD numL l)) l
  generalize readD numL l = D at NB PV FM hc
  have MK := Lib.hid (monK_all (sub l 8 11))
  have MS := Lib.hid (fun k => show monK (sub l 8 11) (k + 1) = if mName ((k : Int) + 1) = sub l 8 11 then (k : Int) + 1 else monK (sub l 8 11) k from rfl)
  have MQ := Lib.hid (fun k : Nat => txt_eq (mName ((k : Int) + 1)) (sub l 8 11))
  have M0 : Hid (monK (sub l 8 11) 0 = 0) := rfl
  generalize numL (sub l 12 16) = n1 at v1 NB
  generalize numL (sub l 5 7) = n3 at v3 NB
  generalize numL (sub l 17 19) = n4 at v4 NB
  generalize numL (sub l 20 22) = n5 at v5 NB
  generalize numL (sub l 23 25) = n6 at v6 NB
  generalize txt (sub l 12 16) = s1 at x1 v1
  generalize txt (sub l 8 11) = s2 at x2 MQ
  generalize txt (sub l 5 7) = s3 at x3 v3
  generalize txt (sub l 17 19) = s4 at x4 v4
  generalize txt (sub l 20 22) = s5 at x5 v5
  generalize txt (sub l 23 25) = s6 at x6 v6
  generalize sub l 8 11 = lm at MK MS MQ M0 NB
  generalize parseV numL l = PE at PV ⊢
  have PV2 := Lib.hid PV.out
  have X2 := Lib.hid x2
  clear h29 PV
  have CD : Hid (Cs (w.alloc (.cells #[.int .i64 n1, .int .i64 0, .int .i64 n3, .int .i64 n4, .int .i64 n5, .int .i64 n6] 23)).drew w.heap.size [.int .i64 n1, .int .i64 0, .int .i64 n3, .int .i64 n4, .int .i64 n5, .int .i64 n6]) := Cs.made w #[.int .i64 n1, .int .i64 0, .int .i64 n3, .int .i64 n4, .int .i64 n5, .int .i64 n6] 23
  have BB : Hid (Below w.heap.size w (w.alloc (.cells #[.int .i64 n1, .int .i64 0, .int .i64 n3, .int .i64 n4, .int .i64 n5, .int .i64 n6] 23)).drew) := ((Below.refl _ w).alloc (Nat.le_refl _) _).drew
  go_enter Tryd.func21, Tryd.ntmps21
  go_upto_region 3 with fail
  go_cut [4] (fun v wx => v = .pointer (some ⟨w.heap.size, 0, none⟩) ∧ wx = (w.alloc (.cells #[.int .i64 n1, .int .i64 0, .int .i64 n3, .int .i64 n4, .int .i64 n5, .int .i64 n6] 23)).drew)
  case first =>
    go_region_held (fun _ => True) (trivial)
      (first
        | (go_at_call_of 37 (Value.string s1); refine (v1.out _).mono ?_; rintro e wn ⟨rfl, rfl⟩)
        | (go_at_call_of 37 (Value.string s3); refine (v3.out _).mono ?_; rintro e wn ⟨rfl, rfl⟩)
        | (go_at_call_of 37 (Value.string s4); refine (v4.out _).mono ?_; rintro e wn ⟨rfl, rfl⟩)
        | (go_at_call_of 37 (Value.string s5); refine (v5.out _).mono ?_; rintro e wn ⟨rfl, rfl⟩)
        | (go_at_call_of 37 (Value.string s6); refine (v6.out _).mono ?_; rintro e wn ⟨rfl, rfl⟩))
    all_goals
      go_wp2_with fail
      go_meet
      exact ⟨rfl, rfl⟩
  case rest =>
    obtain ⟨rfl, rfl⟩ := hcut
    generalize (w.alloc (.cells #[.int .i64 n1, .int .i64 0, .int .i64 n3, .int .i64 n4, .int .i64 n5, .int .i64 n6] 23)).drew = w1 at CD BB ⊢
    have BB0 := Lib.hid BB.out.size
    clear x1 x3 x4 x5 x6 v1 v3 v4 v5 v6
    go_wp2_with fail
    go_loopw [5] (fun a wx => ∃ k : Nat, k ≤ 12 ∧ a = .int .i64 ((k : Int) + 1) ∧ Cs wx w.heap.size [.int .i64 n1, .int .i64 (monK lm k), .int .i64 n3, .int .i64 n4, .int .i64 n5, .int .i64 n6] ∧ Below w.heap.size w wx) (fun a _ => 14 - (intOf a).toNat)
    case atStart => exact ⟨0, by omega, rfl, by rw [M0.out]; exact CD.out, BB.out⟩
    case round =>
      obtain ⟨k, hk, rfl, hcd, hbb⟩ := hrel
      have CD := Lib.hid hcd
      have BB := Lib.hid hbb
      clear hcd hbb
      obtain ⟨c0, c1, c2, c3, c4, c5⟩ := CD.out.six'
      obtain ⟨f0, f1, f2, f3, f4, f5⟩ := CD.out.free6'
      by_cases hlt : k < 12
      · have hle : decide ((k : Int) + 1 ≤ 12) = true := decide_eq_true (by omega)
        have p1 := wraps_i64' (3 * ((k : Int) + 1)) (by omega) (by omega)
        have p2 := wraps_i64' (3 * ((k : Int) + 1) - 3) (by omega) (by omega)
        have p3 := wraps_i64' ((k : Int) + 1 + 1) (by omega) (by omega)
        have hs := fun W => slice_mon' k W hlt
        have hq := MQ.out k
        have hm := MS.out k
        by_cases he : mName ((k : Int) + 1) = lm
        · rw [decide_eq_true he] at hq
          rw [if_pos he] at hm
          have HM := Lib.hid hm
          clear he hm
          generalize txt (mName ((k : Int) + 1)) = nm at hq hs
          go_wp2_with fail
          go_quiet (fail)
          go_wp2
          go_round
          case rel => exact ⟨k + 1, by omega, by go_num, by rw [HM.out]; exact (CD.out.drewN _).set 1 _, (below_drewN BB.out _).setCell (p := ⟨w.heap.size, 1, none⟩) (Nat.le_refl _) _⟩
          case measure => simp [intOf, p3]; omega
        · rw [decide_eq_false he] at hq
          rw [if_neg he] at hm
          have HM := Lib.hid hm
          clear he hm
          generalize txt (mName ((k : Int) + 1)) = nm at hq hs
          go_wp2_with fail
          go_quiet (fail)
          go_wp2
          go_round
          case rel => exact ⟨k + 1, by omega, by go_num, by rw [HM.out]; exact CD.out.drewN _, below_drewN BB.out _⟩
          case measure => simp [intOf, p3]; omega
      · have hk2 : k = 12 := by omega
        subst hk2
        have hle : decide ((12 : Int) + 1 ≤ 12) = false := by decide
        rw [MK.out] at c1
        cases hr : rightB D
        · have en := numE_no' hr
          have ep : PE = (0, 15) := by rw [PV2.out, hr]; rfl
          subst ep
          rw [en] at NB
          clear PV2 FM hc en
          go_wp2_with (go_at_call 11; refine (NB.out _).mono ?_; rintro x w2 ⟨rfl, hb⟩; have BB := Lib.hid (BB.out.trans (hb.mono BB.out.size)); clear hb)
          go_ret2
          exact ⟨rfl, BB.out⟩
        · have en := numE_yes' hr
          have FM2 := Lib.hid (fun W => FM.out W hr)
          rw [en] at NB
          by_cases hf : fmtL D = l
          · have ep : PE = (numI D, 0) := by rw [PV2.out, hr, if_pos rfl, if_pos hf]
            subst ep
            rw [decide_eq_true hf] at hc
            clear PV2 FM en hf
            generalize txt (fmtL D) = F0 at FM2 hc
            go_wp2_with (first
              | (go_at_call 11; refine (NB.out _).mono ?_; rintro x w2 ⟨rfl, hb⟩; have BB := Lib.hid (BB.out.trans (hb.mono BB.out.size)); clear hb)
              | (go_at_call 19; refine (FM2.out _).mono ?_; rintro x w3 ⟨rfl, hb⟩; have BB := Lib.hid (BB.out.trans (hb.mono BB.out.size)); clear hb))
            go_ret2
            exact ⟨rfl, BB.out⟩
          · have ep : PE = (0, 15) := by rw [PV2.out, hr, if_pos rfl, if_neg hf]
            subst ep
            rw [decide_eq_false hf] at hc
            clear PV2 FM en hf
            generalize txt (fmtL D) = F0 at FM2 hc
            go_wp2_with (first
              | (go_at_call 11; refine (NB.out _).mono ?_; rintro x w2 ⟨rfl, hb⟩; have BB := Lib.hid (BB.out.trans (hb.mono BB.out.size)); clear hb)
              | (go_at_call 19; refine (FM2.out _).mono ?_; rintro x w3 ⟨rfl, hb⟩; have BB := Lib.hid (BB.out.trans (hb.mono BB.out.size)); clear hb))
            go_ret2
            exact ⟨rfl, BB.out⟩

/-- a text's number -/
theorem rparse_any (l : List UInt8) (w : World) (hl : l.length ≤ 9223372036854775807) :
    Calls Tryd.prog 21 #[.string (txt l)] w fun e w' => e = .returned (.tuple #[.int .i64 (parseE l).1, .int .i64 (parseE l).2]) ∧ Below w.heap.size w w' := by
  rw [← parse_num]
  by_cases h : l.length = 29
  · exact rparse_long l w h
  · rw [show parseV numL l = (0, 15) by rw [parseV, if_neg h]]
    exact rparse_short l w hl h
end Go.Proofs.YtgefnndegjpcpaaDoor
