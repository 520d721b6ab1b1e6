/- Walks of layer 14: a field told with its value. -/
/- Walks of layer 14: a field told; what a section says. -/
/- Walks of layer 14: what a section says. -/
/- Walks of layer 14: the encoder. -/
/- Walks of layer 14: new ones, the capacity set; machines in a law's world. -/
/- Walks of layer 14: two lists of fields compared. -/
/- Walks of layer 14: alive. -/
/- Walks of layer 14: what is right; a section that needs nothing. -/
/- Laws of layer 14: the section that waits. -/
/- Laws of layer 14: nobody's encoder, nobody's decoder. -/
/- Laws of layer 14: Nobody. -/
/- Laws of layer 14: fields told without any table. -/
/- Laws of layer 14: Plain. -/
/- Laws of layer 14: Both. -/
/- Laws of layer 14: an encoder's step with its decoder. -/
import Derived.Test.YtbkbabaoockigaaGreatDoorPk5
set_option maxRecDepth 100000
set_option linter.unusedSimpArgs false
set_option linter.unusedVariables false
namespace Go.Proofs.YtbkbabaoockigaaGreatDoor
open Go.RowKit

set_option maxHeartbeats 25600000 in
theorem tellValue_any {q0 : TQ} {t b : Nat} {sl : Value} {put : Bool} {base need kept m : Nat} {vi vl : Value} {ins lines : List Int} {l : List Fd} {q : TQ} (f : Fd) (w : World) (h : Tw t b sl put base need kept vi vl ins lines q w) (T : Tel q0 put q m need kept ins lines l) (hm : m ≤ 64) (hl : l.length ≤ 63) (hbq : base = countN q0) (hc0 : countN q0 ≤ 1152921504606840000) (hfn : f.n.size ≤ 64) (hfv : f.v.size ≤ 512) (hF : Fix w) :
    Calls Tryz.prog 54 #[.pointer (some ⟨t, 0, none⟩), .agg #[.string f.n, .string f.v]] w fun e w' => e = .returned (.tuple #[]) ∧ ∃ need' kept' lines', Tel q0 put q m need' kept' ins lines' (l ++ [f]) ∧ TDid t b put base sl vi vl w need' kept' ins lines' q w' := by
  obtain ⟨fn, fv⟩ := f
  simp only at hfn hfv
  have hcnt := T.cnt
  obtain ⟨vla, vlc, hvl⟩ := h.rl.len
  subst hvl
  obtain ⟨w1, hw1⟩ : ∃ W, W = w.alloc (.cells #[.string fn, .string fv] 74) := ⟨_, rfl⟩
  have hb1 : Below w.heap.size w w1 := by rw [hw1]; exact below1 w _
  have hr1 : Cs w1 w.heap.size [.string fn, .string fv] := by rw [hw1]; exact Cs.made w #[.string fn, .string fv] 74
  have TB1 : Hid (Tb q0 t b put base w.heap.size fn fv need kept ins lines q sl vi (.slice vla lines.length vlc) w1) := ⟨h.below hb1, hr1, h.out (Nat.le_refl _)⟩
  have B1 := Lib.hid hb1
  have HFF := Lib.hid (findFixed_any ⟨fn, fv⟩ w1 (hF.below hb1 hF.pos))
  have HVAL : Hid (∀ (V : World) (ne ke : Nat) (ln2 : List Int) (sl2 vi2 vl2 : Value), Tb q0 t b put base w.heap.size fn fv ne ke ins ln2 q sl2 vi2 vl2 V → ln2.length ≤ 2000000 → Calls Tryz.prog 86 #[vl2, .int .i64 0, .int .i64 8, .string fv] V fun e w' => ∃ v' zs, e = .returned v' ∧ App vl2 (ln2 ++ zs) V v' w' ∧ IsVal fv zs) := fun V ne ke ln2 sl2 vi2 vl2 hV hl => text_app vl2 ln2 0 7 fv V hV.tw.rl (by omega) (by decide) (by decide) hfv (by decide) (by decide) (by decide)
  have HNA : Hid (∀ V, Below w1.heap.size w1 V → Calls Tryz.prog 85 #[.pointer (some ⟨t, 0, none⟩), .agg #[.string fn, .string fv]] V fun e w' => e = .returned (.int .i64 (if put then (findE q ⟨fn, fv⟩).2 else -1)) ∧ Below V.heap.size V w') := fun V hV => named_any ⟨fn, fv⟩ V (TB1.out.below hV).tw (by omega)
  have HX : Hid (l.length ≤ 63 ∧ m ≤ 64 ∧ fn.size ≤ 64 ∧ fv.size ≤ 512 ∧ countN q ≤ 1152921504606841000) := ⟨hl, hm, hfn, hfv, by omega⟩
  have HBQ : Hid (base = countN q0 ∧ base ≤ 1152921504606840000) := ⟨hbq, by omega⟩
  have HT := Lib.hid T
  have HW1 := Lib.hid hw1
  obtain ⟨⟨r1, r2⟩, hi⟩ : ∃ r, findFixedE ⟨fn, fv⟩ = r := ⟨_, rfl⟩
  have hfx := fixed_named ⟨fn, fv⟩
  rw [hi] at HFF hfx
  simp only at HFF hfx
  have hfd := find_named q ⟨fn, fv⟩
  obtain ⟨⟨p1, p2⟩, hpi⟩ : ∃ r, findE q ⟨fn, fv⟩ = r := ⟨_, rfl⟩
  rw [hpi] at HNA hfd
  simp only at HNA hfd
  clear h T hm hl hfn hfv hF hw1 hb1 hr1 hi hpi hcnt hbq hc0
  have x0 := TB1.out.box.get 0 _ rfl
  have x1 := TB1.out.box.get 1 _ rfl
  rcases hfx with hfx' | hfx'
  · subst hfx'
    have d1 : decide ((-1 : Int) ≥ 0) = false := rfl
    by_cases hq2 : put = true ∧ p2 ≠ -1
    · obtain ⟨hput, hp2⟩ := hq2
      have hnam' := hfd.resolve_left hp2
      clear hfd hp2
      subst hput
      simp only [if_true] at HNA hnam'
      obtain ⟨n, g, hpn, hn1, hn2, hge, hgn⟩ := hnam'
      subst hpn
      have d3 : decide ((n : Int) < 0) = false := decide_eq_false (by omega)
      have hncl : n ≤ 1152921504606841000 := by have := HX.out.2.2.2.2; omega
      obtain ⟨need1, hne1⟩ : ∃ x, x = max need (n + 1) := ⟨_, rfl⟩
      obtain ⟨kept1, hke1⟩ : ∃ x, x = min kept n := ⟨_, rfl⟩
      have HNX : Hid (n + 1 ≤ need1 ∧ kept1 ≤ n) := ⟨by omega, by omega⟩
      have HNK : Hid (need ≤ need1 ∧ kept1 ≤ kept ∧ (need1 = need ∨ need1 ≤ countN q) ∧ q.first ≤ kept1 ∧ (true = false → need1 = 0 ∧ kept1 = kept)) := ⟨by omega, by omega, by omega, by have := HT.out.keptF; omega, fun h => by cases h⟩
      have HKP : Hid (∀ V sl4 vi4 vl4, Tw t b sl4 true base need kept vi4 vl4 ins lines q V → Calls Tryz.prog 84 #[.pointer (some ⟨t, 0, none⟩), .int .i64 (n : Int)] V fun e w' => e = .returned (.tuple #[]) ∧ TDid t b true base sl4 vi4 vl4 V need1 kept1 ins lines q w') := fun V sl4 vi4 vl4 hV => keep_any n V hV (by omega) _ _ hne1 hke1
      clear hne1 hke1
      go_enter Tryz.func54, Tryz.ntmps54
      go_upto_region 1 with fail
      rw [← HW1.out]
      go_upto_region 4 with (go_at_call 52; refine HFF.out.mono ?_; rintro e w2 ⟨rfl, hb2⟩; have TB2 := Lib.hid (TB1.out.below hb2); have B2 := Lib.hid hb2; obtain ⟨a0, a1, a2, a3, a4, a5, a6⟩ := TB2.out.tw.facts; have z6 := TB2.out.tw.free 6; have y0 := TB2.out.box.get 0 _ rfl; have y1 := TB2.out.box.get 1 _ rfl; clear hb2)
      go_upto_region 7 with (go_at_call 85; refine (HNA.out _ B2.out).mono ?_; rintro e w3 ⟨rfl, hb3⟩; have TB3 := Lib.hid (TB2.out.below hb3); have B3 := Lib.hid (B2.out.trans (hb3.mono B2.out.size)); clear hb3)
      by_cases hnlt : n < base
      · have e3 : decide ((n : Int) < (base : Int)) = true := decide_eq_true (by omega)
        have e4 : decide (n < base) = true := decide_eq_true hnlt
        go_upto_region 9 with (go_at_call 84; refine (HKP.out _ _ _ _ TB3.out.tw).mono ?_; rintro e w5 ⟨rfl, sl4, vi4, vl5, ht5, hs5⟩; have TB5 := Lib.hid (TB3.out.step ht5 hs5); have ST5 := Lib.hid ((TStep.same B3.out).trans hs5); obtain ⟨vma, vmc, hvl⟩ := ht5.rl.len; subst hvl; have c2 : w5.cell? ⟨t, 2, none⟩ = some (.int .i64 (base : Int)) := ht5.facts.2.2.1; clear ht5 hs5)
        obtain ⟨k, hk⟩ : ∃ k : Nat, k = base - 1 - n := ⟨_, rfl⟩
        have hw1 : IntKind.i64.wrap ((base : Int) - 1) = (base : Int) - 1 := wraps_i64' _ (by omega) (by have := HBQ.out; omega)
        have hw2 : IntKind.i64.wrap ((base : Int) - 1 - (n : Int)) = (k : Int) := by rw [wraps_i64' _ (by omega) (by have := HBQ.out; omega)]; omega
        have hbq0 := HBQ.out
        have hok : OkP 64 4 (k : Int) := ⟨by decide, by decide, by omega, by omega⟩
        obtain ⟨Z, hZ⟩ : ∃ Z, Z = encP 64 4 (k : Int) := ⟨_, rfl⟩
        obtain ⟨Y, hY⟩ : ∃ Y, Y = lines ++ Z := ⟨_, rfl⟩
        have HYZ := Lib.hid hY
        have HZL : Hid (Z.length ≤ 522) := by
          show Z.length ≤ 522
          have := sizeN_le (w := 4) (n := (k : Int)) (by omega)
          rw [hZ, encP_len]; omega
        have HZ : Hid (∀ zs : List Int, IsVal fv zs → Bts Z ∧ Z ≠ [] ∧ ∀ (q' : TQ) (need' : Nat) (pre post : List Int), Ext kept1 q q' → need1 ≤ need' → lineE q' need' (countN q0 : Int) (pre ++ ((Z ++ zs) ++ post)) pre.length = (⟨fn, fv⟩, pre.length + (Z ++ zs).length, 0)) := fun zs hzs => ⟨by rw [hZ]; exact encP_bts hok, by rw [hZ]; exact encP_ne _ _ _, fun q' need' pre post hE hN => by
          have hbq := HBQ.out
          have hnk := HNX.out
          have e9 : (countN q0 : Int) - 1 - (k : Int) = (n : Int) := by omega
          have := line_named q' need' (countN q0 : Int) k (by omega) fv zs hzs HX.out.2.2.2.1 g (by rw [e9]; unfold getB; rw [if_neg (by omega), hE n (by omega) hn2, hge]) pre post
          rw [hgn] at this
          rw [hZ]; exact this⟩
        have HNUM : Hid (∀ V sl6 vi6, Tw t b sl6 true base need1 kept1 vi6 (.slice vma lines.length vmc) ins lines q V → Calls Tryz.prog 28 #[.slice vma lines.length vmc, .int .i64 64, .int .i64 4, .int .i64 (k : Int)] V fun e w' => ∃ v', e = .returned v' ∧ App (.slice vma lines.length vmc) Y V v' w') := fun V sl6 vi6 hV => by
          rw [hY, hZ]
          exact number_app _ lines 64 4 (k : Int) V hV.rl (by have h1 := HT.out.sL; have h2 := HX.out.1; omega) hok
        clear hZ hY hok hk hn2 hge hgn hn1 hnlt hbq0
        go_upto_region 9 with fail
        have D5 := Lib.hid (TB5.out.below (below_drewN (Below.refl _ _) 1))
        have c6 : w5.drew.cell? ⟨t, 6, none⟩ = some (.slice vma lines.length vmc) := D5.out.tw.facts.2.2.2.2.2.2
        have c2' : w5.drew.cell? ⟨t, 2, none⟩ = some (.int .i64 (base : Int)) := D5.out.tw.facts.2.2.1
        go_cut [] (fun wx => ∃ (v4a : Option Addr) (v4c : Nat), Tb q0 t b true base w.heap.size fn fv need1 kept1 ins Y q sl4 vi4 (.slice v4a Y.length v4c) wx ∧ TStep t b sl vi (.slice vla lines.length vlc) sl4 vi4 (.slice v4a Y.length v4c) w1 wx)
        case first =>
          go_region_law (first
            | (go_simp; go_at_call 28; refine (HNUM.out _ _ _ D5.out.tw).mono ?_; rintro e w6 ⟨v6, rfl, ap⟩; obtain ⟨k5, kz5, kl5⟩ := D5.out.tw.cell6 ap; have AP := Lib.hid ap; obtain ⟨v6a, v6c, hv6⟩ := ap.row.len; subst hv6; clear ap))
          all_goals
            go_wp2_with fail
            go_meet
            have SI := D5.out.tw.setL AP.out
            exact ⟨_, _, D5.out.step SI.1 SI.2, ST5.out.trans ((TStep.same (below_drewN (Below.refl _ _) 1)).trans SI.2)⟩
        case rest =>
        obtain ⟨v4a, v4c, htb4, hst4⟩ := hcut
        have TB4 := Lib.hid htb4
        have ST4 := Lib.hid hst4
        clear htb4 hst4 c6 c2' c2 a0 a1 a2 a3 a4 a5 a6 z6 y0 y1
        obtain ⟨w4, hw4⟩ : ∃ W, W = wc := ⟨_, rfl⟩
        rw [← hw4] at TB4 ST4 ⊢
        clear hw4
        have l4 : Y.length ≤ 2000000 := by have h1 := HT.out.sL; have h2 := HX.out.1; have h3 := HZL.out; rw [HYZ.out, List.length_append]; omega
        have HL4 := Lib.hid l4
        have D4 := Lib.hid (TB4.out.below (below_drewN (Below.refl _ _) 1))
        have c6 : w4.drew.cell? ⟨t, 6, none⟩ = some (.slice v4a Y.length v4c) := D4.out.tw.facts.2.2.2.2.2.2
        have c1 : w4.drew.cell? ⟨w.heap.size, 1, none⟩ = some (.string fv) := D4.out.box.get 1 _ rfl
        clear l4
        go_upto_region 11 with fail
        go_region_law (first
          | (go_simp; go_at_call 86; refine (HVAL.out _ _ _ _ _ _ _ D4.out HL4.out).mono ?_; rintro e w5 ⟨v5, zs, rfl, ap, hzs⟩; obtain ⟨Y5, hY5⟩ : ∃ Y5, Y5 = Y ++ zs := ⟨_, rfl⟩; rw [← hY5] at ap; have HY5 := Lib.hid hY5; obtain ⟨k5, kz5, kl5⟩ := D4.out.tw.cell6 ap; have AP := Lib.hid ap; have HZS := Lib.hid hzs; obtain ⟨v5a, v5c, hv5⟩ := ap.row.len; subst hv5; clear ap hzs hY5))
        all_goals
          go_wp2_with fail
          go_end0
          have SI := D4.out.tw.setL AP.out
          have hvz := text_len HZS.out HX.out.2.2.2.1
          have hib := HZ.out zs HZS.out
          refine ⟨rfl, need1, kept1, Y5, ?_, sl4, vi4, _, SI.1, (TStep.same B1.out).trans (ST4.out.trans ((TStep.same (below_drewN (Below.refl _ _) 1)).trans SI.2))⟩
          rw [HY5.out, HYZ.out, List.append_assoc]
          exact HT.out.put_line (hib.1.append (text_bts HZS.out ok7a ok7b (by decide) HX.out.2.2.2.1)) (fun h => hib.2.1 (List.append_eq_nil_iff.1 h).1) (by have := HZL.out; rw [List.length_append]; omega) HNK.out.1 (by have := HT.out.need_le; have := HNK.out; omega) HNK.out.2.1 HNK.out.2.2.2.1 (fun h => ⟨(HNK.out.2.2.2.2 h).1, by have := (HNK.out.2.2.2.2 h).2; first | exact this | rfl⟩) hib.2.2
      · have e3 : decide ((n : Int) < (base : Int)) = false := decide_eq_false (by omega)
        have e4 : decide (n < base) = false := decide_eq_false hnlt
        go_upto_region 10 with (go_at_call 84; refine (HKP.out _ _ _ _ TB3.out.tw).mono ?_; rintro e w5 ⟨rfl, sl4, vi4, vl5, ht5, hs5⟩; have TB5 := Lib.hid (TB3.out.step ht5 hs5); have ST5 := Lib.hid ((TStep.same B3.out).trans hs5); obtain ⟨vma, vmc, hvl⟩ := ht5.rl.len; subst hvl; have c2 : w5.cell? ⟨t, 2, none⟩ = some (.int .i64 (base : Int)) := ht5.facts.2.2.1; clear ht5 hs5)
        obtain ⟨k, hk⟩ : ∃ k : Nat, k = n - base := ⟨_, rfl⟩
        have hw1 : IntKind.i64.wrap ((n : Int) - (base : Int)) = (k : Int) := by rw [wraps_i64' _ (by omega) (by have := HBQ.out; omega)]; omega
        have hbq0 := HBQ.out
        have hok : OkP 0 3 (k : Int) := ⟨by decide, by decide, by omega, by omega⟩
        obtain ⟨Z, hZ⟩ : ∃ Z, Z = encP 0 3 (k : Int) := ⟨_, rfl⟩
        obtain ⟨Y, hY⟩ : ∃ Y, Y = lines ++ Z := ⟨_, rfl⟩
        have HYZ := Lib.hid hY
        have HZL : Hid (Z.length ≤ 522) := by
          show Z.length ≤ 522
          have := sizeN_le (w := 3) (n := (k : Int)) (by omega)
          rw [hZ, encP_len]; omega
        have HZ : Hid (∀ zs : List Int, IsVal fv zs → Bts Z ∧ Z ≠ [] ∧ ∀ (q' : TQ) (need' : Nat) (pre post : List Int), Ext kept1 q q' → need1 ≤ need' → lineE q' need' (countN q0 : Int) (pre ++ ((Z ++ zs) ++ post)) pre.length = (⟨fn, fv⟩, pre.length + (Z ++ zs).length, 0)) := fun zs hzs => ⟨by rw [hZ]; exact encP_bts hok, by rw [hZ]; exact encP_ne _ _ _, fun q' need' pre post hE hN => by
          have hbq := HBQ.out
          have hnk := HNX.out
          have e9 : (countN q0 : Int) + (k : Int) = (n : Int) := by omega
          have := line_pastN q' need' (countN q0 : Int) k (by omega) fv zs hzs HX.out.2.2.2.1 g (by rw [e9]; unfold getB; rw [if_neg (by omega), hE n (by omega) hn2, hge]) pre post
          rw [hgn] at this
          rw [hZ]; exact this⟩
        have HNUM : Hid (∀ V sl6 vi6, Tw t b sl6 true base need1 kept1 vi6 (.slice vma lines.length vmc) ins lines q V → Calls Tryz.prog 28 #[.slice vma lines.length vmc, .int .i64 0, .int .i64 3, .int .i64 (k : Int)] V fun e w' => ∃ v', e = .returned v' ∧ App (.slice vma lines.length vmc) Y V v' w') := fun V sl6 vi6 hV => by
          rw [hY, hZ]
          exact number_app _ lines 0 3 (k : Int) V hV.rl (by have h1 := HT.out.sL; have h2 := HX.out.1; omega) hok
        clear hZ hY hok hk hn2 hge hgn hn1 hnlt hbq0
        go_upto_region 10 with fail
        have D5 := Lib.hid (TB5.out.below (below_drewN (Below.refl _ _) 1))
        have c6 : w5.drew.cell? ⟨t, 6, none⟩ = some (.slice vma lines.length vmc) := D5.out.tw.facts.2.2.2.2.2.2
        have c2' : w5.drew.cell? ⟨t, 2, none⟩ = some (.int .i64 (base : Int)) := D5.out.tw.facts.2.2.1
        go_cut [] (fun wx => ∃ (v4a : Option Addr) (v4c : Nat), Tb q0 t b true base w.heap.size fn fv need1 kept1 ins Y q sl4 vi4 (.slice v4a Y.length v4c) wx ∧ TStep t b sl vi (.slice vla lines.length vlc) sl4 vi4 (.slice v4a Y.length v4c) w1 wx)
        case first =>
          go_region_law (first
            | (go_simp; go_at_call 28; refine (HNUM.out _ _ _ D5.out.tw).mono ?_; rintro e w6 ⟨v6, rfl, ap⟩; obtain ⟨k5, kz5, kl5⟩ := D5.out.tw.cell6 ap; have AP := Lib.hid ap; obtain ⟨v6a, v6c, hv6⟩ := ap.row.len; subst hv6; clear ap))
          all_goals
            go_wp2_with fail
            go_meet
            have SI := D5.out.tw.setL AP.out
            exact ⟨_, _, D5.out.step SI.1 SI.2, ST5.out.trans ((TStep.same (below_drewN (Below.refl _ _) 1)).trans SI.2)⟩
        case rest =>
        obtain ⟨v4a, v4c, htb4, hst4⟩ := hcut
        have TB4 := Lib.hid htb4
        have ST4 := Lib.hid hst4
        clear htb4 hst4 c6 c2' c2 a0 a1 a2 a3 a4 a5 a6 z6 y0 y1
        obtain ⟨w4, hw4⟩ : ∃ W, W = wc := ⟨_, rfl⟩
        rw [← hw4] at TB4 ST4 ⊢
        clear hw4
        have l4 : Y.length ≤ 2000000 := by have h1 := HT.out.sL; have h2 := HX.out.1; have h3 := HZL.out; rw [HYZ.out, List.length_append]; omega
        have HL4 := Lib.hid l4
        have D4 := Lib.hid (TB4.out.below (below_drewN (Below.refl _ _) 1))
        have c6 : w4.drew.cell? ⟨t, 6, none⟩ = some (.slice v4a Y.length v4c) := D4.out.tw.facts.2.2.2.2.2.2
        have c1 : w4.drew.cell? ⟨w.heap.size, 1, none⟩ = some (.string fv) := D4.out.box.get 1 _ rfl
        clear l4
        go_upto_region 11 with fail
        go_region_law (first
          | (go_simp; go_at_call 86; refine (HVAL.out _ _ _ _ _ _ _ D4.out HL4.out).mono ?_; rintro e w5 ⟨v5, zs, rfl, ap, hzs⟩; obtain ⟨Y5, hY5⟩ : ∃ Y5, Y5 = Y ++ zs := ⟨_, rfl⟩; rw [← hY5] at ap; have HY5 := Lib.hid hY5; obtain ⟨k5, kz5, kl5⟩ := D4.out.tw.cell6 ap; have AP := Lib.hid ap; have HZS := Lib.hid hzs; obtain ⟨v5a, v5c, hv5⟩ := ap.row.len; subst hv5; clear ap hzs hY5))
        all_goals
          go_wp2_with fail
          go_end0
          have SI := D4.out.tw.setL AP.out
          have hvz := text_len HZS.out HX.out.2.2.2.1
          have hib := HZ.out zs HZS.out
          refine ⟨rfl, need1, kept1, Y5, ?_, sl4, vi4, _, SI.1, (TStep.same B1.out).trans (ST4.out.trans ((TStep.same (below_drewN (Below.refl _ _) 1)).trans SI.2))⟩
          rw [HY5.out, HYZ.out, List.append_assoc]
          exact HT.out.put_line (hib.1.append (text_bts HZS.out ok7a ok7b (by decide) HX.out.2.2.2.1)) (fun h => hib.2.1 (List.append_eq_nil_iff.1 h).1) (by have := HZL.out; rw [List.length_append]; omega) HNK.out.1 (by have := HT.out.need_le; have := HNK.out; omega) HNK.out.2.1 HNK.out.2.2.2.1 (fun h => ⟨(HNK.out.2.2.2.2 h).1, by have := (HNK.out.2.2.2.2 h).2; first | exact this | rfl⟩) hib.2.2
    · have hnam' : (if put then p2 else (-1 : Int)) = -1 := by
        cases put with
        | false => rfl
        | true => simp only [if_true]; exact Classical.byContradiction fun hh => hq2 ⟨rfl, hh⟩
      clear hfd hq2
      have hnam2 : (if put then p2 else (-1 : Int)) = -1 := hnam'
      rw [hnam2] at HNA
      clear hnam2
      have d3 : decide ((-1 : Int) < 0) = true := rfl
      have HNAM : Hid (∀ V, Below w1.heap.size w1 V → Calls Tryz.prog 86 #[.slice vla lines.length vlc, .int .i64 32, .int .i64 4, .string fn] V fun e w' => ∃ v' zs, e = .returned v' ∧ App (.slice vla lines.length vlc) (lines ++ zs) V v' w' ∧ IsText 32 3 fn zs) := fun V hV => text_app _ lines 32 3 fn V (TB1.out.below hV).tw.rl (by have h1 := HT.out.sL; have h2 := HX.out.1; omega) (by decide) (by decide) (by have := HX.out.2.2.1; omega) (by decide) (by decide) (by decide)
      have HNK : Hid (need ≤ need ∧ kept ≤ kept ∧ (need = need ∨ need ≤ countN q) ∧ q.first ≤ kept ∧ (put = false → need = 0 ∧ kept = kept)) := ⟨Nat.le_refl _, Nat.le_refl _, .inl rfl, HT.out.keptF, fun h => ⟨(HT.out.plain h).2.2.2.1, rfl⟩⟩
      clear hnam'
      go_enter Tryz.func54, Tryz.ntmps54
      go_upto_region 1 with fail
      rw [← HW1.out]
      go_upto_region 4 with (go_at_call 52; refine HFF.out.mono ?_; rintro e w2 ⟨rfl, hb2⟩; have TB2 := Lib.hid (TB1.out.below hb2); have B2 := Lib.hid hb2; obtain ⟨a0, a1, a2, a3, a4, a5, a6⟩ := TB2.out.tw.facts; have z6 := TB2.out.tw.free 6; have y0 := TB2.out.box.get 0 _ rfl; have y1 := TB2.out.box.get 1 _ rfl; clear hb2)
      go_upto_region 6 with (go_at_call 85; refine (HNA.out _ B2.out).mono ?_; rintro e w3 ⟨rfl, hb3⟩; have TB3 := Lib.hid (TB2.out.below hb3); have B3 := Lib.hid (B2.out.trans (hb3.mono B2.out.size)); clear hb3)
      have D3 := Lib.hid (TB3.out.below (below_drewN (Below.refl _ _) 1))
      have BD3 : Hid (Below w1.heap.size w1 w3.drew) := below_drewN B3.out 1
      have c0 : w3.drew.cell? ⟨w.heap.size, 0, none⟩ = some (.string fn) := D3.out.box.get 0 _ rfl
      have c6 : w3.drew.cell? ⟨t, 6, none⟩ = some (.slice vla lines.length vlc) := D3.out.tw.facts.2.2.2.2.2.2
      go_cut [] (fun wx => ∃ (Z Y : List Int) (v4a : Option Addr) (v4c : Nat), Y = lines ++ Z ∧ IsText 32 3 fn Z ∧ Tb q0 t b put base w.heap.size fn fv need kept ins Y q sl vi (.slice v4a Y.length v4c) wx ∧ TStep t b sl vi (.slice vla lines.length vlc) sl vi (.slice v4a Y.length v4c) w1 wx)
      case first =>
        go_region_law (first
          | (go_simp; go_at_call 86; refine (HNAM.out _ BD3.out).mono ?_; rintro e w9 ⟨v3, Z, rfl, ap, hZ⟩; obtain ⟨Y, hY⟩ : ∃ Y, Y = lines ++ Z := ⟨_, rfl⟩; rw [← hY] at ap; have HYZ := Lib.hid hY; obtain ⟨k5, kz5, kl5⟩ := D3.out.tw.cell6 ap; have AP3 := Lib.hid ap; have HZT := Lib.hid hZ; obtain ⟨v4a, v4c, hv4⟩ := ap.row.len; subst hv4; clear ap hZ hY))
        all_goals
          go_wp2_with fail
          go_meet
          have SI3 := D3.out.tw.setL AP3.out
          exact ⟨_, _, _, _, HYZ.out, HZT.out, D3.out.step SI3.1 SI3.2, (TStep.same BD3.out).trans SI3.2⟩
      case rest =>
      obtain ⟨Z, Y, v4a, v4c, hyz, hzt, htb4, hst4⟩ := hcut
      have HYZ := Lib.hid hyz
      have HZT := Lib.hid hzt
      have TB4 := Lib.hid htb4
      have ST4 := Lib.hid hst4
      have HZL : Hid (Z.length ≤ 522) := text_len HZT.out (by have := HX.out.2.2.1; omega)
      have HZ : Hid (∀ zs : List Int, IsVal fv zs → Bts Z ∧ Z ≠ [] ∧ ∀ (q' : TQ) (need' : Nat) (pre post : List Int), Ext kept q q' → need ≤ need' → lineE q' need' (countN q0 : Int) (pre ++ ((Z ++ zs) ++ post)) pre.length = (⟨fn, fv⟩, pre.length + (Z ++ zs).length, 0)) := fun zs hzs => ⟨text_bts HZT.out ok32a ok32b (by decide) (by have := HX.out.2.2.1; omega), text_nonempty HZT.out, fun q' need' pre post _ _ => line_told q' need' (countN q0 : Int) fn fv Z zs HZT.out HX.out.2.2.1 hzs HX.out.2.2.2.1 pre post⟩
      clear hyz hzt htb4 hst4 c0 c6 a0 a1 a2 a3 a4 a5 a6 z6 y0 y1
      obtain ⟨w4, hw4⟩ : ∃ W, W = wc := ⟨_, rfl⟩
      rw [← hw4] at TB4 ST4 ⊢
      clear hw4
      have l4 : Y.length ≤ 2000000 := by have h1 := HT.out.sL; have h2 := HX.out.1; have h3 := HZL.out; rw [HYZ.out, List.length_append]; omega
      have HL4 := Lib.hid l4
      have D4 := Lib.hid (TB4.out.below (below_drewN (Below.refl _ _) 1))
      have c6 : w4.drew.cell? ⟨t, 6, none⟩ = some (.slice v4a Y.length v4c) := D4.out.tw.facts.2.2.2.2.2.2
      have c1 : w4.drew.cell? ⟨w.heap.size, 1, none⟩ = some (.string fv) := D4.out.box.get 1 _ rfl
      clear l4
      go_upto_region 11 with fail
      go_region_law (first
        | (go_simp; go_at_call 86; refine (HVAL.out _ _ _ _ _ _ _ D4.out HL4.out).mono ?_; rintro e w5 ⟨v5, zs, rfl, ap, hzs⟩; obtain ⟨Y5, hY5⟩ : ∃ Y5, Y5 = Y ++ zs := ⟨_, rfl⟩; rw [← hY5] at ap; have HY5 := Lib.hid hY5; obtain ⟨k5, kz5, kl5⟩ := D4.out.tw.cell6 ap; have AP := Lib.hid ap; have HZS := Lib.hid hzs; obtain ⟨v5a, v5c, hv5⟩ := ap.row.len; subst hv5; clear ap hzs hY5))
      all_goals
        go_wp2_with fail
        go_end0
        have SI := D4.out.tw.setL AP.out
        have hvz := text_len HZS.out HX.out.2.2.2.1
        have hib := HZ.out zs HZS.out
        refine ⟨rfl, need, kept, Y5, ?_, sl, vi, _, SI.1, (TStep.same B1.out).trans (ST4.out.trans ((TStep.same (below_drewN (Below.refl _ _) 1)).trans SI.2))⟩
        rw [HY5.out, HYZ.out, List.append_assoc]
        exact HT.out.put_line (hib.1.append (text_bts HZS.out ok7a ok7b (by decide) HX.out.2.2.2.1)) (fun h => hib.2.1 (List.append_eq_nil_iff.1 h).1) (by have := HZL.out; rw [List.length_append]; omega) HNK.out.1 (by have := HT.out.need_le; have := HNK.out; omega) HNK.out.2.1 HNK.out.2.2.2.1 (fun h => ⟨(HNK.out.2.2.2.2 h).1, by have := (HNK.out.2.2.2.2 h).2; first | exact this | rfl⟩) hib.2.2
  · clear hfd
    obtain ⟨n, g, hn, hn24, hfe, hgn⟩ := hfx'
    subst hn
    have d1 : decide ((n : Int) ≥ 0) = true := decide_eq_true (by omega)
    have d2 : decide ((0 : Int) ≤ (n : Int)) = true := decide_eq_true (by omega)
    have hok : OkP 80 4 (n : Int) := ⟨by decide, by decide, by omega, by omega⟩
    have HNK : Hid (need ≤ need ∧ kept ≤ kept ∧ (need = need ∨ need ≤ countN q) ∧ q.first ≤ kept ∧ (put = false → need = 0 ∧ kept = kept)) := ⟨Nat.le_refl _, Nat.le_refl _, .inl rfl, HT.out.keptF, fun h => ⟨(HT.out.plain h).2.2.2.1, rfl⟩⟩
    obtain ⟨Z, hZ⟩ : ∃ Z, Z = encP 80 4 (n : Int) := ⟨_, rfl⟩
    obtain ⟨Y, hY⟩ : ∃ Y, Y = lines ++ Z := ⟨_, rfl⟩
    have HYZ := Lib.hid hY
    have HZL : Hid (Z.length ≤ 522) := by
      show Z.length ≤ 522
      have := sizeN_le (w := 4) (n := (n : Int)) (by omega)
      rw [hZ, encP_len]; omega
    have HZ : Hid (∀ zs : List Int, IsVal fv zs → Bts Z ∧ Z ≠ [] ∧ ∀ (q' : TQ) (need' : Nat) (pre post : List Int), Ext kept q q' → need ≤ need' → lineE q' need' (countN q0 : Int) (pre ++ ((Z ++ zs) ++ post)) pre.length = (⟨fn, fv⟩, pre.length + (Z ++ zs).length, 0)) := fun zs hzs => ⟨by rw [hZ]; exact encP_bts hok, by rw [hZ]; exact encP_ne _ _ _, fun q' need' pre post _ _ => by
      have := line_namedF q' need' (countN q0 : Int) n (by omega) fv zs hzs HX.out.2.2.2.1 g hfe pre post
      rw [hgn] at this
      rw [hZ]; exact this⟩
    have HNUM : Hid (∀ V, Below w1.heap.size w1 V → Calls Tryz.prog 28 #[.slice vla lines.length vlc, .int .i64 80, .int .i64 4, .int .i64 (n : Int)] V fun e w' => ∃ v', e = .returned v' ∧ App (.slice vla lines.length vlc) Y V v' w') := fun V hV => by
      rw [hY, hZ]
      exact number_app _ lines 80 4 (n : Int) V (TB1.out.below hV).tw.rl (by have h1 := HT.out.sL; have h2 := HX.out.1; omega) hok
    clear hZ hY hok hfe hgn hn24
    go_enter Tryz.func54, Tryz.ntmps54
    go_upto_region 1 with fail
    rw [← HW1.out]
    go_upto_region 11 with (first
      | (go_at_call 52; refine HFF.out.mono ?_; rintro e w2 ⟨rfl, hb2⟩; have TB2 := Lib.hid (TB1.out.below hb2); have B2 := Lib.hid hb2; obtain ⟨a0, a1, a2, a3, a4, a5, a6⟩ := TB2.out.tw.facts; have z6 := TB2.out.tw.free 6; have y0 := TB2.out.box.get 0 _ rfl; have y1 := TB2.out.box.get 1 _ rfl; clear hb2)
      | (go_at_call 28; refine (HNUM.out _ B2.out).mono ?_; rintro e w3 ⟨v3, rfl, ap⟩; obtain ⟨k5, kz5, kl5⟩ := TB2.out.tw.cell6 ap; have AP3 := Lib.hid ap; obtain ⟨v4a, v4c, hv4⟩ := ap.row.len; subst hv4; clear ap))
    have SI3 := TB2.out.tw.setL AP3.out
    have TB4 := Lib.hid (TB2.out.step SI3.1 SI3.2)
    have ST4 := Lib.hid ((TStep.same B2.out).trans SI3.2)
    clear SI3 k5 kz5 kl5 a0 a1 a2 a3 a4 a5 a6 z6 y0 y1
    generalize w3.setCell ⟨t, 6, none⟩ (.slice v4a Y.length v4c) = w4 at TB4 ST4 ⊢
    have l4 : Y.length ≤ 2000000 := by have h1 := HT.out.sL; have h2 := HX.out.1; have h3 := HZL.out; rw [HYZ.out, List.length_append]; omega
    have HL4 := Lib.hid l4
    have D4 := Lib.hid (TB4.out.below (below_drewN (Below.refl _ _) 1))
    have c6 : w4.drew.cell? ⟨t, 6, none⟩ = some (.slice v4a Y.length v4c) := D4.out.tw.facts.2.2.2.2.2.2
    have c1 : w4.drew.cell? ⟨w.heap.size, 1, none⟩ = some (.string fv) := D4.out.box.get 1 _ rfl
    clear l4
    go_upto_region 11 with fail
    go_region_law (first
      | (go_simp; go_at_call 86; refine (HVAL.out _ _ _ _ _ _ _ D4.out HL4.out).mono ?_; rintro e w5 ⟨v5, zs, rfl, ap, hzs⟩; obtain ⟨Y5, hY5⟩ : ∃ Y5, Y5 = Y ++ zs := ⟨_, rfl⟩; rw [← hY5] at ap; have HY5 := Lib.hid hY5; obtain ⟨k5, kz5, kl5⟩ := D4.out.tw.cell6 ap; have AP := Lib.hid ap; have HZS := Lib.hid hzs; obtain ⟨v5a, v5c, hv5⟩ := ap.row.len; subst hv5; clear ap hzs hY5))
    all_goals
      go_wp2_with fail
      go_end0
      have SI := D4.out.tw.setL AP.out
      have hvz := text_len HZS.out HX.out.2.2.2.1
      have hib := HZ.out zs HZS.out
      refine ⟨rfl, need, kept, Y5, ?_, sl, vi, _, SI.1, (TStep.same B1.out).trans (ST4.out.trans ((TStep.same (below_drewN (Below.refl _ _) 1)).trans SI.2))⟩
      rw [HY5.out, HYZ.out, List.append_assoc]
      exact HT.out.put_line (hib.1.append (text_bts HZS.out ok7a ok7b (by decide) HX.out.2.2.2.1)) (fun h => hib.2.1 (List.append_eq_nil_iff.1 h).1) (by have := HZL.out; rw [List.length_append]; omega) HNK.out.1 (by have := HT.out.need_le; have := HNK.out; omega) HNK.out.2.1 HNK.out.2.2.2.1 (fun h => ⟨(HNK.out.2.2.2.2 h).1, by have := (HNK.out.2.2.2.2 h).2; first | exact this | rfl⟩) hib.2.2
end Go.Proofs.YtbkbabaoockigaaGreatDoor

set_option maxRecDepth 100000
set_option linter.unusedSimpArgs false
set_option linter.unusedVariables false
namespace Go.Proofs.YtbkbabaoockigaaGreatDoor
open Go.RowKit

theorem tell_results (tmps : Array Value) (W : World) : (results Tryz.f31 tmps).run Tryz.prog W = .ok (.tuple #[]) W := by
  have hr : Tryz.f31.results = #[] := rfl
  simp only [results, hr]
  go_simp
/-- what tell leaves -/
def TellIs (q0 : TQ) (t b : Nat) (put : Bool) (base : Nat) (sl vi vl : Value) (m : Nat) (l : List Fd) (w : World) (e : Ending) (w' : World) : Prop :=
  e = .returned (.tuple #[]) ∧ ∃ q' m' need' kept' ins' lines', Tel q0 put q' m' need' kept' ins' lines' l ∧ m' ≤ m + 1 ∧ TDid t b put base sl vi vl w need' kept' ins' lines' q' w'
set_option maxHeartbeats 12800000 in
theorem tell_any {q0 : TQ} {t b : Nat} {sl : Value} {put : Bool} {base need kept m : Nat} {vi vl : Value} {ins lines : List Int} {l : List Fd} {q : TQ} (f : Fd) (w : World) (h : Tw t b sl put base need kept vi vl ins lines q w) (T : Tel q0 put q m need kept ins lines l) (hm : m ≤ 63) (hl : l.length ≤ 63) (hbq : base = countN q0) (hc0 : countN q0 ≤ 1152921504606840000) (hfn : f.n.size ≤ 64) (hfv : f.v.size ≤ 512) (hF : Fix w) (hFb : 0 ∉ blks t b sl vi vl) :
    Calls Tryz.prog 31 #[.pointer (some ⟨t, 0, none⟩), .agg #[.string f.n, .string f.v]] w (TellIs q0 t b put base sl vi vl m (l ++ [f]) w) := by
  obtain ⟨fn, fv⟩ := f
  simp only at hfn hfv
  obtain ⟨vla, vlc, hvl⟩ := h.rl.len
  subst hvl
  obtain ⟨w1, hw1⟩ : ∃ W, W = w.alloc (.cells #[.string fn, .string fv] 74) := ⟨_, rfl⟩
  have hb1 : Below w.heap.size w w1 := by rw [hw1]; exact below1 w _
  have hr1 : Cs w1 w.heap.size [.string fn, .string fv] := by rw [hw1]; exact Cs.made w #[.string fn, .string fv] 74
  have TB1 : Hid (Tb q0 t b put base w.heap.size fn fv need kept ins lines q sl vi (.slice vla lines.length vlc) w1) := ⟨h.below hb1, hr1, h.out (Nat.le_refl _)⟩
  have B1 := Lib.hid hb1
  have hfp := hF.pos
  have HFX : Hid (∀ V, Below w1.heap.size w1 V → Fix V) := fun V hV => (hF.below hb1 hfp).below hV (Nat.lt_of_lt_of_le hfp hb1.size)
  have HFF := Lib.hid (findFixed_any ⟨fn, fv⟩ w1 (HFX.out _ (Below.refl _ _)))
  have HX : Hid (l.length ≤ 63 ∧ m ≤ 63 ∧ fn.size ≤ 64 ∧ fv.size ≤ 512 ∧ base = countN q0 ∧ countN q0 ≤ 1152921504606840000 ∧ 0 ∉ blks t b sl vi (.slice vla lines.length vlc)) := ⟨hl, hm, hfn, hfv, hbq, hc0, hFb⟩
  have HT := Lib.hid T
  have HW1 := Lib.hid hw1
  obtain ⟨⟨r1, r2⟩, hi⟩ : ∃ r, findFixedE ⟨fn, fv⟩ = r := ⟨_, rfl⟩
  have hfx := fixed_same ⟨fn, fv⟩
  rw [hi] at HFF hfx
  simp only at HFF hfx
  clear h T hm hl hfn hfv hF hFb hw1 hb1 hr1 hi hbq hc0 hfp
  have x0 := TB1.out.box.get 0 _ rfl
  have x1 := TB1.out.box.get 1 _ rfl
  rcases hfx with hfx' | ⟨n, hn, hn24, hfe⟩
  · subst hfx'
    have d1 : decide ((-1 : Int) ≥ 0) = false := rfl
    have HTV : Hid (∀ V sl2 vi2 vl2, Tb q0 t b put base w.heap.size fn fv need kept ins lines q sl2 vi2 vl2 V → Fix V → Calls Tryz.prog 54 #[.pointer (some ⟨t, 0, none⟩), .agg #[.string fn, .string fv]] V fun e w' => e = .returned (.tuple #[]) ∧ ∃ need' kept' lines', Tel q0 put q m need' kept' ins lines' (l ++ [⟨fn, fv⟩]) ∧ TDid t b put base sl2 vi2 vl2 V need' kept' ins lines' q w') := fun V sl2 vi2 vl2 hV hF => tellValue_any ⟨fn, fv⟩ V hV.tw HT.out (by have := HX.out.2.1; omega) HX.out.1 HX.out.2.2.2.2.1 HX.out.2.2.2.2.2.1 HX.out.2.2.1 HX.out.2.2.2.1 hF
    cases put with
    | false =>
      go_enter Tryz.func31, Tryz.ntmps31
      go_upto_region 1 with fail
      rw [← HW1.out]
      go_wp2_with (first
        | (go_at_call 52; refine HFF.out.mono ?_; rintro e w2 ⟨rfl, hb2⟩; have TB2 := Lib.hid (TB1.out.below hb2); have B2 := Lib.hid hb2; obtain ⟨a0, a1, a2, a3, a4, a5, a6⟩ := TB2.out.tw.facts; have y0 := TB2.out.box.get 0 _ rfl; have y1 := TB2.out.box.get 1 _ rfl; clear hb2)
        | (go_at_call 54; refine (HTV.out _ _ _ _ TB2.out (HFX.out _ B2.out)).mono ?_; rintro e w3 ⟨rfl, hq⟩; have HQ := Lib.hid hq; clear hq))
      go_end0
      obtain ⟨need', kept', lines', ht, hd⟩ := HQ.out
      exact ⟨rfl, q, m, need', kept', ins, lines', ht, Nat.le_succ _, TDid.after ((TStep.same B1.out).trans (TStep.same B2.out)) hd⟩
    | true =>
      have HTT : Hid (∀ V, Below w1.heap.size w1 V → Calls Tryz.prog 53 #[.pointer (some ⟨t, 0, none⟩), .agg #[.string fn, .string fv]] V fun e w' => ∃ r : Bool, e = .returned (.bool r) ∧ (r = false → TDid t b true base sl vi (.slice vla lines.length vlc) V need kept ins lines q w') ∧ (r = true → ∃ q' m' need' kept' ins' lines', Tel q0 true q' m' need' kept' ins' lines' (l ++ [⟨fn, fv⟩]) ∧ m' ≤ m + 1 ∧ TDid t b true base sl vi (.slice vla lines.length vlc) V need' kept' ins' lines' q' w')) := fun V hV => tellOfTable_any ⟨fn, fv⟩ V (TB1.out.below hV).tw HT.out HX.out.2.1 HX.out.1 HX.out.2.2.2.2.1 HX.out.2.2.2.2.2.1 HX.out.2.2.1 HX.out.2.2.2.1 (HFX.out V hV) HX.out.2.2.2.2.2.2
      go_enter Tryz.func31, Tryz.ntmps31
      go_upto_region 1 with fail
      rw [← HW1.out]
      go_upto_if 30 with (first
        | (go_at_call 52; refine HFF.out.mono ?_; rintro e w2 ⟨rfl, hb2⟩; have TB2 := Lib.hid (TB1.out.below hb2); have B2 := Lib.hid hb2; obtain ⟨a0, a1, a2, a3, a4, a5, a6⟩ := TB2.out.tw.facts; have y0 := TB2.out.box.get 0 _ rfl; have y1 := TB2.out.box.get 1 _ rfl; clear hb2)
        | (go_at_call 53; refine (HTT.out _ B2.out).mono ?_; rintro e w3 ⟨r, rfl, hf, ht⟩; have HF3 := Lib.hid hf; have HT3 := Lib.hid ht; clear hf ht))
      cases r with
      | false =>
        obtain ⟨sl3, vi3, vl3, htw, hst⟩ := HF3.out rfl
        have TB3 := Lib.hid (TB2.out.step htw hst)
        have ST3 := Lib.hid (((TStep.same B1.out).trans (TStep.same B2.out)).trans hst)
        have HF4 : Hid (Fix w3) := (HFX.out _ B2.out).keep hst.keep HX.out.2.2.2.2.2.2
        clear htw hst
        have z0 := TB3.out.box.get 0 _ rfl
        have z1 := TB3.out.box.get 1 _ rfl
        go_wp2_with (go_at_call 54; refine (HTV.out _ _ _ _ TB3.out HF4.out).mono ?_; rintro e w4 ⟨rfl, hq⟩; have HQ := Lib.hid hq; clear hq)
        go_end0
        obtain ⟨need', kept', lines', ht, hd⟩ := HQ.out
        exact ⟨rfl, q, m, need', kept', ins, lines', ht, Nat.le_succ _, TDid.after ST3.out hd⟩
      | true =>
        obtain ⟨q', m', need', kept', ins', lines', ht, hmm, hd⟩ := HT3.out rfl
        have HTE := Lib.hid ht
        have HMM := Lib.hid hmm
        have HD := Lib.hid hd
        clear ht hmm hd
        go_wp2_with fail
        exact bodyPost_ret (tell_results _ _) rfl ⟨rfl, q', m', need', kept', ins', lines', HTE.out, HMM.out, TDid.after ((TStep.same B1.out).trans (TStep.same B2.out)) HD.out⟩
  · subst hn
    have d1 : decide ((n : Int) ≥ 0) = true := decide_eq_true (by omega)
    have d2 : decide ((0 : Int) ≤ (n : Int)) = true := decide_eq_true (by omega)
    have hok : OkP 192 6 (n : Int) := ⟨by decide, by decide, by omega, by omega⟩
    obtain ⟨Z, hZ⟩ : ∃ Z, Z = encP 192 6 (n : Int) := ⟨_, rfl⟩
    obtain ⟨Y, hY⟩ : ∃ Y, Y = lines ++ Z := ⟨_, rfl⟩
    have HYZ := Lib.hid hY
    have HZ : Hid (Bts Z ∧ Z ≠ [] ∧ Z.length ≤ 1100 ∧ ∀ (q' : TQ) (need' : Nat) (pre post : List Int), Ext kept q q' → need ≤ need' → lineE q' need' (countN q0 : Int) (pre ++ (Z ++ post)) pre.length = (⟨fn, fv⟩, pre.length + Z.length, 0)) := by
      have hl10 := sizeN_le (w := 6) (n := (n : Int)) (by omega)
      refine ⟨by rw [hZ]; exact encP_bts hok, by rw [hZ]; exact encP_ne _ _ _, by rw [hZ, encP_len]; omega, fun q' need' pre post _ _ => ?_⟩
      rw [hZ]
      exact line_fixed q' need' _ n (by omega) ⟨fn, fv⟩ hfe pre post
    have HNUM : Hid (∀ V, Below w1.heap.size w1 V → Calls Tryz.prog 28 #[.slice vla lines.length vlc, .int .i64 192, .int .i64 6, .int .i64 (n : Int)] V fun e w' => ∃ v', e = .returned v' ∧ App (.slice vla lines.length vlc) Y V v' w') := fun V hV => by
      rw [hY, hZ]
      exact number_app _ lines 192 6 (n : Int) V (TB1.out.below hV).tw.rl (by have h1 := HT.out.sL; have h2 := HX.out.1; omega) hok
    clear hZ hY hok hfe hn24
    go_enter Tryz.func31, Tryz.ntmps31
    go_upto_region 1 with fail
    rw [← HW1.out]
    go_wp2_with (first
      | (go_at_call 52; refine HFF.out.mono ?_; rintro e w2 ⟨rfl, hb2⟩; have TB2 := Lib.hid (TB1.out.below hb2); have B2 := Lib.hid hb2; obtain ⟨a0, a1, a2, a3, a4, a5, a6⟩ := TB2.out.tw.facts; have y0 := TB2.out.box.get 0 _ rfl; have y1 := TB2.out.box.get 1 _ rfl; clear hb2)
      | (go_at_call 28; refine (HNUM.out _ B2.out).mono ?_; rintro e w3 ⟨v3, rfl, ap⟩; obtain ⟨k5, kz5, kl5⟩ := TB2.out.tw.cell6 ap; have AP3 := Lib.hid ap; obtain ⟨v4a, v4c, hv4⟩ := ap.row.len; subst hv4; clear ap))
    have SI3 := TB2.out.tw.setL AP3.out
    exact bodyPost_ret (tell_results _ _) rfl ⟨rfl, q, m, need, kept, ins, Y, by rw [HYZ.out]; exact HT.out.put_line HZ.out.1 HZ.out.2.1 HZ.out.2.2.1 (Nat.le_refl _) HT.out.need_le (Nat.le_refl _) HT.out.keptF (fun h => ⟨(HT.out.plain h).2.2.2.1, rfl⟩) HZ.out.2.2.2, Nat.le_succ _, _, _, _, SI3.1, ((TStep.same B1.out).trans (TStep.same B2.out)).trans SI3.2⟩

end Go.Proofs.YtbkbabaoockigaaGreatDoor

set_option maxRecDepth 100000
set_option linter.unusedSimpArgs false
set_option linter.unusedVariables false
namespace Go.Proofs.YtbkbabaoockigaaGreatDoor
open Go.RowKit

theorem App.new {ys : List Int} {w w' : World} {v' : Value} (h : App (.slice none 0 0) ys w v' w') : Own .u8 5 w' w.heap.size v' ys ∧ Below w.heap.size w w' := by
  have ho : ∀ j, v'.ownBlock = some j → w.heap.size ≤ j := fun j hj => by
    rcases h.own j hj with e | e
    · cases e
    · exact e
  refine ⟨⟨h.row.1, ?_⟩, h.keep.to_below (fun i hi => by cases hi) (Nat.le_refl _)⟩
  rcases h.row.2 with e | ⟨g, cap, cur, e1, _, e3⟩
  · exact .inl e
  · exact .inr ⟨g, cap, cur, e1, ho g (by rw [e1]; rfl), e3⟩
theorem App.made {ys : List Int} {w w' : World} {v' : Value} (h : Own .u8 5 w' w.heap.size v' ys) (hb : Below w.heap.size w w') : App (.slice none 0 0) ys w v' w' :=
  ⟨h.mono (Nat.zero_le _), Keep.of_below hb, fun j hj => .inr (h.blk j hj)⟩
theorem wpList_append_new {P : Program} {w0 : World} (w : World) {ops : Array Oper} {rest : List Oper} {o : Oper} {a : Act} {Q : Exit → Act → World → Prop} (hgd : o.guard = none) (s x : Operand) (t : TypeId)
    (ho : o.op = .call { callee := .builtin .append, args := #[s, x], argTypes := #[t, t] }) (hE : Elem P 5 .u8 1) (ht : P.underlying t = some (.slice 5))
    (v : Value) (xs : List Int) (hs : a.eval s = v) (hown : App (.slice none 0 0) xs w0 v w) (u : Value) (ys : List Int) (hx : a.eval x = u) (hr : Rd .u8 w u ys)
    (hby : xs.length + ys.length ≤ 140737488355328)
    (h : ∀ v' w', App (.slice none 0 0) (xs ++ ys) w0 v' w' → wpList P ops Q rest (a.put o.dst v') w') : wpList P ops Q (o :: rest) a w := by
  obtain ⟨h1, h2⟩ := hown.new
  refine wpList_append_rd w hgd s x t ho hE ht w0.heap.size v xs hs h1 u ys hx hr (by omega) (by unfold maxLen; omega) h2.size fun v' w' q1 q2 => h v' w' (App.made q1 ?_)
  have k : Keep (v.ownBlock.toList) w w' := Keep.of_grown q2 (fun j hj => .inl (by simp [hj]))
  exact (h2.trans (k.to_below (B := w0.heap.size) (fun i hi => h1.blk i (by cases hv : v.ownBlock <;> simp [hv] at hi ⊢; exact hi.symm)) h2.size))

set_option maxHeartbeats 6400000 in
theorem section_any {q0 : TQ} {t b : Nat} {sl : Value} {put : Bool} {base need kept m : Nat} {vi vl : Value} {ins lines : List Int} {l : List Fd} {q : TQ} (w : World) (h : Tw t b sl put base need kept vi vl ins lines q w) (T : Tel q0 put q m need kept ins lines l) (hl : l.length ≤ 64) (hbq : base = countN q0) (hc : countN q ≤ 1152921504606846976) :
    Calls Tryz.prog 32 #[.pointer (some ⟨t, 0, none⟩)] w fun e w' => ∃ v, e = .returned v ∧ App (.slice none 0 0) (secN q0 need lines) w v w' := by
  have hcnt := T.cnt
  have hnd := T.need_le
  have hok8 : OkP 0 8 (need : Int) := ⟨by decide, by decide, by omega, by omega⟩
  have HTW : Hid (∀ V, Below w.heap.size w V → Tw t b sl put base need kept vi vl ins lines q V) := fun V hV => h.below hV
  have hlt := h.lt
  obtain ⟨Z, hZ⟩ : ∃ Z, Z = encP 0 8 (need : Int) := ⟨_, rfl⟩
  have hZl : Z.length ≤ 10 := by
    have := sizeN_le (w := 8) (n := (need : Int)) (by omega)
    rw [hZ, encP_len]; omega
  have H1 : Hid (Calls Tryz.prog 28 #[.slice none 0 0, .int .i64 0, .int .i64 8, .int .i64 (need : Int)] w fun e w' => ∃ v', e = .returned v' ∧ App (.slice none 0 0) Z w v' w') := by
    have := number_app (.slice none 0 0) [] 0 8 (need : Int) w (Own.nil _ _ _ _) (by simp) hok8
    rw [List.nil_append, ← hZ] at this
    exact this
  obtain ⟨c0, c1, c2, c3, c4, c5, c6⟩ := h.facts
  have hlL : lines.length ≤ 1100 * 64 := by have := T.sL; omega
  obtain ⟨vla, vlc, hvl⟩ := h.rl.len
  subst hvl
  have HRL : Hid (∀ V, Below w.heap.size w V → Rd .u8 V (.slice vla lines.length vlc) lines) := fun V hV => (h.below hV).rl.rd
  obtain ⟨D, hD⟩ : ∃ D, D = (if need ≤ countN q0 then encP 0 7 ((countN q0 : Int) - need) else encP 128 7 ((need : Int) - countN q0 - 1)) := ⟨_, rfl⟩
  obtain ⟨Y, hY⟩ : ∃ Y, Y = Z ++ D := ⟨_, rfl⟩
  have HS : Hid (secN q0 need lines = Y ++ lines) := by
    show secN q0 need lines = Y ++ lines
    unfold secN
    rw [hY, ← hD, hZ, List.append_assoc]
  have hDl : D.length ≤ 10 := by
    rw [hD]
    split
    · have := sizeN_le (w := 7) (n := ((countN q0 : Int) - need)) (by omega)
      rw [encP_len]; omega
    · have := sizeN_le (w := 7) (n := ((need : Int) - countN q0 - 1)) (by omega)
      rw [encP_len]; omega
  have HYL : Hid (Y.length ≤ 20 ∧ lines.length ≤ 1100 * 64) := ⟨by rw [hY, List.length_append]; omega, hlL⟩
  have hbz : countN q0 ≤ 1152921504606846976 := by omega
  by_cases hle : need ≤ base
  · have e1 : decide ((base : Int) ≥ (need : Int)) = true := decide_eq_true (by omega)
    have e4 : decide (need ≤ base) = true := decide_eq_true hle
    have e5 : decide ((need : Int) ≤ (base : Int)) = true := decide_eq_true (by omega)
    have e2 : IntKind.i64.wrap ((base : Int) - (need : Int)) = (base : Int) - (need : Int) := wraps_i64' _ (by omega) (by omega)
    rw [if_pos (by omega)] at hD
    have hok7 : OkP 0 7 ((base : Int) - (need : Int)) := ⟨by decide, by decide, by omega, by omega⟩
    rw [← hbq] at hD
    have H2 : Hid (∀ V v, App (.slice none 0 0) Z w v V → Calls Tryz.prog 28 #[v, .int .i64 0, .int .i64 7, .int .i64 ((base : Int) - (need : Int))] V fun e w' => ∃ v', e = .returned v' ∧ App (.slice none 0 0) Y w v' w') := fun V v hV => by
      refine (number_app v Z 0 7 _ V hV.row (by omega) hok7).mono ?_
      rintro e w' ⟨v', rfl, ap⟩
      rw [hY, hD]
      exact ⟨v', rfl, hV.trans ap⟩
    clear hok7 hok8 hD hY hZ hDl hZl hle hlL hcnt hnd hlt hbz hbq
    go_enter Tryz.func32, Tryz.ntmps32
    go_wp2_with (go_at_call 28; refine H1.out.mono ?_; rintro e w1 ⟨v1, rfl, ap⟩; obtain ⟨d0, d1, d2, d3, d4, d5, d6⟩ := (HTW.out _ ap.new.2).facts; obtain ⟨g0, g1, g2, g3, g4, g5, g6⟩ := ((HTW.out _ ap.new.2).drewN 1).facts; have AP1 := Lib.hid ap; clear ap)
    go_quiet (fail)
    obtain ⟨wA, hwA⟩ : ∃ W, W = w1.drewN nq := ⟨_, rfl⟩
    have APA : Hid (App (.slice none 0 0) Z w v1 wA) := by rw [hwA]; exact AP1.out.then (below_drewN (Below.refl _ _) nq)
    rw [← hwA]
    clear hwA d0 d1 d2 d3 d4 d5 d6 g0 g1 g2 g3 g4 g5 g6 AP1 c0 c1 c2 c3 c4 c5 c6
    obtain ⟨d0, d1, d2, d3, d4, d5, d6⟩ := (HTW.out _ APA.out.new.2).facts
    obtain ⟨g0, g1, g2, g3, g4, g5, g6⟩ := ((HTW.out _ APA.out.new.2).drewN 1).facts
    go_upto_region 4 with fail
    have D5 := Lib.hid (APA.out.then (below_drewN (Below.refl _ _) 1))
    have HD5 := Lib.hid ((HTW.out _ APA.out.new.2).drewN 1)
    have d2' : wA.drew.cell? ⟨t, 2, none⟩ = some (.int .i64 (base : Int)) := HD5.out.facts.2.2.1
    have d3' : wA.drew.cell? ⟨t, 3, none⟩ = some (.int .i64 (need : Int)) := HD5.out.facts.2.2.2.1
    go_region_law (first
      | (go_simp; go_at_call 28; refine (H2.out _ _ D5.out).mono ?_; rintro e w2 ⟨v2, rfl, ap⟩; have AP2 := Lib.hid ap; obtain ⟨f0, f1, f2, f3, f4, f5, f6⟩ := (HTW.out _ ap.new.2).facts; clear ap))
    all_goals
      go_wp2_with (at_builtin; (refine wpList_append_new _ rfl (.tmp 41) (.tmp 45) 38 rfl elemU8 Tryz.underlying38 _ Y rfl AP2.out (.slice vla lines.length vlc) lines rfl (HRL.out _ AP2.out.new.2) ?_ ?_; (have := HYL.out; omega); intro v3 w3 ap; have AP3 := Lib.hid ap; clear ap))
      go_ret
      exact ⟨_, rfl, by rw [HS.out]; exact AP3.out⟩
  · have e1 : decide ((base : Int) ≥ (need : Int)) = false := decide_eq_false (by omega)
    have e4 : decide (need ≤ base) = false := decide_eq_false hle
    have e5 : decide ((need : Int) ≤ (base : Int)) = false := decide_eq_false (by omega)
    have e2 : IntKind.i64.wrap ((need : Int) - (base : Int)) = (need : Int) - (base : Int) := wraps_i64' _ (by omega) (by omega)
    have e3 : IntKind.i64.wrap ((need : Int) - (base : Int) - 1) = (need : Int) - (base : Int) - 1 := wraps_i64' _ (by omega) (by omega)
    rw [if_neg (by omega)] at hD
    have hok7 : OkP 128 7 ((need : Int) - (base : Int) - 1) := ⟨by decide, by decide, by omega, by omega⟩
    rw [← hbq] at hD
    have H2 : Hid (∀ V v, App (.slice none 0 0) Z w v V → Calls Tryz.prog 28 #[v, .int .i64 128, .int .i64 7, .int .i64 ((need : Int) - (base : Int) - 1)] V fun e w' => ∃ v', e = .returned v' ∧ App (.slice none 0 0) Y w v' w') := fun V v hV => by
      refine (number_app v Z 128 7 _ V hV.row (by omega) hok7).mono ?_
      rintro e w' ⟨v', rfl, ap⟩
      rw [hY, hD]
      exact ⟨v', rfl, hV.trans ap⟩
    clear hok7 hok8 hD hY hZ hDl hZl hle hlL hcnt hnd hlt hbz hbq
    go_enter Tryz.func32, Tryz.ntmps32
    go_wp2_with (go_at_call 28; refine H1.out.mono ?_; rintro e w1 ⟨v1, rfl, ap⟩; obtain ⟨d0, d1, d2, d3, d4, d5, d6⟩ := (HTW.out _ ap.new.2).facts; obtain ⟨g0, g1, g2, g3, g4, g5, g6⟩ := ((HTW.out _ ap.new.2).drewN 1).facts; have AP1 := Lib.hid ap; clear ap)
    go_quiet (fail)
    obtain ⟨wA, hwA⟩ : ∃ W, W = w1.drewN nq := ⟨_, rfl⟩
    have APA : Hid (App (.slice none 0 0) Z w v1 wA) := by rw [hwA]; exact AP1.out.then (below_drewN (Below.refl _ _) nq)
    rw [← hwA]
    clear hwA d0 d1 d2 d3 d4 d5 d6 g0 g1 g2 g3 g4 g5 g6 AP1 c0 c1 c2 c3 c4 c5 c6
    obtain ⟨d0, d1, d2, d3, d4, d5, d6⟩ := (HTW.out _ APA.out.new.2).facts
    obtain ⟨g0, g1, g2, g3, g4, g5, g6⟩ := ((HTW.out _ APA.out.new.2).drewN 1).facts
    go_upto_region 4 with fail
    have D5 := Lib.hid (APA.out.then (below_drewN (Below.refl _ _) 1))
    have HD5 := Lib.hid ((HTW.out _ APA.out.new.2).drewN 1)
    have d2' : wA.drew.cell? ⟨t, 2, none⟩ = some (.int .i64 (base : Int)) := HD5.out.facts.2.2.1
    have d3' : wA.drew.cell? ⟨t, 3, none⟩ = some (.int .i64 (need : Int)) := HD5.out.facts.2.2.2.1
    go_region_law (first
      | (go_simp; go_at_call 28; refine (H2.out _ _ D5.out).mono ?_; rintro e w2 ⟨v2, rfl, ap⟩; have AP2 := Lib.hid ap; obtain ⟨f0, f1, f2, f3, f4, f5, f6⟩ := (HTW.out _ ap.new.2).facts; clear ap))
    all_goals
      go_wp2_with (at_builtin; (refine wpList_append_new _ rfl (.tmp 41) (.tmp 45) 38 rfl elemU8 Tryz.underlying38 _ Y rfl AP2.out (.slice vla lines.length vlc) lines rfl (HRL.out _ AP2.out.new.2) ?_ ?_; (have := HYL.out; omega); intro v3 w3 ap; have AP3 := Lib.hid ap; clear ap))
      go_ret
      exact ⟨_, rfl, by rw [HS.out]; exact AP3.out⟩
end Go.Proofs.YtbkbabaoockigaaGreatDoor

set_option maxRecDepth 100000
set_option linter.unusedSimpArgs false
set_option linter.unusedVariables false
namespace Go.Proofs.YtbkbabaoockigaaGreatDoor
open Go.RowKit

theorem egiven_any {d b : Nat} {sl : Value} {q : TQ} (w : World) (h : Dcd d b sl q w) : Calls Tryz.prog 26 #[.pointer (some ⟨d, 0, none⟩)] w fun e w' => e = .returned (.bool true) ∧ w' = w := by
  have c0 := h.cell
  clear h
  go_enter Tryz.func26, Tryz.ntmps26
  go_wp2
  go_ret
  exact ⟨rfl, rfl⟩
theorem newTeller_any {b : Nat} {sl : Value} {q : TQ} (put : Bool) (w : World) (h : Tbl b sl q w) (hq : countN q ≤ 4611686018427387904) :
    Calls Tryz.prog 30 #[.pointer (some ⟨b, 0, none⟩), .bool put] w fun e w' => ∃ t, e = .returned (.pointer (some ⟨t, 0, none⟩)) ∧ w.heap.size ≤ t ∧ Below w.heap.size w w' ∧ Tw t b sl put (countN q) 0 4611686018427387903 (.slice none 0 0) (.slice none 0 0) [] [] q w' := by
  have HC := Lib.hid (count_any w h hq)
  have HT : Hid (∀ n, Tbl b sl q (w.drewN n)) := fun n => h.below (below_drewN (Below.refl _ _) n)
  have HLT : Hid (b < w.heap.size ∧ ∀ j, sl.ownBlock = some j → j < w.heap.size) := ⟨h.lt, fun j hj => h.slt j hj⟩
  clear h
  go_enter Tryz.func30, Tryz.ntmps30
  go_wp2_with (go_at_call 42; refine HC.out.mono ?_; rintro e w2 ⟨rfl, nn, hw2⟩; have HW2 := Lib.hid hw2; clear hw2)
  go_ret
  have hb2 : Below w.heap.size w w2 := by rw [HW2.out]; exact below_drewN (Below.refl _ _) nn
  have ht2 : Tbl b sl q w2 := by rw [HW2.out]; exact HT.out nn
  have hz : w2.heap.size = w.heap.size := by rw [HW2.out]; rfl
  refine ⟨w2.heap.size, rfl, by omega, hb2.trans ((below1 w2 _).mono hb2.size), ?_⟩
  have hlt := HLT.out
  exact ⟨Cs.made w2 _ _, ht2.below (below1 w2 _), Own.nil _ _ _ _, Own.nil _ _ _ _, by omega, fun j hj => by have := hlt.2 j hj; omega, (fun j hj => by cases hj), (fun j hj => by cases hj)⟩

/-- what a field may measure -/
def bigF (f : Fd) : Bool := decide (64 < f.n.size) || decide (512 < f.v.size)
/-- what encode answers -/
def encErr (l : List Fd) : Int := if 64 < l.length then 6 else if l.any bigF then 13 else 0
def EncIs14 (q0 : TQ) (e b : Nat) (sl : Value) (put : Bool) (l : List Fd) (w : World) (x : Ending) (w' : World) : Prop :=
  (encErr l ≠ 0 → x = .returned (.tuple #[.slice none 0 0, .slice none 0 0, .int .i64 (encErr l)]) ∧ Below w.heap.size w w') ∧
  (encErr l = 0 → ∃ q' m need kept ins lines vi vs, Tel q0 put q' m need kept ins lines l ∧ m ≤ l.length ∧ x = .returned (.tuple #[vi, vs, .int .i64 0]) ∧
    Own .u8 5 w' w.heap.size vi ins ∧ Own .u8 5 w' w.heap.size vs (secN q0 need lines) ∧ DidD e b sl q' w w')
set_option maxHeartbeats 12800000 in
theorem encode_big {q0 : TQ} {d b : Nat} {sl : Value} (put : Bool) {v : Value} {l : List Fd} (w : World) (h : Dcd d b sl q0 w) (hr : RdC 2 w v l.length (fdC l)) (hl : 64 < l.length) :
    Calls Tryz.prog 15 #[.pointer (some ⟨d, 0, none⟩), v, .bool put] w fun e w' => e = .returned (.tuple #[.slice none 0 0, .slice none 0 0, .int .i64 6]) ∧ Below w.heap.size w w' := by
  have HG := Lib.hid (egiven_any w h)
  obtain ⟨a, c, rfl, hlc, hcm⟩ := hr.isSlice
  have e1 : decide ((l.length : Int) > 64) = true := decide_eq_true (by omega)
  have e2 : decide (64 < l.length) = true := decide_eq_true hl
  have e3 : decide ((64 : Int) < (l.length : Int)) = true := decide_eq_true (by omega)
  clear h hr hl hlc hcm
  go_enter Tryz.func15, Tryz.ntmps15
  go_wp2_with (go_at_call 26; refine HG.out.mono ?_; rintro e w2 ⟨rfl, hh⟩; obtain rfl := hh.symm)
  go_ret3
  exact ⟨rfl, Below.refl _ _⟩
set_option maxHeartbeats 12800000 in
theorem encode_any {q0 : TQ} {d b : Nat} {sl : Value} (put : Bool) {v : Value} {l : List Fd} (w : World) (h : Dcd d b sl q0 w) (hr : RdC 2 w v l.length (fdC l)) (hv : l ≠ [] → ∀ j, v.ownBlock = some j → j ∉ TS b sl) (hF : Fix w) (hFb : 0 ∉ TS b sl) (hc : countN q0 ≤ 1152921504606840000) :
    Calls Tryz.prog 15 #[.pointer (some ⟨d, 0, none⟩), v, .bool put] w (EncIs14 q0 d b sl put l w) := by
  by_cases h64 : 64 < l.length
  · have he : encErr l = 6 := if_pos h64
    refine (encode_big put w h hr h64).mono ?_
    rintro e w' ⟨rfl, hb⟩
    exact ⟨fun _ => ⟨by rw [he], hb⟩, fun h0 => by rw [he] at h0; cases h0⟩
  have HG := Lib.hid (egiven_any w h)
  obtain ⟨va, vc, rfl, hlc, hcm⟩ := hr.isSlice
  have e1 : decide ((l.length : Int) > 64) = false := decide_eq_false (by omega)
  have e2 : decide (64 < l.length) = false := decide_eq_false h64
  have e3 : decide ((64 : Int) < (l.length : Int)) = false := decide_eq_false (by omega)
  have HD := Lib.hid h
  have HR := Lib.hid hr
  have HX : Hid (l.length ≤ 64 ∧ countN q0 ≤ 1152921504606840000) := ⟨by omega, hc⟩
  have HE : Hid (encErr l = if l.any bigF then 13 else 0) := if_neg h64
  have HF := Lib.hid hF
  have HV : Hid ((l ≠ [] → ∀ j, (Value.slice va l.length vc).ownBlock = some j → j ∉ TS b sl) ∧ 0 ∉ TS b sl) := ⟨hv, hFb⟩
  clear h hr h64 hlc hcm hc hF hv hFb
  go_enter Tryz.func15, Tryz.ntmps15
  go_wp2_with (go_at_call 26; refine HG.out.mono ?_; rintro e w2 ⟨rfl, hh⟩; obtain rfl := hh.symm)
  go_loopw [22] (fun i wr => ∃ k : Nat, i = .int .i64 (k : Int) ∧ k ≤ l.length ∧ (∀ x ∈ l.take k, bigF x = false) ∧ Below w.heap.size w wr) (fun i _ => l.length - (intOf i).toNat)
  case atStart => exact ⟨0, rfl, Nat.zero_le _, by simp, Below.refl _ _⟩
  case round =>
    obtain ⟨k, rfl, hk, hno, hbel⟩ := hrel
    have HB := Lib.hid hbel
    have HNO := Lib.hid hno
    clear hno
    by_cases hkl : k < l.length
    · obtain ⟨g, o, c', hs2, hgc, hgm, hg⟩ := rd_form (HR.out.below hbel) (by omega)
      simp only [Value.slice.injEq, true_and] at hs2
      obtain ⟨rfl, rfl⟩ := hs2
      obtain ⟨c0, c1⟩ := fd_at (HR.out.below hbel) k hkl _ rfl
      obtain ⟨⟨fn, fv⟩, hfd⟩ : ∃ fd, fd = l[k] := ⟨_, rfl⟩
      rw [← hfd] at c0 c1
      simp only at c0 c1
      have hi1 : (k : Int) < (l.length : Int) := by omega
      have hi2 : (0 : Int) ≤ (k : Int) := by omega
      have hw1 : IntKind.i64.wrap ((k : Int) + 1) = ((k + 1 : Nat) : Int) := by rw [wraps_i64' _ (by omega) (by have := HX.out; omega)]; omega
      have HFD : Hid ((⟨fn, fv⟩ : Fd) ∈ l ∧ l.take (k + 1) = l.take k ++ [⟨fn, fv⟩]) := ⟨by rw [hfd]; exact List.getElem_mem hkl, by rw [hfd]; exact List.take_succ_eq_append_getElem hkl⟩
      have HKL := Lib.hid hkl
      have B2 := Lib.hid (hbel.alloc hbel.size (.cells #[.string fn, .string fv] 74))
      clear hfd hbel hk hg hgc hgm
      by_cases h1 : 64 < fn.size
      · have d1 : decide ((fn.size : Int) > 64) = true := decide_eq_true (by omega)
        have d2 : decide (64 < fn.size) = true := decide_eq_true h1
        have d3 : decide ((64 : Int) < (fn.size : Int)) = true := decide_eq_true (by omega)
        have HBIG : Hid (encErr l = 13) := by
          show encErr l = 13
          rw [HE.out, if_pos]
          exact List.any_eq_true.2 ⟨_, HFD.out.1, by simp [bigF, d2]⟩
        clear h1
        go_wp2_with fail
        go_ret3
        exact ⟨fun _ => ⟨by rw [HBIG.out]; first | done | rfl, B2.out⟩, fun h0 => by rw [HBIG.out] at h0; cases h0⟩
      · have d1 : decide ((fn.size : Int) > 64) = false := decide_eq_false (by omega)
        have d2 : decide (64 < fn.size) = false := decide_eq_false h1
        have d3 : decide ((64 : Int) < (fn.size : Int)) = false := decide_eq_false (by omega)
        by_cases h2 : 512 < fv.size
        · have f1 : decide ((fv.size : Int) > 512) = true := decide_eq_true (by omega)
          have f2 : decide (512 < fv.size) = true := decide_eq_true h2
          have f3 : decide ((512 : Int) < (fv.size : Int)) = true := decide_eq_true (by omega)
          have HBIG : Hid (encErr l = 13) := by
            show encErr l = 13
            rw [HE.out, if_pos]
            exact List.any_eq_true.2 ⟨_, HFD.out.1, by simp [bigF, f2]⟩
          clear h1 h2
          go_wp2_with fail
          go_ret3
          exact ⟨fun _ => ⟨by rw [HBIG.out]; first | done | rfl, B2.out⟩, fun h0 => by rw [HBIG.out] at h0; cases h0⟩
        · have f1 : decide ((fv.size : Int) > 512) = false := decide_eq_false (by omega)
          have f2 : decide (512 < fv.size) = false := decide_eq_false h2
          have f3 : decide ((512 : Int) < (fv.size : Int)) = false := decide_eq_false (by omega)
          have HSM : Hid (bigF ⟨fn, fv⟩ = false) := (by simp [bigF, d2, f2] : bigF ⟨fn, fv⟩ = false)
          clear h1 h2
          go_wp2_with fail
          refine ⟨⟨k + 1, by simp, HKL.out, fun x hx => ?_, B2.out⟩, by simp [intOf]; have := HKL.out; omega⟩
          rw [HFD.out.2, List.mem_append] at hx
          rcases hx with hx | hx
          · exact HNO.out x hx
          · rw [List.mem_singleton.1 hx]; exact HSM.out
    · obtain rfl : k = l.length := by omega
      rw [List.take_length] at HNO
      have hi1 : ¬ ((l.length : Int) < (l.length : Int)) := by omega
      have HN0 : Hid (encErr l = 0) := by
        show encErr l = 0
        rw [HE.out, if_neg]
        intro hany
        obtain ⟨x, hx, hx2⟩ := List.any_eq_true.1 hany
        rw [HNO.out x hx] at hx2; cases hx2
      have HD1 := Lib.hid (HD.out.below hbel)
      have c0 := HD1.out.cell
      have HNT := Lib.hid (newTeller_any put wr HD1.out.tbl (by have := HX.out; omega))
      clear hbel hk
      have HPRE : Hid (Below w.heap.size w wr) := HB.out
      clear HB
      go_wp2_with (go_at_call 30; refine HNT.out.mono ?_; rintro e wt ⟨t, rfl, htz, hbt, hTw⟩; have HTZ : Hid (w.heap.size ≤ t) := Nat.le_trans HPRE.out.size htz; have HBT := Lib.hid (HPRE.out.trans (hbt.mono HPRE.out.size)); have HTW := Lib.hid hTw; clear htz hbt hTw)
      clear HNT c0
      have HDT := Lib.hid (HD.out.below HBT.out)
      have HTE0 : Hid (Tel q0 put q0 0 0 4611686018427387903 [] [] (l.take 0)) := Tel.start HD.out.ok put (by have := HX.out; omega)
      have HD0 : Hid (TDid t b put (countN q0) sl (.slice none 0 0) (.slice none 0 0) wt 0 4611686018427387903 [] [] q0 wt) := ⟨_, _, _, HTW.out, TStep.same (Below.refl _ _)⟩
      have HOUT : Hid (∀ i, i < w.heap.size → i ∉ TS b sl → i ∉ blks t b sl (.slice none 0 0) (.slice none 0 0)) := fun i hi hn hm => by
        rcases mem_blks.1 hm with e | e | e | e | e
        · have := HTZ.out; omega
        · exact hn (mem_TS.2 (.inl e))
        · exact hn (mem_TS.2 (.inr e))
        · cases e
        · cases e
      have HFT := Lib.hid (HF.out.below HBT.out HF.out.pos)
      have HRT := Lib.hid (HR.out.below HBT.out)
      go_loopw [45] (fun i wx => ∃ (k : Nat) (need kept : Nat) (ins lines : List Int) (q : TQ) (m : Nat), i = .int .i64 (k : Int) ∧ k ≤ l.length ∧ Tel q0 put q m need kept ins lines (l.take k) ∧ m ≤ k ∧ TDid t b put (countN q0) sl (.slice none 0 0) (.slice none 0 0) wt need kept ins lines q wx) (fun i _ => l.length - (intOf i).toNat)
      case atStart => exact ⟨0, _, _, _, _, _, _, rfl, Nat.zero_le _, HTE0.out, Nat.le_refl _, HD0.out⟩
      case round =>
        obtain ⟨k, need, kept, ins, lines, q, m, rfl, hk, hte, hmk, sl1, vi1, vl1, htw, hst⟩ := hrel
        have HTEL := Lib.hid hte
        have HTW1 := Lib.hid htw
        have HST := Lib.hid hst
        have hkeep := hst.keep
        clear HTE0 HD0 HTW
        by_cases hkl : k < l.length
        · have hlne : l ≠ [] := fun e => by rw [e] at hkl; simp at hkl
          have HRX : Hid (RdC 2 wr (.slice va l.length vc) l.length (fdC l)) := rdC_keep HRT.out hkeep (fun h0 j hj => HOUT.out j (HR.out.blt h0 j hj) (HV.out.1 hlne j hj))
          obtain ⟨g, o, c', hs2, hgc, hgm, hg⟩ := rd_form HRX.out (by omega)
          simp only [Value.slice.injEq, true_and] at hs2
          obtain ⟨rfl, rfl⟩ := hs2
          obtain ⟨c0, c1⟩ := fd_at HRX.out k hkl _ rfl
          obtain ⟨⟨fn, fv⟩, hfd⟩ : ∃ fd, fd = l[k] := ⟨_, rfl⟩
          rw [← hfd] at c0 c1
          simp only at c0 c1
          have hi1 : (k : Int) < (l.length : Int) := by omega
          have hi2 : (0 : Int) ≤ (k : Int) := by omega
          have hw1 : IntKind.i64.wrap ((k : Int) + 1) = ((k + 1 : Nat) : Int) := by rw [wraps_i64' _ (by omega) (by have := HX.out; omega)]; omega
          have HFD : Hid ((⟨fn, fv⟩ : Fd) ∈ l ∧ l.take (k + 1) = l.take k ++ [⟨fn, fv⟩]) := ⟨by rw [hfd]; exact List.getElem_mem hkl, by rw [hfd]; exact List.take_succ_eq_append_getElem hkl⟩
          have HSZ : Hid (fn.size ≤ 64 ∧ fv.size ≤ 512) := by
            have h1 := HNO.out _ HFD.out.1
            simp only [bigF, Bool.or_eq_false_iff, decide_eq_false_iff_not] at h1
            exact ⟨by omega, by omega⟩
          have hfb : 0 ∉ blks t b sl1 vi1 vl1 := fun hm => by
            have hp := HF.out.pos
            have hz := HBT.out.size
            have hn := HOUT.out _ hp HV.out.2
            rcases mem_blks.1 hm with e | e | e | e | e
            · exact hn (mem_blks.2 (.inl e))
            · exact hn (mem_blks.2 (.inr (.inl e)))
            · rcases hst.os _ e with e1 | e1
              · exact hn (mem_blks.2 (.inr (.inr (.inl e1))))
              · omega
            · rcases hst.oi _ e with e1 | e1
              · cases e1
              · omega
            · rcases hst.ol _ e with e1 | e1
              · cases e1
              · omega
          have hfx : Fix wr := HFT.out.keep hkeep (HOUT.out _ HF.out.pos HV.out.2)
          obtain ⟨w2, hw2⟩ : ∃ W, W = wr.alloc (.cells #[.string fn, .string fv] 74) := ⟨_, rfl⟩
          have hb2 : Below wr.heap.size wr w2 := by rw [hw2]; exact below1 wr _
          have hlt2 : (l.take k).length ≤ 63 := by rw [List.length_take]; have := HX.out; omega
          have HTELL : Hid (Calls Tryz.prog 31 #[.pointer (some ⟨t, 0, none⟩), .agg #[.string fn, .string fv]] w2 (TellIs q0 t b put (countN q0) sl1 vi1 vl1 m (l.take k ++ [⟨fn, fv⟩]) w2)) :=
            tell_any ⟨fn, fv⟩ w2 (htw.below hb2) hte (by have := HX.out; omega) hlt2 rfl HX.out.2 HSZ.out.1 HSZ.out.2 (hfx.below hb2 hfx.pos) hfb
          have HS2 := Lib.hid (hst.trans (TStep.same hb2))
          have HKM : Hid (k < l.length ∧ m ≤ k) := ⟨hkl, hmk⟩
          have k0 : w2.cell? ⟨wr.heap.size, 0, none⟩ = some (.string fn) := by rw [hw2]; exact (Cs.made wr #[.string fn, .string fv] 74).get 0 _ rfl
          have k1 : w2.cell? ⟨wr.heap.size, 1, none⟩ = some (.string fv) := by rw [hw2]; exact (Cs.made wr #[.string fn, .string fv] 74).get 1 _ rfl
          have HW2 := Lib.hid hw2
          clear hfd hkl hk hg hgc hgm hmk hte htw hst hkeep hfb hfx hb2 hw2 hlt2 hlne HTEL HTW1 HST
          go_upto_region 15 with fail
          rw [← HW2.out]
          go_wp2_with (go_at_call 31; refine HTELL.out.mono ?_; rintro e w3 ⟨rfl, q', m', need', kept', ins', lines', ht', hm', hd'⟩; have HT' := Lib.hid ht'; have HM' := Lib.hid hm'; have HD' := Lib.hid hd'; clear ht' hm' hd')
          refine ⟨⟨k + 1, need', kept', ins', lines', q', m', by simp, HKM.out.1, by rw [HFD.out.2]; exact HT'.out, by have := HM'.out; have := HKM.out; omega, TDid.after HS2.out HD'.out⟩, by simp [intOf]; have := HKM.out; omega⟩
        · obtain rfl : k = l.length := by omega
          rw [List.take_length] at HTEL
          have hi1 : ¬ ((l.length : Int) < (l.length : Int)) := by omega
          have D5 := Lib.hid (HTW1.out.drewN 1)
          obtain ⟨d0, d1, d2, d3, d4, d5, d6⟩ := D5.out.facts
          obtain ⟨c0, c1, c2, c3, c4, c5, c6⟩ := HTW1.out.facts
          have hz := HBT.out.size
          have hqc : countN q ≤ 1152921504606846976 := by have := HTEL.out.cnt; have := HX.out; omega
          have HSEC := Lib.hid (section_any (wr.drewN 1) D5.out HTEL.out HX.out.1 rfl hqc)
          have HSEC0 := Lib.hid (section_any wr HTW1.out HTEL.out HX.out.1 rfl hqc)
          have HMK : Hid (m ≤ l.length) := hmk
          have HFIN : Hid (∀ W, Below wr.heap.size wr W → Own .u8 5 W w.heap.size vi1 ins ∧ DidD d b sl q w W) := fun W hW => by
            have hdl := HD.out.lt
            refine ⟨⟨(htw.ri.below hW).1, ?_⟩, sl1, ⟨(HDT.out.ptr.keep hkeep (fun hm => ?_)).below hW, htw.tbl.below hW, hte.ok, HD.out.ne, fun j hj e => ?_⟩, fun j hj => ?_, ?_⟩
            · rcases (htw.ri.below hW).2 with e | ⟨g, cap, cur, e1, _, e3⟩
              · exact .inl e
              · refine .inr ⟨g, cap, cur, e1, ?_, e3⟩
                rcases hst.oi g (by rw [e1]; rfl) with e2 | e2
                · cases e2
                · omega
            · rcases mem_blks.1 hm with e | e | e | e | e
              · have := HTZ.out; omega
              · exact HD.out.ne e
              · exact HD.out.nes _ e rfl
              · cases e
              · cases e
            · rcases hst.os j hj with e2 | e2
              · exact HD.out.nes j e2 e
              · omega
            · rcases hst.os j hj with e2 | e2
              · exact .inl e2
              · exact .inr (by omega)
            · refine ((Keep.of_below HBT.out).trans (S := TS b sl) hkeep (fun i hi => ?_)).then_below hW
              rcases mem_blks.1 hi with e | e | e | e | e
              · exact .inr (by rw [e]; exact HTZ.out)
              · exact .inl (mem_TS.2 (.inl e))
              · exact .inl (mem_TS.2 (.inr e))
              · cases e
              · cases e
          have HWZ : Hid (w.heap.size ≤ wr.heap.size) := Nat.le_trans hz hkeep.size
          clear hte htw hst hkeep hk hmk hqc hz
          go_upto_region 17 with fail
          go_region_law (first
            | (go_simp; go_at_call 32; refine HSEC.out.mono ?_; rintro e w3 ⟨vs, rfl, ap⟩; have AP := Lib.hid ap; have BP : Hid (Below wr.heap.size wr w3) := (below_drewN (Below.refl _ _) 1).trans ap.new.2; have k5 := (HTW1.out.below BP.out).facts.2.2.2.2.2.1; clear ap))
          all_goals
            go_wp2_with fail
            go_ret3
            exact ⟨fun h0 => absurd HN0.out h0, fun _ => ⟨q, m, need, kept, ins, lines, vi1, vs, HTEL.out, HMK.out, rfl, (HFIN.out _ BP.out).1, AP.out.new.1.mono HWZ.out, (HFIN.out _ BP.out).2⟩⟩
end Go.Proofs.YtbkbabaoockigaaGreatDoor

set_option maxRecDepth 100000
set_option linter.unusedSimpArgs false
set_option linter.unusedVariables false
namespace Go.Proofs.YtbkbabaoockigaaGreatDoor
open Go.RowKit

theorem newEnc_yes (n : Nat) (w : World) (hn : n ≤ 4096) :
    Calls Tryz.prog 9 #[.int .i64 (n : Int)] w fun e w' => ∃ d b, e = .returned (.tuple #[.pointer (some ⟨d, 0, none⟩), .int .i64 0]) ∧ Dcd d b (.slice none 0 0) (newT n) w' ∧ w.heap.size ≤ d ∧ w.heap.size ≤ b ∧ Below w.heap.size w w' := by
  have HN : Hid (Calls Tryz.prog 24 #[.int .i64 (n : Int)] w fun e w' => ∃ b, e = .returned (.tuple #[.pointer (some ⟨b, 0, none⟩), .int .i64 0]) ∧ Tbl b (.slice none 0 0) (newT n) w' ∧ w.heap.size ≤ b ∧ Below w.heap.size w w') := by
    refine (new_any (n : Int) w).mono ?_
    rintro e w' (⟨h, _⟩ | ⟨_, b, rfl, ht, hl, hb⟩)
    · omega
    · exact ⟨b, rfl, by simpa using ht, hl, hb⟩
  have HX := Lib.hid hn
  clear hn
  go_enter Tryz.func9, Tryz.ntmps9
  go_wp2_with (go_at_call 24; refine HN.out.mono ?_; rintro e w2 ⟨b, rfl, ht, hl, hb⟩; have HT := Lib.hid ht; have HL := Lib.hid hl; have HB := Lib.hid hb; clear ht hl hb)
  go_ret2
  refine ⟨w2.heap.size, b, rfl, ⟨Cs.made w2 _ _, HT.out.below (below1 w2 _), newT_ok _ HX.out, by have := HT.out.lt; omega, fun j hj => by cases hj⟩, HB.out.size, HL.out, HB.out.trans ((below1 w2 _).mono HB.out.size)⟩
theorem newEnc_no (n : Int) (w : World) (hn : n < 0 ∨ 4096 < n) :
    Calls Tryz.prog 9 #[.int .i64 n] w fun e w' => e = .returned (.tuple #[.pointer none, .int .i64 1]) ∧ w' = w := by
  have HN : Hid (Calls Tryz.prog 24 #[.int .i64 n] w fun e w' => e = .returned (.tuple #[.pointer none, .int .i64 1]) ∧ w' = w) := by
    refine (new_any n w).mono ?_
    rintro e w' (⟨_, h⟩ | ⟨h, _⟩)
    · exact h
    · omega
  clear hn
  go_enter Tryz.func9, Tryz.ntmps9
  go_wp2_with (go_at_call 24; refine HN.out.mono ?_; rintro e w2 ⟨rfl, hh⟩; obtain rfl := hh.symm)
  go_ret2
  exact ⟨rfl, rfl⟩
theorem newDec_yes (n : Nat) (w : World) (hn : n ≤ 4096) :
    Calls Tryz.prog 19 #[.int .i64 (n : Int)] w fun e w' => ∃ d b, e = .returned (.tuple #[.pointer (some ⟨d, 0, none⟩), .int .i64 0]) ∧ Dcd d b (.slice none 0 0) (newT n) w' ∧ w.heap.size ≤ d ∧ w.heap.size ≤ b ∧ Below w.heap.size w w' := by
  have HN : Hid (Calls Tryz.prog 24 #[.int .i64 (n : Int)] w fun e w' => ∃ b, e = .returned (.tuple #[.pointer (some ⟨b, 0, none⟩), .int .i64 0]) ∧ Tbl b (.slice none 0 0) (newT n) w' ∧ w.heap.size ≤ b ∧ Below w.heap.size w w') := by
    refine (new_any (n : Int) w).mono ?_
    rintro e w' (⟨h, _⟩ | ⟨_, b, rfl, ht, hl, hb⟩)
    · omega
    · exact ⟨b, rfl, by simpa using ht, hl, hb⟩
  have HX := Lib.hid hn
  clear hn
  go_enter Tryz.func19, Tryz.ntmps19
  go_wp2_with (go_at_call 24; refine HN.out.mono ?_; rintro e w2 ⟨b, rfl, ht, hl, hb⟩; have HT := Lib.hid ht; have HL := Lib.hid hl; have HB := Lib.hid hb; clear ht hl hb)
  go_ret2
  refine ⟨w2.heap.size, b, rfl, ⟨Cs.made w2 _ _, HT.out.below (below1 w2 _), newT_ok _ HX.out, by have := HT.out.lt; omega, fun j hj => by cases hj⟩, HB.out.size, HL.out, HB.out.trans ((below1 w2 _).mono HB.out.size)⟩
theorem newDec_no (n : Int) (w : World) (hn : n < 0 ∨ 4096 < n) :
    Calls Tryz.prog 19 #[.int .i64 n] w fun e w' => e = .returned (.tuple #[.pointer none, .int .i64 1]) ∧ w' = w := by
  have HN : Hid (Calls Tryz.prog 24 #[.int .i64 n] w fun e w' => e = .returned (.tuple #[.pointer none, .int .i64 1]) ∧ w' = w) := by
    refine (new_any n w).mono ?_
    rintro e w' (⟨_, h⟩ | ⟨h, _⟩)
    · exact h
    · omega
  clear hn
  go_enter Tryz.func19, Tryz.ntmps19
  go_wp2_with (go_at_call 24; refine HN.out.mono ?_; rintro e w2 ⟨rfl, hh⟩; obtain rfl := hh.symm)
  go_ret2
  exact ⟨rfl, rfl⟩
/-- what SetCap of an encoder answers -/
def CapIs (d b : Nat) (sl : Value) (q : TQ) (n : Int) (w : World) (e : Ending) (w' : World) : Prop :=
  ∃ sl', (Dcd d b sl' (setCapE q n).1 w' ∧ (∀ j, sl'.ownBlock = some j → sl.ownBlock = some j ∨ w.heap.size ≤ j) ∧ Keep (TS b sl) w w') ∧ (((setCapE q n).2 ≠ 0 ∧ e = .returned (.tuple #[.slice none 0 0, .int .i64 (setCapE q n).2])) ∨
    ((setCapE q n).2 = 0 ∧ ∃ v, e = .returned (.tuple #[v, .int .i64 0]) ∧ Own .u8 5 w' w.heap.size v (encP 32 5 n) ∧ ∀ j, v.ownBlock = some j → j ∉ TS b sl'))
set_option maxHeartbeats 3200000 in
theorem esetcap_any {d b : Nat} {sl : Value} {q : TQ} (n : Int) (w : World) (h : Dcd d b sl q w) (hc : countN q ≤ 4611686018427387904) :
    Calls Tryz.prog 13 #[.pointer (some ⟨d, 0, none⟩), .int .i64 n] w (CapIs d b sl q n w) := by
  have HG := Lib.hid (egiven_any w h)
  have HS : Hid (Calls Tryz.prog 27 #[.pointer (some ⟨b, 0, none⟩), .int .i64 n] w fun e w' => e = .returned (.int .i64 (setCapE q n).2) ∧ DidD d b sl (setCapE q n).1 w w') :=
    (setCap_any n w h.ok h.tbl hc).mono fun e w' hh => ⟨hh.1, h.did (setCap_ok h.ok _) hh.2⟩
  have c0 := h.cell
  have hrng : (setCapE q n).2 = 0 → 0 ≤ n ∧ n ≤ 4096 := fun h0 => by
    have := h.ok.1
    unfold setCapE at h0
    split at h0
    · cases h0
    · omega
  have HRNG := Lib.hid hrng
  unfold CapIs
  generalize hR : setCapE q n = R at HS HRNG ⊢
  clear h hrng hR
  obtain ⟨q', y⟩ := R
  simp only at HS ⊢
  by_cases hy : y = 0
  · subst hy
    have hr0 := HRNG.out (by first | rfl | trivial)
    have hok : OkP 32 5 n := ⟨by decide, by decide, hr0.1, by omega⟩
    have HN : Hid (∀ W, Calls Tryz.prog 28 #[.slice none 0 0, .int .i64 32, .int .i64 5, .int .i64 n] W fun e w' => ∃ v', e = .returned v' ∧ App (.slice none 0 0) (encP 32 5 n) W v' w') := fun W => by
      have := number_app (.slice none 0 0) [] 32 5 n W (Own.nil _ _ _ _) (by simp) hok
      rwa [List.nil_append] at this
    clear hok
    go_enter Tryz.func13, Tryz.ntmps13
    go_wp2_with (first
      | (go_at_call 26; refine HG.out.mono ?_; rintro e w2 ⟨rfl, hh⟩; obtain rfl := hh.symm)
      | (go_at_call 27; refine HS.out.mono ?_; rintro e w3 ⟨rfl, hd⟩; have HD := Lib.hid hd; have HKZ : Hid (w.heap.size ≤ w3.heap.size) := (by obtain ⟨_, _, _, hk⟩ := hd; exact hk.size : w.heap.size ≤ w3.heap.size); clear hd)
      | (go_at_call 28; refine (HN.out _).mono ?_; rintro e w4 ⟨v4, rfl, ap⟩; have AP := Lib.hid ap; clear ap))
    go_ret2
    obtain ⟨sl', h1, h2, h3⟩ := HD.out
    refine ⟨sl', ⟨h1.below AP.out.new.2, h2, h3.then_below AP.out.new.2⟩, .inr ⟨by first | rfl | trivial, _, rfl, AP.out.new.1.mono HKZ.out, fun j hj hm => ?_⟩⟩
    have hge := AP.out.new.1.blk j hj
    rcases mem_TS.1 hm with e | e
    · have := h1.tbl.lt; omega
    · have := h1.tbl.slt _ e; omega
  · have HY := Lib.hid hy
    have e1 : (y == 0) = false := by simp [hy]
    have e2 : (y != 0) = true := by simp [hy]
    clear hy
    go_enter Tryz.func13, Tryz.ntmps13
    go_wp2_with (first
      | (go_at_call 26; refine HG.out.mono ?_; rintro e w2 ⟨rfl, hh⟩; obtain rfl := hh.symm)
      | (go_at_call 27; refine HS.out.mono ?_; rintro e w3 ⟨rfl, hd⟩; have HD := Lib.hid hd; clear hd))
    go_ret2
    obtain ⟨sl', h1⟩ := HD.out
    exact ⟨sl', h1, .inl ⟨HY.out, rfl⟩⟩

/-- a machine's blocks -/
def DS (d b : Nat) (sl : Value) : List Nat := d :: TS b sl
theorem mem_DS {d b : Nat} {sl : Value} {i : Nat} : i ∈ DS d b sl ↔ i = d ∨ i = b ∨ sl.ownBlock = some i := by
  unfold DS
  rw [List.mem_cons, mem_TS]
/-- a machine made since w0 -/
structure Mq (w0 : World) (d b : Nat) (sl : Value) (q : TQ) (w : World) : Prop where
  dcd : Dcd d b sl q w
  fresh : ∀ i ∈ DS d b sl, w0.heap.size ≤ i
  bel : Below w0.heap.size w0 w
  fix : Fix w0
  err : ErrT w0
theorem Mq.lt {w0 : World} {d b : Nat} {sl : Value} {q : TQ} {w : World} (h : Mq w0 d b sl q w) : ∀ i ∈ DS d b sl, i < w.heap.size := fun i hi => by
  rcases mem_DS.1 hi with e | e | e
  · rw [e]; exact h.dcd.lt
  · rw [e]; exact h.dcd.tbl.lt
  · exact h.dcd.tbl.slt i e
theorem Mq.fixN {w0 : World} {d b : Nat} {sl : Value} {q : TQ} {w : World} (h : Mq w0 d b sl q w) : Fix w := h.fix.below h.bel h.fix.pos
theorem Mq.fx {w0 : World} {d b : Nat} {sl : Value} {q : TQ} {w : World} (h : Mq w0 d b sl q w) : 0 ∉ TS b sl := fun hm => by
  have := h.fresh _ (List.mem_cons_of_mem _ hm)
  have := h.fix.pos
  omega
theorem Mq.gl {w0 : World} {d b : Nat} {sl : Value} {q : TQ} {w : World} (h : Mq w0 d b sl q w) : Gl b sl w := ⟨h.fixN, h.err.below h.bel, h.fx, fun hm => by
  have := h.fresh _ (List.mem_cons_of_mem _ hm)
  have := h.err.pos
  omega⟩
theorem Mq.below {w0 : World} {d b : Nat} {sl : Value} {q : TQ} {w w' : World} (h : Mq w0 d b sl q w) (hb : Below w.heap.size w w') : Mq w0 d b sl q w' := ⟨h.dcd.below hb, h.fresh, h.bel.trans (hb.mono h.bel.size), h.fix, h.err⟩
theorem Mq.drewN {w0 : World} {d b : Nat} {sl : Value} {q : TQ} {w : World} (h : Mq w0 d b sl q w) (n : Nat) : Mq w0 d b sl q (w.drewN n) := h.below (below_drewN (Below.refl _ _) n)
theorem Mq.did {w0 : World} {d b : Nat} {sl : Value} {q q' : TQ} {w w' : World} (h : Mq w0 d b sl q w) (hd : DidD d b sl q' w w') : ∃ sl', Mq w0 d b sl' q' w' ∧ (∀ j, sl'.ownBlock = some j → sl.ownBlock = some j ∨ w.heap.size ≤ j) ∧ Keep (TS b sl) w w' := by
  obtain ⟨sl', h1, h2, h3⟩ := hd
  refine ⟨sl', ⟨h1, fun i hi => ?_, h.bel.trans (h3.to_below (fun i hi => h.fresh i (List.mem_cons_of_mem _ hi)) h.bel.size), h.fix, h.err⟩, h2, h3⟩
  rcases mem_DS.1 hi with e | e | e
  · exact h.fresh i (mem_DS.2 (.inl e))
  · exact h.fresh i (mem_DS.2 (.inr (.inl e)))
  · rcases h2 i e with e1 | e1
    · exact h.fresh i (mem_DS.2 (.inr (.inr e1)))
    · exact Nat.le_trans h.bel.size e1
/-- two of them -/
structure Two (w0 : World) (d1 b1 : Nat) (sl1 : Value) (q1 : TQ) (d2 b2 : Nat) (sl2 : Value) (q2 : TQ) (w : World) : Prop where
  m1 : Mq w0 d1 b1 sl1 q1 w
  m2 : Mq w0 d2 b2 sl2 q2 w
  apart : ∀ i, i ∈ DS d1 b1 sl1 → i ∉ DS d2 b2 sl2
section
variable {w0 : World} {d1 b1 : Nat} {sl1 : Value} {q1 : TQ} {d2 b2 : Nat} {sl2 : Value} {q2 : TQ} {w : World}
theorem Two.swap (h : Two w0 d1 b1 sl1 q1 d2 b2 sl2 q2 w) : Two w0 d2 b2 sl2 q2 d1 b1 sl1 q1 w := ⟨h.m2, h.m1, fun i hi hj => h.apart i hj hi⟩
theorem Two.below {w' : World} (h : Two w0 d1 b1 sl1 q1 d2 b2 sl2 q2 w) (hb : Below w.heap.size w w') : Two w0 d1 b1 sl1 q1 d2 b2 sl2 q2 w' := ⟨h.m1.below hb, h.m2.below hb, h.apart⟩
theorem Two.drewN (h : Two w0 d1 b1 sl1 q1 d2 b2 sl2 q2 w) (n : Nat) : Two w0 d1 b1 sl1 q1 d2 b2 sl2 q2 (w.drewN n) := h.below (below_drewN (Below.refl _ _) n)
theorem Two.step1 {q' : TQ} {w' : World} {sl' : Value} (h : Two w0 d1 b1 sl1 q1 d2 b2 sl2 q2 w) (hd1 : Dcd d1 b1 sl' q' w') (h2 : ∀ j, sl'.ownBlock = some j → sl1.ownBlock = some j ∨ w.heap.size ≤ j) (h3 : Keep (TS b1 sl1) w w') :
    Two w0 d1 b1 sl' q' d2 b2 sl2 q2 w' := by
  have hn : ∀ i, i ∈ DS d2 b2 sl2 → i ∉ TS b1 sl1 := fun i hi hm => h.apart i (List.mem_cons_of_mem _ hm) hi
  have hbel := h.m1.bel.trans (h3.to_below (fun i hi => h.m1.fresh i (List.mem_cons_of_mem _ hi)) h.m1.bel.size)
  refine ⟨⟨hd1, fun i hi => ?_, hbel, h.m1.fix, h.m1.err⟩, ⟨h.m2.dcd.keep h3 (hn _ (mem_DS.2 (.inl rfl))) (hn _ (mem_DS.2 (.inr (.inl rfl)))) (fun j hj => hn _ (mem_DS.2 (.inr (.inr hj)))), h.m2.fresh, hbel, h.m2.fix, h.m2.err⟩, fun i hi hj => ?_⟩
  · rcases mem_DS.1 hi with e | e | e
    · exact h.m1.fresh i (mem_DS.2 (.inl e))
    · exact h.m1.fresh i (mem_DS.2 (.inr (.inl e)))
    · rcases h2 i e with e1 | e1
      · exact h.m1.fresh i (mem_DS.2 (.inr (.inr e1)))
      · exact Nat.le_trans h.m1.bel.size e1
  · rcases mem_DS.1 hi with e | e | e
    · exact h.apart i (mem_DS.2 (.inl e)) hj
    · exact h.apart i (mem_DS.2 (.inr (.inl e))) hj
    · rcases h2 i e with e1 | e1
      · exact h.apart i (mem_DS.2 (.inr (.inr e1))) hj
      · have := h.m2.lt i hj; omega
theorem Two.made {d b c e : Nat} {w1 w2 : World} {q q' : TQ} (hF : Fix w0) (hE : ErrT w0) (h1 : Dcd d b (.slice none 0 0) q w1) (h2 : w0.heap.size ≤ d) (h3 : w0.heap.size ≤ b) (h4 : Below w0.heap.size w0 w1) (h5 : Dcd e c (.slice none 0 0) q' w2) (h6 : w1.heap.size ≤ e) (h7 : w1.heap.size ≤ c) (h8 : Below w1.heap.size w1 w2) :
    Two w0 d b (.slice none 0 0) q e c (.slice none 0 0) q' w2 := by
  have hl := h1.lt
  have hl2 := h1.tbl.lt
  have hz := h4.size
  refine ⟨⟨h1.below h8, fun i hi => ?_, h4.trans (h8.mono hz), hF, hE⟩, ⟨h5, fun i hi => ?_, h4.trans (h8.mono hz), hF, hE⟩, fun i hi hj => ?_⟩
  · rcases mem_DS.1 hi with e | e | e
    · omega
    · omega
    · cases e
  · rcases mem_DS.1 hi with e | e | e
    · omega
    · omega
    · cases e
  · rcases mem_DS.1 hi with e1 | e1 | e1
    · rcases mem_DS.1 hj with e2 | e2 | e2
      · omega
      · omega
      · cases e2
    · rcases mem_DS.1 hj with e2 | e2 | e2
      · omega
      · omega
      · cases e2
    · cases e1
theorem Two.did1 {q' : TQ} {w' : World} (h : Two w0 d1 b1 sl1 q1 d2 b2 sl2 q2 w) (hd : DidD d1 b1 sl1 q' w w') :
    ∃ sl', Two w0 d1 b1 sl' q' d2 b2 sl2 q2 w' ∧ Keep (TS b1 sl1) w w' := by
  obtain ⟨sl', h1, h2, h3⟩ := h.m1.did hd
  have hn : ∀ i, i ∈ DS d2 b2 sl2 → i ∉ TS b1 sl1 := fun i hi hm => h.apart i (List.mem_cons_of_mem _ hm) hi
  refine ⟨sl', ⟨h1, ⟨h.m2.dcd.keep h3 (hn _ (mem_DS.2 (.inl rfl))) (hn _ (mem_DS.2 (.inr (.inl rfl)))) (fun j hj => hn _ (mem_DS.2 (.inr (.inr hj)))), h.m2.fresh, h1.bel, h.m2.fix, h.m2.err⟩, fun i hi hj => ?_⟩, h3⟩
  rcases mem_DS.1 hi with e | e | e
  · exact h.apart i (mem_DS.2 (.inl e)) hj
  · exact h.apart i (mem_DS.2 (.inr (.inl e))) hj
  · rcases h2 i e with e1 | e1
    · exact h.apart i (mem_DS.2 (.inr (.inr e1))) hj
    · have := h.m2.lt i hj; omega
theorem Two.did2 {q' : TQ} {w' : World} (h : Two w0 d1 b1 sl1 q1 d2 b2 sl2 q2 w) (hd : DidD d2 b2 sl2 q' w w') :
    ∃ sl', Two w0 d1 b1 sl1 q1 d2 b2 sl' q' w' ∧ Keep (TS b2 sl2) w w' := by
  obtain ⟨sl', h1, h2⟩ := h.swap.did1 hd
  exact ⟨sl', h1.swap, h2⟩
end
end Go.Proofs.YtbkbabaoockigaaGreatDoor

set_option maxRecDepth 100000
set_option linter.unusedSimpArgs false
set_option linter.unusedVariables false
namespace Go.Proofs.YtbkbabaoockigaaGreatDoor
open Go.RowKit

set_option maxHeartbeats 3200000 in
theorem same_any {u v : Value} {l m : List Fd} (w : World) (hu : RdC 2 w u l.length (fdC l)) (hv : RdC 2 w v m.length (fdC m)) (hl : l.length ≤ 4611686018427387904) :
    Calls Tryz.prog 18 #[u, v] w fun e w' => e = .returned (.bool (decide (l = m))) ∧ Below w.heap.size w w' := by
  obtain ⟨ua, uc, rfl, _, _⟩ := hu.isSlice
  obtain ⟨va, vc, rfl, _, _⟩ := hv.isSlice
  have HU := Lib.hid hu
  have HV := Lib.hid hv
  have HL := Lib.hid hl
  clear hu hv hl
  by_cases hlen : l.length = m.length
  · have e1 : ((l.length : Int) == (m.length : Int)) = true := by simp [hlen]
    have e2 : ((l.length : Int) != (m.length : Int)) = false := by simp [hlen]
    have e3 : (l.length == m.length) = true := by simp [hlen]
    have HLE := Lib.hid hlen
    clear hlen
    go_enter Tryz.func18, Tryz.ntmps18
    go_wp2_with fail
    go_loopw [5] (fun i wr => ∃ k : Nat, i = .int .i64 (k : Int) ∧ k ≤ l.length ∧ l.take k = m.take k ∧ Below w.heap.size w wr) (fun i _ => l.length - (intOf i).toNat)
    case atStart => exact ⟨0, rfl, Nat.zero_le _, by simp, Below.refl _ _⟩
    case round =>
      obtain ⟨k, rfl, hk, hs, hbel⟩ := hrel
      have HB := Lib.hid hbel
      have HS := Lib.hid hs
      clear hs
      by_cases hkl : k < l.length
      · have hkm : k < m.length := by have := HLE.out; omega
        obtain ⟨g, o, c', hs2, hgc, hgm, hg⟩ := rd_form (HU.out.below hbel) (by omega)
        simp only [Value.slice.injEq, true_and] at hs2
        obtain ⟨rfl, rfl⟩ := hs2
        obtain ⟨g2, o2, c2', hs2, hgc2, hgm2, hg2⟩ := rd_form (HV.out.below hbel) (by omega)
        simp only [Value.slice.injEq, true_and] at hs2
        obtain ⟨rfl, rfl⟩ := hs2
        obtain ⟨c0, c1⟩ := fd_at (HU.out.below hbel) k hkl _ rfl
        obtain ⟨c2, c3⟩ := fd_at (HV.out.below hbel) k hkm _ rfl
        obtain ⟨⟨fn, fv⟩, hfd⟩ : ∃ fd, fd = l[k] := ⟨_, rfl⟩
        obtain ⟨⟨gn, gv⟩, hgd⟩ : ∃ fd, fd = m[k] := ⟨_, rfl⟩
        rw [← hfd] at c0 c1
        rw [← hgd] at c2 c3
        simp only at c0 c1 c2 c3
        have HT : Hid (l.take (k + 1) = l.take k ++ [⟨fn, fv⟩] ∧ m.take (k + 1) = m.take k ++ [⟨gn, gv⟩]) := ⟨by rw [hfd]; exact List.take_succ_eq_append_getElem hkl, by rw [hgd]; exact List.take_succ_eq_append_getElem hkm⟩
        have hi1 : (k : Int) < (l.length : Int) := by omega
        have hi2 : (0 : Int) ≤ (k : Int) := by omega
        have hi3 : (k : Int) < (m.length : Int) := by omega
        have hw1 : IntKind.i64.wrap ((k : Int) + 1) = ((k + 1 : Nat) : Int) := by rw [wraps_i64' _ (by omega) (by have := HL.out; omega)]; omega
        have HKL := Lib.hid hkl
        clear hfd hgd hkl hkm hk hg hgc hgm hgc2 hgm2 hg2
        go_wp2_with fail
        have BD := Lib.hid (below_drewN HB.out 1)
        have k0 : wr.drew.cell? ⟨g, o + k * 2, none⟩ = some (.string fn) := c0
        have k1 : wr.drew.cell? ⟨g, o + k * 2 + 1, none⟩ = some (.string fv) := c1
        have k2 : wr.drew.cell? ⟨g2, o2 + k * 2, none⟩ = some (.string gn) := c2
        have k3 : wr.drew.cell? ⟨g2, o2 + k * 2 + 1, none⟩ = some (.string gv) := c3
        by_cases hfg : (⟨fn, fv⟩ : Fd) = ⟨gn, gv⟩
        · obtain ⟨rfl, rfl⟩ := Fd.mk.inj hfg
          have qe : ∀ W, (Op.equalIn 10000 74 (.agg #[.string fn, .string fv]) (.agg #[.string fn, .string fv])).run Tryz.prog W = .ok true W := fun W => by have := eqF_any ⟨fn, fv⟩ ⟨fn, fv⟩ W; rw [decide_eq_true rfl] at this; exact this
          clear hfg
          go_region_law (fail)
          all_goals
            go_wp2_with fail
            exact ⟨⟨k + 1, by simp, HKL.out, by rw [HT.out.1, HT.out.2, HS.out], BD.out⟩, by simp [intOf]; have := HKL.out; omega⟩
        · have qe : ∀ W, (Op.equalIn 10000 74 (.agg #[.string fn, .string fv]) (.agg #[.string gn, .string gv])).run Tryz.prog W = .ok false W := fun W => by have := eqF_any ⟨fn, fv⟩ ⟨gn, gv⟩ W; rw [decide_eq_false hfg] at this; exact this
          have HNE : Hid (l ≠ m) := fun h => hfg (by
            have h1 := HT.out.1
            have h2 := HT.out.2
            rw [h] at h1
            have := List.append_inj_right (h1.symm.trans h2) (by simp [HS.out, h])
            simpa using this)
          clear hfg
          go_region_law (fail)
          all_goals
            go_wp2_with fail
            go_ret
            exact ⟨by rw [decide_eq_false HNE.out]; first | done | rfl, BD.out⟩
      · obtain rfl : k = l.length := by omega
        have hi1 : ¬ ((l.length : Int) < (l.length : Int)) := by omega
        have HEQ : Hid (l = m) := by
          have h1 := HS.out
          rw [List.take_length, HLE.out, List.take_length] at h1
          exact h1
        clear hk
        go_wp2
        go_ret
        exact ⟨by rw [decide_eq_true HEQ.out]; first | done | rfl, HB.out⟩
  · have e1 : ((l.length : Int) == (m.length : Int)) = false := by simp; omega
    have e2 : ((l.length : Int) != (m.length : Int)) = true := by simp; omega
    have e3 : (l.length == m.length) = false := by simp; omega
    have HNE : Hid (l ≠ m) := fun h => hlen (by rw [h])
    clear hlen
    go_enter Tryz.func18, Tryz.ntmps18
    go_wp2_with fail
    go_ret
    exact ⟨by rw [decide_eq_false HNE.out]; first | done | rfl, Below.refl _ _⟩
end Go.Proofs.YtbkbabaoockigaaGreatDoor

set_option maxRecDepth 100000
set_option linter.unusedSimpArgs false
set_option linter.unusedVariables false
namespace Go.Proofs.YtbkbabaoockigaaGreatDoor
open Go.RowKit

/-- two faults compared -/
theorem eqQ_any (a b a' b' : Int) (w : World) : (Op.equalIn 10000 42 (.agg #[.int .i64 a, .int .i64 b]) (.agg #[.int .i64 a', .int .i64 b'])).run Tryz.prog w = .ok (decide (a = a' ∧ b = b')) w := by
  have u3 := Tryz.underlying3
  have a3 := Tryz.isAgg3
  have z3 := Tryz.sizeOf3
  have u4 := Tryz.underlying24
  have a4 := Tryz.isAgg24
  have z4 := Tryz.sizeOf24
  have hS : Tryz.prog.underlying 42 = some (.struct (Tryz.prog.fieldsOf 42)) := by kernel_rfl
  have hp : Tryz.prog.stoodInHeld 42 = false := by kernel_rfl
  rw [show (10000 : Nat) = 9999 + 1 from rfl, run_equalIn_agg w 9999 42 _ _ hS hp]
  simp only [Program.fieldsOf, Tryz.underlying42]
  go_simp
  by_cases h1 : a = a' <;> by_cases h2 : b = b' <;> simp [h1, h2]
/-- what a section measures -/
theorem sec_fits {q0 : TQ} {put : Bool} {q : TQ} {m need kept : Nat} {ins lines : List Int} {l : List Fd} (T : Tel q0 put q m need kept ins lines l) (hc : countN q ≤ 1152921504606846976) :
    Bts (secN q0 need lines) ∧ (secN q0 need lines).length ≤ 20 + 1100 * l.length := by
  have hnl := T.need_le
  have hcc := T.cnt
  have hok8 : OkP 0 8 (need : Int) := ⟨by decide, by decide, by omega, by omega⟩
  have h8 := sizeN_le (w := 8) (n := (need : Int)) (by omega)
  have hL := T.sL
  unfold secN
  refine ⟨(encP_bts hok8).append (Bts.append ?_ T.bL), ?_⟩
  · split
    · exact encP_bts ⟨by decide, by decide, by omega, by omega⟩
    · exact encP_bts ⟨by decide, by decide, by omega, by omega⟩
  · rw [List.length_append, List.length_append, encP_len]
    split
    · have := sizeN_le (w := 7) (n := ((countN q0 : Int) - need)) (by omega)
      rw [encP_len]; omega
    · have := sizeN_le (w := 7) (n := ((need : Int) - countN q0 - 1)) (by omega)
      rw [encP_len]; omega
def aliveL : List Fd := [⟨⟨#[99, 111, 110, 116, 101, 110, 116, 45, 108, 101, 110, 103, 116, 104]⟩, ⟨#[48]⟩⟩, ⟨⟨#[58, 112, 97, 116, 104]⟩, ⟨#[47]⟩⟩]
theorem alive_dec : decE (newT 100) [0, 0, 209, 193] = (aliveL, 0, 0) := by rfl
theorem alive_err : encErr aliveL = 0 := by rfl
theorem Tel.same {q0 q' : TQ} {m need kept : Nat} {ins lines : List Int} {l : List Fd} (T : Tel q0 false q' m need kept ins lines l) (hl : l.length ≤ 64) (hc : countN q0 ≤ 1152921504606846976) :
    ins = [] ∧ q' = q0 ∧ decE q0 (secN q0 need lines) = (l, 0, 0) := by
  obtain ⟨h1, h2, _, h4, _⟩ := T.plain rfl
  subst h2
  exact ⟨h1, rfl, T.dec hl hc q' (Ext.refl _ _) (by rw [h4]; exact Nat.zero_le _)⟩
set_option maxHeartbeats 12800000 in
theorem alive_any (w : World) (hF : Fix w) (hE : ErrT w) : Calls Tryz.prog 11 #[] w fun e w' => e = .returned (.bool true) ∧ Below w.heap.size w w' := by
  have HND := Lib.hid (newDec_yes 100 w (by decide))
  have HNE : Hid (∀ W, Calls Tryz.prog 9 #[.int .i64 (100 : Nat)] W fun e w' => ∃ d b, e = .returned (.tuple #[.pointer (some ⟨d, 0, none⟩), .int .i64 0]) ∧ Dcd d b (.slice none 0 0) (newT 100) w' ∧ W.heap.size ≤ d ∧ W.heap.size ≤ b ∧ Below W.heap.size W w') := fun W => newEnc_yes 100 W (by decide)
  have HF := Lib.hid hF
  have HE := Lib.hid hE
  have HTWO : Hid (∀ d b c e w1 w2, Dcd d b (.slice none 0 0) (newT 100) w1 → w.heap.size ≤ d → w.heap.size ≤ b → Below w.heap.size w w1 → Dcd e c (.slice none 0 0) (newT 100) w2 → w1.heap.size ≤ e → w1.heap.size ≤ c → Below w1.heap.size w1 w2 → Two w d b (.slice none 0 0) (newT 100) e c (.slice none 0 0) (newT 100) w2) := fun d b c e w1 w2 h1 h2 h3 h4 h5 h6 h7 h8 => by
    have hl := h1.lt
    have hl2 := h1.tbl.lt
    have hz := h4.size
    refine ⟨⟨h1.below h8, fun i hi => ?_, h4.trans (h8.mono hz), hF, hE⟩, ⟨h5, fun i hi => ?_, h4.trans (h8.mono hz), hF, hE⟩, fun i hi hj => ?_⟩
    · rcases mem_DS.1 hi with e | e | e
      · omega
      · omega
      · cases e
    · rcases mem_DS.1 hi with e | e | e
      · omega
      · omega
      · cases e
    · rcases mem_DS.1 hi with e1 | e1 | e1
      · rcases mem_DS.1 hj with e2 | e2 | e2
        · omega
        · omega
        · cases e2
      · rcases mem_DS.1 hj with e2 | e2 | e2
        · omega
        · omega
        · cases e2
      · cases e1
  clear hF hE
  have HAL : Hid (aliveL.length = 2 ∧ fdC aliveL = [.string ⟨#[99, 111, 110, 116, 101, 110, 116, 45, 108, 101, 110, 103, 116, 104]⟩, .string ⟨#[48]⟩, .string ⟨#[58, 112, 97, 116, 104]⟩, .string ⟨#[47]⟩]) := ⟨rfl, rfl⟩
  go_enter Tryz.func11, Tryz.ntmps11
  go_upto_region 5 with (first
    | (go_at_call 19; refine HND.out.mono ?_; rintro e w1 ⟨d, b, rfl, h1, h2, h3, h4⟩; have H1 := Lib.hid h1; have H2 := Lib.hid h2; have H3 := Lib.hid h3; have H4 := Lib.hid h4; clear h1 h2 h3 h4)
    | (go_at_call 9; refine (HNE.out _).mono ?_; rintro e w2 ⟨en, c, rfl, h5, h6, h7, h8⟩; have TWO := Lib.hid (HTWO.out _ _ _ _ _ _ H1.out H2.out H3.out H4.out h5 h6 h7 h8); clear h5 h6 h7 h8))
  clear HND HNE HTWO H1 H2 H3 H4
  obtain ⟨w3, hw3⟩ : ∃ W, W = w2.alloc (.cells #[.int .u8 0, .int .u8 0, .int .u8 209, .int .u8 193] 5) := ⟨_, rfl⟩
  have hb3 : Below w2.heap.size w2 w3 := by rw [hw3]; exact below1 w2 _
  have hr3 : Rd .u8 w3 (.slice (some ⟨w2.heap.size, 0, none⟩) 4 4) [0, 0, 209, 193] := by rw [hw3]; exact Rd.lit [0, 0, 209, 193] (by simp) 4 rfl (by decide) _ rfl
  have TWO3 := Lib.hid (TWO.out.below hb3)
  have HDEC : Hid (Calls Tryz.prog 21 #[.pointer (some ⟨d, 0, none⟩), .slice (some ⟨w2.heap.size, 0, none⟩) 4 4] w3 (DecIs14 w3 (aliveL, 0, 0))) := by
    have := decode_any w3 TWO3.out.m1.dcd TWO3.out.m1.gl hr3 (fun _ j hj => fun hm => by
      have h1 := TWO.out.m1.lt j (List.mem_cons_of_mem _ hm)
      simp only [Value.ownBlock, Option.some.injEq] at hj
      omega) (by intro x hx; simp at hx; omega) (by decide) (by decide)
    rw [alive_dec] at this
    exact this
  have HW3 := Lib.hid hw3
  clear hw3 hb3 hr3
  go_upto_region 6 with (go_at_call 21; rw [← HW3.out]; refine HDEC.out.mono ?_; rintro e w4 ⟨u, rfl, ho4, hb4⟩; obtain ⟨g, o, gc, hu, hgc, hgm, hg⟩ := rd_form (RdC.of_owns ho4) (by decide); subst hu; have TWO4 := Lib.hid (TWO3.out.below hb4); have O4 := Lib.hid ho4; have HLT4 : Hid (w2.heap.size < w3.heap.size ∧ w3.heap.size ≤ w4.heap.size) := ⟨(by rw [HW3.out]; simp), hb4.size⟩; clear ho4 hb4)
  obtain ⟨w5, hw5⟩ : ∃ W, W = w4.alloc (.cells #[.int .i64 0, .int .i64 0] 42) := ⟨_, rfl⟩
  have hb5 : Below w4.heap.size w4 w5 := by rw [hw5]; exact below1 w4 _
  have TWO5 := Lib.hid (TWO4.out.below hb5)
  have Q5 : Hid (Cs w5 w4.heap.size [.int .i64 0, .int .i64 0]) := by rw [hw5]; exact Cs.made w4 #[.int .i64 0, .int .i64 0] 42
  have R5 : Hid (RdC 2 w5 (.slice (some ⟨g, o, none⟩) aliveL.length gc) aliveL.length (fdC aliveL)) := (RdC.of_owns O4.out).below hb5
  have HGO : Hid (w3.heap.size ≤ g) := (World.ownsRow.lt O4.out g rfl).1
  have HENC : Hid (Calls Tryz.prog 15 #[.pointer (some ⟨en, 0, none⟩), .slice (some ⟨g, o, none⟩) aliveL.length gc, .bool false] w5 (EncIs14 (newT 100) en c (.slice none 0 0) false aliveL w5)) :=
    encode_any false w5 TWO5.out.m2.dcd R5.out (fun _ j hj hm => by
      have h1 := TWO3.out.m2.lt j (List.mem_cons_of_mem _ hm)
      have h2 := HGO.out
      simp only [Value.ownBlock, Option.some.injEq] at hj
      omega) TWO5.out.m2.fixN TWO5.out.m2.fx (by decide)
  have HDEC2 : Hid (∀ w6 vs need lines, Own .u8 5 w6 w5.heap.size vs (secN (newT 100) need lines) → DidD en c (.slice none 0 0) (newT 100) w5 w6 → Bts (secN (newT 100) need lines) → (secN (newT 100) need lines).length ≤ 4000 → decE (newT 100) (secN (newT 100) need lines) = (aliveL, 0, 0) →
      Calls Tryz.prog 21 #[.pointer (some ⟨d, 0, none⟩), vs] w6 (DecIs14 w6 (aliveL, 0, 0))) := fun w6 vs need lines hv hd hbt hl he => by
    obtain ⟨sl', t6, k6⟩ := TWO5.out.did2 hd
    have := decode_any w6 t6.m1.dcd t6.m1.gl hv.rd (fun _ j hj hm => by
      have h1 := TWO5.out.m1.lt j (List.mem_cons_of_mem _ hm)
      have h2 := hv.blk j hj
      omega) hbt (by omega) (by decide)
    rw [he] at this
    exact this
  have HKP : Hid (∀ w6, DidD en c (.slice none 0 0) (newT 100) w5 w6 → Below w.heap.size w w6 ∧ w5.heap.size ≤ w6.heap.size ∧ Cs w6 w4.heap.size [.int .i64 0, .int .i64 0] ∧ RdC 2 w6 (.slice (some ⟨g, o, none⟩) aliveL.length gc) aliveL.length (fdC aliveL)) := fun w6 hd => by
    obtain ⟨sl', t6, k6⟩ := TWO5.out.did2 hd
    refine ⟨t6.m1.bel, k6.size, Q5.out.keep k6 (fun hm => ?_), rdC_keep R5.out k6 (fun _ j hj hm => ?_)⟩
    · have h1 := TWO4.out.m2.lt _ (List.mem_cons_of_mem _ hm); omega
    · have h1 := TWO3.out.m2.lt j (List.mem_cons_of_mem _ hm)
      have h2 := HGO.out
      simp only [Value.ownBlock, Option.some.injEq] at hj
      omega
  have HW5 := Lib.hid hw5
  clear hw5 hb5 HDEC
  go_upto_region 8 with (first
    | (go_at_call 15; rw [← HW5.out]; refine HENC.out.mono ?_; rintro e w6 he; obtain ⟨q', m, need, kept, ins, lines, vi, vs, hT, hm, rfl, oi, os, hd⟩ := he.2 alive_err; obtain ⟨hi0, hq', hde⟩ := hT.same (by decide) (by decide); subst hq'; obtain ⟨hbt, hln⟩ := sec_fits hT (by decide); have HD2 := Lib.hid (HDEC2.out w6 vs need lines os hd hbt (Nat.le_trans hln (by decide)) hde); have KP := Lib.hid (HKP.out w6 hd); clear he hT hm oi os hd hi0 hde hbt hln)
    | (go_at_call 21; refine HD2.out.mono ?_; rintro e w7 ⟨u2, rfl, ho7, hb7⟩; obtain ⟨g2, o2, gc2, hu2, hgc2, hgm2, hg2⟩ := rd_form (RdC.of_owns ho7) (by decide); subst hu2; have O7 := Lib.hid ho7; have B7 := Lib.hid hb7; clear ho7 hb7))
  obtain ⟨w8, hw8⟩ : ∃ W, W = w7.alloc (.cells #[.int .i64 0, .int .i64 0] 42) := ⟨_, rfl⟩
  have hb8 : Below w7.heap.size w7 w8 := by rw [hw8]; exact below1 w7 _
  have hb68 : Below w6.heap.size w6 w8 := B7.out.trans (hb8.mono B7.out.size)
  have q8 : Cs w8 w7.heap.size [.int .i64 0, .int .i64 0] := by rw [hw8]; exact Cs.made w7 #[.int .i64 0, .int .i64 0] 42
  have c0 := q8.get 0 _ rfl
  have c1 := q8.get 1 _ rfl
  have q5 := KP.out.2.2.1.below hb68
  have c2 := q5.get 0 _ rfl
  have c3 := q5.get 1 _ rfl
  have R8 : Hid (RdC 2 w8 (.slice (some ⟨g, o, none⟩) aliveL.length gc) aliveL.length (fdC aliveL)) := KP.out.2.2.2.below hb68
  have R8' : Hid (RdC 2 w8 (.slice (some ⟨g2, o2, none⟩) aliveL.length gc2) aliveL.length (fdC aliveL)) := (RdC.of_owns O7.out).below hb8
  obtain ⟨_, c4⟩ := fd_at R8.out 1 (by decide) _ rfl
  have HSAME : Hid (Calls Tryz.prog 18 #[.slice (some ⟨g, o, none⟩) aliveL.length gc, .slice (some ⟨g2, o2, none⟩) aliveL.length gc2] w8 fun e w' => e = .returned (.bool true) ∧ Below w8.heap.size w8 w') := by
    have := same_any w8 R8.out R8'.out (by decide)
    rw [decide_eq_true rfl] at this
    exact this
  have HB8 : Hid (Below w.heap.size w w8) := KP.out.1.trans (hb68.mono KP.out.1.size)
  have qe : ∀ W, (Op.equalIn 10000 42 (.agg #[.int .i64 0, .int .i64 0]) (.agg #[.int .i64 0, .int .i64 0])).run Tryz.prog W = .ok true W := fun W => by have := eqQ_any 0 0 0 0 W; rw [decide_eq_true ⟨rfl, rfl⟩] at this; exact this
  rw [← hw8]
  have hal : aliveL.length = 2 := rfl
  rw [hal] at HSAME ⊢
  have c4' : w8.cell? ⟨g, o + 2 + 1, none⟩ = some (.string ⟨#[47]⟩) := c4
  clear hw8 hb8 hb68 q8 q5 c4 hal
  go_wp2_with (go_at_call 18; refine HSAME.out.mono ?_; rintro e w9 ⟨rfl, hb9⟩; have B9 := Lib.hid hb9; clear hb9)
  go_ret
  exact ⟨rfl, HB8.out.trans (B9.out.mono HB8.out.size)⟩
end Go.Proofs.YtbkbabaoockigaaGreatDoor

set_option maxRecDepth 100000
set_option linter.unusedSimpArgs false
set_option linter.unusedVariables false
namespace Go.Proofs.YtbkbabaoockigaaGreatDoor
open Go.RowKit

theorem getB0 (q q2 : TQ) (n : Int) : getB q 0 n = getB q2 0 n := by
  unfold getB
  by_cases h : (0 : Int) ≤ n
  · rw [if_pos (by simpa using h), if_pos (by simpa using h)]
  · rw [if_neg (by simpa using h), if_neg (by simpa using h)]
    unfold getE
    rw [if_pos (.inl (by omega)), if_pos (.inl (by omega))]
theorem lineE0 (q q2 : TQ) (base : Int) (xs : List Int) (a : Nat) : lineE q 0 base xs a = lineE q2 0 base xs a := by
  unfold lineE
  simp only [getB0 q q2]
theorem linesF0 (q q2 : TQ) (base : Int) (xs : List Int) : ∀ (k a : Nat) (out : List Fd), linesF q 0 base xs k a out = linesF q2 0 base xs k a out
  | 0, _, _ => rfl
  | k + 1, a, out => by
    unfold linesF
    rw [lineE0 q q2, linesF0 q q2 base xs k]
theorem decE0 (q q2 : TQ) (need : Nat) (hn : need = 0) (lines : List Int) (q0 : TQ) : decE q (secN q0 need lines) = decE q2 (secN q0 need lines) := by
  have hok8 : OkP 0 8 (need : Int) := ⟨by decide, by decide, by omega, by omega⟩
  have h1 := num_enc [] ((if need ≤ countN q0 then encP 0 7 ((countN q0 : Int) - need) else encP 128 7 ((need : Int) - countN q0 - 1)) ++ lines) 0 8 need hok8
  rw [List.nil_append] at h1
  unfold decE secN linesE
  simp only [List.length_nil, Nat.zero_add] at h1
  rw [h1]
  simp only [ne_eq, not_true, if_false, Int.toNat_natCast]
  rw [if_neg (show ¬ countN q < need by omega), if_neg (show ¬ countN q2 < need by omega)]
  subst hn
  simp only [linesF0 q q2]
theorem dec_waits (q q0 : TQ) (need : Nat) (lines : List Int) (h : countN q < need) (hn : need ≤ 4611686018427387903) : decE q (secN q0 need lines) = ([], 17, 0) := by
  have hok8 : OkP 0 8 (need : Int) := ⟨by decide, by decide, by omega, by omega⟩
  have h1 := num_enc [] ((if need ≤ countN q0 then encP 0 7 ((countN q0 : Int) - need) else encP 128 7 ((need : Int) - countN q0 - 1)) ++ lines) 0 8 need hok8
  rw [List.nil_append] at h1
  unfold decE secN
  simp only [List.length_nil, Nat.zero_add] at h1
  rw [h1]
  simp only [ne_eq, not_true, if_false, Int.toNat_natCast]
  rw [if_pos h]
theorem r14right_any {v : Value} {l : List Fd} (w : World) (hr : RdC 2 w v l.length (fdC l)) : Calls Tryz.prog 16 #[v] w fun e w' => e = .returned (.int .i64 (encErr l)) ∧ Below w.heap.size w w' := by
  obtain ⟨va, vc, rfl, hlc, hcm⟩ := hr.isSlice
  have HR := Lib.hid hr
  by_cases h64 : 64 < l.length
  · have e1 : decide ((l.length : Int) > 64) = true := decide_eq_true (by omega)
    have e2 : decide (64 < l.length) = true := decide_eq_true h64
    have e3 : decide ((64 : Int) < (l.length : Int)) = true := decide_eq_true (by omega)
    have HE : Hid (encErr l = 6) := if_pos h64
    clear hr h64 hlc hcm
    go_enter Tryz.func16, Tryz.ntmps16
    go_wp2_with fail
    go_ret
    exact ⟨by rw [HE.out]; first | done | rfl, Below.refl _ _⟩
  · have e1 : decide ((l.length : Int) > 64) = false := decide_eq_false (by omega)
    have e2 : decide (64 < l.length) = false := decide_eq_false h64
    have e3 : decide ((64 : Int) < (l.length : Int)) = false := decide_eq_false (by omega)
    have HX : Hid (l.length ≤ 64) := by show l.length ≤ 64; omega
    have HE : Hid (encErr l = if l.any bigF then 13 else 0) := if_neg h64
    clear hr h64 hlc hcm
    go_enter Tryz.func16, Tryz.ntmps16
    go_wp2_with fail
    go_loopw [3] (fun i wr => ∃ k : Nat, i = .int .i64 (k : Int) ∧ k ≤ l.length ∧ (∀ x ∈ l.take k, bigF x = false) ∧ Below w.heap.size w wr) (fun i _ => l.length - (intOf i).toNat)
    case atStart => exact ⟨0, rfl, Nat.zero_le _, by simp, Below.refl _ _⟩
    case round =>
      obtain ⟨k, rfl, hk, hno, hbel⟩ := hrel
      have HB := Lib.hid hbel
      have HNO := Lib.hid hno
      clear hno
      by_cases hkl : k < l.length
      · obtain ⟨g, o, c', hs2, hgc, hgm, hg⟩ := rd_form (HR.out.below hbel) (by omega)
        simp only [Value.slice.injEq, true_and] at hs2
        obtain ⟨rfl, rfl⟩ := hs2
        obtain ⟨c0, c1⟩ := fd_at (HR.out.below hbel) k hkl _ rfl
        obtain ⟨⟨fn, fv⟩, hfd⟩ : ∃ fd, fd = l[k] := ⟨_, rfl⟩
        rw [← hfd] at c0 c1
        simp only at c0 c1
        have hi1 : (k : Int) < (l.length : Int) := by omega
        have hi2 : (0 : Int) ≤ (k : Int) := by omega
        have hw1 : IntKind.i64.wrap ((k : Int) + 1) = ((k + 1 : Nat) : Int) := by rw [wraps_i64' _ (by omega) (by have := HX.out; omega)]; omega
        have HFD : Hid ((⟨fn, fv⟩ : Fd) ∈ l ∧ l.take (k + 1) = l.take k ++ [⟨fn, fv⟩]) := ⟨by rw [hfd]; exact List.getElem_mem hkl, by rw [hfd]; exact List.take_succ_eq_append_getElem hkl⟩
        have HKL := Lib.hid hkl
        clear hfd hbel hk hg hgc hgm
        by_cases h1 : 64 < fn.size
        · have d1 : decide ((fn.size : Int) > 64) = true := decide_eq_true (by omega)
          have d2 : decide (64 < fn.size) = true := decide_eq_true h1
          have d3 : decide ((64 : Int) < (fn.size : Int)) = true := decide_eq_true (by omega)
          have HBIG : Hid (encErr l = 13) := by
            show encErr l = 13
            rw [HE.out, if_pos]
            exact List.any_eq_true.2 ⟨_, HFD.out.1, by simp [bigF, d2]⟩
          clear h1
          go_wp2_with fail
          go_ret
          exact ⟨by rw [HBIG.out]; first | done | rfl, HB.out⟩
        · have d1 : decide ((fn.size : Int) > 64) = false := decide_eq_false (by omega)
          have d2 : decide (64 < fn.size) = false := decide_eq_false h1
          have d3 : decide ((64 : Int) < (fn.size : Int)) = false := decide_eq_false (by omega)
          by_cases h2 : 512 < fv.size
          · have f1 : decide ((fv.size : Int) > 512) = true := decide_eq_true (by omega)
            have f2 : decide (512 < fv.size) = true := decide_eq_true h2
            have f3 : decide ((512 : Int) < (fv.size : Int)) = true := decide_eq_true (by omega)
            have HBIG : Hid (encErr l = 13) := by
              show encErr l = 13
              rw [HE.out, if_pos]
              exact List.any_eq_true.2 ⟨_, HFD.out.1, by simp [bigF, f2]⟩
            clear h1 h2
            go_wp2_with fail
            go_ret
            exact ⟨by rw [HBIG.out]; first | done | rfl, HB.out⟩
          · have f1 : decide ((fv.size : Int) > 512) = false := decide_eq_false (by omega)
            have f2 : decide (512 < fv.size) = false := decide_eq_false h2
            have f3 : decide ((512 : Int) < (fv.size : Int)) = false := decide_eq_false (by omega)
            have HSM : Hid (bigF ⟨fn, fv⟩ = false) := (by simp [bigF, d2, f2] : bigF ⟨fn, fv⟩ = false)
            clear h1 h2
            go_wp2_with fail
            refine ⟨⟨k + 1, by simp, HKL.out, fun x hx => ?_, HB.out⟩, by simp [intOf]; have := HKL.out; omega⟩
            rw [HFD.out.2, List.mem_append] at hx
            rcases hx with hx | hx
            · exact HNO.out x hx
            · rw [List.mem_singleton.1 hx]; exact HSM.out
      · obtain rfl : k = l.length := by omega
        rw [List.take_length] at HNO
        have hi1 : ¬ ((l.length : Int) < (l.length : Int)) := by omega
        have HN0 : Hid (encErr l = 0) := by
          show encErr l = 0
          rw [HE.out, if_neg]
          intro hany
          obtain ⟨x, hx, hx2⟩ := List.any_eq_true.1 hany
          rw [HNO.out x hx] at hx2; cases hx2
        clear hk
        go_wp2
        go_ret
        exact ⟨by rw [HN0.out]; first | done | rfl, HB.out⟩
end Go.Proofs.YtbkbabaoockigaaGreatDoor

set_option maxRecDepth 100000
set_option linter.unusedSimpArgs false
set_option linter.unusedVariables false
namespace Go.Proofs.YtbkbabaoockigaaGreatDoor
open Go.RowKit

def qCap : TQ := (setCapE (newT 4096) 4096).1
theorem qCap_is : setCapE (newT 4096) 4096 = (qCap, 0) := by rfl
theorem cap_fed (q : TQ) (n : Nat) (hn : n ≤ 4611686018427387903) (h0 : (setCapE q n).2 = 0) : feedE q (encP 32 5 n) 0 = ((setCapE q n).1, 0, 0) := by
  have h1 := ins_cap q n hn [] []
  rw [List.append_nil, List.nil_append, h0] at h1
  simp only [List.length_nil, Nat.zero_add] at h1
  have hb : Bts (encP 32 5 n) := encP_bts ⟨by decide, by decide, by omega, by omega⟩
  have h2 : (insE q (encP 32 5 n) 0).2.2 = 0 := by rw [h1]
  rw [feed_step hb h2, h1, feed_end (Nat.le_refl _)]
theorem qCap_fed : feedE (newT 4096) (encP 32 5 4096) 0 = (qCap, 0, 0) := by
  have := cap_fed (newT 4096) 4096 (by decide) (by rfl)
  exact this
theorem qCap_n : countN qCap = 0 := by rfl
theorem same_eq {u v : Value} {l : List Fd} (w : World) (hu : RdC 2 w u l.length (fdC l)) (hv : RdC 2 w v l.length (fdC l)) (hl : l.length ≤ 4611686018427387904) :
    Calls Tryz.prog 18 #[u, v] w fun e w' => e = .returned (.bool true) ∧ Below w.heap.size w w' := by
  have := same_any w hu hv hl
  rw [decide_eq_true rfl] at this
  exact this
theorem encErr_le {l : List Fd} (h : encErr l = 0) : l.length ≤ 64 := by
  unfold encErr at h
  split at h
  · cases h
  · omega
/-- a row that a machine's call leaves -/
theorem own_keep {B : Nat} {S : List Nat} {w w' : World} {v : Value} {xs : List Int} (h : Own .u8 5 w B v xs) (k : Keep S w w') (hn : ∀ j, v.ownBlock = some j → j ∉ S) : Own .u8 5 w' B v xs := owns_keep h k hn
theorem ds_ts {d b : Nat} {sl : Value} {i : Nat} (h : i ∉ DS d b sl) : i ∉ TS b sl := fun hm => h (List.mem_cons_of_mem _ hm)
set_option maxHeartbeats 12800000 in
theorem waits_any {v : Value} {l : List Fd} (w : World) (hF : Fix w) (hE : ErrT w) (hr : RdC 2 w v l.length (fdC l)) : Calls Tryz.prog 5 #[v] w (Yes w) := by
  have HNE := Lib.hid (newEnc_yes 4096 w (by decide))
  have HND : Hid (∀ W, Calls Tryz.prog 19 #[.int .i64 (4096 : Nat)] W fun e w' => ∃ d b, e = .returned (.tuple #[.pointer (some ⟨d, 0, none⟩), .int .i64 0]) ∧ Dcd d b (.slice none 0 0) (newT 4096) w' ∧ W.heap.size ≤ d ∧ W.heap.size ≤ b ∧ Below W.heap.size W w') := fun W => newDec_yes 4096 W (by decide)
  have HF := Lib.hid hF
  have HE := Lib.hid hE
  have HR := Lib.hid hr
  have HVB : Hid (l ≠ [] → ∀ j, v.ownBlock = some j → j < w.heap.size) := fun h0 j hj => hr.blt (by cases l with | nil => exact absurd rfl h0 | cons a b => simp) j hj
  obtain ⟨va, vc, rfl, _, _⟩ := hr.isSlice
  clear hF hE hr
  go_enter Tryz.func5, Tryz.ntmps5
  go_upto_region 5 with (first
    | (go_at_call 9; refine HNE.out.mono ?_; rintro e w1 ⟨en, c, rfl, h1, h2, h3, h4⟩; have H1 := Lib.hid h1; have H2 := Lib.hid h2; have H3 := Lib.hid h3; have H4 := Lib.hid h4; clear h1 h2 h3 h4)
    | (go_at_call 19; refine (HND.out _).mono ?_; rintro e w2 ⟨d, b, rfl, h5, h6, h7, h8⟩; have TWO2 := Lib.hid (Two.made HF.out HE.out H1.out H2.out H3.out H4.out h5 h6 h7 h8); clear h5 h6 h7 h8)
    | (go_at_call 11; refine (alive_any _ TWO2.out.m1.fixN (HE.out.below TWO2.out.m1.bel)).mono ?_; rintro e w3 ⟨rfl, hb3⟩; have TWO3 := Lib.hid (TWO2.out.below hb3); clear hb3))
  clear HND HNE H1 H2 H3 H4
  have HCAP : Hid (Calls Tryz.prog 13 #[.pointer (some ⟨en, 0, none⟩), .int .i64 4096] w3 fun e w' => ∃ sl' v7, Two w en c sl' qCap d b (.slice none 0 0) (newT 4096) w' ∧ e = .returned (.tuple #[v7, .int .i64 0]) ∧ Own .u8 5 w' w3.heap.size v7 (encP 32 5 4096) ∧ ∀ j, v7.ownBlock = some j → j ∉ TS c sl') := by
    refine (esetcap_any 4096 w3 TWO3.out.m1.dcd (by decide)).mono ?_
    rintro e w' ⟨sl', ⟨h1, h2, h3⟩, hh⟩
    rw [qCap_is] at h1 hh
    rcases hh with ⟨h4, _⟩ | ⟨_, v7, h5, h6, h7⟩
    · exact absurd rfl h4
    · exact ⟨sl', v7, TWO3.out.step1 h1 h2 h3, h5, h6, h7⟩
  go_upto_region 6 with (go_at_call 13; refine HCAP.out.mono ?_; rintro e w4 ⟨sl1, v7, ht4, rfl, ho7, hn7⟩; have TWO4 := Lib.hid ht4; have O7 := Lib.hid ho7; have N7 := Lib.hid hn7; clear ht4 ho7 hn7)
  clear HCAP
  have HENC := Lib.hid (encode_any true w4 TWO4.out.m1.dcd (HR.out.below TWO4.out.m1.bel) (fun h0 j hj hm => by
      have h1 := TWO4.out.m1.fresh j (List.mem_cons_of_mem _ hm)
      have h2 := HVB.out h0 j hj
      omega) TWO4.out.m1.fixN TWO4.out.m1.fx (by rw [qCap_n]; decide))
  by_cases herr : encErr l = 0
  · have HER := Lib.hid herr
    clear herr
    go_upto_region 9 with (go_at_call 15; refine HENC.out.mono ?_; rintro e w5 he; obtain ⟨q', m, need, kept, ins, lines, vi, vs, hT, hm, rfl, oi, os, hd⟩ := he.2 HER.out; have HT := Lib.hid hT; have HM := Lib.hid hm; have OI := Lib.hid oi; have OS := Lib.hid os; have HD5 := Lib.hid hd; clear he hT hm oi os hd)
    have HL64 : Hid (l.length ≤ 64) := encErr_le HER.out
    have HLL : Hid (l.length ≤ 4611686018427387904) := by have := HL64.out; show l.length ≤ 4611686018427387904; omega
    have HQ : Hid (countN q' ≤ 64 ∧ m ≤ 64) := by
      have h1 := HT.out.cnt
      have h2 := HM.out
      have h3 := HL64.out
      have h4 := qCap_n
      exact ⟨by omega, by omega⟩
    have HSEC : Hid (Bts (secN qCap need lines) ∧ (secN qCap need lines).length ≤ 80000) := by
      obtain ⟨h1, h2⟩ := sec_fits HT.out (by have := HQ.out; omega)
      have := HL64.out
      exact ⟨h1, by omega⟩
    have HIN : Hid (ins.length ≤ 80000) := by
      have h1 := HT.out.sI
      have h2 := HQ.out
      show ins.length ≤ 80000
      omega
    have HM5 : Hid (Mq w d b (.slice none 0 0) (newT 4096) w5 ∧ Own .u8 5 w5 w3.heap.size v7 (encP 32 5 4096)) := by
      obtain ⟨sl1', t5, k5⟩ := TWO4.out.did1 HD5.out
      exact ⟨t5.m2, own_keep O7.out k5 (fun j hj => N7.out j hj)⟩
    have HAP3 : Hid (∀ j, w3.heap.size ≤ j → j ∉ DS d b (.slice none 0 0)) := fun j hj hm => by have := TWO3.out.m2.lt j hm; omega
    have HW34 : Hid (w3.heap.size ≤ w4.heap.size ∧ w4.heap.size ≤ w5.heap.size) := by
      obtain ⟨_, _, _, hk⟩ := HD5.out
      obtain ⟨g, hg⟩ : ∃ g, v7.ownBlock = some g := by
        rcases (O7.out).2 with ⟨e, e2⟩ | ⟨g, cap, cur, e, _⟩
        · have h1 := encP_len 32 5 4096
          have h2 := sizeN_pos 5 4096
          omega
        · exact ⟨g, by rw [e]; rfl⟩
      have h1 := O7.out.blk g hg
      have h2 := O7.out.blt g hg
      exact ⟨by omega, hk.size⟩
    have HFEED : Hid (Calls Tryz.prog 20 #[.pointer (some ⟨d, 0, none⟩), v7] w5 fun e w' => e = .returned (.agg #[.int .i64 0, .int .i64 0]) ∧ ∃ sl2, Mq w d b sl2 qCap w' ∧ (∀ j, sl2.ownBlock = some j → w5.heap.size ≤ j) ∧ Own .u8 5 w' w4.heap.size vi ins ∧ Own .u8 5 w' w4.heap.size vs (secN qCap need lines) ∧ w5.heap.size ≤ w'.heap.size) := by
      have hen := sizeN_le (w := 5) (n := (4096 : Int)) (by omega)
      rw [← encP_len 32] at hen
      refine (feed_any w5 HM5.out.1.dcd HM5.out.1.gl HM5.out.2.rd (fun _ j hj => ds_ts (HAP3.out j (HM5.out.2.blk j hj))) (encP_bts ⟨by decide, by decide, by omega, by omega⟩) (by omega) (by have : countN (newT 4096) = 0 := rfl; omega)).mono ?_
      rintro e w' ⟨he, hd⟩
      rw [qCap_fed] at he hd
      obtain ⟨sl2, h1, h2, h3⟩ := HM5.out.1.did hd
      refine ⟨he, sl2, h1, fun j hj => ?_, own_keep OI.out h3 (fun j hj => ds_ts (HAP3.out j (Nat.le_trans HW34.out.1 (OI.out.blk j hj)))), own_keep OS.out h3 (fun j hj => ds_ts (HAP3.out j (Nat.le_trans HW34.out.1 (OS.out.blk j hj)))), h3.size⟩
      rcases h2 j hj with e1 | e1
      · cases e1
      · exact e1
    have HVIS : Hid ((∀ j, vi.ownBlock = some j → w4.heap.size ≤ j ∧ j < w5.heap.size) ∧ (∀ j, vs.ownBlock = some j → w4.heap.size ≤ j ∧ j < w5.heap.size)) := ⟨fun j hj => ⟨OI.out.blk j hj, OI.out.blt j hj⟩, fun j hj => ⟨OS.out.blk j hj, OS.out.blt j hj⟩⟩
    have qt : ∀ W, (Op.equalIn 10000 42 (.agg #[.int .i64 0, .int .i64 0]) (.agg #[.int .i64 0, .int .i64 0])).run Tryz.prog W = .ok true W := fun W => by have := eqQ_any 0 0 0 0 W; rw [decide_eq_true ⟨rfl, rfl⟩] at this; exact this
    go_upto_region 11 with (go_at_call 20; refine HFEED.out.mono ?_; rintro e w6 ⟨rfl, sl2, hm6, hs6, oi6, os6, hz6⟩; have M6 := Lib.hid hm6; have S6 := Lib.hid hs6; have OI6 := Lib.hid oi6; have OS6 := Lib.hid os6; have Z6 := Lib.hid hz6; clear hm6 hs6 oi6 os6 hz6)
    clear HFEED HENC
    have HNV : Hid ((∀ j, vi.ownBlock = some j → j ∉ TS b sl2) ∧ (∀ j, vs.ownBlock = some j → j ∉ TS b sl2)) := by
      have hb2 := TWO3.out.m2.dcd.tbl.lt
      have hz := HW34.out
      refine ⟨fun j hj hm => ?_, fun j hj hm => ?_⟩
      · have h1 := HVIS.out.1 j hj
        rcases mem_TS.1 hm with e | e
        · omega
        · have := S6.out j e; omega
      · have h1 := HVIS.out.2 j hj
        rcases mem_TS.1 hm with e | e
        · omega
        · have := S6.out j e; omega
    have HAFTER : Hid (∀ W, Below w6.heap.size w6 W → Calls Tryz.prog 20 #[.pointer (some ⟨d, 0, none⟩), vi] W fun e w' => e = .returned (.agg #[.int .i64 0, .int .i64 0]) ∧ Calls Tryz.prog 21 #[.pointer (some ⟨d, 0, none⟩), vs] w' (DecIs14 w' (l, 0, 0)) ∧ Below w.heap.size w w') := fun W hW => by
      have m6 := M6.out.below hW
      refine (feed_any W m6.dcd m6.gl (OI6.out.below hW).rd (fun _ j hj => HNV.out.1 j hj) HT.out.bI (by have := HIN.out; omega) (by have := HIN.out; rw [qCap_n]; omega)).mono ?_
      rintro e w' ⟨he, hd⟩
      rw [HT.out.fed] at he hd
      obtain ⟨sl3, h1, h2, h3⟩ := m6.did hd
      refine ⟨he, ?_, h1.bel⟩
      have os7 := own_keep (OS6.out.below hW) h3 (fun j hj => HNV.out.2 j hj)
      have := decode_any w' h1.dcd h1.gl os7.rd (fun _ j hj hm => by
        rcases mem_TS.1 hm with e1 | e1
        · exact HNV.out.2 j hj (mem_TS.2 (.inl e1))
        · rcases h2 j e1 with e2 | e2
          · exact HNV.out.2 j hj (mem_TS.2 (.inr e2))
          · have h4 := HVIS.out.2 j hj
            have h5 := hW.size
            have h6 := Z6.out
            omega) HSEC.out.1 (by have := HSEC.out; omega) (show countN q' ≤ 1152921504606846976 by have := HQ.out; omega)
      rw [HT.out.dec HL64.out (by have := HQ.out; omega) q' (Ext.refl _ _) HT.out.need_le] at this
      exact this
    have HDEC1 := Lib.hid (decode_any w6 M6.out.dcd M6.out.gl OS6.out.rd (fun _ j hj => HNV.out.2 j hj) HSEC.out.1 (by have := HSEC.out; omega) (by rw [qCap_n]; decide))
    by_cases hnd : need = 0
    · have HD1 : Hid (Calls Tryz.prog 21 #[.pointer (some ⟨d, 0, none⟩), vs] w6 (DecIs14 w6 (l, 0, 0))) := by
        have := HDEC1.out
        rw [decE0 qCap q' need hnd lines qCap, HT.out.dec HL64.out (by have := HQ.out; omega) q' (Ext.refl _ _) HT.out.need_le] at this
        exact this
      clear HDEC1 hnd
      go_upto_region 12 with (go_at_call 21; refine HD1.out.mono ?_; rintro e w7 ⟨u2, rfl, ho7, hb7⟩; have O7' := Lib.hid ho7; have B7 := Lib.hid hb7; obtain ⟨u2a, u2c, hu2, _, _⟩ := (RdC.of_owns ho7).isSlice; subst hu2; clear ho7 hb7)
      obtain ⟨w8, hw8⟩ : ∃ W, W = w7.alloc (.cells #[.int .i64 0, .int .i64 0] 42) := ⟨_, rfl⟩
      have hb8 : Below w7.heap.size w7 w8 := by rw [hw8]; exact below1 w7 _
      have B8 := Lib.hid (B7.out.trans (hb8.mono B7.out.size))
      have q8 : Cs w8 w7.heap.size [.int .i64 0, .int .i64 0] := by rw [hw8]; exact Cs.made w7 #[.int .i64 0, .int .i64 0] 42
      have c0 := q8.get 0 _ rfl
      have c1 := q8.get 1 _ rfl
      have HS8 := Lib.hid (same_eq w8 ((RdC.of_owns O7'.out).below hb8) (HR.out.below (M6.out.bel.trans (B8.out.mono M6.out.bel.size))) HLL.out)
      have M8 := Lib.hid (M6.out.below B8.out)
      rw [← hw8]
      clear hw8 hb8 q8
      go_upto_region 14 with (go_at_call 18; refine HS8.out.mono ?_; rintro e w9 ⟨rfl, hb9⟩; have BW := Lib.hid (B8.out.trans (hb9.mono B8.out.size)); clear hb9)
      go_wp2_with (first
        | (go_at_call 20; refine (HAFTER.out _ BW.out).mono ?_; rintro e w10 ⟨rfl, hdec, hb10⟩; have HDC10 := Lib.hid hdec; have B10 := Lib.hid hb10; clear hdec hb10)
        | (go_at_call 21; refine HDC10.out.mono ?_; rintro e w11 ⟨u3, rfl, ho11, hb11⟩; have O11 := Lib.hid ho11; have B11 := Lib.hid (B10.out.trans (hb11.mono B10.out.size)); obtain ⟨u3a, u3c, hu3, _, _⟩ := (RdC.of_owns ho11).isSlice; subst hu3; clear ho11 hb11)
        | (go_at_call 18; refine (same_eq _ ((RdC.of_owns O11.out).below (below1 _ _)) (HR.out.below (B11.out.alloc B11.out.size _)) HLL.out).mono ?_; rintro e w13 ⟨rfl, hb13⟩; have B13 := Lib.hid ((B11.out.alloc B11.out.size _).trans (hb13.mono (B11.out.alloc B11.out.size _).size)); clear hb13))
      go_ret
      exact ⟨rfl, B13.out⟩
    · have HD1 : Hid (Calls Tryz.prog 21 #[.pointer (some ⟨d, 0, none⟩), vs] w6 (DecIs14 w6 ([], 17, 0))) := by
        have := HDEC1.out
        rw [dec_waits qCap qCap need lines (by rw [qCap_n]; omega) (by have := HT.out.need_le; have := HQ.out; omega)] at this
        exact this
      have HINE : Hid (ins ≠ []) := fun h => by
        have h1 := HT.out.fed
        rw [h, feed_end (by simp)] at h1
        have h2 : q' = qCap := (Prod.mk.inj h1).1.symm
        have h3 := HT.out.need_le
        rw [h2, qCap_n] at h3
        omega
      clear HDEC1 hnd
      obtain ⟨via, vic, hvi⟩ := OI6.out.len
      have n1 : ((ins.length : Int) == 0) = false := by simp; exact HINE.out
      have n2 : (ins.length == 0) = false := by simpa using HINE.out
      have HVI := Lib.hid hvi
      subst hvi
      go_upto_region 12 with (go_at_call 21; refine HD1.out.mono ?_; rintro e w7 ⟨u2, rfl, ho7, hb7⟩; have O7' := Lib.hid ho7; have B7 := Lib.hid hb7; obtain ⟨u2a, u2c, hu2, _, _⟩ := (RdC.of_owns ho7).isSlice; subst hu2; clear ho7 hb7)
      obtain ⟨w8, hw8⟩ : ∃ W, W = w7.alloc (.cells #[.int .i64 17, .int .i64 0] 42) := ⟨_, rfl⟩
      have hb8 : Below w7.heap.size w7 w8 := by rw [hw8]; exact below1 w7 _
      have B8 := Lib.hid (B7.out.trans (hb8.mono B7.out.size))
      have q8 : Cs w8 w7.heap.size [.int .i64 17, .int .i64 0] := by rw [hw8]; exact Cs.made w7 #[.int .i64 17, .int .i64 0] 42
      have c0 := q8.get 0 _ rfl
      have c1 := q8.get 1 _ rfl
      have M8 := Lib.hid (M6.out.below B8.out)
      have HCN : Hid (Calls Tryz.prog 22 #[.pointer (some ⟨d, 0, none⟩)] w8 fun e w' => e = .returned (.int .i64 0) ∧ Below w8.heap.size w8 w') := by
        have := dcount_any w8 M8.out.dcd (by rw [qCap_n]; decide)
        rw [qCap_n] at this
        exact this
      have HQ8 := Lib.hid q8
      rw [← hw8]
      clear hw8 hb8 q8
      go_upto_region 14 with (go_at_call 22; refine HCN.out.mono ?_; rintro e w9 ⟨rfl, hb9⟩; have BW := Lib.hid (B8.out.trans (hb9.mono B8.out.size)); have y0 := (HQ8.out.below hb9).get 0 _ rfl; have y1 := (HQ8.out.below hb9).get 1 _ rfl; clear hb9)
      go_wp2_with (first
        | (go_at_call 20; refine (HAFTER.out _ BW.out).mono ?_; rintro e w10 ⟨rfl, hdec, hb10⟩; have HDC10 := Lib.hid hdec; have B10 := Lib.hid hb10; clear hdec hb10)
        | (go_at_call 21; refine HDC10.out.mono ?_; rintro e w11 ⟨u3, rfl, ho11, hb11⟩; have O11 := Lib.hid ho11; have B11 := Lib.hid (B10.out.trans (hb11.mono B10.out.size)); obtain ⟨u3a, u3c, hu3, _, _⟩ := (RdC.of_owns ho11).isSlice; subst hu3; clear ho11 hb11)
        | (go_at_call 18; refine (same_eq _ ((RdC.of_owns O11.out).below (below1 _ _)) (HR.out.below (B11.out.alloc B11.out.size _)) HLL.out).mono ?_; rintro e w13 ⟨rfl, hb13⟩; have B13 := Lib.hid ((B11.out.alloc B11.out.size _).trans (hb13.mono (B11.out.alloc B11.out.size _).size)); clear hb13))
      go_ret
      exact ⟨rfl, B13.out⟩
  · have HER := Lib.hid herr
    have HNZ : Hid (encErr l ≠ 0) := herr
    have d1 : (encErr l == 0) = false := by simp [herr]
    have d2 : (encErr l != 0) = true := by simp [herr]
    clear herr
    have HRT : Hid (∀ W, Below w.heap.size w W → Calls Tryz.prog 16 #[.slice va l.length vc] W fun e w' => e = .returned (.int .i64 (encErr l)) ∧ Below W.heap.size W w') := fun W hW => r14right_any W (HR.out.below hW)
    have HEE : Hid (Calls Tryz.prog 15 #[.pointer (some ⟨en, 0, none⟩), .slice va l.length vc, .bool true] w4 fun e w' => e = .returned (.tuple #[.slice none 0 0, .slice none 0 0, .int .i64 (encErr l)]) ∧ Below w.heap.size w w') := HENC.out.mono fun e w' he => ⟨(he.1 HNZ.out).1, TWO4.out.m1.bel.trans ((he.1 HNZ.out).2.mono TWO4.out.m1.bel.size)⟩
    clear HENC HER HNZ
    generalize encErr l = er at HRT HEE d1 d2
    go_wp2_with (first
      | (go_at_call 15; refine HEE.out.mono ?_; rintro e w5 ⟨rfl, hb5⟩; have B5 := Lib.hid hb5; clear hb5)
      | (go_at_call 16; refine (HRT.out _ B5.out).mono ?_; rintro e w6 ⟨rfl, hb6⟩; have B6 := Lib.hid (B5.out.trans (hb6.mono B5.out.size)); clear hb6))
    go_ret
    exact ⟨rfl, B6.out⟩
end Go.Proofs.YtbkbabaoockigaaGreatDoor

set_option maxRecDepth 100000
set_option linter.unusedSimpArgs false
set_option linter.unusedVariables false
namespace Go.Proofs.YtbkbabaoockigaaGreatDoor
open Go.RowKit

/-- nil, or made by nobody -/
def Nob (p : Value) (w : World) : Prop := p = .pointer none ∨ ∃ g, p = .pointer (some ⟨g, 0, none⟩) ∧ Cs w g [.pointer none]
theorem Nob.below {p : Value} {w w' : World} (h : Nob p w) (hb : Below w.heap.size w w') : Nob p w' := by
  rcases h with h | ⟨g, h1, h2⟩
  · exact .inl h
  · exact .inr ⟨g, h1, h2.below hb⟩
theorem no_dgiven {p : Value} (w : World) (h : Nob p w) : Calls Tryz.prog 36 #[p] w fun e w' => e = .returned (.bool false) ∧ w' = w := by
  rcases h with rfl | ⟨g, rfl, h2⟩
  · go_enter Tryz.func36, Tryz.ntmps36
    go_wp2
    go_ret
    exact ⟨rfl, rfl⟩
  · have c0 := h2.get 0 _ rfl
    clear h2
    go_enter Tryz.func36, Tryz.ntmps36
    go_wp2
    go_ret
    exact ⟨rfl, rfl⟩
theorem no_egiven {p : Value} (w : World) (h : Nob p w) : Calls Tryz.prog 26 #[p] w fun e w' => e = .returned (.bool false) ∧ w' = w := by
  rcases h with rfl | ⟨g, rfl, h2⟩
  · go_enter Tryz.func26, Tryz.ntmps26
    go_wp2
    go_ret
    exact ⟨rfl, rfl⟩
  · have c0 := h2.get 0 _ rfl
    clear h2
    go_enter Tryz.func26, Tryz.ntmps26
    go_wp2
    go_ret
    exact ⟨rfl, rfl⟩
theorem no_count {p : Value} (w : World) (h : Nob p w) : Calls Tryz.prog 22 #[p] w fun e w' => e = .returned (.int .i64 0) ∧ Below w.heap.size w w' := by
  have HG := Lib.hid (no_dgiven w h)
  clear h
  go_enter Tryz.func22, Tryz.ntmps22
  go_wp2_with (go_at_call 36; refine HG.out.mono ?_; rintro e w2 ⟨rfl, hh⟩; obtain rfl := hh.symm)
  go_ret
  exact ⟨rfl, Below.refl _ _⟩
theorem no_decode {p v : Value} (w : World) (h : Nob p w) : Calls Tryz.prog 21 #[p, v] w fun e w' => e = .returned (.tuple #[.slice none 0 0, .agg #[.int .i64 2, .int .i64 0]]) ∧ Below w.heap.size w w' := by
  obtain ⟨w1, hw1⟩ : ∃ W, W = w.alloc (.cells #[.int .i64 0, .int .i64 0] 42) := ⟨_, rfl⟩
  have hb1 : Below w.heap.size w w1 := by rw [hw1]; exact below1 w _
  have HQ1 : Hid (Cs w1 w.heap.size [.int .i64 0, .int .i64 0]) := by rw [hw1]; exact Cs.made w #[.int .i64 0, .int .i64 0] 42
  have c0 := HQ1.out.get 0 _ rfl
  have c1 := HQ1.out.get 1 _ rfl
  have z0 := HQ1.out.free 0
  have z1 := HQ1.out.free 1
  have HG := Lib.hid (no_dgiven w1 (h.below hb1))
  have HW1 := Lib.hid hw1
  have HB := Lib.hid hb1
  clear h hw1 hb1
  go_enter Tryz.func21, Tryz.ntmps21
  go_upto_region 1 with fail
  rw [← HW1.out]
  go_wp2_with (go_at_call 36; refine HG.out.mono ?_; rintro e w2 ⟨rfl, hh⟩; obtain rfl : w1 = w2 := hh.symm)
  have QD := (HQ1.out.set 0 (.int .i64 2)).set 1 (.int .i64 0)
  exact bodyPost_ret (dc_results rfl rfl (QD.get 0 _ rfl) (QD.get 1 _ rfl)) rfl ⟨rfl, (HB.out.setCell (p := ⟨w.heap.size, 0, none⟩) (Nat.le_refl _) _).setCell (p := ⟨w.heap.size, 1, none⟩) (Nat.le_refl _) _⟩
theorem no_feed {p v : Value} (w : World) (h : Nob p w) : Calls Tryz.prog 20 #[p, v] w fun e w' => e = .returned (.agg #[.int .i64 2, .int .i64 0]) ∧ Below w.heap.size w w' := by
  obtain ⟨w1, hw1⟩ : ∃ W, W = w.alloc (.cells #[.int .i64 0, .int .i64 0] 42) := ⟨_, rfl⟩
  have hb1 : Below w.heap.size w w1 := by rw [hw1]; exact below1 w _
  have HQ1 : Hid (Cs w1 w.heap.size [.int .i64 0, .int .i64 0]) := by rw [hw1]; exact Cs.made w #[.int .i64 0, .int .i64 0] 42
  have c0 := HQ1.out.get 0 _ rfl
  have c1 := HQ1.out.get 1 _ rfl
  have z0 := HQ1.out.free 0
  have z1 := HQ1.out.free 1
  have HG := Lib.hid (no_dgiven w1 (h.below hb1))
  have HW1 := Lib.hid hw1
  have HB := Lib.hid hb1
  clear h hw1 hb1
  go_enter Tryz.func20, Tryz.ntmps20
  go_upto_region 1 with fail
  rw [← HW1.out]
  go_wp2_with (go_at_call 36; refine HG.out.mono ?_; rintro e w2 ⟨rfl, hh⟩; obtain rfl : w1 = w2 := hh.symm)
  have QD := (HQ1.out.set 0 (.int .i64 2)).set 1 (.int .i64 0)
  exact bodyPost_ret (feed_results rfl (QD.get 0 _ rfl) (QD.get 1 _ rfl)) rfl ⟨rfl, (HB.out.setCell (p := ⟨w.heap.size, 0, none⟩) (Nat.le_refl _) _).setCell (p := ⟨w.heap.size, 1, none⟩) (Nat.le_refl _) _⟩
theorem no_setcap {p : Value} (n : Int) (w : World) (h : Nob p w) : Calls Tryz.prog 13 #[p, .int .i64 n] w fun e w' => e = .returned (.tuple #[.slice none 0 0, .int .i64 2]) ∧ Below w.heap.size w w' := by
  have HG := Lib.hid (no_egiven w h)
  clear h
  go_enter Tryz.func13, Tryz.ntmps13
  go_wp2_with (go_at_call 26; refine HG.out.mono ?_; rintro e w2 ⟨rfl, hh⟩; obtain rfl := hh.symm)
  go_ret2
  exact ⟨rfl, Below.refl _ _⟩
theorem no_encode {p v : Value} (put : Bool) (w : World) (h : Nob p w) : Calls Tryz.prog 15 #[p, v, .bool put] w fun e w' => e = .returned (.tuple #[.slice none 0 0, .slice none 0 0, .int .i64 2]) ∧ Below w.heap.size w w' := by
  have HG := Lib.hid (no_egiven w h)
  clear h
  go_enter Tryz.func15, Tryz.ntmps15
  go_wp2_with (go_at_call 26; refine HG.out.mono ?_; rintro e w2 ⟨rfl, hh⟩; obtain rfl := hh.symm)
  go_ret3
  exact ⟨rfl, Below.refl _ _⟩
end Go.Proofs.YtbkbabaoockigaaGreatDoor

set_option maxRecDepth 100000
set_option linter.unusedSimpArgs false
set_option linter.unusedVariables false
namespace Go.Proofs.YtbkbabaoockigaaGreatDoor
open Go.RowKit

set_option maxHeartbeats 6400000 in
theorem nobody_any (kd : Int) (ba : Option Addr) (bn bc : Nat) (fa : Option Addr) (fn fc : Nat) (put : Bool) (cp : Int) (w : World) (hF : Fix w) (hE : ErrT w) :
    Calls Tryz.prog 8 #[.agg #[.int .u8 kd, .slice ba bn bc], .agg #[.slice fa fn fc, .bool put, .int .i64 cp]] w (Yes w) := by
  have HF := Lib.hid hF
  have HE := Lib.hid hE
  clear hF hE
  obtain ⟨w1, hw1⟩ : ∃ W, W = w.alloc (.cells #[.int .u8 kd, .slice ba bn bc] 58) := ⟨_, rfl⟩
  obtain ⟨w2, hw2⟩ : ∃ W, W = w1.alloc (.cells #[.slice fa fn fc, .bool put, .int .i64 cp] 37) := ⟨_, rfl⟩
  obtain ⟨w3, hw3⟩ : ∃ W, W = w2.alloc (.cells #[.pointer none] 64) := ⟨_, rfl⟩
  obtain ⟨w4, hw4⟩ : ∃ W, W = w3.alloc (.cells #[.pointer none, .pointer (some ⟨w2.heap.size, 0, none⟩)] 51) := ⟨_, rfl⟩
  have hb1 : Below w.heap.size w w1 := by rw [hw1]; exact below1 w _
  have hb2 : Below w1.heap.size w1 w2 := by rw [hw2]; exact below1 w1 _
  have hb3 : Below w2.heap.size w2 w3 := by rw [hw3]; exact below1 w2 _
  have hb4 : Below w3.heap.size w3 w4 := by rw [hw4]; exact below1 w3 _
  have hq1 : Cs w1 w.heap.size [.int .u8 kd, .slice ba bn bc] := by rw [hw1]; exact Cs.made w _ _
  have hq2 : Cs w2 w1.heap.size [.slice fa fn fc, .bool put, .int .i64 cp] := by rw [hw2]; exact Cs.made w1 _ _
  have hq3 : Cs w3 w2.heap.size [.pointer none] := by rw [hw3]; exact Cs.made w2 _ _
  have hq4 : Cs w4 w3.heap.size [.pointer none, .pointer (some ⟨w2.heap.size, 0, none⟩)] := by rw [hw4]; exact Cs.made w3 _ _
  have hs1 : w1.heap.size = w.heap.size + 1 := by rw [hw1]; simp
  rw [hs1] at hq2
  have HQ1 := Lib.hid (((hq1.below hb2).below hb3).below hb4)
  have HQ2 := Lib.hid ((hq2.below hb3).below hb4)
  have HQ3 := Lib.hid (hq3.below hb4)
  have hs3 : w3.heap.size = w2.heap.size + 1 := by rw [hw3]; simp
  rw [hs3] at hq4
  have HQ4 := Lib.hid hq4
  have HS4 : Hid (w2.heap.size + 1 < w4.heap.size) := hq4.lt
  have HB4 : Hid (Below w.heap.size w w4) := ((hb1.trans (hb2.mono hb1.size)).trans (hb3.mono (Nat.le_trans hb1.size hb2.size))).trans (hb4.mono (Nat.le_trans hb1.size (Nat.le_trans hb2.size hb3.size)))
  have HW1 := Lib.hid hw1
  have HW2 := Lib.hid hw2
  have HW3 := Lib.hid hw3
  have HW4 := Lib.hid hw4
  clear hs1 hs3 hw1 hw2 hw3 hw4 hb1 hb2 hb3 hb4 hq1 hq2 hq3 hq4
  have qt : ∀ W, (Op.equalIn 10000 42 (.agg #[.int .i64 2, .int .i64 0]) (.agg #[.int .i64 2, .int .i64 0])).run Tryz.prog W = .ok true W := fun W => by have := eqQ_any 2 0 2 0 W; rw [decide_eq_true ⟨rfl, rfl⟩] at this; exact this
  go_enter Tryz.func8, Tryz.ntmps8
  go_upto_region 1 with fail
  rw [← HW1.out, ← HW2.out]
  go_wp2_with fail
  rw [← HW3.out, ← HW4.out]
  go_loopw [20] (fun i wr => ∃ k : Nat, i = .int .i64 (k : Int) ∧ k ≤ 2 ∧ Below w4.heap.size w4 wr) (fun i _ => 2 - (intOf i).toNat)
  case atStart => exact ⟨0, rfl, by decide, Below.refl _ _⟩
  case round =>
    obtain ⟨k, rfl, hk, hbel⟩ := hrel
    have HB := Lib.hid hbel
    by_cases hkl : k < 2
    · obtain ⟨p, cp0, hnob⟩ : ∃ p, wr.cell? ⟨w2.heap.size + 1, k, none⟩ = some p ∧ Nob p wr := by
        have h4 := HQ4.out.below hbel
        have h3 := HQ3.out.below hbel
        have : k = 0 ∨ k = 1 := by omega
        rcases this with rfl | rfl
        · exact ⟨_, h4.get 0 _ rfl, .inl rfl⟩
        · exact ⟨_, h4.get 1 _ rfl, .inr ⟨_, rfl, h3⟩⟩
      have HN := Lib.hid hnob
      have hi1 : (k : Int) < 2 := by omega
      have hi2 : (0 : Int) ≤ (k : Int) := by omega
      have hw1 : IntKind.i64.wrap ((k : Int) + 1) = ((k + 1 : Nat) : Int) := by rw [wraps_i64' _ (by omega) (by omega)]; omega
      have HKL := Lib.hid hkl
      have q1 := HQ1.out.below hbel
      have x1 := q1.get 1 _ rfl
      clear hnob hbel hkl hk q1
      go_wp2_with (first
        | (go_at_call 21; refine (no_decode wr HN.out).mono ?_; rintro e w5 ⟨rfl, hb5⟩; obtain ⟨w6, hw6⟩ : ∃ W, W = w5.alloc (.cells #[.int .i64 2, .int .i64 0] 42) := ⟨_, rfl⟩; have hb6 : Below wr.heap.size wr w6 := (by rw [hw6]; exact hb5.alloc hb5.size _); have B6 := Lib.hid hb6; have q6 := (HQ1.out.below (HB.out.trans (hb6.mono HB.out.size))).get 1 _ rfl; have y6 : Cs w6 w5.heap.size [.int .i64 2, .int .i64 0] := (by rw [hw6]; exact Cs.made w5 _ _); have y0 := y6.get 0 _ rfl; have y1 := y6.get 1 _ rfl; rw [hw6] at q6 y0 y1; have HW6 := Lib.hid hw6; clear hb5 hb6 hw6 y6)
        | (go_at_call 20; rw [← HW6.out]; refine (no_feed _ (HN.out.below B6.out)).mono ?_; rintro e w7 ⟨rfl, hb7⟩; have B7 := Lib.hid (B6.out.trans (hb7.mono B6.out.size)); clear hb7)
        | (go_at_call 22; refine (no_count _ (HN.out.below B7.out)).mono ?_; rintro e w8 ⟨rfl, hb8⟩; have B8 := Lib.hid (B7.out.trans (hb8.mono B7.out.size)); clear hb8))
      exact ⟨⟨k + 1, by simp, HKL.out, HB.out.trans (B8.out.mono HB.out.size)⟩, by simp [intOf]; have := HKL.out; omega⟩
    · obtain rfl : k = 2 := by omega
      clear hk hkl
      obtain ⟨w5, hw5⟩ : ∃ W, W = wr.alloc (.cells #[.pointer none] 66) := ⟨_, rfl⟩
      obtain ⟨w6, hw6⟩ : ∃ W, W = w5.alloc (.cells #[.pointer none, .pointer (some ⟨wr.heap.size, 0, none⟩)] 23) := ⟨_, rfl⟩
      have hb5 : Below wr.heap.size wr w5 := by rw [hw5]; exact below1 wr _
      have hb6 : Below w5.heap.size w5 w6 := by rw [hw6]; exact below1 w5 _
      have hq5 : Cs w5 wr.heap.size [.pointer none] := by rw [hw5]; exact Cs.made wr _ _
      have hs5 : w5.heap.size = wr.heap.size + 1 := by rw [hw5]; simp
      have hq6 : Cs w6 w5.heap.size [.pointer none, .pointer (some ⟨wr.heap.size, 0, none⟩)] := by rw [hw6]; exact Cs.made w5 _ _
      rw [hs5] at hq6
      have HQ5 := Lib.hid (hq5.below hb6)
      have HQ6 := Lib.hid hq6
      have HB6 : Hid (Below w4.heap.size w4 w6) := (hbel.trans (hb5.mono hbel.size)).trans (hb6.mono (Nat.le_trans hbel.size hb5.size))
      have HW5 := Lib.hid hw5
      have HW6 := Lib.hid hw6
      clear hw5 hw6 hb5 hb6 hq5 hq6 hs5 hbel
      have hi1 : ¬ (((2 : Nat) : Int) < 2) := by omega
      go_wp2_with fail
      rw [← HW5.out, ← HW6.out]
      obtain ⟨nz, hnz⟩ : ∃ n, n = wr.heap.size := ⟨_, rfl⟩
      rw [← hnz] at HQ5 HQ6 ⊢
      clear hnz
      go_loopw [57] (fun i wx => ∃ k : Nat, i = .int .i64 (k : Int) ∧ k ≤ 2 ∧ Below w6.heap.size w6 wx) (fun i _ => 2 - (intOf i).toNat)
      case atStart => exact ⟨0, rfl, by decide, Below.refl _ _⟩
      case round =>
        obtain ⟨k, rfl, hk, hbel⟩ := hrel
        have HBX := Lib.hid hbel
        by_cases hkl : k < 2
        · obtain ⟨p, cp0, hnob⟩ : ∃ p, wr.cell? ⟨nz + 1, k, none⟩ = some p ∧ Nob p wr := by
            have h4 := HQ6.out.below hbel
            have h3 := HQ5.out.below hbel
            have : k = 0 ∨ k = 1 := by omega
            rcases this with rfl | rfl
            · exact ⟨_, h4.get 0 _ rfl, .inl rfl⟩
            · exact ⟨_, h4.get 1 _ rfl, .inr ⟨_, rfl, h3⟩⟩
          have HN := Lib.hid hnob
          have hi1 : (k : Int) < 2 := by omega
          have hi2 : (0 : Int) ≤ (k : Int) := by omega
          have hw1 : IntKind.i64.wrap ((k : Int) + 1) = ((k + 1 : Nat) : Int) := by rw [wraps_i64' _ (by omega) (by omega)]; omega
          have HKL := Lib.hid hkl
          have q2 := HQ2.out.below (HB6.out.trans (hbel.mono HB6.out.size))
          have x2 := q2.get 2 _ rfl
          clear hnob hbel hkl hk q2
          go_wp2_with (first
            | (go_at_call 13; refine (no_setcap cp wr HN.out).mono ?_; rintro e w7 ⟨rfl, hb7⟩; have B7 := Lib.hid hb7; have q7 := HQ2.out.below (HB6.out.trans ((HBX.out.trans (hb7.mono HBX.out.size)).mono HB6.out.size)); have y0 := q7.get 0 _ rfl; have y1 := q7.get 1 _ rfl; clear hb7 q7)
            | (go_at_call 15; refine (no_encode put _ (HN.out.below B7.out)).mono ?_; rintro e w8 ⟨rfl, hb8⟩; have B8 := Lib.hid (B7.out.trans (hb8.mono B7.out.size)); clear hb8))
          exact ⟨⟨k + 1, by simp, HKL.out, HBX.out.trans (B8.out.mono HBX.out.size)⟩, by simp [intOf]; have := HKL.out; omega⟩
        · obtain rfl : k = 2 := by omega
          have hi1 : ¬ (((2 : Nat) : Int) < 2) := by omega
          have HB9 := Lib.hid (HB4.out.trans ((HB6.out.trans (hbel.mono HB6.out.size)).mono HB4.out.size))
          have HAL := Lib.hid (alive_any _ (HF.out.below HB9.out HF.out.pos) (HE.out.below HB9.out))
          clear hk hkl hbel
          go_wp2_with (go_at_call 11; refine HAL.out.mono ?_; rintro e w9 ⟨rfl, hb9⟩; have B9 := Lib.hid (HB9.out.trans (hb9.mono HB9.out.size)); clear hb9)
          go_ret
          exact ⟨rfl, B9.out⟩
end Go.Proofs.YtbkbabaoockigaaGreatDoor

set_option maxRecDepth 100000
set_option linter.unusedSimpArgs false
set_option linter.unusedVariables false
namespace Go.Proofs.YtbkbabaoockigaaGreatDoor
open Go.RowKit

def plainF (f : Fd) : List Int := (encP 32 3 f.n.size ++ bytesOf f.n) ++ (encP 0 7 f.v.size ++ bytesOf f.v)
def plainL (l : List Fd) : List Int := l.flatMap plainF
theorem plainL_append (a b : List Fd) : plainL (a ++ b) = plainL a ++ plainL b := by simp [plainL]
theorem plainL_one (f : Fd) : plainL [f] = plainF f := by simp [plainL]
theorem plainF_fits {f : Fd} (hn : f.n.size ≤ 64) (hv : f.v.size ≤ 512) : Bts (plainF f) ∧ plainF f ≠ [] ∧ (plainF f).length ≤ 1100 := by
  have h1 := sizeN_le (w := 3) (n := (f.n.size : Int)) (by omega)
  have h2 := sizeN_le (w := 7) (n := (f.v.size : Int)) (by omega)
  have h3 := encP_ne 32 3 f.n.size
  refine ⟨Bts.append (Bts.append (encP_bts ⟨by decide, by decide, by omega, by omega⟩) (bytesOf_bts _)) (Bts.append (encP_bts ⟨by decide, by decide, by omega, by omega⟩) (bytesOf_bts _)), ?_, ?_⟩
  · intro h
    unfold plainF at h
    simp only [List.append_eq_nil_iff] at h
    exact h3 h.1.1
  · unfold plainF
    simp only [List.length_append, bytesOf_len, encP_len]
    omega
theorem plain_grow : ∀ (r l : List Fd), Tel (newT 0) true (newT 0) 0 0 4611686018427387903 [] (plainL l) l → (∀ f ∈ r, bigF f = false) → Tel (newT 0) true (newT 0) 0 0 4611686018427387903 [] (plainL (l ++ r)) (l ++ r)
  | [], l, T, _ => by rw [List.append_nil]; exact T
  | f :: r, l, T, h => by
    have hf := h f (by simp)
    simp only [bigF, Bool.or_eq_false_iff, decide_eq_false_iff_not] at hf
    obtain ⟨h1, h2, h3⟩ := plainF_fits (f := f) (by omega) (by omega)
    have T1 : Tel (newT 0) true (newT 0) 0 0 4611686018427387903 [] (plainL (l ++ [f])) (l ++ [f]) := by
      rw [plainL_append, plainL_one]
      refine T.put_line h1 h2 h3 (Nat.le_refl _) (Nat.zero_le _) (Nat.le_refl _) (Nat.zero_le _) (fun h => by cases h) (fun q' need' pre post _ _ => ?_)
      have := line_told q' need' ((countN (newT 0) : Nat) : Int) f.n f.v (encP 32 3 f.n.size ++ bytesOf f.n) (encP 0 7 f.v.size ++ bytesOf f.v) (.inr rfl) (by omega) (.inr rfl) (by omega) pre post
      exact this
    have := plain_grow r (l ++ [f]) T1 (fun x hx => h x (by simp [hx]))
    rw [List.append_assoc] at this
    exact this
theorem plain_tel (l : List Fd) (h : ∀ f ∈ l, bigF f = false) : Tel (newT 0) true (newT 0) 0 0 4611686018427387903 [] (plainL l) l :=
  plain_grow l [] (Tel.start (newT_ok 0 (by decide)) true (by decide)) h
theorem plain_dec (q : TQ) (l : List Fd) (h : encErr l = 0) : decE q ([0, 0] ++ plainL l) = (l, 0, 0) := by
  have hl := encErr_le h
  have hs : ∀ f ∈ l, bigF f = false := fun f hf => by
    unfold encErr at h
    rw [if_neg (by omega)] at h
    split at h
    · cases h
    · rename_i h2
      cases hb : bigF f with
      | false => rfl
      | true => exact absurd (List.any_eq_true.2 ⟨f, hf, hb⟩) h2
  have e : ([0, 0] : List Int) ++ plainL l = secN (newT 0) 0 (plainL l) := by rfl
  rw [e, decE0 q (newT 0) 0 rfl]
  exact (plain_tel l hs).dec hl (by decide) (newT 0) (Ext.refl _ _) (Nat.zero_le _)
theorem plain_len (l : List Fd) (h : ∀ f ∈ l, bigF f = false) : Bts (plainL l) ∧ (plainL l).length ≤ 1100 * l.length := by
  have := plain_tel l h
  exact ⟨this.bL, this.sL⟩
theorem small_of {l : List Fd} (h : encErr l = 0) : ∀ f ∈ l, bigF f = false := fun f hf => by
  have hl := encErr_le h
  unfold encErr at h
  rw [if_neg (by omega)] at h
  split at h
  · cases h
  · rename_i h2
    cases hb : bigF f with
    | false => rfl
    | true => exact absurd (List.any_eq_true.2 ⟨f, hf, hb⟩) h2
/-- bytes grown behind bytes of the call's own -/
theorem App.based {B : Nat} {v v' : Value} {xs ys : List Int} {w w' : World} (hv : Own .u8 5 w B v xs) (hB : B ≤ w.heap.size) (h : App v ys w v' w') : Own .u8 5 w' B v' ys ∧ Below B w w' := by
  have ho : ∀ j, v'.ownBlock = some j → B ≤ j := fun j hj => by
    rcases h.own j hj with e | e
    · exact hv.blk j e
    · omega
  refine ⟨⟨h.row.1, ?_⟩, h.keep.to_below (fun i hi => hv.blk i (by cases hx : v.ownBlock <;> simp [hx] at hi ⊢; exact hi.symm)) hB⟩
  rcases h.row.2 with e | ⟨g, cap, cur, e1, _, e3⟩
  · exact .inl e
  · exact .inr ⟨g, cap, cur, e1, ho g (by rw [e1]; rfl), e3⟩
theorem rput_own {B : Nat} {v : Value} {xs : List Int} (f k n : Int) (w : World) (ho : Own .u8 5 w B v xs) (hB : B ≤ w.heap.size) (hl : xs.length ≤ 140737488351232) (hok : OkP f k n) :
    Calls Tryz.prog 43 #[v, .int .i64 f, .int .i64 k, .int .i64 n] w fun e w' => ∃ u, e = .returned (.tuple #[u, .int .i64 0]) ∧ Own .u8 5 w' B u (xs ++ encP f k n) ∧ Below B w w' := by
  refine (rput_any v xs f k n w ho.rd hl).mono ?_
  rintro e w' ⟨u, ys, c, rfl, h1, h2, h3⟩
  unfold putO at h3
  rw [if_pos hok] at h3
  rcases h3 with ⟨zs, h4, h5, rfl⟩ | ⟨h4, _⟩
  · cases h4
    subst h5
    exact ⟨u, rfl, h1.mono hB, h2.mono hB⟩
  · cases h4
set_option maxHeartbeats 12800000 in
theorem rplain_any {v : Value} {l : List Fd} (w : World) (hr : RdC 2 w v l.length (fdC l)) (h0 : encErr l = 0) :
    Calls Tryz.prog 23 #[v] w fun e w' => ∃ u, e = .returned u ∧ Own .u8 5 w' w.heap.size u ([0, 0] ++ plainL l) ∧ Below w.heap.size w w' := by
  have HS := Lib.hid (small_of h0)
  have HX := Lib.hid (encErr_le h0)
  have HR := Lib.hid hr
  obtain ⟨va, vc, rfl, _, _⟩ := hr.isSlice
  obtain ⟨w1, hw1⟩ : ∃ W, W = w.alloc (.cells #[.int .u8 0, .int .u8 0] 5) := ⟨_, rfl⟩
  have hb1 : Below w.heap.size w w1 := by rw [hw1]; exact below1 w _
  have ho1 : Own .u8 5 w1 w.heap.size (.slice (some ⟨w.heap.size, 0, none⟩) 2 2) [0, 0] := by
    rw [hw1]
    exact ⟨rfl, .inr ⟨w.heap.size, 2, _, rfl, Nat.le_refl _, heap_alloc_new w _, by simp, by decide, rfl, rfl⟩⟩
  have HB1 := Lib.hid hb1
  have HO1 := Lib.hid ho1
  have HW1 := Lib.hid hw1
  clear hr h0 hb1 ho1 hw1
  go_enter Tryz.func23, Tryz.ntmps23
  go_wp2_with fail
  rw [← HW1.out]
  go_loopw [3, 4] (fun u i wr => ∃ k : Nat, i = .int .i64 (k : Int) ∧ k ≤ l.length ∧ Own .u8 5 wr w.heap.size u ([0, 0] ++ plainL (l.take k)) ∧ Below w.heap.size w wr) (fun _ i _ => l.length - (intOf i).toNat)
  case atStart => exact ⟨0, rfl, Nat.zero_le _, by simpa [plainL] using HO1.out, HB1.out⟩
  case round =>
    obtain ⟨k, rfl, hk, ho, hbel⟩ := hrel
    have HB := Lib.hid hbel
    by_cases hkl : k < l.length
    · obtain ⟨g, o, c', hs2, hgc, hgm, hg⟩ := rd_form (HR.out.below hbel) (by omega)
      simp only [Value.slice.injEq, true_and] at hs2
      obtain ⟨rfl, rfl⟩ := hs2
      obtain ⟨⟨fn, fv⟩, hfd⟩ : ∃ fd, fd = l[k] := ⟨_, rfl⟩
      have HC : Hid (∀ V, Below w.heap.size w V → V.cell? ⟨g, o + k * 2, none⟩ = some (.string fn) ∧ V.cell? ⟨g, o + k * 2 + 1, none⟩ = some (.string fv)) := fun V hV => by
        have := fd_at (HR.out.below hV) k hkl _ rfl
        rw [← hfd] at this
        exact this
      have hi1 : (k : Int) < (l.length : Int) := by omega
      have hi2 : (0 : Int) ≤ (k : Int) := by omega
      have hw1 : IntKind.i64.wrap ((k : Int) + 1) = ((k + 1 : Nat) : Int) := by rw [wraps_i64' _ (by omega) (by have := HX.out; omega)]; omega
      have HFD : Hid ((⟨fn, fv⟩ : Fd) ∈ l ∧ l.take (k + 1) = l.take k ++ [⟨fn, fv⟩]) := ⟨by rw [hfd]; exact List.getElem_mem hkl, by rw [hfd]; exact List.take_succ_eq_append_getElem hkl⟩
      have HKL := Lib.hid hkl
      have HSZ : Hid (fn.size ≤ 64 ∧ fv.size ≤ 512) := by
        have h1 := HS.out _ HFD.out.1
        simp only [bigF, Bool.or_eq_false_iff, decide_eq_false_iff_not] at h1
        exact ⟨by omega, by omega⟩
      obtain ⟨X, hX⟩ : ∃ X, X = [0, 0] ++ plainL (l.take k) := ⟨_, rfl⟩
      have hXl : X.length ≤ 80000 := by
        have h1 := (plain_len (l.take k) (fun x hx => HS.out x (List.mem_of_mem_take hx))).2
        rw [List.length_take] at h1
        have h2 := HX.out
        rw [hX, List.length_append]
        simp only [List.length_cons, List.length_nil]
        omega
      rw [← hX] at ho
      obtain ⟨ua, uc, rfl⟩ := ho.len
      have HO := Lib.hid ho
      have HXE := Lib.hid hX
      have HXL := Lib.hid hXl
      have h1l := sizeN_le (w := 3) (n := (fn.size : Int)) (by have := HSZ.out; omega)
      rw [← encP_len 32] at h1l
      have h2l := sizeN_le (w := 7) (n := (fv.size : Int)) (by have := HSZ.out; omega)
      rw [← encP_len 0] at h2l
      have hok1 : OkP 32 3 (fn.size : Int) := ⟨by decide, by decide, by omega, by have := HSZ.out; omega⟩
      have hok2 : OkP 0 7 (fv.size : Int) := ⟨by decide, by decide, by omega, by have := HSZ.out; omega⟩
      obtain ⟨E1, hE1⟩ : ∃ E, E = encP 32 3 (fn.size : Int) := ⟨_, rfl⟩
      obtain ⟨E2, hE2⟩ : ∃ E, E = encP 0 7 (fv.size : Int) := ⟨_, rfl⟩
      have HPUT1 : Hid (Calls Tryz.prog 43 #[.slice ua X.length uc, .int .i64 32, .int .i64 3, .int .i64 (fn.size : Int)] wr fun e w' => ∃ u, e = .returned (.tuple #[u, .int .i64 0]) ∧ Own .u8 5 w' w.heap.size u (X ++ E1) ∧ Below w.heap.size wr w') := by
        rw [hE1]
        exact rput_own 32 3 _ wr HO.out HB.out.size (by omega) hok1
      have HPUT2 : Hid (∀ V u, Own .u8 5 V w.heap.size u ((X ++ E1) ++ bytesOf fn) → Below w.heap.size w V → Calls Tryz.prog 43 #[u, .int .i64 0, .int .i64 7, .int .i64 (fv.size : Int)] V fun e w' => ∃ u, e = .returned (.tuple #[u, .int .i64 0]) ∧ Own .u8 5 w' w.heap.size u (((X ++ E1) ++ bytesOf fn) ++ E2) ∧ Below w.heap.size V w') := fun V u hu hV => by
        rw [hE2]
        exact rput_own 0 7 _ V hu hV.size (by rw [List.length_append, List.length_append, bytesOf_len]; have := HSZ.out; have := HXL.out; rw [hE1]; omega) hok2
      have HLN : Hid ((X ++ E1).length ≤ 90000 ∧ (((X ++ E1) ++ bytesOf fn) ++ E2).length ≤ 90000) := by
        have := HSZ.out
        simp only [List.length_append, bytesOf_len]
        rw [hE1, hE2]
        exact ⟨by omega, by omega⟩
      have HEE : Hid (((X ++ E1) ++ bytesOf fn) ++ E2 ++ bytesOf fv = [0, 0] ++ plainL (l.take (k + 1))) := by
        show _ = _
        rw [HFD.out.2, plainL_append, plainL_one, hX, hE1, hE2]
        simp only [plainF, List.append_assoc]
      obtain ⟨c0, c1⟩ := HC.out wr HB.out
      clear hfd hbel hk hkl hg hgc hgm ho hX hXl h1l h2l hok1 hok2 hE1 hE2
      go_wp2_with (first
        | (go_at_call 43; refine HPUT1.out.mono ?_; rintro e w2 ⟨u1, rfl, ho1, hb1⟩; have O1 := Lib.hid ho1; have B1 := Lib.hid (HB.out.trans hb1); obtain ⟨c2, c3⟩ := HC.out w2 B1.out; clear ho1 hb1 HPUT1)
        | (at_builtin; (refine wpList_append_text _ rfl (.tmp 23) (.tmp 28) 38 9 rfl elemU8 Tryz.underlying38 Tryz.underlying9 _ (X ++ E1) rfl (O1.out.mono (Nat.zero_le _)) fn rfl ?_ ?_; (have := HLN.out; have := HSZ.out; omega); intro v3 w3 ap; have AB3 := Lib.hid (App.based O1.out B1.out.size ap); have B3 := Lib.hid (B1.out.trans AB3.out.2); obtain ⟨c4, c5⟩ := HC.out w3 B3.out; clear ap))
        | (go_at_call 43; refine (HPUT2.out _ _ AB3.out.1 B3.out).mono ?_; rintro e w4 ⟨u4, rfl, ho4, hb4⟩; have O4 := Lib.hid ho4; have B4 := Lib.hid (B3.out.trans hb4); obtain ⟨c6, c7⟩ := HC.out w4 B4.out; clear ho4 hb4)
        | (at_builtin; (refine wpList_append_text _ rfl (.tmp 41) (.tmp 46) 38 9 rfl elemU8 Tryz.underlying38 Tryz.underlying9 _ (((X ++ E1) ++ bytesOf fn) ++ E2) rfl (O4.out.mono (Nat.zero_le _)) fv rfl ?_ ?_; (have := HLN.out; have := HSZ.out; omega); intro v5 w5 ap; have AB5 := Lib.hid (App.based O4.out B4.out.size ap); have B5 := Lib.hid (B4.out.trans AB5.out.2); clear ap)))
      refine ⟨⟨k + 1, by simp, HKL.out, by rw [← HEE.out]; exact AB5.out.1, B5.out⟩, by simp [intOf]; have := HKL.out; omega⟩
    · obtain rfl : k = l.length := by omega
      rw [List.take_length] at ho
      have HO := Lib.hid ho
      have hi1 : ¬ ((l.length : Int) < (l.length : Int)) := by omega
      clear hk ho
      go_wp2
      go_ret
      exact ⟨_, rfl, HO.out, HB.out⟩
end Go.Proofs.YtbkbabaoockigaaGreatDoor

set_option maxRecDepth 100000
set_option linter.unusedSimpArgs false
set_option linter.unusedVariables false
namespace Go.Proofs.YtbkbabaoockigaaGreatDoor
open Go.RowKit

/-- a call of a script: its kind, the bytes' place, the bytes -/
abbrev ActV14 := Int × Value × List Int
def actCell14 (a : ActV14) : List Value := [.int .u8 a.1, a.2.1]
/-- a script in the world -/
structure Acts (w : World) (v : Value) (s : List ActV14) : Prop where
  row : RdC 2 w v s.length (s.flatMap actCell14)
  each : ∀ a ∈ s, Rd .u8 w a.2.1 a.2.2 ∧ Bts a.2.2
theorem Acts.below {w w' : World} {v : Value} {s : List ActV14} (h : Acts w v s) (hb : Below w.heap.size w w') : Acts w' v s := ⟨h.row.below hb, fun a ha => ⟨(h.each a ha).1.below hb, (h.each a ha).2⟩⟩
theorem Acts.at {w : World} {g o n c : Nat} {s : List ActV14} (h : Acts w (.slice (some ⟨g, o, none⟩) n c) s) (k : Nat) (hk : k < s.length) :
    w.cell? ⟨g, o + k * 2, none⟩ = some (.int .u8 s[k].1) ∧ w.cell? ⟨g, o + k * 2 + 1, none⟩ = some s[k].2.1 := by
  have hn : n = s.length := by obtain ⟨_, _, e, _⟩ := h.row.isSlice; simp only [Value.slice.injEq] at e; exact e.2.1
  subst hn
  have cell : ∀ j u, j < 2 → (actCell14 s[k])[j]? = some u → w.cell? ⟨g, o + k * 2 + j, none⟩ = some u := fun j u hj hu =>
    RdC.cell h.row (k * 2 + j) u ((flat_get actCell14 2 (fun _ => rfl) s k j hk hj).trans hu) _ (by omega)
  exact ⟨cell 0 _ (by omega) rfl, cell 1 _ (by omega) rfl⟩
theorem feedF_count (xs : List Int) : ∀ (m : Nat) (q : TQ) (a : Nat), countN (feedF m q xs a).1 ≤ countN q + m
  | 0, q, a => Nat.le_refl _
  | m + 1, q, a => by
    unfold feedF
    repeat' split
    · show countN q ≤ _; omega
    · show countN q ≤ _; omega
    · have h1 := feedF_count xs m (insE q xs a).1 (insE q xs a).2.1
      have h2 := insE_count q xs a
      omega
theorem feed_count (q : TQ) (xs : List Int) : countN (feedE q xs 0).1 ≤ countN q + (xs.length + 1) := by
  have := feedF_count xs (xs.length + 1 - 0) q 0
  unfold feedE
  omega
set_option maxHeartbeats 12800000 in
theorem plain_any {v u : Value} {s : List ActV14} {l : List Fd} (w : World) (hF : Fix w) (hE : ErrT w) (hs : Acts w v s) (hsl : s.length ≤ 281474976710656) (hr : RdC 2 w u l.length (fdC l)) :
    Calls Tryz.prog 7 #[v, u] w (Yes w) := by
  have HND := Lib.hid (newDec_yes 300 w (by decide))
  have HF := Lib.hid hF
  have HE := Lib.hid hE
  have HA := Lib.hid hs
  have HR := Lib.hid hr
  have HSL := Lib.hid hsl
  obtain ⟨va, vc, rfl, _, _⟩ := hs.row.isSlice
  obtain ⟨ua, uc, rfl, _, _⟩ := hr.isSlice
  clear hF hE hs hr hsl
  go_enter Tryz.func7, Tryz.ntmps7
  go_wp2_with (first
    | (go_at_call 19; refine HND.out.mono ?_; rintro e w1 ⟨d, b, rfl, h1, h2, h3, h4⟩; have MQ1 : Hid (Mq w d b (.slice none 0 0) (newT 300) w1) := ⟨h1, (fun i hi => by rcases mem_DS.1 hi with e | e | e; exact e ▸ h2; exact e ▸ h3; cases e), h4, HF.out, HE.out⟩; clear h1 h2 h3 h4)
    | (go_at_call 11; refine (alive_any _ MQ1.out.fixN (HE.out.below MQ1.out.bel)).mono ?_; rintro e w2 ⟨rfl, hb2⟩; have MQ2 := Lib.hid (MQ1.out.below hb2); clear hb2))
  clear HND MQ1
  go_loopw [27] (fun i wr => ∃ (k : Nat) (sl : Value) (q : TQ), i = .int .i64 (k : Int) ∧ k ≤ s.length ∧ Mq w d b sl q wr ∧ countN q ≤ 3001 * k) (fun i _ => s.length - (intOf i).toNat)
  case atStart => exact ⟨0, _, _, rfl, Nat.zero_le _, MQ2.out, by decide⟩
  case round =>
    obtain ⟨k, sl, q, rfl, hk, hm, hcq⟩ := hrel
    have HM := Lib.hid hm
    have HCQ := Lib.hid hcq
    clear hm hcq MQ2
    by_cases hkl : k < s.length
    · obtain ⟨g, o, c', hs2, hgc, hgm, hg⟩ := rd_form (HA.out.below HM.out.bel).row (by omega)
      simp only [Value.slice.injEq, true_and] at hs2
      obtain ⟨rfl, rfl⟩ := hs2
      obtain ⟨c0, c1⟩ := (HA.out.below HM.out.bel).at k hkl
      obtain ⟨hrd, hbt⟩ := HA.out.each s[k] (List.getElem_mem hkl)
      obtain ⟨⟨kd, av, xs⟩, hak⟩ : ∃ a, a = s[k] := ⟨_, rfl⟩
      rw [← hak] at c0 c1 hrd hbt
      simp only at c0 c1 hrd hbt
      obtain ⟨aa, ac, rfl⟩ := hrd.isSlice
      have HRD := Lib.hid hrd
      have HBT := Lib.hid hbt
      have hi1 : (k : Int) < (s.length : Int) := by omega
      have hi2 : (0 : Int) ≤ (k : Int) := by omega
      have hw1 : IntKind.i64.wrap ((k : Int) + 1) = ((k + 1 : Nat) : Int) := by rw [wraps_i64' _ (by omega) (by have := HSL.out; omega)]; omega
      have HKL := Lib.hid hkl
      obtain ⟨w2, hw2⟩ : ∃ W, W = wr.alloc (.cells #[.int .u8 kd, .slice aa xs.length ac] 58) := ⟨_, rfl⟩
      have hb2 : Below wr.heap.size wr w2 := by rw [hw2]; exact below1 wr _
      have q2 : Cs w2 wr.heap.size [.int .u8 kd, .slice aa xs.length ac] := by rw [hw2]; exact Cs.made wr _ _
      have x1 := q2.get 1 _ rfl
      have M2 := Lib.hid (HM.out.below hb2)
      have HW2 := Lib.hid hw2
      clear hak hkl hk hg hgc hgm hrd hbt hb2 hw2 q2
      by_cases hln : xs.length ≤ 3000
      · have d1 : decide ((xs.length : Int) ≤ 3000) = true := decide_eq_true (by omega)
        have d2 : decide (xs.length ≤ 3000) = true := decide_eq_true hln
        have HFD : Hid (Calls Tryz.prog 20 #[.pointer (some ⟨d, 0, none⟩), .slice aa xs.length ac] w2 fun e w' => ∃ x y, e = .returned (.agg #[.int .i64 x, .int .i64 y]) ∧ ∃ sl' q', Mq w d b sl' q' w' ∧ countN q' ≤ 3001 * (k + 1)) := by
          refine (feed_any w2 M2.out.dcd M2.out.gl (HRD.out.below M2.out.bel) (fun hne j hj hm => ?_) HBT.out (by omega) (by have := HCQ.out; have := HKL.out; have := HSL.out; omega)).mono ?_
          · have h1 := M2.out.fresh j (List.mem_cons_of_mem _ hm)
            have h2 := HRD.out.blt hne j hj
            omega
          · rintro e w' ⟨he, hd⟩
            obtain ⟨sl', h1, _, _⟩ := M2.out.did hd
            have h4 := feed_count q xs
            have h5 := HCQ.out
            exact ⟨_, _, he, sl', _, h1, by omega⟩
        clear hln
        go_upto_region 7 with fail
        rw [← HW2.out]
        go_wp2_with (go_at_call 20; refine HFD.out.mono ?_; rintro e w3 ⟨x, y, rfl, sl', q', h1, h2⟩; have M3 := Lib.hid h1; have C3 := Lib.hid h2; clear h1 h2)
        refine ⟨⟨k + 1, sl', q', by simp, HKL.out, M3.out, C3.out⟩, by simp [intOf]; have := HKL.out; omega⟩
      · have d1 : decide ((xs.length : Int) ≤ 3000) = false := decide_eq_false (by omega)
        have d2 : decide (xs.length ≤ 3000) = false := decide_eq_false hln
        clear hln
        go_upto_region 7 with fail
        rw [← HW2.out]
        go_wp2_with fail
        refine ⟨⟨k + 1, sl, q, by simp, HKL.out, M2.out, by have := HCQ.out; omega⟩, by simp [intOf]; have := HKL.out; omega⟩
    · obtain rfl : k = s.length := by omega
      have hi1 : ¬ ((s.length : Int) < (s.length : Int)) := by omega
      have HRT := Lib.hid (r14right_any wr (HR.out.below HM.out.bel))
      clear hk hkl
      by_cases herr : encErr l = 0
      · rw [herr] at HRT
        have HER := Lib.hid herr
        have HLL : Hid (l.length ≤ 64) := encErr_le herr
        have HCC : Hid (countN q ≤ 1152921504606846976) := by have := HCQ.out; have := HSL.out; show countN q ≤ 1152921504606846976; omega
        have HPL : Hid (Bts ([0, 0] ++ plainL l) ∧ ([0, 0] ++ plainL l).length ≤ 80000) := by
          obtain ⟨h1, h2⟩ := plain_len l (small_of herr)
          have h3 := HLL.out
          exact ⟨Bts.append (fun x hx => by simp at hx; omega) h1, by simp only [List.length_append, List.length_cons, List.length_nil]; omega⟩
        have qt : ∀ W, (Op.equalIn 10000 42 (.agg #[.int .i64 0, .int .i64 0]) (.agg #[.int .i64 0, .int .i64 0])).run Tryz.prog W = .ok true W := fun W => by have := eqQ_any 0 0 0 0 W; rw [decide_eq_true ⟨rfl, rfl⟩] at this; exact this
        clear herr
        go_wp2_with (first
          | (go_at_call 16; refine HRT.out.mono ?_; rintro e w6 ⟨rfl, hb6⟩; have M6 := Lib.hid (HM.out.below hb6); clear hb6)
          | (go_at_call 23; refine (rplain_any _ (HR.out.below M6.out.bel) HER.out).mono ?_; rintro e w7 ⟨pv, rfl, ho7, hb7⟩; have M7 := Lib.hid (M6.out.below hb7); have O7 := Lib.hid ho7; clear ho7 hb7)
          | (go_at_call 21; have hd7 := decode_any _ M7.out.dcd M7.out.gl O7.out.rd (fun _ j hj hm => by have h1 := M6.out.lt j (List.mem_cons_of_mem _ hm); have h2 := O7.out.blk j hj; omega) HPL.out.1 (by have := HPL.out; omega) HCC.out; rw [plain_dec q l HER.out] at hd7; refine hd7.mono ?_; rintro e w8 ⟨u8, rfl, ho8, hb8⟩; have M8 := Lib.hid (M7.out.below hb8); have O8 := Lib.hid ho8; obtain ⟨u8a, u8c, hu8, _, _⟩ := (RdC.of_owns ho8).isSlice; subst hu8; clear ho8 hb8 hd7; have Y8 := Cs.made w8 #[.int .i64 0, .int .i64 0] 42; have y0 := Y8.get 0 _ rfl; have y1 := Y8.get 1 _ rfl; clear Y8)
          | (go_at_call 18; refine (same_eq _ ((RdC.of_owns O8.out).below (below1 _ _)) (HR.out.below (M8.out.bel.alloc M8.out.bel.size _)) (by have := HLL.out; omega)).mono ?_; rintro e w13 ⟨rfl, hb13⟩; have B13 := Lib.hid ((M8.out.bel.alloc M8.out.bel.size _).trans (hb13.mono (M8.out.bel.alloc M8.out.bel.size _).size)); clear hb13))
        go_ret
        exact ⟨rfl, B13.out⟩
      · have d1 : (encErr l == 0) = false := by simp [herr]
        have d2 : (encErr l != 0) = true := by simp [herr]
        clear herr
        generalize encErr l = er at HRT d1 d2
        go_wp2_with (go_at_call 16; refine HRT.out.mono ?_; rintro e w6 ⟨rfl, hb6⟩; have B6 := Lib.hid (HM.out.bel.trans (hb6.mono HM.out.bel.size)); clear hb6)
        go_ret
        exact ⟨rfl, B6.out⟩
end Go.Proofs.YtbkbabaoockigaaGreatDoor

set_option maxRecDepth 100000
set_option linter.unusedSimpArgs false
set_option linter.unusedVariables false
namespace Go.Proofs.YtbkbabaoockigaaGreatDoor
open Go.RowKit

/-- fields told: where they lie, whether something may be put in, the capacity, the fields -/
structure ToldV where
  v : Value
  put : Bool
  cap : Int
  l : List Fd
def toldCell (a : ToldV) : List Value := [a.v, .bool a.put, .int .i64 a.cap]
structure Tolds (w : World) (v : Value) (s : List ToldV) : Prop where
  row : RdC 3 w v s.length (s.flatMap toldCell)
  each : ∀ a ∈ s, RdC 2 w a.v a.l.length (fdC a.l)
theorem Tolds.below {w w' : World} {v : Value} {s : List ToldV} (h : Tolds w v s) (hb : Below w.heap.size w w') : Tolds w' v s := ⟨h.row.below hb, fun a ha => (h.each a ha).below hb⟩
theorem Tolds.at {w : World} {g o n c : Nat} {s : List ToldV} (h : Tolds w (.slice (some ⟨g, o, none⟩) n c) s) (k : Nat) (hk : k < s.length) :
    w.cell? ⟨g, o + k * 3, none⟩ = some s[k].v ∧ w.cell? ⟨g, o + k * 3 + 1, none⟩ = some (.bool s[k].put) ∧ w.cell? ⟨g, o + k * 3 + 2, none⟩ = some (.int .i64 s[k].cap) := by
  have hn : n = s.length := by obtain ⟨_, _, e, _⟩ := h.row.isSlice; simp only [Value.slice.injEq] at e; exact e.2.1
  subst hn
  have cell : ∀ j u, j < 3 → (toldCell s[k])[j]? = some u → w.cell? ⟨g, o + k * 3 + j, none⟩ = some u := fun j u hj hu =>
    RdC.cell h.row (k * 3 + j) u ((flat_get toldCell 3 (fun _ => rfl) s k j hk hj).trans hu) _ (by omega)
  exact ⟨cell 0 _ (by omega) rfl, cell 1 _ (by omega) rfl, cell 2 _ (by omega) rfl⟩
theorem Tolds.take {w : World} {a : Option Addr} {n c : Nat} {s : List ToldV} (h : Tolds w (.slice a n c) s) (m : Nat) (hm : m ≤ s.length) : Tolds w (.slice a m c) (s.take m) := by
  have hlm : (s.take m).length = m := by rw [List.length_take]; omega
  refine ⟨?_, fun x hx => h.each x (List.mem_of_mem_take hx)⟩
  have hfl : ∀ j u, ((s.take m).flatMap toldCell)[j]? = some u → (s.flatMap toldCell)[j]? = some u := fun j u hj => by
    have e : s.flatMap toldCell = (s.take m).flatMap toldCell ++ (s.drop m).flatMap toldCell := by rw [← List.flatMap_append, List.take_append_drop]
    rw [e, List.getElem?_append_left (List.getElem?_eq_some_iff.1 hj).1]
    exact hj
  refine ⟨flat_len toldCell 3 (fun _ => rfl) _, ?_⟩
  rw [hlm]
  obtain ⟨_, ⟨h0, a', c', e, h3, h4⟩ | ⟨h0, b, o, c', e, h2, h3, h4, h5⟩⟩ := h.row
  · obtain ⟨rfl, rfl, rfl⟩ : a = a' ∧ n = 0 ∧ c = c' := by simpa using e
    exact .inl ⟨by omega, a, c, by rw [show m = 0 by omega], h3, h4⟩
  · obtain ⟨rfl, rfl, rfl⟩ : a = some ⟨b, o, none⟩ ∧ n = s.length ∧ c = c' := by simpa using e
    by_cases hm0 : m = 0
    · subst hm0
      exact .inl ⟨rfl, _, _, rfl, h3, fun h => by cases h⟩
    · exact .inr ⟨by omega, b, o, c, rfl, by omega, h3, h4, fun j u hj => h5 j u (hfl j u hj)⟩
theorem short_any {v : Value} {s : List ToldV} (w : World) (h : Tolds w v s) : Calls Tryz.prog 12 #[v] w fun e w' => ∃ v', e = .returned v' ∧ (∀ W, Tolds W v s → Tolds W v' (s.take 40)) ∧ w' = w := by
  obtain ⟨a, c, rfl, h1, h2⟩ := h.row.isSlice
  obtain ⟨m, hm⟩ : ∃ m, m = min s.length 40 := ⟨_, rfl⟩
  have HT : Hid (∀ W, Tolds W (.slice a s.length c) s → Tolds W (.slice a m c) (s.take 40)) := fun W hW => by
    have := hW.take m (by omega)
    rw [show s.take 40 = s.take m by rw [hm, List.take_eq_take_min, Nat.min_comm]]
    exact this
  have l1 : min (s.length : Int) 40 = (m : Int) := by omega
  have i1 : (0 : Int) ≤ (m : Int) := by omega
  have i2 : (m : Int) ≤ (c : Int) := by omega
  have i3 : m ≤ c := by omega
  have hanone : a = none → c = 0 := by
    obtain ⟨_, ⟨_, a', c', e, _, h4⟩ | ⟨_, b, o, c', e, _⟩⟩ := h.row
    · obtain ⟨rfl, _, rfl⟩ : a = a' ∧ s.length = 0 ∧ c = c' := by simpa using e
      exact h4
    · obtain ⟨rfl, _, _⟩ : a = some ⟨b, o, none⟩ ∧ True ∧ c = c' := by simpa using e
      intro h; cases h
  clear h hm
  cases a with
  | none =>
    obtain rfl := hanone rfl
    obtain rfl : m = 0 := by omega
    clear hanone
    go_enter Tryz.func12, Tryz.ntmps12
    go_wp2_with fail
    go_ret
    exact ⟨_, rfl, HT.out, rfl⟩
  | some ad =>
    clear hanone
    go_enter Tryz.func12, Tryz.ntmps12
    go_wp2_with fail
    go_ret
    exact ⟨_, rfl, HT.out, rfl⟩
end Go.Proofs.YtbkbabaoockigaaGreatDoor

set_option maxRecDepth 100000
set_option linter.unusedSimpArgs false
set_option linter.unusedVariables false
namespace Go.Proofs.YtbkbabaoockigaaGreatDoor
open Go.RowKit

theorem out_of {b : Nat} {sl sl' : Value} {W : World} (h2 : ∀ j, sl'.ownBlock = some j → sl.ownBlock = some j ∨ W.heap.size ≤ j) : ∀ i, i < W.heap.size → i ∉ TS b sl → i ∉ TS b sl' := fun i hi hn hm => by
  rcases mem_TS.1 hm with e | e
  · exact hn (mem_TS.2 (.inl e))
  · rcases h2 i e with e1 | e1
    · exact hn (mem_TS.2 (.inr e1))
    · omega
section
variable {w : World} {en c : Nat} {sl1 : Value} {d b : Nat} {sl2 : Value} {q : TQ} {W : World}
/-- the encoder sets its capacity, the decoder is fed that -/
theorem cap_step (n : Int) (h : Two w en c sl1 q d b sl2 q W) (hc : countN q ≤ 4611686018427380000) :
    Calls Tryz.prog 13 #[.pointer (some ⟨en, 0, none⟩), .int .i64 n] W fun e W' => ∃ sl', Two w en c sl' (setCapE q n).1 d b sl2 q W' ∧ Keep (TS c sl1) W W' ∧ (∀ i, i < W.heap.size → i ∉ TS c sl1 → i ∉ TS c sl') ∧
      (((setCapE q n).2 ≠ 0 ∧ e = .returned (.tuple #[.slice none 0 0, .int .i64 (setCapE q n).2])) ∨
       ((setCapE q n).2 = 0 ∧ ∃ v, e = .returned (.tuple #[v, .int .i64 0]) ∧ Calls Tryz.prog 20 #[.pointer (some ⟨d, 0, none⟩), v] W' fun e' W2 => e' = .returned (.agg #[.int .i64 0, .int .i64 0]) ∧
        ∃ sl2', Two w en c sl' (setCapE q n).1 d b sl2' (setCapE q n).1 W2 ∧ Keep (TS b sl2) W' W2 ∧ (∀ i, i < W'.heap.size → i ∉ TS b sl2 → i ∉ TS b sl2'))) := by
  refine (esetcap_any n W h.m1.dcd (by omega)).mono ?_
  rintro e W' ⟨sl', ⟨h1, h2, h3⟩, hh⟩
  have t' := h.step1 h1 h2 h3
  refine ⟨sl', t', h3, out_of h2, ?_⟩
  rcases hh with ⟨h4, h5⟩ | ⟨h4, v, h5, h6, h7⟩
  · exact .inl ⟨h4, h5⟩
  · refine .inr ⟨h4, v, h5, ?_⟩
    obtain ⟨k, rfl⟩ : ∃ k : Nat, n = (k : Int) := ⟨n.toNat, by
      unfold setCapE at h4
      split at h4
      · cases h4
      · omega⟩
    have hk : k ≤ 4096 := by
      have := h.m1.dcd.ok.1
      unfold setCapE at h4
      split at h4
      · cases h4
      · omega
    have hen := sizeN_le (w := 5) (n := (k : Int)) (by omega)
    rw [← encP_len 32] at hen
    refine (feed_any W' t'.m2.dcd t'.m2.gl h6.rd (fun _ j hj hm => ?_) (encP_bts ⟨by decide, by decide, by omega, by omega⟩) (by omega) (by omega)).mono ?_
    · have h8 := h.m2.lt j (List.mem_cons_of_mem _ hm)
      have h9 := h6.blk j hj
      omega
    · rintro e' W2 ⟨he, hd⟩
      rw [cap_fed q k (by omega) h4] at he hd
      obtain ⟨sl2', g1, g2, g3⟩ := hd
      exact ⟨he, sl2', (t'.swap.step1 g1 g2 g3).swap, g3, out_of g2⟩
/-- the encoder tells fields, the decoder is fed that, and decodes them -/
theorem enc_step (put : Bool) {v : Value} {l : List Fd} (h : Two w en c sl1 q d b sl2 q W) (hr : RdC 2 w v l.length (fdC l)) (hc : countN q ≤ 1000000) :
    Calls Tryz.prog 15 #[.pointer (some ⟨en, 0, none⟩), v, .bool put] W fun e W' =>
      (encErr l ≠ 0 → e = .returned (.tuple #[.slice none 0 0, .slice none 0 0, .int .i64 (encErr l)]) ∧ Below W.heap.size W W') ∧
      (encErr l = 0 → ∃ vi vs sl1' q', e = .returned (.tuple #[vi, vs, .int .i64 0]) ∧ countN q' ≤ countN q + 64 ∧ Keep (TS c sl1) W W' ∧ Two w en c sl1' q' d b sl2 q W' ∧
        Calls Tryz.prog 20 #[.pointer (some ⟨d, 0, none⟩), vi] W' fun e' W2 => e' = .returned (.agg #[.int .i64 0, .int .i64 0]) ∧
          ∃ sl2', Two w en c sl1' q' d b sl2' q' W2 ∧ Keep (TS b sl2) W' W2 ∧ Calls Tryz.prog 21 #[.pointer (some ⟨d, 0, none⟩), vs] W2 (DecIs14 W2 (l, 0, 0))) := by
  refine (encode_any put W h.m1.dcd (hr.below h.m1.bel) (fun h0 j hj hm => ?_) h.m1.fixN h.m1.fx (by omega)).mono ?_
  · have h1 := h.m1.fresh j (List.mem_cons_of_mem _ hm)
    have h2 := hr.blt (by cases l with | nil => exact absurd rfl h0 | cons a b => simp) j hj
    omega
  · rintro e W' ⟨he1, he2⟩
    refine ⟨he1, fun h0 => ?_⟩
    obtain ⟨q', m, need, kept, ins, lines, vi, vs, T, hm, he, oi, os, sl1', g1, g2, g3⟩ := he2 h0
    have hl := encErr_le h0
    have t' := h.step1 g1 g2 g3
    have hcq := T.cnt
    obtain ⟨hbt, hln⟩ := sec_fits T (by omega)
    refine ⟨vi, vs, sl1', q', he, by omega, g3, t', ?_⟩
    have hsi := T.sI
    have hout : ∀ j, W.heap.size ≤ j → j ∉ TS b sl2 := fun j hj hm => by have := h.m2.lt j (List.mem_cons_of_mem _ hm); omega
    refine (feed_any W' t'.m2.dcd t'.m2.gl oi.rd (fun _ j hj => hout j (oi.blk j hj)) T.bI (by omega) (by omega)).mono ?_
    rintro e' W2 ⟨hf, hd⟩
    rw [T.fed] at hf hd
    obtain ⟨sl2', k1, k2, k3⟩ := hd
    have t2 := (t'.swap.step1 k1 k2 k3).swap
    refine ⟨hf, sl2', t2, k3, ?_⟩
    have os2 := own_keep os k3 (fun j hj => hout j (os.blk j hj))
    have hdec := decode_any W2 t2.m2.dcd t2.m2.gl os2.rd (fun _ j hj hm => ?_) hbt (by omega) (show countN q' ≤ 1152921504606846976 by omega)
    · rw [T.dec hl (by omega) q' (Ext.refl _ _) T.need_le] at hdec
      exact hdec
    · have h5 := os.blk j hj
      have h6 := os.blt j hj
      have h7 := h.m2.dcd.tbl.lt
      rcases mem_TS.1 hm with e1 | e1
      · omega
      · rcases k2 j e1 with e2 | e2
        · exact hout j h5 (mem_TS.2 (.inr e2))
        · omega
end
end Go.Proofs.YtbkbabaoockigaaGreatDoor
