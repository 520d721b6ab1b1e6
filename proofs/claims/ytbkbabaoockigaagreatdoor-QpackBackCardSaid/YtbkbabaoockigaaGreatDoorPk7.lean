/- Laws of layer 14: Both. -/
/- Layer 14: what is read well is read alike where the bytes end behind it. -/
/- Laws of layer 14: Wrong. -/
/- Layer 14: what comes in: scripts of calls, lists told. -/
/- Layer 14: what the laid variables give. -/
import Derived.Test.YtbkbabaoockigaaGreatDoorPk6
import Derived.Test.YtbkbabaoockigaaGreatDoorPk3
import Derived.Test.YtbkbabaoockigaaGreatDoorCards
import Derived.LaidHandle
set_option maxRecDepth 100000
set_option linter.unusedSimpArgs false
set_option linter.unusedVariables false
namespace Go.Proofs.YtbkbabaoockigaaGreatDoor
open Go.RowKit

set_option maxHeartbeats 12800000 in
theorem both_yes {v : Value} {s : List ToldV} (most : Nat) (hmost : most ≤ 4096) (w : World) (hF : Fix w) (hE : ErrT w) (hs : Tolds w v s) :
    Calls Tryz.prog 4 #[.int .i64 (most : Int), v] w (Yes w) := by
  have HNE := Lib.hid (newEnc_yes most w hmost)
  have HND : Hid (∀ W, Calls Tryz.prog 19 #[.int .i64 (most : Int)] W fun e w' => ∃ d b, e = .returned (.tuple #[.pointer (some ⟨d, 0, none⟩), .int .i64 0]) ∧ Dcd d b (.slice none 0 0) (newT most) w' ∧ W.heap.size ≤ d ∧ W.heap.size ≤ b ∧ Below W.heap.size W w') := fun W => newDec_yes most W hmost
  have HF := Lib.hid hF
  have HE := Lib.hid hE
  have HA := Lib.hid hs
  clear hF hE hs hmost
  have qt : ∀ W, (Op.equalIn 10000 42 (.agg #[.int .i64 0, .int .i64 0]) (.agg #[.int .i64 0, .int .i64 0])).run Tryz.prog W = .ok true W := fun W => by have := eqQ_any 0 0 0 0 W; rw [decide_eq_true ⟨rfl, rfl⟩] at this; exact this
  go_enter Tryz.func4, Tryz.ntmps4
  go_wp2_with (first
    | (go_at_call 9; refine HNE.out.mono ?_; rintro e w1 ⟨en, c, rfl, h1, h2, h3, h4⟩; have H1 := Lib.hid h1; have H2 := Lib.hid h2; have H3 := Lib.hid h3; have H4 := Lib.hid h4; clear h1 h2 h3 h4)
    | (go_at_call 19; refine (HND.out _).mono ?_; rintro e w2 ⟨d, b, rfl, h5, h6, h7, h8⟩; have TWO2 := Lib.hid (Two.made HF.out HE.out H1.out H2.out H3.out H4.out h5 h6 h7 h8); clear h5 h6 h7 h8)
    | (go_at_call 11; refine (alive_any _ TWO2.out.m1.fixN (HE.out.below TWO2.out.m1.bel)).mono ?_; rintro e w3 ⟨rfl, hb3⟩; have TWO3 := Lib.hid (TWO2.out.below hb3); clear hb3)
    | (go_at_call 12; refine (short_any _ (HA.out.below TWO3.out.m1.bel)).mono ?_; rintro e w4 ⟨v4, rfl, hsh0, hw4⟩; have hsh := hsh0 w HA.out; obtain rfl : w3 = w4 := hw4.symm; obtain ⟨s4, hs4⟩ : ∃ S, S = s.take 40 := ⟨_, rfl⟩; have HL4 : Hid (s4.length ≤ 40) := (by rw [hs4, List.length_take]; exact Nat.min_le_left _ _ : s4.length ≤ 40); rw [← hs4] at hsh; obtain ⟨va, vc, hv4, _, _⟩ := hsh.row.isSlice; subst hv4; have HSH := Lib.hid hsh; clear hsh hsh0 hs4))
  clear HND HNE H1 H2 H3 H4 TWO2
  go_loopw [53] (fun i wr => ∃ (k : Nat) (sl1 sl2 : Value) (q : TQ), i = .int .i64 (k : Int) ∧ k ≤ s4.length ∧ Two w en c sl1 q d b sl2 q wr ∧ countN q ≤ 64 * k) (fun i _ => s4.length - (intOf i).toNat)
  case atStart => exact ⟨0, _, _, _, rfl, Nat.zero_le _, TWO3.out, by simp [countN, newT]⟩
  case round =>
    obtain ⟨k, sl1, sl2, q, rfl, hk, htw, hcq⟩ := hrel
    have HTW := Lib.hid htw
    have HCQ := Lib.hid hcq
    clear htw hcq TWO3
    by_cases hkl : k < s4.length
    · obtain ⟨g, o, c', hs2, hgc, hgm, hg⟩ := rd_form (HSH.out.below HTW.out.m1.bel).row (by omega)
      simp only [Value.slice.injEq, true_and] at hs2
      obtain ⟨rfl, rfl⟩ := hs2
      obtain ⟨c0, c1, c2⟩ := (HSH.out.below HTW.out.m1.bel).at k hkl
      have hrl := HSH.out.each s4[k] (List.getElem_mem hkl)
      obtain ⟨⟨fv, put, cap, l⟩, hak⟩ : ∃ a, a = s4[k] := ⟨_, rfl⟩
      rw [← hak] at c0 c1 c2 hrl
      simp only at c0 c1 c2 hrl
      obtain ⟨fa, fc, rfl, _, _⟩ := hrl.isSlice
      have HR2 := Lib.hid hrl
      have hi1 : (k : Int) < (s4.length : Int) := by omega
      have hi2 : (0 : Int) ≤ (k : Int) := by omega
      have hw1 : IntKind.i64.wrap ((k : Int) + 1) = ((k + 1 : Nat) : Int) := by rw [wraps_i64' _ (by omega) (by have := HL4.out; omega)]; omega
      have HKL := Lib.hid hkl
      obtain ⟨w2, hw2⟩ : ∃ W, W = wr.alloc (.cells #[.slice fa l.length fc, .bool put, .int .i64 cap] 37) := ⟨_, rfl⟩
      have hb2 : Below wr.heap.size wr w2 := by rw [hw2]; exact below1 wr _
      have hq2 : Cs w2 wr.heap.size [.slice fa l.length fc, .bool put, .int .i64 cap] := by rw [hw2]; exact Cs.made wr _ _
      have HQ2 := Lib.hid hq2
      have x0 := hq2.get 0 _ rfl
      have x1 := hq2.get 1 _ rfl
      have x2 := hq2.get 2 _ rfl
      have T2 := Lib.hid (HTW.out.below hb2)
      have HYN : Hid (wr.heap.size ∉ TS c sl1 ∧ wr.heap.size ∉ TS b sl2) := ⟨fun hm => by have := HTW.out.m1.lt _ (List.mem_cons_of_mem _ hm); omega, fun hm => by have := HTW.out.m2.lt _ (List.mem_cons_of_mem _ hm); omega⟩
      have HCAP := Lib.hid (cap_step cap T2.out (by have := HCQ.out; have := HL4.out; have := HKL.out; omega))
      have HCC : Hid (countN (setCapE q cap).1 = countN q) := set_count1 q cap
      have HW2 := Lib.hid hw2
      clear hak hkl hk hg hgc hgm hrl hb2 hw2 hq2 HTW
      have HQS0 : (setCapE q cap).2 ≠ 0 → (setCapE q cap).1 = q := by
        unfold setCapE
        split
        · intro _; rfl
        · intro h; exact absurd rfl h
      obtain ⟨⟨q1, y⟩, hsc⟩ : ∃ r, setCapE q cap = r := ⟨_, rfl⟩
      rw [hsc] at HCAP HCC HQS0
      simp only at HCAP HCC HQS0
      have HQS := Lib.hid HQS0
      clear HQS0
      clear hsc
      by_cases hy : y = 0
      · subst hy
        have HCP : Hid (Calls Tryz.prog 13 #[.pointer (some ⟨en, 0, none⟩), .int .i64 cap] w2 fun e W' => ∃ sl' v, e = .returned (.tuple #[v, .int .i64 0]) ∧ Keep (TS c sl1) w2 W' ∧ (∀ i, i < w2.heap.size → i ∉ TS c sl1 → i ∉ TS c sl') ∧ Calls Tryz.prog 20 #[.pointer (some ⟨d, 0, none⟩), v] W' fun e' W2 => e' = .returned (.agg #[.int .i64 0, .int .i64 0]) ∧
            ∃ sl2', Two w en c sl' q1 d b sl2' q1 W2 ∧ Keep (TS b sl2) W' W2 ∧ (∀ i, i < W'.heap.size → i ∉ TS b sl2 → i ∉ TS b sl2')) := by
          refine HCAP.out.mono ?_
          rintro e W' ⟨sl', h1, h2, h6, ⟨h3, _⟩ | ⟨_, v, h4, h5⟩⟩
          · exact absurd rfl h3
          · exact ⟨sl', v, h4, h2, h6, h5⟩
        go_upto_region 10 with fail
        rw [← HW2.out]
        go_upto_region 13 with (first
          | (go_at_call 13; refine HCP.out.mono ?_; rintro e w5 ⟨slA, v5, rfl, hk5, ho5, hf5⟩; have F5 := Lib.hid hf5; have K5 := Lib.hid (HQ2.out.keep hk5 HYN.out.1); have OA := Lib.hid (ho5 _ HQ2.out.lt HYN.out.1); clear hk5 ho5 hf5)
          | (go_at_call 20; refine F5.out.mono ?_; rintro e WX ⟨rfl, slB, htx, hkx, hox⟩; have TW := Lib.hid htx; have HY := Lib.hid (K5.out.keep hkx HYN.out.2); have OB := Lib.hid (hox _ K5.out.lt HYN.out.2); have y0 := HY.out.get 0 _ rfl; have y1 := HY.out.get 1 _ rfl; clear htx hkx hox))
        have HYX : Hid (wr.heap.size ∉ TS c slA ∧ wr.heap.size ∉ TS b slB) := ⟨OA.out, OB.out⟩
        have CN : Hid (countN q1 ≤ 1000000) := by have := HCC.out; have := HCQ.out; have := HL4.out; have := HKL.out; show countN q1 ≤ 1000000; omega
        have CQ : Hid (countN q1 ≤ 64 * k) := by have := HCC.out; have := HCQ.out; show countN q1 ≤ 64 * k; omega
        have HENC := Lib.hid (enc_step put TW.out HR2.out CN.out)
        by_cases herr : encErr l = 0
        · have HER := Lib.hid herr
          have HLL : Hid (l.length ≤ 4611686018427387904) := by have := encErr_le herr; show l.length ≤ 4611686018427387904; omega
          clear herr
          go_wp2_with (first
            | (go_at_call 15; refine HENC.out.mono ?_; rintro e wE he; obtain ⟨vi, vs, slE, q', rfl, hcc, hkE, htE, hfd⟩ := he.2 HER.out; have FD := Lib.hid hfd; have CC := Lib.hid hcc; have YE := HY.out.keep hkE HYX.out.1; clear he hcc hkE htE hfd)
            | (go_at_call 20; refine FD.out.mono ?_; rintro e wF ⟨rfl, slF, htF, hkF, hdF⟩; have TF := Lib.hid htF; have DF := Lib.hid hdF; have YF := Lib.hid (YE.keep hkF HYX.out.2); clear htF hkF hdF)
            | (go_at_call 21; refine DF.out.mono ?_; rintro e wG ⟨ug, rfl, hoG, hbG⟩; obtain ⟨uga, ugc, hug, _, _⟩ := (RdC.of_owns hoG).isSlice; subst hug; obtain ⟨wH, hwH⟩ : ∃ W, W = wG.alloc (.cells #[.int .i64 0, .int .i64 0] 42) := ⟨_, rfl⟩; have hbH : Below wG.heap.size wG wH := (by rw [hwH]; exact below1 wG _); have BH := Lib.hid (hbG.trans (hbH.mono hbG.size)); have TH := Lib.hid (TF.out.below BH.out); have YH := (YF.out.below BH.out).get 0 _ rfl; have qH : Cs wH wG.heap.size [.int .i64 0, .int .i64 0] := (by rw [hwH]; exact Cs.made wG _ _); have y0 := qH.get 0 _ rfl; have y1 := qH.get 1 _ rfl; have HSM := Lib.hid (same_eq wH ((RdC.of_owns hoG).below hbH) (HR2.out.below TH.out.m1.bel) HLL.out); rw [hwH] at YH y0 y1; have HWH := Lib.hid hwH; clear hoG hbG hwH hbH qH)
            | (go_at_call 18; rw [← HWH.out]; refine HSM.out.mono ?_; rintro e wS ⟨rfl, hbS⟩; have TS2 := Lib.hid (TH.out.below hbS); clear hbS))
          refine ⟨⟨k + 1, _, _, q', by simp, HKL.out, TS2.out, by have := CC.out; have := CQ.out; omega⟩, by simp [intOf]; have := HKL.out; omega⟩
        · have HER : Hid (encErr l ≠ 0) := herr
          have d1 : (encErr l == 0) = false := by simp [herr]
          have d2 : (encErr l != 0) = true := by simp [herr]
          have HEE : Hid (Calls Tryz.prog 15 #[.pointer (some ⟨en, 0, none⟩), .slice fa l.length fc, .bool put] WX fun e w' => e = .returned (.tuple #[.slice none 0 0, .slice none 0 0, .int .i64 (encErr l)]) ∧ Below WX.heap.size WX w') := HENC.out.mono fun e w' he => he.1 HER.out
          clear herr HENC HER
          generalize encErr l = er at HEE d1 d2
          go_wp2_with (go_at_call 15; refine HEE.out.mono ?_; rintro e w5 ⟨rfl, hb5⟩; have TE := Lib.hid (TW.out.below hb5); clear hb5)
          refine ⟨⟨k + 1, _, _, _, by simp, HKL.out, TE.out, by have := CQ.out; omega⟩, by simp [intOf]; have := HKL.out; omega⟩
      · have e1 : (y == 0) = false := by simp [hy]
        have HCP : Hid (Calls Tryz.prog 13 #[.pointer (some ⟨en, 0, none⟩), .int .i64 cap] w2 fun e W' => ∃ sl', e = .returned (.tuple #[.slice none 0 0, .int .i64 y]) ∧ Keep (TS c sl1) w2 W' ∧ (∀ i, i < w2.heap.size → i ∉ TS c sl1 → i ∉ TS c sl') ∧ Two w en c sl' q d b sl2 q W') := by
          refine HCAP.out.mono ?_
          rintro e W' ⟨sl', h1, h2, h6, ⟨_, h3⟩ | ⟨h3, _⟩⟩
          · exact ⟨sl', h3, h2, h6, HQS.out hy ▸ h1⟩
          · exact absurd h3 hy
        have HY0 := Lib.hid hy
        clear hy
        go_upto_region 10 with fail
        rw [← HW2.out]
        go_upto_region 13 with (go_at_call 13; refine HCP.out.mono ?_; rintro e WX ⟨slA, rfl, hk5, ho5, htx⟩; have TW := Lib.hid htx; have HY := Lib.hid (HQ2.out.keep hk5 HYN.out.1); have y0 := HY.out.get 0 _ rfl; have y1 := HY.out.get 1 _ rfl; have OA := Lib.hid (ho5 _ HQ2.out.lt HYN.out.1); clear hk5 ho5 htx)
        have HYX : Hid (wr.heap.size ∉ TS c slA ∧ wr.heap.size ∉ TS b sl2) := ⟨OA.out, HYN.out.2⟩
        have CN : Hid (countN q ≤ 1000000) := by have := HCQ.out; have := HL4.out; have := HKL.out; show countN q ≤ 1000000; omega
        have CQ : Hid (countN q ≤ 64 * k) := HCQ.out
        have HENC := Lib.hid (enc_step put TW.out HR2.out CN.out)
        by_cases herr : encErr l = 0
        · have HER := Lib.hid herr
          have HLL : Hid (l.length ≤ 4611686018427387904) := by have := encErr_le herr; show l.length ≤ 4611686018427387904; omega
          clear herr
          go_wp2_with (first
            | (go_at_call 15; refine HENC.out.mono ?_; rintro e wE he; obtain ⟨vi, vs, slE, q', rfl, hcc, hkE, htE, hfd⟩ := he.2 HER.out; have FD := Lib.hid hfd; have CC := Lib.hid hcc; have YE := HY.out.keep hkE HYX.out.1; clear he hcc hkE htE hfd)
            | (go_at_call 20; refine FD.out.mono ?_; rintro e wF ⟨rfl, slF, htF, hkF, hdF⟩; have TF := Lib.hid htF; have DF := Lib.hid hdF; have YF := Lib.hid (YE.keep hkF HYX.out.2); clear htF hkF hdF)
            | (go_at_call 21; refine DF.out.mono ?_; rintro e wG ⟨ug, rfl, hoG, hbG⟩; obtain ⟨uga, ugc, hug, _, _⟩ := (RdC.of_owns hoG).isSlice; subst hug; obtain ⟨wH, hwH⟩ : ∃ W, W = wG.alloc (.cells #[.int .i64 0, .int .i64 0] 42) := ⟨_, rfl⟩; have hbH : Below wG.heap.size wG wH := (by rw [hwH]; exact below1 wG _); have BH := Lib.hid (hbG.trans (hbH.mono hbG.size)); have TH := Lib.hid (TF.out.below BH.out); have YH := (YF.out.below BH.out).get 0 _ rfl; have qH : Cs wH wG.heap.size [.int .i64 0, .int .i64 0] := (by rw [hwH]; exact Cs.made wG _ _); have y0 := qH.get 0 _ rfl; have y1 := qH.get 1 _ rfl; have HSM := Lib.hid (same_eq wH ((RdC.of_owns hoG).below hbH) (HR2.out.below TH.out.m1.bel) HLL.out); rw [hwH] at YH y0 y1; have HWH := Lib.hid hwH; clear hoG hbG hwH hbH qH)
            | (go_at_call 18; rw [← HWH.out]; refine HSM.out.mono ?_; rintro e wS ⟨rfl, hbS⟩; have TS2 := Lib.hid (TH.out.below hbS); clear hbS))
          refine ⟨⟨k + 1, _, _, q', by simp, HKL.out, TS2.out, by have := CC.out; have := CQ.out; omega⟩, by simp [intOf]; have := HKL.out; omega⟩
        · have HER : Hid (encErr l ≠ 0) := herr
          have d1 : (encErr l == 0) = false := by simp [herr]
          have d2 : (encErr l != 0) = true := by simp [herr]
          have HEE : Hid (Calls Tryz.prog 15 #[.pointer (some ⟨en, 0, none⟩), .slice fa l.length fc, .bool put] WX fun e w' => e = .returned (.tuple #[.slice none 0 0, .slice none 0 0, .int .i64 (encErr l)]) ∧ Below WX.heap.size WX w') := HENC.out.mono fun e w' he => he.1 HER.out
          clear herr HENC HER
          generalize encErr l = er at HEE d1 d2
          go_wp2_with (go_at_call 15; refine HEE.out.mono ?_; rintro e w5 ⟨rfl, hb5⟩; have TE := Lib.hid (TW.out.below hb5); clear hb5)
          refine ⟨⟨k + 1, _, _, _, by simp, HKL.out, TE.out, by have := CQ.out; omega⟩, by simp [intOf]; have := HKL.out; omega⟩
    · obtain rfl : k = s4.length := by omega
      have hi1 : ¬ ((s4.length : Int) < (s4.length : Int)) := by omega
      clear hk hkl
      go_wp2_with fail
      go_ret
      exact ⟨rfl, HTW.out.m1.bel⟩
theorem both_no {v : Value} (most : Int) (hmost : most < 0 ∨ 4096 < most) (w : World) (hF : Fix w) (hE : ErrT w) :
    Calls Tryz.prog 4 #[.int .i64 most, v] w (Yes w) := by
  have HNE := Lib.hid (newEnc_no most w hmost)
  have HND := Lib.hid (newDec_no most w hmost)
  have HAL := Lib.hid (alive_any w hF hE)
  clear hmost hF hE
  go_enter Tryz.func4, Tryz.ntmps4
  go_wp2_with (first
    | (go_at_call 9; refine HNE.out.mono ?_; rintro e w1 ⟨rfl, hh⟩; obtain rfl := hh.symm)
    | (go_at_call 19; refine HND.out.mono ?_; rintro e w2 ⟨rfl, hh⟩; obtain rfl := hh.symm)
    | (go_at_call 11; refine HAL.out.mono ?_; rintro e w3 ⟨rfl, hb3⟩; have B3 := Lib.hid hb3; clear hb3))
  go_ret
  exact ⟨rfl, B3.out⟩
theorem both_any {v : Value} {s : List ToldV} (most : Int) (w : World) (hF : Fix w) (hE : ErrT w) (hs : Tolds w v s) :
    Calls Tryz.prog 4 #[.int .i64 most, v] w (Yes w) := by
  by_cases h : most < 0 ∨ 4096 < most
  · exact both_no most h w hF hE
  · obtain ⟨k, rfl⟩ : ∃ k : Nat, most = (k : Int) := ⟨most.toNat, by omega⟩
    exact both_yes k (by omega) w hF hE hs
end Go.Proofs.YtbkbabaoockigaaGreatDoor

set_option maxRecDepth 100000
set_option linter.unusedSimpArgs false
set_option linter.unusedVariables false
namespace Go.Proofs.YtbkbabaoockigaaGreatDoor
open Go.RowKit

theorem addG_lt : ∀ (cs : List Int) (i : Nat) (n r : Int) (j : Nat), addG cs i n = .inl (r, j) → i < j
  | [], i, n, r, j, h => by simp [addG] at h
  | c :: cs, i, n, r, j, h => by
    unfold addG at h
    split at h
    · cases h
    · split at h
      · cases h; omega
      · have := addG_lt cs (i + 1) _ r j h
        omega
theorem addG_take : ∀ (cs : List Int) (i : Nat) (n r : Int) (j m : Nat), addG cs i n = .inl (r, j) → j ≤ i + m → addG (cs.take m) i n = .inl (r, j)
  | [], i, n, r, j, m, h, _ => by simp [addG] at h
  | c :: cs, i, n, r, j, 0, h, hm => by have := addG_lt _ _ _ _ _ h; omega
  | c :: cs, i, n, r, j, m + 1, h, hm => by
    rw [List.take_succ_cons]
    unfold addG at h ⊢
    split at h
    · cases h
    · rename_i h1
      rw [if_neg h1]
      split at h
      · rename_i h2
        rw [if_pos h2]; exact h
      · rename_i h2
        rw [if_neg h2]
        exact addG_take cs (i + 1) _ r j m h (by omega)
theorem getD_take {xs : List Int} {a m : Nat} (h : a < m) : (xs.take m).getD a 0 = xs.getD a 0 := by
  simp [List.getD, List.getElem?_take, h]
theorem getP_take {xs : List Int} {a : Nat} {k f n x : Int} {m : Nat} (h : getP xs a k = (f, n, x, 0, 0)) (ha : (a : Int) < x) (hx : x ≤ m) (hm : m ≤ xs.length) : getP (xs.take m) a k = (f, n, x, 0, 0) := by
  have hl : (xs.take m).length = m := by rw [List.length_take]; omega
  unfold getP at h ⊢
  rw [hl]
  split at h
  · simp at h
  · rename_i h1
    rw [if_neg (fun h => h.elim (fun h => h1 (.inl h)) (fun h => h.elim (fun h => by omega) (fun h => h1 (.inr (.inr h)))))]
    split at h
    · simp at h
    · rw [if_neg (by omega)]
      simp only [Int.toNat_natCast] at h ⊢
      rw [getD_take (by omega)]
      split at h
      · rename_i h2
        rw [if_pos h2]; exact h
      · rename_i h2
        rw [if_neg h2]
        split at h
        · rename_i n' j' hg
          simp only [Prod.mk.injEq] at h
          rw [List.drop_take, addG_take _ _ _ _ _ _ hg (by omega)]
          simp only [Prod.mk.injEq]
          exact h
        · simp only [Prod.mk.injEq] at h
          rename_i y' j' hg
          exfalso
          rcases addG_why _ _ _ _ _ hg with e | e <;> rw [e] at h <;> simp at h
theorem numE_take {xs : List Int} (hb : Bts xs) {a : Nat} {k f : Int} {n x m : Nat} (h : numE xs a k = (f, n, x, 0)) (hx : x ≤ m) (hm : m ≤ xs.length) : numE (xs.take m) a k = (f, n, x, 0) := by
  obtain ⟨h1, h2, _⟩ := num_ok hb h
  have := getP_take h1 (by omega) (by omega) hm
  unfold numE
  rw [this]
  simp
theorem textE_take {xs : List Int} (hb : Bts xs) {a : Nat} {b : Int} {most x m : Nat} {s : ByteArray} (h : textE xs a b most = (s, x, 0)) (hx : x ≤ m) (hm : m ≤ xs.length) : textE (xs.take m) a b most = (s, x, 0) := by
  have hl : (xs.take m).length = m := by rw [List.length_take]; omega
  unfold textE at h ⊢
  obtain ⟨⟨f, n, x1, y⟩, hN⟩ : ∃ r, numE xs a (b - 1) = r := ⟨_, rfl⟩
  rw [hN] at h
  simp only at h
  split at h
  · simp only [Prod.mk.injEq] at h; exact absurd h.2.2 (by assumption)
  · rename_i hy
    obtain rfl : y = 0 := Classical.byContradiction hy
    split at h
    · simp at h
    · rename_i hn
      have hxx : x1 + n = x := by
        split at h
        · simp at h
        · split at h
          · simp at h
          · simp only [Prod.mk.injEq] at h; omega
      rw [numE_take hb hN (by omega) hm]
      simp only
      rw [if_neg (by simp), hl, if_neg (by omega)]
      have e : ((xs.take m).drop x1).take n = (xs.drop x1).take n := by
        rw [List.drop_take, List.take_take, Nat.min_eq_left (by omega)]
      rw [e]
      exact h
theorem insE_take {q : TQ} {xs : List Int} (hb : Bts xs) {a m : Nat} (h : (insE q xs a).2.2 = 0) (hx : (insE q xs a).2.1 ≤ m) (hm : m ≤ xs.length) : insE q (xs.take m) a = insE q xs a := by
  obtain ⟨k1, _, _⟩ := ins_ok hb h
  have hg := getD_take (xs := xs) (a := a) (m := m) (by omega)
  unfold insE at h hx ⊢
  rw [hg]
  by_cases c1 : 128 ≤ xs.getD a 0
  · simp only [if_pos c1] at h hx ⊢
    obtain ⟨⟨f, n, x, y⟩, hN⟩ : ∃ r, numE xs a 6 = r := ⟨_, rfl⟩
    simp only [hN] at h hx ⊢
    by_cases hy : y = 0
    · subst hy
      obtain ⟨⟨v, x', y⟩, hT⟩ : ∃ r, textE xs x 8 512 = r := ⟨_, rfl⟩
      simp only [hT] at h hx ⊢
      by_cases hy : y = 0
      · subst hy
        have a2 := text_ok hb hT
        have hxm : x' ≤ m := by
          simp only [ne_eq, not_true, if_false] at h hx
          generalize (if 192 ≤ xs.getD a 0 then fixedE (n : Int) else getE q ((countN q : Int) - 1 - n)) = R at h hx
          obtain ⟨f', y'⟩ := R
          simp only at h hx
          by_cases h9 : y' = 0
          · simp only [h9, not_true, if_false] at hx; exact hx
          · simp only [h9, not_false_iff, if_true] at h
        rw [numE_take hb hN (by omega) hm]
        simp only [ne_eq, not_true, if_false]
        rw [textE_take hb hT hxm hm]
        simp only [ne_eq, not_true, if_false]
      · simp only [ne_eq, not_true, if_false, hy, not_false_iff, if_true] at h
    · simp only [ne_eq, hy, not_false_iff, if_true] at h
  · simp only [if_neg c1] at h hx ⊢
    by_cases c2 : 64 ≤ xs.getD a 0
    · simp only [if_pos c2] at h hx ⊢
      obtain ⟨⟨nm, x, y⟩, hN⟩ : ∃ r, textE xs a 6 64 = r := ⟨_, rfl⟩
      simp only [hN] at h hx ⊢
      by_cases hy : y = 0
      · subst hy
        obtain ⟨⟨v, x', y⟩, hT⟩ : ∃ r, textE xs x 8 512 = r := ⟨_, rfl⟩
        simp only [hT] at h hx ⊢
        by_cases hy : y = 0
        · subst hy
          have a2 := text_ok hb hT
          have hxm : x' ≤ m := by
            simp only [ne_eq, not_true, if_false] at hx
            exact hx
          rw [textE_take hb hN (by omega) hm]
          simp only [ne_eq, not_true, if_false]
          rw [textE_take hb hT hxm hm]
          simp only [ne_eq, not_true, if_false]
        · simp only [ne_eq, not_true, if_false, hy, not_false_iff, if_true] at h
      · simp only [ne_eq, hy, not_false_iff, if_true] at h
    · simp only [if_neg c2] at h hx ⊢
      obtain ⟨⟨f, n, x, y⟩, hN⟩ : ∃ r, numE xs a 5 = r := ⟨_, rfl⟩
      simp only [hN] at h hx ⊢
      by_cases hy : y = 0
      · subst hy
        have hxm : x ≤ m := by
          simp only [ne_eq, not_true, if_false] at h hx
          split at hx
          · exact hx
          · rename_i c3
            rw [if_neg c3] at h
            generalize getE q ((countN q : Int) - 1 - n) = R at h hx
            obtain ⟨f', y'⟩ := R
            simp only at h hx
            by_cases h9 : y' = 0
            · simp only [h9, not_true, if_false] at hx; exact hx
            · simp only [h9, not_false_iff, if_true] at h
        rw [numE_take hb hN hxm hm]
      · simp only [ne_eq, hy, not_false_iff, if_true] at h
theorem feed_zero {xs : List Int} (hb : Bts xs) : ∀ (k : Nat) (q : TQ) (a : Nat), xs.length + 1 - a = k → (feedE q xs a).2.1 = 0 → (feedE q xs a).2.2 = 0
  | 0, q, a, hk, _ => by rw [feed_end (by omega)]
  | k + 1, q, a, hk, h => by
    by_cases ha : xs.length ≤ a
    · rw [feed_end ha]
    · by_cases hy : (insE q xs a).2.2 = 0
      · rw [feed_step hb hy] at h ⊢
        obtain ⟨k1, _, _⟩ := ins_ok hb hy
        exact feed_zero hb (xs.length + 1 - (insE q xs a).2.1) _ _ rfl h
      · rw [feed_bad (by omega) hy] at h; exact absurd h hy
termination_by k => k
decreasing_by omega
/-- what was fed ahead of the fault, fed alone -/
theorem feed_take {xs : List Int} (hb : Bts xs) : ∀ (k : Nat) (q : TQ) (a : Nat), xs.length + 1 - a = k → (feedE q xs a).2.1 ≠ 0 →
    a ≤ (feedE q xs a).2.2 ∧ (feedE q xs a).2.2 < xs.length ∧ feedE q (xs.take (feedE q xs a).2.2) a = ((feedE q xs a).1, 0, 0)
  | 0, q, a, hk, h => by rw [feed_end (by omega)] at h; exact absurd rfl h
  | k + 1, q, a, hk, h => by
    by_cases ha : xs.length ≤ a
    · rw [feed_end ha] at h; exact absurd rfl h
    · by_cases hy : (insE q xs a).2.2 = 0
      · obtain ⟨k1, k2, _⟩ := ins_ok hb hy
        rw [feed_step hb hy] at h ⊢
        obtain ⟨i1, i2, i3⟩ := feed_take hb (xs.length + 1 - (insE q xs a).2.1) _ _ rfl h
        refine ⟨by omega, i2, ?_⟩
        have e := insE_take (q := q) hb hy i1 (by omega)
        have hbt : Bts (xs.take (feedE (insE q xs a).1 xs (insE q xs a).2.1).2.2) := fun x hx => hb x (List.mem_of_mem_take hx)
        rw [feed_step hbt (by rw [e]; exact hy), e]
        exact i3
      · rw [feed_bad (by omega) hy]
        refine ⟨Nat.le_refl _, by simp only; omega, ?_⟩
        rw [feed_end (by rw [List.length_take]; simp only; omega)]
termination_by k => k
decreasing_by omega
end Go.Proofs.YtbkbabaoockigaaGreatDoor

set_option maxRecDepth 100000
set_option linter.unusedSimpArgs false
set_option linter.unusedVariables false
namespace Go.Proofs.YtbkbabaoockigaaGreatDoor
open Go.RowKit

theorem rd_front {k : IntKind} {w : World} {a : Option Addr} {n c : Nat} {xs : List Int} (h : Rd k w (.slice a n c) xs) (m : Nat) (hm : m ≤ xs.length) : Rd k w (.slice a m c) (xs.take m) := by
  have hl : (xs.take m).length = m := by rw [List.length_take]; omega
  rcases h with ⟨rfl, a', c', e, h3, h4⟩ | ⟨h0, b, o, c', e, h2, h3, h4, h5⟩
  · obtain ⟨rfl, rfl, rfl⟩ : a = a' ∧ n = 0 ∧ c = c' := by simpa using e
    obtain rfl : m = 0 := by simpa using hm
    exact .inl ⟨rfl, a, c, rfl, h3, h4⟩
  · obtain ⟨rfl, rfl, rfl⟩ : a = some ⟨b, o, none⟩ ∧ n = xs.length ∧ c = c' := by simpa using e
    by_cases hm0 : m = 0
    · subst hm0
      exact .inl ⟨by simp, _, _, rfl, h3, fun h => by cases h⟩
    · refine .inr ⟨fun h => by rw [h] at hl; simp at hl; omega, b, o, c, by rw [hl], by omega, h3, h4, fun i hi => ?_⟩
      rw [hl] at hi
      rw [h5 i (by omega), getD_take hi]
theorem linesF_len (q : TQ) (need : Nat) (base : Int) (xs : List Int) : ∀ (k a : Nat) (out : List Fd), out.length ≤ 64 → (linesF q need base xs k a out).1.length ≤ 64
  | 0, a, out, h => h
  | k + 1, a, out, h => by
    unfold linesF
    repeat' split
    · exact h
    · simp
    · simp
    · exact linesF_len q need base xs k _ _ (by rw [List.length_append, List.length_singleton]; omega)
theorem decE_len (q : TQ) (xs : List Int) : (decE q xs).1.length ≤ 64 := by
  unfold decE
  repeat' split
  all_goals first
    | (simp; done)
    | exact linesF_len _ _ _ _ _ _ _ (by simp)
/-- one of two is fed -/
theorem feed_two1 {w W : World} {d1 b1 d2 b2 : Nat} {sl1 sl2 : Value} {q1 q2 : TQ} (h : Two w d1 b1 sl1 q1 d2 b2 sl2 q2 W) {v : Value} {xs : List Int} (hr : Rd .u8 w v xs) (hb : Bts xs) (hl : xs.length ≤ 3000) (hc : countN q1 ≤ 1000000000000000000) :
    Calls Tryz.prog 20 #[.pointer (some ⟨d1, 0, none⟩), v] W fun e W' => e = .returned (.agg #[.int .i64 (feedE q1 xs 0).2.1, .int .i64 ((feedE q1 xs 0).2.2 : Int)]) ∧ ∃ sl', Two w d1 b1 sl' (feedE q1 xs 0).1 d2 b2 sl2 q2 W' := by
  refine (feed_any W h.m1.dcd h.m1.gl (hr.below h.m1.bel) (fun hne j hj hm => ?_) hb (by omega) (by omega)).mono ?_
  · have h1 := h.m1.fresh j (List.mem_cons_of_mem _ hm)
    have h2 := hr.blt hne j hj
    omega
  · rintro e W' ⟨he, hd⟩
    obtain ⟨sl', h1, _⟩ := h.did1 hd
    exact ⟨he, sl', h1⟩
theorem feed_two2 {w W : World} {d1 b1 d2 b2 : Nat} {sl1 sl2 : Value} {q1 q2 : TQ} (h : Two w d1 b1 sl1 q1 d2 b2 sl2 q2 W) {v : Value} {xs : List Int} (hr : Rd .u8 w v xs) (hb : Bts xs) (hl : xs.length ≤ 3000) (hc : countN q2 ≤ 1000000000000000000) :
    Calls Tryz.prog 20 #[.pointer (some ⟨d2, 0, none⟩), v] W fun e W' => e = .returned (.agg #[.int .i64 (feedE q2 xs 0).2.1, .int .i64 ((feedE q2 xs 0).2.2 : Int)]) ∧ ∃ sl', Two w d1 b1 sl1 q1 d2 b2 sl' (feedE q2 xs 0).1 W' :=
  (feed_two1 h.swap hr hb hl hc).mono fun e W' ⟨he, sl', ht⟩ => ⟨he, sl', ht.swap⟩
set_option maxHeartbeats 12800000 in
theorem wrong_any {v : Value} {s : List ActV14} {xv sv : Value} {xs ss : List Int} (w : World) (hF : Fix w) (hE : ErrT w) (hs : Acts w v s) (hsl : s.length ≤ 281474976710656) (hx : Rd .u8 w xv xs) (hxb : Bts xs) (hz : Rd .u8 w sv ss) (hzb : Bts ss) :
    Calls Tryz.prog 6 #[v, xv, sv] w (Yes w) := by
  have HND : Hid (∀ W, Calls Tryz.prog 19 #[.int .i64 (300 : Nat)] W fun e w' => ∃ d b, e = .returned (.tuple #[.pointer (some ⟨d, 0, none⟩), .int .i64 0]) ∧ Dcd d b (.slice none 0 0) (newT 300) w' ∧ W.heap.size ≤ d ∧ W.heap.size ≤ b ∧ Below W.heap.size W w') := fun W => newDec_yes 300 W (by decide)
  have HF := Lib.hid hF
  have HE := Lib.hid hE
  have HA := Lib.hid hs
  have HXR := Lib.hid hx
  have HZR := Lib.hid hz
  have HBT : Hid (Bts xs ∧ Bts ss) := ⟨hxb, hzb⟩
  have HSL := Lib.hid hsl
  obtain ⟨va, vc, rfl, _, _⟩ := hs.row.isSlice
  obtain ⟨xa, xc, rfl⟩ := hx.isSlice
  obtain ⟨za, zc, rfl⟩ := hz.isSlice
  have hxc : xs.length ≤ xc := by
    rcases hx with ⟨rfl, a', c', e, h3, h4⟩ | ⟨h0, b, o, c', e, h2, h3, h4, h5⟩
    · simp
    · simp only [Value.slice.injEq] at e; omega
  have HXC := Lib.hid hxc
  have hxn : xa = none → xc = 0 := by
    rcases hx with ⟨rfl, a', c', e, h3, h4⟩ | ⟨h0, b, o, c', e, h2, h3, h4, h5⟩
    · simp only [Value.slice.injEq] at e; rw [e.1, e.2.2]; exact h4
    · simp only [Value.slice.injEq] at e; rw [e.1]; intro h; cases h
  have HXN := Lib.hid hxn
  clear hF hE hs hsl hx hxb hz hzb hxc hxn
  go_enter Tryz.func6, Tryz.ntmps6
  go_upto_region 2 with (go_at_call 19; refine (HND.out _).mono ?_; rintro e w1 ⟨d, b, rfl, h1, h2, h3, h4⟩; have H1 := Lib.hid h1; have H2 := Lib.hid h2; have H3 := Lib.hid h3; have H4 := Lib.hid h4; clear h1 h2 h3 h4)
  go_wp2_with (first
    | (go_at_call 19; refine (HND.out _).mono ?_; rintro e w2 ⟨en, c, rfl, h5, h6, h7, h8⟩; have TWO2 := Lib.hid (Two.made HF.out HE.out H1.out H2.out H3.out H4.out h5 h6 h7 h8); clear h5 h6 h7 h8)
    | (go_at_call 11; refine (alive_any _ TWO2.out.m1.fixN (HE.out.below TWO2.out.m1.bel)).mono ?_; rintro e w3 ⟨rfl, hb3⟩; have TWO3 := Lib.hid (TWO2.out.below hb3); clear hb3))
  clear HND H1 H2 H3 H4 TWO2
  go_loopw [46] (fun i wr => ∃ (k : Nat) (sl1 sl2 : Value) (q : TQ), i = .int .i64 (k : Int) ∧ k ≤ s.length ∧ Two w d b sl1 q en c sl2 q wr ∧ countN q ≤ 3001 * k) (fun i _ => s.length - (intOf i).toNat)
  case atStart => exact ⟨0, _, _, _, rfl, Nat.zero_le _, TWO3.out, by decide⟩
  case round =>
    obtain ⟨k, sl1, sl2, q, rfl, hk, htw, hcq⟩ := hrel
    have HM := Lib.hid htw
    have HCQ := Lib.hid hcq
    clear htw hcq TWO3
    by_cases hkl : k < s.length
    · obtain ⟨g, o, c', hs2, hgc, hgm, hg⟩ := rd_form (HA.out.below HM.out.m1.bel).row (by omega)
      simp only [Value.slice.injEq, true_and] at hs2
      obtain ⟨rfl, rfl⟩ := hs2
      obtain ⟨c0, c1⟩ := (HA.out.below HM.out.m1.bel).at k hkl
      obtain ⟨hrd, hbt⟩ := HA.out.each s[k] (List.getElem_mem hkl)
      obtain ⟨⟨kd, av, ys⟩, hak⟩ : ∃ a, a = s[k] := ⟨_, rfl⟩
      rw [← hak] at c0 c1 hrd hbt
      simp only at c0 c1 hrd hbt
      obtain ⟨aa, ac, rfl⟩ := hrd.isSlice
      have HRD := Lib.hid hrd
      have HBTY := Lib.hid hbt
      have hi1 : (k : Int) < (s.length : Int) := by omega
      have hi2 : (0 : Int) ≤ (k : Int) := by omega
      have hw1 : IntKind.i64.wrap ((k : Int) + 1) = ((k + 1 : Nat) : Int) := by rw [wraps_i64' _ (by omega) (by have := HSL.out; omega)]; omega
      have HKL := Lib.hid hkl
      obtain ⟨w2, hw2⟩ : ∃ W, W = wr.alloc (.cells #[.int .u8 kd, .slice aa ys.length ac] 58) := ⟨_, rfl⟩
      have hb2 : Below wr.heap.size wr w2 := by rw [hw2]; exact below1 wr _
      have q2 : Cs w2 wr.heap.size [.int .u8 kd, .slice aa ys.length ac] := by rw [hw2]; exact Cs.made wr _ _
      have HQ2 := Lib.hid q2
      have x1 := q2.get 1 _ rfl
      have M2 := Lib.hid (HM.out.below hb2)
      have HW2 := Lib.hid hw2
      clear hak hkl hk hg hgc hgm hrd hbt hb2 hw2 q2
      by_cases hln : ys.length ≤ 3000
      · have d1 : decide ((ys.length : Int) ≤ 3000) = true := decide_eq_true (by omega)
        have d2 : decide (ys.length ≤ 3000) = true := decide_eq_true hln
        have HWN : Hid (wr.heap.size ∉ TS b sl1) := fun hm => by have := HM.out.m1.lt _ (List.mem_cons_of_mem _ hm); omega
        have HFD : Hid (Calls Tryz.prog 20 #[.pointer (some ⟨d, 0, none⟩), .slice aa ys.length ac] w2 fun e w' => ∃ x y, e = .returned (.agg #[.int .i64 x, .int .i64 y]) ∧ Cs w' wr.heap.size [.int .u8 kd, .slice aa ys.length ac] ∧
            Calls Tryz.prog 20 #[.pointer (some ⟨en, 0, none⟩), .slice aa ys.length ac] w' fun e' w2 => ∃ x y, e' = .returned (.agg #[.int .i64 x, .int .i64 y]) ∧ ∃ sl1' sl2' q', Two w d b sl1' q' en c sl2' q' w2 ∧ countN q' ≤ 3001 * (k + 1)) := by
          refine (feed_any w2 M2.out.m1.dcd M2.out.m1.gl (HRD.out.below M2.out.m1.bel) (fun hne j hj hm => ?_) HBTY.out (by omega) (by have := HCQ.out; have := HKL.out; have := HSL.out; omega)).mono ?_
          · have h1 := M2.out.m1.fresh j (List.mem_cons_of_mem _ hm)
            have h2 := HRD.out.blt hne j hj
            omega
          · rintro e w' ⟨he, hd⟩
            obtain ⟨sl1', t1, k1⟩ := M2.out.did1 hd
            refine ⟨_, _, he, HQ2.out.keep k1 HWN.out, (feed_two2 t1 HRD.out HBTY.out hln (by have := HCQ.out; have := HKL.out; have := HSL.out; omega)).mono ?_⟩
            rintro e' w2 ⟨he', sl2', t2⟩
            have h4 := feed_count q ys
            have h5 := HCQ.out
            exact ⟨_, _, he', sl1', sl2', _, t2, by omega⟩
        clear hln
        go_upto_region 8 with fail
        rw [← HW2.out]
        go_wp2_with (first
          | (go_at_call 20; refine HFD.out.mono ?_; rintro e w3 ⟨x, y, rfl, y3, hf3⟩; have F3 := Lib.hid hf3; have z1 := y3.get 1 _ rfl; clear y3 hf3 HFD)
          | (go_at_call 20; refine F3.out.mono ?_; rintro e w4 ⟨x4, y4, rfl, sl1', sl2', q', ht, hc4⟩; have T4 := Lib.hid ht; have C4 := Lib.hid hc4; clear ht hc4))
        refine ⟨⟨k + 1, _, _, q', by simp, HKL.out, T4.out, C4.out⟩, by simp [intOf]; have := HKL.out; omega⟩
      · have d1 : decide ((ys.length : Int) ≤ 3000) = false := decide_eq_false (by omega)
        have d2 : decide (ys.length ≤ 3000) = false := decide_eq_false hln
        clear hln
        go_upto_region 8 with fail
        rw [← HW2.out]
        go_wp2_with fail
        refine ⟨⟨k + 1, sl1, sl2, q, by simp, HKL.out, M2.out, by have := HCQ.out; omega⟩, by simp [intOf]; have := HKL.out; omega⟩
    · obtain rfl : k = s.length := by omega
      have hi1 : ¬ ((s.length : Int) < (s.length : Int)) := by omega
      clear hk hkl
      by_cases hx3 : xs.length ≤ 3000
      · have x1 : decide ((xs.length : Int) > 3000) = false := decide_eq_false (by omega)
        have x2 : decide (3000 < xs.length) = false := decide_eq_false (by omega)
        have x3 : decide ((3000 : Int) < (xs.length : Int)) = false := decide_eq_false (by omega)
        by_cases hz3 : ss.length ≤ 3000
        · have z1 : decide ((ss.length : Int) > 3000) = false := decide_eq_false (by omega)
          have z2 : decide (3000 < ss.length) = false := decide_eq_false (by omega)
          have z3 : decide ((3000 : Int) < (ss.length : Int)) = false := decide_eq_false (by omega)
          have hcq : countN q ≤ 900000000000000000 := by have := HCQ.out; have := HSL.out; omega
          have hfx := feed_two1 HM.out HXR.out HBT.out.1 hx3 (by omega)
          have hfz := feed_zero HBT.out.1 _ q 0 rfl
          have hft := feed_take HBT.out.1 _ q 0 rfl
          have hfc := feed_count q xs
          obtain ⟨⟨q1, y, a⟩, hR⟩ : ∃ r, feedE q xs 0 = r := ⟨_, rfl⟩
          rw [hR] at hfx hfz hft hfc
          simp only at hfx hfz hft hfc
          have HFX := Lib.hid hfx
          have HC1 : Hid (countN q1 ≤ 1000000000000000000) := by show countN q1 ≤ 1000000000000000000; omega
          have HX3 : Hid (xs.length ≤ 3000 ∧ ss.length ≤ 3000 ∧ countN q ≤ 900000000000000000) := ⟨hx3, hz3, hcq⟩
          by_cases hy : y = 0
          · subst hy
            obtain rfl : a = 0 := hfz rfl
            have qt : ∀ W, (Op.equalIn 10000 42 (.agg #[.int .i64 0, .int .i64 0]) (.agg #[.int .i64 0, .int .i64 0])).run Tryz.prog W = .ok true W := fun W => by have := eqQ_any 0 0 0 0 W; rw [decide_eq_true ⟨rfl, rfl⟩] at this; exact this
            clear hfx hfz hft hfc hR hcq hx3 hz3
            go_wp2_with (go_at_call 20; refine HFX.out.mono ?_; rintro e w5 ⟨rfl, sl5, t5⟩; have Y5 := Cs.made w5 #[.int .i64 0, .int .i64 0] 42; have y0 := Y5.get 0 _ rfl; have y1 := Y5.get 1 _ rfl; have B5 := Lib.hid t5.m1.bel; clear t5 Y5)
            go_ret
            exact ⟨rfl, B5.out.alloc B5.out.size _⟩
          · obtain ⟨_, ha, hfa⟩ := hft hy
            have qf : ∀ W, (Op.equalIn 10000 42 (.agg #[.int .i64 y, .int .i64 (a : Int)]) (.agg #[.int .i64 0, .int .i64 0])).run Tryz.prog W = .ok false W := fun W => by have := eqQ_any y a 0 0 W; rw [decide_eq_false (fun h => hy h.1)] at this; exact this
            have qt : ∀ W, (Op.equalIn 10000 42 (.agg #[.int .i64 0, .int .i64 0]) (.agg #[.int .i64 0, .int .i64 0])).run Tryz.prog W = .ok true W := fun W => by have := eqQ_any 0 0 0 0 W; rw [decide_eq_true ⟨rfl, rfl⟩] at this; exact this
            have a1 : decide ((a : Int) < 0) = false := decide_eq_false (by omega)
            have a2 : decide ((a : Int) > (xs.length : Int)) = false := decide_eq_false (by omega)
            have a3 : decide ((xs.length : Int) < (a : Int)) = false := decide_eq_false (by omega)
            have a4 : decide (xs.length < a) = false := decide_eq_false (by omega)
            have i0 : (0 : Int) ≤ (a : Int) := by omega
            have i1 : (a : Int) ≤ (xc : Int) := by have := HXC.out; omega
            have i2 : a ≤ xc := by have := HXC.out; omega
            obtain ⟨⟨xb, xo, xf⟩, hxa⟩ : ∃ ad, xa = some ad := by
              cases xa with
              | none => have := HXN.out rfl; have := HXC.out; omega
              | some ad => exact ⟨ad, rfl⟩
            have HFA := Lib.hid hfa
            have HTK := Lib.hid (rd_front HXR.out a (by omega))
            have HTB : Hid (Bts (xs.take a) ∧ (xs.take a).length ≤ 3000) := ⟨fun x hx => HBT.out.1 x (List.mem_of_mem_take hx), by rw [List.length_take]; omega⟩
            obtain ⟨⟨l2, y2, p2⟩, hD⟩ : ∃ r, decE q1 ss = r := ⟨_, rfl⟩
            have HDE := Lib.hid hD
            have qs : ∀ W, (Op.equalIn 10000 42 (.agg #[.int .i64 y2, .int .i64 (p2 : Int)]) (.agg #[.int .i64 y2, .int .i64 (p2 : Int)])).run Tryz.prog W = .ok true W := fun W => by have := eqQ_any y2 p2 y2 p2 W; rw [decide_eq_true ⟨rfl, rfl⟩] at this; exact this
            have HL2 : Hid (l2.length ≤ 4611686018427387904) := by
              have := decE_len q1 ss
              rw [hD] at this
              simp only at this
              show l2.length ≤ 4611686018427387904
              omega
            subst hxa
            have HDEC : Hid (∀ W u1 b1 t1, Mq w u1 b1 t1 q1 W → Calls Tryz.prog 21 #[.pointer (some ⟨u1, 0, none⟩), .slice za ss.length zc] W (DecIs14 W (l2, y2, p2))) := fun W u1 b1 t1 hm => by
              have := decode_any W hm.dcd hm.gl (HZR.out.below hm.bel) (fun hne j hj hmm => by
                have h1 := hm.fresh j (List.mem_cons_of_mem _ hmm)
                have h2 := HZR.out.blt hne j hj
                omega) HBT.out.2 (by have := HX3.out; omega) (by have := HC1.out; omega)
              rw [HDE.out] at this
              exact this
            obtain ⟨N, hN⟩ : ∃ N, N = countN q1 := ⟨_, rfl⟩
            have n1 : ((N : Int) != (N : Int)) = false := by simp
            have n2 : (N != N) = false := by simp
            have n3 : ((N : Int) == (N : Int)) = true := by simp
            have HCNT : Hid (∀ W u1 b1 t1, Mq w u1 b1 t1 q1 W → Calls Tryz.prog 22 #[.pointer (some ⟨u1, 0, none⟩)] W fun e w' => e = .returned (.int .i64 (N : Int)) ∧ Below W.heap.size W w') := fun W u1 b1 t1 hm => by
              rw [hN]
              exact dcount_any W hm.dcd (by have := HC1.out; omega)
            clear hN hfx hfz hft hfc hR hcq hx3 hz3 hy ha hfa hD
            go_wp2_with (first
              | (go_at_call 20; refine HFX.out.mono ?_; rintro e w5 ⟨rfl, sl5, t5⟩; obtain ⟨w6, hw6⟩ : ∃ W, W = w5.alloc (.cells #[.int .i64 y, .int .i64 (a : Int)] 42) := ⟨_, rfl⟩; have hb6 : Below w5.heap.size w5 w6 := (by rw [hw6]; exact below1 w5 _); have T6 := Lib.hid (t5.below hb6); have Y6 : Cs w6 w5.heap.size [.int .i64 y, .int .i64 (a : Int)] := (by rw [hw6]; exact Cs.made w5 _ _); have y0 := Y6.get 0 _ rfl; have y1 := Y6.get 1 _ rfl; rw [hw6] at y0 y1; have HW6 := Lib.hid hw6; clear t5 Y6 hb6 hw6 HFX)
              | (go_at_call 20; rw [← HW6.out]; have hf7 := feed_two2 T6.out HTK.out HTB.out.1 HTB.out.2 (by have := HX3.out; omega); rw [HFA.out] at hf7; refine hf7.mono ?_; rintro e w7 ⟨rfl, sl7, t7⟩; have T7 := Lib.hid t7; clear hf7 t7)
              | (go_at_call 22; refine (HCNT.out _ _ _ _ T7.out.m1).mono ?_; rintro e w8 ⟨rfl, hb8⟩; have T8 := Lib.hid (T7.out.below hb8); clear hb8 T7)
              | (go_at_call 22; refine (HCNT.out _ _ _ _ T8.out.m2).mono ?_; rintro e w9 ⟨rfl, hb9⟩; have T9 := Lib.hid (T8.out.below hb9); clear hb9)
              | (go_at_call 21; refine (HDEC.out _ _ _ _ T9.out.m1).mono ?_; rintro e w10 ⟨u1, rfl, ho10, hb10⟩; obtain ⟨u1a, u1c, hu1, _, _⟩ := (RdC.of_owns ho10).isSlice; subst hu1; obtain ⟨w11, hw11⟩ : ∃ W, W = w10.alloc (.cells #[.int .i64 y2, .int .i64 (p2 : Int)] 42) := ⟨_, rfl⟩; have hb11 : Below w10.heap.size w10 w11 := (by rw [hw11]; exact below1 w10 _); have T11 := Lib.hid (T9.out.below (hb10.trans (hb11.mono hb10.size))); have O11 : Hid (RdC 2 w11 (.slice u1a l2.length u1c) l2.length (fdC l2)) := (RdC.of_owns ho10).below hb11; have Y11 : Hid (Cs w11 w10.heap.size [.int .i64 y2, .int .i64 (p2 : Int)]) := (by rw [hw11]; exact Cs.made w10 _ _ : Cs w11 w10.heap.size _); have HW11 := Lib.hid hw11; clear ho10 hb10 hw11 hb11 T9)
              | (go_at_call 21; rw [← HW11.out]; refine (HDEC.out _ _ _ _ T11.out.m2).mono ?_; rintro e w12 ⟨u2, rfl, ho12, hb12⟩; obtain ⟨u2a, u2c, hu2, _, _⟩ := (RdC.of_owns ho12).isSlice; subst hu2; obtain ⟨w13, hw13⟩ : ∃ W, W = w12.alloc (.cells #[.int .i64 y2, .int .i64 (p2 : Int)] 42) := ⟨_, rfl⟩; have hb13 : Below w12.heap.size w12 w13 := (by rw [hw13]; exact below1 w12 _); have hbb := hb12.trans (hb13.mono hb12.size); have HSM := Lib.hid (same_eq w13 (O11.out.below hbb) ((RdC.of_owns ho12).below hb13) HL2.out); have Y13a := Lib.hid (Y11.out.below hbb); have Y13b : Hid (Cs w13 w12.heap.size [.int .i64 y2, .int .i64 (p2 : Int)]) := (by rw [hw13]; exact Cs.made w12 _ _ : Cs w13 w12.heap.size _); have HW13 := Lib.hid hw13; have B13 := Lib.hid (T11.out.m1.bel.trans (hbb.mono T11.out.m1.bel.size)); clear ho12 hb12 hw13 hb13 hbb)
              | (go_at_call 18; rw [← HW13.out]; refine HSM.out.mono ?_; rintro e w14 ⟨rfl, hb14⟩; have y0 := (Y13a.out.below hb14).get 0 _ rfl; have y1 := (Y13a.out.below hb14).get 1 _ rfl; have y2 := (Y13b.out.below hb14).get 0 _ rfl; have y3 := (Y13b.out.below hb14).get 1 _ rfl; have B14 := Lib.hid (B13.out.trans (hb14.mono B13.out.size)); clear hb14))
            go_ret
            exact ⟨rfl, B14.out⟩
        · have z1 : decide ((ss.length : Int) > 3000) = true := decide_eq_true (by omega)
          have z2 : decide (3000 < ss.length) = true := decide_eq_true (by omega)
          have z3 : decide ((3000 : Int) < (ss.length : Int)) = true := decide_eq_true (by omega)
          clear hx3 hz3
          go_wp2_with fail
          go_ret
          exact ⟨rfl, HM.out.m1.bel⟩
      · have x1 : decide ((xs.length : Int) > 3000) = true := decide_eq_true (by omega)
        have x2 : decide (3000 < xs.length) = true := decide_eq_true (by omega)
        have x3 : decide ((3000 : Int) < (xs.length : Int)) = true := decide_eq_true (by omega)
        clear hx3
        go_wp2_with fail
        go_ret
        exact ⟨rfl, HM.out.m1.bel⟩
end Go.Proofs.YtbkbabaoockigaaGreatDoor

set_option maxRecDepth 100000
set_option linter.unusedSimpArgs false
set_option linter.unusedVariables false
namespace Go.Proofs.YtbkbabaoockigaaGreatDoor
open Go.ChangeShapes Go.WideShapes Go.ChangeAt Go.RowKit Go.Deep

section
variable {H : Type} {enc : TypeId × Value → H}
theorem open_numsC' {P : Program} {W : World} {t e : TypeId} {k : IntKind} {fuel : Nat} {cs : List Value} {d : DataW H} {p : List MemPlace} (ht : P.underlying t = some (.slice e)) (he : P.underlying e = some (.int k)) (hc : P.cellsOf e = 1)
    (hf : DataW.trod enc P W 0 (fun _ => true) true fuel t cs = some (d, p)) (hlt : ∀ x ∈ p, x.block < W.heap.size) : ∃ v xs, cs = [v] ∧ Rd k W v xs ∧ ∀ n ∈ xs, (Lit.int k n).wf = true := by
  rcases open_ints ht he hc hf with ⟨hcs, hx⟩ | ⟨a, len, cap, zs, hcs, _, hl, hm, hz, hx, hcell, hwz⟩
  · exact ⟨_, [], hcs, Rd.nil _ _, by simp⟩
  · simp only [Prod.mk.injEq] at hx
    obtain ⟨rfl, rfl⟩ := hx
    simp only [if_true] at hz
    refine ⟨_, zs.take len, hcs, ?_, fun n hn => hwz n (List.mem_of_mem_take hn)⟩
    by_cases h0 : len = 0
    · subst h0
      exact .inl ⟨by simp, some a, cap, rfl, hm, fun h => by cases h⟩
    · obtain ⟨b, off, spot⟩ := a
      have hspot : spot = none := by simpa [Addr.add] using World.cell?_spot (hcell 0 (by omega))
      subst hspot
      have hb : b < W.heap.size := hlt (.cell b off) (MemPlace.mem_row.2 ⟨0, by omega, by simp⟩)
      have hlen : (zs.take len).length = len := by rw [List.length_take]; omega
      refine .inr ⟨fun h => h0 (by rw [← hlen, h]; rfl), b, off, cap, by rw [hlen], by omega, hm, hb, fun i hi => ?_⟩
      rw [hlen] at hi
      rw [← add_plain, hcell i (by omega)]
      simp [List.getD, hi]

theorem open_rowsC {α : Type} {P : Program} {W : World} {m fuel : Nat} {cs : List Value} {t e : TypeId} {d : DataW H} {p : List MemPlace} (cell : α → List Value) (ok : α → Prop) (z : α) (hm0 : 0 < m) (hcl : ∀ x, (cell x).length = m)
    (ht : P.underlying t = some (.slice e)) (hce : P.cellsOf e = m)
    (hopen : ∀ {fuel : Nat} {cs : List Value} {d : DataW H} {p : List MemPlace}, DataW.trod enc P W 0 (fun _ => true) true fuel e cs = some (d, p) → (∀ x ∈ p, x.block < W.heap.size) → cs.length = m → ∃ c, cs = cell c ∧ ok c)
    (hf : DataW.trod enc P W 0 (fun _ => true) true fuel t cs = some (d, p)) (hlt : ∀ x ∈ p, x.block < W.heap.size) :
    ∃ (v : Value) (l : List α), cs = [v] ∧ RdC m W v l.length (l.flatMap cell) ∧ (∀ c ∈ l, ok c) ∧ ((l = [] ∧ d = .nil) ∨ ∃ es rest, d = .slice es rest ∧ es.length = l.length) := by
  rcases open_slice ht hf with ⟨hcs, hx⟩ | ⟨a, len0, cap0, mm, n, D, Pl, hcs, _, hl, hm, hmm, hx, hcell⟩
  · simp only [Prod.mk.injEq] at hx
    exact ⟨_, [], hcs, RdC.nil _ _, (fun c hc => by cases hc), .inl ⟨rfl, hx.1⟩⟩
  · subst hcs
    simp only [if_true] at hmm
    simp only [Prod.mk.injEq] at hx
    obtain ⟨rfl, rfl⟩ := hx
    rw [hce] at hcell hlt
    have each : ∀ i, i < len0 → ∃ c : α, (∀ j, j < m → W.cell? (a.add (i * m + j)) = (cell c)[j]?) ∧ ok c := by
      intro i hi
      obtain ⟨cs', h1, h2⟩ := hcell i (by omega)
      obtain ⟨_, hlen, hc⟩ := World.cells?_some h1
      obtain ⟨c, rfl, hg⟩ := hopen h2 (fun x hx => hlt x (List.mem_append_right _ (List.mem_flatMap.2 ⟨i, List.mem_range.2 (by omega), hx⟩))) hlen
      refine ⟨c, fun j hj => ?_, hg⟩
      have := hc j hj
      rw [add_add] at this
      exact this
    obtain ⟨G, hG⟩ : ∃ G : Nat → α, ∀ i, i < len0 → (∀ j, j < m → W.cell? (a.add (i * m + j)) = (cell (G i))[j]?) ∧ ok (G i) := by
      classical
      exact ⟨fun i => if h : ∃ c : α, (∀ j, j < m → W.cell? (a.add (i * m + j)) = (cell c)[j]?) ∧ ok c then h.choose else z, fun i hi => by
        simp only [dif_pos (each i hi)]
        exact (each i hi).choose_spec⟩
    have hlen : ((List.range len0).map G).length = len0 := by simp
    have hfl : ((List.range len0).map G |>.flatMap cell).length = len0 * m := by rw [flat_len cell m hcl, hlen]
    refine ⟨_, (List.range len0).map G, rfl, ?_, ?_, .inr ⟨_, _, rfl, by simp⟩⟩
    · rw [hlen]
      refine ⟨hfl, ?_⟩
      by_cases h0 : len0 = 0
      · subst h0
        exact .inl ⟨rfl, some a, cap0, rfl, hm, fun h => by cases h⟩
      · obtain ⟨b, off, spot⟩ := a
        have hspot : spot = none := by
          have := (hG 0 (by omega)).1 0 hm0
          rw [List.getElem?_eq_getElem (by rw [hcl]; exact hm0)] at this
          simpa [Addr.add] using World.cell?_spot this
        subst hspot
        have hb : b < W.heap.size := hlt (.cell b off) (List.mem_append_left _ (MemPlace.mem_row.2 ⟨0, Nat.mul_pos (by omega) hm0, by simp⟩))
        refine .inr ⟨by omega, b, off, cap0, rfl, hl, hm, hb, fun j u hu => ?_⟩
        have hj : j < len0 * m := by
          have := (List.getElem?_eq_some_iff.1 hu).1
          rw [hfl] at this; exact this
        have hd : j / m < len0 := (Nat.div_lt_iff_lt_mul hm0).2 hj
        have hq := (hG (j / m) hd).1 (j % m) (Nat.mod_lt _ hm0)
        have e2 : j / m * m + j % m = j := by rw [Nat.mul_comm]; exact Nat.div_add_mod j m
        rw [e2, add_plain] at hq
        have hf := flat_get cell m hcl ((List.range len0).map G) (j / m) (j % m) (by rw [hlen]; exact hd) (Nat.mod_lt _ hm0)
        rw [e2] at hf
        rw [hq, ← hu, hf]
        simp
    · intro c hc
      obtain ⟨i, hi, rfl⟩ := List.mem_map.1 hc
      exact (hG i (List.mem_range.1 hi)).2

theorem cellsBytes14 : Tryz.prog.cellsOf 38 = 1 := by kernel_rfl
theorem cellsFds14 : Tryz.prog.cellsOf 27 = 1 := by kernel_rfl
theorem cellsBool14 : Tryz.prog.cellsOf 4 = 1 := by kernel_rfl
theorem cellsAct14 : Tryz.prog.cellsOf 58 = 2 := by kernel_rfl
theorem cellsTold14 : Tryz.prog.cellsOf 37 = 3 := by kernel_rfl
/-- two cells that read as a call -/
theorem open_act14 {W : World} {fuel : Nat} {cs : List Value} {d : DataW H} {p : List MemPlace} (hf : DataW.trod enc Tryz.prog W 0 (fun _ => true) true fuel 58 cs = some (d, p)) (hlt : ∀ x ∈ p, x.block < W.heap.size) (hl : cs.length = 2) :
    ∃ c : ActV14, cs = actCell14 c ∧ (Rd .u8 W c.2.1 c.2.2 ∧ Bts c.2.2) := by
  obtain ⟨xs, k, _, hxy, _, hxl, hg⟩ := DataW.trod_struct Tryz.underlying58 hf
  match xs, hxl, cs, hl with
  | [y0, y1], _, [v0, v1], _ =>
    have g0 := hg 0 _ rfl
    have g1 := hg 1 _ rfl
    simp [cellsU8, cellsBytes14] at g0 g1
    simp only [Prod.mk.injEq] at hxy
    obtain ⟨rfl, rfl⟩ := hxy
    obtain ⟨n0, e0, _, w0⟩ := DataW.trod_int Tryz.underlying5 g0
    obtain ⟨q2, bs, e2, hs, hb⟩ := open_numsC' (d := y1.1) (p := y1.2) Tryz.underlying38 Tryz.underlying5 cellsU8 g1 (fun x hx => hlt x (by simp [hx]))
    simp only [List.cons.injEq, and_true] at e0 e2
    exact ⟨⟨n0, q2, bs⟩, by simp only [actCell14, e0, e2], hs, bts_of_wf hb⟩
/-- A SCRIPT THAT CAME IN -/
theorem open_acts14 {W : World} {base : Nat} {v : Value} {d : DataW H} {p : List MemPlace} (hval : Value.okWide Tryz.prog W .any base 56 v) (h : DataW.Trod enc Tryz.prog W 0 (fun _ => true) true 56 v d p) (hlt : ∀ x ∈ p, x.block < W.heap.size) :
    ∃ s : List ActV14, Acts W v s ∧ ((s = [] ∧ d = .nil) ∨ ∃ es rest, d = .slice es rest ∧ es.length = s.length) := by
  obtain ⟨s, h1, h2, h3⟩ := open_rows (m := 2) actCell14 (fun c : ActV14 => Rd .u8 W c.2.1 c.2.2 ∧ Bts c.2.2) ⟨0, .slice none 0 0, []⟩ (by omega) (fun _ => rfl) Tryz.underlying56 cellsAct14 (fun h1 h2 h3 => open_act14 h1 h2 h3) hval h hlt
  exact ⟨s, ⟨h1, h2⟩, h3⟩
/-- three cells that read as a list told -/
theorem open_told14 {W : World} {fuel : Nat} {cs : List Value} {d : DataW H} {p : List MemPlace} (hf : DataW.trod enc Tryz.prog W 0 (fun _ => true) true fuel 37 cs = some (d, p)) (hlt : ∀ x ∈ p, x.block < W.heap.size) (hl : cs.length = 3) :
    ∃ c : ToldV, cs = toldCell c ∧ RdC 2 W c.v c.l.length (fdC c.l) := by
  obtain ⟨xs, k, _, hxy, _, hxl, hg⟩ := DataW.trod_struct Tryz.underlying37 hf
  match xs, hxl, cs, hl with
  | [y0, y1, y2], _, [v0, v1, v2], _ =>
    have g0 := hg 0 _ rfl
    have g1 := hg 1 _ rfl
    have g2 := hg 2 _ rfl
    simp [cellsInt, cellsFds14, cellsBool14] at g0 g1 g2
    simp only [Prod.mk.injEq] at hxy
    obtain ⟨rfl, rfl⟩ := hxy
    obtain ⟨fv, l, e0, hr, _⟩ := open_rowsC (m := 2) (d := y0.1) (p := y0.2) fdCell (fun _ => True) noFd (by omega) (fun _ => rfl) Tryz.underlying27 cellsFd (fun h1 _ h3 => by obtain ⟨f, e, _⟩ := open_fdC h1 h3; exact ⟨f, e, trivial⟩) g0 (fun x hx => hlt x (by simp [hx]))
    obtain ⟨b1, e1, _⟩ := DataW.trod_bool Tryz.underlying4 g1
    obtain ⟨n2, e2, _⟩ := DataW.trod_int Tryz.underlying3 g2
    simp only [List.cons.injEq, and_true] at e0 e1 e2
    exact ⟨⟨fv, b1, n2, l⟩, by simp only [toldCell, e0, e1, e2], hr⟩
/-- LISTS TOLD THAT CAME IN -/
theorem open_tolds14 {W : World} {base : Nat} {v : Value} {d : DataW H} {p : List MemPlace} (hval : Value.okWide Tryz.prog W .any base 22 v) (h : DataW.Trod enc Tryz.prog W 0 (fun _ => true) true 22 v d p) (hlt : ∀ x ∈ p, x.block < W.heap.size) :
    ∃ s : List ToldV, Tolds W v s := by
  obtain ⟨s, h1, h2, _⟩ := open_rows (m := 3) toldCell (fun c : ToldV => RdC 2 W c.v c.l.length (fdC c.l)) ⟨.slice none 0 0, false, 0, []⟩ (by omega) (fun _ => rfl) Tryz.underlying22 cellsTold14 (fun h1 h2 h3 => open_told14 h1 h2 h3) hval h hlt
  exact ⟨s, ⟨h1, h2⟩⟩
/-- FIELDS THAT CAME IN -/
theorem open_fds14 {W : World} {base : Nat} {v : Value} {d : DataW H} {p : List MemPlace} (hval : Value.okWide Tryz.prog W .any base 27 v) (h : DataW.Trod enc Tryz.prog W 0 (fun _ => true) true 27 v d p) (hlt : ∀ x ∈ p, x.block < W.heap.size) :
    ∃ l : List Fd, RdC 2 W v l.length (fdC l) := by
  obtain ⟨l, h1, _⟩ := open_rows (m := 2) fdCell (fun _ => True) noFd (by omega) (fun _ => rfl) Tryz.underlying27 cellsFd (fun h1 _ h3 => by obtain ⟨f, e, _⟩ := open_fdC h1 h3; exact ⟨f, e, trivial⟩) hval h hlt
  exact ⟨l, h1⟩
end
end Go.Proofs.YtbkbabaoockigaaGreatDoor

set_option maxRecDepth 100000
set_option linter.unusedSimpArgs false
set_option linter.unusedVariables false
namespace Go.Proofs.YtbkbabaoockigaaGreatDoor
open Go.ChangeShapes Go.WideShapes Go.ChangeAt Go.RowKit

theorem gErr : Tryz.prog.globalNamed "errors.errorType" = some 1 := by kernel_rfl
theorem gRt : (Tryz.prog.cutTypes.find? (·.1 == "internal/reflectlite.rtype")).map (·.2) = some 178 := by kernel_rfl
theorem gSize : Tryz.prog.types.size = 239 := by kernel_rfl
theorem gRow : ((List.range 239).filter fun t => Tryz.prog.rowNamed t [101, 114, 114, 111, 114]) = [95] := by kernel_rfl
theorem errT_of_handles {W : World} (h : handlesMet Tryz.prog [("errors.errorType", Rows.laid_errors_errorType)] W) : ErrT W := by
  obtain ⟨name, u, ty, e1, e2, e3, e4, e5⟩ := h _ (List.mem_singleton.2 rfl)
  have en : name = [101, 114, 114, 111, 114] := (Option.some.inj e1).symm
  subst en
  obtain rfl := Option.some.inj (gRt.symm.trans e2)
  have hm : ty ∈ (List.range 239).filter fun t => Tryz.prog.rowNamed t [101, 114, 114, 111, 114] := List.mem_filter.2 ⟨List.mem_range.2 (by rw [← gSize]; exact e3), e4⟩
  rw [gRow] at hm
  obtain rfl := List.mem_singleton.1 hm
  have hh : typeHandle Tryz.prog 95 = .pointer (some ⟨2, 95, none⟩) := by kernel_rfl
  rw [hh] at e5
  simpa [ErrT] using World.var?_cell gErr e5 0
theorem both_of_laid {W : World} (h : laidMetH Tryz.prog [("errors.errorType", Rows.laid_errors_errorType), ("turnbuckle/qtab.fixed", Rows.laid_turnbuckle_qtab_fixed)] W) : Fix W ∧ ErrT W := by
  have h' : laidMet Tryz.prog [("turnbuckle/qtab.fixed", Rows.laid_turnbuckle_qtab_fixed)] W ∧ handlesMet Tryz.prog [("errors.errorType", Rows.laid_errors_errorType)] W := h
  exact ⟨fix_of_laid h'.1, errT_of_handles h'.2⟩
section
variable {H : Type} {enc : TypeId × Value → H}
theorem open_actV14 {W : World} {base : Nat} {v : Value} {d : DataW H} {p : List MemPlace} (hval : Value.okWide Tryz.prog W .any base 58 v) (h : DataW.Trod enc Tryz.prog W 0 (fun _ => true) true 58 v d p) (hlt : ∀ x ∈ p, x.block < W.heap.size) :
    ∃ (k : Int) (a : Option Addr) (n c : Nat), v = .agg #[.int .u8 k, .slice a n c] := by
  obtain ⟨cs, rfl, hsz⟩ := okWide_struct Tryz.underlying58 hval
  obtain ⟨fuel, hf⟩ := h
  have hl : (Value.agg cs).cells.toList.length = 2 := by
    rw [cellsAct14] at hsz
    simpa [Value.cells] using hsz
  obtain ⟨c, e, hr, _⟩ := open_act14 hf hlt hl
  obtain ⟨a, cc, ha⟩ := hr.isSlice
  refine ⟨c.1, a, c.2.2.length, cc, ?_⟩
  have : cs.toList = actCell14 c := by simpa [Value.cells] using e
  rw [← Array.toArray_toList (xs := cs), this]
  simp only [actCell14, ha]
theorem open_toldV14 {W : World} {base : Nat} {v : Value} {d : DataW H} {p : List MemPlace} (hval : Value.okWide Tryz.prog W .any base 37 v) (h : DataW.Trod enc Tryz.prog W 0 (fun _ => true) true 37 v d p) (hlt : ∀ x ∈ p, x.block < W.heap.size) :
    ∃ (a : Option Addr) (n c : Nat) (put : Bool) (cap : Int), v = .agg #[.slice a n c, .bool put, .int .i64 cap] := by
  obtain ⟨cs, rfl, hsz⟩ := okWide_struct Tryz.underlying37 hval
  obtain ⟨fuel, hf⟩ := h
  have hl : (Value.agg cs).cells.toList.length = 3 := by
    rw [cellsTold14] at hsz
    simpa [Value.cells] using hsz
  obtain ⟨c, e, hr⟩ := open_told14 hf hlt hl
  obtain ⟨a, cc, ha, _, _⟩ := hr.isSlice
  refine ⟨a, c.l.length, cc, c.put, c.cap, ?_⟩
  have : cs.toList = toldCell c := by simpa [Value.cells] using e
  rw [← Array.toArray_toList (xs := cs), this]
  simp only [toldCell, ha]
theorem bytesAct14 : Tryz.prog.bytesOf 58 = 32 := by kernel_rfl
theorem acts_sized14 {ts : List TypeId} {ds : List (DataW H)} (h : (DataW.weightsEach Tryz.prog ts ds).all (· ≤ reachBytes) = true) {j : Nat} {l : List ActV14} {d : DataW H} (ht : ts[j]? = some 56) (hd : ds[j]? = some d)
    (hx : (l = [] ∧ d = .nil) ∨ ∃ es rest, d = .slice es rest ∧ es.length = l.length) : l.length ≤ 281474976710656 := by
  rcases hx with ⟨rfl, _⟩ | ⟨es, rest, rfl, hl⟩
  · simp
  · have := sized_slice h ht hd Tryz.underlying56
    rw [bytesAct14] at this
    simp only [reachBytes] at this
    omega
end
end Go.Proofs.YtbkbabaoockigaaGreatDoor
