/- The law Once. -/
import Derived.Test.YtobalbaieakcmaaSnL
set_option linter.unusedSimpArgs false
set_option linter.unusedVariables false
namespace Go.Proofs.Ytobalbaieakcmaa
open Go.RowKit Go.Maps

theorem up_prev {l : List Pk} (h : Up l) {j : Nat} (h0 : 0 < j) (hj : j < l.length) : (l.getD (j - 1) default).n < (l.getD j default).n := by
  have e1 : l.getD (j - 1) default = l[j - 1] := by simp [List.getD, show j - 1 < l.length by omega]
  have e2 : l.getD j default = l[j] := by simp [List.getD, hj]
  rw [e1, e2]
  exact List.pairwise_iff_getElem.1 h (j - 1) j (by omega) hj (by omega)
theorem any_of_mem {l : List Pk} {p : Pk} (h : p ∈ l) : (l.any fun q => decide (q.n = p.n)) = true := List.any_eq_true.2 ⟨p, h, by simp⟩
theorem any_above {l : List Pk} {n : Int} (h : ∀ p ∈ l, p.n < n) : (l.any fun q => decide (q.n = n)) = false := by
  rw [List.any_eq_false]
  intro p hp
  have := h p hp
  simp only [decide_eq_true_eq]; omega
theorem Ok.at {q : Lg} (h : Ok q) {p : Pk} (hp : p ∈ q.l) : 0 ≤ p.n ∧ p.n ≤ 4611686018427387903 := h.nums p hp
set_option maxRecDepth 100000 in
set_option maxHeartbeats 12800000 in
theorem once_some (b o c : Nat) (l : List ActV) (w : World) (hR : RdA w (.slice (some ⟨b, o, none⟩) l.length c) l) (hb : b < w.heap.size) (hc : l.length ≤ c) (hm : c ≤ maxLen) (hok : ∀ x ∈ l, ActOk w x) : Calls Try.prog 4 #[.slice (some ⟨b, o, none⟩) l.length c] w (Yes w) := by
  have hmm := @run_makeMap Try.prog
  unfold maxLen at hm
  have AT := Lib.hid (fun k (hk : k < l.length) W hW => hR.at hb k hk W hW)
  have OK := Lib.hid (fun k (hk : k < l.length) => hok _ (List.getElem_mem hk))
  clear hR hok hb
  go_enter Try.func4, Try.ntmps4
  go_upto_region 5 with (first
    | (go_at_call 8; refine (new_any _).mono ?_; rintro e w1 ⟨rfl, hL1, hb1⟩
       have HL1 := Lib.hid hL1
       have HB1 := Lib.hid hb1
       clear hL1 hb1)
    | (go_at_call 10; refine (alive_any _).mono ?_; rintro e w2 ⟨rfl, hb2⟩
       have HL2 := Lib.hid (HL1.out.below hb2)
       have HB2 := Lib.hid (HB1.out.trans (hb2.mono HB1.out.size))
       clear hb2))
  have b3 := below_one w2 (.map #[] 0)
  have HL3 := Lib.hid (HL2.out.below b3)
  have HB3 := Lib.hid (HB2.out.trans (b3.mono HB2.out.size))
  have HM3 := Lib.hid (Mo.made w2)
  have hob : w.heap.size + 1 < w2.heap.size := HL2.out.row.lt
  clear b3 HL1 HB1 HL2 HB2
  generalize w2.alloc (.map #[] 0) = w3 at HL3 HB3 HM3 ⊢
  generalize w2.heap.size = ob at HM3 hob ⊢
  go_wp2_with fail
  go_loopw [24] (fun i wr => ∃ (k : Nat) (q : Lg), i = .int .i64 k ∧ k ≤ l.length ∧ Ok q ∧ Led (w.heap.size + 1) w.heap.size q wr ∧ Mo wr ob q.l ∧ Below w.heap.size w wr) (fun i _ => l.length - (intOf i).toNat)
  case atStart => exact ⟨0, fresh, rfl, Nat.zero_le _, fresh_ok, HL3.out, HM3.out, HB3.out⟩
  case round =>
    obtain ⟨k, q, rfl, hk, hq, hL, hM, hbel⟩ := hrel
    obtain ⟨wo, hwo⟩ : ∃ wo, wo = wr := ⟨_, rfl⟩
    subst hwo
    have HL := Lib.hid hL
    have HM := Lib.hid hM
    have HB := Lib.hid hbel
    have HQ := Lib.hid hq
    have hz := hbel.size
    have hobo := hM.lt
    by_cases hlt : k < l.length
    · clear hL hM hbel hq
      have hi1 : (k : Int) < (l.length : Int) := by omega
      have hw1 : IntKind.i64.wrap ((k : Int) + 1) = (k : Int) + 1 := wraps_i64' _ (by omega) (by omega)
      obtain ⟨a0, a1, a2, a3, a4, a5⟩ := AT.out k hlt wo HB.out
      have hcc := OK.out k hlt
      generalize l[k] = cc at a0 a1 a2 a3 a4 a5 hcc
      obtain ⟨kk, n, now, size, wt, sp, ss⟩ := cc
      obtain ⟨hkk, hsp⟩ := hcc
      simp only at a0 a1 a2 a3 a4 a5 hkk hsp
      obtain ⟨sa, sc, rfl, _, _⟩ := hsp.isSlice
      have b6 := below_one wo (.cells #[.int .u8 kk, .int .i64 n, .int .i64 now, .int .i64 size, .int .i64 wt, .slice sa ss.length sc] 32)
      have HB6 := Lib.hid (HB.out.trans (b6.mono HB.out.size))
      have HL6 := Lib.hid (HL.out.below b6)
      have HS6 := Lib.hid (hsp.below HB6.out)
      have CB : Hid ((wo.alloc (.cells #[.int .u8 kk, .int .i64 n, .int .i64 now, .int .i64 size, .int .i64 wt, .slice sa ss.length sc] 32)).heap[wo.heap.size]? = some (.cells #[.int .u8 kk, .int .i64 n, .int .i64 now, .int .i64 size, .int .i64 wt, .slice sa ss.length sc] 32 (0, 0))) := by
        show (wo.heap.push _)[wo.heap.size]? = _; simp
      have HKK := Lib.hid hkk
      have HM6 := Lib.hid (HM.out.below b6)
      clear hsp b6
      go_upto_region 8 with fail
      generalize wo.alloc (.cells #[.int .u8 kk, .int .i64 n, .int .i64 now, .int .i64 size, .int .i64 wt, .slice sa ss.length sc] 32) = w6 at HB6 HL6 HS6 CB HM6 ⊢
      have c0 : w6.cell? ⟨wo.heap.size, 0, none⟩ = some (.int .u8 kk) := by simp [World.cell?, CB.out]
      have c1 : w6.cell? ⟨wo.heap.size, 1, none⟩ = some (.int .i64 n) := by simp [World.cell?, CB.out]
      have c2 : w6.cell? ⟨wo.heap.size, 2, none⟩ = some (.int .i64 now) := by simp [World.cell?, CB.out]
      have c3 : w6.cell? ⟨wo.heap.size, 3, none⟩ = some (.int .i64 size) := by simp [World.cell?, CB.out]
      have c4 : w6.cell? ⟨wo.heap.size, 4, none⟩ = some (.int .i64 wt) := by simp [World.cell?, CB.out]
      have c5 : w6.cell? ⟨wo.heap.size, 5, none⟩ = some (.slice sa ss.length sc) := by simp [World.cell?, CB.out]
      clear a0 a1 a2 a3 a4 a5
      obtain ⟨⟨q', X, one⟩, hd⟩ : ∃ r, doesE q kk n now size wt ss = r := ⟨_, rfl⟩
      have hways := does_ways HQ.out kk n now size wt ss hd
      have hok' := does_ok HQ.out kk n now size wt ss
      have C1 := Lib.hid (fun W hL hS => does_any (w.heap.size + 1) w.heap.size q kk n now size wt (.slice sa ss.length sc) ss W HQ.out hL HKK.out hS)
      rw [hd] at hok' C1
      simp only at hok'
      have HOk := Lib.hid hok'
      have hl6 : wo.heap.size < w6.heap.size := (Array.getElem?_eq_some_iff.1 CB.out).1
      clear hd hok'
      rcases hways with ⟨rfl, hX0, hql, hn, hup⟩ | ⟨rfl, hperm⟩
      · have HUq := Lib.hid hup
        have HQl := Lib.hid hql
        have HN := Lib.hid hn
        have hlen : q.l.length ≤ 512 := HQ.out.few
        have HX0 := Lib.hid hX0
        clear hql hn hup hX0
        go_wp2_with (first
          | (go_at_call 25; refine (C1.out _ HL6.out HS6.out).mono ?_; rintro e w7 ⟨v7, rfl, hv, hD⟩
             have HV7 := Lib.hid hv
             have HL7 := Lib.hid hD.1
             have HM7 := Lib.hid (HM6.out.keep hD.2 (by simp; omega))
             have HB7 := Lib.hid (HB6.out.trans (hD.2.to_below (fun i hi => by simp at hi; omega) HB6.out.size))
             have CB7 := Lib.hid ((hD.2.block wo.heap.size hl6 (by simp; omega)).trans CB.out)
             have c1' : w7.cell? ⟨wo.heap.size, 1, none⟩ = some (.int .i64 n) := by simp [World.cell?, CB7.out]
             have lk7 := look_open w7 ob q.l n HM7.out HN.out.1 HN.out.2
             rw [any_above HUq.out] at lk7
             obtain ⟨va, vc, rfl, _, _⟩ := hv.slice
             clear hv hD c0 c1 c2 c3 c4 c5)
          | (at_mapUpdate; refine wpList_put_open _ rfl _ _ _ rfl ob q.l ⟨n, now, size⟩ rfl HM7.out hlen rfl rfl HN.out HUq.out ?_; intro w8 hM8 ht8
             have HG8 := Lib.hid ht8.grown
             have HM8 := Lib.hid hM8
             clear hM8 ht8))
        rw [← HQl.out] at HM8
        have HL8 := Lib.hid (HL7.out.keep (Keep.of_grown (S := [ob]) HG8.out (fun j hj => .inl (by cases hj; simp))) (by simp; omega) (by simp; omega))
        have HB8 := Lib.hid (HB7.out.trans ((Keep.of_grown (S := [ob]) HG8.out (fun j hj => .inl (by cases hj; simp))).to_below (fun i hi => by simp at hi; omega) HB7.out.size))
        have HVo := Lib.hid (fun i hi => (by have := HV7.out.blk i hi; omega : ob < i))
        have HV8 : Hid (RdP w8 (.slice va X.length vc) X) := HV7.out.rd.kept HG8.out (fun j hj e => by have := HVo.out j hj; cases e; omega)
        obtain ⟨M0, hM0⟩ : ∃ M0 : List Pk, M0 = q'.l := ⟨_, rfl⟩
        rw [← hM0] at HM8
        have HUp0 : Hid (Up M0) := by rw [hM0]; exact HOk.out.up
        have HP0 : Hid (M0.Perm (X ++ q'.l)) := by rw [hM0, HX0.out]; exact List.Perm.refl _
        have HBd : Hid (∀ p ∈ X, 0 ≤ p.n ∧ p.n ≤ 4611686018427387903) := fun p hp => by rw [HX0.out] at hp; cases hp
        have hX5 : X.length ≤ 2000 := by rw [HX0.out]; simp
        clear hM0 HG8
        go_loopw [44] (fun i wr => ∃ (j : Nat) (M : List Pk), i = .int .i64 j ∧ j ≤ X.length ∧ Up M ∧ M.Perm (X.drop j ++ q'.l) ∧ Mo wr ob M ∧ Keep [ob] w8 wr) (fun i _ => X.length - (intOf i).toNat)
        case atStart => exact ⟨0, M0, rfl, Nat.zero_le _, HUp0.out, by rw [List.drop_zero]; exact HP0.out, HM8.out, Keep.refl _ _⟩
        case round =>
          obtain ⟨j, M, rfl, hj, hup, hpm, hmo, hkp⟩ := hrel
          have HUp := Lib.hid hup
          have HPm := Lib.hid hpm
          have HMo := Lib.hid hmo
          have HK := Lib.hid hkp
          have hVr := Lib.hid (RdC.keep HV8.out hkp (fun i hi hn => by have := HVo.out i hi; simp at hn; omega))
          by_cases hlt2 : j < X.length
          · have h0 : X ≠ [] := fun e => by rw [e] at hlt2; simp at hlt2
            have HVr : Hid (RdP wr (.slice va X.length vc) X) := hVr.out
            obtain ⟨ub, uo, uc', e, hub⟩ := HVr.out.form h0
            simp only [Value.slice.injEq, true_and] at e
            obtain ⟨rfl, rfl⟩ := e
            have hi2 : (j : Int) < (X.length : Int) := by omega
            have hi3 : (0 : Int) ≤ (j : Int) := by omega
            have hw2 : IntKind.i64.wrap ((j : Int) + 1) = (j : Int) + 1 := wraps_i64' _ (by omega) (by omega)
            obtain ⟨q0, q1, q2⟩ := HVr.out.cells j hlt2
            have HST := Lib.hid (strike_next hup hpm hlt2)
            have hbd := HBd.out _ (by rw [List.getD_eq_getElem?_getD, List.getElem?_eq_getElem hlt2]; exact List.getElem_mem hlt2 : X.getD j default ∈ X)
            have LK := Lib.hid (fun W hM => look_open W ob M (X.getD j default).n hM hbd.1 hbd.2)
            have HT := Lib.hid (any_of_mem HST.out.1)
            rw [HT.out] at LK
            generalize X.getD j default = x at q0 q1 q2 HST hbd LK
            obtain ⟨x0, x1, x2⟩ := x
            simp only at q0 q1 q2 HST hbd LK
            have HBd0 := Lib.hid hbd
            have b9 := below_one wr (.cells #[.int .i64 x0, .int .i64 x1, .int .i64 x2] 54)
            have HMo9 := Lib.hid (HMo.out.below b9)
            have HK9 := Lib.hid (HK.out.then_below b9)
            have CP : Hid ((wr.alloc (.cells #[.int .i64 x0, .int .i64 x1, .int .i64 x2] 54)).heap[wr.heap.size]? = some (.cells #[.int .i64 x0, .int .i64 x1, .int .i64 x2] 54 (0, 0))) := by
              show (wr.heap.push _)[wr.heap.size]? = _; simp
            have hobw : ob < wr.heap.size := hmo.lt
            clear h0 b9 hup hpm hmo hkp hbd
            go_upto_region 16 with fail
            generalize wr.alloc (.cells #[.int .i64 x0, .int .i64 x1, .int .i64 x2] 54) = w9 at HMo9 HK9 CP ⊢
            have y0 : w9.cell? ⟨wr.heap.size, 0, none⟩ = some (.int .i64 x0) := by simp [World.cell?, CP.out]
            have lk := LK.out w9 HMo9.out
            clear q0 q1 q2
            go_wp2_with (at_delete; refine wpList_del_open _ rfl _ _ rfl ob M x0 rfl HMo9.out rfl HBd0.out ?_; intro w10 hM10 ht10)
            refine ⟨⟨j + 1, M.filter (fun q => !decide (q.n = x0)), by go_num, hlt2, HUp.out.filter _, HST.out.2, hM10, HK9.out.trans (S' := [ob]) (Keep.of_grown ht10.grown (fun j hj => .inl (by cases hj; simp))) (fun i hi => .inl hi)⟩, by simp [intOf, hw2]; omega⟩
          · have hi2 : ¬ ((j : Int) < (X.length : Int)) := by omega
            obtain ⟨wi, hwi⟩ : ∃ wi, wi = wr := ⟨_, rfl⟩
            subst hwi
            have hMq : M = q'.l := up_perm hup HOk.out.up (by rw [show j = X.length by omega, List.drop_length, List.nil_append] at hpm; exact hpm)
            subst hMq
            have HLi := Lib.hid (HL8.out.keep HK.out (by simp; omega) (by simp; omega))
            have HBi := Lib.hid (HB8.out.trans (HK.out.to_below (fun i hi => by simp at hi; omega) HB8.out.size))
            clear hup hpm hmo hkp HUp HPm
            go_wp2_with (first
              | (go_at_call 24; refine (out_any (w.heap.size + 1) w.heap.size q' wi HOk.out HLi.out).mono ?_; rintro e w11 ⟨o11, rfl, ho, hb11⟩
                 have HO11 := Lib.hid ho.rd
                 have HL11 := Lib.hid (HLi.out.below hb11)
                 have HM11 := Lib.hid (HMo.out.below hb11)
                 have HB11 := Lib.hid (HBi.out.trans (hb11.mono HBi.out.size))
                 obtain ⟨oa, oc, rfl, _, _⟩ := ho.slice
                 clear ho hb11)
              | (at_len; refine wpList_len_open _ rfl _ rfl ob q'.l rfl HM11.out ?_))
            go_loopw [66] (fun i wr => ∃ (j : Nat), i = .int .i64 j ∧ j ≤ q'.l.length ∧ Below w11.heap.size w11 wr) (fun i _ => q'.l.length - (intOf i).toNat)
            case atStart => exact ⟨0, rfl, Nat.zero_le _, Below.refl _ _⟩
            case round =>
              obtain ⟨j, rfl, hj, hbel3⟩ := hrel
              have HBf := Lib.hid hbel3
              have hqf := HOk.out.few
              by_cases hlt3 : j < q'.l.length
              · have h0 : q'.l ≠ [] := fun e => by rw [e] at hlt3; simp at hlt3
                obtain ⟨ub, uo, uc', e, hub⟩ := HO11.out.form h0
                simp only [Value.slice.injEq, true_and] at e
                obtain ⟨rfl, rfl⟩ := e
                have hi2 : (j : Int) < (q'.l.length : Int) := by omega
                have hi3 : (0 : Int) ≤ (j : Int) := by omega
                have hw2 : IntKind.i64.wrap ((j : Int) + 1) = (j : Int) + 1 := wraps_i64' _ (by omega) (by omega)
                obtain ⟨q0, q1, q2⟩ := (HO11.out.below hbel3).cells j hlt3
                have hmem : q'.l.getD j default ∈ q'.l := by rw [List.getD_eq_getElem?_getD, List.getElem?_eq_getElem hlt3]; exact List.getElem_mem hlt3
                have hbd := HOk.out.at hmem
                have HMf := Lib.hid (HM11.out.below hbel3)
                have LK := Lib.hid (fun W hM => look_open W ob q'.l (q'.l.getD j default).n hM hbd.1 hbd.2)
                rw [any_of_mem hmem] at LK
                have HPv := Lib.hid (fun (h : 0 < j) => (⟨((HO11.out.below hbel3).cells (j - 1) (by omega)).1, up_prev HOk.out.up h hlt3⟩ : _ ∧ _))
                generalize q'.l.getD j default = x at q0 q1 q2 hbd LK HPv
                obtain ⟨x0, x1, x2⟩ := x
                simp only at q0 q1 q2 LK HPv
                generalize (q'.l.getD (j - 1) default).n = px at HPv
                have b9 := below_one wr (.cells #[.int .i64 x0, .int .i64 x1, .int .i64 x2] 54)
                have HBf9 := Lib.hid (HBf.out.trans (b9.mono HBf.out.size))
                have HMf9 := Lib.hid (HMf.out.below b9)
                have CP : Hid ((wr.alloc (.cells #[.int .i64 x0, .int .i64 x1, .int .i64 x2] 54)).heap[wr.heap.size]? = some (.cells #[.int .i64 x0, .int .i64 x1, .int .i64 x2] 54 (0, 0))) := by
                  show (wr.heap.push _)[wr.heap.size]? = _; simp
                have hubr : ub < wr.heap.size := by have := hbel3.size; omega
                have PC : Hid (0 < j → (wr.alloc (.cells #[.int .i64 x0, .int .i64 x1, .int .i64 x2] 54)).cell? ⟨ub, uo + (j - 1) * 3, none⟩ = some (.int .i64 px)) := fun h => (b9.cell (p := ⟨ub, uo + (j - 1) * 3, none⟩) hubr).trans (HPv.out h).1
                clear h0 hmem b9 hbel3 hbd
                go_upto_region 26 with fail
                generalize wr.alloc (.cells #[.int .i64 x0, .int .i64 x1, .int .i64 x2] 54) = w9 at HBf9 HMf9 CP PC ⊢
                have y0 : w9.cell? ⟨wr.heap.size, 0, none⟩ = some (.int .i64 x0) := by simp [World.cell?, CP.out]
                have d0 : w9.drew.cell? ⟨wr.heap.size, 0, none⟩ = some (.int .i64 x0) := y0
                have lk := LK.out w9 HMf9.out
                have lk2 : ∀ n, (Instr.lookup 50 (.map (some ob)) (.int .i64 x0) false).run Try.prog (w9.drewN n) = .ok (.bool true) (w9.drewN n) := fun n => LK.out _ HMf9.out
                have lk1 : (Instr.lookup 50 (.map (some ob)) (.int .i64 x0) false).run Try.prog w9.drew = .ok (.bool true) w9.drew := LK.out _ HMf9.out
                clear q0 q1 q2
                by_cases hj0 : j = 0
                · have f1 : decide ((j : Int) > 0) = false := decide_eq_false (by omega)
                  have f1' : decide (j > 0) = false := decide_eq_false (by omega)
                  have f1'' : decide (0 < j) = false := decide_eq_false (by omega)
                  clear hj0
                  go_wp2_with fail
                  go_quiet (fail)
                  go_wp2
                  exact ⟨⟨j + 1, by go_num, hlt3, below_drewN HBf9.out _⟩, by simp [intOf, hw2]; omega⟩
                · have f1 : decide ((j : Int) > 0) = true := decide_eq_true (by omega)
                  have f1' : decide (j > 0) = true := decide_eq_true (by omega)
                  have f1'' : decide (0 < j) = true := decide_eq_true (by omega)
                  have z0 := PC.out (by omega)
                  have z1 : w9.drew.cell? ⟨ub, uo + (j - 1) * 3, none⟩ = some (.int .i64 px) := z0
                  have f2 : decide (px ≥ x0) = false := decide_eq_false (by have := (HPv.out (by omega)).2; omega)
                  have hw3 : IntKind.i64.wrap ((j : Int) - 1) = (j : Int) - 1 := wraps_i64' _ (by omega) (by omega)
                  have hi4 : (0 : Int) ≤ (j : Int) - 1 := by omega
                  have hi5 : (j : Int) - 1 < (q'.l.length : Int) := by omega
                  have hi6 : ((j : Int) - 1).toNat = j - 1 := by omega
                  clear hj0
                  go_wp2_with fail
                  go_quiet (fail)
                  go_wp2
                  exact ⟨⟨j + 1, by go_num, hlt3, below_drewN HBf9.out _⟩, by simp [intOf, hw2]; omega⟩
              · have hi3 : ¬ ((j : Int) < (q'.l.length : Int)) := by omega
                go_wp2
                exact ⟨⟨k + 1, q', by go_num, hlt, HOk.out, HL11.out.below HBf.out, HM11.out.below HBf.out, HB11.out.trans (HBf.out.mono HB11.out.size)⟩, by simp [intOf, hw1]; omega⟩
      · have HP0' := Lib.hid hperm
        clear hperm
        go_wp2_with (first
          | (go_at_call 25; refine (C1.out _ HL6.out HS6.out).mono ?_; rintro e w8 ⟨v7, rfl, hv, hD⟩
             have HV7 := Lib.hid hv
             have HL8 := Lib.hid hD.1
             have HM8 := Lib.hid (HM6.out.keep hD.2 (by simp; omega))
             have HB8 := Lib.hid (HB6.out.trans (hD.2.to_below (fun i hi => by simp at hi; omega) HB6.out.size))
             have HV8 : Hid (RdP w8 v7 X) := hv.rd
             obtain ⟨va, vc, rfl, _, _⟩ := hv.slice
             clear hv hD c0 c1 c2 c3 c4 c5))
        have HVo := Lib.hid (fun i hi => (by have := HV7.out.blk i hi; omega : ob < i))
        obtain ⟨M0, hM0⟩ : ∃ M0 : List Pk, M0 = q.l := ⟨_, rfl⟩
        rw [← hM0] at HM8
        have HUp0 : Hid (Up M0) := by rw [hM0]; exact HQ.out.up
        have HP0 : Hid (M0.Perm (X ++ q'.l)) := by rw [hM0]; exact HP0'.out
        have HBd : Hid (∀ p ∈ X, 0 ≤ p.n ∧ p.n ≤ 4611686018427387903) := fun p hp => HQ.out.at (HP0'.out.mem_iff.2 (List.mem_append_left _ hp))
        have hX5 : X.length ≤ 2000 := by
          have h1 := HP0'.out.length_eq
          have h2 := HQ.out.few
          rw [List.length_append] at h1; omega
        clear hM0
        go_loopw [44] (fun i wr => ∃ (j : Nat) (M : List Pk), i = .int .i64 j ∧ j ≤ X.length ∧ Up M ∧ M.Perm (X.drop j ++ q'.l) ∧ Mo wr ob M ∧ Keep [ob] w8 wr) (fun i _ => X.length - (intOf i).toNat)
        case atStart => exact ⟨0, M0, rfl, Nat.zero_le _, HUp0.out, by rw [List.drop_zero]; exact HP0.out, HM8.out, Keep.refl _ _⟩
        case round =>
          obtain ⟨j, M, rfl, hj, hup, hpm, hmo, hkp⟩ := hrel
          have HUp := Lib.hid hup
          have HPm := Lib.hid hpm
          have HMo := Lib.hid hmo
          have HK := Lib.hid hkp
          have hVr := Lib.hid (RdC.keep HV8.out hkp (fun i hi hn => by have := HVo.out i hi; simp at hn; omega))
          by_cases hlt2 : j < X.length
          · have h0 : X ≠ [] := fun e => by rw [e] at hlt2; simp at hlt2
            have HVr : Hid (RdP wr (.slice va X.length vc) X) := hVr.out
            obtain ⟨ub, uo, uc', e, hub⟩ := HVr.out.form h0
            simp only [Value.slice.injEq, true_and] at e
            obtain ⟨rfl, rfl⟩ := e
            have hi2 : (j : Int) < (X.length : Int) := by omega
            have hi3 : (0 : Int) ≤ (j : Int) := by omega
            have hw2 : IntKind.i64.wrap ((j : Int) + 1) = (j : Int) + 1 := wraps_i64' _ (by omega) (by omega)
            obtain ⟨q0, q1, q2⟩ := HVr.out.cells j hlt2
            have HST := Lib.hid (strike_next hup hpm hlt2)
            have hbd := HBd.out _ (by rw [List.getD_eq_getElem?_getD, List.getElem?_eq_getElem hlt2]; exact List.getElem_mem hlt2 : X.getD j default ∈ X)
            have LK := Lib.hid (fun W hM => look_open W ob M (X.getD j default).n hM hbd.1 hbd.2)
            have HT := Lib.hid (any_of_mem HST.out.1)
            rw [HT.out] at LK
            generalize X.getD j default = x at q0 q1 q2 HST hbd LK
            obtain ⟨x0, x1, x2⟩ := x
            simp only at q0 q1 q2 HST hbd LK
            have HBd0 := Lib.hid hbd
            have b9 := below_one wr (.cells #[.int .i64 x0, .int .i64 x1, .int .i64 x2] 54)
            have HMo9 := Lib.hid (HMo.out.below b9)
            have HK9 := Lib.hid (HK.out.then_below b9)
            have CP : Hid ((wr.alloc (.cells #[.int .i64 x0, .int .i64 x1, .int .i64 x2] 54)).heap[wr.heap.size]? = some (.cells #[.int .i64 x0, .int .i64 x1, .int .i64 x2] 54 (0, 0))) := by
              show (wr.heap.push _)[wr.heap.size]? = _; simp
            have hobw : ob < wr.heap.size := hmo.lt
            clear h0 b9 hup hpm hmo hkp hbd
            go_upto_region 16 with fail
            generalize wr.alloc (.cells #[.int .i64 x0, .int .i64 x1, .int .i64 x2] 54) = w9 at HMo9 HK9 CP ⊢
            have y0 : w9.cell? ⟨wr.heap.size, 0, none⟩ = some (.int .i64 x0) := by simp [World.cell?, CP.out]
            have lk := LK.out w9 HMo9.out
            clear q0 q1 q2
            go_wp2_with (at_delete; refine wpList_del_open _ rfl _ _ rfl ob M x0 rfl HMo9.out rfl HBd0.out ?_; intro w10 hM10 ht10)
            refine ⟨⟨j + 1, M.filter (fun q => !decide (q.n = x0)), by go_num, hlt2, HUp.out.filter _, HST.out.2, hM10, HK9.out.trans (S' := [ob]) (Keep.of_grown ht10.grown (fun j hj => .inl (by cases hj; simp))) (fun i hi => .inl hi)⟩, by simp [intOf, hw2]; omega⟩
          · have hi2 : ¬ ((j : Int) < (X.length : Int)) := by omega
            obtain ⟨wi, hwi⟩ : ∃ wi, wi = wr := ⟨_, rfl⟩
            subst hwi
            have hMq : M = q'.l := up_perm hup HOk.out.up (by rw [show j = X.length by omega, List.drop_length, List.nil_append] at hpm; exact hpm)
            subst hMq
            have HLi := Lib.hid (HL8.out.keep HK.out (by simp; omega) (by simp; omega))
            have HBi := Lib.hid (HB8.out.trans (HK.out.to_below (fun i hi => by simp at hi; omega) HB8.out.size))
            clear hup hpm hmo hkp HUp HPm
            go_wp2_with (first
              | (go_at_call 24; refine (out_any (w.heap.size + 1) w.heap.size q' wi HOk.out HLi.out).mono ?_; rintro e w11 ⟨o11, rfl, ho, hb11⟩
                 have HO11 := Lib.hid ho.rd
                 have HL11 := Lib.hid (HLi.out.below hb11)
                 have HM11 := Lib.hid (HMo.out.below hb11)
                 have HB11 := Lib.hid (HBi.out.trans (hb11.mono HBi.out.size))
                 obtain ⟨oa, oc, rfl, _, _⟩ := ho.slice
                 clear ho hb11)
              | (at_len; refine wpList_len_open _ rfl _ rfl ob q'.l rfl HM11.out ?_))
            go_loopw [66] (fun i wr => ∃ (j : Nat), i = .int .i64 j ∧ j ≤ q'.l.length ∧ Below w11.heap.size w11 wr) (fun i _ => q'.l.length - (intOf i).toNat)
            case atStart => exact ⟨0, rfl, Nat.zero_le _, Below.refl _ _⟩
            case round =>
              obtain ⟨j, rfl, hj, hbel3⟩ := hrel
              have HBf := Lib.hid hbel3
              have hqf := HOk.out.few
              by_cases hlt3 : j < q'.l.length
              · have h0 : q'.l ≠ [] := fun e => by rw [e] at hlt3; simp at hlt3
                obtain ⟨ub, uo, uc', e, hub⟩ := HO11.out.form h0
                simp only [Value.slice.injEq, true_and] at e
                obtain ⟨rfl, rfl⟩ := e
                have hi2 : (j : Int) < (q'.l.length : Int) := by omega
                have hi3 : (0 : Int) ≤ (j : Int) := by omega
                have hw2 : IntKind.i64.wrap ((j : Int) + 1) = (j : Int) + 1 := wraps_i64' _ (by omega) (by omega)
                obtain ⟨q0, q1, q2⟩ := (HO11.out.below hbel3).cells j hlt3
                have hmem : q'.l.getD j default ∈ q'.l := by rw [List.getD_eq_getElem?_getD, List.getElem?_eq_getElem hlt3]; exact List.getElem_mem hlt3
                have hbd := HOk.out.at hmem
                have HMf := Lib.hid (HM11.out.below hbel3)
                have LK := Lib.hid (fun W hM => look_open W ob q'.l (q'.l.getD j default).n hM hbd.1 hbd.2)
                rw [any_of_mem hmem] at LK
                have HPv := Lib.hid (fun (h : 0 < j) => (⟨((HO11.out.below hbel3).cells (j - 1) (by omega)).1, up_prev HOk.out.up h hlt3⟩ : _ ∧ _))
                generalize q'.l.getD j default = x at q0 q1 q2 hbd LK HPv
                obtain ⟨x0, x1, x2⟩ := x
                simp only at q0 q1 q2 LK HPv
                generalize (q'.l.getD (j - 1) default).n = px at HPv
                have b9 := below_one wr (.cells #[.int .i64 x0, .int .i64 x1, .int .i64 x2] 54)
                have HBf9 := Lib.hid (HBf.out.trans (b9.mono HBf.out.size))
                have HMf9 := Lib.hid (HMf.out.below b9)
                have CP : Hid ((wr.alloc (.cells #[.int .i64 x0, .int .i64 x1, .int .i64 x2] 54)).heap[wr.heap.size]? = some (.cells #[.int .i64 x0, .int .i64 x1, .int .i64 x2] 54 (0, 0))) := by
                  show (wr.heap.push _)[wr.heap.size]? = _; simp
                have hubr : ub < wr.heap.size := by have := hbel3.size; omega
                have PC : Hid (0 < j → (wr.alloc (.cells #[.int .i64 x0, .int .i64 x1, .int .i64 x2] 54)).cell? ⟨ub, uo + (j - 1) * 3, none⟩ = some (.int .i64 px)) := fun h => (b9.cell (p := ⟨ub, uo + (j - 1) * 3, none⟩) hubr).trans (HPv.out h).1
                clear h0 hmem b9 hbel3 hbd
                go_upto_region 26 with fail
                generalize wr.alloc (.cells #[.int .i64 x0, .int .i64 x1, .int .i64 x2] 54) = w9 at HBf9 HMf9 CP PC ⊢
                have y0 : w9.cell? ⟨wr.heap.size, 0, none⟩ = some (.int .i64 x0) := by simp [World.cell?, CP.out]
                have d0 : w9.drew.cell? ⟨wr.heap.size, 0, none⟩ = some (.int .i64 x0) := y0
                have lk := LK.out w9 HMf9.out
                have lk2 : ∀ n, (Instr.lookup 50 (.map (some ob)) (.int .i64 x0) false).run Try.prog (w9.drewN n) = .ok (.bool true) (w9.drewN n) := fun n => LK.out _ HMf9.out
                have lk1 : (Instr.lookup 50 (.map (some ob)) (.int .i64 x0) false).run Try.prog w9.drew = .ok (.bool true) w9.drew := LK.out _ HMf9.out
                clear q0 q1 q2
                by_cases hj0 : j = 0
                · have f1 : decide ((j : Int) > 0) = false := decide_eq_false (by omega)
                  have f1' : decide (j > 0) = false := decide_eq_false (by omega)
                  have f1'' : decide (0 < j) = false := decide_eq_false (by omega)
                  clear hj0
                  go_wp2_with fail
                  go_quiet (fail)
                  go_wp2
                  exact ⟨⟨j + 1, by go_num, hlt3, below_drewN HBf9.out _⟩, by simp [intOf, hw2]; omega⟩
                · have f1 : decide ((j : Int) > 0) = true := decide_eq_true (by omega)
                  have f1' : decide (j > 0) = true := decide_eq_true (by omega)
                  have f1'' : decide (0 < j) = true := decide_eq_true (by omega)
                  have z0 := PC.out (by omega)
                  have z1 : w9.drew.cell? ⟨ub, uo + (j - 1) * 3, none⟩ = some (.int .i64 px) := z0
                  have f2 : decide (px ≥ x0) = false := decide_eq_false (by have := (HPv.out (by omega)).2; omega)
                  have hw3 : IntKind.i64.wrap ((j : Int) - 1) = (j : Int) - 1 := wraps_i64' _ (by omega) (by omega)
                  have hi4 : (0 : Int) ≤ (j : Int) - 1 := by omega
                  have hi5 : (j : Int) - 1 < (q'.l.length : Int) := by omega
                  have hi6 : ((j : Int) - 1).toNat = j - 1 := by omega
                  clear hj0
                  go_wp2_with fail
                  go_quiet (fail)
                  go_wp2
                  exact ⟨⟨j + 1, by go_num, hlt3, below_drewN HBf9.out _⟩, by simp [intOf, hw2]; omega⟩
              · have hi3 : ¬ ((j : Int) < (q'.l.length : Int)) := by omega
                go_wp2
                exact ⟨⟨k + 1, q', by go_num, hlt, HOk.out, HL11.out.below HBf.out, HM11.out.below HBf.out, HB11.out.trans (HBf.out.mono HB11.out.size)⟩, by simp [intOf, hw1]; omega⟩
    · have hi1 : ¬ ((k : Int) < (l.length : Int)) := by omega
      go_wp2
      go_ret
      exact ⟨rfl, HB.out⟩
set_option maxRecDepth 100000 in
set_option maxHeartbeats 1600000 in
theorem once_none (a : Option Addr) (c : Nat) (w : World) : Calls Try.prog 4 #[.slice a 0 c] w (Yes w) := by
  have hmm := @run_makeMap Try.prog
  go_enter Try.func4, Try.ntmps4
  go_upto_region 5 with (first
    | (go_at_call 8; refine (new_any _).mono ?_; rintro e w1 ⟨rfl, hL1, hb1⟩
       have HL1 := Lib.hid hL1
       have HB1 := Lib.hid hb1
       clear hL1 hb1)
    | (go_at_call 10; refine (alive_any _).mono ?_; rintro e w2 ⟨rfl, hb2⟩
       have HL2 := Lib.hid (HL1.out.below hb2)
       have HB2 := Lib.hid (HB1.out.trans (hb2.mono HB1.out.size))
       clear hb2))
  have b3 := below_one w2 (.map #[] 0)
  have HL3 := Lib.hid (HL2.out.below b3)
  have HB3 := Lib.hid (HB2.out.trans (b3.mono HB2.out.size))
  have HM3 := Lib.hid (Mo.made w2)
  have hob : w.heap.size + 1 < w2.heap.size := HL2.out.row.lt
  clear b3 HL1 HB1 HL2 HB2
  generalize w2.alloc (.map #[] 0) = w3 at HL3 HB3 HM3 ⊢
  generalize w2.heap.size = ob at HM3 hob ⊢
  go_wp2_with fail
  refine wp_loop_rounds 1 ?_
  rw [rounds_succ]
  go_wp2
  go_ret
  exact ⟨rfl, HB3.out⟩
/-- P8.5 -/
theorem once_walk (v : Value) (l : List ActV) (w : World) (hR : RdA w v l) (hok : ∀ x ∈ l, ActOk w x) : Calls Try.prog 4 #[v] w (Yes w) := by
  rcases hR.form with ⟨_, a, c, rfl⟩ | ⟨b, o, c, rfl, hb, hc, hm⟩
  · exact once_none a c w
  · exact once_some b o c l w hR hb hc hm hok
end Go.Proofs.Ytobalbaieakcmaa
