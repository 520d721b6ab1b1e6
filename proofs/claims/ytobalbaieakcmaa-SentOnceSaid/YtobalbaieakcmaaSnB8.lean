/- The law Below. -/
import Derived.Test.YtobalbaieakcmaaSnZ
set_option linter.unusedSimpArgs false
set_option linter.unusedVariables false
namespace Go.Proofs.Ytobalbaieakcmaa
open Go.RowKit Go.Maps

theorem loseE_eq {q : Lg} {now wait : Int} (h : waitsB now wait = true) : loseE q now wait = (⟨q.l.filter (fun p => !lostB q.big now wait p), q.last, q.time, q.big⟩, q.l.filter (lostB q.big now wait)) := by
  unfold loseE
  rw [if_neg (by rw [h]; decide)]
/-- what is lost by an ack lies below the largest -/
theorem ack_lost {q : Lg} (ss : List (Int × Int)) (now wait : Int) : ∀ p ∈ (ackE q ss now wait).2.2.1, p.n < (ackE q ss now wait).1.big := by
  unfold ackE
  by_cases h1 : ackB ss now wait = false
  · rw [if_pos h1]; intro p hp; cases hp
  rw [if_neg h1]
  by_cases h2 : q.last < topI ss
  · rw [if_pos h2]; intro p hp; cases hp
  rw [if_neg h2]
  have hw : waitsB now wait = true := by
    have : (decide (ss ≠ []) && rightB ss) = true ∧ waitsB now wait = true := by simpa only [ackB, Bool.not_eq_false, Bool.and_eq_true] using h1
    exact this.2
  rw [loseE_eq hw]
  intro p hp
  have h := (List.mem_filter.1 hp).2
  simp only at h ⊢
  by_cases hb : p.n < (cameQ q ss).big
  · exact hb
  · rw [lostB, decide_eq_false hb, Bool.false_and] at h; cases h
/-- what stays behind an ack is not lost -/
theorem ack_stays {q : Lg} (ss : List (Int × Int)) (now wait : Int) (he : (ackE q ss now wait).2.2.2 = 0) : (0 ≤ now ∧ now ≤ 1099511627776) ∧ ∀ p ∈ (ackE q ss now wait).1.l, (ackE q ss now wait).1.big - p.n < 3 ∧ (p.n < (ackE q ss now wait).1.big → now - p.t < wait) := by
  unfold ackE at he ⊢
  by_cases h1 : ackB ss now wait = false
  · rw [if_pos h1] at he; cases he
  rw [if_neg h1] at he ⊢
  by_cases h2 : q.last < topI ss
  · rw [if_pos h2] at he; cases he
  rw [if_neg h2]
  have hw : waitsB now wait = true := by
    have : (decide (ss ≠ []) && rightB ss) = true ∧ waitsB now wait = true := by simpa only [ackB, Bool.not_eq_false, Bool.and_eq_true] using h1
    exact this.2
  have hn : nowB now = true := by unfold waitsB at hw; rw [Bool.and_eq_true] at hw; exact hw.1
  rw [loseE_eq hw]
  refine ⟨within_iff.1 hn, fun p hp => ?_⟩
  have h := (List.mem_filter.1 hp).2
  simp only at h ⊢
  by_cases hb : p.n < (cameQ q ss).big
  · by_cases h3 : (cameQ q ss).big - p.n ≥ 3
    · rw [lostB, decide_eq_true hb, decide_eq_true h3] at h; simp at h
    · by_cases h4 : now - p.t ≥ wait
      · rw [lostB, decide_eq_true hb, decide_eq_true h4] at h; simp at h
      · omega
  · omega

set_option maxRecDepth 100000 in
set_option maxHeartbeats 6400000 in
theorem below_some (b o c : Nat) (l : List ActV) (w : World) (hR : RdA w (.slice (some ⟨b, o, none⟩) l.length c) l) (hb : b < w.heap.size) (hc : l.length ≤ c) (hm : c ≤ maxLen) (hok : ∀ x ∈ l, ActOk w x) : Calls Try.prog 5 #[.slice (some ⟨b, o, none⟩) l.length c] w (Yes w) := by
  unfold maxLen at hm
  have AT := Lib.hid (fun k (hk : k < l.length) W hW => hR.at hb k hk W hW)
  have OK := Lib.hid (fun k (hk : k < l.length) => hok _ (List.getElem_mem hk))
  clear hR hok hb
  go_enter Try.func5, Try.ntmps5
  go_wp2_with (first
    | (go_at_call 8; refine (new_any _).mono ?_; rintro e w1 ⟨rfl, hL1, hb1⟩
       have HL1 := Lib.hid hL1
       have HB1 := Lib.hid hb1
       clear hL1 hb1)
    | (go_at_call 10; refine (alive_any _).mono ?_; rintro e w2 ⟨rfl, hb2⟩
       have HL2 := Lib.hid (HL1.out.below hb2)
       have HB2 := Lib.hid (HB1.out.trans (hb2.mono HB1.out.size))
       clear hb2))
  go_loopw [22] (fun i wr => ∃ (k : Nat) (q : Lg), i = .int .i64 k ∧ k ≤ l.length ∧ Ok q ∧ Led (w.heap.size + 1) w.heap.size q wr ∧ Below w.heap.size w wr) (fun i _ => l.length - (intOf i).toNat)
  case atStart => exact ⟨0, fresh, rfl, Nat.zero_le _, fresh_ok, HL2.out, HB2.out⟩
  case round =>
    obtain ⟨k, q, rfl, hk, hq, hL, hbel⟩ := hrel
    obtain ⟨wo, hwo⟩ : ∃ wo, wo = wr := ⟨_, rfl⟩
    subst hwo
    have HL := Lib.hid hL
    have HB := Lib.hid hbel
    have HQ := Lib.hid hq
    have hz := hbel.size
    have hkl := hL.row.lt
    by_cases hlt : k < l.length
    · clear hL hbel hq
      have hi1 : (k : Int) < (l.length : Int) := by omega
      have hw1 : IntKind.i64.wrap ((k : Int) + 1) = (k : Int) + 1 := wraps_i64' _ (by omega) (by omega)
      obtain ⟨a0, a1, a2, a3, a4, a5⟩ := AT.out k hlt wo HB.out
      have hcc := OK.out k hlt
      generalize l[k] = cc at a0 a1 a2 a3 a4 a5 hcc
      obtain ⟨kk, n, now, size, wt, sp, ss⟩ := cc
      obtain ⟨hkk, hsp⟩ := hcc
      simp only at a0 a1 a2 a3 a4 a5 hkk hsp
      obtain ⟨sa, sc, rfl, _, _⟩ := hsp.isSlice
      have b6 := below_one wo (.cells #[.int .u8 kk, .int .i64 n, .int .i64 now, .int .i64 size, .int .i64 wt, .slice sa ss.length sc] 32)
      have HB6 := Lib.hid (HB.out.trans (b6.mono HB.out.size))
      have HL6 := Lib.hid (HL.out.below b6)
      have HS6 := Lib.hid (hsp.below HB6.out)
      have CB : Hid ((wo.alloc (.cells #[.int .u8 kk, .int .i64 n, .int .i64 now, .int .i64 size, .int .i64 wt, .slice sa ss.length sc] 32)).heap[wo.heap.size]? = some (.cells #[.int .u8 kk, .int .i64 n, .int .i64 now, .int .i64 size, .int .i64 wt, .slice sa ss.length sc] 32 (0, 0))) := by
        show (wo.heap.push _)[wo.heap.size]? = _; simp
      have HMod : Hid (kk.tmod 5 = kk % 5) := Int.tmod_eq_emod_of_nonneg hkk.1
      have HKK := Lib.hid hkk
      clear hkk
      clear hsp b6
      go_upto_region 7 with fail
      generalize wo.alloc (.cells #[.int .u8 kk, .int .i64 n, .int .i64 now, .int .i64 size, .int .i64 wt, .slice sa ss.length sc] 32) = w6 at HB6 HL6 HS6 CB ⊢
      have c0 : w6.cell? ⟨wo.heap.size, 0, none⟩ = some (.int .u8 kk) := by simp [World.cell?, CB.out]
      have c1 : w6.cell? ⟨wo.heap.size, 1, none⟩ = some (.int .i64 n) := by simp [World.cell?, CB.out]
      have c2 : w6.cell? ⟨wo.heap.size, 2, none⟩ = some (.int .i64 now) := by simp [World.cell?, CB.out]
      have c3 : w6.cell? ⟨wo.heap.size, 3, none⟩ = some (.int .i64 size) := by simp [World.cell?, CB.out]
      have c4 : w6.cell? ⟨wo.heap.size, 4, none⟩ = some (.int .i64 wt) := by simp [World.cell?, CB.out]
      have c5 : w6.cell? ⟨wo.heap.size, 5, none⟩ = some (.slice sa ss.length sc) := by simp [World.cell?, CB.out]
      clear a0 a1 a2 a3 a4 a5
      by_cases hk1 : kk % 5 = 1
      · have m1 : (kk.tmod 5 != 1) = false := by rw [HMod.out, hk1]; rfl
        have hok' := ack_ok HQ.out ss now wt
        have hlost := ack_lost (q := q) ss now wt
        have hstay := ack_stays (q := q) ss now wt
        have hlens := ack_lens HQ.out ss now wt
        have HA := Lib.hid (ack_any (w.heap.size + 1) w.heap.size q (.slice sa ss.length sc) ss now wt w6 HQ.out HL6.out HS6.out)
        generalize ackE q ss now wt = R at HA hok' hlost hstay hlens
        obtain ⟨q', X, Y, e0⟩ := R
        simp only at HA hok' hlost hstay hlens
        have HOk := Lib.hid hok'
        have HLost := Lib.hid hlost
        have HStay := Lib.hid hstay
        have hl6 : wo.heap.size < w6.heap.size := (Array.getElem?_eq_some_iff.1 CB.out).1
        have hY := hlens.2
        have hbig := hok'.big
        have hlast := hok'.last
        clear hk1 hok' hlost hstay hlens
        go_wp2_with (first
          | (go_at_call 13; refine HA.out.mono ?_; rintro e w7 ⟨v7, u7, rfl, hv, hu, hD⟩
             have HU := Lib.hid hu.rd
             have HL7 := Lib.hid hD.1
             have HB7 := Lib.hid (HB6.out.trans (hD.2.to_below (fun i hi => by simp at hi; omega) HB6.out.size))
             have CB7 := Lib.hid ((hD.2.block wo.heap.size hl6 (by simp; omega)).trans CB.out)
             obtain ⟨ua, uc, rfl, _, _⟩ := hu.slice
             clear hv hu hD c0 c1 c2 c3 c4 c5))
        go_loopw [47] (fun i wr => ∃ (j : Nat), i = .int .i64 j ∧ j ≤ Y.length ∧ Below w7.heap.size w7 wr) (fun i _ => Y.length - (intOf i).toNat)
        case atStart => exact ⟨0, rfl, Nat.zero_le _, Below.refl _ _⟩
        case round =>
          obtain ⟨j, rfl, hj, hbel2⟩ := hrel
          have HBe := Lib.hid hbel2
          by_cases hlt2 : j < Y.length
          · have h0 : Y ≠ [] := fun e => by rw [e] at hlt2; simp at hlt2
            obtain ⟨ub, uo, uc', e, hub⟩ := HU.out.form h0
            simp only [Value.slice.injEq, true_and] at e
            obtain ⟨rfl, rfl⟩ := e
            have hi2 : (j : Int) < (Y.length : Int) := by omega
            have hi3 : (0 : Int) ≤ (j : Int) := by omega
            have hw2 : IntKind.i64.wrap ((j : Int) + 1) = (j : Int) + 1 := wraps_i64' _ (by omega) (by omega)
            obtain ⟨q0, q1, q2⟩ := (HU.out.below hbel2).cells j hlt2
            have hmem : Y.getD j default ∈ Y := by rw [List.getD_eq_getElem?_getD, List.getElem?_eq_getElem hlt2]; exact List.getElem_mem hlt2
            have hpl := HLost.out _ hmem
            generalize Y.getD j default = x at q0 q1 q2 hpl
            obtain ⟨x0, x1, x2⟩ := x
            simp only at q0 q1 q2 hpl
            have e3 : decide (x0 ≥ q'.big) = false := decide_eq_false (by omega)
            have b8 := below_one wr (.cells #[.int .i64 x0, .int .i64 x1, .int .i64 x2] 54)
            have HBe8 := Lib.hid (HBe.out.trans (b8.mono HBe.out.size))
            have HL8 := Lib.hid (HL7.out.below HBe8.out)
            have CP : Hid ((wr.alloc (.cells #[.int .i64 x0, .int .i64 x1, .int .i64 x2] 54)).heap[wr.heap.size]? = some (.cells #[.int .i64 x0, .int .i64 x1, .int .i64 x2] 54 (0, 0))) := by
              show (wr.heap.push _)[wr.heap.size]? = _; simp
            clear h0 hmem hpl b8 hbel2
            go_upto_region 13 with fail
            generalize wr.alloc (.cells #[.int .i64 x0, .int .i64 x1, .int .i64 x2] 54) = w8 at HBe8 HL8 CP ⊢
            have y0 : w8.cell? ⟨wr.heap.size, 0, none⟩ = some (.int .i64 x0) := by simp [World.cell?, CP.out]
            have d0 : w8.drew.cell? ⟨wr.heap.size, 0, none⟩ = some (.int .i64 x0) := y0
            have LR : ∀ n, LedC (w.heap.size + 1) w.heap.size q'.last q'.time q'.big (w8.drewN n) := fun n => HL8.out.row
            clear q0 q1 q2
            go_wp2_with fail
            go_quiet (first | (go_at_call 23; refine Calls.quiet_of_same (largest_any _ (LR _))))
            go_wp2
            exact ⟨⟨j + 1, by go_num, hlt2, below_drewN HBe8.out _⟩, by simp [intOf, hw2]; omega⟩
          · have hi2 : ¬ ((j : Int) < (Y.length : Int)) := by omega
            obtain ⟨wi, hwi⟩ : ∃ wi, wi = wr := ⟨_, rfl⟩
            subst hwi
            have HLi := Lib.hid (HL7.out.below HBe.out)
            have HBi := Lib.hid (HB7.out.trans (HBe.out.mono HB7.out.size))
            have hl7 : wo.heap.size < w7.heap.size := (Array.getElem?_eq_some_iff.1 CB7.out).1
            have CBi := Lib.hid ((HBe.out.block wo.heap.size hl7).trans CB7.out)
            clear hbel2
            by_cases he : e0 = 0
            · have e9 : (e0 != 0) = false := by simp [he]
              have HSt := Lib.hid (HStay.out he)
              have hnow := HSt.out.1
              clear he
              go_wp2_with (first
                | (go_at_call 24; refine (out_any (w.heap.size + 1) w.heap.size q' wi HOk.out HLi.out).mono ?_; rintro e w9 ⟨o9, rfl, ho, hb9⟩
                   have HO9 := Lib.hid ho.rd
                   have HL9 := Lib.hid (HLi.out.below hb9)
                   have HB9 := Lib.hid (HBi.out.trans (hb9.mono HBi.out.size))
                   have hli : wo.heap.size < wi.heap.size := (Array.getElem?_eq_some_iff.1 CBi.out).1
                   have CB9 := Lib.hid ((hb9.block wo.heap.size hli).trans CBi.out)
                   obtain ⟨oa, oc, rfl, _, _⟩ := ho.slice
                   clear ho hb9))
              go_loopw [62] (fun i wr => ∃ (j : Nat), i = .int .i64 j ∧ j ≤ q'.l.length ∧ Below w9.heap.size w9 wr) (fun i _ => q'.l.length - (intOf i).toNat)
              case atStart => exact ⟨0, rfl, Nat.zero_le _, Below.refl _ _⟩
              case round =>
                obtain ⟨j, rfl, hj, hbel3⟩ := hrel
                have HBf := Lib.hid hbel3
                have hl9 : wo.heap.size < w9.heap.size := (Array.getElem?_eq_some_iff.1 CB9.out).1
                have hqf := HOk.out.few
                by_cases hlt2 : j < q'.l.length
                · have h0 : q'.l ≠ [] := fun e => by rw [e] at hlt2; simp at hlt2
                  obtain ⟨ub, uo, uc', e, hub⟩ := HO9.out.form h0
                  simp only [Value.slice.injEq, true_and] at e
                  obtain ⟨rfl, rfl⟩ := e
                  have hi2 : (j : Int) < (q'.l.length : Int) := by omega
                  have hi3 : (0 : Int) ≤ (j : Int) := by omega
                  have hw2 : IntKind.i64.wrap ((j : Int) + 1) = (j : Int) + 1 := wraps_i64' _ (by omega) (by omega)
                  obtain ⟨q0, q1, q2⟩ := (HO9.out.below hbel3).cells j hlt2
                  have hmem : q'.l.getD j default ∈ q'.l := by rw [List.getD_eq_getElem?_getD, List.getElem?_eq_getElem hlt2]; exact List.getElem_mem hlt2
                  have hps := HSt.out.2 _ hmem
                  have hpe := HOk.out.each _ hmem
                  generalize q'.l.getD j default = x at q0 q1 q2 hps hpe
                  obtain ⟨x0, x1, x2⟩ := x
                  simp only at q0 q1 q2 hps hpe
                  have hw3 : IntKind.i64.wrap (q'.big - x0) = q'.big - x0 := by rw [IntKind.wrap_i64]; omega
                  have hw4 : IntKind.i64.wrap (now - x1) = now - x1 := by rw [IntKind.wrap_i64]; omega
                  have e3 : decide (q'.big - x0 ≥ 3) = false := decide_eq_false (by omega)
                  have b8 := below_one wr (.cells #[.int .i64 x0, .int .i64 x1, .int .i64 x2] 54)
                  have HBf8 := Lib.hid (HBf.out.trans (b8.mono HBf.out.size))
                  have HL8 := Lib.hid (HL9.out.below HBf8.out)
                  have CB8 := Lib.hid ((HBf8.out.block wo.heap.size hl9).trans CB9.out)
                  have CP : Hid ((wr.alloc (.cells #[.int .i64 x0, .int .i64 x1, .int .i64 x2] 54)).heap[wr.heap.size]? = some (.cells #[.int .i64 x0, .int .i64 x1, .int .i64 x2] 54 (0, 0))) := by
                    show (wr.heap.push _)[wr.heap.size]? = _; simp
                  clear h0 hmem b8 hbel3
                  go_upto_region 20 with fail
                  generalize wr.alloc (.cells #[.int .i64 x0, .int .i64 x1, .int .i64 x2] 54) = w8 at HBf8 HL8 CP CB8 ⊢
                  have y0 : w8.cell? ⟨wr.heap.size, 0, none⟩ = some (.int .i64 x0) := by simp [World.cell?, CP.out]
                  have y1 : w8.cell? ⟨wr.heap.size, 1, none⟩ = some (.int .i64 x1) := by simp [World.cell?, CP.out]
                  have y2 : w8.cell? ⟨wo.heap.size, 2, none⟩ = some (.int .i64 now) := by simp [World.cell?, CB8.out]
                  have y4 : w8.cell? ⟨wo.heap.size, 4, none⟩ = some (.int .i64 wt) := by simp [World.cell?, CB8.out]
                  have d0 : w8.drew.cell? ⟨wr.heap.size, 0, none⟩ = some (.int .i64 x0) := y0
                  have d1 : w8.drew.cell? ⟨wr.heap.size, 1, none⟩ = some (.int .i64 x1) := y1
                  have d2 : w8.drew.cell? ⟨wo.heap.size, 2, none⟩ = some (.int .i64 now) := y2
                  have d4 : w8.drew.cell? ⟨wo.heap.size, 4, none⟩ = some (.int .i64 wt) := y4
                  have LR : ∀ n, LedC (w.heap.size + 1) w.heap.size q'.last q'.time q'.big (w8.drewN n) := fun n => HL8.out.row
                  clear q0 q1 q2
                  by_cases t2 : x0 < q'.big
                  · have f2 : decide (x0 < q'.big) = true := decide_eq_true t2
                    have f3 : decide (now - x1 ≥ wt) = false := decide_eq_false (by have := hps.2 t2; omega)
                    clear t2 hps hpe hnow
                    go_wp2_with fail
                    go_quiet (first | (go_at_call 23; refine Calls.quiet_of_same (largest_any _ (LR _))))
                    go_wp2
                    exact ⟨⟨j + 1, by go_num, hlt2, below_drewN HBf8.out _⟩, by simp [intOf, hw2]; omega⟩
                  · have f2 : decide (x0 < q'.big) = false := decide_eq_false t2
                    clear t2 hps hpe hnow
                    go_wp2_with fail
                    go_quiet (first | (go_at_call 23; refine Calls.quiet_of_same (largest_any _ (LR _))))
                    go_wp2
                    exact ⟨⟨j + 1, by go_num, hlt2, below_drewN HBf8.out _⟩, by simp [intOf, hw2]; omega⟩
                · have hi3 : ¬ ((j : Int) < (q'.l.length : Int)) := by omega
                  go_wp2
                  exact ⟨⟨k + 1, q', by go_num, hlt, HOk.out, HL9.out.below HBf.out, HB9.out.trans (HBf.out.mono HB9.out.size)⟩, by simp [intOf, hw1]; omega⟩
            · have e9 : (e0 != 0) = true := by simpa using he
              clear he
              go_wp2
              exact ⟨⟨k + 1, q', by go_num, hlt, HOk.out, HLi.out, HBi.out⟩, by simp [intOf, hw1]; omega⟩
      · have m1 : (kk.tmod 5 != 1) = true := by rw [HMod.out]; simpa using hk1
        clear hk1
        go_wp2_with (go_at_call 25; refine (does_any (w.heap.size + 1) w.heap.size q kk n now size wt (.slice sa ss.length sc) ss w6 HQ.out HL6.out HKK.out HS6.out).mono ?_; rintro e w7 ⟨v7, rfl, _, hD⟩)
        exact ⟨⟨k + 1, _, by go_num, hlt, does_ok HQ.out _ _ _ _ _ _, hD.1, HB6.out.trans (hD.2.to_below (fun i hi => by simp at hi; omega) HB6.out.size)⟩, by simp [intOf, hw1]; omega⟩
    · have hi1 : ¬ ((k : Int) < (l.length : Int)) := by omega
      clear hL hbel
      go_wp2
      go_ret
      exact ⟨rfl, HB.out⟩
set_option maxRecDepth 100000 in
set_option maxHeartbeats 1600000 in
theorem below_none (a : Option Addr) (c : Nat) (w : World) : Calls Try.prog 5 #[.slice a 0 c] w (Yes w) := by
  go_enter Try.func5, Try.ntmps5
  go_wp2_with (first
    | (go_at_call 8; refine (new_any _).mono ?_; rintro e w1 ⟨rfl, hL1, hb1⟩
       have HL1 := Lib.hid hL1
       have HB1 := Lib.hid hb1
       clear hL1 hb1)
    | (go_at_call 10; refine (alive_any _).mono ?_; rintro e w2 ⟨rfl, hb2⟩
       have HL2 := Lib.hid (HL1.out.below hb2)
       have HB2 := Lib.hid (HB1.out.trans (hb2.mono HB1.out.size))
       clear hb2))
  refine wp_loop_rounds 1 ?_
  rw [rounds_succ]
  go_wp2
  go_ret
  exact ⟨rfl, HB2.out⟩
/-- P8.6 -/
theorem below_walk (v : Value) (l : List ActV) (w : World) (hR : RdA w v l) (hok : ∀ x ∈ l, ActOk w x) : Calls Try.prog 5 #[v] w (Yes w) := by
  rcases hR.form with ⟨_, a, c, rfl⟩ | ⟨b, o, c, rfl, hb, hc, hm⟩
  · exact below_none a c w
  · exact below_some b o c l w hR hb hc hm hok
end Go.Proofs.Ytobalbaieakcmaa
