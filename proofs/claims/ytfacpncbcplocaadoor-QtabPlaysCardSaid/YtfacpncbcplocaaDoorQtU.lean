/- Layer 13: the law QtabPlays. -/
import Derived.Test.YtfacpncbcplocaaDoorQtT
set_option maxRecDepth 100000
set_option linter.unusedSimpArgs false
set_option linter.unusedVariables false
set_option linter.unnecessarySimpa false
namespace Go.Proofs.YtfacpncbcplocaaDoor
open Go.RowKit

theorem kind_ways (k : Int) (h0 : 0 ≤ k) (h1 : k < 256) : ∃ r : Int, (r = 0 ∨ r = 1 ∨ r = 2 ∨ r = 3) ∧ k % 4 = r ∧ k.tmod 4 = r ∧ IntKind.u8.wrap r = r := by
  refine ⟨k % 4, by omega, rfl, by rw [Int.tmod_eq_emod_of_nonneg h0], ?_⟩
  rw [IntKind.wrap_u8]; omega
theorem rnew_tb (w w' : World) (k : Nat) (hb : Below w.heap.size w w') :
    RTb w'.heap.size (.slice none 0 0) (newT k) (w'.alloc (.cells #[.int .i64 (k : Int), .int .i64 0, .int .i64 0, .slice none 0 0] 40)) :=
  ⟨Cs.made w' _ _, RdC.nil _ _, fun _ j hj => by cases hj⟩

set_option maxHeartbeats 6400000 in
theorem law_plays (most : Int) (sv : Value) (l : List ActV) (w : World) (hF : Fix w) (hR : RdA w sv l) (hA : ∀ c ∈ l, ActOk c) (hl : l.length * 48 ≤ 140737488351232) :
    Calls Tryd.prog 4 #[.int .i64 most, sv] w (Yes w) := by
  have hpos := hF.pos
  have HF := Lib.hid hF
  by_cases hm : most < 0 ∨ 4096 < most
  · have HN := Lib.hid (new_no most w hm)
    have hrn := rnew_any most w
    rw [if_pos hm, if_pos hm] at hrn
    have HRN := Lib.hid hrn
    clear hrn hm hR hA hF hl
    go_enter Tryd.func4, Tryd.ntmps4
    go_wp2_with (first
      | (go_at_call 16; refine HN.out.mono ?_; rintro e w1 ⟨rfl, h⟩; obtain rfl : w = w1 := h.symm)
      | (go_at_call 17; refine HRN.out.mono ?_; rintro e w2 ⟨rfl, b2⟩
         have B2 : Hid (Below w.heap.size w (w2.alloc (.cells #[.int .i64 0, .int .i64 0, .int .i64 0, .slice none 0 0] 40))) := b2.trans ((below1 _ _).mono b2.size)
         have HAL := Lib.hid (alive_any _ (HF.out.below B2.out hpos))
         clear b2)
      | (go_at_call 15; refine HAL.out.mono ?_; rintro e w3 ⟨rfl, b3⟩))
    go_ret
    exact ⟨rfl, B2.out.trans (b3.mono B2.out.size)⟩
  · obtain ⟨k0, rfl⟩ : ∃ k : Nat, most = (k : Int) := ⟨most.toNat, by omega⟩
    have hnw := new_yes (k0 : Int) w (by omega) (by omega)
    rw [Int.toNat_natCast] at hnw
    have HN := Lib.hid hnw
    have HRN := Lib.hid (fun V => by have := rnew_any (k0 : Int) V; rw [if_neg hm, if_neg hm] at this; exact this)
    have HRD := Lib.hid hR
    have HA := Lib.hid hA
    have HL := Lib.hid hl
    clear hnw hm hR hA hF hl
    obtain ⟨sa, sc, hsv, _, _⟩ := HRD.out.isSlice
    subst hsv
    go_enter Tryd.func4, Tryd.ntmps4
    go_wp2_with (first
      | (go_at_call 16; refine HN.out.mono ?_; rintro e w1 ⟨b, rfl, M1⟩
         have HM1 := Lib.hid M1
         clear M1)
      | (go_at_call 17; refine (HRN.out _).mono ?_; rintro e w2 ⟨rfl, b2⟩
         have hT2 := rnew_tb w1 w2 k0 b2
         have hM2 := HM1.out.below (b2.trans ((below1 w2 (.cells #[.int .i64 (k0 : Int), .int .i64 0, .int .i64 0, .slice none 0 0] 40)).mono b2.size))
         have hc2 : w.heap.size ≤ w2.heap.size := Nat.le_trans HM1.out.size b2.size
         have hcb : w2.heap.size ≠ b := by have := HM1.out.tbl.lt; have := b2.size; omega
         have P := Lib.hid (⟨hM2, hT2, hc2, hcb, (fun j hj => by cases hj), fun h0 => absurd rfl h0⟩ : P2 w.heap.size b (.slice none 0 0) (newT k0) w2.heap.size (.slice none 0 0) (newT k0) w _)
         have HAL := Lib.hid (alive_any _ (HF.out.below hM2.bel hpos))
         clear b2 hT2 hM2 hc2 hcb)
      | (go_at_call 15; refine HAL.out.mono ?_; rintro e w3 ⟨rfl, b3⟩
         have P3 := Lib.hid (P.out.below b3)
         clear b3))
    clear HN HRN HAL HM1 P
    go_loopw [52] (fun i wr => ∃ (k : Nat) (sl v : Value) (q : TQ), i = .int .i64 k ∧ k ≤ l.length ∧ P2 w.heap.size b sl q w2.heap.size v q w wr ∧ countN q ≤ k) (fun i _ => l.length - (intOf i).toNat)
    case atStart => exact ⟨0, _, _, _, rfl, Nat.zero_le _, P3.out, by simp [newT, countN]⟩
    case round =>
      obtain ⟨k, sl, v, q, rfl, hk, hP, hcn⟩ := hrel
      have P := Lib.hid hP
      have CN := Lib.hid hcn
      clear hP hcn P3
      have hlb : l.length ≤ 3000000000000 := by have := HL.out; omega
      by_cases hkl : k < l.length
      · obtain ⟨g, o, gc, hs2, hgc, hgm, hg⟩ := rd_form HRD.out (by omega)
        simp only [Value.slice.injEq, true_and] at hs2
        obtain ⟨rfl, rfl⟩ := hs2
        have hat := RdA.at HRD.out hg k hkl wr P.out.ours.bel
        obtain ⟨a0, a1, a2, a3⟩ := hat
        have hok := HA.out _ (List.getElem_mem hkl)
        obtain ⟨⟨ck, cnn, ⟨fn, fv⟩⟩, hact⟩ : ∃ a, a = l[k] := ⟨_, rfl⟩
        rw [← hact] at a0 a1 a2 a3 hok
        simp only at a0 a1 a2 a3
        clear hact
        obtain ⟨r, hr, e1, e2, e3⟩ := kind_ways ck hok.1 hok.2
        have X1 := Lib.hid (Cs.made wr #[.int .u8 ck, .int .i64 cnn, .string fn, .string fv] 44)
        have P1 := Lib.hid (P.out.below (below1 wr (.cells #[.int .u8 ck, .int .i64 cnn, .string fn, .string fv] 44)))
        have hgl : g < wr.heap.size := Nat.lt_of_lt_of_le hg P.out.ours.bel.size
        have hi1 : (k : Int) < (l.length : Int) := by omega
        have hi2 : (0 : Int) ≤ (k : Int) := by omega
        have hw1 : IntKind.i64.wrap ((k : Int) + 1) = ((k + 1 : Nat) : Int) := by rw [wraps_i64' _ (by omega) (by omega)]; omega
        have HKL := Lib.hid hkl
        have hck0 : 0 ≤ ck := hok.1
        clear hok hkl hk hgc hgm
        go_upto_region 11 with fail
        have hqc : countN q ≤ 4611686018427387000 := by have := CN.out; omega
        have x0 := X1.out.get 0 _ rfl
        have x1 := X1.out.get 1 _ rfl
        have x2 := X1.out.get 2 _ rfl
        have x3 := X1.out.get 3 _ rfl
        have hXlt : ∀ j, Value.ownBlock sl = some j → j < wr.heap.size := P.out.ours.tbl.slt
        have hXn : wr.heap.size ∉ TS b sl := fun hm => by
          rcases mem_TS.1 hm with h | h
          · have := P.out.ours.tbl.lt; omega
          · have := hXlt _ h; omega
        have HXN := Lib.hid hXn
        have hXc : wr.heap.size ∉ [w2.heap.size] := by have := P.out.theirs.lt; simp; omega
        have HXC := Lib.hid hXc
        have HQC := Lib.hid hqc
        obtain ⟨W1, hW1⟩ : ∃ W, W = (wr.alloc (.cells #[.int .u8 ck, .int .i64 cnn, .string fn, .string fv] 44)) := ⟨_, rfl⟩
        rw [← hW1] at X1 P1 x0 x1 x2 x3
        clear hXn hXc hXlt hqc hi1 a0 a1 a2 a3
        rcases hr with rfl | rfl | rfl | rfl
        · have hin := insert_m P1.out.ours ⟨fn, fv⟩ HQC.out
          have HC1 : Hid (countN (insertE q ⟨fn, fv⟩).1 ≤ k + 1) := Nat.le_trans (insert_count q _) (Nat.succ_le_succ CN.out)
          have HQO := Lib.hid P1.out.ours.ok
          have HRI := Lib.hid (fun V (vv : Value) (hV : RTb w2.heap.size vv q V) => rinsert_any ⟨fn, fv⟩ V hV HQO.out HQC.out)
          obtain ⟨⟨q', ni, ei⟩, hie⟩ : ∃ r, r = insertE q ⟨fn, fv⟩ := ⟨_, rfl⟩
          rw [← hie] at hin HRI HC1
          simp only at hin HRI HC1
          have HIN := Lib.hid hin
          clear hin hie
          rw [← hW1]
          clear hW1
          go_upto_region 25 with (first
            | (go_at_call 18; refine HIN.out.mono ?_; rintro e wA ⟨rfl, hst⟩
               obtain ⟨slA, PA⟩ := P1.out.step1 hst
               obtain ⟨_, _, _, hKA⟩ := hst
               have HPA := Lib.hid PA
               have XA := X1.out.keep hKA HXN.out
               have x2 := XA.get 2 _ rfl
               have x3 := XA.get 3 _ rfl
               clear PA hKA XA)
            | (go_at_call 19; refine (HRI.out _ _ HPA.out.theirs).mono ?_; rintro e wB ⟨rfl, hrd⟩
               obtain ⟨vB, PB⟩ := HPA.out.step2 hrd
               have HPB := Lib.hid PB
               clear PB hrd))
          have HPC := HPB
          have HCC := HC1
          have hqC : countN q' ≤ 4611686018427387000 := by have := HCC.out; have := HKL.out; omega
          have HK : Hid (∀ V, Below wB.heap.size wB V → (V.cell? ⟨w2.heap.size, 1, none⟩ = some (.int .i64 (q'.cap : Int)) ∧ V.cell? ⟨w2.heap.size, 2, none⟩ = some (.int .i64 (q'.first : Int))) ∧ Below wB.heap.size wB V) := fun V hV => by
            have h := (HPC.out.below hV).theirs.facts
            exact ⟨⟨h.2.1, h.2.2.1⟩, hV⟩
          have H1 := Lib.hid (fun V (hV : Below wB.heap.size wB V) => cap_any V (HPC.out.below hV).ours.tbl)
          have H2 := Lib.hid (fun V (hV : Below wB.heap.size wB V) => used_any V (HPC.out.below hV).ours.tbl)
          have hro : rooms q'.l ≤ 8192 := by have h := HPC.out.ours.ok; have h1 := h.used; have h2 := h.cap; have h3 := h.most; omega
          have H3 := Lib.hid (fun V (hV : Below wB.heap.size wB V) => rused_any V (HPC.out.below hV).theirs hro)
          have H4 := Lib.hid (fun V (hV : Below wB.heap.size wB V) => first_any V (HPC.out.below hV).ours.tbl)
          have H5 := Lib.hid (fun V (hV : Below wB.heap.size wB V) => count_any V (HPC.out.below hV).ours.tbl (by omega))
          have H6 := Lib.hid (fun V (hV : Below wB.heap.size wB V) => rcount_any V (HPC.out.below hV).theirs (by omega))
          clear hro hqC
          go_region_held3 (fun V => (V.cell? ⟨w2.heap.size, 1, none⟩ = some (.int .i64 (q'.cap : Int)) ∧ V.cell? ⟨w2.heap.size, 2, none⟩ = some (.int .i64 (q'.first : Int))) ∧ Below wB.heap.size wB V)
            (first
              | (exact HK.out _ (below_drewN (Below.refl _ _) 1))
              | (exact HK.out _ B6.out)
              | (exact HK.out _ B5.out)
              | (exact HK.out _ B4.out)
              | (exact HK.out _ B3.out)
              | (exact HK.out _ B2.out)
              | (exact HK.out _ B1.out))
            (first
              | (go_at_call 26; refine (H1.out _ (below_drewN (Below.refl _ _) 1)).mono ?_; rintro x v1 ⟨rfl, h⟩; have B1 : Hid (Below wB.heap.size wB v1) := (by rw [h]; exact below_drewN (Below.refl _ _) 1 : Below _ _ _); clear h)
              | (go_at_call 27; refine (H2.out _ B1.out).mono ?_; rintro x v2 ⟨rfl, h⟩; have B2 : Hid (Below wB.heap.size wB v2) := (by rw [h]; exact B1.out : Below _ _ _); clear h)
              | (go_at_call 28; refine (H3.out _ B2.out).mono ?_; rintro x v3 ⟨rfl, h⟩; have B3 : Hid (Below wB.heap.size wB v3) := B2.out.trans (h.mono B2.out.size); clear h)
              | (go_at_call 29; refine (H4.out _ B3.out).mono ?_; rintro x v4 ⟨rfl, h⟩; have B4 : Hid (Below wB.heap.size wB v4) := (by rw [h]; exact B3.out : Below _ _ _); clear h)
              | (go_at_call 30; refine (H5.out _ B4.out).mono ?_; rintro x v5 ⟨rfl, nn, h⟩; have B5 : Hid (Below wB.heap.size wB v5) := (by rw [h]; exact below_drewN B4.out nn : Below _ _ _); clear h)
              | (go_at_call 31; refine (H6.out _ B5.out).mono ?_; rintro x v6 ⟨rfl, nn, h⟩; have B6 : Hid (Below wB.heap.size wB v6) := (by rw [h]; exact below_drewN B5.out nn : Below _ _ _); clear h))
          all_goals go_wp2_with fail
          all_goals exact ⟨⟨k + 1, slA, vB, q', by simp, HKL.out, HPC.out.below B6.out, HCC.out⟩, by simp [intOf]; have := HKL.out; omega⟩
        · have hin := setCap_m P1.out.ours cnn HQC.out
          have HC1 : Hid (countN (setCapE q cnn).1 ≤ k + 1) := (by rw [setCap_count]; have := CN.out; omega : countN (setCapE q cnn).1 ≤ k + 1)
          have hro : rooms q.l ≤ 8192 := by have h := P1.out.ours.ok; have h1 := h.used; have h2 := h.cap; have h3 := h.most; omega
          have HRI := Lib.hid (fun V (vv : Value) (hV : RTb w2.heap.size vv q V) => rsetCap_any cnn V hro hV (Nat.le_trans HQC.out (by omega)))
          obtain ⟨⟨q', ei⟩, hie⟩ : ∃ r, r = setCapE q cnn := ⟨_, rfl⟩
          rw [← hie] at HRI HC1
          have HIN : Hid (∀ V, Below W1.heap.size W1 V → Calls Tryd.prog 20 #[.pointer (some ⟨b, 0, none⟩), .int .i64 cnn] V fun e w' => e = .returned (.int .i64 ei) ∧ Step w.heap.size b sl q' w V w') := fun V hV => by
            have := setCap_m (P1.out.ours.below hV) cnn HQC.out
            rw [← hie] at this
            exact this
          simp only at HRI HC1
          clear hin hie hro
          rw [← hW1]
          clear hW1
          go_upto_region 20 with fail
          go_region_held3 (fun V => V.cell? ⟨wr.heap.size, 1, none⟩ = some (.int .i64 cnn))
            (first
              | (exact x1)
              | (exact xA)
              | (exact xB))
            (first
              | (go_at_call 20; refine (HIN.out _ (below_drewN (Below.refl _ _) 1)).mono ?_; rintro e wA ⟨rfl, hst⟩; obtain ⟨slA, PA⟩ := (P1.out.drewN 1).step1 hst; obtain ⟨_, _, _, hKA⟩ := hst; have HPA := Lib.hid PA; have XA := Lib.hid ((X1.out.below (below_drewN (Below.refl _ _) 1)).keep hKA HXN.out); have xA : wA.cell? ⟨wr.heap.size, 1, none⟩ = some (.int .i64 cnn) := XA.out.get 1 _ rfl; clear PA hKA)
              | (go_at_call 21; refine (HRI.out _ _ HPA.out.theirs).mono ?_; rintro e wB ⟨rfl, hrd⟩; obtain ⟨vB, PB⟩ := HPA.out.step2 hrd; have HPB := Lib.hid PB; obtain ⟨_, _, _, hKB⟩ := hrd; have xB : wB.cell? ⟨wr.heap.size, 1, none⟩ = some (.int .i64 cnn) := (XA.out.keep hKB HXC.out).get 1 _ rfl; clear PB hKB))
          go_upto_region 25 with fail
          have HPC := HPB
          have HCC := HC1
          have hqC : countN q' ≤ 4611686018427387000 := by have := HCC.out; have := HKL.out; omega
          have HK : Hid (∀ V, Below wB.heap.size wB V → (V.cell? ⟨w2.heap.size, 1, none⟩ = some (.int .i64 (q'.cap : Int)) ∧ V.cell? ⟨w2.heap.size, 2, none⟩ = some (.int .i64 (q'.first : Int))) ∧ Below wB.heap.size wB V) := fun V hV => by
            have h := (HPC.out.below hV).theirs.facts
            exact ⟨⟨h.2.1, h.2.2.1⟩, hV⟩
          have H1 := Lib.hid (fun V (hV : Below wB.heap.size wB V) => cap_any V (HPC.out.below hV).ours.tbl)
          have H2 := Lib.hid (fun V (hV : Below wB.heap.size wB V) => used_any V (HPC.out.below hV).ours.tbl)
          have hro : rooms q'.l ≤ 8192 := by have h := HPC.out.ours.ok; have h1 := h.used; have h2 := h.cap; have h3 := h.most; omega
          have H3 := Lib.hid (fun V (hV : Below wB.heap.size wB V) => rused_any V (HPC.out.below hV).theirs hro)
          have H4 := Lib.hid (fun V (hV : Below wB.heap.size wB V) => first_any V (HPC.out.below hV).ours.tbl)
          have H5 := Lib.hid (fun V (hV : Below wB.heap.size wB V) => count_any V (HPC.out.below hV).ours.tbl (by omega))
          have H6 := Lib.hid (fun V (hV : Below wB.heap.size wB V) => rcount_any V (HPC.out.below hV).theirs (by omega))
          clear hro hqC
          go_region_held3 (fun V => (V.cell? ⟨w2.heap.size, 1, none⟩ = some (.int .i64 (q'.cap : Int)) ∧ V.cell? ⟨w2.heap.size, 2, none⟩ = some (.int .i64 (q'.first : Int))) ∧ Below wB.heap.size wB V)
            (first
              | (exact HK.out _ (below_drewN (Below.refl _ _) 1))
              | (exact HK.out _ B6.out)
              | (exact HK.out _ B5.out)
              | (exact HK.out _ B4.out)
              | (exact HK.out _ B3.out)
              | (exact HK.out _ B2.out)
              | (exact HK.out _ B1.out))
            (first
              | (go_at_call 26; refine (H1.out _ (below_drewN (Below.refl _ _) 1)).mono ?_; rintro x v1 ⟨rfl, h⟩; have B1 : Hid (Below wB.heap.size wB v1) := (by rw [h]; exact below_drewN (Below.refl _ _) 1 : Below _ _ _); clear h)
              | (go_at_call 27; refine (H2.out _ B1.out).mono ?_; rintro x v2 ⟨rfl, h⟩; have B2 : Hid (Below wB.heap.size wB v2) := (by rw [h]; exact B1.out : Below _ _ _); clear h)
              | (go_at_call 28; refine (H3.out _ B2.out).mono ?_; rintro x v3 ⟨rfl, h⟩; have B3 : Hid (Below wB.heap.size wB v3) := B2.out.trans (h.mono B2.out.size); clear h)
              | (go_at_call 29; refine (H4.out _ B3.out).mono ?_; rintro x v4 ⟨rfl, h⟩; have B4 : Hid (Below wB.heap.size wB v4) := (by rw [h]; exact B3.out : Below _ _ _); clear h)
              | (go_at_call 30; refine (H5.out _ B4.out).mono ?_; rintro x v5 ⟨rfl, nn, h⟩; have B5 : Hid (Below wB.heap.size wB v5) := (by rw [h]; exact below_drewN B4.out nn : Below _ _ _); clear h)
              | (go_at_call 31; refine (H6.out _ B5.out).mono ?_; rintro x v6 ⟨rfl, nn, h⟩; have B6 : Hid (Below wB.heap.size wB v6) := (by rw [h]; exact below_drewN B5.out nn : Below _ _ _); clear h))
          all_goals go_wp2_with fail
          all_goals exact ⟨⟨k + 1, slA, vB, q', by simp, HKL.out, HPC.out.below B6.out, HCC.out⟩, by simp [intOf]; have := HKL.out; omega⟩
        · have HG := Lib.hid (get_any cnn W1 P1.out.ours.tbl (Nat.le_trans HQC.out (by omega)))
          have HRG := Lib.hid (fun V (hV : RTb w2.heap.size v q V) => rget_any cnn V hV (Nat.le_trans HQC.out (by omega)))
          obtain ⟨⟨⟨gn, gv⟩, ge⟩, hge⟩ : ∃ r, r = getE q cnn := ⟨_, rfl⟩
          rw [← hge] at HG HRG
          simp only at HG HRG
          have qe : ∀ W, (Op.equalIn 10000 23 (.agg #[.string gn, .string gv]) (.agg #[.string gn, .string gv])).run Tryd.prog W = .ok true W := fun W => by rw [eqF_any ⟨gn, gv⟩ ⟨gn, gv⟩, decide_eq_true rfl]
          have hgd := guardF
          clear hge
          rw [← hW1]
          clear hW1
          go_upto_region 25 with (first
            | (go_at_call 22; refine HG.out.mono ?_; rintro e wA ⟨rfl, bA⟩
               have PA := Lib.hid (P1.out.below (bA.trans ((below1 wA (.cells #[.string gn, .string gv] 23)).mono bA.size)))
               have XA := X1.out.below (bA.trans ((below1 wA (.cells #[.string gn, .string gv] 23)).mono bA.size))
               have YA := Lib.hid (Cs.made wA #[.string gn, .string gv] 23)
               have x1 := XA.get 1 _ rfl
               clear bA XA)
            | (go_at_call 23; refine (HRG.out _ PA.out.theirs).mono ?_; rintro e wB ⟨rfl, bB⟩
               have PB := Lib.hid (PA.out.below (bB.trans ((below1 wB (.cells #[.string gn, .string gv] 23)).mono bB.size)))
               have YB := YA.out.below (bB.trans ((below1 wB (.cells #[.string gn, .string gv] 23)).mono bB.size))
               have ZB := Cs.made wB #[.string gn, .string gv] 23
               have y0 := YB.get 0 _ rfl
               have y1 := YB.get 1 _ rfl
               have z0 := ZB.get 0 _ rfl
               have z1 := ZB.get 1 _ rfl
               clear bB YB ZB))
          have HC1 : Hid (countN q ≤ k + 1) := Nat.le_succ_of_le CN.out
          clear y0 y1 z0 z1
          generalize wB.alloc (.cells #[.string gn, .string gv] 23) = wc at PB ⊢
          have HPC := PB
          have HCC := HC1
          have hqC : countN q ≤ 4611686018427387000 := by have := HCC.out; have := HKL.out; omega
          have HK : Hid (∀ V, Below wc.heap.size wc V → (V.cell? ⟨w2.heap.size, 1, none⟩ = some (.int .i64 (q.cap : Int)) ∧ V.cell? ⟨w2.heap.size, 2, none⟩ = some (.int .i64 (q.first : Int))) ∧ Below wc.heap.size wc V) := fun V hV => by
            have h := (HPC.out.below hV).theirs.facts
            exact ⟨⟨h.2.1, h.2.2.1⟩, hV⟩
          have H1 := Lib.hid (fun V (hV : Below wc.heap.size wc V) => cap_any V (HPC.out.below hV).ours.tbl)
          have H2 := Lib.hid (fun V (hV : Below wc.heap.size wc V) => used_any V (HPC.out.below hV).ours.tbl)
          have hro : rooms q.l ≤ 8192 := by have h := HPC.out.ours.ok; have h1 := h.used; have h2 := h.cap; have h3 := h.most; omega
          have H3 := Lib.hid (fun V (hV : Below wc.heap.size wc V) => rused_any V (HPC.out.below hV).theirs hro)
          have H4 := Lib.hid (fun V (hV : Below wc.heap.size wc V) => first_any V (HPC.out.below hV).ours.tbl)
          have H5 := Lib.hid (fun V (hV : Below wc.heap.size wc V) => count_any V (HPC.out.below hV).ours.tbl (by omega))
          have H6 := Lib.hid (fun V (hV : Below wc.heap.size wc V) => rcount_any V (HPC.out.below hV).theirs (by omega))
          clear hro hqC
          go_region_held3 (fun V => (V.cell? ⟨w2.heap.size, 1, none⟩ = some (.int .i64 (q.cap : Int)) ∧ V.cell? ⟨w2.heap.size, 2, none⟩ = some (.int .i64 (q.first : Int))) ∧ Below wc.heap.size wc V)
            (first
              | (exact HK.out _ (below_drewN (Below.refl _ _) 1))
              | (exact HK.out _ B6.out)
              | (exact HK.out _ B5.out)
              | (exact HK.out _ B4.out)
              | (exact HK.out _ B3.out)
              | (exact HK.out _ B2.out)
              | (exact HK.out _ B1.out))
            (first
              | (go_at_call 26; refine (H1.out _ (below_drewN (Below.refl _ _) 1)).mono ?_; rintro x v1 ⟨rfl, h⟩; have B1 : Hid (Below wc.heap.size wc v1) := (by rw [h]; exact below_drewN (Below.refl _ _) 1 : Below _ _ _); clear h)
              | (go_at_call 27; refine (H2.out _ B1.out).mono ?_; rintro x v2 ⟨rfl, h⟩; have B2 : Hid (Below wc.heap.size wc v2) := (by rw [h]; exact B1.out : Below _ _ _); clear h)
              | (go_at_call 28; refine (H3.out _ B2.out).mono ?_; rintro x v3 ⟨rfl, h⟩; have B3 : Hid (Below wc.heap.size wc v3) := B2.out.trans (h.mono B2.out.size); clear h)
              | (go_at_call 29; refine (H4.out _ B3.out).mono ?_; rintro x v4 ⟨rfl, h⟩; have B4 : Hid (Below wc.heap.size wc v4) := (by rw [h]; exact B3.out : Below _ _ _); clear h)
              | (go_at_call 30; refine (H5.out _ B4.out).mono ?_; rintro x v5 ⟨rfl, nn, h⟩; have B5 : Hid (Below wc.heap.size wc v5) := (by rw [h]; exact below_drewN B4.out nn : Below _ _ _); clear h)
              | (go_at_call 31; refine (H6.out _ B5.out).mono ?_; rintro x v6 ⟨rfl, nn, h⟩; have B6 : Hid (Below wc.heap.size wc v6) := (by rw [h]; exact below_drewN B5.out nn : Below _ _ _); clear h))
          all_goals go_wp2_with fail
          all_goals exact ⟨⟨k + 1, sl, v, q, by simp, HKL.out, HPC.out.below B6.out, HCC.out⟩, by simp [intOf]; have := HKL.out; omega⟩
        · have HG := Lib.hid (find_any ⟨fn, fv⟩ W1 P1.out.ours.tbl (Nat.le_trans HQC.out (by omega)))
          have HRG := Lib.hid (fun V (hV : RTb w2.heap.size v q V) => rfind_any ⟨fn, fv⟩ V hV (Nat.le_trans HQC.out (by omega)))
          obtain ⟨⟨ga, gb⟩, hge⟩ : ∃ r, r = findE q ⟨fn, fv⟩ := ⟨_, rfl⟩
          rw [← hge] at HG HRG
          simp only at HG HRG
          clear hge
          rw [← hW1]
          clear hW1
          go_upto_region 25 with (first
            | (go_at_call 24; refine HG.out.mono ?_; rintro e wA ⟨rfl, bA⟩
               have PA := Lib.hid (P1.out.below bA)
               have XA := X1.out.below bA
               have x2 := XA.get 2 _ rfl
               have x3 := XA.get 3 _ rfl
               clear bA XA)
            | (go_at_call 25; refine (HRG.out _ PA.out.theirs).mono ?_; rintro e wB ⟨rfl, bB⟩
               have PB := Lib.hid (PA.out.below bB)
               clear bB))
          have HC1 : Hid (countN q ≤ k + 1) := Nat.le_succ_of_le CN.out
          have HPC := PB
          have HCC := HC1
          have hqC : countN q ≤ 4611686018427387000 := by have := HCC.out; have := HKL.out; omega
          have HK : Hid (∀ V, Below wB.heap.size wB V → (V.cell? ⟨w2.heap.size, 1, none⟩ = some (.int .i64 (q.cap : Int)) ∧ V.cell? ⟨w2.heap.size, 2, none⟩ = some (.int .i64 (q.first : Int))) ∧ Below wB.heap.size wB V) := fun V hV => by
            have h := (HPC.out.below hV).theirs.facts
            exact ⟨⟨h.2.1, h.2.2.1⟩, hV⟩
          have H1 := Lib.hid (fun V (hV : Below wB.heap.size wB V) => cap_any V (HPC.out.below hV).ours.tbl)
          have H2 := Lib.hid (fun V (hV : Below wB.heap.size wB V) => used_any V (HPC.out.below hV).ours.tbl)
          have hro : rooms q.l ≤ 8192 := by have h := HPC.out.ours.ok; have h1 := h.used; have h2 := h.cap; have h3 := h.most; omega
          have H3 := Lib.hid (fun V (hV : Below wB.heap.size wB V) => rused_any V (HPC.out.below hV).theirs hro)
          have H4 := Lib.hid (fun V (hV : Below wB.heap.size wB V) => first_any V (HPC.out.below hV).ours.tbl)
          have H5 := Lib.hid (fun V (hV : Below wB.heap.size wB V) => count_any V (HPC.out.below hV).ours.tbl (by omega))
          have H6 := Lib.hid (fun V (hV : Below wB.heap.size wB V) => rcount_any V (HPC.out.below hV).theirs (by omega))
          clear hro hqC
          go_region_held3 (fun V => (V.cell? ⟨w2.heap.size, 1, none⟩ = some (.int .i64 (q.cap : Int)) ∧ V.cell? ⟨w2.heap.size, 2, none⟩ = some (.int .i64 (q.first : Int))) ∧ Below wB.heap.size wB V)
            (first
              | (exact HK.out _ (below_drewN (Below.refl _ _) 1))
              | (exact HK.out _ B6.out)
              | (exact HK.out _ B5.out)
              | (exact HK.out _ B4.out)
              | (exact HK.out _ B3.out)
              | (exact HK.out _ B2.out)
              | (exact HK.out _ B1.out))
            (first
              | (go_at_call 26; refine (H1.out _ (below_drewN (Below.refl _ _) 1)).mono ?_; rintro x v1 ⟨rfl, h⟩; have B1 : Hid (Below wB.heap.size wB v1) := (by rw [h]; exact below_drewN (Below.refl _ _) 1 : Below _ _ _); clear h)
              | (go_at_call 27; refine (H2.out _ B1.out).mono ?_; rintro x v2 ⟨rfl, h⟩; have B2 : Hid (Below wB.heap.size wB v2) := (by rw [h]; exact B1.out : Below _ _ _); clear h)
              | (go_at_call 28; refine (H3.out _ B2.out).mono ?_; rintro x v3 ⟨rfl, h⟩; have B3 : Hid (Below wB.heap.size wB v3) := B2.out.trans (h.mono B2.out.size); clear h)
              | (go_at_call 29; refine (H4.out _ B3.out).mono ?_; rintro x v4 ⟨rfl, h⟩; have B4 : Hid (Below wB.heap.size wB v4) := (by rw [h]; exact B3.out : Below _ _ _); clear h)
              | (go_at_call 30; refine (H5.out _ B4.out).mono ?_; rintro x v5 ⟨rfl, nn, h⟩; have B5 : Hid (Below wB.heap.size wB v5) := (by rw [h]; exact below_drewN B4.out nn : Below _ _ _); clear h)
              | (go_at_call 31; refine (H6.out _ B5.out).mono ?_; rintro x v6 ⟨rfl, nn, h⟩; have B6 : Hid (Below wB.heap.size wB v6) := (by rw [h]; exact below_drewN B5.out nn : Below _ _ _); clear h))
          all_goals go_wp2_with fail
          all_goals exact ⟨⟨k + 1, sl, v, q, by simp, HKL.out, HPC.out.below B6.out, HCC.out⟩, by simp [intOf]; have := HKL.out; omega⟩
      · obtain rfl : k = l.length := by omega
        have hi1 : ¬ ((l.length : Int) < (l.length : Int)) := by omega
        go_wp2_with fail
        go_ret
        exact ⟨rfl, P.out.ours.bel⟩
end Go.Proofs.YtfacpncbcplocaaDoor
