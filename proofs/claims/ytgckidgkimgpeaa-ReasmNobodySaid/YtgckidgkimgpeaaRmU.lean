/- The law Nobody. -/
import Derived.Test.YtgckidgkimgpeaaRmJ
import Derived.Test.YtgckidgkimgpeaaRmT
set_option linter.unusedSimpArgs false
set_option linter.unusedVariables false
namespace Go.Proofs.Ytgckidgkimgpeaa
open Go.RowKit

theorem Mine.set {B b r m B2 : Nat} {q : St} {w0 w : World} (h : Mine B b r m q w0 w) (g j : Nat) (v : Value) (hg : B2 ≤ g) (hl : b < B2 ∧ r < B2 ∧ m < B2) (hB : B ≤ B2) : Mine B b r m q w0 (w.setCell ⟨g, j, none⟩ v) :=
  h.grown (grown_set g j w v) (fun i hi => by cases hi; exact hg) hl hB
theorem Given.mono {w : World} {B B' : Nat} {v : Value} {zs : List Int} (h : Given w B v zs) (hb : B' ≤ B) : Given w B' v zs := by
  obtain ⟨hl, h | ⟨h0, g, rfl, h1, hc⟩⟩ := h
  · exact ⟨hl, .inl h⟩
  · exact ⟨hl, .inr ⟨h0, g, rfl, Nat.le_trans hb h1, hc⟩⟩
theorem str_app (a b : List Int) : strOfNums a ++ strOfNums b = strOfNums (a ++ b) := by
  apply ByteArray.ext
  simp [strOfNums]
theorem str_size (a : List Int) : (strOfNums a).size = a.length := by simp [strOfNums, ByteArray.size]
theorem Given.at {w : World} {B : Nat} {v : Value} {zs : List Int} (h : Given w B v zs) (k : Nat) (hk : k < zs.length) :
    ∃ g, v = .slice (some ⟨g, 0, none⟩) zs.length zs.length ∧ B ≤ g ∧ w.cell? ⟨g, k, none⟩ = some (.int .u8 (zs.getD k 0)) ∧ w.frozen? ⟨g, k, none⟩ = false ∧ ∀ x, Given (w.setCell ⟨g, k, none⟩ (.int .u8 x)) B v (zs.set k x) := by
  obtain ⟨hl, ⟨rfl, _⟩ | ⟨h0, g, rfl, hb, hc⟩⟩ := h
  · simp at hk
  · refine ⟨g, rfl, hb, hc.get k _ (by rw [getD_lt hk]; simp [hk]), hc.free k, fun x => ⟨by rw [List.length_set]; exact hl, .inr ⟨fun e => ?_, g, by rw [List.length_set], hb, ?_⟩⟩⟩
    · have := congrArg List.length e
      rw [List.length_set, List.length_nil] at this; omega
    · rw [List.map_set]; exact hc.set k _

set_option maxRecDepth 100000 in
set_option maxHeartbeats 12800000 in
theorem nobody_walk (bv : Value) (txt : List Int) (kk n : Int) (av : Value) (abs : List Int) (fin : Bool) (w : World) (hB : Rd .u8 w bv txt) (hbt : Bts txt) (ha : Rd .u8 w av abs) :
    Calls Try.prog 7 #[bv, .agg #[.int .u8 kk, .int .i64 n, av, .bool fin]] w (Yes w) := by
  obtain ⟨ba, bc, rfl⟩ := hB.isSlice
  obtain ⟨sa, sc, rfl⟩ := ha.isSlice
  have htc := hB.cap.1
  have htl := hB.len
  unfold maxLen at htl
  have HT := Lib.hid hB
  have HBt := Lib.hid hbt
  have B1 := Lib.hid (below1 w (.cells #[.int .u8 kk, .int .i64 n, .slice sa abs.length sc, .bool fin] 37))
  have CB : Hid (Cs (w.alloc (.cells #[.int .u8 kk, .int .i64 n, .slice sa abs.length sc, .bool fin] 37)) w.heap.size [.int .u8 kk, .int .i64 n, .slice sa abs.length sc, .bool fin]) := Cs.made w _ _
  clear hB hbt ha
  go_enter Try.func7, Try.ntmps7
  go_upto_region 1 with fail
  generalize w.alloc (.cells #[.int .u8 kk, .int .i64 n, .slice sa abs.length sc, .bool fin] 37) = W1 at B1 CB ⊢
  go_wp2_with fail
  have b2 := below1 W1 (.cells #[.slice none 0 0, .slice none 0 0, .int .i64 0, .int .i64 0, .int .i64 0, .bool false] 45)
  have b3 := below1 (W1.alloc (.cells #[.slice none 0 0, .slice none 0 0, .int .i64 0, .int .i64 0, .int .i64 0, .bool false] 45)) (.cells #[.pointer none, .pointer (some ⟨W1.heap.size, 0, none⟩)] 24)
  have hz2 := (Cs.made W1 #[.slice none 0 0, .slice none 0 0, .int .i64 0, .int .i64 0, .int .i64 0, .bool false] 45).below b3
  have hr3 := Cs.made (W1.alloc (.cells #[.slice none 0 0, .slice none 0 0, .int .i64 0, .int .i64 0, .int .i64 0, .bool false] 45)) #[.pointer none, .pointer (some ⟨W1.heap.size, 0, none⟩)] 24
  rw [World.size_alloc] at hr3
  have HZ3 := Lib.hid hz2
  have HR3 := Lib.hid hr3
  have HA3 := Lib.hid ((CB.out.below b2).below b3)
  have HB3 := Lib.hid (B1.out.trans ((b2.trans (b3.mono b2.size)).mono B1.out.size))
  clear b2 b3 hz2 hr3
  generalize (W1.alloc (.cells #[.slice none 0 0, .slice none 0 0, .int .i64 0, .int .i64 0, .int .i64 0, .bool false] 45)).alloc (.cells #[.pointer none, .pointer (some ⟨W1.heap.size, 0, none⟩)] 24) = W3 at HZ3 HR3 HA3 HB3 ⊢
  have N0 := Lib.hid (noOne_nil W3)
  have N1 := Lib.hid (noOne_zero W1.heap.size W3 HZ3.out.lt (HZ3.out.get 0 _ rfl))
  go_loopw [21] (fun i wr => ∃ (k : Nat), i = .int .i64 k ∧ k ≤ 2 ∧ Below W3.heap.size W3 wr) (fun i _ => 2 - (intOf i).toNat)
  case atStart => exact ⟨0, rfl, by omega, Below.refl _ _⟩
  case round =>
    obtain ⟨k, rfl, hk, hbel⟩ := hrel
    have HBe := Lib.hid hbel
    have HA := Lib.hid (HA3.out.below hbel)
    have HR := Lib.hid (HR3.out.below hbel)
    clear hbel
    have c1 := HA.out.get 1 _ rfl
    have c2 := HA.out.get 2 _ rfl
    have c3 := HA.out.get 3 _ rfl
    by_cases hlt : k < 2
    · obtain rfl | rfl : k = 0 ∨ k = 1 := by omega
      · have hp := HR.out.get 0 _ rfl
        have HN := Lib.hid (N0.out.below HBe.out)
        go_wp2_with (first
          | (go_at_call 20; refine (end_no _ _ HN.out).mono ?_; rintro e w9 ⟨rfl, h9⟩; obtain rfl := h9.symm)
          | (go_at_call 10; refine (data_no _ _ _ _ _ HN.out).mono ?_; rintro e w9 ⟨rfl, h9⟩; obtain rfl := h9.symm)
          | (go_at_call 15; refine (reset_no _ _ _ HN.out).mono ?_; rintro e w9 ⟨rfl, h9⟩; obtain rfl := h9.symm)
          | (go_at_call 11; refine (read_no _ _ _ HN.out).mono ?_; rintro e w9 ⟨rfl, h9⟩; obtain rfl := h9.symm)
          | (go_at_call 17; refine (ready_no _ _ HN.out).mono ?_; rintro e w9 ⟨rfl, h9⟩; obtain rfl := h9.symm)
          | (go_at_call 14; refine (limit_no _ _ HN.out).mono ?_; rintro e w9 ⟨rfl, h9⟩; obtain rfl := h9.symm)
          | (go_at_call 18; refine (at_no _ _ HN.out).mono ?_; rintro e w9 ⟨rfl, h9⟩; obtain rfl := h9.symm)
          | (go_at_call 16; refine (held_no _ _ HN.out).mono ?_; rintro e w9 ⟨rfl, h9⟩; obtain rfl := h9.symm)
          | (go_at_call 13; refine (over_no _ _ HN.out).mono ?_; rintro e w9 ⟨rfl, n9, rfl⟩; have HN9 := Lib.hid (HN.out.below (below_drewN (Below.refl _ wr) n9)))
          | (go_at_call 19; refine (broken_no _ _ HN9.out).mono ?_; rintro e w10 ⟨rfl, h9⟩; obtain rfl := h9.symm))
        exact ⟨⟨1, by go_num, by omega, below_drewN HBe.out _⟩, by simp [intOf]⟩
      · have hp := HR.out.get 1 _ rfl
        have HN := Lib.hid (N1.out.below HBe.out)
        go_wp2_with (first
          | (go_at_call 20; refine (end_no _ _ HN.out).mono ?_; rintro e w9 ⟨rfl, h9⟩; obtain rfl := h9.symm)
          | (go_at_call 10; refine (data_no _ _ _ _ _ HN.out).mono ?_; rintro e w9 ⟨rfl, h9⟩; obtain rfl := h9.symm)
          | (go_at_call 15; refine (reset_no _ _ _ HN.out).mono ?_; rintro e w9 ⟨rfl, h9⟩; obtain rfl := h9.symm)
          | (go_at_call 11; refine (read_no _ _ _ HN.out).mono ?_; rintro e w9 ⟨rfl, h9⟩; obtain rfl := h9.symm)
          | (go_at_call 17; refine (ready_no _ _ HN.out).mono ?_; rintro e w9 ⟨rfl, h9⟩; obtain rfl := h9.symm)
          | (go_at_call 14; refine (limit_no _ _ HN.out).mono ?_; rintro e w9 ⟨rfl, h9⟩; obtain rfl := h9.symm)
          | (go_at_call 18; refine (at_no _ _ HN.out).mono ?_; rintro e w9 ⟨rfl, h9⟩; obtain rfl := h9.symm)
          | (go_at_call 16; refine (held_no _ _ HN.out).mono ?_; rintro e w9 ⟨rfl, h9⟩; obtain rfl := h9.symm)
          | (go_at_call 13; refine (over_no _ _ HN.out).mono ?_; rintro e w9 ⟨rfl, n9, rfl⟩; have HN9 := Lib.hid (HN.out.below (below_drewN (Below.refl _ wr) n9)))
          | (go_at_call 19; refine (broken_no _ _ HN9.out).mono ?_; rintro e w10 ⟨rfl, h9⟩; obtain rfl := h9.symm))
        exact ⟨⟨2, by go_num, by omega, below_drewN HBe.out _⟩, by simp [intOf]⟩
    · obtain rfl : k = 2 := by omega
      obtain ⟨wo, hwo⟩ : ∃ wo, wo = wr := ⟨_, rfl⟩
      subst hwo
      have HB := Lib.hid (HB3.out.trans (HBe.out.mono HB3.out.size))
      clear c1 c2 c3 hlt hk
      go_upto_region 11 with (go_at_call 8; refine (new_yes 4096 _ (by decide)).mono ?_; rintro e w4 ⟨b, r, m, rfl, hM4⟩; have HM4 : Hid (Mine wo.heap.size b r m (fresh 4096) wo w4) := hM4; clear hM4)
      have hlt4 := HM4.out.2.1.lt
      have hlo4 := HM4.out.low
      obtain ⟨B2, hB2⟩ : ∃ B2, B2 = w4.heap.size := ⟨_, rfl⟩
      rw [← hB2] at hlt4 hlo4
      have HLt := Lib.hid hlt4
      have HLo := Lib.hid hlo4
      have HB2 : Hid (B2 ≤ w4.heap.size) := Nat.le_of_eq hB2
      obtain ⟨xs, hxs⟩ : ∃ xs, xs = txt.take 4000 := ⟨_, rfl⟩
      have hxl : xs.length = min 4000 txt.length := by rw [hxs, List.length_take]
      have hxl2 : xs.length ≤ 4000 := by omega
      have HTx : Hid (Rd .u8 w4 (.slice ba xs.length bc) xs) := by
        have := (HT.out.below (HB.out.trans (HM4.out.2.2.2.mono HB.out.size))).firsts (min 4000 txt.length) (by omega)
        rw [← hxl, hxl, ← List.take_take, List.take_length, ← hxs, ← hxl] at this
        exact this
      have HBx : Hid (Bts xs) := by rw [hxs]; exact fun x hx => HBt.out x (List.mem_of_mem_take hx)
      have HXL := Lib.hid hxl
      clear hlt4 hlo4 hB2 hxs hxl
      go_cut [11] (fun v wc => Own .u8 5 wc B2 v xs ∧ Mine wo.heap.size b r m (fresh 4096) wo wc ∧ B2 ≤ wc.heap.size)
      case first =>
        have j1 : (txt.length : Int) ≤ (bc : Int) := by omega
        by_cases j2 : 4000 < txt.length
        · have j3 : (4000 : Int) ≤ (bc : Int) := by omega
          have hx4 : xs.length = 4000 := by have := HXL.out; omega
          have HTy : Hid (Rd .u8 w4 (.slice ba 4000 bc) xs) := by
            have := HTx.out
            rw [hx4] at this
            exact this
          clear hx4
          go_wp2_with (at_builtin; refine wpList_append_rd _ rfl _ _ _ rfl elemU8 Try.underlying22 B2 (.slice none 0 0) [] rfl (Own.nil _ _ _ _) (.slice ba 4000 bc) xs rfl HTy.out (by simp; omega) (by simp; unfold maxLen; omega) HB2.out ?_; intro v5 w5 o5 g5)
          go_meet
          exact ⟨o5, HM4.out.grown g5 (fun j hj => by cases hj) HLt.out HLo.out, Nat.le_trans HB2.out g5.size⟩
        · have hx4 : xs.length = txt.length := by have := HXL.out; omega
          have HTy : Hid (Rd .u8 w4 (.slice ba txt.length bc) xs) := by
            have := HTx.out
            rw [hx4] at this
            exact this
          clear hx4
          go_wp2_with (at_builtin; refine wpList_append_rd _ rfl _ _ _ rfl elemU8 Try.underlying22 B2 (.slice none 0 0) [] rfl (Own.nil _ _ _ _) (.slice ba txt.length bc) xs rfl HTy.out (by simp; omega) (by simp; unfold maxLen; omega) HB2.out ?_; intro v5 w5 o5 g5)
          go_meet
          exact ⟨o5, HM4.out.grown g5 (fun j hj => by cases hj) HLt.out HLo.out, Nat.le_trans HB2.out g5.size⟩
      case rest =>
        obtain ⟨ho5, hM5, hB5⟩ := hcut
        obtain ⟨oa, oc, hv⟩ := ho5.len
        subst hv
        have HO5 := Lib.hid ho5
        have HB5 := Lib.hid hB5
        have kc5 := ho5.rd.conv Try.underlying22 Try.underlying5 Try.underlying9
        have e0 : (xs.drop 0).take xs.length = xs := by simp
        have hbd : (dataE (fresh 4096) 0 xs false).2 = 0 ∧ Bk xs (dataE (fresh 4096) 0 xs false).1 ∧ (dataE (fresh 4096) 0 xs false).1.p = 0 ∧ (false = true → (dataE (fresh 4096) 0 xs false).1.e = (xs.length : Int)) ∧ ∀ i, (0 ≤ 0 + i ∧ 0 + i < 0 + xs.length) ∨ (fresh 4096).came.getD i false = true → i < 4096 → (dataE (fresh 4096) 0 xs false).1.came.getD i false = true := by
          have := bk_data (bk_fresh xs) hM5.1 (by omega) 0 xs.length (by omega) false (fun h => by cases h)
          rw [e0] at this
          exact this
        have hok1 := data_ok hM5.1 0 xs false
        have hdm := data_mine hM5 0 (.slice oa xs.length oc) xs false ho5.rd (fun _ j hj => by
          have h1 := ho5.blk j hj
          have h2 := HLt.out
          exact ⟨by omega, by omega, by omega⟩)
        obtain ⟨q1, hq1⟩ : ∃ q1, (dataE (fresh 4096) 0 xs false).1 = q1 := ⟨_, rfl⟩
        rw [hq1] at hbd hok1 hdm
        obtain ⟨_, hbk1, hp1, _, hc1⟩ := hbd
        have hrd1 := bk_all hbk1 hok1 (by omega) (fun i hi => hc1 i (.inl ⟨by omega, by omega⟩) (by omega))
        have HDm := Lib.hid hdm
        have HBk1 := Lib.hid hbk1
        have HP1 := Lib.hid hp1
        have HC1 := Lib.hid hc1
        have HR1 := Lib.hid hrd1
        have HOk1 := Lib.hid hok1
        clear ho5 hM5 hB5 e0 hok1 hdm hq1 hbk1 hp1 hc1 hrd1
        go_wp2_with (go_at_call 10; refine HDm.out.mono ?_; rintro e w6 ⟨rfl, hM6, hK6⟩; have HM6 := Lib.hid hM6; have HO6 := Lib.hid (HO5.out.keep3 hK6 HLt.out); have HB6 : Hid (B2 ≤ w6.heap.size) := Nat.le_trans HB5.out hK6.size; clear hM6 hK6)
        go_loopw [114] (fun i wr => ∃ (k : Nat) (zs : List Int), k ≤ xs.length ∧ zs.length = xs.length ∧ i = .int .i64 k ∧ Own .u8 5 wr B2 (.slice oa xs.length oc) zs ∧ Mine wo.heap.size b r m q1 wo wr ∧ B2 ≤ wr.heap.size) (fun i _ => xs.length - (intOf i).toNat)
        case atStart => exact ⟨0, xs, Nat.zero_le _, rfl, rfl, HO6.out, HM6.out, HB6.out⟩
        case round =>
          obtain ⟨k, zs, hk, hzl, rfl, ho, hM, hB2x⟩ := hrel
          have HZ := Lib.hid hzl
          have HMx := Lib.hid hM
          have HBx2 := Lib.hid hB2x
          clear hzl hM hB2x
          by_cases hlt : k < xs.length
          · obtain ⟨g2, rfl, hg2⟩ := ho.shape (by rw [HZ.out]; omega)
            obtain ⟨hcell, hfr⟩ := ho.at k (by rw [HZ.out]; exact hlt)
            go_wp2_with fail
            go_roundw
            case rel => exact ⟨k + 1, zs.set k _, by omega, by rw [List.length_set]; exact HZ.out, by go_num, ho.set k _, HMx.out.set g2 k _ hg2 HLt.out HLo.out, by simpa [World.setCell] using HBx2.out⟩
            case measure => simp [intOf]; omega
          · obtain rfl : k = xs.length := by omega
            have hi1 : ¬ ((xs.length : Int) < (xs.length : Int)) := by omega
            clear ho hlt
            have HRm := Lib.hid (fun W (hW : Mine wo.heap.size b r m q1 wo W) => read_mine hW ((xs.length : Int) / 2))
            have hbr := bk_read HBk1.out HOk1.out ((xs.length : Int) / 2)
            have hok2 := read_ok HOk1.out ((xs.length : Int) / 2)
            obtain ⟨q2, hq2⟩ : ∃ q2, (readE q1 ((xs.length : Int) / 2)).1 = q2 := ⟨_, rfl⟩
            obtain ⟨ys, hys⟩ : ∃ ys, (readE q1 ((xs.length : Int) / 2)).2 = ys := ⟨_, rfl⟩
            rw [hq2] at hok2
            rw [hq2, hys] at HRm hbr
            rw [HR1.out, HP1.out] at hbr
            obtain ⟨hbk2, hp2, hta2, _, hyl, hc2⟩ := hbr
            have hyl2 : ys.length = xs.length / 2 := by omega
            rw [hyl2] at hp2 hta2 hc2
            have hrd2 := bk_all hbk2 hok2 (by omega) (fun i hi => by rw [hc2 i (by omega)]; exact HC1.out _ (.inl ⟨by omega, by omega⟩) (by omega))
            have hbr3 := bk_read hbk2 hok2 4096
            have HRm3 := Lib.hid (fun W (hW : Mine wo.heap.size b r m q2 wo W) => read_mine hW 4096)
            obtain ⟨q3, hq3⟩ : ∃ q3, (readE q2 4096).1 = q3 := ⟨_, rfl⟩
            obtain ⟨us, hus⟩ : ∃ us, (readE q2 4096).2 = us := ⟨_, rfl⟩
            rw [hq3, hus] at HRm3 hbr3
            obtain ⟨_, _, hta3, _, hul, _⟩ := hbr3
            have hul2 : us.length = xs.length - xs.length / 2 := by omega
            have hyx : ys = xs.take (xs.length / 2) := by simpa using hta2
            have hall : ys ++ us = xs := by
              rw [hyx]
              have := hta3
              rw [hp2, hul2, Nat.zero_add, show xs.length / 2 + (xs.length - xs.length / 2) = xs.length by omega, List.take_length] at this
              exact this
            have HAll := Lib.hid hall
            have HYl := Lib.hid hyl2
            have HUl := Lib.hid hul2
            clear hbk2 hp2 hta2 hyl hc2 hrd2 hok2 hq2 hys hq3 hus hta3 hul hyx hall hyl2 hul2
            go_wp2_with (go_at_call 11; refine (HRm.out _ HMx.out).mono ?_; rintro e w7 ⟨v7, rfl, hG7, hM7, hK7⟩; have HM7 := Lib.hid hM7; have HG7 := Lib.hid (hG7.mono HBx2.out); obtain ⟨a7, c7, rfl⟩ := hG7.shape; have HB7 : Hid (B2 ≤ w7.heap.size) := Nat.le_trans HBx2.out hK7.size; have kc7 := hG7.rd.conv Try.underlying22 Try.underlying5 Try.underlying9; clear hG7 hM7 hK7)
            go_loopw [133] (fun i wx => ∃ (k : Nat) (zs : List Int), k ≤ ys.length ∧ zs.length = ys.length ∧ i = .int .i64 k ∧ Given wx B2 (.slice a7 ys.length c7) zs ∧ Mine wo.heap.size b r m q2 wo wx ∧ B2 ≤ wx.heap.size) (fun i _ => ys.length - (intOf i).toNat)
            case atStart => exact ⟨0, ys, Nat.zero_le _, rfl, rfl, HG7.out, HM7.out, HB7.out⟩
            case round =>
              obtain ⟨k, zs, hk, hzl, rfl, ho, hM, hB2x⟩ := hrel
              have HZ3 := Lib.hid hzl
              have HMx3 := Lib.hid hM
              have HBx3 := Lib.hid hB2x
              clear hzl hM hB2x
              have hyc : ys.length ≤ 4096 := by have := HYl.out; omega
              by_cases hlt : k < ys.length
              · obtain ⟨g3, he3, hg3, hcell, hfr, hset⟩ := ho.at k (by rw [HZ3.out]; exact hlt)
                simp only [Value.slice.injEq] at he3
                obtain ⟨rfl, _, hc7⟩ := he3
                have HSet := Lib.hid hset
                clear hset hc7
                go_wp2_with fail
                go_roundw
                case rel => exact ⟨k + 1, zs.set k _, by omega, by rw [List.length_set]; exact HZ3.out, by go_num, HSet.out _, HMx3.out.set g3 k _ hg3 HLt.out HLo.out, by simpa [World.setCell] using HBx3.out⟩
                case measure => simp [intOf]; omega
              · obtain rfl : k = ys.length := by omega
                have hi1 : ¬ ((ys.length : Int) < (ys.length : Int)) := by omega
                have hsa : strOfNums ys ++ strOfNums us = strOfNums xs := by rw [str_app, HAll.out]
                have hns : ¬ 9223372036854775807 < (strOfNums ys).size + (strOfNums us).size := by
                  rw [str_size, str_size]
                  have := HYl.out
                  have := HUl.out
                  omega
                clear ho hlt
                go_wp2_with (first
                  | (go_at_call 11; refine (HRm3.out _ HMx3.out).mono ?_; rintro e w8 ⟨v8, rfl, hG8, hM8, hK8⟩; have HM8 := Lib.hid hM8; have kc8 := hG8.rd.conv Try.underlying22 Try.underlying5 Try.underlying9; obtain ⟨a8, c8, rfl⟩ := hG8.shape; clear hG8 hM8 hK8)
                  | (go_at_call 9; refine (alive_any _).mono ?_; rintro e w9 ⟨rfl, hb9⟩))
                all_goals go_ret
                all_goals exact ⟨rfl, (HB.out.trans (HM8.out.2.2.2.mono HB.out.size)).trans (hb9.mono (Nat.le_trans HB.out.size HM8.out.2.2.2.size))⟩
end Go.Proofs.Ytgckidgkimgpeaa
