/- The law Back. -/
import Derived.Test.YtgckidgkimgpeaaRmO
import Derived.Test.YtgckidgkimgpeaaRmP
import Derived.Test.YtgckidgkimgpeaaBe
import Derived.Deep.DeepCutAuto
set_option linter.unusedSimpArgs false
set_option linter.unusedVariables false
namespace Go.Proofs.Ytgckidgkimgpeaa
open Go.RowKit

theorem Rd.firsts {k : IntKind} {w : World} {a : Option Addr} {n c : Nat} {xs : List Int} (h : Rd k w (.slice a n c) xs) (m : Nat) (hm : m ≤ xs.length) : Rd k w (.slice a m c) (xs.take m) := by
  have hl : (xs.take m).length = m := by rw [List.length_take]; omega
  rcases h with ⟨rfl, a', c', e, hc, hn⟩ | ⟨h0, b, o, c', e, h2, h3, h4, h5⟩
  · simp at hm; subst hm
    simp only [Value.slice.injEq] at e
    obtain ⟨rfl, rfl, rfl⟩ := e
    exact .inl ⟨by simp, _, _, rfl, hc, hn⟩
  · simp only [Value.slice.injEq] at e
    obtain ⟨rfl, rfl, rfl⟩ := e
    by_cases hm0 : m = 0
    · subst hm0
      exact .inl ⟨by simp, _, _, rfl, h3, fun h => by cases h⟩
    · refine .inr ⟨fun h => hm0 (by rw [← hl, h]; rfl), b, o, c, by rw [hl], by rw [hl]; omega, h3, h4, fun i hi => ?_⟩
      rw [hl] at hi
      rw [h5 i (by omega), getD_take _ _ _ _ hi]
theorem Rd.cap {k : IntKind} {w : World} {a : Option Addr} {n c : Nat} {xs : List Int} (h : Rd k w (.slice a n c) xs) : n ≤ c ∧ n = xs.length := by
  rcases h with ⟨rfl, a', c', e, hc, hn⟩ | ⟨h0, b, o, c', e, h2, h3, h4, h5⟩
  · simp only [Value.slice.injEq] at e
    obtain ⟨rfl, rfl, rfl⟩ := e
    exact ⟨Nat.zero_le _, rfl⟩
  · simp only [Value.slice.injEq] at e
    obtain ⟨rfl, rfl, rfl⟩ := e
    exact ⟨h2, rfl⟩
theorem Rd.cells8 {w : World} {b o c : Nat} {n : Nat} {xs : List Int} (h : Rd .u8 w (.slice (some ⟨b, o, none⟩) n c) xs) (i : Nat) (hi : i < xs.length) : w.cell? ⟨b, o + i, none⟩ = some (.int .u8 (xs.getD i 0)) := by
  rcases h with ⟨rfl, _⟩ | ⟨h0, b', o', c', e, h2, h3, h4, h5⟩
  · simp at hi
  · simp only [Value.slice.injEq, Option.some.injEq, Addr.mk.injEq, and_true] at e
    obtain ⟨⟨rfl, rfl⟩, _⟩ := e
    exact h5 i hi

/-- a stream of the call's own stands when a row apart from it grows -/
theorem Mine.grown {B b r m B2 : Nat} {q : St} {w0 w w' : World} {row : Option Nat} (h : Mine B b r m q w0 w) (hg : w.grownBy w' row) (hr : ∀ j, row = some j → B2 ≤ j) (hl : b < B2 ∧ r < B2 ∧ m < B2) (hB : B ≤ B2) : Mine B b r m q w0 w' := by
  have hn : ∀ x, x < B2 → some x ≠ row := fun x hx e => by have := hr x e.symm; omega
  refine ⟨h.1, ⟨Cs.grown h.2.1.fields hg (hn b hl.1), h.2.1.row.grown hg (hn r hl.2.1), h.2.1.came.grown hg (hn m hl.2.2), h.2.1.ne⟩, h.2.2.1, h.2.2.2.grown hg h.low (fun j hj => by have := hr j hj; omega)⟩
theorem Own.keep3 {B2 b r m : Nat} {w w' : World} {v : Value} {ys : List Int} {e : TypeId} (h : Own .u8 e w B2 v ys) (hk : Keep [b, r, m] w w') (hl : b < B2 ∧ r < B2 ∧ m < B2) : Own .u8 e w' B2 v ys := by
  obtain ⟨h1, h2⟩ := h
  refine ⟨h1, ?_⟩
  rcases h2 with h2 | ⟨g, cap, cur, rfl, hb, hg, h3⟩
  · exact .inl h2
  · refine .inr ⟨g, cap, cur, rfl, hb, ?_, h3⟩
    rw [hk.block g (Array.getElem?_eq_some_iff.1 hg).1 (by simp; omega)]; exact hg
theorem Own.form {B2 : Nat} {w : World} {v : Value} {ys : List Int} {e : TypeId} (h : Own .u8 e w B2 v ys) (n : Nat) (hn : ys.length = n) : ∃ a c, v = .slice a n c := by
  obtain ⟨a, c, rfl⟩ := h.len
  exact ⟨a, c, by rw [hn]⟩
theorem take_p_len {xs : List Int} {q : St} (h : q.p ≤ xs.length) : (xs.take q.p).length = q.p := by rw [List.length_take]; omega

set_option maxRecDepth 100000 in
set_option maxHeartbeats 6400000 in
theorem back_some (ta pa ra : Option Addr) (tc pc rc : Nat) (txt : List Int) (pcs : List (Int × Int)) (rds : List Int) (w : World) (hT : Rd .u8 w (.slice ta txt.length tc) txt) (hP : RdPc w (.slice pa pcs.length pc) pcs) (hR : Rd .u8 w (.slice ra rds.length rc) rds)
    (hbt : Bts txt) (hbr : Bts rds) (hok : ∀ y ∈ pcs, PcOk y) :
    Calls Try.prog 3 #[.slice ta txt.length tc, .slice pa pcs.length pc, .slice ra rds.length rc] w (Yes w) := by
  obtain ⟨xs, hxs⟩ : ∃ xs, xs = txt.take 4096 := ⟨_, rfl⟩
  have hxl : xs.length = min 4096 txt.length := by rw [hxs, List.length_take]
  have hxl2 : xs.length ≤ 4096 := by omega
  have htl := hT.len
  have htc := hT.cap.1
  unfold maxLen at htl
  have HT : Hid (Rd .u8 w (.slice ta xs.length tc) xs) := by
    have := hT.firsts (min 4096 txt.length) (by omega)
    rw [← hxl, hxl, ← List.take_take, List.take_length, ← hxs, ← hxl] at this
    exact this
  have HBx : Hid (Bts xs) := by rw [hxs]; exact fun x hx => hbt x (List.mem_of_mem_take hx)
  have HXL := Lib.hid hxl
  have HP := Lib.hid hP
  have HR := Lib.hid hR
  have HBr := Lib.hid hbr
  have HOk := Lib.hid hok
  clear hT hP hR hbt hbr hok hxs hxl
  go_enter Try.func3, Try.ntmps3
  go_upto_region 4 with (first
    | (go_at_call 8; refine (new_yes 4096 _ (by decide)).mono ?_; rintro e w1 ⟨b, r, m, rfl, hM1⟩; have HM1 : Hid (Mine w.heap.size b r m (fresh 4096) w w1) := hM1; clear hM1)
    | (go_at_call 9; refine (alive_any _).mono ?_; rintro e w2 ⟨rfl, hb2⟩; have HM2 := Lib.hid (HM1.out.below hb2); clear hb2))
  go_cut [0] (fun v wc => v = .slice ta xs.length tc ∧ wc = w2)
  case first =>
    have j1 : (txt.length : Int) ≤ (tc : Int) := by omega
    by_cases j2 : 4096 < txt.length
    · have j3 : (4096 : Int) ≤ (tc : Int) := by omega
      go_wp2_with fail
      all_goals
        go_meet
        refine ⟨?_, rfl⟩
        have hh := HXL.out
        congr 1
        omega
    · go_wp2_with fail
      all_goals
        go_meet
        refine ⟨?_, rfl⟩
        have hh := HXL.out
        congr 1
        omega
  case rest =>
    obtain ⟨rfl, hcw⟩ := hcut
    obtain rfl := hcw.symm
    have hlt2 := HM2.out.2.1.lt
    have HLt := Lib.hid hlt2
    obtain ⟨B2, hB2⟩ : ∃ B2, B2 = w2.heap.size := ⟨_, rfl⟩
    rw [← hB2] at HLt
    have HB2 : Hid (B2 ≤ w2.heap.size) := Nat.le_of_eq hB2
    clear hlt2 hB2
    have hxc : xs.length ≤ tc := by have := HXL.out; omega
    clear htl htc
    go_wp2_with fail
    go_loopw [9, 35] (fun vg i wr => ∃ (k : Nat) (q : St), i = .int .i64 k ∧ k ≤ pcs.length ∧ Bk xs q ∧ Own .u8 5 wr B2 vg (xs.take q.p) ∧ Mine w.heap.size b r m q w wr ∧ B2 ≤ wr.heap.size) (fun _ i _ => pcs.length - (intOf i).toNat)
    case atStart => exact ⟨0, _, rfl, Nat.zero_le _, bk_fresh xs, Own.nil _ _ _ _, HM2.out, HB2.out⟩
    case round =>
      obtain ⟨k, q, rfl, hk, hbk, hown, hM, hB⟩ := hrel
      have HM := Lib.hid hM
      have HBk := Lib.hid hbk
      have HOw := Lib.hid hown
      have HB := Lib.hid hB
      clear hM hbk hown hB
      by_cases hlt : k < pcs.length
      · have hi1 : (k : Int) < (pcs.length : Int) := by omega
        have hi2 : (0 : Int) ≤ (k : Int) := by omega
        have hpl : pcs.length ≤ 9223372036854775807 := by
          obtain ⟨_, _, e, h1, h2⟩ := RdC.isSlice HP.out
          unfold maxLen at h2; omega
        have hw1 : IntKind.i64.wrap ((k : Int) + 1) = (k : Int) + 1 := wraps_i64' _ (by omega) (by omega)
        obtain ⟨pb, po, hpa, hpb⟩ : ∃ pb po, pa = some ⟨pb, po, none⟩ ∧ pb < w.heap.size := by
          rcases RdC.form HP.out with ⟨h0, _⟩ | ⟨pb, po, c', e, h1, _⟩
          · omega
          · simp only [Value.slice.injEq] at e
            exact ⟨pb, po, e.1, h1⟩
        subst hpa
        obtain ⟨a0, a1⟩ := RdPc.at HP.out hpb k hlt wr HM.out.2.2.2
        have hcc := HOk.out pcs[k] (List.getElem_mem hlt)
        generalize pcs[k] = cc at a0 a1 hcc
        obtain ⟨f, mm⟩ := cc
        obtain ⟨⟨hf0, hf1⟩, hm0, hm1⟩ := hcc
        simp only at a0 a1 hf0 hf1 hm0 hm1
        have HM6 := Lib.hid (HM.out.below (below1 wr (.cells #[.int .u8 f, .int .u8 mm] 30)))
        have HO6 := Lib.hid (HOw.out.below (below1 wr (.cells #[.int .u8 f, .int .u8 mm] 30)))
        have HB6 : Hid (B2 ≤ (wr.alloc (.cells #[.int .u8 f, .int .u8 mm] 30)).heap.size) := Nat.le_trans HB.out (below1 wr _).size
        have CB : Hid (Cs (wr.alloc (.cells #[.int .u8 f, .int .u8 mm] 30)) wr.heap.size [.int .u8 f, .int .u8 mm]) := Cs.made wr _ _
        clear hpb
        go_upto_region 9 with fail
        generalize wr.alloc (.cells #[.int .u8 f, .int .u8 mm] 30) = w6 at HM6 HO6 HB6 CB ⊢
        have c0 := CB.out.get 0 _ rfl
        have c1 := CB.out.get 1 _ rfl
        clear a0 a1
        go_upto_if 42 with fail
        go_cut [] (fun wc => ∃ q1, Bk xs q1 ∧ q1.p = q.p ∧ Mine w.heap.size b r m q1 w wc ∧ Keep [b, r, m] w6 wc)
        case first =>
          by_cases hx0 : xs.length = 0
          · have j1 : decide ((xs.length : Int) > 0) = false := decide_eq_false (by omega)
            have j2 : ¬ 0 < xs.length := by omega
            clear hx0
            go_wp2_with fail
            go_meet
            exact ⟨q, HBk.out, rfl, HM6.out, Keep.refl _ _⟩
          · obtain ⟨tb, toff, hta⟩ : ∃ tb toff, ta = some ⟨tb, toff, none⟩ := by
              rcases HT.out with ⟨h0, _⟩ | ⟨_, tb, toff, c', e, _⟩
              · exact absurd (by rw [h0]; rfl) hx0
              · simp only [Value.slice.injEq] at e
                exact ⟨tb, toff, e.1⟩
            subst hta
            have htb : tb < w.heap.size := HT.out.blt (fun h => hx0 (by rw [h]; rfl)) tb rfl
            have hAp : xs ≠ [] → tb ≠ b ∧ tb ≠ r ∧ tb ≠ m := fun _ => by have := HM6.out.2.2.1; exact ⟨by omega, by omega, by omega⟩
            have HAp := Lib.hid hAp
            have hxp : 0 < (xs.length : Int) := by omega
            have hxp' : 0 < xs.length := by omega
            obtain ⟨fr, hfr⟩ : ∃ fr : Nat, f % (xs.length : Int) = (fr : Int) := ⟨(f % (xs.length : Int)).toNat, by have := Int.emod_nonneg f (show (xs.length : Int) ≠ 0 by omega); omega⟩
            have hfl : fr < xs.length := by have := Int.emod_lt_of_pos f hxp; omega
            have HFr := Lib.hid hfr
            have hft : f.tmod (xs.length : Int) = f % (xs.length : Int) := Int.tmod_eq_emod_of_nonneg hf0
            have HFt := Lib.hid hft
            have hnz : ¬ (xs.length : Int) = 0 := by omega
            obtain ⟨mn, hmn⟩ : ∃ mn : Nat, mm = (mn : Int) := ⟨mm.toNat, by omega⟩
            subst hmn
            obtain ⟨tt, htt⟩ : ∃ tt, tt = min (fr + mn) xs.length := ⟨_, rfl⟩
            have HTt := Lib.hid htt
            have k1 : fr ≤ tt := by omega
            have k2 : tt ≤ xs.length := by omega
            clear htb hAp hx0 hfr htt hft
            go_upto_region 10 with fail
            go_cut [12] (fun v wc => v = .int .i64 (fr : Int) ∧ wc = w6)
            case first =>
              go_wp2_with fail
              all_goals
                go_meet
                refine ⟨?_, rfl⟩
                have h1 := HFr.out
                have h2 := HFt.out
                congr 1 <;> first | exact h1 | (rw [h2]; exact h1)
            case rest =>
              obtain ⟨rfl, hcw⟩ := hcut
              obtain rfl := hcw.symm
              have hwt : IntKind.i64.wrap ((fr : Int) + (mn : Int)) = (fr : Int) + (mn : Int) := wraps_i64' _ (by omega) (by omega)
              go_upto_region 11 with fail
              go_cut [13] (fun v wc => v = .int .i64 (tt : Int) ∧ wc = w6)
              case first =>
                go_wp2_with fail
                all_goals
                  go_meet
                  refine ⟨?_, rfl⟩
                  have h1 := HTt.out
                  congr 1
                  omega
              case rest =>
                obtain ⟨rfl, hcw⟩ := hcut
                obtain rfl := hcw.symm
                have l1 : (0 : Int) ≤ (fr : Int) := by omega
                have l2 : (fr : Int) ≤ (tt : Int) := by omega
                have l3 : (tt : Int) ≤ (tc : Int) := by omega
                have l4 : ¬ tc = fr := by omega
                have hcutR := (HT.out.below HM6.out.2.2.2).cut fr (tt - fr) (by omega) (some ⟨tb, toff + fr, none⟩) (fun _ => rfl) (by simp)
                have hap2 : ((xs.drop fr).take (tt - fr)) ≠ [] → ∀ j, (Value.slice (some ⟨tb, toff + fr, none⟩) (tt - fr) (tc - fr)).ownBlock = some j → j ≠ b ∧ j ≠ r ∧ j ≠ m := fun _ j hj => by
                  simp only [Value.ownBlock, Option.some.injEq] at hj; subst hj
                  exact HAp.out (fun h => by rw [h] at hxp'; simp at hxp')
                by_cases hte : tt = xs.length
                · have hq1 : ((tt : Int) == (xs.length : Int)) = true := by rw [beq_iff_eq]; omega
                  have hq2 : (tt == xs.length) = true := by simpa using hte
                  have hbd := bk_data HBk.out HM6.out.1 hxl2 fr (tt - fr) (by omega) true (fun _ => by omega)
                  have hdm := data_mine HM6.out (fr : Int) _ _ true hcutR hap2
                  rw [hbd.1] at hdm
                  have HDm := Lib.hid hdm
                  have HBd := Lib.hid hbd.2
                  clear hte hbd hdm hcutR hap2
                  go_wp2_with (go_at_call 10; refine HDm.out.mono ?_; rintro e w7 ⟨rfl, hM7, hK7⟩)
                  go_meet
                  exact ⟨_, HBd.out.1, HBd.out.2.1, hM7, hK7⟩
                · have hq1 : ((tt : Int) == (xs.length : Int)) = false := by rw [beq_eq_false_iff_ne]; omega
                  have hq2 : (tt == xs.length) = false := by rw [beq_eq_false_iff_ne]; exact hte
                  have hbd := bk_data HBk.out HM6.out.1 hxl2 fr (tt - fr) (by omega) false (fun h => by cases h)
                  have hdm := data_mine HM6.out (fr : Int) _ _ false hcutR hap2
                  rw [hbd.1] at hdm
                  have HDm := Lib.hid hdm
                  have HBd := Lib.hid hbd.2
                  clear hte hbd hdm hcutR hap2
                  go_wp2_with (go_at_call 10; refine HDm.out.mono ?_; rintro e w7 ⟨rfl, hM7, hK7⟩)
                  go_meet
                  exact ⟨_, HBd.out.1, HBd.out.2.1, hM7, hK7⟩
        case rest =>
          obtain ⟨q1, hbk1, hp1, hM7, hK7⟩ := hcut
          have HBk1 := Lib.hid hbk1
          have HM7 := Lib.hid hM7
          have HO7 : Hid (Own .u8 5 wc B2 u9 (xs.take q1.p)) := by rw [hp1]; exact HO6.out.keep3 hK7 HLt.out
          have HB7 : Hid (B2 ≤ wc.heap.size) := Nat.le_trans HB6.out hK7.size
          clear hbk1 hp1 hM7 hK7
          go_upto_if 72 with fail
          go_cut [9] (fun v wc' => ∃ q2, Bk xs q2 ∧ Own .u8 5 wc' B2 v (xs.take q2.p) ∧ Mine w.heap.size b r m q2 w wc' ∧ B2 ≤ wc'.heap.size)
          case first =>
            by_cases hkr : k < rds.length
            · have j1 : (k : Int) < (rds.length : Int) := by omega
              obtain ⟨rb, ro, hra⟩ : ∃ rb ro, ra = some ⟨rb, ro, none⟩ := by
                rcases HR.out with ⟨h0, _⟩ | ⟨_, rb, ro, c', e, _⟩
                · rw [h0] at hkr; simp at hkr
                · simp only [Value.slice.injEq] at e
                  exact ⟨rb, ro, e.1⟩
              subst hra
              have hc := (HR.out.below HM7.out.2.2.2).cells8 k hkr
              have hy := getD_bts HBr.out k
              obtain ⟨y, hyy⟩ : ∃ y, y = rds.getD k 0 := ⟨_, rfl⟩
              rw [← hyy] at hc hy
              obtain ⟨hy0, hy1⟩ := hy
              have hrm := read_mine HM7.out y
              have hbr := bk_read HBk1.out HM7.out.1 y
              obtain ⟨q2, hq2⟩ : ∃ q2, (readE q1 y).1 = q2 := ⟨_, rfl⟩
              obtain ⟨ys, hys⟩ : ∃ ys, (readE q1 y).2 = ys := ⟨_, rfl⟩
              rw [hq2, hys] at hrm hbr
              have HRm := Lib.hid hrm
              have HBr2 := Lib.hid hbr
              clear hyy hrm hbr hq2 hys hkr
              have hpq : q1.p ≤ 4096 := Nat.le_trans (HBk1.out.left HM7.out.1) hxl2
              have hl9 := take_p_len (HBk1.out.left HM7.out.1)
              have HL9 := Lib.hid hl9
              clear hl9
              go_wp2_with (first
                | (go_at_call 11; refine HRm.out.mono ?_; rintro e w8 ⟨v8, rfl, hG8, hM8, hK8⟩
                   have HG8 := Lib.hid hG8
                   have HM8 := Lib.hid hM8
                   have HO8 := Lib.hid (HO7.out.keep3 hK8 HLt.out)
                   have HB8 : Hid (B2 ≤ w8.heap.size) := Nat.le_trans HB7.out hK8.size
                   have hyl := hG8.1
                   clear hG8 hM8 hK8)
                | (at_builtin; refine wpList_append_rd _ rfl _ _ _ rfl elemU8 Try.underlying22 B2 u9 (xs.take q1.p) rfl HO8.out v8 ys rfl HG8.out.rd (by rw [HL9.out]; omega) (by rw [HL9.out]; unfold maxLen; omega) HB8.out ?_; intro v9 w9 o9 g9
                   have HO9 := Lib.hid o9
                   have HM9 := Lib.hid (HM8.out.grown g9 (fun j hj => HO8.out.blk j hj) HLt.out (by have := HM8.out.2.2.1; have := HLt.out; have := HM2.out.2.2.2.size; omega))
                   have HB9 : Hid (B2 ≤ w9.heap.size) := Nat.le_trans HB8.out g9.size
                   clear o9 g9))
              go_meet
              refine ⟨q2, HBr2.out.1, ?_, HM9.out, HB9.out⟩
              rw [HBr2.out.2.1, ← HBr2.out.2.2.1]
              exact HO9.out
            · have j1 : ¬ (k : Int) < (rds.length : Int) := by omega
              clear hkr
              go_wp2_with fail
              go_meet
              exact ⟨q1, HBk1.out, HO7.out, HM7.out, HB7.out⟩
          case rest =>
            obtain ⟨q2, hbk2, ho8, hM8, hB8⟩ := hcut
            have hpl2 := hbk2.left hM8.1
            obtain ⟨ga, gc, hv⟩ := ho8.form q2.p (take_p_len hpl2)
            subst hv
            have HBk2 := Lib.hid hbk2
            have HO8 := Lib.hid ho8
            have HM8 := Lib.hid hM8
            have HB8 := Lib.hid hB8
            have HTx := Lib.hid ((HT.out.below hM8.2.2.2).firsts q2.p hpl2)
            have HBts : Hid (Bts (xs.take q2.p)) := fun x hx => HBx.out x (List.mem_of_mem_take hx)
            have j1 : (q2.p : Int) ≤ (xs.length : Int) := by omega
            have j2 : (q2.p : Int) ≤ (tc : Int) := by omega
            clear hbk2 ho8 hM8 hB8
            go_wp2_with (go_at_call 12; refine (same_yes _ _ _ _ HO8.out.rd HTx.out HBts.out).mono ?_; rintro e w9 ⟨rfl, h9⟩; obtain rfl := h9)
            exact ⟨⟨k + 1, q2, by go_num, hlt, HBk2.out, HO8.out, HM8.out, HB8.out⟩, by simp [intOf, hw1]; omega⟩
      · have hi1 : ¬ ((k : Int) < (pcs.length : Int)) := by omega
        have e0 : (xs.drop 0).take xs.length = xs := by simp
        have hbd : (dataE q 0 xs true).2 = 0 ∧ Bk xs (dataE q 0 xs true).1 ∧ (dataE q 0 xs true).1.p = q.p ∧ (true = true → (dataE q 0 xs true).1.e = (xs.length : Int)) ∧ ∀ i, (0 ≤ q.p + i ∧ q.p + i < 0 + xs.length) ∨ q.came.getD i false = true → i < 4096 → (dataE q 0 xs true).1.came.getD i false = true := by
          have := bk_data HBk.out HM.out.1 hxl2 0 xs.length (by omega) true (fun _ => by omega)
          rw [e0] at this
          exact this
        have hap : xs ≠ [] → ∀ j, (Value.slice ta xs.length tc).ownBlock = some j → j ≠ b ∧ j ≠ r ∧ j ≠ m := fun h0 j hj => by
          have h1 := HT.out.blt h0 j hj
          have h2 := HM.out.2.2.1
          exact ⟨by omega, by omega, by omega⟩
        have hdm := data_mine HM.out 0 _ _ true (HT.out.below HM.out.2.2.2) hap
        have hok1 := data_ok HM.out.1 0 xs true
        rw [hbd.1] at hdm
        obtain ⟨q1, hq1⟩ : ∃ q1, (dataE q 0 xs true).1 = q1 := ⟨_, rfl⟩
        rw [hq1] at hdm hbd hok1
        obtain ⟨_, hbk1, hp1, he1, hc1⟩ := hbd
        have hrdy := bk_all hbk1 hok1 hxl2 (fun i hi => hc1 i (.inl ⟨by omega, by omega⟩) (by omega))
        have hbr := bk_read hbk1 hok1 ((xs.length : Int) + 1)
        have hle1 := hbk1.left hok1
        rw [hrdy] at hbr
        obtain ⟨q2, hq2⟩ : ∃ q2, (readE q1 ((xs.length : Int) + 1)).1 = q2 := ⟨_, rfl⟩
        obtain ⟨ys, hys⟩ : ∃ ys, (readE q1 ((xs.length : Int) + 1)).2 = ys := ⟨_, rfl⟩
        have HRm := Lib.hid (fun W (hW : Mine w.heap.size b r m q1 w W) => read_mine hW ((xs.length : Int) + 1))
        rw [hq2, hys] at hbr HRm
        obtain ⟨hbk2, hp2, hta2, he2, hyl, _⟩ := hbr
        have hyl2 : ys.length = xs.length - q1.p := by omega
        have hp3 : q2.p = xs.length := by omega
        have hov := bk_over hbk2 (he2.trans (he1 rfl)) hp3
        have hall : xs.take q1.p ++ ys = xs := by rw [hta2, hyl2, show q1.p + (xs.length - q1.p) = xs.length by omega, List.take_length]
        have HOv := Lib.hid hov
        have HAll := Lib.hid hall
        have HDm := Lib.hid hdm
        have HP1 := Lib.hid hp1
        have HYl : Hid (ys.length ≤ 4096) := by show _ ≤ _; omega
        have HL1 : Hid ((xs.take q1.p).length ≤ 4096) := by show _ ≤ _; rw [List.length_take]; omega
        have hwl : IntKind.i64.wrap ((xs.length : Int) + 1) = (xs.length : Int) + 1 := wraps_i64' _ (by omega) (by omega)
        clear hdm hok1 hq1 hbk1 hp1 he1 hc1 hrdy hle1 hq2 hys hbk2 hp2 hta2 he2 hyl hyl2 hp3 hov hall hap e0 hlt
        go_wp2_with (first
          | (go_at_call 10; refine HDm.out.mono ?_; rintro e w7 ⟨rfl, hM7, hK7⟩
             have HM7 := Lib.hid hM7
             have HO7 : Hid (Own .u8 5 w7 B2 u9 (xs.take q1.p)) := by rw [HP1.out]; exact HOw.out.keep3 hK7 HLt.out
             have HB7 : Hid (B2 ≤ w7.heap.size) := Nat.le_trans HB.out hK7.size
             clear hM7 hK7)
          | (go_at_call 11; refine (HRm.out _ HM7.out).mono ?_; rintro e w8 ⟨v8, rfl, hG8, hM8, hK8⟩
             have HG8 := Lib.hid hG8
             have HM8 := Lib.hid hM8
             have HO8 := Lib.hid (HO7.out.keep3 hK8 HLt.out)
             have HB8 : Hid (B2 ≤ w8.heap.size) := Nat.le_trans HB7.out hK8.size
             clear hG8 hM8 hK8)
          | (at_builtin; refine wpList_append_rd _ rfl _ _ _ rfl elemU8 Try.underlying22 B2 u9 (xs.take q1.p) rfl HO8.out v8 ys rfl HG8.out.rd (by have := HYl.out; have := HL1.out; omega) (by have := HYl.out; have := HL1.out; unfold maxLen; omega) HB8.out ?_; intro v9 w9 o9 g9
             have o9' := o9
             rw [HAll.out] at o9'
             have HO9 := Lib.hid o9'
             have HM9 := Lib.hid (HM8.out.grown g9 (fun j hj => HO8.out.blk j hj) HLt.out (by have := HM8.out.2.2.1; have := HLt.out; have := HM2.out.2.2.2.size; omega))
             have HTx := Lib.hid (HT.out.below HM9.out.2.2.2)
             clear o9 o9' g9)
          | (go_at_call 12; refine (same_yes _ _ _ _ HO9.out.rd HTx.out HBx.out).mono ?_; rintro e w10 ⟨rfl, h9⟩; obtain rfl := h9)
          | (go_at_call 13; refine (over_any w9 HM9.out.2.1).mono ?_; rw [HOv.out]; rintro e w11 ⟨rfl, n11, rfl⟩))
        go_ret
        exact ⟨rfl, below_drewN HM9.out.2.2.2 _⟩
theorem back_walk (tv pv rv : Value) (txt : List Int) (pcs : List (Int × Int)) (rds : List Int) (w : World) (hT : Rd .u8 w tv txt) (hP : RdPc w pv pcs) (hR : Rd .u8 w rv rds) (hbt : Bts txt) (hbr : Bts rds) (hok : ∀ y ∈ pcs, PcOk y) :
    Calls Try.prog 3 #[tv, pv, rv] w (Yes w) := by
  obtain ⟨ta, tc, rfl⟩ := hT.isSlice
  obtain ⟨ra, rc, rfl⟩ := hR.isSlice
  obtain ⟨pa, pc, rfl, _⟩ := RdC.isSlice hP
  exact back_some ta pa ra tc pc rc txt pcs rds w hT hP hR hbt hbr hok
end Go.Proofs.Ytgckidgkimgpeaa
