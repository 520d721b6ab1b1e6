/- Walks of layer 13: Insert. -/
import Derived.Test.YtfacpncbcplocaaDoorQtG
set_option maxRecDepth 100000
set_option linter.unusedSimpArgs false
set_option linter.unusedVariables false
set_option linter.unnecessarySimpa false
namespace Go.Proofs.YtfacpncbcplocaaDoor
open Go.RowKit

theorem insert_long {b : Nat} {sl : Value} {q : TQ} (f : Fd) (w : World) (h : Tbl b sl q w) (hl : 64 < f.n.size ∨ 512 < f.v.size) :
    Calls Tryd.prog 18 #[.pointer (some ⟨b, 0, none⟩), .agg #[.string f.n, .string f.v]] w fun e w' => e = .returned (.tuple #[.int .i64 0, .int .i64 13]) ∧ Below w.heap.size w w' := by
  obtain ⟨fn, fv⟩ := f
  simp only at hl ⊢
  have hb1 := below1 w (.cells #[.string fn, .string fv] 23)
  have HG := Lib.hid (given_any _ (h.below hb1))
  have HB := Lib.hid hb1
  clear h hb1
  by_cases h1 : 64 < fn.size
  · have h1' : (64 : Int) < (fn.size : Int) := by omega
    clear hl
    go_enter Tryd.func18, Tryd.ntmps18
    go_wp2_with (go_at_call 34; refine HG.out.mono ?_; rintro e w2 ⟨rfl, h⟩; obtain rfl := h)
    go_ret2
    exact ⟨rfl, HB.out⟩
  · have h2 : 512 < fv.size := by omega
    have h1' : ¬ (64 : Int) < (fn.size : Int) := by omega
    have h2' : (512 : Int) < (fv.size : Int) := by omega
    have h1n : decide (64 < fn.size) = false := decide_eq_false h1
    have h1i : decide ((64 : Int) < (fn.size : Int)) = false := decide_eq_false h1'
    clear hl
    go_enter Tryd.func18, Tryd.ntmps18
    go_wp2_with (go_at_call 34; refine HG.out.mono ?_; rintro e w2 ⟨rfl, h⟩; obtain rfl := h)
    go_ret2
    exact ⟨rfl, HB.out⟩
theorem insert_wide {b : Nat} {sl : Value} {q : TQ} (f : Fd) (w : World) (h : Tbl b sl q w) (hl : ¬ (64 < f.n.size ∨ 512 < f.v.size)) (hr : q.cap < roomF f) :
    Calls Tryd.prog 18 #[.pointer (some ⟨b, 0, none⟩), .agg #[.string f.n, .string f.v]] w fun e w' => e = .returned (.tuple #[.int .i64 0, .int .i64 6]) ∧ Below w.heap.size w w' := by
  have HRM := Lib.hid (fun V => room_any f V ⟨by omega, by omega⟩)
  obtain ⟨fn, fv⟩ := f
  simp only at hl HRM ⊢
  have hb1 := below1 w (.cells #[.string fn, .string fv] 23)
  have hT := h.below hb1
  have HT := Lib.hid hT
  have HG := Lib.hid (given_any _ hT)
  have HB := Lib.hid hb1
  have hblt := h.lt
  have h1' : ¬ (64 : Int) < (fn.size : Int) := by omega
  have h2' : ¬ (512 : Int) < (fv.size : Int) := by omega
  have h1n : decide (64 < fn.size) = false := decide_eq_false (by omega)
  have h1i : decide ((64 : Int) < (fn.size : Int)) = false := decide_eq_false h1'
  have h2n : decide (512 < fv.size) = false := decide_eq_false (by omega)
  have h2i : decide ((512 : Int) < (fv.size : Int)) = false := decide_eq_false h2'
  obtain ⟨rf, hrf⟩ : ∃ rf, rf = roomF ⟨fn, fv⟩ := ⟨_, rfl⟩
  rw [← hrf] at HRM hr
  have hri : (q.cap : Int) < (rf : Int) := by omega
  clear h hb1 hT hl hrf h1' h2' hr
  go_enter Tryd.func18, Tryd.ntmps18
  go_wp2_with (first
    | (go_at_call 34; refine HG.out.mono ?_; rintro e w2 ⟨rfl, h⟩; obtain rfl := h)
    | (go_at_call 13; refine (HRM.out _).mono ?_; rintro e w2 ⟨rfl, b2⟩
       have B2 := Lib.hid b2
       have c2 := (HT.out.below b2).facts.2.2.1
       clear b2))
  go_ret2
  exact ⟨rfl, HB.out.trans (B2.out.mono (by simp))⟩

set_option maxHeartbeats 6400000 in
theorem insert_fits {b : Nat} {sl : Value} {q : TQ} (f : Fd) (w : World) (h : Tbl b sl q w) (ho : TOk q) (hc : countN q ≤ 4611686018427387000) (hl : ¬ (64 < f.n.size ∨ 512 < f.v.size)) (hr : ¬ q.cap < roomF f) :
    Calls Tryd.prog 18 #[.pointer (some ⟨b, 0, none⟩), .agg #[.string f.n, .string f.v]] w fun e w' => e = .returned (.tuple #[.int .i64 (countN q : Int), .int .i64 0]) ∧
      Did b sl { shrinkE (q.cap - roomF f) q with l := (shrinkE (q.cap - roomF f) q).l ++ [f] } w w' := by
  have HRM := Lib.hid (fun V => room_any f V ⟨by omega, by omega⟩)
  have HC1 := Lib.hid (fun V => clone_any f.n V (by omega))
  have HC2 := Lib.hid (fun V => clone_any f.v V (by omega))
  obtain ⟨fn, fv⟩ := f
  simp only at hl HRM HC1 HC2 ⊢
  have hb1 := below1 w (.cells #[.string fn, .string fv] 23)
  have hT := h.below hb1
  have HT := Lib.hid hT
  have HG := Lib.hid (given_any _ hT)
  have HB := Lib.hid hb1
  have HX : Hid (Cs (w.alloc (.cells #[.string fn, .string fv] 23)) w.heap.size [.string fn, .string fv]) := Cs.made w _ _
  have hblt := h.lt
  have HSLT := Lib.hid h.slt
  have h1n : decide (64 < fn.size) = false := decide_eq_false (by omega)
  have h1i : decide ((64 : Int) < (fn.size : Int)) = false := decide_eq_false (by omega)
  have h2n : decide (512 < fv.size) = false := decide_eq_false (by omega)
  have h2i : decide ((512 : Int) < (fv.size : Int)) = false := decide_eq_false (by omega)
  obtain ⟨rf, hrf⟩ : ∃ rf, rf = roomF ⟨fn, fv⟩ := ⟨_, rfl⟩
  rw [← hrf] at HRM hr ⊢
  have hri : ¬ (q.cap : Int) < (rf : Int) := by omega
  have hcap : q.cap ≤ 4096 := Nat.le_trans ho.cap ho.most
  have hrm : rooms q.l ≤ 4096 := Nat.le_trans ho.used hcap
  have hw1 : IntKind.i64.wrap ((q.cap : Int) - (rf : Int)) = ((q.cap - rf : Nat) : Int) := by rw [wraps_i64' _ (by omega) (by omega)]; omega
  have HSH := Lib.hid (fun V (hV : Tbl b sl q V) => shrink_any V (q.cap - rf) hV hrm (by omega))
  have HRF := Lib.hid hrf
  have HCN := Lib.hid hc
  have HRR := Lib.hid hr
  have HOK := Lib.hid ho
  obtain ⟨sr, hsr⟩ : ∃ sr, sr = q.cap - rf := ⟨_, rfl⟩
  rw [← hsr] at HSH hw1 ⊢
  have HSR := Lib.hid hsr
  clear h hb1 hT hl hrf hr hcap hrm hc ho hsr
  go_enter Tryd.func18, Tryd.ntmps18
  go_upto_region 9 with (first
    | (go_at_call 34; refine HG.out.mono ?_; rintro e w2 ⟨rfl, h⟩; obtain rfl := h)
    | (go_at_call 13; refine (HRM.out _).mono ?_; rintro e w2 ⟨rfl, b2⟩
       have B2 := Lib.hid b2
       have T2 := Lib.hid (HT.out.below b2)
       have X2 := Lib.hid (HX.out.below b2)
       have c2 := T2.out.facts.2.2.1
       clear b2)
    | (go_at_call 35; refine (HSH.out _ T2.out).mono ?_; rintro e w3 ⟨rfl, sl', t3, v3, k3⟩
       have T3 := Lib.hid t3
       have V3 := Lib.hid v3
       have K3 := Lib.hid k3
       clear t3 v3 k3 c2))
  have hKw : Keep (TS b sl) w w3 := (Keep.of_below (HB.out.trans (B2.out.mono (by simp)))).trans K3.out (fun i hi => .inl hi)
  have KW := Lib.hid hKw
  have hXn : w.heap.size ∉ TS b sl := fun hm => by
    rcases mem_TS.1 hm with h | h
    · omega
    · have := HSLT.out _ h; omega
  have X3 := Lib.hid (X2.out.keep K3.out hXn)
  have CNT := Lib.hid (shrink_count sr q)
  have FIT : Hid (rooms (shrinkE sr q).l ≤ sr) := goneN_fits sr q.l
  obtain ⟨q', hq'⟩ : ∃ q', q' = shrinkE sr q := ⟨_, rfl⟩
  rw [← hq'] at T3 CNT FIT
  have HQ := Lib.hid hq'
  clear hq' hKw hXn
  obtain ⟨most, cap, first, l⟩ := q'
  obtain ⟨sa, sc, hsl, hsc, hsm⟩ := T3.out.shape
  simp only at hsl hsc
  subst hsl
  have hl128 : l.length ≤ 128 := by
    have h1 := rooms_len l
    have h2 := FIT.out
    have h3 := HOK.out.cap
    have h4 := HOK.out.most
    have h5 := HSR.out
    simp only at h2
    omega
  obtain ⟨L, hL⟩ : ∃ L, L = l.length := ⟨_, rfl⟩
  have HROW : Hid (OwnF w3 (.slice sa L sc) l) := (by rw [hL]; exact T3.out.row : OwnF _ _ _)
  have HF3 : Hid (TbC b most cap (rooms l) first (.slice sa L sc) w3) := (by rw [hL]; exact T3.out.fields : TbC _ _ _ _ _ _ _)
  have HNE : Hid (∀ j, Value.ownBlock (.slice sa L sc) = some j → j ≠ b) := (by rw [hL]; exact T3.out.ne : ∀ j, Value.ownBlock (.slice sa L sc) = some j → j ≠ b)
  have V3' : Hid (Value.ownBlock (.slice sa L sc) = sl.ownBlock) := (by rw [hL]; exact V3.out : Value.ownBlock (.slice sa L sc) = sl.ownBlock)
  have HROW2 : Hid (w3.ownsRow 0 23 2 (.slice sa L sc) L (fdC l)) := (by rw [hL]; exact T3.out.row : w3.ownsRow 0 23 2 (.slice sa L sc) L (fdC l))
  rw [← hL] at hl128
  have HL := Lib.hid hL
  clear hL T3 V3 hsc hsm
  have f5 := HF3.out.facts.2.2.2.2.2
  have x0 := X3.out.get 0 _ rfl
  have x1 := X3.out.get 1 _ rfl
  have y5 : w3.drew.cell? ⟨b, 5, none⟩ = some (.slice sa L sc) := f5
  have y0 : w3.drew.cell? ⟨w.heap.size, 0, none⟩ = some (.string fn) := x0
  have y1 : w3.drew.cell? ⟨w.heap.size, 1, none⟩ = some (.string fv) := x1
  clear f5 x0 x1 h1n h1i h2n h2i
  have tok1 : True := trivial
  go_region_law (first
    | (refine step_append_at rfl (.tmp 40) (.tmp 48) 38 rfl elemFd Tryd.underlying38 0 (.slice sa L sc) L (fdC l) rfl (World.ownsRow.alloc RB.out _) (.slice (some ⟨wB.heap.size, 0, none⟩) 1 1) 1 _ rfl (RdC.built 2 wB _ _ rfl) ?_ ?_ ?_ ?_ ?_ ?_
       (omega); (intro u hu; simp at hu; rcases hu with rfl | rfl <;> rfl); (omega); (unfold maxLen; omega); (omega)
       intro v7 w7 o7 g7 b7
       obtain ⟨a7, c7, hv7, _, _⟩ := (RdC.of_owns o7).isSlice
       subst hv7
       have F7 : Hid (TbC b most cap (rooms l) first (.slice sa L sc) w7) := Cs.grown (Cs.below FB.out (below1 wB _)) g7 (fun e => HNE.out b e.symm rfl)
       have O7 := Lib.hid o7
       have G7 := Lib.hid g7
       have B7 := Lib.hid b7
       have y7 := F7.out.facts.2.2.2.2.2
       have z7 := F7.out.free 5
       clear o7 g7 b7)
    | (go_simp; go_at_call 36; have _t := tok1; refine (HC1.out _).mono ?_; rintro x wA ⟨rfl, bA⟩; clear tok1
       have FA := Lib.hid ((HF3.out.below (below_drewN (Below.refl _ w3) 1)).below bA)
       have XA := Lib.hid ((X3.out.below (below_drewN (Below.refl _ w3) 1)).below bA)
       have BA : Hid (Below w3.heap.size w3 wA) := (below_drewN (Below.refl _ w3) 1).trans bA
       have yA5 := FA.out.facts.2.2.2.2.2
       have yA1 := XA.out.get 1 _ rfl
       clear bA)
    | (go_simp; go_at_call 36; refine (HC2.out _).mono ?_; rintro x wB ⟨rfl, bB⟩
       have FB := Lib.hid (FA.out.below bB)
       have BB : Hid (Below w3.heap.size w3 wB) := BA.out.trans (bB.mono BA.out.size)
       have yB5 := FB.out.facts.2.2.2.2.2
       have zb : b < wB.heap.size := Cs.lt FB.out
       have RB := Lib.hid (owns_keep HROW2.out (Keep.of_below (S := []) BB.out) (by simp))
       clear bB))
  all_goals clear y5 y0 y1 yA5 yA1 yB5 y7 z7
  all_goals
    have B7w : Hid (Below w3.heap.size w3 (wB.alloc (.cells #[.string fn, .string fv] 23))) := BB.out.alloc BB.out.size _
    have N7 : Hid (∀ j, Value.ownBlock (.slice a7 (L + 1) c7) = some j → sl.ownBlock = some j ∨ w.heap.size ≤ j) := fun j hj => by
      rcases B7.out with h | h
      · exact .inl (by rw [← V3'.out, ← h]; exact hj)
      · rw [hj] at h
        simp only [Option.some.injEq, World.size_alloc] at h
        have h1 := KW.out.size
        have h2 := BB.out.size
        exact .inr (by omega)
    have K7 : Hid (Keep (TS b sl) w w7) := (KW.out.then_below B7w.out).trans (Keep.of_grown (S := TS b sl) G7.out (fun j hj => .inl (mem_TS.2 (.inr (by rw [← V3'.out]; exact hj))))) (fun i hi => .inl hi)
    clear B7w G7 B7 FA XA BA FB BB RB zb HF3 HROW HROW2 HC1 HC2 HRM HSH X2 X3 T2 B2 HG HT HX HB
  all_goals
    have T8 : Hid (TbC b most cap (rooms l) first (.slice a7 (L + 1) c7) (w7.setCell ⟨b, 5, none⟩ (.slice a7 (L + 1) c7))) := F7.out.setRow _
    have O8 : Hid ((w7.setCell ⟨b, 5, none⟩ (.slice a7 (L + 1) c7)).ownsRow 0 23 2 (.slice a7 (L + 1) c7) (L + 1) (fdC l ++ [.string fn, .string fv])) :=
      owns_keep O7.out (keep_set b 5 w7 _) (fun g hg => by
        have := N7.out g hg
        intro hm; simp at hm; subst hm
        rcases this with h | h
        · exact HNE.out _ (by rw [V3'.out]; exact h) rfl
        · omega)
    have K8 : Hid (Keep (TS b sl) w (w7.setCell ⟨b, 5, none⟩ (.slice a7 (L + 1) c7))) := K7.out.trans (keep_set b 5 w7 _) (fun i hi => .inl (by simp at hi; subst hi; exact mem_TS.2 (.inl rfl)))
    clear F7 O7 K7
    generalize w7.setCell ⟨b, 5, none⟩ (.slice a7 (L + 1) c7) = W8 at T8 O8 K8 ⊢
  all_goals
    have hfit : rooms l + rf ≤ 4096 := by
      have h2 := FIT.out
      have h3 := HOK.out.cap
      have h4 := HOK.out.most
      have h5 := HSR.out
      have h6 := HRR.out
      simp only at h2
      omega
    have hcnt : first + L ≤ 4611686018427387000 := by
      have h1 := CNT.out
      have h2 := HCN.out
      have h3 := HL.out
      simp only [countN] at h1 h2
      omega
    have hrA : rooms (l ++ [(⟨fn, fv⟩ : Fd)]) = rooms l + rf := by rw [rooms_append, HRF.out]; simp [rooms]
    obtain ⟨us, hus⟩ : ∃ us, us = rooms l := ⟨_, rfl⟩
    rw [← hus] at T8 hfit hrA
    have hwu : IntKind.i64.wrap ((us : Int) + (rf : Int)) = (us : Int) + (rf : Int) := wraps_i64' _ (by omega) (by omega)
    have hT9 : Tbl b (.slice a7 (L + 1) c7) ⟨most, cap, first, l ++ [⟨fn, fv⟩]⟩ (W8.setCell ⟨b, 3, none⟩ (.int .i64 ((us : Int) + (rf : Int)))) := by
      refine ⟨?_, ?_, ?_⟩
      · have := T8.out.setUsed ((us : Int) + (rf : Int))
        show Cs _ _ [_, _, _, .int .i64 ((rooms (l ++ [(⟨fn, fv⟩ : Fd)]) : Nat) : Int), _, _]
        rw [hrA, Int.natCast_add]
        exact this
      · have := own_set (l := l ++ [(⟨fn, fv⟩ : Fd)]) (v := .slice a7 (L + 1) c7) (w := W8) (by
          show W8.ownsRow 0 _ 2 _ (l ++ [(⟨fn, fv⟩ : Fd)]).length _
          rw [List.length_append, List.length_singleton, ← HL.out, fdC_append, fdC_one]; exact O8.out) b 3 (.int .i64 ((us : Int) + (rf : Int))) (fun g hg => by
            rcases N7.out g hg with h | h
            · exact HNE.out _ (by rw [V3'.out]; exact h)
            · omega)
        exact this
      · intro g hg
        rcases N7.out g hg with h | h
        · exact HNE.out _ (by rw [V3'.out]; exact h)
        · omega
    have HT9 := Lib.hid hT9
    have hcn := count_any _ hT9 (by simp only [countN, List.length_append, List.length_singleton]; have := HL.out; omega)
    have hce : countN (⟨most, cap, first, l ++ [(⟨fn, fv⟩ : Fd)]⟩ : TQ) = first + L + 1 := by simp only [countN, List.length_append, List.length_singleton]; have := HL.out; omega
    rw [hce] at hcn
    have HCT := Lib.hid hcn
    have hwc : IntKind.i64.wrap ((first : Int) + (L : Int) + 1 - 1) = (first : Int) + (L : Int) := by rw [wraps_i64' _ (by omega) (by omega)]; omega
    have hwc' : IntKind.i64.wrap ((first : Int) + (L : Int)) = (first : Int) + (L : Int) := by rw [wraps_i64' _ (by omega) (by omega)]
    obtain ⟨_, _, _, y3, _⟩ := T8.out.facts
    have z3 := T8.out.free 3
    have K9 : Hid (Keep (TS b sl) w (W8.setCell ⟨b, 3, none⟩ (.int .i64 ((us : Int) + (rf : Int))))) := K8.out.trans (keep_set b 3 W8 _) (fun i hi => .inl (by simp at hi; subst hi; exact mem_TS.2 (.inl rfl)))
    have HE : Hid ((first : Int) + (L : Int) = (countN q : Int)) := (by
      have h1 := CNT.out
      have h3 := HL.out
      simp only [countN] at h1 ⊢
      omega : (first : Int) + (L : Int) = (countN q : Int))
    clear hT9 hcn hce hrA hfit hcnt hus hl128
  all_goals go_wp2_with (go_at_call 30; refine HCT.out.mono ?_; rintro e w10 ⟨rfl, nd, rfl⟩)
  all_goals go_ret2
  all_goals
    refine ⟨by rw [← HE.out]; rfl, .slice a7 (L + 1) c7, ?_, N7.out, K9.out.drewN nd⟩
    rw [← HQ.out]
    exact HT9.out.drewN nd
theorem insert_any {b : Nat} {sl : Value} {q : TQ} (f : Fd) (w : World) (h : Tbl b sl q w) (ho : TOk q) (hc : countN q ≤ 4611686018427387000) :
    Calls Tryd.prog 18 #[.pointer (some ⟨b, 0, none⟩), .agg #[.string f.n, .string f.v]] w fun e w' => e = .returned (.tuple #[.int .i64 (insertE q f).2.1, .int .i64 (insertE q f).2.2]) ∧ Did b sl (insertE q f).1 w w' := by
  unfold insertE
  by_cases h1 : 64 < f.n.size ∨ 512 < f.v.size
  · rw [if_pos h1]
    exact (insert_long f w h h1).mono fun e w' ⟨he, hb⟩ => ⟨he, did_same h hb⟩
  · rw [if_neg h1]
    by_cases h2 : q.cap < roomF f
    · rw [if_pos h2]
      exact (insert_wide f w h h1 h2).mono fun e w' ⟨he, hb⟩ => ⟨he, did_same h hb⟩
    · rw [if_neg h2]
      exact insert_fits f w h ho hc h1 h2
end Go.Proofs.YtfacpncbcplocaaDoor
