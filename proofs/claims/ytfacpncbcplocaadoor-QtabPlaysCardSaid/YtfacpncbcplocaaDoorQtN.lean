/- Walks of layer 13: the document's Insert. -/
import Derived.Test.YtfacpncbcplocaaDoorQtK
set_option maxRecDepth 100000
set_option linter.unusedSimpArgs false
set_option linter.unusedVariables false
set_option linter.unnecessarySimpa false
namespace Go.Proofs.YtfacpncbcplocaaDoor
open Go.RowKit

theorem rinsert_long {b : Nat} {v : Value} {q : TQ} (f : Fd) (w : World) (h : RTb b v q w) (hl : 64 < f.n.size ∨ 512 < f.v.size) :
    Calls Tryd.prog 19 #[.pointer (some ⟨b, 0, none⟩), .agg #[.string f.n, .string f.v]] w fun e w' => e = .returned (.tuple #[.int .i64 0, .int .i64 13]) ∧ Below w.heap.size w w' := by
  obtain ⟨fn, fv⟩ := f
  simp only at hl ⊢
  have HB := Lib.hid (below1 w (.cells #[.string fn, .string fv] 23))
  clear h
  by_cases h1 : 64 < fn.size
  · have h1' : (64 : Int) < (fn.size : Int) := by omega
    clear hl
    go_enter Tryd.func19, Tryd.ntmps19
    go_wp2_with fail
    go_ret2
    exact ⟨rfl, HB.out⟩
  · have h2 : 512 < fv.size := by omega
    have h1' : ¬ (64 : Int) < (fn.size : Int) := by omega
    have h2' : (512 : Int) < (fv.size : Int) := by omega
    have h1n : decide (64 < fn.size) = false := decide_eq_false h1
    have h1i : decide ((64 : Int) < (fn.size : Int)) = false := decide_eq_false h1'
    clear hl
    go_enter Tryd.func19, Tryd.ntmps19
    go_wp2_with fail
    go_ret2
    exact ⟨rfl, HB.out⟩
set_option maxHeartbeats 6400000 in
theorem rinsert_rest {b : Nat} {v : Value} {q : TQ} (f : Fd) (w : World) (h : RTb b v q w) (ho : TOk q) (hc : countN q ≤ 4611686018427387000) (hl : ¬ (64 < f.n.size ∨ 512 < f.v.size)) :
    Calls Tryd.prog 19 #[.pointer (some ⟨b, 0, none⟩), .agg #[.string f.n, .string f.v]] w fun e w' =>
      (q.cap < roomF f → e = .returned (.tuple #[.int .i64 0, .int .i64 6]) ∧ Below w.heap.size w w') ∧
      (¬ q.cap < roomF f → e = .returned (.tuple #[.int .i64 (countN q : Int), .int .i64 0]) ∧ RDid b v q { shrinkE (q.cap - roomF f) q with l := (shrinkE (q.cap - roomF f) q).l ++ [f] } w w') := by
  have HRM := Lib.hid (fun V => rroom_any f V ⟨by omega, by omega⟩)
  obtain ⟨fn, fv⟩ := f
  simp only at hl HRM ⊢
  have hb1 := below1 w (.cells #[.string fn, .string fv] 23)
  have hT := h.below hb1
  have HT := Lib.hid hT
  have HB := Lib.hid hb1
  have HX : Hid (Cs (w.alloc (.cells #[.string fn, .string fv] 23)) w.heap.size [.string fn, .string fv]) := Cs.made w _ _
  have hblt := h.lt
  have HVLT := Lib.hid h.vlt
  have h1n : decide (64 < fn.size) = false := decide_eq_false (by omega)
  have h1i : decide ((64 : Int) < (fn.size : Int)) = false := decide_eq_false (by omega)
  have h2n : decide (512 < fv.size) = false := decide_eq_false (by omega)
  have h2i : decide ((512 : Int) < (fv.size : Int)) = false := decide_eq_false (by omega)
  obtain ⟨rf, hrf⟩ : ∃ rf, rf = roomF ⟨fn, fv⟩ := ⟨_, rfl⟩
  rw [← hrf] at HRM ⊢
  have hcap : q.cap ≤ 4096 := Nat.le_trans ho.cap ho.most
  have hrm : rooms q.l ≤ 4096 := Nat.le_trans ho.used hcap
  have HRL := Lib.hid hrm
  have HCP := Lib.hid hcap
  have HRF := Lib.hid hrf
  have HCN := Lib.hid hc
  have HOK := Lib.hid ho
  have hrfb : rf ≤ 1000 := by rw [hrf]; simp only [roomF]; omega
  clear h hb1 hT hl hrf hcap hrm hc ho
  go_enter Tryd.func19, Tryd.ntmps19
  go_upto_region 3 with fail
  generalize w.alloc (.cells #[.string fn, .string fv] 23) = w1 at HT HB HX ⊢
  have hXlt : w.heap.size < w1.heap.size := HX.out.lt
  have HK : Hid (∀ V, Below w1.heap.size w1 V → (V.cell? ⟨w.heap.size, 0, none⟩ = some (.string fn) ∧ V.cell? ⟨w.heap.size, 1, none⟩ = some (.string fv) ∧ V.cell? ⟨b, 1, none⟩ = some (.int .i64 (q.cap : Int))) ∧ Below w1.heap.size w1 V) := fun V hV => by
    have X3 := HX.out.below hV
    exact ⟨⟨X3.get 0 _ rfl, X3.get 1 _ rfl, (HT.out.below hV).facts.2.1⟩, hV⟩
  go_region_held3 (fun V => (V.cell? ⟨w.heap.size, 0, none⟩ = some (.string fn) ∧ V.cell? ⟨w.heap.size, 1, none⟩ = some (.string fv) ∧ V.cell? ⟨b, 1, none⟩ = some (.int .i64 (q.cap : Int))) ∧ Below w1.heap.size w1 V)
    (first
      | (exact HK.out _ (below_drewN (Below.refl _ _) 1))
      | (exact HK.out _ B3))
    (first
      | (go_at_call 14; refine (HRM.out _).mono ?_; rintro x w3 ⟨rfl, hb3⟩; have B3 : Below w1.heap.size w1 w3 := (below_drewN (Below.refl _ _) 1).trans hb3))
  have B3H := Lib.hid B3
  have T3 := Lib.hid (HT.out.below B3)
  have X3 := Lib.hid (HX.out.below B3)
  by_cases hr : q.cap < rf
  · have hri : (q.cap : Int) < (rf : Int) := by omega
    have HR := Lib.hid hr
    clear hr
    go_wp2_with fail
    go_ret2
    exact ⟨fun _ => ⟨rfl, HB.out.trans (B3H.out.mono (Nat.le_of_lt hXlt))⟩, fun h => absurd HR.out h⟩
  · have hri : ¬ (q.cap : Int) < (rf : Int) := by omega
    have HR := Lib.hid hr
    have hw1 : IntKind.i64.wrap ((q.cap : Int) - (rf : Int)) = ((q.cap - rf : Nat) : Int) := by rw [wraps_i64' _ (by have := HCP.out; omega) (by have := HCP.out; omega)]; omega
    have HSH := Lib.hid (fun V (hV : RTb b v q V) => rshrink_any (q.cap - rf) V hV (Nat.le_trans HRL.out (by omega)) (Nat.le_trans HCN.out (by omega)))
    obtain ⟨sr, hsr⟩ : ∃ sr, sr = q.cap - rf := ⟨_, rfl⟩
    rw [← hsr] at HSH hw1
    have HSR := Lib.hid hsr
    clear hr hsr B3 hb3 HK
    go_upto_region 5 with fail
    have HK5 : Hid (∀ V, Below w3.heap.size w3 V → (V.cell? ⟨w.heap.size, 0, none⟩ = some (.string fn) ∧ V.cell? ⟨w.heap.size, 1, none⟩ = some (.string fv) ∧ V.cell? ⟨b, 1, none⟩ = some (.int .i64 (q.cap : Int))) ∧ Keep [b] w3 V) := fun V hV => by
      have XV := X3.out.below hV
      exact ⟨⟨XV.get 0 _ rfl, XV.get 1 _ rfl, (T3.out.below hV).facts.2.1⟩, Keep.of_below hV⟩
    have hXb : w.heap.size ∉ [b] := by simp; omega
    have HXB := Lib.hid hXb
    clear hXb
    go_region_held3 (fun V => (V.cell? ⟨w.heap.size, 0, none⟩ = some (.string fn) ∧ V.cell? ⟨w.heap.size, 1, none⟩ = some (.string fv) ∧ V.cell? ⟨b, 1, none⟩ = some (.int .i64 (q.cap : Int))) ∧ Keep [b] w3 V)
      (first
        | (exact HK5.out _ (below_drewN (Below.refl _ _) 1))
        | (exact HK5.out _ B4.out)
        | (exact HS6.out))
      (first
        | (go_at_call 14; refine (HRM.out _).mono ?_; rintro x w4 ⟨rfl, hb4⟩; have B4 : Hid (Below w3.heap.size w3 w4) := (below_drewN (Below.refl _ _) 1).trans hb4; clear hb4)
        | (go_at_call 37; refine (HSH.out _ (T3.out.below B4.out)).mono ?_; rintro x w6 ⟨rfl, v6, t6, ov6, k6⟩; have T6 := Lib.hid t6; have OV6 := Lib.hid ov6; have K6 : Hid (Keep [b] w3 w6) := (Keep.of_below B4.out).trans k6 (fun i hi => .inl hi); have X6 := Lib.hid (X3.out.keep K6.out HXB.out); have HS6 : Hid ((w6.cell? ⟨w.heap.size, 0, none⟩ = some (.string fn) ∧ w6.cell? ⟨w.heap.size, 1, none⟩ = some (.string fv) ∧ w6.cell? ⟨b, 1, none⟩ = some (.int .i64 (q.cap : Int))) ∧ Keep [b] w3 w6) := ⟨⟨X6.out.get 0 _ rfl, X6.out.get 1 _ rfl, T6.out.facts.2.1⟩, K6.out⟩; clear t6 ov6 k6))
    have KW6 : Hid (Keep [b] w w6) := ((Keep.of_below (HB.out.trans (B3H.out.mono (Nat.le_of_lt hXlt)))).trans K6.out (fun i hi => .inl hi) : Keep [b] w w6)
    have CNT := Lib.hid (shrink_count sr q)
    have FIT : Hid (rooms (shrinkE sr q).l ≤ sr) := goneN_fits sr q.l
    have QNE : Hid ((shrinkE sr q).l ≠ [] → q.l ≠ []) := fun h0 h1 => h0 (by simp [shrinkE, h1])
    obtain ⟨q', hq'⟩ : ∃ q', q' = shrinkE sr q := ⟨_, rfl⟩
    rw [← hq'] at T6 CNT FIT OV6 QNE
    have HQ := Lib.hid hq'
    clear hq' HS6 HK5
    obtain ⟨most, cap, first, l⟩ := q'
    obtain ⟨sa, sc, hsl, hsc, hsm⟩ := T6.out.shape
    simp only at hsl hsc
    subst hsl
    have hl128 : l.length ≤ 4096 := by
      have h1 := rooms_len l
      have h2 := FIT.out
      have h4 := HCP.out
      have h5 := HSR.out
      simp only at h2
      omega
    have RDA : Hid (∀ V, Below w6.heap.size w6 V → RdC 2 V (.slice sa l.length sc) l.length (fdC l)) := fun V hV => RdC.below T6.out.row hV
    have XA : Hid (∀ V, Below w6.heap.size w6 V → Cs V w.heap.size [.string fn, .string fv]) := fun V hV => X6.out.below hV
    have hw6 : w.heap.size < w6.heap.size := X6.out.lt
    have f3 := T6.out.facts.2.2.2
    have y3 : w6.drew.cell? ⟨b, 3, none⟩ = some (.slice sa l.length sc) := f3
    have y0 : w6.drew.cell? ⟨w.heap.size, 0, none⟩ = some (.string fn) := X6.out.get 0 _ rfl
    have y1 : w6.drew.cell? ⟨w.heap.size, 1, none⟩ = some (.string fv) := X6.out.get 1 _ rfl
    have y3a : (w6.alloc (.cells #[.string fn, .string fv] 23)).cell? ⟨b, 3, none⟩ = some (.slice sa l.length sc) := (T6.out.fields.below (below1 w6 _)).get 3 _ rfl
    have CB : Hid (∀ V, Below w6.heap.size w6 V → Cs V b [.int .i64 (most : Int), .int .i64 (cap : Int), .int .i64 (first : Int), .slice sa l.length sc]) := fun V hV => T6.out.fields.below hV
    obtain ⟨L, hL⟩ : ∃ L, L = l.length := ⟨_, rfl⟩
    rw [← hL] at y3 y3a RDA CB hl128
    have HL := Lib.hid hL
    clear f3 hsc hsm h1n h1i h2n h2i T6
    clear hL
    have tok1 : True := trivial
    go_upto_region 6 with fail
    go_region_law (first
      | (have _t := tok1
         refine step_append_rows rfl (.const (.slice none 0 0)) (.tmp 36) 38 rfl elemFd Tryd.underlying38 w.heap.size (.slice none 0 0) 0 [] rfl (World.ownsRow_nil _ _ _ _) (.slice sa L sc) L (fdC l) rfl (RDA.out _ ?_) (fdC_oneCell _) ?_ ?_ ?_ ?_
         (first | exact below_drewN (Below.refl _ _) 1 | exact below_drewN (below1 _ _) 1 | exact below1 _ _); (omega); (unfold maxLen; omega); (simp; omega)
         intro v7 w7 o7 g7
         clear tok1
         rw [Nat.zero_add, List.nil_append] at o7
         have O7 := Lib.hid o7
         have B7 : Hid (Below w6.heap.size w6 w7) := by
           first
             | exact Below.grown (below_drewN (Below.refl _ w6) 1) g7 (Nat.le_refl _) (fun k hk => by cases hk)
             | exact Below.grown (below_drewN (below1 w6 _) 1) g7 (by simp) (fun k hk => by cases hk)
         have z0 := (XA.out _ B7.out).get 0 _ rfl
         have z1 := (XA.out _ B7.out).get 1 _ rfl
         have hb7 : b < w7.heap.size := (CB.out _ B7.out).lt
         obtain ⟨a7, c7, hv7, _, _⟩ := (RdC.of_owns o7).isSlice
         subst hv7
         try have BU : Hid (RdC 2 w7 (.slice (some ⟨w6.heap.size, 0, none⟩) 1 1) 1 [.string fn, .string fv]) := RdC.kept (w := (w6.alloc _).drew) (RdC.built 2 w6 #[.string fn, .string fv] 23 rfl) g7 (fun j _ => by simp [Value.ownBlock])
         clear o7 g7)
      | (refine step_append_rows rfl (.tmp 37) (.tmp 39) 38 rfl elemFd Tryd.underlying38 w.heap.size (.slice a7 L c7) L (fdC l) rfl (World.ownsRow.alloc O7.out _) (.slice (some ⟨w7.heap.size, 0, none⟩) 1 1) 1 _ rfl (RdC.built 2 w7 _ _ rfl) ?_ ?_ ?_ ?_ ?_
         (intro u hu; simp at hu; rcases hu with rfl | rfl <;> rfl); (omega); (unfold maxLen; omega); (have := B7.out.size; simp; omega)
         intro v8 w8 o8 g8
         have B8 : Hid (Below w.heap.size w6 w8) := Below.grown ((B7.out.mono (Nat.le_of_lt hw6)).alloc (by have := B7.out.size; omega) _) g8 (by have := B7.out.size; simp; omega) (fun k hk => (World.ownsRow.lt O7.out k hk).1)
         have O8 := Lib.hid o8
         obtain ⟨a8, c8, hv8, _, _⟩ := (RdC.of_owns o8).isSlice
         subst hv8
         have D8 : Hid (Cs w8 b [.int .i64 (most : Int), .int .i64 (cap : Int), .int .i64 (first : Int), .slice sa L sc]) := Cs.block (CB.out w6 (Below.refl _ _)) (B8.out.block b hblt)
         have s3 := D8.out.get 3 _ rfl
         have t3 := D8.out.free 3
         clear o8 g8)
      | (refine step_append_rows rfl (.tmp 37) (.tmp 39) 38 rfl elemFd Tryd.underlying38 w.heap.size (.slice a7 L c7) L (fdC l) rfl O7.out (.slice (some ⟨w6.heap.size, 0, none⟩) 1 1) 1 _ rfl BU.out ?_ ?_ ?_ ?_ ?_
         (intro u hu; simp at hu; rcases hu with rfl | rfl <;> rfl); (omega); (unfold maxLen; omega); (have := B7.out.size; omega)
         intro v8 w8 o8 g8
         have B8 : Hid (Below w.heap.size w6 w8) := Below.grown (B7.out.mono (Nat.le_of_lt hw6)) g8 (by have := B7.out.size; omega) (fun k hk => (World.ownsRow.lt O7.out k hk).1)
         have O8 := Lib.hid o8
         obtain ⟨a8, c8, hv8, _, _⟩ := (RdC.of_owns o8).isSlice
         subst hv8
         have D8 : Hid (Cs w8 b [.int .i64 (most : Int), .int .i64 (cap : Int), .int .i64 (first : Int), .slice sa L sc]) := Cs.block (CB.out w6 (Below.refl _ _)) (B8.out.block b hblt)
         have s3 := D8.out.get 3 _ rfl
         have t3 := D8.out.free 3
         clear o8 g8))
    all_goals clear y3 y0 y1 z0 z1 s3 t3
    all_goals
      have hne8 : ∀ j, Value.ownBlock (.slice a8 (L + 1) c8) = some j → w.heap.size ≤ j := fun j hj => (World.ownsRow.lt O8.out j hj).1
      have NE8 := Lib.hid hne8
      have R8 : Hid (RdC 2 w8 (.slice a8 (L + 1) c8) (L + 1) (fdC l ++ [.string fn, .string fv])) := RdC.of_owns O8.out
      have K8 : Hid (Keep [b] w w8) := (⟨B8.out.os.trans KW6.out.os, B8.out.tape.trans KW6.out.tape, B8.out.output.trans KW6.out.output, Nat.le_trans KW6.out.size B8.out.size, fun i hi hn => (B8.out.block i hi).trans (KW6.out.block i hi hn)⟩ : Keep [b] w w8)
      clear hne8 O8
    all_goals
      have D9 : Hid (Cs (w8.setCell ⟨b, 3, none⟩ (.slice a8 (L + 1) c8)) b [.int .i64 (most : Int), .int .i64 (cap : Int), .int .i64 (first : Int), .slice a8 (L + 1) c8]) := D8.out.set 3 _
      have R9 : Hid (RdC 2 (w8.setCell ⟨b, 3, none⟩ (.slice a8 (L + 1) c8)) (.slice a8 (L + 1) c8) (L + 1) (fdC l ++ [.string fn, .string fv])) := rdC_keep R8.out (keep_set b 3 w8 _) (fun _ j hj => by have := NE8.out j hj; simp; omega)
      have K9 : Hid (Keep [b] w (w8.setCell ⟨b, 3, none⟩ (.slice a8 (L + 1) c8))) := (K8.out.trans (keep_set b 3 w8 _) (fun i hi => .inl hi) : Keep [b] w _)
      clear D8 R8 K8 B8 B7 O7 HRM HSH RDA XA CB
      generalize w8.setCell ⟨b, 3, none⟩ (.slice a8 (L + 1) c8) = W9 at D9 R9 K9 ⊢
      have hT9 : RTb b (.slice a8 (L + 1) c8) ⟨most, cap, first, l ++ [(⟨fn, fv⟩ : Fd)]⟩ W9 := by
        refine ⟨D9.out, ?_, fun _ j hj => by have := NE8.out j hj; omega⟩
        show RdC 2 W9 _ (l ++ [(⟨fn, fv⟩ : Fd)]).length _
        rw [List.length_append, List.length_singleton, ← HL.out, fdC_append, fdC_one]; exact R9.out
      have HT9 := Lib.hid hT9
      have hcnt : first + L ≤ 4611686018427387000 := by
        have h1 := CNT.out
        have h2 := HCN.out
        have h3 := HL.out
        simp only [countN] at h1 h2
        omega
      have hcn := rcount_any _ hT9 (by simp only [countN, List.length_append, List.length_singleton]; have := HL.out; omega)
      have hce : countN (⟨most, cap, first, l ++ [(⟨fn, fv⟩ : Fd)]⟩ : TQ) = first + L + 1 := by simp only [countN, List.length_append, List.length_singleton]; have := HL.out; omega
      rw [hce] at hcn
      have HCT := Lib.hid hcn
      have hwc : IntKind.i64.wrap ((first : Int) + (L : Int) + 1 - 1) = (first : Int) + (L : Int) := by rw [wraps_i64' _ (by omega) (by omega)]; omega
      have hwc' : IntKind.i64.wrap ((first : Int) + (L : Int)) = (first : Int) + (L : Int) := by rw [wraps_i64' _ (by omega) (by omega)]
      have HE : Hid ((first : Int) + (L : Int) = (countN q : Int)) := (by
        have h1 := CNT.out
        have h3 := HL.out
        simp only [countN] at h1 ⊢
        omega : (first : Int) + (L : Int) = (countN q : Int))
      clear hT9 hcn hce hcnt hl128
    all_goals go_wp2_with (go_at_call 31; refine HCT.out.mono ?_; rintro e w10 ⟨rfl, nd, rfl⟩)
    all_goals go_ret2
    all_goals
      refine ⟨fun h => absurd h HR.out, fun _ => ⟨by rw [← HE.out]; rfl, .slice a8 (L + 1) c8, ?_, fun _ j hj => .inr (NE8.out j hj), K9.out.drewN nd⟩⟩
      rw [← HSR.out, ← HQ.out]
      exact HT9.out.drewN nd
theorem rinsert_any {b : Nat} {v : Value} {q : TQ} (f : Fd) (w : World) (h : RTb b v q w) (ho : TOk q) (hc : countN q ≤ 4611686018427387000) :
    Calls Tryd.prog 19 #[.pointer (some ⟨b, 0, none⟩), .agg #[.string f.n, .string f.v]] w fun e w' => e = .returned (.tuple #[.int .i64 (insertE q f).2.1, .int .i64 (insertE q f).2.2]) ∧ RDid b v q (insertE q f).1 w w' := by
  unfold insertE
  by_cases h1 : 64 < f.n.size ∨ 512 < f.v.size
  · rw [if_pos h1]
    exact (rinsert_long f w h h1).mono fun e w' ⟨he, hb⟩ => ⟨he, rdid_same h hb⟩
  · rw [if_neg h1]
    by_cases h2 : q.cap < roomF f
    · rw [if_pos h2]
      exact (rinsert_rest f w h ho hc h1).mono fun e w' hh => ⟨(hh.1 h2).1, rdid_same h (hh.1 h2).2⟩
    · rw [if_neg h2]
      exact (rinsert_rest f w h ho hc h1).mono fun e w' hh => hh.2 h2
end Go.Proofs.YtfacpncbcplocaaDoor
