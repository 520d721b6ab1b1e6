/- Walks of layer 4: one frame is written, kind by kind (written by genWrite.py). -/
import Derived.Test.YtfkkimaebhjneaaDoorFrW
set_option linter.unusedSimpArgs false
set_option linter.unusedVariables false
namespace Go.Proofs.YtfkkimaebhjneaaDoor
open Go.RowKit


set_option maxHeartbeats 3200000 in
theorem wframe_2 (q : Nat) (v : Value) (f : Fr) (da sa : Option Addr) (dc sc : Nat) (bs : List Int) (w : World) (ht : Tab w) (h : WAt w q v bs) (hb : bs.length ≤ 262144) (hq : 0 < q) (hk : f.kind = 2) (hnn : 0 ≤ f.n ∧ f.n ≤ 4611686018427387903) (hris : Rises f.spans) (hl1 : 1 ≤ f.spans.length) (hl32 : f.spans.length ≤ 32)
    (hd : ∀ V, Below q w V → Rd .u8 V (.slice da f.data.length dc) f.data) (hs : ∀ V, Below q w V → RdS V (.slice sa f.spans.length sc) f.spans) (hsb : ∀ b, sa = some b → 1 ≤ f.spans.length → b.block < q) :
    Calls Tryd.prog 21 #[.pointer (some ⟨q, 0, none⟩), .agg #[.int .i64 2, .int .i64 f.stream, .int .i64 f.offset, .int .i64 f.n, .int .i64 f.code, .bool f.fin, .slice da f.data.length dc, .slice sa f.spans.length sc]] w (WIs w q (bs ++ encF f)) := by
  have hlt := h.lt
  have HD : Hid (∀ V, Below q w V → Rd .u8 V (.slice da f.data.length dc) f.data) := hd
  have HS : Hid (∀ V, Below q w V → RdS V (.slice sa f.spans.length sc) f.spans) := hs
  have HB : Hid (∀ b, sa = some b → 1 ≤ f.spans.length → b.block < q) := hsb
  have PA : Hid (∀ V : World, Calls Tryd.prog 26 #[.int .i64 2] V fun e w' => e = .returned (.tuple #[.agg #[.bool false, .bool false, .bool false, .bool true, .bool true, .bool false, .bool false], .bool true]) ∧ Below V.heap.size V w') := fun V => partsOf_any 2 V
  have TA : Hid (∀ V : World, Calls Tryd.prog 40 #[.agg #[.int .i64 2, .int .i64 f.stream, .int .i64 f.offset, .int .i64 f.n, .int .i64 f.code, .bool f.fin, .slice da f.data.length dc, .slice sa f.spans.length sc]] V fun e w' => e = .returned (.int .i64 (typeI f)) ∧ Below V.heap.size V w') := fun V => by have := typeOf_any f da sa f.data.length f.spans.length dc sc V; rw [hk] at this; exact this
  have HE : Hid (encF f = E (typeI f) ++ (E (lastTo f.spans) ++ (E f.n ++ (spanBytes f.spans)))) := by
    have a1 : hStream f.kind = false := by rw [hk]; rfl
    have a2 : hCode f.kind = false := by rw [hk]; rfl
    have a3 : hOffset f.kind = false := by rw [hk]; rfl
    have a4 : hSpans f.kind = true := by rw [hk]; rfl
    have a5 : hN f.kind = true := by rw [hk]; rfl
    have a6 : hData f.kind = false := by rw [hk]; rfl
    show _ = _
    rw [encF, a1, a2, a3, a4, a5, a6]
    simp only [iteT, iteF, nilA, nilB]
  have hty : 0 ≤ typeI f ∧ typeI f ≤ 4611686018427387903 := by unfold typeI; rw [hk]; simp
  have HA := Lib.hid h
  have HT := Lib.hid ht
  clear h ht hd hs hsb hk
  go_enter Tryd.func21, Tryd.ntmps21
  go_wp2_with fail
  refine (PA.out _).mono ?_
  rintro e w1 ⟨rfl, b1⟩
  have bX : Below w.heap.size w (w.alloc (.cells #[.int .i64 2, .int .i64 f.stream, .int .i64 f.offset, .int .i64 f.n, .int .i64 f.code, .bool f.fin, .slice da f.data.length dc, .slice sa f.spans.length sc] 33)) := (Below.refl _ _).alloc (Nat.le_refl _) _
  have B1 : Below w.heap.size w w1 := bX.trans (b1.mono (by simp))
  have k1 := (b1.block w.heap.size (by simp)).trans (alloc_at w (.cells #[.int .i64 2, .int .i64 f.stream, .int .i64 f.offset, .int .i64 f.n, .int .i64 f.code, .bool f.fin, .slice da f.data.length dc, .slice sa f.spans.length sc] 33))
  have lx := (Array.getElem?_eq_some_iff.1 k1).1
  have xk := fun i => Joins.cell_of_block k1 i
  have xk0 := xk 0
  have xk1 := xk 1
  have xk2 := xk 2
  have xk3 := xk 3
  have xk4 := xk 4
  have xk5 := xk 5
  have xk6 := xk 6
  have xk7 := xk 7
  go_wp2_with fail
  refine (TA.out _).mono ?_
  rintro e w2 ⟨rfl, b2⟩
  have bP : Below w1.heap.size w1 (w1.alloc (.cells #[.bool false, .bool false, .bool false, .bool true, .bool true, .bool false, .bool false] 52)) := (Below.refl _ _).alloc (Nat.le_refl _) _
  have B2 : Below w.heap.size w w2 := (B1.trans (bP.mono B1.size)).trans (b2.mono (by have := B1.size; simp; omega))
  have k2 := (b2.block w.heap.size (by simp; omega)).trans ((bP.block _ lx).trans k1)
  have k3 := (b2.block w1.heap.size (by simp)).trans (alloc_at w1 (.cells #[.bool false, .bool false, .bool false, .bool true, .bool true, .bool false, .bool false] 52))
  have z1 := B1.size
  have S0 := Lib.hid (WS.mk (w0 := w) (HA.out.below B2) (WG.of_below B2 (by omega)) (HT.out.below B2 HT.out.pos) k2 k3 hlt (by omega) hq)
  clear xk0 xk1 xk2 xk3 xk4 xk5 xk6 xk7 xk k1 k2 k3 bX B1 b1 b2 bP B2 HA HT
  go_wp2_with fail
  refine (wnumber_any q _ (typeI f) _ _ S0.out.tab S0.out.at_ hty.1 hty.2 (by skip; omega)).mono ?_
  rintro e w3 ⟨rfl, g1, v1, A1⟩
  have l1 := E_le (typeI f)
  have S1 := Lib.hid (S0.out.step g1 A1)
  have pc1 := fun i => Joins.cell_of_block S1.out.par i
  have pc10 := pc1 0
  have pc11 := pc1 1
  have pc12 := pc1 2
  have pc13 := pc1 3
  have pc14 := pc1 4
  have pc15 := pc1 5
  have pc16 := pc1 6
  have xc1 := fun i => Joins.cell_of_block S1.out.box i
  have xc10 := xc1 0
  have xc11 := xc1 1
  have xc12 := xc1 2
  have xc13 := xc1 3
  have xc14 := xc1 4
  have xc15 := xc1 5
  have xc16 := xc1 6
  have xc17 := xc1 7
  clear g1 A1
  obtain ⟨sb, so, sc', e0, hbb⟩ := (HS.out _ S1.out.g.bel).form (by intro h; rw [h] at hl1; simp at hl1)
  simp only [Value.slice.injEq, true_and] at e0
  obtain ⟨e1, e2⟩ := e0
  subst e1
  subst e2
  have hsq := HB.out _ rfl hl1
  simp only at hsq
  have HRI := Lib.hid hris
  clear hris
  have hla0 := HRI.out.at (f.spans.length - 1) (by omega)
  have hla : 0 ≤ lastTo f.spans ∧ lastTo f.spans ≤ 4611686018427387903 := by unfold lastTo; omega
  obtain ⟨m, hm⟩ : ∃ m, f.spans.length = m + 1 := ⟨f.spans.length - 1, by omega⟩
  have lq := ((HS.out _ S1.out.g.bel).cells rfl (f.spans.length - 1) (by omega)).2
  have hlq : Hid ((f.spans.getD (f.spans.length - 1) (0, 0)).2 = lastTo f.spans) := rfl
  rw [hlq.out] at lq
  have hwl : IntKind.i64.wrap ((f.spans.length : Int) - 1) = ((f.spans.length - 1 : Nat) : Int) := by rw [IntKind.wrap_i64]; omega
  have hli : ((f.spans.length - 1 : Nat) : Int) < (f.spans.length : Int) := by omega
  have hli2 : f.spans.length - 1 < f.spans.length := by omega
  have HM := Lib.hid hm
  clear hm hla0
  generalize f.spans.length - 1 = mm at lq hwl hli hli2
  go_wp2_with fail
  refine (wnumber_any q _ (lastTo f.spans) _ _ S1.out.tab S1.out.at_ hla.1 hla.2 (by simp only [List.length_append]; omega)).mono ?_
  rintro e w4 ⟨rfl, g2, v2, A2⟩
  have l2 := E_le (lastTo f.spans)
  have S2 := Lib.hid (S1.out.step g2 A2)
  have pc2 := fun i => Joins.cell_of_block S2.out.par i
  have pc20 := pc2 0
  have pc21 := pc2 1
  have pc22 := pc2 2
  have pc23 := pc2 3
  have pc24 := pc2 4
  have pc25 := pc2 5
  have pc26 := pc2 6
  have xc2 := fun i => Joins.cell_of_block S2.out.box i
  have xc20 := xc2 0
  have xc21 := xc2 1
  have xc22 := xc2 2
  have xc23 := xc2 3
  have xc24 := xc2 4
  have xc25 := xc2 5
  have xc26 := xc2 6
  have xc27 := xc2 7
  clear g2 A2
  skip
  go_wp2_with fail
  refine (wnumber_any q _ f.n _ _ S2.out.tab S2.out.at_ hnn.1 hnn.2 (by simp only [List.length_append]; omega)).mono ?_
  rintro e w5 ⟨rfl, g3, v3, A3⟩
  have l3 := E_le f.n
  have S3 := Lib.hid (S2.out.step g3 A3)
  have pc3 := fun i => Joins.cell_of_block S3.out.par i
  have pc30 := pc3 0
  have pc31 := pc3 1
  have pc32 := pc3 2
  have pc33 := pc3 3
  have pc34 := pc3 4
  have pc35 := pc3 5
  have pc36 := pc3 6
  have xc3 := fun i => Joins.cell_of_block S3.out.box i
  have xc30 := xc3 0
  have xc31 := xc3 1
  have xc32 := xc3 2
  have xc33 := xc3 3
  have xc34 := xc3 4
  have xc35 := xc3 5
  have xc36 := xc3 6
  have xc37 := xc3 7
  clear g3 A3
  skip
  go_wp2_with fail
  refine (wspans_any q _ sb so _ f.spans _ _ S3.out.tab S3.out.at_ (by simp only [List.length_append]; omega) hq HRI.out hl1 hl32 (HS.out _ S3.out.g.bel) hsq).mono ?_
  rintro e w6 ⟨rfl, g4, v4, A4⟩
  have S4 := Lib.hid (S3.out.step g4 A4)
  have pc4 := fun i => Joins.cell_of_block S4.out.par i
  have pc40 := pc4 0
  have pc41 := pc4 1
  have pc42 := pc4 2
  have pc43 := pc4 3
  have pc44 := pc4 4
  have pc45 := pc4 5
  have pc46 := pc4 6
  have xc4 := fun i => Joins.cell_of_block S4.out.box i
  have xc40 := xc4 0
  have xc41 := xc4 1
  have xc42 := xc4 2
  have xc43 := xc4 3
  have xc44 := xc4 4
  have xc45 := xc4 5
  have xc46 := xc4 6
  have xc47 := xc4 7
  clear g4 A4
  skip
  go_wp2_with fail
  go_end0
  have EQ : bs ++ encF f = ((((bs ++ E (typeI f)) ++ E (lastTo f.spans)) ++ E f.n) ++ spanBytes f.spans) := by rw [HE.out]; try simp only [assocA]
  rw [EQ]
  exact ⟨rfl, S4.out.g, _, S4.out.at_⟩


set_option maxHeartbeats 3200000 in
theorem wframe_28 (q : Nat) (v : Value) (f : Fr) (da sa : Option Addr) (dc sc : Nat) (bs : List Int) (w : World) (ht : Tab w) (h : WAt w q v bs) (hb : bs.length ≤ 262144) (hq : 0 < q) (hk : f.kind = 28) (hcd : 0 ≤ f.code ∧ f.code ≤ 4611686018427387903) (hdl : f.data.length ≤ 1200)
    (hd : ∀ V, Below q w V → Rd .u8 V (.slice da f.data.length dc) f.data) (hs : ∀ V, Below q w V → RdS V (.slice sa f.spans.length sc) f.spans) (hsb : ∀ b, sa = some b → 1 ≤ f.spans.length → b.block < q) :
    Calls Tryd.prog 21 #[.pointer (some ⟨q, 0, none⟩), .agg #[.int .i64 28, .int .i64 f.stream, .int .i64 f.offset, .int .i64 f.n, .int .i64 f.code, .bool f.fin, .slice da f.data.length dc, .slice sa f.spans.length sc]] w (WIs w q (bs ++ encF f)) := by
  have hlt := h.lt
  have HD : Hid (∀ V, Below q w V → Rd .u8 V (.slice da f.data.length dc) f.data) := hd
  have HS : Hid (∀ V, Below q w V → RdS V (.slice sa f.spans.length sc) f.spans) := hs
  have HB : Hid (∀ b, sa = some b → 1 ≤ f.spans.length → b.block < q) := hsb
  have PA : Hid (∀ V : World, Calls Tryd.prog 26 #[.int .i64 28] V fun e w' => e = .returned (.tuple #[.agg #[.bool false, .bool true, .bool false, .bool false, .bool false, .bool true, .bool false], .bool true]) ∧ Below V.heap.size V w') := fun V => partsOf_any 28 V
  have TA : Hid (∀ V : World, Calls Tryd.prog 40 #[.agg #[.int .i64 28, .int .i64 f.stream, .int .i64 f.offset, .int .i64 f.n, .int .i64 f.code, .bool f.fin, .slice da f.data.length dc, .slice sa f.spans.length sc]] V fun e w' => e = .returned (.int .i64 (typeI f)) ∧ Below V.heap.size V w') := fun V => by have := typeOf_any f da sa f.data.length f.spans.length dc sc V; rw [hk] at this; exact this
  have HE : Hid (encF f = E (typeI f) ++ (E f.code ++ (E (f.data.length : Int) ++ (f.data)))) := by
    have a1 : hStream f.kind = false := by rw [hk]; rfl
    have a2 : hCode f.kind = true := by rw [hk]; rfl
    have a3 : hOffset f.kind = false := by rw [hk]; rfl
    have a4 : hSpans f.kind = false := by rw [hk]; rfl
    have a5 : hN f.kind = false := by rw [hk]; rfl
    have a6 : hData f.kind = true := by rw [hk]; rfl
    show _ = _
    rw [encF, a1, a2, a3, a4, a5, a6]
    simp only [iteT, iteF, nilA, nilB]
  have hty : 0 ≤ typeI f ∧ typeI f ≤ 4611686018427387903 := by unfold typeI; rw [hk]; simp
  have HA := Lib.hid h
  have HT := Lib.hid ht
  clear h ht hd hs hsb hk
  go_enter Tryd.func21, Tryd.ntmps21
  go_wp2_with fail
  refine (PA.out _).mono ?_
  rintro e w1 ⟨rfl, b1⟩
  have bX : Below w.heap.size w (w.alloc (.cells #[.int .i64 28, .int .i64 f.stream, .int .i64 f.offset, .int .i64 f.n, .int .i64 f.code, .bool f.fin, .slice da f.data.length dc, .slice sa f.spans.length sc] 33)) := (Below.refl _ _).alloc (Nat.le_refl _) _
  have B1 : Below w.heap.size w w1 := bX.trans (b1.mono (by simp))
  have k1 := (b1.block w.heap.size (by simp)).trans (alloc_at w (.cells #[.int .i64 28, .int .i64 f.stream, .int .i64 f.offset, .int .i64 f.n, .int .i64 f.code, .bool f.fin, .slice da f.data.length dc, .slice sa f.spans.length sc] 33))
  have lx := (Array.getElem?_eq_some_iff.1 k1).1
  have xk := fun i => Joins.cell_of_block k1 i
  have xk0 := xk 0
  have xk1 := xk 1
  have xk2 := xk 2
  have xk3 := xk 3
  have xk4 := xk 4
  have xk5 := xk 5
  have xk6 := xk 6
  have xk7 := xk 7
  go_wp2_with fail
  refine (TA.out _).mono ?_
  rintro e w2 ⟨rfl, b2⟩
  have bP : Below w1.heap.size w1 (w1.alloc (.cells #[.bool false, .bool true, .bool false, .bool false, .bool false, .bool true, .bool false] 52)) := (Below.refl _ _).alloc (Nat.le_refl _) _
  have B2 : Below w.heap.size w w2 := (B1.trans (bP.mono B1.size)).trans (b2.mono (by have := B1.size; simp; omega))
  have k2 := (b2.block w.heap.size (by simp; omega)).trans ((bP.block _ lx).trans k1)
  have k3 := (b2.block w1.heap.size (by simp)).trans (alloc_at w1 (.cells #[.bool false, .bool true, .bool false, .bool false, .bool false, .bool true, .bool false] 52))
  have z1 := B1.size
  have S0 := Lib.hid (WS.mk (w0 := w) (HA.out.below B2) (WG.of_below B2 (by omega)) (HT.out.below B2 HT.out.pos) k2 k3 hlt (by omega) hq)
  clear xk0 xk1 xk2 xk3 xk4 xk5 xk6 xk7 xk k1 k2 k3 bX B1 b1 b2 bP B2 HA HT
  go_wp2_with fail
  refine (wnumber_any q _ (typeI f) _ _ S0.out.tab S0.out.at_ hty.1 hty.2 (by skip; omega)).mono ?_
  rintro e w3 ⟨rfl, g1, v1, A1⟩
  have l1 := E_le (typeI f)
  have S1 := Lib.hid (S0.out.step g1 A1)
  have pc1 := fun i => Joins.cell_of_block S1.out.par i
  have pc10 := pc1 0
  have pc11 := pc1 1
  have pc12 := pc1 2
  have pc13 := pc1 3
  have pc14 := pc1 4
  have pc15 := pc1 5
  have pc16 := pc1 6
  have xc1 := fun i => Joins.cell_of_block S1.out.box i
  have xc10 := xc1 0
  have xc11 := xc1 1
  have xc12 := xc1 2
  have xc13 := xc1 3
  have xc14 := xc1 4
  have xc15 := xc1 5
  have xc16 := xc1 6
  have xc17 := xc1 7
  clear g1 A1
  go_wp2_with fail
  refine (wnumber_any q _ f.code _ _ S1.out.tab S1.out.at_ hcd.1 hcd.2 (by simp only [List.length_append]; omega)).mono ?_
  rintro e w4 ⟨rfl, g2, v2, A2⟩
  have l2 := E_le f.code
  have S2 := Lib.hid (S1.out.step g2 A2)
  have pc2 := fun i => Joins.cell_of_block S2.out.par i
  have pc20 := pc2 0
  have pc21 := pc2 1
  have pc22 := pc2 2
  have pc23 := pc2 3
  have pc24 := pc2 4
  have pc25 := pc2 5
  have pc26 := pc2 6
  have xc2 := fun i => Joins.cell_of_block S2.out.box i
  have xc20 := xc2 0
  have xc21 := xc2 1
  have xc22 := xc2 2
  have xc23 := xc2 3
  have xc24 := xc2 4
  have xc25 := xc2 5
  have xc26 := xc2 6
  have xc27 := xc2 7
  clear g2 A2
  skip
  go_wp2_with fail
  refine (wnumber_any q _ (f.data.length : Int) _ _ S2.out.tab S2.out.at_ (by omega) (by omega) (by simp only [List.length_append]; omega)).mono ?_
  rintro e w5 ⟨rfl, g3, v3, A3⟩
  have l3 := E_le (f.data.length : Int)
  have S3 := Lib.hid (S2.out.step g3 A3)
  have pc3 := fun i => Joins.cell_of_block S3.out.par i
  have pc30 := pc3 0
  have pc31 := pc3 1
  have pc32 := pc3 2
  have pc33 := pc3 3
  have pc34 := pc3 4
  have pc35 := pc3 5
  have pc36 := pc3 6
  have xc3 := fun i => Joins.cell_of_block S3.out.box i
  have xc30 := xc3 0
  have xc31 := xc3 1
  have xc32 := xc3 2
  have xc33 := xc3 3
  have xc34 := xc3 4
  have xc35 := xc3 5
  have xc36 := xc3 6
  have xc37 := xc3 7
  clear g3 A3
  skip
  have d0 := Joins.cell_of_block S3.out.at_.is 0
  obtain ⟨va, vc, hv⟩ := S3.out.at_.own.len
  generalize hnl : (((bs ++ E (typeI f)) ++ E f.code) ++ E (f.data.length : Int)).length = nl at hv
  have HNL := Lib.hid hnl
  clear hnl
  subst hv
  go_wp2_with fail
  have d0' := d0
  have x6' := xc36
  have OW := Own.drew S3.out.at_.own
  have RW := (HD.out _ S3.out.g.bel).heap (W := w5.drew) rfl
  have KW := S3.out.at_.is
  have LW := S3.out.at_.lt
  have e0 : w5.drew.cell? ⟨q, 0, none⟩ = _ := d0
  have e1 : w5.drew.cell? ⟨w.heap.size, 6, none⟩ = _ := xc36
  go_region_law (refine step_append_rd rfl (.tmp 70) (.tmp 72) 23 rfl elemU8 Tryd.underlying23 (q + 1) (.slice va nl vc) (((bs ++ E (typeI f)) ++ E f.code) ++ E (f.data.length : Int)) rfl OW (.slice da f.data.length dc) f.data rfl RW ?_ ?_ ?_ ?_; (simp only [List.length_append]; omega); (unfold maxLen; simp only [List.length_append]; omega); (show q + 1 ≤ w5.heap.size; omega); intro v4 w6 o4 g4; obtain ⟨a4, c4, hv4⟩ := Own.len o4; generalize hn4 : ((((bs ++ E (typeI f)) ++ E f.code) ++ E (f.data.length : Int)) ++ f.data).length = n4 at hv4; have HN4 := Lib.hid hn4; clear hn4; subst hv4; have kk := block_kept (w := w5.drew) KW g4 (fun e => by have := OW.blk _ e; omega); have cc := Joins.cell_of_block kk 0; have cf := Joins.unfrozen_of_block kk)
  all_goals
    go_wp2
    go_end0
    have G : WG q w (w5.drew) := WG.drewN S3.out.g 1
    have EQ : bs ++ encF f = ((((bs ++ E (typeI f)) ++ E f.code) ++ E (f.data.length : Int)) ++ f.data) := by rw [HE.out]; try simp only [assocA]
    rw [EQ]
    refine ⟨rfl, (G.grown OW g4 (Nat.le_of_lt LW)).setAt _ _, _, Joins.block_setCell kk _, ?_⟩
    refine Own.kept ?_ (grownBy_set (World.grownBy.refl _ _) _ _ (.inl rfl)) (fun j hj e => by have := o4.blk j hj; simp only [Option.some.injEq] at e; omega)
    exact o4


set_option maxHeartbeats 3200000 in
theorem wframe_8 (q : Nat) (v : Value) (f : Fr) (da sa : Option Addr) (dc sc : Nat) (bs : List Int) (w : World) (ht : Tab w) (h : WAt w q v bs) (hb : bs.length ≤ 262144) (hq : 0 < q) (hk : f.kind = 8) (hst : 0 ≤ f.stream ∧ f.stream ≤ 4611686018427387903) (hof : 0 ≤ f.offset ∧ f.offset ≤ 4611686018427387903) (hdl : f.data.length ≤ 1200)
    (hd : ∀ V, Below q w V → Rd .u8 V (.slice da f.data.length dc) f.data) (hs : ∀ V, Below q w V → RdS V (.slice sa f.spans.length sc) f.spans) (hsb : ∀ b, sa = some b → 1 ≤ f.spans.length → b.block < q) :
    Calls Tryd.prog 21 #[.pointer (some ⟨q, 0, none⟩), .agg #[.int .i64 8, .int .i64 f.stream, .int .i64 f.offset, .int .i64 f.n, .int .i64 f.code, .bool f.fin, .slice da f.data.length dc, .slice sa f.spans.length sc]] w (WIs w q (bs ++ encF f)) := by
  have hlt := h.lt
  have HD : Hid (∀ V, Below q w V → Rd .u8 V (.slice da f.data.length dc) f.data) := hd
  have HS : Hid (∀ V, Below q w V → RdS V (.slice sa f.spans.length sc) f.spans) := hs
  have HB : Hid (∀ b, sa = some b → 1 ≤ f.spans.length → b.block < q) := hsb
  have PA : Hid (∀ V : World, Calls Tryd.prog 26 #[.int .i64 8] V fun e w' => e = .returned (.tuple #[.agg #[.bool true, .bool false, .bool true, .bool false, .bool false, .bool true, .bool true], .bool true]) ∧ Below V.heap.size V w') := fun V => partsOf_any 8 V
  have TA : Hid (∀ V : World, Calls Tryd.prog 40 #[.agg #[.int .i64 8, .int .i64 f.stream, .int .i64 f.offset, .int .i64 f.n, .int .i64 f.code, .bool f.fin, .slice da f.data.length dc, .slice sa f.spans.length sc]] V fun e w' => e = .returned (.int .i64 (typeI f)) ∧ Below V.heap.size V w') := fun V => by have := typeOf_any f da sa f.data.length f.spans.length dc sc V; rw [hk] at this; exact this
  have HE : Hid (encF f = E (typeI f) ++ (E f.stream ++ (E f.offset ++ (E (f.data.length : Int) ++ (f.data))))) := by
    have a1 : hStream f.kind = true := by rw [hk]; rfl
    have a2 : hCode f.kind = false := by rw [hk]; rfl
    have a3 : hOffset f.kind = true := by rw [hk]; rfl
    have a4 : hSpans f.kind = false := by rw [hk]; rfl
    have a5 : hN f.kind = false := by rw [hk]; rfl
    have a6 : hData f.kind = true := by rw [hk]; rfl
    show _ = _
    rw [encF, a1, a2, a3, a4, a5, a6]
    simp only [iteT, iteF, nilA, nilB]
  have hty : 0 ≤ typeI f ∧ typeI f ≤ 4611686018427387903 := by unfold typeI; rw [hk]; cases f.fin <;> simp
  have HA := Lib.hid h
  have HT := Lib.hid ht
  clear h ht hd hs hsb hk
  go_enter Tryd.func21, Tryd.ntmps21
  go_wp2_with fail
  refine (PA.out _).mono ?_
  rintro e w1 ⟨rfl, b1⟩
  have bX : Below w.heap.size w (w.alloc (.cells #[.int .i64 8, .int .i64 f.stream, .int .i64 f.offset, .int .i64 f.n, .int .i64 f.code, .bool f.fin, .slice da f.data.length dc, .slice sa f.spans.length sc] 33)) := (Below.refl _ _).alloc (Nat.le_refl _) _
  have B1 : Below w.heap.size w w1 := bX.trans (b1.mono (by simp))
  have k1 := (b1.block w.heap.size (by simp)).trans (alloc_at w (.cells #[.int .i64 8, .int .i64 f.stream, .int .i64 f.offset, .int .i64 f.n, .int .i64 f.code, .bool f.fin, .slice da f.data.length dc, .slice sa f.spans.length sc] 33))
  have lx := (Array.getElem?_eq_some_iff.1 k1).1
  have xk := fun i => Joins.cell_of_block k1 i
  have xk0 := xk 0
  have xk1 := xk 1
  have xk2 := xk 2
  have xk3 := xk 3
  have xk4 := xk 4
  have xk5 := xk 5
  have xk6 := xk 6
  have xk7 := xk 7
  go_wp2_with fail
  refine (TA.out _).mono ?_
  rintro e w2 ⟨rfl, b2⟩
  have bP : Below w1.heap.size w1 (w1.alloc (.cells #[.bool true, .bool false, .bool true, .bool false, .bool false, .bool true, .bool true] 52)) := (Below.refl _ _).alloc (Nat.le_refl _) _
  have B2 : Below w.heap.size w w2 := (B1.trans (bP.mono B1.size)).trans (b2.mono (by have := B1.size; simp; omega))
  have k2 := (b2.block w.heap.size (by simp; omega)).trans ((bP.block _ lx).trans k1)
  have k3 := (b2.block w1.heap.size (by simp)).trans (alloc_at w1 (.cells #[.bool true, .bool false, .bool true, .bool false, .bool false, .bool true, .bool true] 52))
  have z1 := B1.size
  have S0 := Lib.hid (WS.mk (w0 := w) (HA.out.below B2) (WG.of_below B2 (by omega)) (HT.out.below B2 HT.out.pos) k2 k3 hlt (by omega) hq)
  clear xk0 xk1 xk2 xk3 xk4 xk5 xk6 xk7 xk k1 k2 k3 bX B1 b1 b2 bP B2 HA HT
  go_wp2_with fail
  refine (wnumber_any q _ (typeI f) _ _ S0.out.tab S0.out.at_ hty.1 hty.2 (by skip; omega)).mono ?_
  rintro e w3 ⟨rfl, g1, v1, A1⟩
  have l1 := E_le (typeI f)
  have S1 := Lib.hid (S0.out.step g1 A1)
  have pc1 := fun i => Joins.cell_of_block S1.out.par i
  have pc10 := pc1 0
  have pc11 := pc1 1
  have pc12 := pc1 2
  have pc13 := pc1 3
  have pc14 := pc1 4
  have pc15 := pc1 5
  have pc16 := pc1 6
  have xc1 := fun i => Joins.cell_of_block S1.out.box i
  have xc10 := xc1 0
  have xc11 := xc1 1
  have xc12 := xc1 2
  have xc13 := xc1 3
  have xc14 := xc1 4
  have xc15 := xc1 5
  have xc16 := xc1 6
  have xc17 := xc1 7
  clear g1 A1
  go_wp2_with fail
  refine (wnumber_any q _ f.stream _ _ S1.out.tab S1.out.at_ hst.1 hst.2 (by simp only [List.length_append]; omega)).mono ?_
  rintro e w4 ⟨rfl, g2, v2, A2⟩
  have l2 := E_le f.stream
  have S2 := Lib.hid (S1.out.step g2 A2)
  have pc2 := fun i => Joins.cell_of_block S2.out.par i
  have pc20 := pc2 0
  have pc21 := pc2 1
  have pc22 := pc2 2
  have pc23 := pc2 3
  have pc24 := pc2 4
  have pc25 := pc2 5
  have pc26 := pc2 6
  have xc2 := fun i => Joins.cell_of_block S2.out.box i
  have xc20 := xc2 0
  have xc21 := xc2 1
  have xc22 := xc2 2
  have xc23 := xc2 3
  have xc24 := xc2 4
  have xc25 := xc2 5
  have xc26 := xc2 6
  have xc27 := xc2 7
  clear g2 A2
  skip
  go_wp2_with fail
  refine (wnumber_any q _ f.offset _ _ S2.out.tab S2.out.at_ hof.1 hof.2 (by simp only [List.length_append]; omega)).mono ?_
  rintro e w5 ⟨rfl, g3, v3, A3⟩
  have l3 := E_le f.offset
  have S3 := Lib.hid (S2.out.step g3 A3)
  have pc3 := fun i => Joins.cell_of_block S3.out.par i
  have pc30 := pc3 0
  have pc31 := pc3 1
  have pc32 := pc3 2
  have pc33 := pc3 3
  have pc34 := pc3 4
  have pc35 := pc3 5
  have pc36 := pc3 6
  have xc3 := fun i => Joins.cell_of_block S3.out.box i
  have xc30 := xc3 0
  have xc31 := xc3 1
  have xc32 := xc3 2
  have xc33 := xc3 3
  have xc34 := xc3 4
  have xc35 := xc3 5
  have xc36 := xc3 6
  have xc37 := xc3 7
  clear g3 A3
  skip
  go_wp2_with fail
  refine (wnumber_any q _ (f.data.length : Int) _ _ S3.out.tab S3.out.at_ (by omega) (by omega) (by simp only [List.length_append]; omega)).mono ?_
  rintro e w6 ⟨rfl, g4, v4, A4⟩
  have l4 := E_le (f.data.length : Int)
  have S4 := Lib.hid (S3.out.step g4 A4)
  have pc4 := fun i => Joins.cell_of_block S4.out.par i
  have pc40 := pc4 0
  have pc41 := pc4 1
  have pc42 := pc4 2
  have pc43 := pc4 3
  have pc44 := pc4 4
  have pc45 := pc4 5
  have pc46 := pc4 6
  have xc4 := fun i => Joins.cell_of_block S4.out.box i
  have xc40 := xc4 0
  have xc41 := xc4 1
  have xc42 := xc4 2
  have xc43 := xc4 3
  have xc44 := xc4 4
  have xc45 := xc4 5
  have xc46 := xc4 6
  have xc47 := xc4 7
  clear g4 A4
  skip
  have d0 := Joins.cell_of_block S4.out.at_.is 0
  obtain ⟨va, vc, hv⟩ := S4.out.at_.own.len
  generalize hnl : ((((bs ++ E (typeI f)) ++ E f.stream) ++ E f.offset) ++ E (f.data.length : Int)).length = nl at hv
  have HNL := Lib.hid hnl
  clear hnl
  subst hv
  go_wp2_with fail
  have d0' := d0
  have x6' := xc46
  have OW := Own.drew S4.out.at_.own
  have RW := (HD.out _ S4.out.g.bel).heap (W := w6.drew) rfl
  have KW := S4.out.at_.is
  have LW := S4.out.at_.lt
  have e0 : w6.drew.cell? ⟨q, 0, none⟩ = _ := d0
  have e1 : w6.drew.cell? ⟨w.heap.size, 6, none⟩ = _ := xc46
  go_region_law (refine step_append_rd rfl (.tmp 70) (.tmp 72) 23 rfl elemU8 Tryd.underlying23 (q + 1) (.slice va nl vc) ((((bs ++ E (typeI f)) ++ E f.stream) ++ E f.offset) ++ E (f.data.length : Int)) rfl OW (.slice da f.data.length dc) f.data rfl RW ?_ ?_ ?_ ?_; (simp only [List.length_append]; omega); (unfold maxLen; simp only [List.length_append]; omega); (show q + 1 ≤ w6.heap.size; omega); intro v5 w7 o5 g5; obtain ⟨a5, c5, hv5⟩ := Own.len o5; generalize hn5 : (((((bs ++ E (typeI f)) ++ E f.stream) ++ E f.offset) ++ E (f.data.length : Int)) ++ f.data).length = n5 at hv5; have HN5 := Lib.hid hn5; clear hn5; subst hv5; have kk := block_kept (w := w6.drew) KW g5 (fun e => by have := OW.blk _ e; omega); have cc := Joins.cell_of_block kk 0; have cf := Joins.unfrozen_of_block kk)
  all_goals
    go_wp2
    go_end0
    have G : WG q w (w6.drew) := WG.drewN S4.out.g 1
    have EQ : bs ++ encF f = (((((bs ++ E (typeI f)) ++ E f.stream) ++ E f.offset) ++ E (f.data.length : Int)) ++ f.data) := by rw [HE.out]; try simp only [assocA]
    rw [EQ]
    refine ⟨rfl, (G.grown OW g5 (Nat.le_of_lt LW)).setAt _ _, _, Joins.block_setCell kk _, ?_⟩
    refine Own.kept ?_ (grownBy_set (World.grownBy.refl _ _) _ _ (.inl rfl)) (fun j hj e => by have := o5.blk j hj; simp only [Option.some.injEq] at e; omega)
    exact o5
end Go.Proofs.YtfkkimaebhjneaaDoor
