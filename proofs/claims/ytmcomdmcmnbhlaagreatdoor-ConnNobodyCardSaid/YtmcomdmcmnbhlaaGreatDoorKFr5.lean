import Derived.Test.YtmcomdmcmnbhlaaGreatDoorKFr4
import Derived.Test.YtmcomdmcmnbhlaaGreatDoorKFr3
set_option maxRecDepth 100000
set_option maxHeartbeats 25600000
set_option linter.unusedSimpArgs false
set_option linter.unusedVariables false
set_option linter.unnecessarySimpa false
namespace Go.Proofs.YtmcomdmcmnbhlaaGreatDoor
open Go.RowKit
theorem wframe_2 (q : Nat) (v : Value) (f : Fr) (da sa : Option Addr) (dc sc : Nat) (bs : List Int) (w : World) (ht : Tab w) (h : WAt w q v bs) (hb : bs.length ≤ 262144) (hq : 0 < q) (hk : f.kind = 2) (hnn : 0 ≤ f.n ∧ f.n ≤ 4611686018427387903) (hris : Rises f.spans) (hl1 : 1 ≤ f.spans.length) (hl32 : f.spans.length ≤ 32)
  (hd : ∀ V,Below q w V → Rd .u8 V (.slice da f.data.length dc) f.data) (hs : ∀ V,Below q w V → RdS V (.slice sa f.spans.length sc) f.spans) (hsb : ∀ b,sa = some b → 1 ≤ f.spans.length → b.block < q) :
  Calls Tryz.prog 150 #[.pointer (some ⟨q,0,none⟩),.agg #[.int .i64 2,.int .i64 f.stream,.int .i64 f.offset,.int .i64 f.n,.int .i64 f.code,.bool f.fin,.slice da f.data.length dc,.slice sa f.spans.length sc]] w (WIs w q (bs ++ encF f)):=by
 have hlt:=h.lt
 have HD : Hid (∀ V,Below q w V → Rd .u8 V (.slice da f.data.length dc) f.data):=hd
 have HS : Hid (∀ V,Below q w V → RdS V (.slice sa f.spans.length sc) f.spans):=hs
 have HB : Hid (∀ b,sa = some b → 1 ≤ f.spans.length → b.block < q):=hsb
 have PA : Hid (∀ V : World,Calls Tryz.prog 159 #[.int .i64 2] V fun e w' => e = .returned (.tuple #[.agg #[.bool false,.bool false,.bool false,.bool true,.bool true,.bool false,.bool false],.bool true]) ∧ Below V.heap.size V w'):=fun V => partsOf_any 2 V
 have TA : Hid (∀ V : World,Calls Tryz.prog 197 #[.agg #[.int .i64 2,.int .i64 f.stream,.int .i64 f.offset,.int .i64 f.n,.int .i64 f.code,.bool f.fin,.slice da f.data.length dc,.slice sa f.spans.length sc]] V fun e w' => e = .returned (.int .i64 (typeI f)) ∧ Below V.heap.size V w'):=fun V => by have:=typeOf_any f da sa f.data.length f.spans.length dc sc V;rw [hk] at this;exact this
 have HE : Hid (encF f = E (typeI f) ++ (E (lastTo f.spans) ++ (E f.n ++ (spanBytes f.spans)))):=by
  have a1 : hStream f.kind = false:=by rw [hk];rfl
  have a2 : hCode f.kind = false:=by rw [hk];rfl
  have a3 : hOffset f.kind = false:=by rw [hk];rfl
  have a4 : hSpans f.kind = true:=by rw [hk];rfl
  have a5 : hN f.kind = true:=by rw [hk];rfl
  have a6 : hData f.kind = false:=by rw [hk];rfl
  show _ = _
  rw [encF,a1,a2,a3,a4,a5,a6]
  simp only [iteT,iteF,nilA,nilB]
 have hty : 0 ≤ typeI f ∧ typeI f ≤ 4611686018427387903:=by unfold typeI;rw [hk];simp
 have HA:=qhi h
 have HT:=qhi ht
 clear h ht hd hs hsb hk
 go_enter Tryz.func150,Tryz.ntmps150
 go_wp2_with fail
 refine (PA.out _).mono ?_
 rintro e w1 ⟨rfl,b1⟩
 have bX : Below w.heap.size w (w.alloc (.cells #[.int .i64 2,.int .i64 f.stream,.int .i64 f.offset,.int .i64 f.n,.int .i64 f.code,.bool f.fin,.slice da f.data.length dc,.slice sa f.spans.length sc] 102)):=(qbr _ _).alloc (qlr _) _
 have B1 : Below w.heap.size w w1:=bX.trans (b1.mono (by simp))
 have k1:=(b1.block w.heap.size (by simp)).trans (alloc_at4 w (.cells #[.int .i64 2,.int .i64 f.stream,.int .i64 f.offset,.int .i64 f.n,.int .i64 f.code,.bool f.fin,.slice da f.data.length dc,.slice sa f.spans.length sc] 102))
 have lx:=(qgs k1).1
 have xk:=fun i => qcb k1 i
 have xk0:=xk 0
 have xk1:=xk 1
 have xk2:=xk 2
 have xk3:=xk 3
 have xk4:=xk 4
 have xk5:=xk 5
 have xk6:=xk 6
 have xk7:=xk 7
 go_wp2_with fail
 refine (TA.out _).mono ?_
 rintro e w2 ⟨rfl,b2⟩
 have bP : Below w1.heap.size w1 (w1.alloc (.cells #[.bool false,.bool false,.bool false,.bool true,.bool true,.bool false,.bool false] 227)):=(qbr _ _).alloc (qlr _) _
 have B2 : Below w.heap.size w w2:=(B1.trans (bP.mono B1.size)).trans (b2.mono (by have:=B1.size;simp;omega))
 have k2:=(b2.block w.heap.size (by simp;omega)).trans ((bP.block _ lx).trans k1)
 have k3:=(b2.block w1.heap.size (by simp)).trans (alloc_at4 w1 (.cells #[.bool false,.bool false,.bool false,.bool true,.bool true,.bool false,.bool false] 227))
 have z1:=B1.size
 have S0:=qhi (WS.mk (w0:=w) (HA.out.below B2) (WG.of_below B2 (by omega)) (HT.out.below B2 HT.out.pos) k2 k3 hlt (by omega) hq)
 clear xk0 xk1 xk2 xk3 xk4 xk5 xk6 xk7 xk k1 k2 k3 bX B1 b1 b2 bP B2 HA HT
 go_wp2_with fail
 refine (wnumber_any q _ (typeI f) _ _ S0.out.tab S0.out.at_ hty.1 hty.2 (by skip;omega)).mono ?_
 rintro e w3 ⟨rfl,g1,v1,A1⟩
 have l1:=E_le (typeI f)
 have S1:=qhi (S0.out.step g1 A1)
 have pc1:=fun i => qcb S1.out.par i
 have pc10:=pc1 0
 have pc11:=pc1 1
 have pc12:=pc1 2
 have pc13:=pc1 3
 have pc14:=pc1 4
 have pc15:=pc1 5
 have pc16:=pc1 6
 have xc1:=fun i => qcb S1.out.box i
 have xc10:=xc1 0
 have xc11:=xc1 1
 have xc12:=xc1 2
 have xc13:=xc1 3
 have xc14:=xc1 4
 have xc15:=xc1 5
 have xc16:=xc1 6
 have xc17:=xc1 7
 clear g1 A1
 obtain ⟨sb,so,sc',e0,hbb⟩:=(HS.out _ S1.out.g.bel).form (by intro h;rw [h] at hl1;simp at hl1)
 simp only [Value.slice.injEq,true_and] at e0
 obtain ⟨e1,e2⟩:=e0
 subst e1
 subst e2
 have hsq:=HB.out _ rfl hl1
 simp only at hsq
 have HRI:=qhi hris
 clear hris
 have hla0:=HRI.out.at (f.spans.length - 1) (by omega)
 have hla : 0 ≤ lastTo f.spans ∧ lastTo f.spans ≤ 4611686018427387903:=by unfold lastTo;omega
 obtain ⟨m,hm⟩ : ∃ m,f.spans.length = m + 1:=⟨f.spans.length - 1,by omega⟩
 have lq:=((HS.out _ S1.out.g.bel).cells rfl (f.spans.length - 1) (by omega)).2
 have hlq : Hid ((f.spans.getD (f.spans.length - 1) (0,0)).2 = lastTo f.spans):=rfl
 rw [hlq.out] at lq
 have hwl : IntKind.i64.wrap ((f.spans.length : Int) - 1) = ((f.spans.length - 1 : Nat) : Int):=by rw [IntKind.wrap_i64];omega
 have hli : ((f.spans.length - 1 : Nat) : Int) < (f.spans.length : Int):=by omega
 have hli2 : f.spans.length - 1 < f.spans.length:=by omega
 have HM:=qhi hm
 clear hm hla0
 generalize f.spans.length - 1 = mm at lq hwl hli hli2
 go_wp2_with fail
 refine (wnumber_any q _ (lastTo f.spans) _ _ S1.out.tab S1.out.at_ hla.1 hla.2 (by simp only [List.length_append];omega)).mono ?_
 rintro e w4 ⟨rfl,g2,v2,A2⟩
 have l2:=E_le (lastTo f.spans)
 have S2:=qhi (S1.out.step g2 A2)
 have pc2:=fun i => qcb S2.out.par i
 have pc20:=pc2 0
 have pc21:=pc2 1
 have pc22:=pc2 2
 have pc23:=pc2 3
 have pc24:=pc2 4
 have pc25:=pc2 5
 have pc26:=pc2 6
 have xc2:=fun i => qcb S2.out.box i
 have xc20:=xc2 0
 have xc21:=xc2 1
 have xc22:=xc2 2
 have xc23:=xc2 3
 have xc24:=xc2 4
 have xc25:=xc2 5
 have xc26:=xc2 6
 have xc27:=xc2 7
 clear g2 A2
 skip
 go_wp2_with fail
 refine (wnumber_any q _ f.n _ _ S2.out.tab S2.out.at_ hnn.1 hnn.2 (by simp only [List.length_append];omega)).mono ?_
 rintro e w5 ⟨rfl,g3,v3,A3⟩
 have l3:=E_le f.n
 have S3:=qhi (S2.out.step g3 A3)
 have pc3:=fun i => qcb S3.out.par i
 have pc30:=pc3 0
 have pc31:=pc3 1
 have pc32:=pc3 2
 have pc33:=pc3 3
 have pc34:=pc3 4
 have pc35:=pc3 5
 have pc36:=pc3 6
 have xc3:=fun i => qcb S3.out.box i
 have xc30:=xc3 0
 have xc31:=xc3 1
 have xc32:=xc3 2
 have xc33:=xc3 3
 have xc34:=xc3 4
 have xc35:=xc3 5
 have xc36:=xc3 6
 have xc37:=xc3 7
 clear g3 A3
 skip
 go_wp2_with fail
 refine (wspans_any q _ sb so _ f.spans _ _ S3.out.tab S3.out.at_ (by simp only [List.length_append];omega) hq HRI.out hl1 hl32 (HS.out _ S3.out.g.bel) hsq).mono ?_
 rintro e w6 ⟨rfl,g4,v4,A4⟩
 have S4:=qhi (S3.out.step g4 A4)
 have pc4:=fun i => qcb S4.out.par i
 have pc40:=pc4 0
 have pc41:=pc4 1
 have pc42:=pc4 2
 have pc43:=pc4 3
 have pc44:=pc4 4
 have pc45:=pc4 5
 have pc46:=pc4 6
 have xc4:=fun i => qcb S4.out.box i
 have xc40:=xc4 0
 have xc41:=xc4 1
 have xc42:=xc4 2
 have xc43:=xc4 3
 have xc44:=xc4 4
 have xc45:=xc4 5
 have xc46:=xc4 6
 have xc47:=xc4 7
 clear g4 A4
 skip
 go_wp2_with fail
 go_end0
 have EQ : bs ++ encF f = ((((bs ++ E (typeI f)) ++ E (lastTo f.spans)) ++ E f.n) ++ spanBytes f.spans):=by rw [HE.out];try simp only [assocA]
 rw [EQ]
 exact ⟨rfl,S4.out.g,_,S4.out.at_⟩
theorem wframe_28 (q : Nat) (v : Value) (f : Fr) (da sa : Option Addr) (dc sc : Nat) (bs : List Int) (w : World) (ht : Tab w) (h : WAt w q v bs) (hb : bs.length ≤ 262144) (hq : 0 < q) (hk : f.kind = 28) (hcd : 0 ≤ f.code ∧ f.code ≤ 4611686018427387903) (hdl : f.data.length ≤ 1200)
  (hd : ∀ V,Below q w V → Rd .u8 V (.slice da f.data.length dc) f.data) (hs : ∀ V,Below q w V → RdS V (.slice sa f.spans.length sc) f.spans) (hsb : ∀ b,sa = some b → 1 ≤ f.spans.length → b.block < q) :
  Calls Tryz.prog 150 #[.pointer (some ⟨q,0,none⟩),.agg #[.int .i64 28,.int .i64 f.stream,.int .i64 f.offset,.int .i64 f.n,.int .i64 f.code,.bool f.fin,.slice da f.data.length dc,.slice sa f.spans.length sc]] w (WIs w q (bs ++ encF f)):=by
 have hlt:=h.lt
 have HD : Hid (∀ V,Below q w V → Rd .u8 V (.slice da f.data.length dc) f.data):=hd
 have HS : Hid (∀ V,Below q w V → RdS V (.slice sa f.spans.length sc) f.spans):=hs
 have HB : Hid (∀ b,sa = some b → 1 ≤ f.spans.length → b.block < q):=hsb
 have PA : Hid (∀ V : World,Calls Tryz.prog 159 #[.int .i64 28] V fun e w' => e = .returned (.tuple #[.agg #[.bool false,.bool true,.bool false,.bool false,.bool false,.bool true,.bool false],.bool true]) ∧ Below V.heap.size V w'):=fun V => partsOf_any 28 V
 have TA : Hid (∀ V : World,Calls Tryz.prog 197 #[.agg #[.int .i64 28,.int .i64 f.stream,.int .i64 f.offset,.int .i64 f.n,.int .i64 f.code,.bool f.fin,.slice da f.data.length dc,.slice sa f.spans.length sc]] V fun e w' => e = .returned (.int .i64 (typeI f)) ∧ Below V.heap.size V w'):=fun V => by have:=typeOf_any f da sa f.data.length f.spans.length dc sc V;rw [hk] at this;exact this
 have HE : Hid (encF f = E (typeI f) ++ (E f.code ++ (E (f.data.length : Int) ++ (f.data)))):=by
  have a1 : hStream f.kind = false:=by rw [hk];rfl
  have a2 : hCode f.kind = true:=by rw [hk];rfl
  have a3 : hOffset f.kind = false:=by rw [hk];rfl
  have a4 : hSpans f.kind = false:=by rw [hk];rfl
  have a5 : hN f.kind = false:=by rw [hk];rfl
  have a6 : hData f.kind = true:=by rw [hk];rfl
  show _ = _
  rw [encF,a1,a2,a3,a4,a5,a6]
  simp only [iteT,iteF,nilA,nilB]
 have hty : 0 ≤ typeI f ∧ typeI f ≤ 4611686018427387903:=by unfold typeI;rw [hk];simp
 have HA:=qhi h
 have HT:=qhi ht
 clear h ht hd hs hsb hk
 go_enter Tryz.func150,Tryz.ntmps150
 go_wp2_with fail
 refine (PA.out _).mono ?_
 rintro e w1 ⟨rfl,b1⟩
 have bX : Below w.heap.size w (w.alloc (.cells #[.int .i64 28,.int .i64 f.stream,.int .i64 f.offset,.int .i64 f.n,.int .i64 f.code,.bool f.fin,.slice da f.data.length dc,.slice sa f.spans.length sc] 102)):=(qbr _ _).alloc (qlr _) _
 have B1 : Below w.heap.size w w1:=bX.trans (b1.mono (by simp))
 have k1:=(b1.block w.heap.size (by simp)).trans (alloc_at4 w (.cells #[.int .i64 28,.int .i64 f.stream,.int .i64 f.offset,.int .i64 f.n,.int .i64 f.code,.bool f.fin,.slice da f.data.length dc,.slice sa f.spans.length sc] 102))
 have lx:=(qgs k1).1
 have xk:=fun i => qcb k1 i
 have xk0:=xk 0
 have xk1:=xk 1
 have xk2:=xk 2
 have xk3:=xk 3
 have xk4:=xk 4
 have xk5:=xk 5
 have xk6:=xk 6
 have xk7:=xk 7
 go_wp2_with fail
 refine (TA.out _).mono ?_
 rintro e w2 ⟨rfl,b2⟩
 have bP : Below w1.heap.size w1 (w1.alloc (.cells #[.bool false,.bool true,.bool false,.bool false,.bool false,.bool true,.bool false] 227)):=(qbr _ _).alloc (qlr _) _
 have B2 : Below w.heap.size w w2:=(B1.trans (bP.mono B1.size)).trans (b2.mono (by have:=B1.size;simp;omega))
 have k2:=(b2.block w.heap.size (by simp;omega)).trans ((bP.block _ lx).trans k1)
 have k3:=(b2.block w1.heap.size (by simp)).trans (alloc_at4 w1 (.cells #[.bool false,.bool true,.bool false,.bool false,.bool false,.bool true,.bool false] 227))
 have z1:=B1.size
 have S0:=qhi (WS.mk (w0:=w) (HA.out.below B2) (WG.of_below B2 (by omega)) (HT.out.below B2 HT.out.pos) k2 k3 hlt (by omega) hq)
 clear xk0 xk1 xk2 xk3 xk4 xk5 xk6 xk7 xk k1 k2 k3 bX B1 b1 b2 bP B2 HA HT
 go_wp2_with fail
 refine (wnumber_any q _ (typeI f) _ _ S0.out.tab S0.out.at_ hty.1 hty.2 (by skip;omega)).mono ?_
 rintro e w3 ⟨rfl,g1,v1,A1⟩
 have l1:=E_le (typeI f)
 have S1:=qhi (S0.out.step g1 A1)
 have pc1:=fun i => qcb S1.out.par i
 have pc10:=pc1 0
 have pc11:=pc1 1
 have pc12:=pc1 2
 have pc13:=pc1 3
 have pc14:=pc1 4
 have pc15:=pc1 5
 have pc16:=pc1 6
 have xc1:=fun i => qcb S1.out.box i
 have xc10:=xc1 0
 have xc11:=xc1 1
 have xc12:=xc1 2
 have xc13:=xc1 3
 have xc14:=xc1 4
 have xc15:=xc1 5
 have xc16:=xc1 6
 have xc17:=xc1 7
 clear g1 A1
 go_wp2_with fail
 refine (wnumber_any q _ f.code _ _ S1.out.tab S1.out.at_ hcd.1 hcd.2 (by simp only [List.length_append];omega)).mono ?_
 rintro e w4 ⟨rfl,g2,v2,A2⟩
 have l2:=E_le f.code
 have S2:=qhi (S1.out.step g2 A2)
 have pc2:=fun i => qcb S2.out.par i
 have pc20:=pc2 0
 have pc21:=pc2 1
 have pc22:=pc2 2
 have pc23:=pc2 3
 have pc24:=pc2 4
 have pc25:=pc2 5
 have pc26:=pc2 6
 have xc2:=fun i => qcb S2.out.box i
 have xc20:=xc2 0
 have xc21:=xc2 1
 have xc22:=xc2 2
 have xc23:=xc2 3
 have xc24:=xc2 4
 have xc25:=xc2 5
 have xc26:=xc2 6
 have xc27:=xc2 7
 clear g2 A2
 skip
 go_wp2_with fail
 refine (wnumber_any q _ (f.data.length : Int) _ _ S2.out.tab S2.out.at_ (by omega) (by omega) (by simp only [List.length_append];omega)).mono ?_
 rintro e w5 ⟨rfl,g3,v3,A3⟩
 have l3:=E_le (f.data.length : Int)
 have S3:=qhi (S2.out.step g3 A3)
 have pc3:=fun i => qcb S3.out.par i
 have pc30:=pc3 0
 have pc31:=pc3 1
 have pc32:=pc3 2
 have pc33:=pc3 3
 have pc34:=pc3 4
 have pc35:=pc3 5
 have pc36:=pc3 6
 have xc3:=fun i => qcb S3.out.box i
 have xc30:=xc3 0
 have xc31:=xc3 1
 have xc32:=xc3 2
 have xc33:=xc3 3
 have xc34:=xc3 4
 have xc35:=xc3 5
 have xc36:=xc3 6
 have xc37:=xc3 7
 clear g3 A3
 skip
 have d0:=qcb S3.out.at_.is 0
 obtain ⟨va,vc,hv⟩:=S3.out.at_.own.len
 generalize hnl : (((bs ++ E (typeI f)) ++ E f.code) ++ E (f.data.length : Int)).length = nl at hv
 have HNL:=qhi hnl
 clear hnl
 subst hv
 go_wp2_with fail
 have d0':=d0
 have x6':=xc36
 have OW:=Own.drew S3.out.at_.own
 have RW:=(HD.out _ S3.out.g.bel).heap (W:=w5.drew) rfl
 have KW:=S3.out.at_.is
 have LW:=S3.out.at_.lt
 have e0 : w5.drew.cell? ⟨q,0,none⟩ = _:=d0
 have e1 : w5.drew.cell? ⟨w.heap.size,6,none⟩ = _:=xc36
 go_region_law (refine step_append_rd rfl (.tmp 70) (.tmp 72) 29 rfl elemU81 Tryz.underlying29 (q + 1) (.slice va nl vc) (((bs ++ E (typeI f)) ++ E f.code) ++ E (f.data.length : Int)) rfl OW (.slice da f.data.length dc) f.data rfl RW ?_ ?_ ?_ ?_;(simp only [List.length_append];omega);(unfold maxLen;simp only [List.length_append];omega);(show q + 1 ≤ w5.heap.size;omega);intro v4 w6 o4 g4;obtain ⟨a4,c4,hv4⟩:=Own.len o4;generalize hn4 : ((((bs ++ E (typeI f)) ++ E f.code) ++ E (f.data.length : Int)) ++ f.data).length = n4 at hv4;have HN4:=qhi hn4;clear hn4;subst hv4;have kk:=block_kept (w:=w5.drew) KW g4 (fun e => by have:=OW.blk _ e;omega);have cc:=qcb kk 0;have cf:=qub kk)
 all_goals
  go_wp2
  go_end0
  have G : WG q w (w5.drew):=WG.drewN S3.out.g 1
  have EQ : bs ++ encF f = ((((bs ++ E (typeI f)) ++ E f.code) ++ E (f.data.length : Int)) ++ f.data):=by rw [HE.out];try simp only [assocA]
  rw [EQ]
  refine ⟨rfl,(G.grown OW g4 (Nat.le_of_lt LW)).setAt _ _,_,Joins.block_setCell kk _,?_⟩
  refine Own.kept ?_ (grownBy_set (World.grownBy.refl _ _) _ _ (.inl rfl)) (fun j hj e => by have:=o4.blk j hj;simp only [Option.some.injEq] at e;omega)
  exact o4
theorem wframe_8 (q : Nat) (v : Value) (f : Fr) (da sa : Option Addr) (dc sc : Nat) (bs : List Int) (w : World) (ht : Tab w) (h : WAt w q v bs) (hb : bs.length ≤ 262144) (hq : 0 < q) (hk : f.kind = 8) (hst : 0 ≤ f.stream ∧ f.stream ≤ 4611686018427387903) (hof : 0 ≤ f.offset ∧ f.offset ≤ 4611686018427387903) (hdl : f.data.length ≤ 1200)
  (hd : ∀ V,Below q w V → Rd .u8 V (.slice da f.data.length dc) f.data) (hs : ∀ V,Below q w V → RdS V (.slice sa f.spans.length sc) f.spans) (hsb : ∀ b,sa = some b → 1 ≤ f.spans.length → b.block < q) :
  Calls Tryz.prog 150 #[.pointer (some ⟨q,0,none⟩),.agg #[.int .i64 8,.int .i64 f.stream,.int .i64 f.offset,.int .i64 f.n,.int .i64 f.code,.bool f.fin,.slice da f.data.length dc,.slice sa f.spans.length sc]] w (WIs w q (bs ++ encF f)):=by
 have hlt:=h.lt
 have HD : Hid (∀ V,Below q w V → Rd .u8 V (.slice da f.data.length dc) f.data):=hd
 have HS : Hid (∀ V,Below q w V → RdS V (.slice sa f.spans.length sc) f.spans):=hs
 have HB : Hid (∀ b,sa = some b → 1 ≤ f.spans.length → b.block < q):=hsb
 have PA : Hid (∀ V : World,Calls Tryz.prog 159 #[.int .i64 8] V fun e w' => e = .returned (.tuple #[.agg #[.bool true,.bool false,.bool true,.bool false,.bool false,.bool true,.bool true],.bool true]) ∧ Below V.heap.size V w'):=fun V => partsOf_any 8 V
 have TA : Hid (∀ V : World,Calls Tryz.prog 197 #[.agg #[.int .i64 8,.int .i64 f.stream,.int .i64 f.offset,.int .i64 f.n,.int .i64 f.code,.bool f.fin,.slice da f.data.length dc,.slice sa f.spans.length sc]] V fun e w' => e = .returned (.int .i64 (typeI f)) ∧ Below V.heap.size V w'):=fun V => by have:=typeOf_any f da sa f.data.length f.spans.length dc sc V;rw [hk] at this;exact this
 have HE : Hid (encF f = E (typeI f) ++ (E f.stream ++ (E f.offset ++ (E (f.data.length : Int) ++ (f.data))))):=by
  have a1 : hStream f.kind = true:=by rw [hk];rfl
  have a2 : hCode f.kind = false:=by rw [hk];rfl
  have a3 : hOffset f.kind = true:=by rw [hk];rfl
  have a4 : hSpans f.kind = false:=by rw [hk];rfl
  have a5 : hN f.kind = false:=by rw [hk];rfl
  have a6 : hData f.kind = true:=by rw [hk];rfl
  show _ = _
  rw [encF,a1,a2,a3,a4,a5,a6]
  simp only [iteT,iteF,nilA,nilB]
 have hty : 0 ≤ typeI f ∧ typeI f ≤ 4611686018427387903:=by unfold typeI;rw [hk];cases f.fin <;> simp
 have HA:=qhi h
 have HT:=qhi ht
 clear h ht hd hs hsb hk
 go_enter Tryz.func150,Tryz.ntmps150
 go_wp2_with fail
 refine (PA.out _).mono ?_
 rintro e w1 ⟨rfl,b1⟩
 have bX : Below w.heap.size w (w.alloc (.cells #[.int .i64 8,.int .i64 f.stream,.int .i64 f.offset,.int .i64 f.n,.int .i64 f.code,.bool f.fin,.slice da f.data.length dc,.slice sa f.spans.length sc] 102)):=(qbr _ _).alloc (qlr _) _
 have B1 : Below w.heap.size w w1:=bX.trans (b1.mono (by simp))
 have k1:=(b1.block w.heap.size (by simp)).trans (alloc_at4 w (.cells #[.int .i64 8,.int .i64 f.stream,.int .i64 f.offset,.int .i64 f.n,.int .i64 f.code,.bool f.fin,.slice da f.data.length dc,.slice sa f.spans.length sc] 102))
 have lx:=(qgs k1).1
 have xk:=fun i => qcb k1 i
 have xk0:=xk 0
 have xk1:=xk 1
 have xk2:=xk 2
 have xk3:=xk 3
 have xk4:=xk 4
 have xk5:=xk 5
 have xk6:=xk 6
 have xk7:=xk 7
 go_wp2_with fail
 refine (TA.out _).mono ?_
 rintro e w2 ⟨rfl,b2⟩
 have bP : Below w1.heap.size w1 (w1.alloc (.cells #[.bool true,.bool false,.bool true,.bool false,.bool false,.bool true,.bool true] 227)):=(qbr _ _).alloc (qlr _) _
 have B2 : Below w.heap.size w w2:=(B1.trans (bP.mono B1.size)).trans (b2.mono (by have:=B1.size;simp;omega))
 have k2:=(b2.block w.heap.size (by simp;omega)).trans ((bP.block _ lx).trans k1)
 have k3:=(b2.block w1.heap.size (by simp)).trans (alloc_at4 w1 (.cells #[.bool true,.bool false,.bool true,.bool false,.bool false,.bool true,.bool true] 227))
 have z1:=B1.size
 have S0:=qhi (WS.mk (w0:=w) (HA.out.below B2) (WG.of_below B2 (by omega)) (HT.out.below B2 HT.out.pos) k2 k3 hlt (by omega) hq)
 clear xk0 xk1 xk2 xk3 xk4 xk5 xk6 xk7 xk k1 k2 k3 bX B1 b1 b2 bP B2 HA HT
 go_wp2_with fail
 refine (wnumber_any q _ (typeI f) _ _ S0.out.tab S0.out.at_ hty.1 hty.2 (by skip;omega)).mono ?_
 rintro e w3 ⟨rfl,g1,v1,A1⟩
 have l1:=E_le (typeI f)
 have S1:=qhi (S0.out.step g1 A1)
 have pc1:=fun i => qcb S1.out.par i
 have pc10:=pc1 0
 have pc11:=pc1 1
 have pc12:=pc1 2
 have pc13:=pc1 3
 have pc14:=pc1 4
 have pc15:=pc1 5
 have pc16:=pc1 6
 have xc1:=fun i => qcb S1.out.box i
 have xc10:=xc1 0
 have xc11:=xc1 1
 have xc12:=xc1 2
 have xc13:=xc1 3
 have xc14:=xc1 4
 have xc15:=xc1 5
 have xc16:=xc1 6
 have xc17:=xc1 7
 clear g1 A1
 go_wp2_with fail
 refine (wnumber_any q _ f.stream _ _ S1.out.tab S1.out.at_ hst.1 hst.2 (by simp only [List.length_append];omega)).mono ?_
 rintro e w4 ⟨rfl,g2,v2,A2⟩
 have l2:=E_le f.stream
 have S2:=qhi (S1.out.step g2 A2)
 have pc2:=fun i => qcb S2.out.par i
 have pc20:=pc2 0
 have pc21:=pc2 1
 have pc22:=pc2 2
 have pc23:=pc2 3
 have pc24:=pc2 4
 have pc25:=pc2 5
 have pc26:=pc2 6
 have xc2:=fun i => qcb S2.out.box i
 have xc20:=xc2 0
 have xc21:=xc2 1
 have xc22:=xc2 2
 have xc23:=xc2 3
 have xc24:=xc2 4
 have xc25:=xc2 5
 have xc26:=xc2 6
 have xc27:=xc2 7
 clear g2 A2
 skip
 go_wp2_with fail
 refine (wnumber_any q _ f.offset _ _ S2.out.tab S2.out.at_ hof.1 hof.2 (by simp only [List.length_append];omega)).mono ?_
 rintro e w5 ⟨rfl,g3,v3,A3⟩
 have l3:=E_le f.offset
 have S3:=qhi (S2.out.step g3 A3)
 have pc3:=fun i => qcb S3.out.par i
 have pc30:=pc3 0
 have pc31:=pc3 1
 have pc32:=pc3 2
 have pc33:=pc3 3
 have pc34:=pc3 4
 have pc35:=pc3 5
 have pc36:=pc3 6
 have xc3:=fun i => qcb S3.out.box i
 have xc30:=xc3 0
 have xc31:=xc3 1
 have xc32:=xc3 2
 have xc33:=xc3 3
 have xc34:=xc3 4
 have xc35:=xc3 5
 have xc36:=xc3 6
 have xc37:=xc3 7
 clear g3 A3
 skip
 go_wp2_with fail
 refine (wnumber_any q _ (f.data.length : Int) _ _ S3.out.tab S3.out.at_ (by omega) (by omega) (by simp only [List.length_append];omega)).mono ?_
 rintro e w6 ⟨rfl,g4,v4,A4⟩
 have l4:=E_le (f.data.length : Int)
 have S4:=qhi (S3.out.step g4 A4)
 have pc4:=fun i => qcb S4.out.par i
 have pc40:=pc4 0
 have pc41:=pc4 1
 have pc42:=pc4 2
 have pc43:=pc4 3
 have pc44:=pc4 4
 have pc45:=pc4 5
 have pc46:=pc4 6
 have xc4:=fun i => qcb S4.out.box i
 have xc40:=xc4 0
 have xc41:=xc4 1
 have xc42:=xc4 2
 have xc43:=xc4 3
 have xc44:=xc4 4
 have xc45:=xc4 5
 have xc46:=xc4 6
 have xc47:=xc4 7
 clear g4 A4
 skip
 have d0:=qcb S4.out.at_.is 0
 obtain ⟨va,vc,hv⟩:=S4.out.at_.own.len
 generalize hnl : ((((bs ++ E (typeI f)) ++ E f.stream) ++ E f.offset) ++ E (f.data.length : Int)).length = nl at hv
 have HNL:=qhi hnl
 clear hnl
 subst hv
 go_wp2_with fail
 have d0':=d0
 have x6':=xc46
 have OW:=Own.drew S4.out.at_.own
 have RW:=(HD.out _ S4.out.g.bel).heap (W:=w6.drew) rfl
 have KW:=S4.out.at_.is
 have LW:=S4.out.at_.lt
 have e0 : w6.drew.cell? ⟨q,0,none⟩ = _:=d0
 have e1 : w6.drew.cell? ⟨w.heap.size,6,none⟩ = _:=xc46
 go_region_law (refine step_append_rd rfl (.tmp 70) (.tmp 72) 29 rfl elemU81 Tryz.underlying29 (q + 1) (.slice va nl vc) ((((bs ++ E (typeI f)) ++ E f.stream) ++ E f.offset) ++ E (f.data.length : Int)) rfl OW (.slice da f.data.length dc) f.data rfl RW ?_ ?_ ?_ ?_;(simp only [List.length_append];omega);(unfold maxLen;simp only [List.length_append];omega);(show q + 1 ≤ w6.heap.size;omega);intro v5 w7 o5 g5;obtain ⟨a5,c5,hv5⟩:=Own.len o5;generalize hn5 : (((((bs ++ E (typeI f)) ++ E f.stream) ++ E f.offset) ++ E (f.data.length : Int)) ++ f.data).length = n5 at hv5;have HN5:=qhi hn5;clear hn5;subst hv5;have kk:=block_kept (w:=w6.drew) KW g5 (fun e => by have:=OW.blk _ e;omega);have cc:=qcb kk 0;have cf:=qub kk)
 all_goals
  go_wp2
  go_end0
  have G : WG q w (w6.drew):=WG.drewN S4.out.g 1
  have EQ : bs ++ encF f = (((((bs ++ E (typeI f)) ++ E f.stream) ++ E f.offset) ++ E (f.data.length : Int)) ++ f.data):=by rw [HE.out];try simp only [assocA]
  rw [EQ]
  refine ⟨rfl,(G.grown OW g5 (Nat.le_of_lt LW)).setAt _ _,_,Joins.block_setCell kk _,?_⟩
  refine Own.kept ?_ (grownBy_set (World.grownBy.refl _ _) _ _ (.inl rfl)) (fun j hj e => by have:=o5.blk j hj;simp only [Option.some.injEq] at e;omega)
  exact o5
theorem mayF_parts {f : Fr} (h : mayF f = true) : knownK f.kind ∧ numB f.stream (hStream f.kind) = true ∧ numB f.code (hCode f.kind) = true ∧ numB f.offset (hOffset f.kind) = true ∧ numB f.n (hN f.kind) = true ∧ spansB f.spans (hSpans f.kind) = true ∧ dataB f.data.length f.offset (hData f.kind) = true ∧ (hFin f.kind = true ∨ f.fin = false):=by
 unfold mayF at h
 simp only [Bool.and_eq_true,decide_eq_true_eq,Bool.or_eq_true,Bool.not_eq_true'] at h
 obtain ⟨⟨⟨⟨⟨⟨⟨h1,h2⟩,h3⟩,h4⟩,h5⟩,h6⟩,h7⟩,h8⟩:=h
 exact ⟨h1,h2,h3,h4,h5,h6,h7,h8⟩
theorem numB_yes {n : Int} {b : Bool} (h : numB n b = true) (hb : b = true) : 0 ≤ n ∧ n ≤ 4611686018427387903:=by subst hb;simpa [numB] using h
theorem numB_no {n : Int} {b : Bool} (h : numB n b = true) (hb : b = false) : n = 0:=by subst hb;simpa [numB] using h
theorem wframe_any (q : Nat) (v : Value) (f : Fr) (da sa : Option Addr) (dc sc : Nat) (bs : List Int) (w : World) (ht : Tab w) (h : WAt w q v bs) (hb : bs.length ≤ 262144) (hq : 0 < q) (hm : mayF f = true)
  (hd : ∀ V,Below q w V → Rd .u8 V (.slice da f.data.length dc) f.data) (hs : ∀ V,Below q w V → RdS V (.slice sa f.spans.length sc) f.spans) (hsb : ∀ b,sa = some b → 1 ≤ f.spans.length → b.block < q) :
  Calls Tryz.prog 150 #[.pointer (some ⟨q,0,none⟩),.agg #[.int .i64 f.kind,.int .i64 f.stream,.int .i64 f.offset,.int .i64 f.n,.int .i64 f.code,.bool f.fin,.slice da f.data.length dc,.slice sa f.spans.length sc]] w (WIs w q (bs ++ encF f)):=by
 obtain ⟨hk,h1,h2,h3,h4,h5,h6,h7⟩:=mayF_parts hm
 have st : hStream f.kind = true → 0 ≤ f.stream ∧ f.stream ≤ 4611686018427387903:=numB_yes h1
 have cd : hCode f.kind = true → 0 ≤ f.code ∧ f.code ≤ 4611686018427387903:=numB_yes h2
 have of : hOffset f.kind = true → 0 ≤ f.offset ∧ f.offset ≤ 4611686018427387903:=numB_yes h3
 have nn : hN f.kind = true → 0 ≤ f.n ∧ f.n ≤ 4611686018427387903:=numB_yes h4
 have sp : hSpans f.kind = true → Rises f.spans ∧ 1 ≤ f.spans.length ∧ f.spans.length ≤ 32:=fun e => by
  rw [e] at h5
  simp only [spansB,if_true,Bool.and_eq_true,decide_eq_true_eq] at h5
  exact ⟨Rises.of (Int.le_refl _) h5.2,h5.1.1,h5.1.2⟩
 have dl : hData f.kind = true → f.data.length ≤ 1200:=fun e => by
  rw [e] at h6
  simp only [dataB,if_true,decide_eq_true_eq] at h6
  exact h6.1
 unfold knownK at hk
 rcases hk with hk | hk | hk | hk | hk | hk | hk | hk | hk | hk | hk
 all_goals rw [hk] at st cd of nn sp dl
 ·have:=wframe_4 q v f da sa dc sc bs w ht h hb hq hk (st rfl) (cd rfl) (of rfl) hd hs hsb
  rwa [hk]
 ·have:=wframe_5 q v f da sa dc sc bs w ht h hb hq hk (st rfl) (cd rfl) hd hs hsb
  rwa [hk]
 ·have:=wframe_8 q v f da sa dc sc bs w ht h hb hq hk (st rfl) (of rfl) (dl rfl) hd hs hsb
  rwa [hk]
 ·have:=wframe_17 q v f da sa dc sc bs w ht h hb hq hk (st rfl) (nn rfl) hd hs hsb
  rwa [hk]
 ·have:=wframe_16 q v f da sa dc sc bs w ht h hb hq hk (nn rfl) hd hs hsb
  rwa [hk]
 ·have:=wframe_18 q v f da sa dc sc bs w ht h hb hq hk (nn rfl) hd hs hsb
  rwa [hk]
 ·have:=wframe_2 q v f da sa dc sc bs w ht h hb hq hk (nn rfl) (sp rfl).1 (sp rfl).2.1 (sp rfl).2.2 hd hs hsb
  rwa [hk]
 ·have:=wframe_28 q v f da sa dc sc bs w ht h hb hq hk (cd rfl) (dl rfl) hd hs hsb
  rwa [hk]
 ·have:=wframe_0 q v f da sa dc sc bs w ht h hb hq hk hd hs hsb
  rwa [hk]
 ·have:=wframe_1 q v f da sa dc sc bs w ht h hb hq hk hd hs hsb
  rwa [hk]
 ·have:=wframe_30 q v f da sa dc sc bs w ht h hb hq hk hd hs hsb
  rwa [hk]
theorem encF_le {f : Fr} (hm : mayF f = true) : (encF f).length ≤ 1800:=by
 obtain ⟨hk,h1,h2,h3,h4,h5,h6,h7⟩:=mayF_parts hm
 have a1:=E_le (typeI f)
 have a2:=E_le f.stream
 have a3:=E_le f.code
 have a4:=E_le f.offset
 have a5:=E_le (lastTo f.spans)
 have a6:=E_le f.n
 have a7:=E_le (f.data.length : Int)
 have a8 : (if hSpans f.kind then spanBytes f.spans else []).length ≤ 512:=by
  split
  ·rename_i e
   rw [e] at h5
   simp only [spansB,if_true,Bool.and_eq_true,decide_eq_true_eq] at h5
   have:=spanBytes_le f.spans
   omega
  ·simp
 have a9 : (if hData f.kind then E (f.data.length : Int) ++ f.data else []).length ≤ 1208:=by
  split
  ·rename_i e
   rw [e] at h6
   simp only [dataB,if_true,decide_eq_true_eq] at h6
   rw [List.length_append];omega
  ·simp
 have b : ∀ (c : Bool) (n : Int),(if c = true then E n else []).length ≤ 8:=fun c n => by
  cases c
  ·simp
  ·exact E_le n
 have b1:=b (hStream f.kind) f.stream
 have b2:=b (hCode f.kind) f.code
 have b3:=b (hOffset f.kind) f.offset
 have b4:=b (hSpans f.kind) (lastTo f.spans)
 have b5:=b (hN f.kind) f.n
 rw [encF]
 simp only [List.length_append]
 omega
theorem RdF.at {w : World} {b o n c : Nat} {fs : List Fr} (h : RdF w (.slice (some ⟨b,o,none⟩) n c) fs) (hb : b < w.heap.size) (k : Nat) (hk : k < fs.length) :
  ∃ (f : Fr) (da sa : Option Addr) (dc sc : Nat),fs[k]? = some f ∧ (∀ b,sa = some b → 1 ≤ f.spans.length → b.block < w.heap.size) ∧ ∀ W,Below w.heap.size w W →
   (W.cell? ⟨b,o + k * 8,none⟩ = some (.int .i64 f.kind) ∧ W.cell? ⟨b,o + k * 8 + 1,none⟩ = some (.int .i64 f.stream) ∧ W.cell? ⟨b,o + k * 8 + 2,none⟩ = some (.int .i64 f.offset) ∧ W.cell? ⟨b,o + k * 8 + 3,none⟩ = some (.int .i64 f.n) ∧
    W.cell? ⟨b,o + k * 8 + 4,none⟩ = some (.int .i64 f.code) ∧ W.cell? ⟨b,o + k * 8 + 5,none⟩ = some (.bool f.fin) ∧ W.cell? ⟨b,o + k * 8 + 6,none⟩ = some (.slice da f.data.length dc) ∧ W.cell? ⟨b,o + k * 8 + 7,none⟩ = some (.slice sa f.spans.length sc)) ∧
   Rd .u8 W (.slice da f.data.length dc) f.data ∧ RdS W (.slice sa f.spans.length sc) f.spans:=by
 obtain ⟨l,rfl,h2,h3⟩:=h
 rw [List.length_map] at hk
 have hn : n = l.length:=by obtain ⟨_,_,e,_⟩:=RdC.isSlice h2;simp only [Value.slice.injEq] at e;exact e.2.1
 subst hn
 obtain ⟨hd,hs⟩:=h3 l[k] (List.getElem_mem hk)
 obtain ⟨da,dc,e1⟩:=hd.isSlice
 obtain ⟨sa,sc,e2,_,_⟩:=RdC.isSlice hs
 have cell : ∀ W,Below w.heap.size w W → ∀ j u,j < 8 → (frCell l[k])[j]? = some u → W.cell? ⟨b,o + k * 8 + j,none⟩ = some u:=fun W hW j u hj hu =>
  (hW.cell (p:=⟨b,_,none⟩) hb).trans (RdC.cell h2 (k * 8 + j) u ((frC_get l k j hk hj).trans hu) _ (by omega))
 refine ⟨l[k].f,da,sa,dc,sc,by simp [hk],?_,fun W hW => ⟨⟨cell W hW 0 _ (by omega) rfl,cell W hW 1 _ (by omega) rfl,cell W hW 2 _ (by omega) rfl,cell W hW 3 _ (by omega) rfl,cell W hW 4 _ (by omega) rfl,cell W hW 5 _ (by omega) rfl,?_,?_⟩,?_,?_⟩⟩
 ·intro b' hb' h1
  rw [e2,hb'] at hs
  obtain ⟨_,⟨h0,_⟩ | ⟨_,b2,o2,c2,e,_,_,h4,_⟩⟩:=hs
  ·omega
  ·simp only [Value.slice.injEq,Option.some.injEq] at e
   rw [e.1];exact h4
 ·rw [← e1];exact cell W hW 6 _ (by omega) rfl
 ·rw [← e2];exact cell W hW 7 _ (by omega) rfl
 ·rw [← e1];exact hd.below hW
 ·rw [← e2];exact hs.below hW
theorem RdF.form {w : World} {v : Value} {fs : List Fr} (h : RdF w v fs) (hf : fs ≠ []) : ∃ b o c,v = .slice (some ⟨b,o,none⟩) fs.length c ∧ b < w.heap.size ∧ fs.length ≤ c ∧ c ≤ maxLen:=by
 obtain ⟨l,rfl,h2,h3⟩:=h
 rw [List.length_map]
 obtain ⟨_,⟨h0,_⟩ | ⟨_,b,o,c,rfl,hc,hm,h4,_⟩⟩:=h2
 ·exact absurd (by rw [List.length_eq_zero_iff.1 h0];rfl) hf
 ·exact ⟨b,o,c,rfl,h4,hc,hm⟩
def encFs (fs : List Fr) : List Int:=fs.flatMap encF
def encL (fs : List Fr) : Except Int (List Int):=if 64 < fs.length then .error 6 else if fs.all mayF = true then (if 1200 < (encFs fs).length then .error 6 else .ok (encFs fs)) else .error 1
def EncIs (w : World) (r : Except Int (List Int)) (e : Ending) (w' : World) : Prop:=Below w.heap.size w w' ∧ match r with
 | .ok bs => ∃ u,e = .returned (.tuple #[u,.int .i64 0]) ∧ Own .u8 5 w' w.heap.size u bs
 | .error c => e = .returned (.tuple #[.slice none 0 0,.int .i64 c])
theorem encode_long (v : Value) (fs : List Fr) (w : World) (hr : RdF w v fs) (hl : 64 < fs.length) : Calls Tryz.prog 108 #[v] w (EncIs w (.error 6)):=by
 obtain ⟨va,vc,rfl,_,_⟩:=hr.isSlice
 have t1 : decide (64 < (fs.length : Int)) = true:=qdt (by omega)
 clear hr
 go_enter Tryz.func108,Tryz.ntmps108
 go_wp2
 go_ret2
 exact ⟨qbr _ _,rfl⟩
theorem encode_short (b o c : Nat) (fs : List Fr) (w : World) (ht : Tab w) (hr : RdF w (.slice (some ⟨b,o,none⟩) fs.length c) fs) (hb : b < w.heap.size) (hl : fs.length ≤ 64) (hall : fs.all mayF = true) (r : Except Int (List Int)) (hres : r = if 1200 < (encFs fs).length then .error 6 else .ok (encFs fs)) :
  Calls Tryz.prog 108 #[.slice (some ⟨b,o,none⟩) fs.length c] w (EncIs w r):=by
 have HRS:=qhi hres
 have hp:=ht.pos
 have HT:=qhi ht
 have HR:=qhi hr
 have HAll:=qhi hall
 have t1 : decide (64 < (fs.length : Int)) = false:=qdf (by omega)
 clear ht hr hall hres
 go_enter Tryz.func108,Tryz.ntmps108
 go_wp2_with fail
 go_loopw [14] (fun i wr => ∃ (k : Nat),i = .int .i64 k ∧ k ≤ fs.length ∧ Below w.heap.size w wr) (fun i _ => fs.length - (intOf i).toNat)
 case atStart => exact ⟨0,rfl,Nat.zero_le _,qbr _ _⟩
 case round =>
  obtain ⟨k,rfl,hk,hbel⟩:=hrel
  have hz:=hbel.size
  by_cases hlt : k < fs.length
  ·obtain ⟨f,da,sa,dc,sc,hf,_,hw⟩:=HR.out.at hb k hlt
   obtain ⟨⟨q0,q1,q2,q3,q4,q5,q6,q7⟩,_,_⟩:=hw wr hbel
   have hmay : mayF f = true:=List.all_eq_true.1 HAll.out f (List.mem_of_getElem? hf)
   have bA : Below w.heap.size w (wr.alloc (.cells #[.int .i64 f.kind,.int .i64 f.stream,.int .i64 f.offset,.int .i64 f.n,.int .i64 f.code,.bool f.fin,.slice da f.data.length dc,.slice sa f.spans.length sc] 102)):=hbel.alloc hz _
   obtain ⟨_,hd,hs⟩:=hw _ bA
   have MA:=qhi (may_any4 f da sa dc sc _ hd hs)
   rw [hmay] at MA
   have hi1 : (k : Int) < (fs.length : Int):=by omega
   have hw1 : IntKind.i64.wrap ((k : Int) + 1) = (k : Int) + 1:=wraps_i64'1 _ (by omega) (by omega)
   clear hf hw hmay hd hs
   go_wp2_with (go_at_call 149;refine MA.out.mono ?_;rintro e w2 ⟨rfl,b2⟩)
   exact ⟨⟨k + 1,by go_num,by omega,bA.trans (b2.mono bA.size)⟩,by simp [intOf];omega⟩
  ·have hlt2 : decide ((k : Int) < (fs.length : Int)) = false:=qdf (by omega)
   go_wp2_with fail
   have bq : Below w.heap.size w (wr.alloc (.cells #[.slice none 0 0] 220)):=hbel.alloc hz _
   have A0 : WAt (wr.alloc (.cells #[.slice none 0 0] 220)) wr.heap.size (.slice none 0 0) []:=⟨alloc_at4 _ _,Own.nil _ _ _ _⟩
   have HA0:=qhi A0
   generalize hQ : wr.heap.size = q at A0 HA0 hz ⊢
   generalize wr.alloc (.cells #[.slice none 0 0] 220) = w5 at A0 HA0 bq ⊢
   clear hQ hbel A0
   go_loopw [24] (fun i wr => ∃ (k : Nat) (v : Value),i = .int .i64 k ∧ k ≤ fs.length ∧ WAt wr q v (encFs (fs.take k)) ∧ WG q w5 wr) (fun i _ => fs.length - (intOf i).toNat)
   case atStart => exact ⟨0,_,rfl,Nat.zero_le _,by simpa [encFs] using HA0.out,WG.refl _ _⟩
   case round =>
    obtain ⟨k,v,rfl,hk,hat,hg⟩:=hrel
    have B1 : Below w.heap.size w wr:=bq.trans (hg.bel.mono hz)
    have z1:=B1.size
    have HAT:=qhi hat
    obtain ⟨va,vc,hv⟩:=hat.own.len
    have hlen : (encFs (fs.take k)).length ≤ 1800 * k:=by
     have h1 : ∀ (l : List Fr),(∀ f ∈ l,mayF f = true) → (encFs l).length ≤ 1800 * l.length:=by
      intro l
      induction l with
      | nil => intro _;simp [encFs]
      | cons f l ih =>
        intro h
        have a:=encF_le (h f (by simp))
        have b:=ih fun g hg => h g (by simp [hg])
        simp only [encFs,List.flatMap_cons,List.length_append,List.length_cons] at b ⊢
        omega
     have:=h1 (fs.take k) (fun f hf => List.all_eq_true.1 HAll.out f (List.mem_of_mem_take hf))
     rw [List.length_take] at this
     omega
    by_cases hlt : k < fs.length
    ·obtain ⟨f,da,sa,dc,sc,hf,hsa,hw⟩:=HR.out.at hb k hlt
     obtain ⟨⟨q0,q1,q2,q3,q4,q5,q6,q7⟩,_,_⟩:=hw wr B1
     have hmay : mayF f = true:=List.all_eq_true.1 HAll.out f (List.mem_of_getElem? hf)
     have bA : Below wr.heap.size wr (wr.alloc (.cells #[.int .i64 f.kind,.int .i64 f.stream,.int .i64 f.offset,.int .i64 f.n,.int .i64 f.code,.bool f.fin,.slice da f.data.length dc,.slice sa f.spans.length sc] 102)):=(qbr _ _).alloc (qlr _) _
     have hTk : fs.take (k + 1) = fs.take k ++ [f]:=by
      rw [List.take_succ_eq_append_getElem hlt]
      have : fs[k] = f:=by rw [List.getElem?_eq_getElem hlt] at hf;exact Option.some.inj hf
      rw [this]
     have HTk : Hid (encFs (fs.take (k + 1)) = encFs (fs.take k) ++ encF f):=by show _ = _;rw [hTk];simp [encFs]
     have bw : ∀ V,Below q (wr.alloc (.cells #[.int .i64 f.kind,.int .i64 f.stream,.int .i64 f.offset,.int .i64 f.n,.int .i64 f.code,.bool f.fin,.slice da f.data.length dc,.slice sa f.spans.length sc] 102)) V → Below w.heap.size w V:=fun V hV => (B1.trans (bA.mono z1)).trans (hV.mono hz)
     have WA:=qhi (wframe_any q v f da sa dc sc (encFs (fs.take k)) _ (HT.out.below (B1.trans (bA.mono z1)) hp) (hat.below bA) (by omega) (by omega) hmay (fun V hV => (hw V (bw V hV)).2.1) (fun V hV => (hw V (bw V hV)).2.2) (fun b hb' h1 => Nat.lt_of_lt_of_le (hsa b hb' h1) hz))
     have hi1 : (k : Int) < (fs.length : Int):=by omega
     have hw1 : IntKind.i64.wrap ((k : Int) + 1) = (k : Int) + 1:=wraps_i64'1 _ (by omega) (by omega)
     have gA : WG q wr (wr.alloc (.cells #[.int .i64 f.kind,.int .i64 f.stream,.int .i64 f.offset,.int .i64 f.n,.int .i64 f.code,.bool f.fin,.slice da f.data.length dc,.slice sa f.spans.length sc] 102)):=WG.of_below bA (Nat.le_of_lt hat.lt)
     have HG:=qhi (hg.trans gA)
     clear hf hw hmay hTk hat hv hsa bw bA gA hg hlen
     go_wp2_with (go_at_call 150;refine WA.out.mono ?_;rintro e w2 ⟨rfl,g2,v2,A2⟩)
     exact ⟨⟨k + 1,v2,by go_num,by omega,by rw [HTk.out];exact A2,HG.out.trans g2⟩,by simp [intOf];omega⟩
    ·have hlt3 : decide ((k : Int) < (fs.length : Int)) = false:=qdf (by omega)
     have hkl : k = fs.length:=by omega
     have HE : Hid (encFs (fs.take k) = encFs fs):=by show _ = _;rw [hkl,List.take_length]
     have c0:=qcb hat.is 0
     subst hv
     generalize hbs : encFs (fs.take k) = bs at HAT HE c0
     clear hat hg hlen hkl hbs
     by_cases hbig : 1200 < bs.length
     ·have t5 : decide (1200 < (bs.length : Int)) = true:=qdt (by omega)
      have HE2 : Hid (r = .error 6):=by show _ = _;rw [HRS.out,← HE.out];exact if_pos hbig
      go_wp2
      go_ret2
      rw [HE2.out]
      exact ⟨B1,rfl⟩
     ·have t5 : decide (1200 < (bs.length : Int)) = false:=qdf (by omega)
      have HE2 : Hid (r = .ok bs):=by show _ = _;rw [HRS.out,← HE.out];exact if_neg hbig
      go_wp2
      go_ret2
      rw [HE2.out]
      exact ⟨B1,_,rfl,HAT.out.own.mono (by omega)⟩
theorem encode_bad (b o c : Nat) (fs : List Fr) (w : World) (hr : RdF w (.slice (some ⟨b,o,none⟩) fs.length c) fs) (hb : b < w.heap.size) (hl : fs.length ≤ 64) (hall : ¬ fs.all mayF = true) :
  Calls Tryz.prog 108 #[.slice (some ⟨b,o,none⟩) fs.length c] w (EncIs w (.error 1)):=by
 have HR:=qhi hr
 have HAll:=qhi hall
 have t1 : decide (64 < (fs.length : Int)) = false:=qdf (by omega)
 clear hr hall
 go_enter Tryz.func108,Tryz.ntmps108
 go_wp2_with fail
 go_loopw [14] (fun i wr => ∃ (k : Nat),i = .int .i64 k ∧ k ≤ fs.length ∧ (∀ f ∈ fs.take k,mayF f = true) ∧ Below w.heap.size w wr) (fun i _ => fs.length - (intOf i).toNat)
 case atStart => exact ⟨0,rfl,Nat.zero_le _,by simp,qbr _ _⟩
 case round =>
  obtain ⟨k,rfl,hk,hok,hbel⟩:=hrel
  have hz:=hbel.size
  have HOK : Hid (∀ f ∈ fs.take k,mayF f = true):=hok
  clear hok
  by_cases hlt : k < fs.length
  ·obtain ⟨f,da,sa,dc,sc,hf,_,hw⟩:=HR.out.at hb k hlt
   obtain ⟨⟨q0,q1,q2,q3,q4,q5,q6,q7⟩,_,_⟩:=hw wr hbel
   have bA : Below w.heap.size w (wr.alloc (.cells #[.int .i64 f.kind,.int .i64 f.stream,.int .i64 f.offset,.int .i64 f.n,.int .i64 f.code,.bool f.fin,.slice da f.data.length dc,.slice sa f.spans.length sc] 102)):=hbel.alloc hz _
   obtain ⟨_,hd,hs⟩:=hw _ bA
   have MA:=qhi (may_any4 f da sa dc sc _ hd hs)
   have hi1 : (k : Int) < (fs.length : Int):=by omega
   have hw1 : IntKind.i64.wrap ((k : Int) + 1) = (k : Int) + 1:=wraps_i64'1 _ (by omega) (by omega)
   have hTk : fs.take (k + 1) = fs.take k ++ [f]:=by
    rw [List.take_succ_eq_append_getElem hlt]
    have : fs[k] = f:=by rw [List.getElem?_eq_getElem hlt] at hf;exact Option.some.inj hf
    rw [this]
   cases hmay : mayF f
   ·rw [hmay] at MA
    clear hf hw hmay hd hs hTk
    go_wp2_with (go_at_call 149;refine MA.out.mono ?_;rintro e w2 ⟨rfl,b2⟩)
    go_ret2
    exact ⟨bA.trans (b2.mono bA.size),rfl⟩
   ·rw [hmay] at MA
    have HN : Hid (∀ g ∈ fs.take (k + 1),mayF g = true):=fun g hg => by
     rw [hTk] at hg
     rcases List.mem_append.1 hg with h | h
     ·exact HOK.out g h
     ·simp at h;subst h;exact hmay
    clear hf hw hmay hd hs hTk
    go_wp2_with (go_at_call 149;refine MA.out.mono ?_;rintro e w2 ⟨rfl,b2⟩)
    exact ⟨⟨k + 1,by go_num,by omega,HN.out,bA.trans (b2.mono bA.size)⟩,by simp [intOf];omega⟩
  ·exact absurd (by
    have hkl : k = fs.length:=by omega
    have h:=HOK.out
    rw [hkl,List.take_length] at h
    exact List.all_eq_true.2 h) HAll.out
theorem encode_empty (va : Option Addr) (vc : Nat) (w : World) : Calls Tryz.prog 108 #[.slice va 0 vc] w (EncIs w (.ok [])):=by
 go_enter Tryz.func108,Tryz.ntmps108
 go_wp2_with fail
 refine wp_loop_rounds 1 ?_
 rw [rounds_succ]
 go_wp2_with fail
 refine wp_loop_rounds 1 ?_
 rw [rounds_succ]
 go_wp2
 go_ret2
 exact ⟨(qbr _ _).alloc (qlr _) _,_,rfl,Own.nil _ _ _ _⟩
theorem encode_any (v : Value) (fs : List Fr) (w : World) (ht : Tab w) (hr : RdF w v fs) : Calls Tryz.prog 108 #[v] w (EncIs w (encL fs)):=by
 by_cases hl : 64 < fs.length
 ·have e : encL fs = .error 6:=if_pos hl
  rw [e]
  exact encode_long v fs w hr hl
 by_cases h0 : fs = []
 ·subst h0
  obtain ⟨va,vc,rfl,_,_⟩:=hr.isSlice
  exact encode_empty va vc w
 obtain ⟨b,o,c,rfl,hb,_,_⟩:=hr.form h0
 by_cases hall : fs.all mayF = true
 ·have e : encL fs = if 1200 < (encFs fs).length then .error 6 else .ok (encFs fs):=by unfold encL;rw [if_neg hl,if_pos hall]
  exact encode_short b o c fs w ht hr hb (by omega) hall _ e
 ·have e : encL fs = .error 1:=by unfold encL;rw [if_neg hl,if_neg hall]
  rw [e]
  exact encode_bad b o c fs w hr hb (by omega) hall
structure LS (xs : List Int) (w W : World) (v : Value) (tot : Except (Int × Int) (List Fr)) (k i : Nat) (l : List Fr) : Prop where
 is : decGo xs k i l = tot
 len : l.length + k = 64
 pl : i ≤ xs.length
 at_ : At W (w.heap.size + 2) v i
 row : ∃ u,W.heap[w.heap.size]? = some (.cells #[u] 97 (0,0)) ∧ OwnF W (w.heap.size + 3) u l
 flt : W.heap[w.heap.size + 1]? = some (.cells #[.int .i64 0,.int .i64 0] 147 (0,0))
 bel : Below w.heap.size w W
theorem LS.start {xs : List Int} {w : World} {v : Value} : LS xs w (((w.alloc (.cells #[.slice none 0 0] 97)).alloc (.cells #[.int .i64 0,.int .i64 0] 147)).alloc (.cells #[v,.int .i64 0] 198)) v (decGo xs 64 0 []) 64 0 []:=by
 refine ⟨rfl,rfl,Nat.zero_le _,⟨?_⟩,⟨_,?_,OwnF.nil _ _⟩,?_,(((qbr _ _).alloc (qlr _) _).alloc (by simp) _).alloc (by simp;omega) _⟩
 ·have:=alloc_at4 ((w.alloc (.cells #[.slice none 0 0] 97)).alloc (.cells #[.int .i64 0,.int .i64 0] 147)) (.cells #[v,.int .i64 0] 198)
  simp only [World.size_alloc] at this
  exact this
 ·exact (Below.heap_alloc _ _ _ (by simp;omega)).trans ((Below.heap_alloc _ _ _ (by simp)).trans (alloc_at4 _ _))
 ·refine (Below.heap_alloc _ _ _ (by simp)).trans ?_
  have:=alloc_at4 (w.alloc (.cells #[.slice none 0 0] 97)) (.cells #[.int .i64 0,.int .i64 0] 147)
  simp only [World.size_alloc] at this
  exact this
theorem rows_apart {w : World} {B B' e e' m m' n n' : Nat} {v v' : Value} {fl fl' : List Value} (h : w.ownsRow B e m v n fl) (h' : w.ownsRow B' e' m' v' n' fl') (hne : e ≠ e') (j : Nat) (hj : v.ownBlock = some j) : v'.ownBlock ≠ some j:=by
 intro hj'
 rcases h.2 with ⟨rfl,_⟩ | ⟨g,cap,cur,rfl,_,hg,_⟩
 ·cases hj
 ·rcases h'.2 with ⟨rfl,_⟩ | ⟨g',cap',cur',rfl,_,hg',_⟩
  ·cases hj'
  ·simp only [Value.ownBlock,Option.some.injEq] at hj hj'
   subst hj;subst hj'
   rw [hg] at hg'
   simp only [Option.some.injEq,Obj.cells.injEq] at hg'
   exact hne hg'.2.1
theorem LS.next {xs : List Int} {w wr w5 w7 : World} {v u v7 dv sv old : Value} {o : Obj} {tot : Except (Int × Int) (List Fr)} {k i j : Nat} {l : List Fr} {lv : List FV} {f : Fr}
  (S : LS xs w wr v tot (k + 1) i l) (hlv : lv.map FV.f = l) (hparts : ∀ g ∈ lv,Own .u8 5 wr (w.heap.size + 3) g.dv g.f.data ∧ OwnS wr (w.heap.size + 3) g.sv g.f.spans) (own : wr.drew.ownsRow (w.heap.size + 3) 102 8 u lv.length (frC lv))
  (HE : decGo xs k j (l ++ [f]) = tot) (hj : j ≤ xs.length) (g5 : wr.drew.grownBy w5 (some (w.heap.size + 2))) (OD : Own .u8 5 w5 wr.drew.heap.size dv f.data) (OS : OwnS w5 wr.drew.heap.size sv f.spans) (A5 : At w5 (w.heap.size + 2) v j)
  (o7 : w7.ownsRow (w.heap.size + 3) 102 8 v7 (lv.length + 1) (frC lv ++ frCell ⟨f,dv,sv⟩)) (g7 : (w5.alloc o).grownBy w7 u.ownBlock) (k7 : w7.heap[w.heap.size]? = some (.cells #[old] 97 (0,0))) :
  LS xs w (w7.setCell ⟨w.heap.size,0,none⟩ v7) v tot k j (l ++ [f]):=by
 have hB : ∀ jj,u.ownBlock = some jj → w.heap.size + 3 ≤ jj:=fun jj h => (World.ownsRow.lt own jj h).1
 have hsz : w.heap.size + 2 < wr.heap.size:=S.at_.lt
 have b5 : Below w.heap.size w w5:=(qbd S.bel 1).grown g5 S.bel.size (fun kk h => by simp only [Option.some.injEq] at h;omega)
 have b7 : Below w.heap.size w w7:=(b5.alloc b5.size o).grown g7 (Nat.le_trans b5.size (by simp)) (fun kk h => by have:=hB kk h;omega)
 have own5 : w5.ownsRow (w.heap.size + 3) 102 8 u lv.length (frC lv):=World.ownsRow.kept own g5 (.inr fun e => by have:=hB _ e;omega)
 have gS : w7.grownBy (w7.setCell ⟨w.heap.size,0,none⟩ v7) (some w.heap.size):=grownBy_set (World.grownBy.refl _ _) _ _ (.inl rfl)
 have lift : ∀ {dv : Value} {ds : List Int},Own .u8 5 w5 (w.heap.size + 3) dv ds → Own .u8 5 (w7.setCell ⟨w.heap.size,0,none⟩ v7) (w.heap.size + 3) dv ds:=fun {dv ds} h => by
  refine Own.kept (Own.kept (Own.alloc h o) g7 fun jj h1 h2 => ?_) gS fun jj h1 h2 => ?_
  ·exact rows_apart own5 h (by decide) jj h2 h1
  ·have:=h.blk jj h1;simp only [Option.some.injEq] at h2;omega
 have liftS : ∀ {sv : Value} {ss : List (Int × Int)},OwnS w5 (w.heap.size + 3) sv ss → OwnS (w7.setCell ⟨w.heap.size,0,none⟩ v7) (w.heap.size + 3) sv ss:=fun {sv ss} h => by
  refine OwnS.kept (OwnS.kept (OwnS.kept h (World.grownBy_alloc w5 o none) (by simp)) g7 fun jj h1 h2 => ?_) gS fun jj h1 h2 => ?_
  ·exact rows_apart own5 h (by decide) jj h2 h1
  ·have:=h.blk jj h1;simp only [Option.some.injEq] at h2;omega
 refine ⟨HE,by have:=S.len;simp;omega,hj,?_,⟨v7,Joins.block_setCell k7 v7,?_⟩,?_,b7.setCell (qlr _) _⟩
 ·have:=(A5.alloc o).keptG g7 (fun e => by have:=hB _ e;omega)
  exact this.other (q:=⟨w.heap.size,0,none⟩) (by show w.heap.size + 2 ≠ w.heap.size;omega) _
 ·rw [← hlv]
  refine OwnF.snoc (g:=⟨f,dv,sv⟩) (fun g hg => ⟨lift (Own.kept (Own.drew (hparts g hg).1) g5 fun jj h1 h2 => ?_),liftS (OwnS.kept (w:=wr.drew) (World.ownsRow.drew (hparts g hg).2) g5 fun jj h1 h2 => ?_)⟩) ⟨lift (OD.mono (by show w.heap.size + 3 ≤ wr.heap.size;omega)),liftS (OS.mono (by show w.heap.size + 3 ≤ wr.heap.size;omega))⟩ (World.ownsRow.kept o7 gS (.inr fun e => by have:=(World.ownsRow.lt o7 _ e).1;omega))
  ·have:=(hparts g hg).1.blk jj h1;simp only [Option.some.injEq] at h2;omega
  ·have:=(hparts g hg).2.blk jj h1;simp only [Option.some.injEq] at h2;omega
 ·have f5 : w5.heap[w.heap.size + 1]? = _:=block_kept (w:=wr.drew) S.flt g5 (by simp)
  have f7:=block_kept ((Below.heap_alloc w5 o _ (qgs f5).1).trans f5) g7 (fun e => by have:=hB _ e;omega)
  exact (Below.heap_setCell _ _ _ _ (by show w.heap.size + 1 ≠ w.heap.size;omega)).trans f7
theorem decode_go (b o c : Nat) (xs : List Int) (w : World) (ht : Tab w) (hr : Rd .u8 w (.slice (some ⟨b,o,none⟩) xs.length c) xs) (hx : Bts xs) (hl : xs.length ≤ 1200) (h0 : 0 < xs.length) (hb : b < w.heap.size) :
  Calls Tryz.prog 76 #[.slice (some ⟨b,o,none⟩) xs.length c] w (DecIs w (decGo xs 64 0 [])):=by
 have hmf : ∀ (fn : Fn) (first cap : Array Value) (w : World),(Instr.makeFunc fn first cap).run Tryz.prog w = .ok (.func fn first cap) w:=fun _ _ _ _ => rfl
 have t1 : decide (1200 < (xs.length : Int)) = false:=qdf (by omega)
 have HT:=qhi ht
 have HR:=qhi hr
 have HX:=qhi hx
 have hp:=ht.pos
 have ST:=qhi (LS.start (xs:=xs) (w:=w) (v:=.slice (some ⟨b,o,none⟩) xs.length c))
 clear ht hr hx
 go_enter_defers Tryz.func76,Tryz.ntmps76
 go_wp2_with fail
 generalize ((w.alloc (.cells #[.slice none 0 0] 97)).alloc (.cells #[.int .i64 0,.int .i64 0] 147)).alloc (.cells #[.slice (some ⟨b,o,none⟩) xs.length c,.int .i64 0] 198) = w4 at ST ⊢
 generalize htot : decGo xs 64 0 [] = tot at ST ⊢
 have HT0:=qhi htot
 clear htot
 go_loopg [] 64 (fun k wr => ∃ (i : Nat) (l : List Fr),LS xs w wr (.slice (some ⟨b,o,none⟩) xs.length c) tot k i l)
 case atStart => exact ⟨0,[],ST.out⟩
 case round =>
  obtain ⟨i,l,S0⟩:=hrel
  have S:=qhi S0
  obtain ⟨u,hu,lv,hlv,hown,hparts⟩:=S0.row
  have hll : l.length = lv.length:=by rw [← hlv,List.length_map]
  obtain ⟨ua,uc,rfl,_,_⟩:=(RdC.of_owns hown).isSlice
  have c0:=S0.at_.c0
  have c1:=S0.at_.c1
  have cl:=qcb hu 0
  have HU:=qhi hu
  have HO:=qhi (World.ownsRow.drew hown)
  have HPs:=qhi hparts
  have HLV:=qhi hlv
  by_cases hi : i < xs.length
  ·have hi1 : (i : Int) < (xs.length : Int):=by omega
   cases gk with
   | zero =>
     have e64 : l.length = 64:=by have:=S0.len;omega
     have HE : Hid (tot = .error (6,i)):=by show _ = _;rw [← S0.is];unfold decGo;exact if_pos hi
     have h64 : ((lv.length : Int) == 64) = true:=by simp;omega
     clear S0 hu hown hparts hlv hll
     go_wp2_with (go_at_call 120;refine (breakOff_any _ _ _ _).mono ?_;rintro e w' ⟨rfl,rfl⟩)
     exact door_fault w.heap.size (w.heap.size + 1) w wr 6 i 0 0 _ tot HE.out HU.out S.out.flt (by simp) S.out.bel (qlr _) (by omega) _ rfl rfl
   | succ k =>
     have h64 : ((lv.length : Int) == 64) = false:=by have:=S0.len;simp;omega
     have TW : Hid (∀ V : World,Below w.heap.size w V → Tab V):=fun V hV => HT.out.below hV hp
     have RW : Hid (∀ V : World,Below w.heap.size w V → Rd .u8 V (.slice (some ⟨b,o,none⟩) xs.length c) xs):=fun V hV => HR.out.below hV
     have bD : Below w.heap.size w wr.drew:=qbd S0.bel 1
     have FR:=qhi (rframe_any (w.heap.size + 2) b o c xs i wr.drew (TW.out _ bD) S0.at_.drew (RW.out _ bD) HX.out hi (by omega) (by omega) (by omega) (by have:=S0.bel.size;show b < wr.heap.size;omega))
     have cl' : wr.drew.cell? ⟨w.heap.size,0,none⟩ = some (.slice ua lv.length uc):=cl
     have HUd : Hid (wr.drew.heap[w.heap.size]? = some (.cells #[.slice ua lv.length uc] 97 (0,0))):=hu
     have FLd : Hid (wr.drew.heap[w.heap.size + 1]? = some (.cells #[.int .i64 0,.int .i64 0] 147 (0,0))):=S0.flt
     have neU : some (w.heap.size + 2) ≠ some w.heap.size:=by simp
     have neF : some (w.heap.size + 2) ≠ some (w.heap.size + 1):=by simp
     have neA : w.heap.size ≠ w.heap.size + 1:=by simp
     have neP : ∀ k,some (w.heap.size + 2) = some k → w.heap.size ≤ k:=fun k h => by simp only [Option.some.injEq] at h;omega
     cases hf : frameR xs i with
     | error e =>
       obtain ⟨y,z⟩:=e
       have HF : Hid (frameR xs i = .error (y,z)):=hf
       have HE : Hid (tot = .error (y,z)):=by show _ = _;rw [← S0.is];unfold decGo;rw [if_pos hi,hf]
       clear S0 hu hown hf hparts hlv hll
       go_wp2_with fail
       refine wp_region_any (by kernel_rfl) ?_
       change wpAny _ _ _ _ _ _ _ (World.drew _)
       refine wpAny_ready (rs:=[0,1]) (by kernel_rfl) (by simp) ?_
       refine AllReady.cons rfl (fun K hK => ?_) ?_
       ·go_simp
        refine hK _ _ ?_
        clear hK
        refine wpAny_ready (rs:=[1]) (by kernel_rfl) (by simp) ?_
        refine AllReady.cons rfl (fun K hK => ?_) AllReady.nil
        go_simp
        go_at_call 121
        refine FR.out.mono ?_
        rintro e w5 h5
        obtain ⟨g5,rfl⟩:=h5.err HF.out
        exact door_fault w.heap.size (w.heap.size + 1) w w5 y z 0 0 _ tot HE.out (block_kept HUd.out g5 neU) (block_kept FLd.out g5 neF) neA (bD.grown g5 bD.size neP) (qlr _) (Nat.le_succ _) _ rfl rfl
       ·refine AllReady.cons rfl (fun K hK => ?_) AllReady.nil
        go_simp
        go_at_call 121
        refine FR.out.mono ?_
        rintro e w5 h5
        obtain ⟨g5,rfl⟩:=h5.err HF.out
        exact door_fault w.heap.size (w.heap.size + 1) w w5 y z 0 0 _ tot HE.out (block_kept HUd.out g5 neU) (block_kept FLd.out g5 neF) neA (bD.grown g5 bD.size neP) (qlr _) (Nat.le_succ _) _ rfl rfl
     | ok y =>
       obtain ⟨f,j⟩:=y
       have HF : Hid (frameR xs i = .ok (f,j)):=hf
       have HE : Hid (decGo xs k j (l ++ [f]) = tot):=by show _ = _;rw [← S0.is,decGo,if_pos hi,hf]
       have HJ:=qhi (frameR_pos HX.out hi hf)
       have neB : (Value.slice ua lv.length uc).ownBlock ≠ some w.heap.size:=fun e => by have:=(World.ownsRow.lt hown _ e).1;omega
       have neP3 : (Value.slice ua lv.length uc).ownBlock ≠ some (w.heap.size + 2):=fun e => by have:=(World.ownsRow.lt hown _ e).1;omega
       have hlen:=S0.len
       have hk64 : lv.length + 1 ≤ 64:=by omega
       clear S0 hu hown hf hparts hlv
       go_wp2_with fail
       go_region_law (first
        | (refine step_append_rows rfl (.tmp 23) (.tmp 25) 97 rfl elemFrame Tryz.underlying97 (w.heap.size + 3) (.slice ua lv.length uc) lv.length (frC lv) rfl (World.ownsRow.alloc (World.ownsRow.kept HO.out g5 (.inr neP2)) _) (.slice (some ⟨w5.heap.size,0,none⟩) 1 1) 1 _ rfl (RdC.built 8 w5 _ _ rfl) ?_ ?_ ?_ ?_ ?_;(exact frC_one (l:=[⟨f,.slice da f.data.length dc,.slice sa f.spans.length sc⟩]) (fun g hg => by simp only [List.mem_singleton] at hg;subst hg;exact ⟨rfl,rfl⟩));(omega);(unfold maxLen;omega);(simp;omega);intro v7 w7 o7 g7;obtain ⟨va7,vc7,rfl,_,_⟩:=(RdC.of_owns o7).isSlice;have k7:=block_kept ((Below.heap_alloc _ _ _ lt5).trans k5) g7 neB;have c7:=qcb k7 0;have f7:=qub k7)
        | (go_simp;go_at_call 121;refine FR.out.mono ?_;rintro e w5 h5;obtain ⟨g5,⟨u5,rfl,dv,sv,rfl,OD,OS⟩,A5⟩:=h5.ok HF.out;obtain ⟨da,dc,rfl⟩:=Own.len OD;obtain ⟨sa,sc,rfl,_,_⟩:=(OwnS.rd OS).isSlice;have k5:=block_kept HUd.out g5 neU;have c5:=qcb k5 0;have lt5:=(qgs k5).1;have ltA:=A5.lt;have neP2 : (Value.slice ua lv.length uc).ownBlock ≠ some (w.heap.size + 2):=neP3))
       all_goals
        go_wp2
        go_roundg k
        case measure => omega
        case rel => exact ⟨j,l ++ [f],LS.next S.out HLV.out HPs.out HO.out HE.out HJ.out.2 g5 OD OS A5 o7 g7 k7⟩
  ·have hi1 : ¬ ((i : Int) < (xs.length : Int)):=by omega
   have hi2 : decide ((i : Int) < (xs.length : Int)) = false:=qdf hi1
   have HE : Hid (tot = .ok l):=by
    show _ = _
    rw [← S0.is]
    cases gk <;> unfold decGo <;> rw [if_neg hi]
   have HFl:=qcb S0.flt
   have fl0:=HFl 0
   have fl1:=HFl 1
   have ffl:=qub S0.flt
   have fcl:=qub hu
   clear S0 hu hown hparts hlv hll hi
   go_wp2
   refine leaves_cons (f:=119) (args:=#[.pointer (some ⟨w.heap.size,0,none⟩),.pointer (some ⟨w.heap.size + 1,0,none⟩)]) (by simp) (by simp [go_sem]) ?_
   refine (catch_idle w.heap.size (w.heap.size + 1) _).mono ?_
   rintro e u' w'' ⟨rfl,rfl,rfl⟩
   have bl : Below w.heap.size w (((wr.setCell ⟨w.heap.size,0,none⟩ (.slice ua lv.length uc)).setCell ⟨w.heap.size + 1,0,none⟩ (.int .i64 0)).setCell ⟨w.heap.size + 1,1,none⟩ (.int .i64 0)):=((S.out.bel.setCell (qlr _) _).setCell (Nat.le_succ _) _).setCell (Nat.le_succ _) _
   have ow : OwnF (((wr.setCell ⟨w.heap.size,0,none⟩ (.slice ua lv.length uc)).setCell ⟨w.heap.size + 1,0,none⟩ (.int .i64 0)).setCell ⟨w.heap.size + 1,1,none⟩ (.int .i64 0)) w.heap.size (.slice ua lv.length uc) l:=by
    have o0 : OwnF wr (w.heap.size + 3) (.slice ua lv.length uc) l:=⟨lv,HLV.out,HO.out,HPs.out⟩
    have o1:=o0.kept (grownBy_set (World.grownBy.refl wr _) ⟨w.heap.size,0,none⟩ (.slice ua lv.length uc) (.inl rfl)) (by show w.heap.size < _;omega)
    have o2:=o1.kept (grownBy_set (World.grownBy.refl _ _) ⟨w.heap.size + 1,0,none⟩ (.int .i64 0) (.inl rfl)) (by show w.heap.size + 1 < _;omega)
    have o3:=o2.kept (grownBy_set (World.grownBy.refl _ _) ⟨w.heap.size + 1,1,none⟩ (.int .i64 0) (.inl rfl)) (by show w.heap.size + 1 < _;omega)
    exact o3.mono (by omega)
   rw [HT0.out,HE.out]
   refine ⟨.tuple #[.slice ua lv.length uc,.agg #[.int .i64 0,.int .i64 0]],?_,bl,_,rfl,ow⟩
   simp [results,Tryz.results76,go_sem,cl,fl0,fl1]
theorem decode_empty (va : Option Addr) (vc : Nat) (w : World) :
  Calls Tryz.prog 76 #[.slice va 0 vc] w (DecIs w (.ok [])):=by
 have hmf : ∀ (fn : Fn) (first cap : Array Value) (w : World),(Instr.makeFunc fn first cap).run Tryz.prog w = .ok (.func fn first cap) w:=fun _ _ _ _ => rfl
 go_enter_defers Tryz.func76,Tryz.ntmps76
 go_wp2_with fail
 refine wp_loop_rounds 1 ?_
 rw [rounds_succ]
 go_wp2
 refine leaves_cons (f:=119) (args:=#[.pointer (some ⟨w.heap.size,0,none⟩),.pointer (some ⟨w.heap.size + 1,0,none⟩)]) (by simp) (by simp [go_sem]) ?_
 refine (catch_idle w.heap.size (w.heap.size + 1) _).mono ?_
 rintro e u' w'' ⟨rfl,rfl,rfl⟩
 refine ⟨.tuple #[.slice none 0 0,.agg #[.int .i64 0,.int .i64 0]],?_,?_,_,rfl,OwnF.nil _ _⟩
 ·simp [results,Tryz.results76,go_sem]
 ·go_grown
theorem decode_any (v : Value) (xs : List Int) (w : World) (ht : Tab w) (hr : Rd .u8 w v xs) (hx : Bts xs) :
  Calls Tryz.prog 76 #[v] w (DecIs w (decL xs)):=by
 by_cases hl : 1200 < xs.length
 ·have e : decL xs = .error (6,0):=if_pos hl
  rw [e]
  exact decode_long v xs w hr hl
 ·have e : decL xs = decGo xs 64 0 []:=if_neg hl
  have hr':=hr
  rcases hr with ⟨rfl,a,c,rfl,_⟩ | ⟨h0,b,o,c,rfl,h2,h3,h4,h5⟩
  ·exact decode_empty a c w
  ·rw [e]
   exact decode_go b o c xs w ht hr' hx (by omega) (List.length_pos_iff.2 h0) h4
end Go.Proofs.YtmcomdmcmnbhlaaGreatDoor
