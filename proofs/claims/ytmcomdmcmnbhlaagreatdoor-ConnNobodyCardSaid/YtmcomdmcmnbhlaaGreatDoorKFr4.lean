import Derived.Test.YtmcomdmcmnbhlaaGreatDoorKFr3
set_option maxRecDepth 100000
set_option maxHeartbeats 25600000
set_option linter.unusedSimpArgs false
set_option linter.unusedVariables false
set_option linter.unnecessarySimpa false
namespace Go.Proofs.YtmcomdmcmnbhlaaGreatDoor
open Go.RowKit
def lastTo (ss : List (Int × Int)) : Int:=(ss.getD (ss.length - 1) (0,0)).2
theorem iteT {α : Type} (a b : α) : (if True then a else b) = a:=if_pos trivial
theorem iteF {α : Type} (a b : α) : (if false = true then a else b) = b:=if_neg (by decide)
theorem nilA (x : List Int) : [] ++ x = x:=by simp
theorem nilB (x : List Int) : x ++ [] = x:=by simp
theorem assocA (x y z : List Int) : x ++ y ++ z = x ++ (y ++ z):=by simp
def encF (f : Fr) : List Int :=
 E (typeI f) ++ ((if hStream f.kind then E f.stream else []) ++ ((if hCode f.kind then E f.code else []) ++ ((if hOffset f.kind then E f.offset else []) ++ ((if hSpans f.kind then E (lastTo f.spans) else []) ++
  ((if hN f.kind then E f.n else []) ++ ((if hSpans f.kind then spanBytes f.spans else []) ++ (if hData f.kind then E (f.data.length : Int) ++ f.data else [])))))))
structure WS (q : Nat) (w0 W : World) (X P : Nat) (cs ps : Array Value) (v : Value) (bs : List Int) : Prop where
 at_ : WAt W q v bs
 g : WG q w0 W
 tab : Tab W
 box : W.heap[X]? = some (.cells cs 102 (0,0))
 par : W.heap[P]? = some (.cells ps 227 (0,0))
 qX : q < X
 qP : q < P
 q0 : 0 < q
theorem WS.step {q : Nat} {w0 W W' : World} {X P : Nat} {cs ps : Array Value} {v v' : Value} {bs bs' : List Int} (h : WS q w0 W X P cs ps v bs) (g : WG q W W') (a : WAt W' q v' bs') : WS q w0 W' X P cs ps v' bs' :=
 ⟨a,h.g.trans g,h.tab.below g.bel h.q0,g.kept _ _ _ _ h.box (by decide) (by have:=h.qX;omega),g.kept _ _ _ _ h.par (by decide) (by have:=h.qP;omega),h.qX,h.qP,h.q0⟩
theorem wframe_0 (q : Nat) (v : Value) (f : Fr) (da sa : Option Addr) (dc sc : Nat) (bs : List Int) (w : World) (ht : Tab w) (h : WAt w q v bs) (hb : bs.length ≤ 262144) (hq : 0 < q) (hk : f.kind = 0)
  (hd : ∀ V,Below q w V → Rd .u8 V (.slice da f.data.length dc) f.data) (hs : ∀ V,Below q w V → RdS V (.slice sa f.spans.length sc) f.spans) (hsb : ∀ b,sa = some b → 1 ≤ f.spans.length → b.block < q) :
  Calls Tryz.prog 150 #[.pointer (some ⟨q,0,none⟩),.agg #[.int .i64 0,.int .i64 f.stream,.int .i64 f.offset,.int .i64 f.n,.int .i64 f.code,.bool f.fin,.slice da f.data.length dc,.slice sa f.spans.length sc]] w (WIs w q (bs ++ encF f)):=by
 have hlt:=h.lt
 have HD : Hid (∀ V,Below q w V → Rd .u8 V (.slice da f.data.length dc) f.data):=hd
 have HS : Hid (∀ V,Below q w V → RdS V (.slice sa f.spans.length sc) f.spans):=hs
 have HB : Hid (∀ b,sa = some b → 1 ≤ f.spans.length → b.block < q):=hsb
 have PA : Hid (∀ V : World,Calls Tryz.prog 159 #[.int .i64 0] V fun e w' => e = .returned (.tuple #[.agg #[.bool false,.bool false,.bool false,.bool false,.bool false,.bool false,.bool false],.bool true]) ∧ Below V.heap.size V w'):=fun V => partsOf_any 0 V
 have TA : Hid (∀ V : World,Calls Tryz.prog 197 #[.agg #[.int .i64 0,.int .i64 f.stream,.int .i64 f.offset,.int .i64 f.n,.int .i64 f.code,.bool f.fin,.slice da f.data.length dc,.slice sa f.spans.length sc]] V fun e w' => e = .returned (.int .i64 (typeI f)) ∧ Below V.heap.size V w'):=fun V => by have:=typeOf_any f da sa f.data.length f.spans.length dc sc V;rw [hk] at this;exact this
 have HE : Hid (encF f = E (typeI f)):=by
  have a1 : hStream f.kind = false:=by rw [hk];rfl
  have a2 : hCode f.kind = false:=by rw [hk];rfl
  have a3 : hOffset f.kind = false:=by rw [hk];rfl
  have a4 : hSpans f.kind = false:=by rw [hk];rfl
  have a5 : hN f.kind = false:=by rw [hk];rfl
  have a6 : hData f.kind = false:=by rw [hk];rfl
  show _ = _
  rw [encF,a1,a2,a3,a4,a5,a6]
  simp only [iteT,iteF,nilA,nilB]
 have hty : 0 ≤ typeI f ∧ typeI f ≤ 4611686018427387903:=by unfold typeI;rw [hk];simp
 have HA:=qhi h
 have HT:=qhi ht
 clear h ht hd hs hsb hk
 go_enter Tryz.func150,Tryz.ntmps150
 go_wp2_with fail
 refine (PA.out _).mono ?_
 rintro e w1 ⟨rfl,b1⟩
 have bX : Below w.heap.size w (w.alloc (.cells #[.int .i64 0,.int .i64 f.stream,.int .i64 f.offset,.int .i64 f.n,.int .i64 f.code,.bool f.fin,.slice da f.data.length dc,.slice sa f.spans.length sc] 102)):=(qbr _ _).alloc (qlr _) _
 have B1 : Below w.heap.size w w1:=bX.trans (b1.mono (by simp))
 have k1:=(b1.block w.heap.size (by simp)).trans (alloc_at4 w (.cells #[.int .i64 0,.int .i64 f.stream,.int .i64 f.offset,.int .i64 f.n,.int .i64 f.code,.bool f.fin,.slice da f.data.length dc,.slice sa f.spans.length sc] 102))
 have lx:=(qgs k1).1
 have xk:=fun i => qcb k1 i
 have xk0:=xk 0
 have xk1:=xk 1
 have xk2:=xk 2
 have xk3:=xk 3
 have xk4:=xk 4
 have xk5:=xk 5
 have xk6:=xk 6
 have xk7:=xk 7
 go_wp2_with fail
 refine (TA.out _).mono ?_
 rintro e w2 ⟨rfl,b2⟩
 have bP : Below w1.heap.size w1 (w1.alloc (.cells #[.bool false,.bool false,.bool false,.bool false,.bool false,.bool false,.bool false] 227)):=(qbr _ _).alloc (qlr _) _
 have B2 : Below w.heap.size w w2:=(B1.trans (bP.mono B1.size)).trans (b2.mono (by have:=B1.size;simp;omega))
 have k2:=(b2.block w.heap.size (by simp;omega)).trans ((bP.block _ lx).trans k1)
 have k3:=(b2.block w1.heap.size (by simp)).trans (alloc_at4 w1 (.cells #[.bool false,.bool false,.bool false,.bool false,.bool false,.bool false,.bool false] 227))
 have z1:=B1.size
 have S0:=qhi (WS.mk (w0:=w) (HA.out.below B2) (WG.of_below B2 (by omega)) (HT.out.below B2 HT.out.pos) k2 k3 hlt (by omega) hq)
 clear xk0 xk1 xk2 xk3 xk4 xk5 xk6 xk7 xk k1 k2 k3 bX B1 b1 b2 bP B2 HA HT
 go_wp2_with fail
 refine (wnumber_any q _ (typeI f) _ _ S0.out.tab S0.out.at_ hty.1 hty.2 (by skip;omega)).mono ?_
 rintro e w3 ⟨rfl,g1,v1,A1⟩
 have l1:=E_le (typeI f)
 have S1:=qhi (S0.out.step g1 A1)
 have pc1:=fun i => qcb S1.out.par i
 have pc10:=pc1 0
 have pc11:=pc1 1
 have pc12:=pc1 2
 have pc13:=pc1 3
 have pc14:=pc1 4
 have pc15:=pc1 5
 have pc16:=pc1 6
 have xc1:=fun i => qcb S1.out.box i
 have xc10:=xc1 0
 have xc11:=xc1 1
 have xc12:=xc1 2
 have xc13:=xc1 3
 have xc14:=xc1 4
 have xc15:=xc1 5
 have xc16:=xc1 6
 have xc17:=xc1 7
 clear g1 A1
 go_wp2_with fail
 go_end0
 have EQ : bs ++ encF f = (bs ++ E (typeI f)):=by rw [HE.out];try simp only [assocA]
 rw [EQ]
 exact ⟨rfl,S1.out.g,_,S1.out.at_⟩
theorem wframe_1 (q : Nat) (v : Value) (f : Fr) (da sa : Option Addr) (dc sc : Nat) (bs : List Int) (w : World) (ht : Tab w) (h : WAt w q v bs) (hb : bs.length ≤ 262144) (hq : 0 < q) (hk : f.kind = 1)
  (hd : ∀ V,Below q w V → Rd .u8 V (.slice da f.data.length dc) f.data) (hs : ∀ V,Below q w V → RdS V (.slice sa f.spans.length sc) f.spans) (hsb : ∀ b,sa = some b → 1 ≤ f.spans.length → b.block < q) :
  Calls Tryz.prog 150 #[.pointer (some ⟨q,0,none⟩),.agg #[.int .i64 1,.int .i64 f.stream,.int .i64 f.offset,.int .i64 f.n,.int .i64 f.code,.bool f.fin,.slice da f.data.length dc,.slice sa f.spans.length sc]] w (WIs w q (bs ++ encF f)):=by
 have hlt:=h.lt
 have HD : Hid (∀ V,Below q w V → Rd .u8 V (.slice da f.data.length dc) f.data):=hd
 have HS : Hid (∀ V,Below q w V → RdS V (.slice sa f.spans.length sc) f.spans):=hs
 have HB : Hid (∀ b,sa = some b → 1 ≤ f.spans.length → b.block < q):=hsb
 have PA : Hid (∀ V : World,Calls Tryz.prog 159 #[.int .i64 1] V fun e w' => e = .returned (.tuple #[.agg #[.bool false,.bool false,.bool false,.bool false,.bool false,.bool false,.bool false],.bool true]) ∧ Below V.heap.size V w'):=fun V => partsOf_any 1 V
 have TA : Hid (∀ V : World,Calls Tryz.prog 197 #[.agg #[.int .i64 1,.int .i64 f.stream,.int .i64 f.offset,.int .i64 f.n,.int .i64 f.code,.bool f.fin,.slice da f.data.length dc,.slice sa f.spans.length sc]] V fun e w' => e = .returned (.int .i64 (typeI f)) ∧ Below V.heap.size V w'):=fun V => by have:=typeOf_any f da sa f.data.length f.spans.length dc sc V;rw [hk] at this;exact this
 have HE : Hid (encF f = E (typeI f)):=by
  have a1 : hStream f.kind = false:=by rw [hk];rfl
  have a2 : hCode f.kind = false:=by rw [hk];rfl
  have a3 : hOffset f.kind = false:=by rw [hk];rfl
  have a4 : hSpans f.kind = false:=by rw [hk];rfl
  have a5 : hN f.kind = false:=by rw [hk];rfl
  have a6 : hData f.kind = false:=by rw [hk];rfl
  show _ = _
  rw [encF,a1,a2,a3,a4,a5,a6]
  simp only [iteT,iteF,nilA,nilB]
 have hty : 0 ≤ typeI f ∧ typeI f ≤ 4611686018427387903:=by unfold typeI;rw [hk];simp
 have HA:=qhi h
 have HT:=qhi ht
 clear h ht hd hs hsb hk
 go_enter Tryz.func150,Tryz.ntmps150
 go_wp2_with fail
 refine (PA.out _).mono ?_
 rintro e w1 ⟨rfl,b1⟩
 have bX : Below w.heap.size w (w.alloc (.cells #[.int .i64 1,.int .i64 f.stream,.int .i64 f.offset,.int .i64 f.n,.int .i64 f.code,.bool f.fin,.slice da f.data.length dc,.slice sa f.spans.length sc] 102)):=(qbr _ _).alloc (qlr _) _
 have B1 : Below w.heap.size w w1:=bX.trans (b1.mono (by simp))
 have k1:=(b1.block w.heap.size (by simp)).trans (alloc_at4 w (.cells #[.int .i64 1,.int .i64 f.stream,.int .i64 f.offset,.int .i64 f.n,.int .i64 f.code,.bool f.fin,.slice da f.data.length dc,.slice sa f.spans.length sc] 102))
 have lx:=(qgs k1).1
 have xk:=fun i => qcb k1 i
 have xk0:=xk 0
 have xk1:=xk 1
 have xk2:=xk 2
 have xk3:=xk 3
 have xk4:=xk 4
 have xk5:=xk 5
 have xk6:=xk 6
 have xk7:=xk 7
 go_wp2_with fail
 refine (TA.out _).mono ?_
 rintro e w2 ⟨rfl,b2⟩
 have bP : Below w1.heap.size w1 (w1.alloc (.cells #[.bool false,.bool false,.bool false,.bool false,.bool false,.bool false,.bool false] 227)):=(qbr _ _).alloc (qlr _) _
 have B2 : Below w.heap.size w w2:=(B1.trans (bP.mono B1.size)).trans (b2.mono (by have:=B1.size;simp;omega))
 have k2:=(b2.block w.heap.size (by simp;omega)).trans ((bP.block _ lx).trans k1)
 have k3:=(b2.block w1.heap.size (by simp)).trans (alloc_at4 w1 (.cells #[.bool false,.bool false,.bool false,.bool false,.bool false,.bool false,.bool false] 227))
 have z1:=B1.size
 have S0:=qhi (WS.mk (w0:=w) (HA.out.below B2) (WG.of_below B2 (by omega)) (HT.out.below B2 HT.out.pos) k2 k3 hlt (by omega) hq)
 clear xk0 xk1 xk2 xk3 xk4 xk5 xk6 xk7 xk k1 k2 k3 bX B1 b1 b2 bP B2 HA HT
 go_wp2_with fail
 refine (wnumber_any q _ (typeI f) _ _ S0.out.tab S0.out.at_ hty.1 hty.2 (by skip;omega)).mono ?_
 rintro e w3 ⟨rfl,g1,v1,A1⟩
 have l1:=E_le (typeI f)
 have S1:=qhi (S0.out.step g1 A1)
 have pc1:=fun i => qcb S1.out.par i
 have pc10:=pc1 0
 have pc11:=pc1 1
 have pc12:=pc1 2
 have pc13:=pc1 3
 have pc14:=pc1 4
 have pc15:=pc1 5
 have pc16:=pc1 6
 have xc1:=fun i => qcb S1.out.box i
 have xc10:=xc1 0
 have xc11:=xc1 1
 have xc12:=xc1 2
 have xc13:=xc1 3
 have xc14:=xc1 4
 have xc15:=xc1 5
 have xc16:=xc1 6
 have xc17:=xc1 7
 clear g1 A1
 go_wp2_with fail
 go_end0
 have EQ : bs ++ encF f = (bs ++ E (typeI f)):=by rw [HE.out];try simp only [assocA]
 rw [EQ]
 exact ⟨rfl,S1.out.g,_,S1.out.at_⟩
theorem wframe_30 (q : Nat) (v : Value) (f : Fr) (da sa : Option Addr) (dc sc : Nat) (bs : List Int) (w : World) (ht : Tab w) (h : WAt w q v bs) (hb : bs.length ≤ 262144) (hq : 0 < q) (hk : f.kind = 30)
  (hd : ∀ V,Below q w V → Rd .u8 V (.slice da f.data.length dc) f.data) (hs : ∀ V,Below q w V → RdS V (.slice sa f.spans.length sc) f.spans) (hsb : ∀ b,sa = some b → 1 ≤ f.spans.length → b.block < q) :
  Calls Tryz.prog 150 #[.pointer (some ⟨q,0,none⟩),.agg #[.int .i64 30,.int .i64 f.stream,.int .i64 f.offset,.int .i64 f.n,.int .i64 f.code,.bool f.fin,.slice da f.data.length dc,.slice sa f.spans.length sc]] w (WIs w q (bs ++ encF f)):=by
 have hlt:=h.lt
 have HD : Hid (∀ V,Below q w V → Rd .u8 V (.slice da f.data.length dc) f.data):=hd
 have HS : Hid (∀ V,Below q w V → RdS V (.slice sa f.spans.length sc) f.spans):=hs
 have HB : Hid (∀ b,sa = some b → 1 ≤ f.spans.length → b.block < q):=hsb
 have PA : Hid (∀ V : World,Calls Tryz.prog 159 #[.int .i64 30] V fun e w' => e = .returned (.tuple #[.agg #[.bool false,.bool false,.bool false,.bool false,.bool false,.bool false,.bool false],.bool true]) ∧ Below V.heap.size V w'):=fun V => partsOf_any 30 V
 have TA : Hid (∀ V : World,Calls Tryz.prog 197 #[.agg #[.int .i64 30,.int .i64 f.stream,.int .i64 f.offset,.int .i64 f.n,.int .i64 f.code,.bool f.fin,.slice da f.data.length dc,.slice sa f.spans.length sc]] V fun e w' => e = .returned (.int .i64 (typeI f)) ∧ Below V.heap.size V w'):=fun V => by have:=typeOf_any f da sa f.data.length f.spans.length dc sc V;rw [hk] at this;exact this
 have HE : Hid (encF f = E (typeI f)):=by
  have a1 : hStream f.kind = false:=by rw [hk];rfl
  have a2 : hCode f.kind = false:=by rw [hk];rfl
  have a3 : hOffset f.kind = false:=by rw [hk];rfl
  have a4 : hSpans f.kind = false:=by rw [hk];rfl
  have a5 : hN f.kind = false:=by rw [hk];rfl
  have a6 : hData f.kind = false:=by rw [hk];rfl
  show _ = _
  rw [encF,a1,a2,a3,a4,a5,a6]
  simp only [iteT,iteF,nilA,nilB]
 have hty : 0 ≤ typeI f ∧ typeI f ≤ 4611686018427387903:=by unfold typeI;rw [hk];simp
 have HA:=qhi h
 have HT:=qhi ht
 clear h ht hd hs hsb hk
 go_enter Tryz.func150,Tryz.ntmps150
 go_wp2_with fail
 refine (PA.out _).mono ?_
 rintro e w1 ⟨rfl,b1⟩
 have bX : Below w.heap.size w (w.alloc (.cells #[.int .i64 30,.int .i64 f.stream,.int .i64 f.offset,.int .i64 f.n,.int .i64 f.code,.bool f.fin,.slice da f.data.length dc,.slice sa f.spans.length sc] 102)):=(qbr _ _).alloc (qlr _) _
 have B1 : Below w.heap.size w w1:=bX.trans (b1.mono (by simp))
 have k1:=(b1.block w.heap.size (by simp)).trans (alloc_at4 w (.cells #[.int .i64 30,.int .i64 f.stream,.int .i64 f.offset,.int .i64 f.n,.int .i64 f.code,.bool f.fin,.slice da f.data.length dc,.slice sa f.spans.length sc] 102))
 have lx:=(qgs k1).1
 have xk:=fun i => qcb k1 i
 have xk0:=xk 0
 have xk1:=xk 1
 have xk2:=xk 2
 have xk3:=xk 3
 have xk4:=xk 4
 have xk5:=xk 5
 have xk6:=xk 6
 have xk7:=xk 7
 go_wp2_with fail
 refine (TA.out _).mono ?_
 rintro e w2 ⟨rfl,b2⟩
 have bP : Below w1.heap.size w1 (w1.alloc (.cells #[.bool false,.bool false,.bool false,.bool false,.bool false,.bool false,.bool false] 227)):=(qbr _ _).alloc (qlr _) _
 have B2 : Below w.heap.size w w2:=(B1.trans (bP.mono B1.size)).trans (b2.mono (by have:=B1.size;simp;omega))
 have k2:=(b2.block w.heap.size (by simp;omega)).trans ((bP.block _ lx).trans k1)
 have k3:=(b2.block w1.heap.size (by simp)).trans (alloc_at4 w1 (.cells #[.bool false,.bool false,.bool false,.bool false,.bool false,.bool false,.bool false] 227))
 have z1:=B1.size
 have S0:=qhi (WS.mk (w0:=w) (HA.out.below B2) (WG.of_below B2 (by omega)) (HT.out.below B2 HT.out.pos) k2 k3 hlt (by omega) hq)
 clear xk0 xk1 xk2 xk3 xk4 xk5 xk6 xk7 xk k1 k2 k3 bX B1 b1 b2 bP B2 HA HT
 go_wp2_with fail
 refine (wnumber_any q _ (typeI f) _ _ S0.out.tab S0.out.at_ hty.1 hty.2 (by skip;omega)).mono ?_
 rintro e w3 ⟨rfl,g1,v1,A1⟩
 have l1:=E_le (typeI f)
 have S1:=qhi (S0.out.step g1 A1)
 have pc1:=fun i => qcb S1.out.par i
 have pc10:=pc1 0
 have pc11:=pc1 1
 have pc12:=pc1 2
 have pc13:=pc1 3
 have pc14:=pc1 4
 have pc15:=pc1 5
 have pc16:=pc1 6
 have xc1:=fun i => qcb S1.out.box i
 have xc10:=xc1 0
 have xc11:=xc1 1
 have xc12:=xc1 2
 have xc13:=xc1 3
 have xc14:=xc1 4
 have xc15:=xc1 5
 have xc16:=xc1 6
 have xc17:=xc1 7
 clear g1 A1
 go_wp2_with fail
 go_end0
 have EQ : bs ++ encF f = (bs ++ E (typeI f)):=by rw [HE.out];try simp only [assocA]
 rw [EQ]
 exact ⟨rfl,S1.out.g,_,S1.out.at_⟩
theorem wframe_4 (q : Nat) (v : Value) (f : Fr) (da sa : Option Addr) (dc sc : Nat) (bs : List Int) (w : World) (ht : Tab w) (h : WAt w q v bs) (hb : bs.length ≤ 262144) (hq : 0 < q) (hk : f.kind = 4) (hst : 0 ≤ f.stream ∧ f.stream ≤ 4611686018427387903) (hcd : 0 ≤ f.code ∧ f.code ≤ 4611686018427387903) (hof : 0 ≤ f.offset ∧ f.offset ≤ 4611686018427387903)
  (hd : ∀ V,Below q w V → Rd .u8 V (.slice da f.data.length dc) f.data) (hs : ∀ V,Below q w V → RdS V (.slice sa f.spans.length sc) f.spans) (hsb : ∀ b,sa = some b → 1 ≤ f.spans.length → b.block < q) :
  Calls Tryz.prog 150 #[.pointer (some ⟨q,0,none⟩),.agg #[.int .i64 4,.int .i64 f.stream,.int .i64 f.offset,.int .i64 f.n,.int .i64 f.code,.bool f.fin,.slice da f.data.length dc,.slice sa f.spans.length sc]] w (WIs w q (bs ++ encF f)):=by
 have hlt:=h.lt
 have HD : Hid (∀ V,Below q w V → Rd .u8 V (.slice da f.data.length dc) f.data):=hd
 have HS : Hid (∀ V,Below q w V → RdS V (.slice sa f.spans.length sc) f.spans):=hs
 have HB : Hid (∀ b,sa = some b → 1 ≤ f.spans.length → b.block < q):=hsb
 have PA : Hid (∀ V : World,Calls Tryz.prog 159 #[.int .i64 4] V fun e w' => e = .returned (.tuple #[.agg #[.bool true,.bool true,.bool true,.bool false,.bool false,.bool false,.bool false],.bool true]) ∧ Below V.heap.size V w'):=fun V => partsOf_any 4 V
 have TA : Hid (∀ V : World,Calls Tryz.prog 197 #[.agg #[.int .i64 4,.int .i64 f.stream,.int .i64 f.offset,.int .i64 f.n,.int .i64 f.code,.bool f.fin,.slice da f.data.length dc,.slice sa f.spans.length sc]] V fun e w' => e = .returned (.int .i64 (typeI f)) ∧ Below V.heap.size V w'):=fun V => by have:=typeOf_any f da sa f.data.length f.spans.length dc sc V;rw [hk] at this;exact this
 have HE : Hid (encF f = E (typeI f) ++ (E f.stream ++ (E f.code ++ (E f.offset)))):=by
  have a1 : hStream f.kind = true:=by rw [hk];rfl
  have a2 : hCode f.kind = true:=by rw [hk];rfl
  have a3 : hOffset f.kind = true:=by rw [hk];rfl
  have a4 : hSpans f.kind = false:=by rw [hk];rfl
  have a5 : hN f.kind = false:=by rw [hk];rfl
  have a6 : hData f.kind = false:=by rw [hk];rfl
  show _ = _
  rw [encF,a1,a2,a3,a4,a5,a6]
  simp only [iteT,iteF,nilA,nilB]
 have hty : 0 ≤ typeI f ∧ typeI f ≤ 4611686018427387903:=by unfold typeI;rw [hk];simp
 have HA:=qhi h
 have HT:=qhi ht
 clear h ht hd hs hsb hk
 go_enter Tryz.func150,Tryz.ntmps150
 go_wp2_with fail
 refine (PA.out _).mono ?_
 rintro e w1 ⟨rfl,b1⟩
 have bX : Below w.heap.size w (w.alloc (.cells #[.int .i64 4,.int .i64 f.stream,.int .i64 f.offset,.int .i64 f.n,.int .i64 f.code,.bool f.fin,.slice da f.data.length dc,.slice sa f.spans.length sc] 102)):=(qbr _ _).alloc (qlr _) _
 have B1 : Below w.heap.size w w1:=bX.trans (b1.mono (by simp))
 have k1:=(b1.block w.heap.size (by simp)).trans (alloc_at4 w (.cells #[.int .i64 4,.int .i64 f.stream,.int .i64 f.offset,.int .i64 f.n,.int .i64 f.code,.bool f.fin,.slice da f.data.length dc,.slice sa f.spans.length sc] 102))
 have lx:=(qgs k1).1
 have xk:=fun i => qcb k1 i
 have xk0:=xk 0
 have xk1:=xk 1
 have xk2:=xk 2
 have xk3:=xk 3
 have xk4:=xk 4
 have xk5:=xk 5
 have xk6:=xk 6
 have xk7:=xk 7
 go_wp2_with fail
 refine (TA.out _).mono ?_
 rintro e w2 ⟨rfl,b2⟩
 have bP : Below w1.heap.size w1 (w1.alloc (.cells #[.bool true,.bool true,.bool true,.bool false,.bool false,.bool false,.bool false] 227)):=(qbr _ _).alloc (qlr _) _
 have B2 : Below w.heap.size w w2:=(B1.trans (bP.mono B1.size)).trans (b2.mono (by have:=B1.size;simp;omega))
 have k2:=(b2.block w.heap.size (by simp;omega)).trans ((bP.block _ lx).trans k1)
 have k3:=(b2.block w1.heap.size (by simp)).trans (alloc_at4 w1 (.cells #[.bool true,.bool true,.bool true,.bool false,.bool false,.bool false,.bool false] 227))
 have z1:=B1.size
 have S0:=qhi (WS.mk (w0:=w) (HA.out.below B2) (WG.of_below B2 (by omega)) (HT.out.below B2 HT.out.pos) k2 k3 hlt (by omega) hq)
 clear xk0 xk1 xk2 xk3 xk4 xk5 xk6 xk7 xk k1 k2 k3 bX B1 b1 b2 bP B2 HA HT
 go_wp2_with fail
 refine (wnumber_any q _ (typeI f) _ _ S0.out.tab S0.out.at_ hty.1 hty.2 (by skip;omega)).mono ?_
 rintro e w3 ⟨rfl,g1,v1,A1⟩
 have l1:=E_le (typeI f)
 have S1:=qhi (S0.out.step g1 A1)
 have pc1:=fun i => qcb S1.out.par i
 have pc10:=pc1 0
 have pc11:=pc1 1
 have pc12:=pc1 2
 have pc13:=pc1 3
 have pc14:=pc1 4
 have pc15:=pc1 5
 have pc16:=pc1 6
 have xc1:=fun i => qcb S1.out.box i
 have xc10:=xc1 0
 have xc11:=xc1 1
 have xc12:=xc1 2
 have xc13:=xc1 3
 have xc14:=xc1 4
 have xc15:=xc1 5
 have xc16:=xc1 6
 have xc17:=xc1 7
 clear g1 A1
 go_wp2_with fail
 refine (wnumber_any q _ f.stream _ _ S1.out.tab S1.out.at_ hst.1 hst.2 (by simp only [List.length_append];omega)).mono ?_
 rintro e w4 ⟨rfl,g2,v2,A2⟩
 have l2:=E_le f.stream
 have S2:=qhi (S1.out.step g2 A2)
 have pc2:=fun i => qcb S2.out.par i
 have pc20:=pc2 0
 have pc21:=pc2 1
 have pc22:=pc2 2
 have pc23:=pc2 3
 have pc24:=pc2 4
 have pc25:=pc2 5
 have pc26:=pc2 6
 have xc2:=fun i => qcb S2.out.box i
 have xc20:=xc2 0
 have xc21:=xc2 1
 have xc22:=xc2 2
 have xc23:=xc2 3
 have xc24:=xc2 4
 have xc25:=xc2 5
 have xc26:=xc2 6
 have xc27:=xc2 7
 clear g2 A2
 skip
 go_wp2_with fail
 refine (wnumber_any q _ f.code _ _ S2.out.tab S2.out.at_ hcd.1 hcd.2 (by simp only [List.length_append];omega)).mono ?_
 rintro e w5 ⟨rfl,g3,v3,A3⟩
 have l3:=E_le f.code
 have S3:=qhi (S2.out.step g3 A3)
 have pc3:=fun i => qcb S3.out.par i
 have pc30:=pc3 0
 have pc31:=pc3 1
 have pc32:=pc3 2
 have pc33:=pc3 3
 have pc34:=pc3 4
 have pc35:=pc3 5
 have pc36:=pc3 6
 have xc3:=fun i => qcb S3.out.box i
 have xc30:=xc3 0
 have xc31:=xc3 1
 have xc32:=xc3 2
 have xc33:=xc3 3
 have xc34:=xc3 4
 have xc35:=xc3 5
 have xc36:=xc3 6
 have xc37:=xc3 7
 clear g3 A3
 skip
 go_wp2_with fail
 refine (wnumber_any q _ f.offset _ _ S3.out.tab S3.out.at_ hof.1 hof.2 (by simp only [List.length_append];omega)).mono ?_
 rintro e w6 ⟨rfl,g4,v4,A4⟩
 have l4:=E_le f.offset
 have S4:=qhi (S3.out.step g4 A4)
 have pc4:=fun i => qcb S4.out.par i
 have pc40:=pc4 0
 have pc41:=pc4 1
 have pc42:=pc4 2
 have pc43:=pc4 3
 have pc44:=pc4 4
 have pc45:=pc4 5
 have pc46:=pc4 6
 have xc4:=fun i => qcb S4.out.box i
 have xc40:=xc4 0
 have xc41:=xc4 1
 have xc42:=xc4 2
 have xc43:=xc4 3
 have xc44:=xc4 4
 have xc45:=xc4 5
 have xc46:=xc4 6
 have xc47:=xc4 7
 clear g4 A4
 skip
 go_wp2_with fail
 go_end0
 have EQ : bs ++ encF f = ((((bs ++ E (typeI f)) ++ E f.stream) ++ E f.code) ++ E f.offset):=by rw [HE.out];try simp only [assocA]
 rw [EQ]
 exact ⟨rfl,S4.out.g,_,S4.out.at_⟩
theorem wframe_5 (q : Nat) (v : Value) (f : Fr) (da sa : Option Addr) (dc sc : Nat) (bs : List Int) (w : World) (ht : Tab w) (h : WAt w q v bs) (hb : bs.length ≤ 262144) (hq : 0 < q) (hk : f.kind = 5) (hst : 0 ≤ f.stream ∧ f.stream ≤ 4611686018427387903) (hcd : 0 ≤ f.code ∧ f.code ≤ 4611686018427387903)
  (hd : ∀ V,Below q w V → Rd .u8 V (.slice da f.data.length dc) f.data) (hs : ∀ V,Below q w V → RdS V (.slice sa f.spans.length sc) f.spans) (hsb : ∀ b,sa = some b → 1 ≤ f.spans.length → b.block < q) :
  Calls Tryz.prog 150 #[.pointer (some ⟨q,0,none⟩),.agg #[.int .i64 5,.int .i64 f.stream,.int .i64 f.offset,.int .i64 f.n,.int .i64 f.code,.bool f.fin,.slice da f.data.length dc,.slice sa f.spans.length sc]] w (WIs w q (bs ++ encF f)):=by
 have hlt:=h.lt
 have HD : Hid (∀ V,Below q w V → Rd .u8 V (.slice da f.data.length dc) f.data):=hd
 have HS : Hid (∀ V,Below q w V → RdS V (.slice sa f.spans.length sc) f.spans):=hs
 have HB : Hid (∀ b,sa = some b → 1 ≤ f.spans.length → b.block < q):=hsb
 have PA : Hid (∀ V : World,Calls Tryz.prog 159 #[.int .i64 5] V fun e w' => e = .returned (.tuple #[.agg #[.bool true,.bool true,.bool false,.bool false,.bool false,.bool false,.bool false],.bool true]) ∧ Below V.heap.size V w'):=fun V => partsOf_any 5 V
 have TA : Hid (∀ V : World,Calls Tryz.prog 197 #[.agg #[.int .i64 5,.int .i64 f.stream,.int .i64 f.offset,.int .i64 f.n,.int .i64 f.code,.bool f.fin,.slice da f.data.length dc,.slice sa f.spans.length sc]] V fun e w' => e = .returned (.int .i64 (typeI f)) ∧ Below V.heap.size V w'):=fun V => by have:=typeOf_any f da sa f.data.length f.spans.length dc sc V;rw [hk] at this;exact this
 have HE : Hid (encF f = E (typeI f) ++ (E f.stream ++ (E f.code))):=by
  have a1 : hStream f.kind = true:=by rw [hk];rfl
  have a2 : hCode f.kind = true:=by rw [hk];rfl
  have a3 : hOffset f.kind = false:=by rw [hk];rfl
  have a4 : hSpans f.kind = false:=by rw [hk];rfl
  have a5 : hN f.kind = false:=by rw [hk];rfl
  have a6 : hData f.kind = false:=by rw [hk];rfl
  show _ = _
  rw [encF,a1,a2,a3,a4,a5,a6]
  simp only [iteT,iteF,nilA,nilB]
 have hty : 0 ≤ typeI f ∧ typeI f ≤ 4611686018427387903:=by unfold typeI;rw [hk];simp
 have HA:=qhi h
 have HT:=qhi ht
 clear h ht hd hs hsb hk
 go_enter Tryz.func150,Tryz.ntmps150
 go_wp2_with fail
 refine (PA.out _).mono ?_
 rintro e w1 ⟨rfl,b1⟩
 have bX : Below w.heap.size w (w.alloc (.cells #[.int .i64 5,.int .i64 f.stream,.int .i64 f.offset,.int .i64 f.n,.int .i64 f.code,.bool f.fin,.slice da f.data.length dc,.slice sa f.spans.length sc] 102)):=(qbr _ _).alloc (qlr _) _
 have B1 : Below w.heap.size w w1:=bX.trans (b1.mono (by simp))
 have k1:=(b1.block w.heap.size (by simp)).trans (alloc_at4 w (.cells #[.int .i64 5,.int .i64 f.stream,.int .i64 f.offset,.int .i64 f.n,.int .i64 f.code,.bool f.fin,.slice da f.data.length dc,.slice sa f.spans.length sc] 102))
 have lx:=(qgs k1).1
 have xk:=fun i => qcb k1 i
 have xk0:=xk 0
 have xk1:=xk 1
 have xk2:=xk 2
 have xk3:=xk 3
 have xk4:=xk 4
 have xk5:=xk 5
 have xk6:=xk 6
 have xk7:=xk 7
 go_wp2_with fail
 refine (TA.out _).mono ?_
 rintro e w2 ⟨rfl,b2⟩
 have bP : Below w1.heap.size w1 (w1.alloc (.cells #[.bool true,.bool true,.bool false,.bool false,.bool false,.bool false,.bool false] 227)):=(qbr _ _).alloc (qlr _) _
 have B2 : Below w.heap.size w w2:=(B1.trans (bP.mono B1.size)).trans (b2.mono (by have:=B1.size;simp;omega))
 have k2:=(b2.block w.heap.size (by simp;omega)).trans ((bP.block _ lx).trans k1)
 have k3:=(b2.block w1.heap.size (by simp)).trans (alloc_at4 w1 (.cells #[.bool true,.bool true,.bool false,.bool false,.bool false,.bool false,.bool false] 227))
 have z1:=B1.size
 have S0:=qhi (WS.mk (w0:=w) (HA.out.below B2) (WG.of_below B2 (by omega)) (HT.out.below B2 HT.out.pos) k2 k3 hlt (by omega) hq)
 clear xk0 xk1 xk2 xk3 xk4 xk5 xk6 xk7 xk k1 k2 k3 bX B1 b1 b2 bP B2 HA HT
 go_wp2_with fail
 refine (wnumber_any q _ (typeI f) _ _ S0.out.tab S0.out.at_ hty.1 hty.2 (by skip;omega)).mono ?_
 rintro e w3 ⟨rfl,g1,v1,A1⟩
 have l1:=E_le (typeI f)
 have S1:=qhi (S0.out.step g1 A1)
 have pc1:=fun i => qcb S1.out.par i
 have pc10:=pc1 0
 have pc11:=pc1 1
 have pc12:=pc1 2
 have pc13:=pc1 3
 have pc14:=pc1 4
 have pc15:=pc1 5
 have pc16:=pc1 6
 have xc1:=fun i => qcb S1.out.box i
 have xc10:=xc1 0
 have xc11:=xc1 1
 have xc12:=xc1 2
 have xc13:=xc1 3
 have xc14:=xc1 4
 have xc15:=xc1 5
 have xc16:=xc1 6
 have xc17:=xc1 7
 clear g1 A1
 go_wp2_with fail
 refine (wnumber_any q _ f.stream _ _ S1.out.tab S1.out.at_ hst.1 hst.2 (by simp only [List.length_append];omega)).mono ?_
 rintro e w4 ⟨rfl,g2,v2,A2⟩
 have l2:=E_le f.stream
 have S2:=qhi (S1.out.step g2 A2)
 have pc2:=fun i => qcb S2.out.par i
 have pc20:=pc2 0
 have pc21:=pc2 1
 have pc22:=pc2 2
 have pc23:=pc2 3
 have pc24:=pc2 4
 have pc25:=pc2 5
 have pc26:=pc2 6
 have xc2:=fun i => qcb S2.out.box i
 have xc20:=xc2 0
 have xc21:=xc2 1
 have xc22:=xc2 2
 have xc23:=xc2 3
 have xc24:=xc2 4
 have xc25:=xc2 5
 have xc26:=xc2 6
 have xc27:=xc2 7
 clear g2 A2
 skip
 go_wp2_with fail
 refine (wnumber_any q _ f.code _ _ S2.out.tab S2.out.at_ hcd.1 hcd.2 (by simp only [List.length_append];omega)).mono ?_
 rintro e w5 ⟨rfl,g3,v3,A3⟩
 have l3:=E_le f.code
 have S3:=qhi (S2.out.step g3 A3)
 have pc3:=fun i => qcb S3.out.par i
 have pc30:=pc3 0
 have pc31:=pc3 1
 have pc32:=pc3 2
 have pc33:=pc3 3
 have pc34:=pc3 4
 have pc35:=pc3 5
 have pc36:=pc3 6
 have xc3:=fun i => qcb S3.out.box i
 have xc30:=xc3 0
 have xc31:=xc3 1
 have xc32:=xc3 2
 have xc33:=xc3 3
 have xc34:=xc3 4
 have xc35:=xc3 5
 have xc36:=xc3 6
 have xc37:=xc3 7
 clear g3 A3
 skip
 go_wp2_with fail
 go_end0
 have EQ : bs ++ encF f = (((bs ++ E (typeI f)) ++ E f.stream) ++ E f.code):=by rw [HE.out];try simp only [assocA]
 rw [EQ]
 exact ⟨rfl,S3.out.g,_,S3.out.at_⟩
theorem wframe_16 (q : Nat) (v : Value) (f : Fr) (da sa : Option Addr) (dc sc : Nat) (bs : List Int) (w : World) (ht : Tab w) (h : WAt w q v bs) (hb : bs.length ≤ 262144) (hq : 0 < q) (hk : f.kind = 16) (hnn : 0 ≤ f.n ∧ f.n ≤ 4611686018427387903)
  (hd : ∀ V,Below q w V → Rd .u8 V (.slice da f.data.length dc) f.data) (hs : ∀ V,Below q w V → RdS V (.slice sa f.spans.length sc) f.spans) (hsb : ∀ b,sa = some b → 1 ≤ f.spans.length → b.block < q) :
  Calls Tryz.prog 150 #[.pointer (some ⟨q,0,none⟩),.agg #[.int .i64 16,.int .i64 f.stream,.int .i64 f.offset,.int .i64 f.n,.int .i64 f.code,.bool f.fin,.slice da f.data.length dc,.slice sa f.spans.length sc]] w (WIs w q (bs ++ encF f)):=by
 have hlt:=h.lt
 have HD : Hid (∀ V,Below q w V → Rd .u8 V (.slice da f.data.length dc) f.data):=hd
 have HS : Hid (∀ V,Below q w V → RdS V (.slice sa f.spans.length sc) f.spans):=hs
 have HB : Hid (∀ b,sa = some b → 1 ≤ f.spans.length → b.block < q):=hsb
 have PA : Hid (∀ V : World,Calls Tryz.prog 159 #[.int .i64 16] V fun e w' => e = .returned (.tuple #[.agg #[.bool false,.bool false,.bool false,.bool true,.bool false,.bool false,.bool false],.bool true]) ∧ Below V.heap.size V w'):=fun V => partsOf_any 16 V
 have TA : Hid (∀ V : World,Calls Tryz.prog 197 #[.agg #[.int .i64 16,.int .i64 f.stream,.int .i64 f.offset,.int .i64 f.n,.int .i64 f.code,.bool f.fin,.slice da f.data.length dc,.slice sa f.spans.length sc]] V fun e w' => e = .returned (.int .i64 (typeI f)) ∧ Below V.heap.size V w'):=fun V => by have:=typeOf_any f da sa f.data.length f.spans.length dc sc V;rw [hk] at this;exact this
 have HE : Hid (encF f = E (typeI f) ++ (E f.n)):=by
  have a1 : hStream f.kind = false:=by rw [hk];rfl
  have a2 : hCode f.kind = false:=by rw [hk];rfl
  have a3 : hOffset f.kind = false:=by rw [hk];rfl
  have a4 : hSpans f.kind = false:=by rw [hk];rfl
  have a5 : hN f.kind = true:=by rw [hk];rfl
  have a6 : hData f.kind = false:=by rw [hk];rfl
  show _ = _
  rw [encF,a1,a2,a3,a4,a5,a6]
  simp only [iteT,iteF,nilA,nilB]
 have hty : 0 ≤ typeI f ∧ typeI f ≤ 4611686018427387903:=by unfold typeI;rw [hk];simp
 have HA:=qhi h
 have HT:=qhi ht
 clear h ht hd hs hsb hk
 go_enter Tryz.func150,Tryz.ntmps150
 go_wp2_with fail
 refine (PA.out _).mono ?_
 rintro e w1 ⟨rfl,b1⟩
 have bX : Below w.heap.size w (w.alloc (.cells #[.int .i64 16,.int .i64 f.stream,.int .i64 f.offset,.int .i64 f.n,.int .i64 f.code,.bool f.fin,.slice da f.data.length dc,.slice sa f.spans.length sc] 102)):=(qbr _ _).alloc (qlr _) _
 have B1 : Below w.heap.size w w1:=bX.trans (b1.mono (by simp))
 have k1:=(b1.block w.heap.size (by simp)).trans (alloc_at4 w (.cells #[.int .i64 16,.int .i64 f.stream,.int .i64 f.offset,.int .i64 f.n,.int .i64 f.code,.bool f.fin,.slice da f.data.length dc,.slice sa f.spans.length sc] 102))
 have lx:=(qgs k1).1
 have xk:=fun i => qcb k1 i
 have xk0:=xk 0
 have xk1:=xk 1
 have xk2:=xk 2
 have xk3:=xk 3
 have xk4:=xk 4
 have xk5:=xk 5
 have xk6:=xk 6
 have xk7:=xk 7
 go_wp2_with fail
 refine (TA.out _).mono ?_
 rintro e w2 ⟨rfl,b2⟩
 have bP : Below w1.heap.size w1 (w1.alloc (.cells #[.bool false,.bool false,.bool false,.bool true,.bool false,.bool false,.bool false] 227)):=(qbr _ _).alloc (qlr _) _
 have B2 : Below w.heap.size w w2:=(B1.trans (bP.mono B1.size)).trans (b2.mono (by have:=B1.size;simp;omega))
 have k2:=(b2.block w.heap.size (by simp;omega)).trans ((bP.block _ lx).trans k1)
 have k3:=(b2.block w1.heap.size (by simp)).trans (alloc_at4 w1 (.cells #[.bool false,.bool false,.bool false,.bool true,.bool false,.bool false,.bool false] 227))
 have z1:=B1.size
 have S0:=qhi (WS.mk (w0:=w) (HA.out.below B2) (WG.of_below B2 (by omega)) (HT.out.below B2 HT.out.pos) k2 k3 hlt (by omega) hq)
 clear xk0 xk1 xk2 xk3 xk4 xk5 xk6 xk7 xk k1 k2 k3 bX B1 b1 b2 bP B2 HA HT
 go_wp2_with fail
 refine (wnumber_any q _ (typeI f) _ _ S0.out.tab S0.out.at_ hty.1 hty.2 (by skip;omega)).mono ?_
 rintro e w3 ⟨rfl,g1,v1,A1⟩
 have l1:=E_le (typeI f)
 have S1:=qhi (S0.out.step g1 A1)
 have pc1:=fun i => qcb S1.out.par i
 have pc10:=pc1 0
 have pc11:=pc1 1
 have pc12:=pc1 2
 have pc13:=pc1 3
 have pc14:=pc1 4
 have pc15:=pc1 5
 have pc16:=pc1 6
 have xc1:=fun i => qcb S1.out.box i
 have xc10:=xc1 0
 have xc11:=xc1 1
 have xc12:=xc1 2
 have xc13:=xc1 3
 have xc14:=xc1 4
 have xc15:=xc1 5
 have xc16:=xc1 6
 have xc17:=xc1 7
 clear g1 A1
 go_wp2_with fail
 refine (wnumber_any q _ f.n _ _ S1.out.tab S1.out.at_ hnn.1 hnn.2 (by simp only [List.length_append];omega)).mono ?_
 rintro e w4 ⟨rfl,g2,v2,A2⟩
 have l2:=E_le f.n
 have S2:=qhi (S1.out.step g2 A2)
 have pc2:=fun i => qcb S2.out.par i
 have pc20:=pc2 0
 have pc21:=pc2 1
 have pc22:=pc2 2
 have pc23:=pc2 3
 have pc24:=pc2 4
 have pc25:=pc2 5
 have pc26:=pc2 6
 have xc2:=fun i => qcb S2.out.box i
 have xc20:=xc2 0
 have xc21:=xc2 1
 have xc22:=xc2 2
 have xc23:=xc2 3
 have xc24:=xc2 4
 have xc25:=xc2 5
 have xc26:=xc2 6
 have xc27:=xc2 7
 clear g2 A2
 skip
 go_wp2_with fail
 go_end0
 have EQ : bs ++ encF f = ((bs ++ E (typeI f)) ++ E f.n):=by rw [HE.out];try simp only [assocA]
 rw [EQ]
 exact ⟨rfl,S2.out.g,_,S2.out.at_⟩
theorem wframe_18 (q : Nat) (v : Value) (f : Fr) (da sa : Option Addr) (dc sc : Nat) (bs : List Int) (w : World) (ht : Tab w) (h : WAt w q v bs) (hb : bs.length ≤ 262144) (hq : 0 < q) (hk : f.kind = 18) (hnn : 0 ≤ f.n ∧ f.n ≤ 4611686018427387903)
  (hd : ∀ V,Below q w V → Rd .u8 V (.slice da f.data.length dc) f.data) (hs : ∀ V,Below q w V → RdS V (.slice sa f.spans.length sc) f.spans) (hsb : ∀ b,sa = some b → 1 ≤ f.spans.length → b.block < q) :
  Calls Tryz.prog 150 #[.pointer (some ⟨q,0,none⟩),.agg #[.int .i64 18,.int .i64 f.stream,.int .i64 f.offset,.int .i64 f.n,.int .i64 f.code,.bool f.fin,.slice da f.data.length dc,.slice sa f.spans.length sc]] w (WIs w q (bs ++ encF f)):=by
 have hlt:=h.lt
 have HD : Hid (∀ V,Below q w V → Rd .u8 V (.slice da f.data.length dc) f.data):=hd
 have HS : Hid (∀ V,Below q w V → RdS V (.slice sa f.spans.length sc) f.spans):=hs
 have HB : Hid (∀ b,sa = some b → 1 ≤ f.spans.length → b.block < q):=hsb
 have PA : Hid (∀ V : World,Calls Tryz.prog 159 #[.int .i64 18] V fun e w' => e = .returned (.tuple #[.agg #[.bool false,.bool false,.bool false,.bool true,.bool false,.bool false,.bool false],.bool true]) ∧ Below V.heap.size V w'):=fun V => partsOf_any 18 V
 have TA : Hid (∀ V : World,Calls Tryz.prog 197 #[.agg #[.int .i64 18,.int .i64 f.stream,.int .i64 f.offset,.int .i64 f.n,.int .i64 f.code,.bool f.fin,.slice da f.data.length dc,.slice sa f.spans.length sc]] V fun e w' => e = .returned (.int .i64 (typeI f)) ∧ Below V.heap.size V w'):=fun V => by have:=typeOf_any f da sa f.data.length f.spans.length dc sc V;rw [hk] at this;exact this
 have HE : Hid (encF f = E (typeI f) ++ (E f.n)):=by
  have a1 : hStream f.kind = false:=by rw [hk];rfl
  have a2 : hCode f.kind = false:=by rw [hk];rfl
  have a3 : hOffset f.kind = false:=by rw [hk];rfl
  have a4 : hSpans f.kind = false:=by rw [hk];rfl
  have a5 : hN f.kind = true:=by rw [hk];rfl
  have a6 : hData f.kind = false:=by rw [hk];rfl
  show _ = _
  rw [encF,a1,a2,a3,a4,a5,a6]
  simp only [iteT,iteF,nilA,nilB]
 have hty : 0 ≤ typeI f ∧ typeI f ≤ 4611686018427387903:=by unfold typeI;rw [hk];simp
 have HA:=qhi h
 have HT:=qhi ht
 clear h ht hd hs hsb hk
 go_enter Tryz.func150,Tryz.ntmps150
 go_wp2_with fail
 refine (PA.out _).mono ?_
 rintro e w1 ⟨rfl,b1⟩
 have bX : Below w.heap.size w (w.alloc (.cells #[.int .i64 18,.int .i64 f.stream,.int .i64 f.offset,.int .i64 f.n,.int .i64 f.code,.bool f.fin,.slice da f.data.length dc,.slice sa f.spans.length sc] 102)):=(qbr _ _).alloc (qlr _) _
 have B1 : Below w.heap.size w w1:=bX.trans (b1.mono (by simp))
 have k1:=(b1.block w.heap.size (by simp)).trans (alloc_at4 w (.cells #[.int .i64 18,.int .i64 f.stream,.int .i64 f.offset,.int .i64 f.n,.int .i64 f.code,.bool f.fin,.slice da f.data.length dc,.slice sa f.spans.length sc] 102))
 have lx:=(qgs k1).1
 have xk:=fun i => qcb k1 i
 have xk0:=xk 0
 have xk1:=xk 1
 have xk2:=xk 2
 have xk3:=xk 3
 have xk4:=xk 4
 have xk5:=xk 5
 have xk6:=xk 6
 have xk7:=xk 7
 go_wp2_with fail
 refine (TA.out _).mono ?_
 rintro e w2 ⟨rfl,b2⟩
 have bP : Below w1.heap.size w1 (w1.alloc (.cells #[.bool false,.bool false,.bool false,.bool true,.bool false,.bool false,.bool false] 227)):=(qbr _ _).alloc (qlr _) _
 have B2 : Below w.heap.size w w2:=(B1.trans (bP.mono B1.size)).trans (b2.mono (by have:=B1.size;simp;omega))
 have k2:=(b2.block w.heap.size (by simp;omega)).trans ((bP.block _ lx).trans k1)
 have k3:=(b2.block w1.heap.size (by simp)).trans (alloc_at4 w1 (.cells #[.bool false,.bool false,.bool false,.bool true,.bool false,.bool false,.bool false] 227))
 have z1:=B1.size
 have S0:=qhi (WS.mk (w0:=w) (HA.out.below B2) (WG.of_below B2 (by omega)) (HT.out.below B2 HT.out.pos) k2 k3 hlt (by omega) hq)
 clear xk0 xk1 xk2 xk3 xk4 xk5 xk6 xk7 xk k1 k2 k3 bX B1 b1 b2 bP B2 HA HT
 go_wp2_with fail
 refine (wnumber_any q _ (typeI f) _ _ S0.out.tab S0.out.at_ hty.1 hty.2 (by skip;omega)).mono ?_
 rintro e w3 ⟨rfl,g1,v1,A1⟩
 have l1:=E_le (typeI f)
 have S1:=qhi (S0.out.step g1 A1)
 have pc1:=fun i => qcb S1.out.par i
 have pc10:=pc1 0
 have pc11:=pc1 1
 have pc12:=pc1 2
 have pc13:=pc1 3
 have pc14:=pc1 4
 have pc15:=pc1 5
 have pc16:=pc1 6
 have xc1:=fun i => qcb S1.out.box i
 have xc10:=xc1 0
 have xc11:=xc1 1
 have xc12:=xc1 2
 have xc13:=xc1 3
 have xc14:=xc1 4
 have xc15:=xc1 5
 have xc16:=xc1 6
 have xc17:=xc1 7
 clear g1 A1
 go_wp2_with fail
 refine (wnumber_any q _ f.n _ _ S1.out.tab S1.out.at_ hnn.1 hnn.2 (by simp only [List.length_append];omega)).mono ?_
 rintro e w4 ⟨rfl,g2,v2,A2⟩
 have l2:=E_le f.n
 have S2:=qhi (S1.out.step g2 A2)
 have pc2:=fun i => qcb S2.out.par i
 have pc20:=pc2 0
 have pc21:=pc2 1
 have pc22:=pc2 2
 have pc23:=pc2 3
 have pc24:=pc2 4
 have pc25:=pc2 5
 have pc26:=pc2 6
 have xc2:=fun i => qcb S2.out.box i
 have xc20:=xc2 0
 have xc21:=xc2 1
 have xc22:=xc2 2
 have xc23:=xc2 3
 have xc24:=xc2 4
 have xc25:=xc2 5
 have xc26:=xc2 6
 have xc27:=xc2 7
 clear g2 A2
 skip
 go_wp2_with fail
 go_end0
 have EQ : bs ++ encF f = ((bs ++ E (typeI f)) ++ E f.n):=by rw [HE.out];try simp only [assocA]
 rw [EQ]
 exact ⟨rfl,S2.out.g,_,S2.out.at_⟩
theorem wframe_17 (q : Nat) (v : Value) (f : Fr) (da sa : Option Addr) (dc sc : Nat) (bs : List Int) (w : World) (ht : Tab w) (h : WAt w q v bs) (hb : bs.length ≤ 262144) (hq : 0 < q) (hk : f.kind = 17) (hst : 0 ≤ f.stream ∧ f.stream ≤ 4611686018427387903) (hnn : 0 ≤ f.n ∧ f.n ≤ 4611686018427387903)
  (hd : ∀ V,Below q w V → Rd .u8 V (.slice da f.data.length dc) f.data) (hs : ∀ V,Below q w V → RdS V (.slice sa f.spans.length sc) f.spans) (hsb : ∀ b,sa = some b → 1 ≤ f.spans.length → b.block < q) :
  Calls Tryz.prog 150 #[.pointer (some ⟨q,0,none⟩),.agg #[.int .i64 17,.int .i64 f.stream,.int .i64 f.offset,.int .i64 f.n,.int .i64 f.code,.bool f.fin,.slice da f.data.length dc,.slice sa f.spans.length sc]] w (WIs w q (bs ++ encF f)):=by
 have hlt:=h.lt
 have HD : Hid (∀ V,Below q w V → Rd .u8 V (.slice da f.data.length dc) f.data):=hd
 have HS : Hid (∀ V,Below q w V → RdS V (.slice sa f.spans.length sc) f.spans):=hs
 have HB : Hid (∀ b,sa = some b → 1 ≤ f.spans.length → b.block < q):=hsb
 have PA : Hid (∀ V : World,Calls Tryz.prog 159 #[.int .i64 17] V fun e w' => e = .returned (.tuple #[.agg #[.bool true,.bool false,.bool false,.bool true,.bool false,.bool false,.bool false],.bool true]) ∧ Below V.heap.size V w'):=fun V => partsOf_any 17 V
 have TA : Hid (∀ V : World,Calls Tryz.prog 197 #[.agg #[.int .i64 17,.int .i64 f.stream,.int .i64 f.offset,.int .i64 f.n,.int .i64 f.code,.bool f.fin,.slice da f.data.length dc,.slice sa f.spans.length sc]] V fun e w' => e = .returned (.int .i64 (typeI f)) ∧ Below V.heap.size V w'):=fun V => by have:=typeOf_any f da sa f.data.length f.spans.length dc sc V;rw [hk] at this;exact this
 have HE : Hid (encF f = E (typeI f) ++ (E f.stream ++ (E f.n))):=by
  have a1 : hStream f.kind = true:=by rw [hk];rfl
  have a2 : hCode f.kind = false:=by rw [hk];rfl
  have a3 : hOffset f.kind = false:=by rw [hk];rfl
  have a4 : hSpans f.kind = false:=by rw [hk];rfl
  have a5 : hN f.kind = true:=by rw [hk];rfl
  have a6 : hData f.kind = false:=by rw [hk];rfl
  show _ = _
  rw [encF,a1,a2,a3,a4,a5,a6]
  simp only [iteT,iteF,nilA,nilB]
 have hty : 0 ≤ typeI f ∧ typeI f ≤ 4611686018427387903:=by unfold typeI;rw [hk];simp
 have HA:=qhi h
 have HT:=qhi ht
 clear h ht hd hs hsb hk
 go_enter Tryz.func150,Tryz.ntmps150
 go_wp2_with fail
 refine (PA.out _).mono ?_
 rintro e w1 ⟨rfl,b1⟩
 have bX : Below w.heap.size w (w.alloc (.cells #[.int .i64 17,.int .i64 f.stream,.int .i64 f.offset,.int .i64 f.n,.int .i64 f.code,.bool f.fin,.slice da f.data.length dc,.slice sa f.spans.length sc] 102)):=(qbr _ _).alloc (qlr _) _
 have B1 : Below w.heap.size w w1:=bX.trans (b1.mono (by simp))
 have k1:=(b1.block w.heap.size (by simp)).trans (alloc_at4 w (.cells #[.int .i64 17,.int .i64 f.stream,.int .i64 f.offset,.int .i64 f.n,.int .i64 f.code,.bool f.fin,.slice da f.data.length dc,.slice sa f.spans.length sc] 102))
 have lx:=(qgs k1).1
 have xk:=fun i => qcb k1 i
 have xk0:=xk 0
 have xk1:=xk 1
 have xk2:=xk 2
 have xk3:=xk 3
 have xk4:=xk 4
 have xk5:=xk 5
 have xk6:=xk 6
 have xk7:=xk 7
 go_wp2_with fail
 refine (TA.out _).mono ?_
 rintro e w2 ⟨rfl,b2⟩
 have bP : Below w1.heap.size w1 (w1.alloc (.cells #[.bool true,.bool false,.bool false,.bool true,.bool false,.bool false,.bool false] 227)):=(qbr _ _).alloc (qlr _) _
 have B2 : Below w.heap.size w w2:=(B1.trans (bP.mono B1.size)).trans (b2.mono (by have:=B1.size;simp;omega))
 have k2:=(b2.block w.heap.size (by simp;omega)).trans ((bP.block _ lx).trans k1)
 have k3:=(b2.block w1.heap.size (by simp)).trans (alloc_at4 w1 (.cells #[.bool true,.bool false,.bool false,.bool true,.bool false,.bool false,.bool false] 227))
 have z1:=B1.size
 have S0:=qhi (WS.mk (w0:=w) (HA.out.below B2) (WG.of_below B2 (by omega)) (HT.out.below B2 HT.out.pos) k2 k3 hlt (by omega) hq)
 clear xk0 xk1 xk2 xk3 xk4 xk5 xk6 xk7 xk k1 k2 k3 bX B1 b1 b2 bP B2 HA HT
 go_wp2_with fail
 refine (wnumber_any q _ (typeI f) _ _ S0.out.tab S0.out.at_ hty.1 hty.2 (by skip;omega)).mono ?_
 rintro e w3 ⟨rfl,g1,v1,A1⟩
 have l1:=E_le (typeI f)
 have S1:=qhi (S0.out.step g1 A1)
 have pc1:=fun i => qcb S1.out.par i
 have pc10:=pc1 0
 have pc11:=pc1 1
 have pc12:=pc1 2
 have pc13:=pc1 3
 have pc14:=pc1 4
 have pc15:=pc1 5
 have pc16:=pc1 6
 have xc1:=fun i => qcb S1.out.box i
 have xc10:=xc1 0
 have xc11:=xc1 1
 have xc12:=xc1 2
 have xc13:=xc1 3
 have xc14:=xc1 4
 have xc15:=xc1 5
 have xc16:=xc1 6
 have xc17:=xc1 7
 clear g1 A1
 go_wp2_with fail
 refine (wnumber_any q _ f.stream _ _ S1.out.tab S1.out.at_ hst.1 hst.2 (by simp only [List.length_append];omega)).mono ?_
 rintro e w4 ⟨rfl,g2,v2,A2⟩
 have l2:=E_le f.stream
 have S2:=qhi (S1.out.step g2 A2)
 have pc2:=fun i => qcb S2.out.par i
 have pc20:=pc2 0
 have pc21:=pc2 1
 have pc22:=pc2 2
 have pc23:=pc2 3
 have pc24:=pc2 4
 have pc25:=pc2 5
 have pc26:=pc2 6
 have xc2:=fun i => qcb S2.out.box i
 have xc20:=xc2 0
 have xc21:=xc2 1
 have xc22:=xc2 2
 have xc23:=xc2 3
 have xc24:=xc2 4
 have xc25:=xc2 5
 have xc26:=xc2 6
 have xc27:=xc2 7
 clear g2 A2
 skip
 go_wp2_with fail
 refine (wnumber_any q _ f.n _ _ S2.out.tab S2.out.at_ hnn.1 hnn.2 (by simp only [List.length_append];omega)).mono ?_
 rintro e w5 ⟨rfl,g3,v3,A3⟩
 have l3:=E_le f.n
 have S3:=qhi (S2.out.step g3 A3)
 have pc3:=fun i => qcb S3.out.par i
 have pc30:=pc3 0
 have pc31:=pc3 1
 have pc32:=pc3 2
 have pc33:=pc3 3
 have pc34:=pc3 4
 have pc35:=pc3 5
 have pc36:=pc3 6
 have xc3:=fun i => qcb S3.out.box i
 have xc30:=xc3 0
 have xc31:=xc3 1
 have xc32:=xc3 2
 have xc33:=xc3 3
 have xc34:=xc3 4
 have xc35:=xc3 5
 have xc36:=xc3 6
 have xc37:=xc3 7
 clear g3 A3
 skip
 go_wp2_with fail
 go_end0
 have EQ : bs ++ encF f = (((bs ++ E (typeI f)) ++ E f.stream) ++ E f.n):=by rw [HE.out];try simp only [assocA]
 rw [EQ]
 exact ⟨rfl,S3.out.g,_,S3.out.at_⟩
end Go.Proofs.YtmcomdmcmnbhlaaGreatDoor
