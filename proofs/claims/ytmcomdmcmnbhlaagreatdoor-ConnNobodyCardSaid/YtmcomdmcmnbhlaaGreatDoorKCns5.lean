import Derived.Test.YtmcomdmcmnbhlaaGreatDoorKCns3
import Derived.Test.YtmcomdmcmnbhlaaGreatDoorKCns4
set_option maxRecDepth 100000
set_option maxHeartbeats 25600000
set_option linter.unusedSimpArgs false
set_option linter.unusedVariables false
set_option linter.unnecessarySimpa false
namespace Go.Proofs.YtmcomdmcmnbhlaaGreatDoor
open Go.RowKit Go.Maps
def TellG (c : Col) (k e o : Nat) (X : List Int) (F : Bool) (q : WQ) (st : Nat) (room : Int) (w : World) (r : Ending) (w' : World) : Prop :=
 ∃ (kd s a : Int) (fin : Bool) (da : Option Addr) (dl dc : Nat) (t : Int),r = .returned (.tuple #[.agg #[.int .i64 kd,.int .i64 s,.int .i64 a,.int .i64 0,.int .i64 0,.bool fin,.slice da dl dc,.slice none 0 0],.agg #[.int .i64 s,.int .i64 a,.int .i64 t,.int .i64 0]]) ∧
  ∃ q1,WDone c k e o q1 w w' ∧ WOk X F q1 ∧ WSub q q1 ∧ EXG q st room a t fin q1 ∧ a ≤ t ∧
   (a < t → kd = 8 ∧ s = st ∧ ∃ d,Own .u8 5 w' w.heap.size (.slice da dl dc) d ∧ mayF (strFr st a fin d) = true ∧ ((encF (strFr st a fin d)).length : Int) ≤ room ∧ Bts d ∧ 0 ≤ a ∧ Says X F a.toNat d fin)
theorem tellG_any {c : Col} {K e i : Nat} {X : Nat → List Int} {F : Nat → Bool} {Y : Nat → List Int} {G : Nat → Bool} {q : EQ} {w : World} (ht : Tab w) (h : EOk c K e X F Y G q w) (hi : i < 4) (hX : ((X i).length : Int) ≤ 4398046511104) (hb : Bts (X i))
  (hw : ¬ EndC K (c 0)) (room : Int) (hroom : -100000 ≤ room ∧ room ≤ 1200) :
  Calls Tryz.prog 70 #[.pointer (some ⟨e,3 + i * 8,none⟩),.int .i64 (i : Int),.int .i64 room] w fun r w' => TellG c (K + 1 + i) e (3 + 8 * i) (X i) (F i) (q.ws i) i room w r w':=by
 have hW:=h.wr i hi
 have hk : c e ≠ K + 1 + i:=by rw [h.cell.ce];omega
 have T:=tell_any hW (h.wok i hi) hX ht (by intro x;exact hw (by rw [x];exact ⟨by omega,by omega⟩)) (i : Int) room (by omega) hroom
 rw [Nat.mul_comm i 8]
 refine T.mono ?_
 rintro r w' ⟨g,cc,ht⟩
 rcases tell_done hW (h.wok i hi) hX hb hk hi hroom.2 ht with ⟨h1,h0,h2⟩ | ⟨a,fin,d,dv,t,q1,h1,h2,h3,h4,h5,hx,h6,h7⟩
 ·exact ⟨0,0,0,false,none,0,0,0,h1,q.ws i,⟨q.wv i,hW.below h2,Stp.of_below h2,Rgn.below hW.cells.c0.lt h2⟩,h.wok i hi,WSub.refl _,⟨fun _ => ⟨rfl,rfl⟩,fun hq _ _ => by
   have h3:=h0 0 (by rw [hq];decide)
   simp only [hq] at h3
   cases h3⟩,Int.le_refl _,fun x => absurd x (by omega)⟩
 ·obtain ⟨da,dc,rfl⟩:=h2.len
  exact ⟨8,i,a,fin,da,d.length,dc,t,h1,q1,h3,h4,h5,hx,h6,fun x => ⟨rfl,rfl,d,h2,h7 x⟩⟩
def leftOfG (g : Nat) (w : World) : Nat:=match w.cell? ⟨g,2,none⟩ with
 | some v => 64 - (intOf v).toNat
 | none => 0
def CutB (c : Col) (K Z e B g n : Nat) (X : Nat → List Int) (F : Nat → Bool) (Y : Nat → List Int) (G : Nat → Bool) (fs : List Fr) (room : Int) (ps : List Pt) (q : EQ) (st : Nat) (w : World) (t7 t8 : Value) (wc : World) : Prop :=
 ∃ (bf bp : Nat) (kd s a : Int) (fin : Bool) (da : Option Addr) (dl dc : Nat) (t : Int),t7 = .pointer (some ⟨bf,0,none⟩) ∧ t8 = .pointer (some ⟨bp,0,none⟩) ∧
  wc.heap[bf]? = some (.cells #[.int .i64 kd,.int .i64 s,.int .i64 a,.int .i64 0,.int .i64 0,.bool fin,.slice da dl dc,.slice none 0 0] 102 (0,0)) ∧
  wc.heap[bp]? = some (.cells #[.int .i64 s,.int .i64 a,.int .i64 t,.int .i64 0] 122 (0,0)) ∧
  ∃ q2,EOk c K e X F Y G q2 wc ∧ ESub q q2 ∧ Stp c c (fun i => Wrs K i ∨ i = Z) w wc ∧ Gin X F B g n fs room ps wc ∧ (EXG (q.ws st) st room a t fin (q2.ws st) ∧ ∀ j,j ≠ st → q2.ws j = q.ws j) ∧ a ≤ t ∧
   (a < t → kd = 8 ∧ s = st ∧ ∃ d,Rd .u8 wc (.slice da dl dc) d ∧ mayF (strFr st a fin d) = true ∧ ((encF (strFr st a fin d)).length : Int) ≤ room ∧ Bts d ∧ 0 ≤ a ∧ Says (X st) (F st) a.toNat d fin)
def put8 (w : World) (b : Nat) (x0 x1 x2 x3 x4 x5 x6 x7 : Value) : World:=((((((((w.setCell ⟨b,0,none⟩ x0).setCell ⟨b,1,none⟩ x1).setCell ⟨b,2,none⟩ x2).setCell ⟨b,3,none⟩ x3).setCell ⟨b,4,none⟩ x4).setCell ⟨b,5,none⟩ x5).setCell ⟨b,6,none⟩ x6).setCell ⟨b,7,none⟩ x7)
theorem put8_block {w : World} {b T : Nat} {fr : Nat × Nat} {y0 y1 y2 y3 y4 y5 y6 y7 : Value} (h : w.heap[b]? = some (.cells #[y0,y1,y2,y3,y4,y5,y6,y7] T fr)) (x0 x1 x2 x3 x4 x5 x6 x7 : Value) : (put8 w b x0 x1 x2 x3 x4 x5 x6 x7).heap[b]? = some (.cells #[x0,x1,x2,x3,x4,x5,x6,x7] T fr):=by
 simp [put8,World.setCell,Array.getElem?_modify,h]
theorem put8_keep (w : World) (b : Nat) (x0 x1 x2 x3 x4 x5 x6 x7 : Value) : Keep [b] w (put8 w b x0 x1 x2 x3 x4 x5 x6 x7) :=
 have T : ∀ {a b' c : World},Keep [b] a b' → Keep [b] b' c → Keep [b] a c:=fun h k => h.trans k (fun i hi => .inl hi)
 (T (T (T (T (T (T (T (T (Keep.refl [b] w) (keep_setCell _ b 0 x0)) (keep_setCell _ b 1 x1)) (keep_setCell _ b 2 x2)) (keep_setCell _ b 3 x3)) (keep_setCell _ b 4 x4)) (keep_setCell _ b 5 x5)) (keep_setCell _ b 6 x6)) (keep_setCell _ b 7 x7))
def put4 (w : World) (b : Nat) (x0 x1 x2 x3 : Value) : World:=((((w.setCell ⟨b,0,none⟩ x0).setCell ⟨b,1,none⟩ x1).setCell ⟨b,2,none⟩ x2).setCell ⟨b,3,none⟩ x3)
theorem put4_block {w : World} {b T : Nat} {fr : Nat × Nat} {y0 y1 y2 y3 : Value} (h : w.heap[b]? = some (.cells #[y0,y1,y2,y3] T fr)) (x0 x1 x2 x3 : Value) : (put4 w b x0 x1 x2 x3).heap[b]? = some (.cells #[x0,x1,x2,x3] T fr):=by
 simp [put4,World.setCell,Array.getElem?_modify,h]
theorem put4_keep (w : World) (b : Nat) (x0 x1 x2 x3 : Value) : Keep [b] w (put4 w b x0 x1 x2 x3) :=
 have T : ∀ {a b' c : World},Keep [b] a b' → Keep [b] b' c → Keep [b] a c:=fun h k => h.trans k (fun i hi => .inl hi)
 (T (T (T (T (Keep.refl [b] w) (keep_setCell _ b 0 x0)) (keep_setCell _ b 1 x1)) (keep_setCell _ b 2 x2)) (keep_setCell _ b 3 x3))
theorem upd_self {α : Type} (f : Nat → α) (i : Nat) : upd f i (f i) = f:=by
 funext j
 by_cases h : j = i
 ·subst h;exact upd_at _ _ _
 ·exact upd_ne _ _ h
def TellT (c : Col) (k e o : Nat) (X : List Int) (F : Bool) (q : WQ) (st : Nat) (room : Int) (w : World) (kd s a : Int) (fin : Bool) (da : Option Addr) (dl dc : Nat) (t : Int) (w' : World) : Prop :=
  ∃ q1,WDone c k e o q1 w w' ∧ WOk X F q1 ∧ WSub q q1 ∧ EXG q st room a t fin q1 ∧ a ≤ t ∧
   (a < t → kd = 8 ∧ s = st ∧ ∃ d,Own .u8 5 w' w.heap.size (.slice da dl dc) d ∧ mayF (strFr st a fin d) = true ∧ ((encF (strFr st a fin d)).length : Int) ≤ room ∧ Bts d ∧ 0 ≤ a ∧ Says X F a.toNat d fin)
theorem put_both {w3 W4 : World} {bf bp : Nat} (b : Below w3.heap.size w3 W4) {T U : Nat} {y0 y1 y2 y3 y4 y5 y6 y7 z0 z1 z2 z3 : Value} (hF : W4.heap[bf]? = some (.cells #[y0,y1,y2,y3,y4,y5,y6,y7] T (0,0))) (hP : W4.heap[bp]? = some (.cells #[z0,z1,z2,z3] U (0,0))) (hb : bf ≠ bp)
  (v0 v1 v2 v3 v4 v5 v6 v7 t : Value) : Keep [bf,bp] w3 (put4 (put8 W4 bf v0 v1 v2 v3 v4 v5 v6 v7) bp v1 v2 t v3) ∧ (put4 (put8 W4 bf v0 v1 v2 v3 v4 v5 v6 v7) bp v1 v2 t v3).heap[bf]? = some (.cells #[v0,v1,v2,v3,v4,v5,v6,v7] T (0,0)) ∧ (put4 (put8 W4 bf v0 v1 v2 v3 v4 v5 v6 v7) bp v1 v2 t v3).heap[bp]? = some (.cells #[v1,v2,t,v3] U (0,0)):=by
 have k1:=put8_keep W4 bf v0 v1 v2 v3 v4 v5 v6 v7
 have x1:=put8_block hF v0 v1 v2 v3 v4 v5 v6 v7
 have y1:=(k1.block bp (qgs hP).1 (by simp;exact fun h => hb h.symm)).trans hP
 generalize put8 W4 bf v0 v1 v2 v3 v4 v5 v6 v7 = W5 at k1 x1 y1 ⊢
 have k2:=put4_keep W5 bp v1 v2 t v3
 have y2:=put4_block y1 v1 v2 t v3
 have x2:=(k2.block bf (qgs x1).1 (by simp;exact hb)).trans x1
 exact ⟨((Keep.of_below (S:=[bf,bp]) b).trans k1 (fun i hi => .inl (by simp at hi ⊢;exact .inl hi))).trans k2 (fun i hi => .inl (by simp at hi ⊢;exact .inr hi)),x2,y2⟩
theorem frozen_blk {w : World} {b T : Nat} {cs : Array Value} (h : w.heap[b]? = some (.cells cs T (0,0))) (m : Nat) : w.frozen? ⟨b,m,none⟩ = false:=by simp [World.frozen?,h]
theorem off_two {bf bp A C j : Nat} (h1 : bf < A ∨ C ≤ bf) (h2 : bp < A ∨ C ≤ bp) (x1 : A ≤ j) (x2 : j < C) : j ∉ [bf,bp]:=by simp;omega
theorem cut_fin {c : Col} {K Z e B g n i bf bp : Nat} {X : Nat → List Int} {F : Nat → Bool} {Y : Nat → List Int} {G : Nat → Bool} {fs : List Fr} {room : Int} {ps : List Pt} {q : EQ} {wr W w3 wc : World} (hE : EOk c K e X F Y G q wr) (hG : Gin X F B g n fs room ps wr) (hc : ∀ j,B ≤ j → c j = Z) (hz : ¬ EndC K Z) (hi : i < 4)
  {kd s a : Int} {fin : Bool} {da : Option Addr} {dl dc : Nat} {t : Int} (b1 : Below wr.heap.size wr W) (h3 : TellT c (K + 1 + i) e (3 + 8 * i) (X i) (F i) (q.ws i) i room W kd s a fin da dl dc t w3) (kk : Keep [bf,bp] w3 wc)
  (x2 : wc.heap[bf]? = some (.cells #[.int .i64 kd,.int .i64 s,.int .i64 a,.int .i64 0,.int .i64 0,.bool fin,.slice da dl dc,.slice none 0 0] 102 (0,0))) (y2 : wc.heap[bp]? = some (.cells #[.int .i64 s,.int .i64 a,.int .i64 t,.int .i64 0] 122 (0,0)))
  (h1 : wr.heap.size ≤ bf ∧ (bf < W.heap.size ∨ w3.heap.size ≤ bf)) (h2 : wr.heap.size ≤ bp ∧ (bp < W.heap.size ∨ w3.heap.size ≤ bp)) :
  CutB c K Z e B g n X F Y G fs room ps q i wr (.pointer (some ⟨bf,0,none⟩)) (.pointer (some ⟨bp,0,none⟩)) wc:=by
 obtain ⟨q1,hD,hO,hS,hxg,hat,hX⟩:=h3
 have HJ : ∀ j,W.heap.size ≤ j → j < w3.heap.size → j ∉ [bf,bp]:=fun j x1 x2 => off_two h1.2 h2.2 x1 x2
 have hBw : B ≤ wr.heap.size:=Nat.le_of_lt hG.gm.lt
 obtain ⟨eW,sW⟩:=hE.over2 (b1.mono hBw) hc hz
 obtain ⟨v',e3,s3,r3⟩:=eW.wdone hi q1 (X i) (F i) hD hO
 rw [upd_self,upd_self] at e3
 have z1:=b1.size
 have z2:=s3.size
 have z5:=kk.size
 have bc : Below wr.heap.size w3 wc:=kk.to_below (by intro i hi;simp at hi;rcases hi with rfl | rfl;exact h1.1;exact h2.1) (by omega)
 obtain ⟨ec,sc⟩:=e3.over2 (bc.mono hBw) hc hz
 have st : Stp c c (fun i => Wrs K i ∨ i = Z) wr wc:=((sW.mono fun _ => .inr).trans (s3.mono fun _ => .inl)).trans (sc.mono fun _ => .inr)
 refine ⟨bf,bp,kd,s,a,fin,da,dl,dc,t,rfl,rfl,x2,y2,_,ec,?_,st,?_,⟨(by show EXG _ _ _ _ _ _ (upd q.ws i q1 i);rw [upd_at];exact hxg),fun j hj => upd_ne _ _ hj⟩,hat,fun hlt => ?_⟩
 ·refine ⟨rfl,fun j hj => ?_,fun j hj => rfl⟩
  by_cases hji : j = i
  ·subst hji
   show WSub _ (upd q.ws j q1 j)
   rw [upd_at];exact hS
  ·show WSub _ (upd q.ws i q1 j)
   rw [upd_ne _ _ hji];exact WSub.refl _
 ·have sq : Stp c c (fun i => i ≠ Z) wr wc:=⟨st.os,st.tape,st.output,st.size,st.col,fun j hj hn => by
   have hcj : c j = Z:=by simpa using hn
   have u1:=b1.block j hj
   have u2:=s3.block j (by omega) (by rw [hcj];intro h;exact hz ⟨h.1,by have:=h.2;omega⟩)
   have u3:=bc.block j hj
   exact u3.trans (u2.trans u1)⟩
  exact hG.stp sq (fun j hj _ hk => hk (hc j hj))
 ·obtain ⟨p1,p2,d,p3,p4,p5,p6,p7,p8⟩:=hX hlt
  refine ⟨p1,p2,d,?_,p4,p5,p6,p7,p8⟩
  have : Own .u8 5 wc W.heap.size (.slice da dl dc) d:=ownsRow_block p3 (fun j hj => by
   have hl:=World.ownsRow.lt p3 j hj
   exact kk.block j hl.2 (HJ j hl.1 hl.2))
  exact this.rd
theorem Gin.put {X : Nat → List Int} {F : Nat → Bool} {B g n : Nat} {fs : List Fr} {room : Int} {ps : List Pt} {w : World} (ht : Tab w) (h : Gin X F B g n fs room ps w) (f : Fr) (dv sv qv : Value) (qs : List Pt)
  (hf : FvRd w ⟨f,dv,sv⟩) (hm : mayF f = true) (hl : (encF f).length ≤ 1200) (hb : Bts f.data) (hs : SayF X F f) (hQ : w.ownsRow 0 122 4 qv qs.length (ptC qs)) (hq : qs.length ≤ 1) (hp : ∀ p ∈ qs,PtOk p) (hroom : ((encF f).length : Int) ≤ room) (h64 : fs.length < 64) :
  Calls Tryz.prog 64 #[.pointer (some ⟨g,0,none⟩),frA f dv sv,qv] w fun e w' => e = .returned (.bool true) ∧ Below B w w' ∧ Gin X F B g n (fs ++ [f]) (room - (encF f).length) (ps ++ qs) w':=by
 have h1:=h.many
 have h2:=h.sum
 have h3:=h.low
 have h4:=h.few
 refine (add_yes ht h.gm (by omega) (by omega) (by omega) hf (encL_one hm hl) hQ hroom (by omega) h64).mono ?_
 rintro e w' ⟨rfl,h7,hB⟩
 refine ⟨rfl,hB,?_,?_,?_,?_,?_,?_,?_,?_,?_,h.num,by rw [body_add,List.length_append];omega⟩
 ·rw [body_add,List.length_append];exact h7
 ·simp [h.may,hm]
 ·simp;omega
 ·rw [body_add,List.length_append];omega
 ·omega
 ·intro x hx
  rcases List.mem_append.1 hx with hx | hx
  ·exact h.bts x hx
  ·simp at hx;subst hx;exact hb
 ·intro x hx
  rcases List.mem_append.1 hx with hx | hx
  ·exact h.says x hx
  ·simp at hx;subst hx;exact hs
 ·intro x hx
  rcases List.mem_append.1 hx with hx | hx
  ·exact h.parts x hx
  ·exact hp x hx
 ·simp;omega
def BytA (X : Nat → List Int) (q : EQ) (fs : List Fr) (room : Int) : Prop:=q.ws 0 = twoQ ∧ (∀ i,0 < i → i < 4 → (q.ws i).rest = []) ∧ q.turn = 0 ∧ fs = [] ∧ 100 ≤ room ∧ X 0 = [97]
def BytJ (X : Nat → List Int) (q : EQ) (fs : List Fr) (room : Int) (k : Nat) : EQ → List Fr → Int → Prop:=fun q' fs' room' => BytA X q fs room →
 (∀ i,0 < i → i < 4 → (q'.ws i).rest = []) ∧ ((k = 0 ∧ fs' = [] ∧ room' = room ∧ q'.ws 0 = twoQ) ∨ (fs' = [strFr 0 0 true [97]] ∧ q'.ws 0 = twoT))
theorem bytj_all {X : Nat → List Int} {q : EQ} {fs : List Fr} {room : Int} {k s : Nat} {q1 : EQ} {fs1 : List Fr} {room1 : Int} (hs : s < 4) (hr : ∀ i,0 < i → i < 4 → (q1.ws i).rest = []) (h0 : q1.ws 0 = twoT) : ∀ l ∈ (q1.ws s).rest,l.told = true:=by
 intro l hl
 rcases Nat.eq_zero_or_pos s with h | h
 ·subst h
  rw [h0] at hl
  simp [twoT] at hl
  rcases hl with rfl | rfl <;> rfl
 ·rw [hr s h hs] at hl;cases hl
theorem bytj_eq {X : Nat → List Int} {q : EQ} {fs : List Fr} {room : Int} {k s : Nat} {q1 q2 : EQ} {fs1 : List Fr} {room1 a t : Int} {fin : Bool} (hs : s < 4) (hs0 : q.turn = 0 → k = 0 → s = 0) (hJ : BytJ X q fs room k q1 fs1 room1) (hx : EXG (q1.ws s) s room1 a t fin (q2.ws s) ∧ ∀ j,j ≠ s → q2.ws j = q1.ws j) (hat : a = t) : BytJ X q fs room (k + 1) q2 fs1 room1:=by
 intro hA
 obtain ⟨hr,h | h⟩:=hJ hA
 ·obtain ⟨k0,f0,r0,w0⟩:=h
  have hz:=hs0 hA.2.2.1 k0
  subst hz
  have:=hx.1.2 w0 rfl (by rw [r0];exact hA.2.2.2.2.1)
  omega
 ·have hall:=bytj_all (X:=X) (q:=q) (fs:=fs) (room:=room) (k:=k) (fs1:=fs1) (room1:=room1) hs hr h.2
  have h1:=(hx.1.1 hall).2
  have h2 : ∀ j,q2.ws j = q1.ws j:=fun j => by
   by_cases hj : j = s
   ·rw [hj];exact h1
   ·exact hx.2 j hj
  exact ⟨fun i h3 h4 => by rw [h2];exact hr i h3 h4,.inr ⟨h.1,by rw [h2];exact h.2⟩⟩
theorem bytj_lt {X : Nat → List Int} {F : Nat → Bool} {q : EQ} {fs : List Fr} {room : Int} {k s : Nat} {q1 q2 : EQ} {fs1 : List Fr} {room1 room2 a t : Int} {fin : Bool} {d : List Int} (hs : s < 4) (hs0 : q.turn = 0 → k = 0 → s = 0) (hJ : BytJ X q fs room k q1 fs1 room1) (hx : EXG (q1.ws s) s room1 a t fin (q2.ws s) ∧ ∀ j,j ≠ s → q2.ws j = q1.ws j) (hat : a < t) (hsay : Says (X s) (F s) a.toNat d fin) : BytJ X q fs room k q2 (fs1 ++ [strFr s a fin d]) room2:=by
 intro hA
 obtain ⟨hr,h | h⟩:=hJ hA
 ·obtain ⟨k0,f0,r0,w0⟩:=h
  have hz:=hs0 hA.2.2.1 k0
  subst hz
  obtain ⟨a0,t0,fin0,q20⟩:=hx.1.2 w0 rfl (by rw [r0];exact hA.2.2.2.2.1)
  subst a0;subst fin0;subst f0
  obtain ⟨l1,l2,l3⟩:=hsay
  rw [hA.2.2.2.2.2] at l2 l3
  have l4:=(l3 rfl).2
  have l5 : d = [97]:=by
   have e : d.length = 1:=by simpa using l4
   rw [e] at l2
   exact l2
  subst l5
  exact ⟨fun i h3 h4 => by rw [hx.2 i (by omega)];exact hr i h3 h4,.inr ⟨rfl,q20⟩⟩
 ·have hall:=bytj_all (X:=X) (q:=q) (fs:=fs) (room:=room) (k:=k) (fs1:=fs1) (room1:=room1) hs hr h.2
  have h1:=(hx.1.1 hall).1
  omega
theorem bytj_full {X : Nat → List Int} {q : EQ} {fs : List Fr} {room : Int} {k : Nat} {q1 : EQ} {fs1 : List Fr} {room1 : Int} (hJ : BytJ X q fs room k q1 fs1 room1) (h64 : ¬ (fs1.length : Int) < 64) : BytJ X q fs room (k + 1) q1 fs1 room1:=by
 intro hA
 obtain ⟨hr,h | h⟩:=hJ hA
 ·obtain ⟨_,f0,_,_⟩:=h
  rw [f0] at h64
  exact absurd (by decide : (([] : List Fr).length : Int) < 64) h64
 ·exact ⟨hr,.inr h⟩
def TellB (c : Col) (K Z e B g n : Nat) (X : Nat → List Int) (F : Nat → Bool) (Y : Nat → List Int) (G : Nat → Bool) (fs : List Fr) (q : EQ) (w w' : World) (room : Int) : Prop :=
 ∃ q' tn fs' room' ps',Gin X F B g n fs' room' ps' w' ∧ EOk c K e X F Y G { q' with turn:=tn } w' ∧ ESub q q' ∧ Stp c c (fun i => Wrs K i ∨ i = Z) w w' ∧ fs.length ≤ fs'.length ∧ (BytA X q fs room → fs' = [strFr 0 0 true [97]] ∧ q'.ws 0 = twoT)
theorem etellBytes {c : Col} {K e B g n : Nat} {X : Nat → List Int} {F : Nat → Bool} {Y : Nat → List Int} {G : Nat → Bool} {fs : List Fr} {room : Int} {ps : List Pt} {q : EQ} {w : World} (ht : Tab w) (h : EOk c K e X F Y G q w) (hg : Gin X F B g n fs room ps w)
  {Z : Nat} (hc : ∀ j,B ≤ j → c j = Z) (hz : ¬ EndC K Z) (hw : c 0 ≠ Z ∧ ¬ EndC K (c 0)) (hX : ∀ i,i < 4 → ((X i).length : Int) ≤ 4398046511104 ∧ Bts (X i)) :
  Calls Tryz.prog 37 #[.pointer (some ⟨e,0,none⟩),.pointer (some ⟨g,0,none⟩)] w fun r w' => r = .returned (.tuple #[]) ∧ TellB c K Z e B g n X F Y G fs q w w' room:=by
 have H:=qhi h
 have HG:=qhi hg
 have HC:=qhi hc
 have HZ:=qhi hz
 have HW:=qhi hw
 have HT:=qhi ht
 have HX:=qhi hX
 obtain ⟨bv,pv,_,hH,_,_⟩:=hg.gm
 obtain ⟨_,_,g2,g3,_⟩:=hH.facts
 clear hH h hg hc hz hw ht hX
 go_enter Tryz.func37,Tryz.ntmps37
 go_wp2_with fail
 clear g2 g3
 go_loopw [13] (fun s wr => ∃ (k : Nat),s = .int .i64 (k : Int) ∧ k ≤ 4 ∧ TellS c K Z e B g n X F Y G fs q w wr (BytJ X q fs room k)) (fun s _ => 4 - (intOf s).toNat)
 case atStart => exact ⟨0,rfl,by omega,q,fs,room,ps,HG.out,H.out,ESub.refl _,Stp.refl _ _ _,qlr _,fun hA => ⟨hA.2.1,.inl ⟨rfl,hA.2.2.2.1,rfl,hA.1⟩⟩⟩
 case round =>
  obtain ⟨k,rfl,hk,q1,fs1,room1,ps1,gg,e1,s1,t1,l1,j1⟩:=hrel
  have J1:=qhi j1
  have T1 : Hid (Tab wr):=HT.out.block (t1.block _ HT.out.pos (by have h1:=HW.out.1;have h2:=HW.out.2;unfold EndC at h2;unfold Wrs;omega))
  have G1:=qhi gg
  have E1:=qhi e1
  have S1:=qhi s1
  have ST1:=qhi t1
  have L1:=qhi l1
  clear gg e1 s1 t1 l1 j1
  by_cases hlt : k < 4
  ·have k4 : (k : Int) < 4:=by omega
   have c35:=E1.out.cell.c35.1
   have htn:=E1.out.num.turn
   obtain ⟨s,hs⟩ : ∃ s : Nat,(q1.turn + (k : Int)).tmod 4 = (s : Int):=⟨((q1.turn + (k : Int)).tmod 4).toNat,by rw [Int.tmod_eq_emod_of_nonneg (by omega)];omega⟩
   have hs4 : s < 4:=by rw [Int.tmod_eq_emod_of_nonneg (by omega)] at hs;omega
   have hwr : IntKind.i64.wrap (q1.turn + (k : Int)) = q1.turn + (k : Int):=by rw [IntKind.wrap_i64];omega
   have HS:=qhi hs4
   have HS0 : Hid (q.turn = 0 → k = 0 → s = 0):=(fun h1 h2 => by
    have h3 : q1.turn = q.turn:=by rw [S1.out.same]
    rw [h3,h1,h2] at hs
    simpa using hs.symm : q.turn = 0 → k = 0 → s = 0)
   have hs4' : (s : Int) < 4:=by omega
   clear htn hs4
   go_wp2_with fail
   clear c35 hwr hs
   go_loopw [] (fun wq => TellS c K Z e B g n X F Y G fs q w wq (BytJ X q fs room k)) (fun wq => leftOfG g wq)
   case atStart => exact ⟨q1,fs1,room1,ps1,G1.out,E1.out,S1.out,ST1.out,L1.out,J1.out⟩
   case round =>
    clear T1 G1 E1 S1 ST1 L1 J1
    obtain ⟨q1,fs1,room1,ps1,gg,e1,s1,t1,l1,j1⟩:=hrel
    have J1:=qhi j1
    have T1 : Hid (Tab wr):=HT.out.block (t1.block _ HT.out.pos (by have h1:=HW.out.1;have h2:=HW.out.2;unfold EndC at h2;unfold Wrs;omega))
    obtain ⟨bv1,pv1,_,hH,_,_⟩:=gg.gm
    obtain ⟨_,_,g2,g3,_⟩:=hH.facts
    have ML : Hid (leftOfG g wr = 64 - fs1.length):=by
     show leftOfG g wr = _
     unfold leftOfG
     rw [g2]
     simp [intOf]
    have G1:=qhi gg
    have E1:=qhi e1
    have S1:=qhi s1
    have ST1:=qhi t1
    have L1:=qhi l1
    clear gg e1 s1 t1 l1 j1 hH
    by_cases h64 : (fs1.length : Int) < 64
    ·go_upto_region 6 with fail
     have hrm:=G1.out.low
     have hsm:=G1.out.sum
     have TL : Hid (∀ W,Below wr.heap.size wr W → Calls Tryz.prog 70 #[.pointer (some ⟨e,3 + s * 8,none⟩),.int .i64 (s : Int),.int .i64 room1] W fun r w' => TellG c (K + 1 + s) e (3 + 8 * s) (X s) (F s) (q1.ws s) s room1 W r w') :=
      fun W hW => tellG_any (T1.out.block (hW.block _ T1.out.pos)) (E1.out.below hW) HS.out (HX.out s HS.out).1 (HX.out s HS.out).2 HW.out.2 room1 (by omega)
     have g3d : wr.drew.cell? ⟨g,3,none⟩ = some (.int .i64 room1):=g3
     go_cut [7,8] from 28 to 42 (fun t7 t8 wc => CutB c K Z e B g n X F Y G fs1 room1 ps1 q1 s wr t7 t8 wc)
     case first =>
      clear hrm hsm ML
      have B0 : Hid (Below wr.heap.size wr wr.drew):=qbd (qbr _ _) 1
      have BA : Hid (∀ W,Below wr.heap.size wr W → ∀ o,Below wr.heap.size wr (W.alloc o)):=fun W hW o => hW.alloc hW.size o
      have ST : Hid (∀ W w3,Below wr.heap.size wr W → ∀ kd sx a fin da dl dc t,TellT c (K + 1 + s) e (3 + 8 * s) (X s) (F s) (q1.ws s) s room1 W kd sx a fin da dl dc t w3 → W.heap.size ≤ w3.heap.size ∧ ∀ j,wr.heap.size ≤ j → j < W.heap.size → w3.heap[j]? = W.heap[j]?):=by
       rintro W w3 hW kd sx a fin da dl dc t ⟨q1,⟨v',_,st,_⟩,_⟩
       have hBw : B ≤ wr.heap.size:=Nat.le_of_lt G1.out.gm.lt
       refine ⟨st.size,fun j h1 h2 => st.block j h2 ?_⟩
       rw [HC.out j (by omega),E1.out.cell.ce]
       have h0:=HZ.out
       have h4:=HS.out
       unfold EndC at h0
       omega
      have TL0 : Hid (Calls Tryz.prog 70 #[.pointer (some ⟨e,3 + s * 8,none⟩),.int .i64 (s : Int),.int .i64 room1] (wr.drew) fun r w' => ∃ (kd sx a : Int) (fin : Bool) (da : Option Addr) (dl dc : Nat) (t : Int),r = .returned (.tuple #[.agg #[.int .i64 kd,.int .i64 sx,.int .i64 a,.int .i64 0,.int .i64 0,.bool fin,.slice da dl dc,.slice none 0 0],.agg #[.int .i64 sx,.int .i64 a,.int .i64 t,.int .i64 0]]) ∧ TellT c (K + 1 + s) e (3 + 8 * s) (X s) (F s) (q1.ws s) s room1 (wr.drew) kd sx a fin da dl dc t w'):=by
       have hb:=B0.out
       refine (TL.out _ hb).mono ?_
       rintro r w' ⟨kd,sx,a,fin,da,dl,dc,t,h1,h2⟩
       have hs:=ST.out _ _ hb _ _ _ _ _ _ _ _ h2
       refine ⟨kd,sx,a,fin,da,dl,dc,t,h1,h2⟩
      have TLF : Hid (Calls Tryz.prog 70 #[.pointer (some ⟨e,3 + s * 8,none⟩),.int .i64 (s : Int),.int .i64 room1] (wr.drew.alloc (.cells #[.int .i64 0,.int .i64 0,.int .i64 0,.int .i64 0,.int .i64 0,.bool false,.slice none 0 0,.slice none 0 0] 102)) fun r w' => ∃ (kd sx a : Int) (fin : Bool) (da : Option Addr) (dl dc : Nat) (t : Int),r = .returned (.tuple #[.agg #[.int .i64 kd,.int .i64 sx,.int .i64 a,.int .i64 0,.int .i64 0,.bool fin,.slice da dl dc,.slice none 0 0],.agg #[.int .i64 sx,.int .i64 a,.int .i64 t,.int .i64 0]]) ∧ TellT c (K + 1 + s) e (3 + 8 * s) (X s) (F s) (q1.ws s) s room1 (wr.drew.alloc (.cells #[.int .i64 0,.int .i64 0,.int .i64 0,.int .i64 0,.int .i64 0,.bool false,.slice none 0 0,.slice none 0 0] 102)) kd sx a fin da dl dc t w' ∧ w'.heap[wr.heap.size]? = some (.cells #[.int .i64 0,.int .i64 0,.int .i64 0,.int .i64 0,.int .i64 0,.bool false,.slice none 0 0,.slice none 0 0] 102 (0,0))):=by
       have hb:=BA.out _ B0.out (.cells #[.int .i64 0,.int .i64 0,.int .i64 0,.int .i64 0,.int .i64 0,.bool false,.slice none 0 0,.slice none 0 0] 102)
       refine (TL.out _ hb).mono ?_
       rintro r w' ⟨kd,sx,a,fin,da,dl,dc,t,h1,h2⟩
       have hs:=ST.out _ _ hb _ _ _ _ _ _ _ _ h2
       refine ⟨kd,sx,a,fin,da,dl,dc,t,h1,h2,(hs.2 _ (by omega) (by first | (simp;done) | (simp;omega))).trans (Go.heap_alloc_new wr.drew _)⟩
      have TLP : Hid (Calls Tryz.prog 70 #[.pointer (some ⟨e,3 + s * 8,none⟩),.int .i64 (s : Int),.int .i64 room1] (wr.drew.alloc (.cells #[.int .i64 0,.int .i64 0,.int .i64 0,.int .i64 0] 122)) fun r w' => ∃ (kd sx a : Int) (fin : Bool) (da : Option Addr) (dl dc : Nat) (t : Int),r = .returned (.tuple #[.agg #[.int .i64 kd,.int .i64 sx,.int .i64 a,.int .i64 0,.int .i64 0,.bool fin,.slice da dl dc,.slice none 0 0],.agg #[.int .i64 sx,.int .i64 a,.int .i64 t,.int .i64 0]]) ∧ TellT c (K + 1 + s) e (3 + 8 * s) (X s) (F s) (q1.ws s) s room1 (wr.drew.alloc (.cells #[.int .i64 0,.int .i64 0,.int .i64 0,.int .i64 0] 122)) kd sx a fin da dl dc t w' ∧ w'.heap[wr.heap.size]? = some (.cells #[.int .i64 0,.int .i64 0,.int .i64 0,.int .i64 0] 122 (0,0))):=by
       have hb:=BA.out _ B0.out (.cells #[.int .i64 0,.int .i64 0,.int .i64 0,.int .i64 0] 122)
       refine (TL.out _ hb).mono ?_
       rintro r w' ⟨kd,sx,a,fin,da,dl,dc,t,h1,h2⟩
       have hs:=ST.out _ _ hb _ _ _ _ _ _ _ _ h2
       refine ⟨kd,sx,a,fin,da,dl,dc,t,h1,h2,(hs.2 _ (by omega) (by first | (simp;done) | (simp;omega))).trans (Go.heap_alloc_new wr.drew _)⟩
      have TLFP : Hid (Calls Tryz.prog 70 #[.pointer (some ⟨e,3 + s * 8,none⟩),.int .i64 (s : Int),.int .i64 room1] ((wr.drew.alloc (.cells #[.int .i64 0,.int .i64 0,.int .i64 0,.int .i64 0,.int .i64 0,.bool false,.slice none 0 0,.slice none 0 0] 102)).alloc (.cells #[.int .i64 0,.int .i64 0,.int .i64 0,.int .i64 0] 122)) fun r w' => ∃ (kd sx a : Int) (fin : Bool) (da : Option Addr) (dl dc : Nat) (t : Int),r = .returned (.tuple #[.agg #[.int .i64 kd,.int .i64 sx,.int .i64 a,.int .i64 0,.int .i64 0,.bool fin,.slice da dl dc,.slice none 0 0],.agg #[.int .i64 sx,.int .i64 a,.int .i64 t,.int .i64 0]]) ∧ TellT c (K + 1 + s) e (3 + 8 * s) (X s) (F s) (q1.ws s) s room1 ((wr.drew.alloc (.cells #[.int .i64 0,.int .i64 0,.int .i64 0,.int .i64 0,.int .i64 0,.bool false,.slice none 0 0,.slice none 0 0] 102)).alloc (.cells #[.int .i64 0,.int .i64 0,.int .i64 0,.int .i64 0] 122)) kd sx a fin da dl dc t w' ∧ w'.heap[wr.heap.size]? = some (.cells #[.int .i64 0,.int .i64 0,.int .i64 0,.int .i64 0,.int .i64 0,.bool false,.slice none 0 0,.slice none 0 0] 102 (0,0)) ∧ w'.heap[wr.heap.size + 1]? = some (.cells #[.int .i64 0,.int .i64 0,.int .i64 0,.int .i64 0] 122 (0,0))):=by
       have hb:=BA.out _ (BA.out _ B0.out (.cells #[.int .i64 0,.int .i64 0,.int .i64 0,.int .i64 0,.int .i64 0,.bool false,.slice none 0 0,.slice none 0 0] 102)) (.cells #[.int .i64 0,.int .i64 0,.int .i64 0,.int .i64 0] 122)
       refine (TL.out _ hb).mono ?_
       rintro r w' ⟨kd,sx,a,fin,da,dl,dc,t,h1,h2⟩
       have hs:=ST.out _ _ hb _ _ _ _ _ _ _ _ h2
       refine ⟨kd,sx,a,fin,da,dl,dc,t,h1,h2,(hs.2 _ (by omega) (by first | (simp;done) | (simp;omega))).trans ((Go.heap_alloc_old _ _ (by simp)).trans (Go.heap_alloc_new wr.drew _)),(hs.2 _ (by omega) (by first | (simp;done) | (simp;omega))).trans ((by have:=Go.heap_alloc_new (wr.drew.alloc (.cells #[.int .i64 0,.int .i64 0,.int .i64 0,.int .i64 0,.int .i64 0,.bool false,.slice none 0 0,.slice none 0 0] 102)) (.cells #[.int .i64 0,.int .i64 0,.int .i64 0,.int .i64 0] 122);simpa using this))⟩
      have TLPF : Hid (Calls Tryz.prog 70 #[.pointer (some ⟨e,3 + s * 8,none⟩),.int .i64 (s : Int),.int .i64 room1] ((wr.drew.alloc (.cells #[.int .i64 0,.int .i64 0,.int .i64 0,.int .i64 0] 122)).alloc (.cells #[.int .i64 0,.int .i64 0,.int .i64 0,.int .i64 0,.int .i64 0,.bool false,.slice none 0 0,.slice none 0 0] 102)) fun r w' => ∃ (kd sx a : Int) (fin : Bool) (da : Option Addr) (dl dc : Nat) (t : Int),r = .returned (.tuple #[.agg #[.int .i64 kd,.int .i64 sx,.int .i64 a,.int .i64 0,.int .i64 0,.bool fin,.slice da dl dc,.slice none 0 0],.agg #[.int .i64 sx,.int .i64 a,.int .i64 t,.int .i64 0]]) ∧ TellT c (K + 1 + s) e (3 + 8 * s) (X s) (F s) (q1.ws s) s room1 ((wr.drew.alloc (.cells #[.int .i64 0,.int .i64 0,.int .i64 0,.int .i64 0] 122)).alloc (.cells #[.int .i64 0,.int .i64 0,.int .i64 0,.int .i64 0,.int .i64 0,.bool false,.slice none 0 0,.slice none 0 0] 102)) kd sx a fin da dl dc t w' ∧ w'.heap[wr.heap.size]? = some (.cells #[.int .i64 0,.int .i64 0,.int .i64 0,.int .i64 0] 122 (0,0)) ∧ w'.heap[wr.heap.size + 1]? = some (.cells #[.int .i64 0,.int .i64 0,.int .i64 0,.int .i64 0,.int .i64 0,.bool false,.slice none 0 0,.slice none 0 0] 102 (0,0))):=by
       have hb:=BA.out _ (BA.out _ B0.out (.cells #[.int .i64 0,.int .i64 0,.int .i64 0,.int .i64 0] 122)) (.cells #[.int .i64 0,.int .i64 0,.int .i64 0,.int .i64 0,.int .i64 0,.bool false,.slice none 0 0,.slice none 0 0] 102)
       refine (TL.out _ hb).mono ?_
       rintro r w' ⟨kd,sx,a,fin,da,dl,dc,t,h1,h2⟩
       have hs:=ST.out _ _ hb _ _ _ _ _ _ _ _ h2
       refine ⟨kd,sx,a,fin,da,dl,dc,t,h1,h2,(hs.2 _ (by omega) (by first | (simp;done) | (simp;omega))).trans ((Go.heap_alloc_old _ _ (by simp)).trans (Go.heap_alloc_new wr.drew _)),(hs.2 _ (by omega) (by first | (simp;done) | (simp;omega))).trans ((by have:=Go.heap_alloc_new (wr.drew.alloc (.cells #[.int .i64 0,.int .i64 0,.int .i64 0,.int .i64 0] 122)) (.cells #[.int .i64 0,.int .i64 0,.int .i64 0,.int .i64 0,.int .i64 0,.bool false,.slice none 0 0,.slice none 0 0] 102);simpa using this))⟩
      have lg : g < wr.heap.size:=World.block_lt_of_cell? wr _ g3
      have lgA : ∀ (W : World) (o : Obj),W.heap.size = wr.heap.size → g < (W.alloc o).heap.size:=fun W o h => by simp;omega
      have gl00 : (wr.drew.alloc (.cells #[.int .i64 0,.int .i64 0,.int .i64 0,.int .i64 0,.int .i64 0,.bool false,.slice none 0 0,.slice none 0 0] 102)).cell? ⟨g,3,none⟩ = some (.int .i64 room1):=(World.cell?_alloc_lt _ _ _ lg).trans g3
      have gl01 : (wr.alloc (.cells #[.int .i64 0,.int .i64 0,.int .i64 0,.int .i64 0,.int .i64 0,.bool false,.slice none 0 0,.slice none 0 0] 102)).cell? ⟨g,3,none⟩ = some (.int .i64 room1):=(World.cell?_alloc_lt _ _ _ lg).trans g3
      have gl10 : (wr.drew.alloc (.cells #[.int .i64 0,.int .i64 0,.int .i64 0,.int .i64 0] 122)).cell? ⟨g,3,none⟩ = some (.int .i64 room1):=(World.cell?_alloc_lt _ _ _ lg).trans g3
      have gl11 : (wr.alloc (.cells #[.int .i64 0,.int .i64 0,.int .i64 0,.int .i64 0] 122)).cell? ⟨g,3,none⟩ = some (.int .i64 room1):=(World.cell?_alloc_lt _ _ _ lg).trans g3
      have gl20 : ((wr.drew.alloc (.cells #[.int .i64 0,.int .i64 0,.int .i64 0,.int .i64 0,.int .i64 0,.bool false,.slice none 0 0,.slice none 0 0] 102)).alloc (.cells #[.int .i64 0,.int .i64 0,.int .i64 0,.int .i64 0] 122)).cell? ⟨g,3,none⟩ = some (.int .i64 room1):=(World.cell?_alloc_lt _ _ _ (lgA _ _ rfl)).trans ((World.cell?_alloc_lt _ _ _ lg).trans g3)
      have gl21 : ((wr.alloc (.cells #[.int .i64 0,.int .i64 0,.int .i64 0,.int .i64 0,.int .i64 0,.bool false,.slice none 0 0,.slice none 0 0] 102)).alloc (.cells #[.int .i64 0,.int .i64 0,.int .i64 0,.int .i64 0] 122)).cell? ⟨g,3,none⟩ = some (.int .i64 room1):=(World.cell?_alloc_lt _ _ _ (lgA _ _ rfl)).trans ((World.cell?_alloc_lt _ _ _ lg).trans g3)
      have gl30 : ((wr.drew.alloc (.cells #[.int .i64 0,.int .i64 0,.int .i64 0,.int .i64 0] 122)).alloc (.cells #[.int .i64 0,.int .i64 0,.int .i64 0,.int .i64 0,.int .i64 0,.bool false,.slice none 0 0,.slice none 0 0] 102)).cell? ⟨g,3,none⟩ = some (.int .i64 room1):=(World.cell?_alloc_lt _ _ _ (lgA _ _ rfl)).trans ((World.cell?_alloc_lt _ _ _ lg).trans g3)
      have gl31 : ((wr.alloc (.cells #[.int .i64 0,.int .i64 0,.int .i64 0,.int .i64 0] 122)).alloc (.cells #[.int .i64 0,.int .i64 0,.int .i64 0,.int .i64 0,.int .i64 0,.bool false,.slice none 0 0,.slice none 0 0] 102)).cell? ⟨g,3,none⟩ = some (.int .i64 room1):=(World.cell?_alloc_lt _ _ _ (lgA _ _ rfl)).trans ((World.cell?_alloc_lt _ _ _ lg).trans g3)
      have FIN0 : Hid (∀ (w3 : World) (kd sx a : Int) (fin : Bool) (da : Option Addr) (dl dc : Nat) (t : Int),TellT c (K + 1 + s) e (3 + 8 * s) (X s) (F s) (q1.ws s) s room1 (wr.drew) kd sx a fin da dl dc t w3 → CutB c K Z e B g n X F Y G fs1 room1 ps1 q1 s wr (.pointer (some ⟨w3.heap.size,0,none⟩)) (.pointer (some ⟨w3.heap.size + 1,0,none⟩)) ((w3.alloc (.cells #[.int .i64 kd,.int .i64 sx,.int .i64 a,.int .i64 0,.int .i64 0,.bool fin,.slice da dl dc,.slice none 0 0] 102)).alloc (.cells #[.int .i64 sx,.int .i64 a,.int .i64 t,.int .i64 0] 122))):=by
       intro w3 kd sx a fin da dl dc t h
       have hs : wr.heap.size ≤ w3.heap.size:=Nat.le_trans (Nat.le_trans B0.out.size (qlr _)) (ST.out _ _ B0.out _ _ _ _ _ _ _ _ h).1
       have kk:=Keep.of_below (S:=[w3.heap.size,w3.heap.size + 1]) (((qbr _ w3).alloc (qlr _) (.cells #[.int .i64 kd,.int .i64 sx,.int .i64 a,.int .i64 0,.int .i64 0,.bool fin,.slice da dl dc,.slice none 0 0] 102)).alloc (by simp) (.cells #[.int .i64 sx,.int .i64 a,.int .i64 t,.int .i64 0] 122))
       have x2:=(Go.heap_alloc_old (w3.alloc (.cells #[.int .i64 kd,.int .i64 sx,.int .i64 a,.int .i64 0,.int .i64 0,.bool fin,.slice da dl dc,.slice none 0 0] 102)) (.cells #[.int .i64 sx,.int .i64 a,.int .i64 t,.int .i64 0] 122) (r:=w3.heap.size) (by simp)).trans (Go.heap_alloc_new w3 _)
       have y2 : ((w3.alloc (.cells #[.int .i64 kd,.int .i64 sx,.int .i64 a,.int .i64 0,.int .i64 0,.bool fin,.slice da dl dc,.slice none 0 0] 102)).alloc (.cells #[.int .i64 sx,.int .i64 a,.int .i64 t,.int .i64 0] 122)).heap[w3.heap.size + 1]? = some (.cells #[.int .i64 sx,.int .i64 a,.int .i64 t,.int .i64 0] 122 (0,0)):=by have:=Go.heap_alloc_new (w3.alloc (.cells #[.int .i64 kd,.int .i64 sx,.int .i64 a,.int .i64 0,.int .i64 0,.bool fin,.slice da dl dc,.slice none 0 0] 102)) (.cells #[.int .i64 sx,.int .i64 a,.int .i64 t,.int .i64 0] 122);simpa using this
       exact cut_fin E1.out G1.out HC.out HZ.out HS.out B0.out h kk x2 y2 ⟨hs,.inr (qlr _)⟩ ⟨by omega,.inr (by omega)⟩
      have FIN1 : Hid (∀ (w3 : World) (kd sx a : Int) (fin : Bool) (da : Option Addr) (dl dc : Nat) (t : Int),TellT c (K + 1 + s) e (3 + 8 * s) (X s) (F s) (q1.ws s) s room1 (wr.drew) kd sx a fin da dl dc t w3 → CutB c K Z e B g n X F Y G fs1 room1 ps1 q1 s wr (.pointer (some ⟨w3.heap.size + 1,0,none⟩)) (.pointer (some ⟨w3.heap.size,0,none⟩)) ((w3.alloc (.cells #[.int .i64 sx,.int .i64 a,.int .i64 t,.int .i64 0] 122)).alloc (.cells #[.int .i64 kd,.int .i64 sx,.int .i64 a,.int .i64 0,.int .i64 0,.bool fin,.slice da dl dc,.slice none 0 0] 102))):=by
       intro w3 kd sx a fin da dl dc t h
       have hs : wr.heap.size ≤ w3.heap.size:=Nat.le_trans (Nat.le_trans B0.out.size (qlr _)) (ST.out _ _ B0.out _ _ _ _ _ _ _ _ h).1
       have kk:=Keep.of_below (S:=[w3.heap.size + 1,w3.heap.size]) (((qbr _ w3).alloc (qlr _) (.cells #[.int .i64 sx,.int .i64 a,.int .i64 t,.int .i64 0] 122)).alloc (by simp) (.cells #[.int .i64 kd,.int .i64 sx,.int .i64 a,.int .i64 0,.int .i64 0,.bool fin,.slice da dl dc,.slice none 0 0] 102))
       have y2:=(Go.heap_alloc_old (w3.alloc (.cells #[.int .i64 sx,.int .i64 a,.int .i64 t,.int .i64 0] 122)) (.cells #[.int .i64 kd,.int .i64 sx,.int .i64 a,.int .i64 0,.int .i64 0,.bool fin,.slice da dl dc,.slice none 0 0] 102) (r:=w3.heap.size) (by simp)).trans (Go.heap_alloc_new w3 _)
       have x2 : ((w3.alloc (.cells #[.int .i64 sx,.int .i64 a,.int .i64 t,.int .i64 0] 122)).alloc (.cells #[.int .i64 kd,.int .i64 sx,.int .i64 a,.int .i64 0,.int .i64 0,.bool fin,.slice da dl dc,.slice none 0 0] 102)).heap[w3.heap.size + 1]? = some (.cells #[.int .i64 kd,.int .i64 sx,.int .i64 a,.int .i64 0,.int .i64 0,.bool fin,.slice da dl dc,.slice none 0 0] 102 (0,0)):=by have:=Go.heap_alloc_new (w3.alloc (.cells #[.int .i64 sx,.int .i64 a,.int .i64 t,.int .i64 0] 122)) (.cells #[.int .i64 kd,.int .i64 sx,.int .i64 a,.int .i64 0,.int .i64 0,.bool fin,.slice da dl dc,.slice none 0 0] 102);simpa using this
       exact cut_fin E1.out G1.out HC.out HZ.out HS.out B0.out h kk x2 y2 ⟨by omega,.inr (by omega)⟩ ⟨hs,.inr (qlr _)⟩
      have FINF : Hid (∀ (w3 : World) (kd sx a : Int) (fin : Bool) (da : Option Addr) (dl dc : Nat) (t : Int),TellT c (K + 1 + s) e (3 + 8 * s) (X s) (F s) (q1.ws s) s room1 (wr.drew.alloc (.cells #[.int .i64 0,.int .i64 0,.int .i64 0,.int .i64 0,.int .i64 0,.bool false,.slice none 0 0,.slice none 0 0] 102)) kd sx a fin da dl dc t w3 → w3.heap[wr.heap.size]? = some (.cells #[.int .i64 0,.int .i64 0,.int .i64 0,.int .i64 0,.int .i64 0,.bool false,.slice none 0 0,.slice none 0 0] 102 (0,0)) → CutB c K Z e B g n X F Y G fs1 room1 ps1 q1 s wr (.pointer (some ⟨wr.heap.size,0,none⟩)) (.pointer (some ⟨w3.heap.size,0,none⟩)) (put4 (put8 (w3.alloc (.cells #[.int .i64 0,.int .i64 0,.int .i64 0,.int .i64 0] 122)) (wr.heap.size) (.int .i64 kd) (.int .i64 sx) (.int .i64 a) (.int .i64 0) (.int .i64 0) (.bool fin) (.slice da dl dc) (.slice none 0 0)) (w3.heap.size) (.int .i64 sx) (.int .i64 a) (.int .i64 t) (.int .i64 0))):=by
       intro w3 kd sx a fin da dl dc t h hb
       have hs : wr.heap.size ≤ w3.heap.size:=Nat.le_trans (Nat.le_trans (BA.out _ B0.out (.cells #[.int .i64 0,.int .i64 0,.int .i64 0,.int .i64 0,.int .i64 0,.bool false,.slice none 0 0,.slice none 0 0] 102)).size (qlr _)) (ST.out _ _ (BA.out _ B0.out (.cells #[.int .i64 0,.int .i64 0,.int .i64 0,.int .i64 0,.int .i64 0,.bool false,.slice none 0 0,.slice none 0 0] 102)) _ _ _ _ _ _ _ _ h).1
       have hl:=(qgs hb).1
       obtain ⟨kk,x2,y2⟩:=put_both (bf:=wr.heap.size) (bp:=w3.heap.size) ((qbr _ w3).alloc (qlr _) (.cells #[.int .i64 0,.int .i64 0,.int .i64 0,.int .i64 0] 122)) ((Go.heap_alloc_old w3 (.cells #[.int .i64 0,.int .i64 0,.int .i64 0,.int .i64 0] 122) hl).trans hb) (Go.heap_alloc_new w3 (.cells #[.int .i64 0,.int .i64 0,.int .i64 0,.int .i64 0] 122)) (Nat.ne_of_lt hl) (.int .i64 kd) (.int .i64 sx) (.int .i64 a) (.int .i64 0) (.int .i64 0) (.bool fin) (.slice da dl dc) (.slice none 0 0) (.int .i64 t)
       exact cut_fin E1.out G1.out HC.out HZ.out HS.out (BA.out _ B0.out (.cells #[.int .i64 0,.int .i64 0,.int .i64 0,.int .i64 0,.int .i64 0,.bool false,.slice none 0 0,.slice none 0 0] 102)) h kk x2 y2 ⟨qlr _,.inl (by first | (simp;done) | (simp;omega))⟩ ⟨hs,.inr (qlr _)⟩
      have FINP : Hid (∀ (w3 : World) (kd sx a : Int) (fin : Bool) (da : Option Addr) (dl dc : Nat) (t : Int),TellT c (K + 1 + s) e (3 + 8 * s) (X s) (F s) (q1.ws s) s room1 (wr.drew.alloc (.cells #[.int .i64 0,.int .i64 0,.int .i64 0,.int .i64 0] 122)) kd sx a fin da dl dc t w3 → w3.heap[wr.heap.size]? = some (.cells #[.int .i64 0,.int .i64 0,.int .i64 0,.int .i64 0] 122 (0,0)) → CutB c K Z e B g n X F Y G fs1 room1 ps1 q1 s wr (.pointer (some ⟨w3.heap.size,0,none⟩)) (.pointer (some ⟨wr.heap.size,0,none⟩)) (put4 (w3.alloc (.cells #[.int .i64 kd,.int .i64 sx,.int .i64 a,.int .i64 0,.int .i64 0,.bool fin,.slice da dl dc,.slice none 0 0] 102)) (wr.heap.size) (.int .i64 sx) (.int .i64 a) (.int .i64 t) (.int .i64 0))):=by
       intro w3 kd sx a fin da dl dc t h hb
       have hs : wr.heap.size ≤ w3.heap.size:=Nat.le_trans (Nat.le_trans (BA.out _ B0.out (.cells #[.int .i64 0,.int .i64 0,.int .i64 0,.int .i64 0] 122)).size (qlr _)) (ST.out _ _ (BA.out _ B0.out (.cells #[.int .i64 0,.int .i64 0,.int .i64 0,.int .i64 0] 122)) _ _ _ _ _ _ _ _ h).1
       have hl:=(qgs hb).1
       have k2:=put4_keep (w3.alloc (.cells #[.int .i64 kd,.int .i64 sx,.int .i64 a,.int .i64 0,.int .i64 0,.bool fin,.slice da dl dc,.slice none 0 0] 102)) (wr.heap.size) (.int .i64 sx) (.int .i64 a) (.int .i64 t) (.int .i64 0)
       have kk:=((Keep.of_below (S:=[w3.heap.size,wr.heap.size]) ((qbr _ w3).alloc (qlr _) (.cells #[.int .i64 kd,.int .i64 sx,.int .i64 a,.int .i64 0,.int .i64 0,.bool fin,.slice da dl dc,.slice none 0 0] 102))).trans k2 (fun i hi => .inl (by simp at hi ⊢;exact .inr hi)))
       have y2:=put4_block ((Go.heap_alloc_old w3 (.cells #[.int .i64 kd,.int .i64 sx,.int .i64 a,.int .i64 0,.int .i64 0,.bool fin,.slice da dl dc,.slice none 0 0] 102) hl).trans hb) (.int .i64 sx) (.int .i64 a) (.int .i64 t) (.int .i64 0)
       have x2:=(k2.block (w3.heap.size) (by simp) (by simp;omega)).trans (Go.heap_alloc_new w3 (.cells #[.int .i64 kd,.int .i64 sx,.int .i64 a,.int .i64 0,.int .i64 0,.bool fin,.slice da dl dc,.slice none 0 0] 102))
       exact cut_fin E1.out G1.out HC.out HZ.out HS.out (BA.out _ B0.out (.cells #[.int .i64 0,.int .i64 0,.int .i64 0,.int .i64 0] 122)) h kk x2 y2 ⟨hs,.inr (qlr _)⟩ ⟨qlr _,.inl (by first | (simp;done) | (simp;omega))⟩
      have FINFP : Hid (∀ (w3 : World) (kd sx a : Int) (fin : Bool) (da : Option Addr) (dl dc : Nat) (t : Int),TellT c (K + 1 + s) e (3 + 8 * s) (X s) (F s) (q1.ws s) s room1 ((wr.drew.alloc (.cells #[.int .i64 0,.int .i64 0,.int .i64 0,.int .i64 0,.int .i64 0,.bool false,.slice none 0 0,.slice none 0 0] 102)).alloc (.cells #[.int .i64 0,.int .i64 0,.int .i64 0,.int .i64 0] 122)) kd sx a fin da dl dc t w3 → w3.heap[wr.heap.size]? = some (.cells #[.int .i64 0,.int .i64 0,.int .i64 0,.int .i64 0,.int .i64 0,.bool false,.slice none 0 0,.slice none 0 0] 102 (0,0)) → w3.heap[wr.heap.size + 1]? = some (.cells #[.int .i64 0,.int .i64 0,.int .i64 0,.int .i64 0] 122 (0,0)) → CutB c K Z e B g n X F Y G fs1 room1 ps1 q1 s wr (.pointer (some ⟨wr.heap.size,0,none⟩)) (.pointer (some ⟨wr.heap.size + 1,0,none⟩)) (put4 (put8 w3 (wr.heap.size) (.int .i64 kd) (.int .i64 sx) (.int .i64 a) (.int .i64 0) (.int .i64 0) (.bool fin) (.slice da dl dc) (.slice none 0 0)) (wr.heap.size + 1) (.int .i64 sx) (.int .i64 a) (.int .i64 t) (.int .i64 0))):=by
       intro w3 kd sx a fin da dl dc t h hb hd
       have hs : wr.heap.size ≤ w3.heap.size:=Nat.le_trans (Nat.le_trans (BA.out _ (BA.out _ B0.out (.cells #[.int .i64 0,.int .i64 0,.int .i64 0,.int .i64 0,.int .i64 0,.bool false,.slice none 0 0,.slice none 0 0] 102)) (.cells #[.int .i64 0,.int .i64 0,.int .i64 0,.int .i64 0] 122)).size (qlr _)) (ST.out _ _ (BA.out _ (BA.out _ B0.out (.cells #[.int .i64 0,.int .i64 0,.int .i64 0,.int .i64 0,.int .i64 0,.bool false,.slice none 0 0,.slice none 0 0] 102)) (.cells #[.int .i64 0,.int .i64 0,.int .i64 0,.int .i64 0] 122)) _ _ _ _ _ _ _ _ h).1
       obtain ⟨kk,x2,y2⟩:=put_both (bf:=wr.heap.size) (bp:=wr.heap.size + 1) (qbr _ w3) hb hd (by omega) (.int .i64 kd) (.int .i64 sx) (.int .i64 a) (.int .i64 0) (.int .i64 0) (.bool fin) (.slice da dl dc) (.slice none 0 0) (.int .i64 t)
       exact cut_fin E1.out G1.out HC.out HZ.out HS.out (BA.out _ (BA.out _ B0.out (.cells #[.int .i64 0,.int .i64 0,.int .i64 0,.int .i64 0,.int .i64 0,.bool false,.slice none 0 0,.slice none 0 0] 102)) (.cells #[.int .i64 0,.int .i64 0,.int .i64 0,.int .i64 0] 122)) h kk x2 y2 ⟨qlr _,.inl (by first | (simp;done) | (simp;omega))⟩ ⟨by omega,.inl (by first | (simp;done) | (simp;omega))⟩
      have FINPF : Hid (∀ (w3 : World) (kd sx a : Int) (fin : Bool) (da : Option Addr) (dl dc : Nat) (t : Int),TellT c (K + 1 + s) e (3 + 8 * s) (X s) (F s) (q1.ws s) s room1 ((wr.drew.alloc (.cells #[.int .i64 0,.int .i64 0,.int .i64 0,.int .i64 0] 122)).alloc (.cells #[.int .i64 0,.int .i64 0,.int .i64 0,.int .i64 0,.int .i64 0,.bool false,.slice none 0 0,.slice none 0 0] 102)) kd sx a fin da dl dc t w3 → w3.heap[wr.heap.size]? = some (.cells #[.int .i64 0,.int .i64 0,.int .i64 0,.int .i64 0] 122 (0,0)) → w3.heap[wr.heap.size + 1]? = some (.cells #[.int .i64 0,.int .i64 0,.int .i64 0,.int .i64 0,.int .i64 0,.bool false,.slice none 0 0,.slice none 0 0] 102 (0,0)) → CutB c K Z e B g n X F Y G fs1 room1 ps1 q1 s wr (.pointer (some ⟨wr.heap.size + 1,0,none⟩)) (.pointer (some ⟨wr.heap.size,0,none⟩)) (put4 (put8 w3 (wr.heap.size + 1) (.int .i64 kd) (.int .i64 sx) (.int .i64 a) (.int .i64 0) (.int .i64 0) (.bool fin) (.slice da dl dc) (.slice none 0 0)) (wr.heap.size) (.int .i64 sx) (.int .i64 a) (.int .i64 t) (.int .i64 0))):=by
       intro w3 kd sx a fin da dl dc t h hd hb
       have hs : wr.heap.size ≤ w3.heap.size:=Nat.le_trans (Nat.le_trans (BA.out _ (BA.out _ B0.out (.cells #[.int .i64 0,.int .i64 0,.int .i64 0,.int .i64 0] 122)) (.cells #[.int .i64 0,.int .i64 0,.int .i64 0,.int .i64 0,.int .i64 0,.bool false,.slice none 0 0,.slice none 0 0] 102)).size (qlr _)) (ST.out _ _ (BA.out _ (BA.out _ B0.out (.cells #[.int .i64 0,.int .i64 0,.int .i64 0,.int .i64 0] 122)) (.cells #[.int .i64 0,.int .i64 0,.int .i64 0,.int .i64 0,.int .i64 0,.bool false,.slice none 0 0,.slice none 0 0] 102)) _ _ _ _ _ _ _ _ h).1
       obtain ⟨kk,x2,y2⟩:=put_both (bf:=wr.heap.size + 1) (bp:=wr.heap.size) (qbr _ w3) hb hd (by omega) (.int .i64 kd) (.int .i64 sx) (.int .i64 a) (.int .i64 0) (.int .i64 0) (.bool fin) (.slice da dl dc) (.slice none 0 0) (.int .i64 t)
       exact cut_fin E1.out G1.out HC.out HZ.out HS.out (BA.out _ (BA.out _ B0.out (.cells #[.int .i64 0,.int .i64 0,.int .i64 0,.int .i64 0] 122)) (.cells #[.int .i64 0,.int .i64 0,.int .i64 0,.int .i64 0,.int .i64 0,.bool false,.slice none 0 0,.slice none 0 0] 102)) h kk x2 y2 ⟨by omega,.inl (by first | (simp;done) | (simp;omega))⟩ ⟨qlr _,.inl (by first | (simp;done) | (simp;omega))⟩
      simp only [put8,put4] at FIN0 FIN1 FINF FINP FINFP FINPF
      go_region_law (first
       | (go_simp;go_at_call 70;refine TL0.out.mono ?_;rintro r w3 ⟨kd,sx,a,fin,da,dl,dc,t,rfl,h3⟩;have H3:=qhi h3;clear h3)
       | (go_simp;go_at_call 70;refine TLF.out.mono ?_;rintro r w3 ⟨kd,sx,a,fin,da,dl,dc,t,rfl,h3,hb0⟩;have H3:=qhi h3;clear h3;have HB0:=qhi hb0;clear hb0;have HD : Hid ((w3.alloc (.cells #[.int .i64 0,.int .i64 0,.int .i64 0,.int .i64 0] 122)).heap[wr.heap.size]? = some (.cells #[.int .i64 0,.int .i64 0,.int .i64 0,.int .i64 0,.int .i64 0,.bool false,.slice none 0 0,.slice none 0 0] 102 (0,0))):=(Go.heap_alloc_old w3 (.cells #[.int .i64 0,.int .i64 0,.int .i64 0,.int .i64 0] 122) (qgs HB0.out).1).trans HB0.out;have HE2 : Hid ((w3.alloc (.cells #[.int .i64 0,.int .i64 0,.int .i64 0,.int .i64 0] 122)).heap[w3.heap.size]? = some (.cells #[.int .i64 0,.int .i64 0,.int .i64 0,.int .i64 0] 122 (0,0))):=Go.heap_alloc_new w3 (.cells #[.int .i64 0,.int .i64 0,.int .i64 0,.int .i64 0] 122);have rd0 : (w3.alloc (.cells #[.int .i64 0,.int .i64 0,.int .i64 0,.int .i64 0] 122)).cell? ⟨wr.heap.size,0,none⟩ = some (.int .i64 0):=qcb HD.out 0;have fd0 : (w3.alloc (.cells #[.int .i64 0,.int .i64 0,.int .i64 0,.int .i64 0] 122)).frozen? ⟨wr.heap.size,0,none⟩ = false:=frozen_blk HD.out 0;have rd1 : (w3.alloc (.cells #[.int .i64 0,.int .i64 0,.int .i64 0,.int .i64 0] 122)).cell? ⟨wr.heap.size,1,none⟩ = some (.int .i64 0):=qcb HD.out 1;have fd1 : (w3.alloc (.cells #[.int .i64 0,.int .i64 0,.int .i64 0,.int .i64 0] 122)).frozen? ⟨wr.heap.size,1,none⟩ = false:=frozen_blk HD.out 1;have rd2 : (w3.alloc (.cells #[.int .i64 0,.int .i64 0,.int .i64 0,.int .i64 0] 122)).cell? ⟨wr.heap.size,2,none⟩ = some (.int .i64 0):=qcb HD.out 2;have fd2 : (w3.alloc (.cells #[.int .i64 0,.int .i64 0,.int .i64 0,.int .i64 0] 122)).frozen? ⟨wr.heap.size,2,none⟩ = false:=frozen_blk HD.out 2;have rd3 : (w3.alloc (.cells #[.int .i64 0,.int .i64 0,.int .i64 0,.int .i64 0] 122)).cell? ⟨wr.heap.size,3,none⟩ = some (.int .i64 0):=qcb HD.out 3;have fd3 : (w3.alloc (.cells #[.int .i64 0,.int .i64 0,.int .i64 0,.int .i64 0] 122)).frozen? ⟨wr.heap.size,3,none⟩ = false:=frozen_blk HD.out 3;have rd4 : (w3.alloc (.cells #[.int .i64 0,.int .i64 0,.int .i64 0,.int .i64 0] 122)).cell? ⟨wr.heap.size,4,none⟩ = some (.int .i64 0):=qcb HD.out 4;have fd4 : (w3.alloc (.cells #[.int .i64 0,.int .i64 0,.int .i64 0,.int .i64 0] 122)).frozen? ⟨wr.heap.size,4,none⟩ = false:=frozen_blk HD.out 4;have rd5 : (w3.alloc (.cells #[.int .i64 0,.int .i64 0,.int .i64 0,.int .i64 0] 122)).cell? ⟨wr.heap.size,5,none⟩ = some (.bool false):=qcb HD.out 5;have fd5 : (w3.alloc (.cells #[.int .i64 0,.int .i64 0,.int .i64 0,.int .i64 0] 122)).frozen? ⟨wr.heap.size,5,none⟩ = false:=frozen_blk HD.out 5;have rd6 : (w3.alloc (.cells #[.int .i64 0,.int .i64 0,.int .i64 0,.int .i64 0] 122)).cell? ⟨wr.heap.size,6,none⟩ = some (.slice none 0 0):=qcb HD.out 6;have fd6 : (w3.alloc (.cells #[.int .i64 0,.int .i64 0,.int .i64 0,.int .i64 0] 122)).frozen? ⟨wr.heap.size,6,none⟩ = false:=frozen_blk HD.out 6;have rd7 : (w3.alloc (.cells #[.int .i64 0,.int .i64 0,.int .i64 0,.int .i64 0] 122)).cell? ⟨wr.heap.size,7,none⟩ = some (.slice none 0 0):=qcb HD.out 7;have fd7 : (w3.alloc (.cells #[.int .i64 0,.int .i64 0,.int .i64 0,.int .i64 0] 122)).frozen? ⟨wr.heap.size,7,none⟩ = false:=frozen_blk HD.out 7;have re0 : (w3.alloc (.cells #[.int .i64 0,.int .i64 0,.int .i64 0,.int .i64 0] 122)).cell? ⟨w3.heap.size,0,none⟩ = some (.int .i64 0):=qcb HE2.out 0;have fe0 : (w3.alloc (.cells #[.int .i64 0,.int .i64 0,.int .i64 0,.int .i64 0] 122)).frozen? ⟨w3.heap.size,0,none⟩ = false:=frozen_blk HE2.out 0;have re1 : (w3.alloc (.cells #[.int .i64 0,.int .i64 0,.int .i64 0,.int .i64 0] 122)).cell? ⟨w3.heap.size,1,none⟩ = some (.int .i64 0):=qcb HE2.out 1;have fe1 : (w3.alloc (.cells #[.int .i64 0,.int .i64 0,.int .i64 0,.int .i64 0] 122)).frozen? ⟨w3.heap.size,1,none⟩ = false:=frozen_blk HE2.out 1;have re2 : (w3.alloc (.cells #[.int .i64 0,.int .i64 0,.int .i64 0,.int .i64 0] 122)).cell? ⟨w3.heap.size,2,none⟩ = some (.int .i64 0):=qcb HE2.out 2;have fe2 : (w3.alloc (.cells #[.int .i64 0,.int .i64 0,.int .i64 0,.int .i64 0] 122)).frozen? ⟨w3.heap.size,2,none⟩ = false:=frozen_blk HE2.out 2;have re3 : (w3.alloc (.cells #[.int .i64 0,.int .i64 0,.int .i64 0,.int .i64 0] 122)).cell? ⟨w3.heap.size,3,none⟩ = some (.int .i64 0):=qcb HE2.out 3;have fe3 : (w3.alloc (.cells #[.int .i64 0,.int .i64 0,.int .i64 0,.int .i64 0] 122)).frozen? ⟨w3.heap.size,3,none⟩ = false:=frozen_blk HE2.out 3;have hn1 : ¬ (wr.heap.size = w3.heap.size):=Nat.ne_of_lt (qgs HB0.out).1;have hn2 : ¬ (w3.heap.size = wr.heap.size):=fun x => hn1 x.symm)
       | (go_simp;go_at_call 70;refine TLP.out.mono ?_;rintro r w3 ⟨kd,sx,a,fin,da,dl,dc,t,rfl,h3,hb0⟩;have H3:=qhi h3;clear h3;have HB0:=qhi hb0;clear hb0;have HD : Hid ((w3.alloc (.cells #[.int .i64 0,.int .i64 0,.int .i64 0,.int .i64 0,.int .i64 0,.bool false,.slice none 0 0,.slice none 0 0] 102)).heap[wr.heap.size]? = some (.cells #[.int .i64 0,.int .i64 0,.int .i64 0,.int .i64 0] 122 (0,0))):=(Go.heap_alloc_old w3 (.cells #[.int .i64 0,.int .i64 0,.int .i64 0,.int .i64 0,.int .i64 0,.bool false,.slice none 0 0,.slice none 0 0] 102) (qgs HB0.out).1).trans HB0.out;have HE2 : Hid ((w3.alloc (.cells #[.int .i64 0,.int .i64 0,.int .i64 0,.int .i64 0,.int .i64 0,.bool false,.slice none 0 0,.slice none 0 0] 102)).heap[w3.heap.size]? = some (.cells #[.int .i64 0,.int .i64 0,.int .i64 0,.int .i64 0,.int .i64 0,.bool false,.slice none 0 0,.slice none 0 0] 102 (0,0))):=Go.heap_alloc_new w3 (.cells #[.int .i64 0,.int .i64 0,.int .i64 0,.int .i64 0,.int .i64 0,.bool false,.slice none 0 0,.slice none 0 0] 102);have rd0 : (w3.alloc (.cells #[.int .i64 0,.int .i64 0,.int .i64 0,.int .i64 0,.int .i64 0,.bool false,.slice none 0 0,.slice none 0 0] 102)).cell? ⟨wr.heap.size,0,none⟩ = some (.int .i64 0):=qcb HD.out 0;have fd0 : (w3.alloc (.cells #[.int .i64 0,.int .i64 0,.int .i64 0,.int .i64 0,.int .i64 0,.bool false,.slice none 0 0,.slice none 0 0] 102)).frozen? ⟨wr.heap.size,0,none⟩ = false:=frozen_blk HD.out 0;have rd1 : (w3.alloc (.cells #[.int .i64 0,.int .i64 0,.int .i64 0,.int .i64 0,.int .i64 0,.bool false,.slice none 0 0,.slice none 0 0] 102)).cell? ⟨wr.heap.size,1,none⟩ = some (.int .i64 0):=qcb HD.out 1;have fd1 : (w3.alloc (.cells #[.int .i64 0,.int .i64 0,.int .i64 0,.int .i64 0,.int .i64 0,.bool false,.slice none 0 0,.slice none 0 0] 102)).frozen? ⟨wr.heap.size,1,none⟩ = false:=frozen_blk HD.out 1;have rd2 : (w3.alloc (.cells #[.int .i64 0,.int .i64 0,.int .i64 0,.int .i64 0,.int .i64 0,.bool false,.slice none 0 0,.slice none 0 0] 102)).cell? ⟨wr.heap.size,2,none⟩ = some (.int .i64 0):=qcb HD.out 2;have fd2 : (w3.alloc (.cells #[.int .i64 0,.int .i64 0,.int .i64 0,.int .i64 0,.int .i64 0,.bool false,.slice none 0 0,.slice none 0 0] 102)).frozen? ⟨wr.heap.size,2,none⟩ = false:=frozen_blk HD.out 2;have rd3 : (w3.alloc (.cells #[.int .i64 0,.int .i64 0,.int .i64 0,.int .i64 0,.int .i64 0,.bool false,.slice none 0 0,.slice none 0 0] 102)).cell? ⟨wr.heap.size,3,none⟩ = some (.int .i64 0):=qcb HD.out 3;have fd3 : (w3.alloc (.cells #[.int .i64 0,.int .i64 0,.int .i64 0,.int .i64 0,.int .i64 0,.bool false,.slice none 0 0,.slice none 0 0] 102)).frozen? ⟨wr.heap.size,3,none⟩ = false:=frozen_blk HD.out 3;have re0 : (w3.alloc (.cells #[.int .i64 0,.int .i64 0,.int .i64 0,.int .i64 0,.int .i64 0,.bool false,.slice none 0 0,.slice none 0 0] 102)).cell? ⟨w3.heap.size,0,none⟩ = some (.int .i64 0):=qcb HE2.out 0;have fe0 : (w3.alloc (.cells #[.int .i64 0,.int .i64 0,.int .i64 0,.int .i64 0,.int .i64 0,.bool false,.slice none 0 0,.slice none 0 0] 102)).frozen? ⟨w3.heap.size,0,none⟩ = false:=frozen_blk HE2.out 0;have re1 : (w3.alloc (.cells #[.int .i64 0,.int .i64 0,.int .i64 0,.int .i64 0,.int .i64 0,.bool false,.slice none 0 0,.slice none 0 0] 102)).cell? ⟨w3.heap.size,1,none⟩ = some (.int .i64 0):=qcb HE2.out 1;have fe1 : (w3.alloc (.cells #[.int .i64 0,.int .i64 0,.int .i64 0,.int .i64 0,.int .i64 0,.bool false,.slice none 0 0,.slice none 0 0] 102)).frozen? ⟨w3.heap.size,1,none⟩ = false:=frozen_blk HE2.out 1;have re2 : (w3.alloc (.cells #[.int .i64 0,.int .i64 0,.int .i64 0,.int .i64 0,.int .i64 0,.bool false,.slice none 0 0,.slice none 0 0] 102)).cell? ⟨w3.heap.size,2,none⟩ = some (.int .i64 0):=qcb HE2.out 2;have fe2 : (w3.alloc (.cells #[.int .i64 0,.int .i64 0,.int .i64 0,.int .i64 0,.int .i64 0,.bool false,.slice none 0 0,.slice none 0 0] 102)).frozen? ⟨w3.heap.size,2,none⟩ = false:=frozen_blk HE2.out 2;have re3 : (w3.alloc (.cells #[.int .i64 0,.int .i64 0,.int .i64 0,.int .i64 0,.int .i64 0,.bool false,.slice none 0 0,.slice none 0 0] 102)).cell? ⟨w3.heap.size,3,none⟩ = some (.int .i64 0):=qcb HE2.out 3;have fe3 : (w3.alloc (.cells #[.int .i64 0,.int .i64 0,.int .i64 0,.int .i64 0,.int .i64 0,.bool false,.slice none 0 0,.slice none 0 0] 102)).frozen? ⟨w3.heap.size,3,none⟩ = false:=frozen_blk HE2.out 3;have re4 : (w3.alloc (.cells #[.int .i64 0,.int .i64 0,.int .i64 0,.int .i64 0,.int .i64 0,.bool false,.slice none 0 0,.slice none 0 0] 102)).cell? ⟨w3.heap.size,4,none⟩ = some (.int .i64 0):=qcb HE2.out 4;have fe4 : (w3.alloc (.cells #[.int .i64 0,.int .i64 0,.int .i64 0,.int .i64 0,.int .i64 0,.bool false,.slice none 0 0,.slice none 0 0] 102)).frozen? ⟨w3.heap.size,4,none⟩ = false:=frozen_blk HE2.out 4;have re5 : (w3.alloc (.cells #[.int .i64 0,.int .i64 0,.int .i64 0,.int .i64 0,.int .i64 0,.bool false,.slice none 0 0,.slice none 0 0] 102)).cell? ⟨w3.heap.size,5,none⟩ = some (.bool false):=qcb HE2.out 5;have fe5 : (w3.alloc (.cells #[.int .i64 0,.int .i64 0,.int .i64 0,.int .i64 0,.int .i64 0,.bool false,.slice none 0 0,.slice none 0 0] 102)).frozen? ⟨w3.heap.size,5,none⟩ = false:=frozen_blk HE2.out 5;have re6 : (w3.alloc (.cells #[.int .i64 0,.int .i64 0,.int .i64 0,.int .i64 0,.int .i64 0,.bool false,.slice none 0 0,.slice none 0 0] 102)).cell? ⟨w3.heap.size,6,none⟩ = some (.slice none 0 0):=qcb HE2.out 6;have fe6 : (w3.alloc (.cells #[.int .i64 0,.int .i64 0,.int .i64 0,.int .i64 0,.int .i64 0,.bool false,.slice none 0 0,.slice none 0 0] 102)).frozen? ⟨w3.heap.size,6,none⟩ = false:=frozen_blk HE2.out 6;have re7 : (w3.alloc (.cells #[.int .i64 0,.int .i64 0,.int .i64 0,.int .i64 0,.int .i64 0,.bool false,.slice none 0 0,.slice none 0 0] 102)).cell? ⟨w3.heap.size,7,none⟩ = some (.slice none 0 0):=qcb HE2.out 7;have fe7 : (w3.alloc (.cells #[.int .i64 0,.int .i64 0,.int .i64 0,.int .i64 0,.int .i64 0,.bool false,.slice none 0 0,.slice none 0 0] 102)).frozen? ⟨w3.heap.size,7,none⟩ = false:=frozen_blk HE2.out 7;have HV : Hid ((w3.alloc (.cells #[.int .i64 kd,.int .i64 sx,.int .i64 a,.int .i64 0,.int .i64 0,.bool fin,.slice da dl dc,.slice none 0 0] 102)).heap[wr.heap.size]? = some (.cells #[.int .i64 0,.int .i64 0,.int .i64 0,.int .i64 0] 122 (0,0))):=(Go.heap_alloc_old w3 (.cells #[.int .i64 kd,.int .i64 sx,.int .i64 a,.int .i64 0,.int .i64 0,.bool fin,.slice da dl dc,.slice none 0 0] 102) (qgs HB0.out).1).trans HB0.out;have rv0 : (w3.alloc (.cells #[.int .i64 kd,.int .i64 sx,.int .i64 a,.int .i64 0,.int .i64 0,.bool fin,.slice da dl dc,.slice none 0 0] 102)).cell? ⟨wr.heap.size,0,none⟩ = some (.int .i64 0):=qcb HV.out 0;have fv0 : (w3.alloc (.cells #[.int .i64 kd,.int .i64 sx,.int .i64 a,.int .i64 0,.int .i64 0,.bool fin,.slice da dl dc,.slice none 0 0] 102)).frozen? ⟨wr.heap.size,0,none⟩ = false:=frozen_blk HV.out 0;have rv1 : (w3.alloc (.cells #[.int .i64 kd,.int .i64 sx,.int .i64 a,.int .i64 0,.int .i64 0,.bool fin,.slice da dl dc,.slice none 0 0] 102)).cell? ⟨wr.heap.size,1,none⟩ = some (.int .i64 0):=qcb HV.out 1;have fv1 : (w3.alloc (.cells #[.int .i64 kd,.int .i64 sx,.int .i64 a,.int .i64 0,.int .i64 0,.bool fin,.slice da dl dc,.slice none 0 0] 102)).frozen? ⟨wr.heap.size,1,none⟩ = false:=frozen_blk HV.out 1;have rv2 : (w3.alloc (.cells #[.int .i64 kd,.int .i64 sx,.int .i64 a,.int .i64 0,.int .i64 0,.bool fin,.slice da dl dc,.slice none 0 0] 102)).cell? ⟨wr.heap.size,2,none⟩ = some (.int .i64 0):=qcb HV.out 2;have fv2 : (w3.alloc (.cells #[.int .i64 kd,.int .i64 sx,.int .i64 a,.int .i64 0,.int .i64 0,.bool fin,.slice da dl dc,.slice none 0 0] 102)).frozen? ⟨wr.heap.size,2,none⟩ = false:=frozen_blk HV.out 2;have rv3 : (w3.alloc (.cells #[.int .i64 kd,.int .i64 sx,.int .i64 a,.int .i64 0,.int .i64 0,.bool fin,.slice da dl dc,.slice none 0 0] 102)).cell? ⟨wr.heap.size,3,none⟩ = some (.int .i64 0):=qcb HV.out 3;have fv3 : (w3.alloc (.cells #[.int .i64 kd,.int .i64 sx,.int .i64 a,.int .i64 0,.int .i64 0,.bool fin,.slice da dl dc,.slice none 0 0] 102)).frozen? ⟨wr.heap.size,3,none⟩ = false:=frozen_blk HV.out 3;have hn1 : ¬ (wr.heap.size = w3.heap.size):=Nat.ne_of_lt (qgs HB0.out).1;have hn2 : ¬ (w3.heap.size = wr.heap.size):=fun x => hn1 x.symm)
       | (go_simp;go_at_call 70;refine TLFP.out.mono ?_;rintro r w3 ⟨kd,sx,a,fin,da,dl,dc,t,rfl,h3,hb0,hb1⟩;have H3:=qhi h3;clear h3;have HB0:=qhi hb0;clear hb0;have r00 : w3.cell? ⟨wr.heap.size,0,none⟩ = some (.int .i64 0):=qcb HB0.out 0;have f00 : w3.frozen? ⟨wr.heap.size,0,none⟩ = false:=frozen_blk HB0.out 0;have r01 : w3.cell? ⟨wr.heap.size,1,none⟩ = some (.int .i64 0):=qcb HB0.out 1;have f01 : w3.frozen? ⟨wr.heap.size,1,none⟩ = false:=frozen_blk HB0.out 1;have r02 : w3.cell? ⟨wr.heap.size,2,none⟩ = some (.int .i64 0):=qcb HB0.out 2;have f02 : w3.frozen? ⟨wr.heap.size,2,none⟩ = false:=frozen_blk HB0.out 2;have r03 : w3.cell? ⟨wr.heap.size,3,none⟩ = some (.int .i64 0):=qcb HB0.out 3;have f03 : w3.frozen? ⟨wr.heap.size,3,none⟩ = false:=frozen_blk HB0.out 3;have r04 : w3.cell? ⟨wr.heap.size,4,none⟩ = some (.int .i64 0):=qcb HB0.out 4;have f04 : w3.frozen? ⟨wr.heap.size,4,none⟩ = false:=frozen_blk HB0.out 4;have r05 : w3.cell? ⟨wr.heap.size,5,none⟩ = some (.bool false):=qcb HB0.out 5;have f05 : w3.frozen? ⟨wr.heap.size,5,none⟩ = false:=frozen_blk HB0.out 5;have r06 : w3.cell? ⟨wr.heap.size,6,none⟩ = some (.slice none 0 0):=qcb HB0.out 6;have f06 : w3.frozen? ⟨wr.heap.size,6,none⟩ = false:=frozen_blk HB0.out 6;have r07 : w3.cell? ⟨wr.heap.size,7,none⟩ = some (.slice none 0 0):=qcb HB0.out 7;have f07 : w3.frozen? ⟨wr.heap.size,7,none⟩ = false:=frozen_blk HB0.out 7;have HB1:=qhi hb1;clear hb1;have r10 : w3.cell? ⟨wr.heap.size + 1,0,none⟩ = some (.int .i64 0):=qcb HB1.out 0;have f10 : w3.frozen? ⟨wr.heap.size + 1,0,none⟩ = false:=frozen_blk HB1.out 0;have r11 : w3.cell? ⟨wr.heap.size + 1,1,none⟩ = some (.int .i64 0):=qcb HB1.out 1;have f11 : w3.frozen? ⟨wr.heap.size + 1,1,none⟩ = false:=frozen_blk HB1.out 1;have r12 : w3.cell? ⟨wr.heap.size + 1,2,none⟩ = some (.int .i64 0):=qcb HB1.out 2;have f12 : w3.frozen? ⟨wr.heap.size + 1,2,none⟩ = false:=frozen_blk HB1.out 2;have r13 : w3.cell? ⟨wr.heap.size + 1,3,none⟩ = some (.int .i64 0):=qcb HB1.out 3;have f13 : w3.frozen? ⟨wr.heap.size + 1,3,none⟩ = false:=frozen_blk HB1.out 3)
       | (go_simp;go_at_call 70;refine TLPF.out.mono ?_;rintro r w3 ⟨kd,sx,a,fin,da,dl,dc,t,rfl,h3,hb0,hb1⟩;have H3:=qhi h3;clear h3;have HB0:=qhi hb0;clear hb0;have r00 : w3.cell? ⟨wr.heap.size,0,none⟩ = some (.int .i64 0):=qcb HB0.out 0;have f00 : w3.frozen? ⟨wr.heap.size,0,none⟩ = false:=frozen_blk HB0.out 0;have r01 : w3.cell? ⟨wr.heap.size,1,none⟩ = some (.int .i64 0):=qcb HB0.out 1;have f01 : w3.frozen? ⟨wr.heap.size,1,none⟩ = false:=frozen_blk HB0.out 1;have r02 : w3.cell? ⟨wr.heap.size,2,none⟩ = some (.int .i64 0):=qcb HB0.out 2;have f02 : w3.frozen? ⟨wr.heap.size,2,none⟩ = false:=frozen_blk HB0.out 2;have r03 : w3.cell? ⟨wr.heap.size,3,none⟩ = some (.int .i64 0):=qcb HB0.out 3;have f03 : w3.frozen? ⟨wr.heap.size,3,none⟩ = false:=frozen_blk HB0.out 3;have HB1:=qhi hb1;clear hb1;have r10 : w3.cell? ⟨wr.heap.size + 1,0,none⟩ = some (.int .i64 0):=qcb HB1.out 0;have f10 : w3.frozen? ⟨wr.heap.size + 1,0,none⟩ = false:=frozen_blk HB1.out 0;have r11 : w3.cell? ⟨wr.heap.size + 1,1,none⟩ = some (.int .i64 0):=qcb HB1.out 1;have f11 : w3.frozen? ⟨wr.heap.size + 1,1,none⟩ = false:=frozen_blk HB1.out 1;have r12 : w3.cell? ⟨wr.heap.size + 1,2,none⟩ = some (.int .i64 0):=qcb HB1.out 2;have f12 : w3.frozen? ⟨wr.heap.size + 1,2,none⟩ = false:=frozen_blk HB1.out 2;have r13 : w3.cell? ⟨wr.heap.size + 1,3,none⟩ = some (.int .i64 0):=qcb HB1.out 3;have f13 : w3.frozen? ⟨wr.heap.size + 1,3,none⟩ = false:=frozen_blk HB1.out 3;have r14 : w3.cell? ⟨wr.heap.size + 1,4,none⟩ = some (.int .i64 0):=qcb HB1.out 4;have f14 : w3.frozen? ⟨wr.heap.size + 1,4,none⟩ = false:=frozen_blk HB1.out 4;have r15 : w3.cell? ⟨wr.heap.size + 1,5,none⟩ = some (.bool false):=qcb HB1.out 5;have f15 : w3.frozen? ⟨wr.heap.size + 1,5,none⟩ = false:=frozen_blk HB1.out 5;have r16 : w3.cell? ⟨wr.heap.size + 1,6,none⟩ = some (.slice none 0 0):=qcb HB1.out 6;have f16 : w3.frozen? ⟨wr.heap.size + 1,6,none⟩ = false:=frozen_blk HB1.out 6;have r17 : w3.cell? ⟨wr.heap.size + 1,7,none⟩ = some (.slice none 0 0):=qcb HB1.out 7;have f17 : w3.frozen? ⟨wr.heap.size + 1,7,none⟩ = false:=frozen_blk HB1.out 7))
      all_goals try go_wp2_with fail
      all_goals try go_meet
      all_goals first
       | (with_reducible exact FIN0.out _ _ _ _ _ _ _ _ _ H3.out)
       | (with_reducible exact FIN1.out _ _ _ _ _ _ _ _ _ H3.out)
       | (with_reducible exact FINF.out _ _ _ _ _ _ _ _ _ H3.out HB0.out)
       | (with_reducible exact FINP.out _ _ _ _ _ _ _ _ _ H3.out HB0.out)
       | (with_reducible exact FINFP.out _ _ _ _ _ _ _ _ _ H3.out HB0.out HB1.out)
       | (with_reducible exact FINPF.out _ _ _ _ _ _ _ _ _ H3.out HB0.out HB1.out)
     case rest =>
      obtain ⟨bf,bp,kd,sx,a,fin,da,dl,dc,t,rfl,rfl,hbf,hbp,q2,e2,s2,t2,gg2,hxg,hat,hX2⟩:=hcut
      have XG:=qhi hxg
      clear hxg
      have b1 : wc.cell? ⟨bp,1,none⟩ = some (.int .i64 a):=qcb hbp 1
      have b2 : wc.cell? ⟨bp,2,none⟩ = some (.int .i64 t):=qcb hbp 2
      have T2 : Hid (Tab wc):=T1.out.block (t2.block _ T1.out.pos (by have h1:=HW.out.1;have h2:=HW.out.2;unfold EndC at h2;unfold Wrs;omega))
      have E2:=qhi e2
      have S2:=qhi (S1.out.trans s2)
      have ST2:=qhi (ST1.out.trans t2)
      have G2:=qhi gg2
      clear e2 s2 t2 gg2 TL g2 g3 g3d hrm hsm
      by_cases haz : a = t
      ·have hqz : (a == t) = true:=by simpa using haz
       have J2:=qhi (bytj_eq HS.out HS0.out J1.out XG.out haz)
       clear hX2 hat haz hbf hbp
       go_wp2_with fail
       exact ⟨⟨k + 1,by simp,by omega,q2,fs1,room1,ps1,G2.out,E2.out,S2.out,ST2.out,L1.out,J2.out⟩,by simp [intOf];omega⟩
      ·have hqz : (a == t) = false:=by simpa using haz
       have hlt2 : a < t:=by omega
       obtain ⟨hkd,hsx,d,hd,hm,hl,hb,ha0,hsay⟩:=hX2 hlt2
       subst hkd;subst hsx
       have b0 : wc.cell? ⟨bp,0,none⟩ = some (.int .i64 (s : Int)):=qcb hbp 0
       have b3 : wc.cell? ⟨bp,3,none⟩ = some (.int .i64 0):=qcb hbp 3
       have f0 : wc.cell? ⟨bf,0,none⟩ = some (.int .i64 8):=qcb hbf 0
       have f1 : wc.cell? ⟨bf,1,none⟩ = some (.int .i64 (s : Int)):=qcb hbf 1
       have f2 : wc.cell? ⟨bf,2,none⟩ = some (.int .i64 a):=qcb hbf 2
       have f3 : wc.cell? ⟨bf,3,none⟩ = some (.int .i64 0):=qcb hbf 3
       have f4 : wc.cell? ⟨bf,4,none⟩ = some (.int .i64 0):=qcb hbf 4
       have f5 : wc.cell? ⟨bf,5,none⟩ = some (.bool fin):=qcb hbf 5
       have f6 : wc.cell? ⟨bf,6,none⟩ = some (.slice da dl dc):=qcb hbf 6
       have f7 : wc.cell? ⟨bf,7,none⟩ = some (.slice none 0 0):=qcb hbf 7
       have HA : Hid (Calls Tryz.prog 64 #[.pointer (some ⟨g,0,none⟩),.agg #[.int .i64 8,.int .i64 (s : Int),.int .i64 a,.int .i64 0,.int .i64 0,.bool fin,.slice da dl dc,.slice none 0 0],.slice (some ⟨wc.heap.size,0,none⟩) 1 1] (wc.alloc (.cells #[.int .i64 (s : Int),.int .i64 a,.int .i64 t,.int .i64 0] 122)) fun r w' =>
         r = .returned (.bool true) ∧ Below B wc w' ∧ ∃ room' ps',Gin X F B g n (fs1 ++ [strFr s a fin d]) room' ps' w'):=by
        have hBW : B ≤ wc.heap.size:=Nat.le_of_lt G2.out.gm.lt
        have hbA:=(qbr B wc).alloc hBW (.cells #[.int .i64 (s : Int),.int .i64 a,.int .i64 t,.int .i64 0] 122)
        have hbW:=(qbr wc.heap.size wc).alloc (qlr _) (.cells #[.int .i64 (s : Int),.int .i64 a,.int .i64 t,.int .i64 0] 122)
        have hQ:=(World.ownsRow_lit (base:=0) (size:=4) (e:=122) wc #[.int .i64 (s : Int),.int .i64 a,.int .i64 t,.int .i64 0] 1 (by omega) (by decide) rfl)
        have hsm2:=G2.out.sum
        refine (Gin.put (w:=wc.alloc (.cells #[.int .i64 (s : Int),.int .i64 a,.int .i64 t,.int .i64 0] 122)) (T2.out.block (Go.heap_alloc_old _ _ T2.out.pos)) (G2.out.below hbW) (strFr s a fin d) (.slice da dl dc) (.slice none 0 0) (.slice (some ⟨wc.heap.size,0,none⟩) 1 1) [⟨s,a,t,0⟩] ⟨hd.below hbW,RdS.nil _⟩ hm (by omega) hb (fun _ => ⟨⟨by show (0 : Int) ≤ s;omega,by show (s : Int) < 4;have:=HS.out;omega⟩,ha0,by simpa [strFr] using hsay⟩) hQ (by simp) (by intro p hp;simp at hp;subst hp;have:=HS.out;exact ⟨by show (0 : Int) ≤ s;omega,by show (s : Int) < 4;omega,hat⟩) hl (by omega)).mono ?_
        rintro r w' ⟨h1,b,h2⟩
        exact ⟨h1,hbA.trans b,_,_,h2⟩
       have H64:=qhi h64
       have J2 : Hid (∀ r,BytJ X q fs room k q2 (fs1 ++ [strFr s a fin d]) r):=fun r => bytj_lt HS.out HS0.out J1.out XG.out hlt2 hsay
       clear hX2 hat haz hbf hbp hm hl hb ha0 hsay hd hlt2 h64
       go_wp2_with (go_at_call 64;refine HA.out.mono ?_;rintro r w4 ⟨rfl,b4,room4,ps4,h4⟩;have B4:=qhi b4;have G4:=qhi h4;clear b4 h4)
       have e4:=E2.out.over2 B4.out HC.out HZ.out
       obtain ⟨bv4,pv4,_,hH4,_,_⟩:=G4.out.gm
       obtain ⟨_,_,k2,_,_⟩:=hH4.facts
       refine ⟨⟨q2,fs1 ++ [strFr s a fin d],room4,ps4,G4.out,e4.1,S2.out,ST2.out.trans (e4.2.mono fun _ => .inr),by have:=L1.out;simp;omega,J2.out _⟩,?_⟩
       have hml : leftOfG g w4 = 64 - (fs1.length + 1):=by
        unfold leftOfG
        rw [k2]
        simp [intOf]
       have:=ML.out
       have:=H64.out
       omega
    ·have J2:=qhi (bytj_full J1.out h64)
     go_wp2_with fail
     exact ⟨⟨k + 1,by simp,by omega,q1,fs1,room1,ps1,G1.out,E1.out,S1.out,ST1.out,L1.out,J2.out⟩,by simp [intOf];omega⟩
  ·have i1 : ¬ ((k : Int) < 4):=by omega
   have J2 : Hid (BytA X q fs room → fs1 = [strFr 0 0 true [97]] ∧ q1.ws 0 = twoT):=(fun hA => by
    obtain ⟨_,h | h⟩:=J1.out hA
    ·have:=h.1;omega
    ·exact h : BytA X q fs room → fs1 = [strFr 0 0 true [97]] ∧ q1.ws 0 = twoT)
   obtain ⟨bv1,pv1,_,hH,_,_⟩:=G1.out.gm
   obtain ⟨_,_,g2,g3,_⟩:=hH.facts
   have c35:=E1.out.cell.c35.1
   obtain ⟨_,f35⟩:=E1.out.cell.c35
   have htn:=E1.out.num.turn
   have LL:=L1.out
   clear hH
   by_cases hmore : fs.length < fs1.length
   ·have dg : decide ((fs1.length : Int) > (fs.length : Int)) = true:=qdt (by omega)
    have dgn : decide (fs1.length > fs.length) = true:=qdt (by omega)
    have dgm : decide (fs.length < fs1.length) = true:=qdt hmore
    have hwr : IntKind.i64.wrap (q1.turn + 1) = q1.turn + 1:=by rw [IntKind.wrap_i64];omega
    obtain ⟨s,hs⟩ : ∃ s : Int,(q1.turn + 1).tmod 4 = s:=⟨_,rfl⟩
    have hs' : (q1.turn + 1) % 4 = s:=by rw [← hs,Int.tmod_eq_emod_of_nonneg (by omega)]
    obtain ⟨h3,s3,r3⟩:=E1.out.setTurn s (by omega)
    have H3:=qhi h3
    have S3:=qhi s3
    have G3:=qhi (G1.out.stp s3 (fun j hj _ hk => HZ.out (by rw [← HC.out j hj];exact ⟨by omega,by omega⟩)))
    clear h3 s3 r3 hmore LL htn
    go_wp2_with fail
    go_end0
    exact ⟨rfl,q1,s,fs1,room1,ps1,G3.out,H3.out,S1.out,ST1.out.trans (S3.out.mono fun i hi => .inl (by unfold Wrs;omega)),L1.out,J2.out⟩
   ·have dg : decide ((fs1.length : Int) > (fs.length : Int)) = false:=qdf (by omega)
    have dgn : decide (fs1.length > fs.length) = false:=qdf (by omega)
    have dgm : decide (fs.length < fs1.length) = false:=qdf hmore
    clear hmore LL htn
    go_wp2_with fail
    go_end0
    exact ⟨rfl,q1,q1.turn,fs1,room1,ps1,G1.out,E1.out,S1.out,ST1.out,L1.out,J2.out⟩
end Go.Proofs.YtmcomdmcmnbhlaaGreatDoor
