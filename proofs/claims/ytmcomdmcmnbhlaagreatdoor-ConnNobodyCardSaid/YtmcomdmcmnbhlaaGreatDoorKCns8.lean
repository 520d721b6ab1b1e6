import Derived.Test.YtmcomdmcmnbhlaaGreatDoorKCns6
import Derived.Test.YtmcomdmcmnbhlaaGreatDoorKCns7
set_option maxRecDepth 100000
set_option maxHeartbeats 25600000
set_option linter.unusedSimpArgs false
set_option linter.unusedVariables false
set_option linter.unnecessarySimpa false
namespace Go.Proofs.YtmcomdmcmnbhlaaGreatDoor
open Go.RowKit Go.Maps
structure EHr (q : EQ) (f : Fr) (q' : EQ) : Prop where
 same : q' = { q with wv:=q'.wv,ws:=q'.ws,rs:=q'.rs,fl:=q'.fl,asked:=(q.asked || asksF f) }
 ws : ∀ i,i < 4 → WSub (q.ws i) (q'.ws i)
 rs : ∀ i,i < 4 → (q'.rs i).st = if f.kind = 8 ∧ f.stream = (i : Int) then (dataE (q.rs i).st f.offset f.data f.fin).1 else (q.rs i).st
section
variable {c : Col} {K e : Nat} {X : Nat → List Int} {F : Nat → Bool} {Y : Nat → List Int} {G : Nat → Bool} {q : EQ}
theorem EOk.setLimit {w : World} {i : Nat} (h : EOk c K e X F Y G q w) (hi : i < 4) (t : Int) (ht : (q.ws i).limit ≤ t ∧ t ≤ 4611686018427387903) :
  EOk c K e X F Y G { q with ws:=upd q.ws i { q.ws i with limit:=t } } (w.setCell ⟨e,3 + 8 * i + 3,none⟩ (.int .i64 t)) ∧ Stp c c (fun j => j = K) w (w.setCell ⟨e,3 + 8 * i + 3,none⟩ (.int .i64 t)) ∧ ∀ j,j < 4 → WSub (q.ws j) (upd q.ws i { q.ws i with limit:=t } j):=by
 have hc:=h.cell.ce
 have hsub : ∀ j,j < 4 → WSub (q.ws j) (upd q.ws i { q.ws i with limit:=t } j):=by
  intro j hj
  by_cases hji : j = i
  ·subst hji
   rw [upd_at]
   exact ⟨rfl,rfl,List.Sublist.refl _,ht.1,.inl ht.2⟩
  ·rw [upd_ne _ _ hji];exact WSub.refl _
 have s : Stp c c (fun j => j = K) w (w.setCell ⟨e,3 + 8 * i + 3,none⟩ (.int .i64 t)):=Stp.set _ _ hc
 have r : Rgn e (3 + 8 * i + 3) (3 + 8 * i + 3 + 1) w (w.setCell ⟨e,3 + 8 * i + 3,none⟩ (.int .i64 t)):=Rgn.set ⟨by omega,by omega⟩
 refine ⟨⟨?_,?_,?_,fun j hj => (h.rd j hj).frame s r (by omega) (by omega),?_,h.rok,h.fly.frame s r (by omega) (by omega)⟩,s,hsub⟩
 ·obtain ⟨a0,a1,a2,a3,a4,a5,a6,a7,a8,a9,a10⟩:=h.cell.frame s r (by omega) (.inl (by omega))
  exact ⟨a0,a1,a2,a3,a4,a5,a6,a7,a8,a9,a10⟩
 ·obtain ⟨a0,a1,a2,a3,a4,a5,a6,a7,a8⟩:=h.num
  exact ⟨a0,a1,a2,a3,a4,a5,a6,a7,a8⟩
 ·intro j hj
  by_cases hji : j = i
  ·subst hji
   show Wr _ _ _ _ _ (upd q.ws j _ j) _
   rw [upd_at]
   obtain ⟨⟨d0,d1,d2,d3⟩,hrow,hcol,hne⟩:=h.wr j hj
   refine ⟨⟨d0.rgn r (by omega),d1.rgn r (by omega),d2.rgn r (by omega),d3.set _ rfl⟩,?_,hcol,hne⟩
   exact ((h.wr j hj).row.block fun m hm => s.block m (World.ownsRow.lt hrow m hm).2 (by rw [hcol m hm];omega))
  ·show Wr _ _ _ _ _ (upd q.ws i _ j) _
   rw [upd_ne _ _ hji]
   exact (h.wr j hj).frame s r (by omega) (by omega)
 ·intro j hj
  exact (h.wok j hj).sub (hsub j hj)
theorem EOk.take {w w' : World} {i : Nat} (h : EOk c K e X F Y G q w) (hi : i < 4) {off : Int} {bs : List Int} {fin : Bool} (hd : RTake c (K + 11 + i) e (7 + 8 * i) (q.rs i) off bs fin w w') (ho : ROk (Y i) (G i) (dataE (q.rs i).st off bs fin).1) :
  ∃ tp,EOk c K e X F Y G { q with rs:=upd q.rs i ⟨(q.rs i).b,(q.rs i).r,(q.rs i).m,(dataE (q.rs i).st off bs fin).1,tp,(q.rs i).sure,(q.rs i).told⟩ } w' ∧ Stp c c (EndC K) w w':=by
 have hc:=h.cell.ce
 obtain ⟨⟨tp,hn⟩,s,r⟩:=hd
 refine ⟨tp,⟨?_,?_,fun j hj => (h.wr j hj).frame s r (by omega) (by omega),?_,h.wok,?_,h.fly.frame s r (by omega) (by omega)⟩,s.mono (fun x hx => by unfold EndC;omega)⟩
 ·obtain ⟨a0,a1,a2,a3,a4,a5,a6,a7,a8,a9,a10⟩:=h.cell.frame s r (by omega) (.inl (by omega))
  exact ⟨a0,a1,a2,a3,a4,a5,a6,a7,a8,a9,a10⟩
 ·obtain ⟨a0,a1,a2,a3,a4,a5,a6,a7,a8⟩:=h.num
  exact ⟨a0,a1,a2,a3,a4,a5,a6,a7,a8⟩
 ·intro j hj
  by_cases hji : j = i
  ·subst hji
   show Rr _ _ _ _ (upd q.rs j _ j) _
   rw [upd_at];exact hn
  ·show Rr _ _ _ _ (upd q.rs i _ j) _
   rw [upd_ne _ _ hji]
   exact (h.rd j hj).frame s r (by omega) (by omega)
 ·intro j hj
  by_cases hji : j = i
  ·subst hji
   show ROk _ _ (upd q.rs j _ j).st
   rw [upd_at];exact ho
  ·show ROk _ _ (upd q.rs i _ j).st
   rw [upd_ne _ _ hji];exact h.rok j hj
def CutA (c : Col) (K e : Nat) (X : Nat → List Int) (F : Nat → Bool) (Y : Nat → List Int) (G : Nat → Bool) (q : EQ) (w : World) (fr : Array Value) (wx : World) : Prop :=
 ∃ q1,q1 = q ∧ EOk c K e X F Y G q1 wx ∧ Stp c c (EndC K) w wx ∧ wx.heap[w.heap.size]? = some (.cells fr 102 (0,0))
def HearsAck : Prop:=∀ {c : Col} {K e : Nat} {X : Nat → List Int} {F : Nat → Bool} {Y : Nat → List Int} {G : Nat → Bool} {q : EQ} {w : World} {Z : Nat} (h : EOk c K e X F Y G q w) (hc : ∀ j,w.heap.size ≤ j → c j = Z) (hz : ¬ EndC K Z) (k1 k2 k3 n k5 : Int) (fin : Bool) (da : Option Addr) (dn dc : Nat) (sv : Value) (ss : List (Int × Int)) (hS : RdS w sv ss) (hsv : ∀ j,sv.ownBlock = some j → ¬ EndC K (c j)),Calls Tryz.prog 83 #[.pointer (some ⟨e,0,none⟩),.agg #[.int .i64 k1,.int .i64 k2,.int .i64 k3,.int .i64 n,.int .i64 k5,.bool fin,.slice da dn dc,sv]] w fun r w' => r = .returned (.tuple #[]) ∧ ∃ q',EOk c K e X F Y G q' w' ∧ EHe q q' ∧ Stp c c (EndC K) w w'
theorem ehear {w : World} {Z : Nat} (f : Fr) (h : EOk c K e X F Y G q w) (hc : ∀ j,w.heap.size ≤ j → c j = Z) (hz : ¬ EndC K Z) (da sa : Option Addr) (dc sc : Nat) (hd : Rd .u8 w (.slice da f.data.length dc) f.data) (hs : RdS w (.slice sa f.spans.length sc) f.spans)
  (hdc : ∀ j,(Value.slice da f.data.length dc).ownBlock = some j → ¬ EndC K (c j)) (hsc : ∀ j,(Value.slice sa f.spans.length sc).ownBlock = some j → ¬ EndC K (c j)) (hm : mayF f = true) (hg : GoodF f) (hy : SayF Y G f) (hak : f.kind = 2 → HearsAck) :
  Calls Tryz.prog 46 #[.pointer (some ⟨e,0,none⟩),.agg #[.int .i64 f.kind,.int .i64 f.stream,.int .i64 f.offset,.int .i64 f.n,.int .i64 f.code,.bool f.fin,.slice da f.data.length dc,.slice sa f.spans.length sc]] w fun r w' => r = .returned (.tuple #[]) ∧ ∃ q',EOk c K e X F Y G q' w' ∧ EHr q f q' ∧ Stp c c (EndC K) w w':=by
 obtain ⟨w1,hw1⟩ : ∃ w1,w1 = w.alloc (.cells #[.int .i64 f.kind,.int .i64 f.stream,.int .i64 f.offset,.int .i64 f.n,.int .i64 f.code,.bool f.fin,.slice da f.data.length dc,.slice sa f.spans.length sc] 102):=⟨_,rfl⟩
 have B1 : Hid (Below w.heap.size w w1):=by subst hw1;exact below1 w _
 have A1 : Hid (w1.heap[w.heap.size]? = some (.cells #[.int .i64 f.kind,.int .i64 f.stream,.int .i64 f.offset,.int .i64 f.n,.int .i64 f.code,.bool f.fin,.slice da f.data.length dc,.slice sa f.spans.length sc] 102 (0,0))):=by subst hw1;exact Go.heap_alloc_new w _
 have H1:=qhi (h.below B1.out)
 have HH:=qhi h
 have HC:=qhi hc
 have HZ:=qhi hz
 have HD:=qhi hd
 have HS:=qhi hs
 have HDC:=qhi hdc
 have HSC:=qhi hsc
 have HM:=qhi hm
 have HG:=qhi hg
 have HY:=qhi hy
 have HAK : Hid (f.kind = 2 → HearsAck):=hak
 have HZZ : Hid (∀ j,w.heap.size ≤ j → ¬ EndC K (c j)):=fun j hj => by rw [HC.out j hj];exact HZ.out
 have HAS:=qhi (fun W => asks_any f da sa f.data.length f.spans.length dc sc W)
 clear h hc hz hd hs hdc hsc hm hg hy hak
 obtain ⟨fk,fst,fo,fn,fcd,ffin,fd,fsp⟩:=f
 dsimp only at *
 go_enter Tryz.func46,Tryz.ntmps46
 go_upto_region 1 with fail
 rw [← hw1]
 clear hw1
 go_cut [] (fun wx => CutA c K e X F Y G { q with asked:=(q.asked || asksF ⟨fk,fst,fo,fn,fcd,ffin,fd,fsp⟩) } w #[.int .i64 fk,.int .i64 fst,.int .i64 fo,.int .i64 fn,.int .i64 fcd,.bool ffin,.slice da fd.length dc,.slice sa fsp.length sc] wx)
 case first =>
  obtain ⟨c53,g53⟩:=H1.out.cell.c53
  have y0 : w1.cell? ⟨w.heap.size,0,none⟩ = some (.int .i64 fk):=qcb A1.out 0
  have y1 : w1.cell? ⟨w.heap.size,1,none⟩ = some (.int .i64 fst):=qcb A1.out 1
  have y2 : w1.cell? ⟨w.heap.size,2,none⟩ = some (.int .i64 fo):=qcb A1.out 2
  have y3 : w1.cell? ⟨w.heap.size,3,none⟩ = some (.int .i64 fn):=qcb A1.out 3
  have y4 : w1.cell? ⟨w.heap.size,4,none⟩ = some (.int .i64 fcd):=qcb A1.out 4
  have y5 : w1.cell? ⟨w.heap.size,5,none⟩ = some (.bool ffin):=qcb A1.out 5
  have y6 : w1.cell? ⟨w.heap.size,6,none⟩ = some (.slice da fd.length dc):=qcb A1.out 6
  have y7 : w1.cell? ⟨w.heap.size,7,none⟩ = some (.slice sa fsp.length sc):=qcb A1.out 7
  cases ha : q.asked
  ·rw [ha] at c53
   go_wp2_with (go_at_call 82;refine (HAS.out w1).mono ?_;rintro x w2 ⟨rfl,hb2⟩;have B2:=qhi hb2;have H2:=qhi (H1.out.below hb2);obtain ⟨d53,k53⟩:=H2.out.cell.c53;clear hb2)
   go_meet
   have st:=H2.out.setAsked (asksF ⟨fk,fst,fo,fn,fcd,ffin,fd,fsp⟩)
   have hlt : w.heap.size < w2.heap.size:=Nat.lt_of_lt_of_le (qgs A1.out).1 B2.out.size
   refine ⟨_,by rw [ha];rfl,st.1,((Stp.of_below B1.out).trans (Stp.of_below B2.out)).trans (st.2.1.mono (fun i hi => by unfold EndC;omega)),?_⟩
   have h0:=HZZ.out w.heap.size (qlr _)
   have he:=H2.out.cell.ce
   exact ((st.2.1.block _ hlt (by unfold EndC at h0;omega)).trans (B2.out.block _ (qgs A1.out).1)).trans A1.out
  ·rw [ha] at c53
   go_wp2_with fail
   go_meet
   have st:=H1.out.setAsked true
   refine ⟨_,by rw [ha];rfl,st.1,(Stp.of_below B1.out).trans (st.2.1.mono (fun i hi => by unfold EndC;omega)),?_⟩
   have h0:=HZZ.out w.heap.size (qlr _)
   have he:=H1.out.cell.ce
   exact (st.2.1.block _ (qgs A1.out).1 (by unfold EndC at h0;omega)).trans A1.out
 case rest =>
 obtain ⟨q1,hq1,h2,s2,a2⟩:=hcut
 have E2:=qhi h2
 have S2:=qhi s2
 have A2:=qhi a2
 have U2 : Hid (q1 = { q with asked:=(q.asked || asksF ⟨fk,fst,fo,fn,fcd,ffin,fd,fsp⟩) }):=hq1
 have RE : Hid (∀ q2,EHe q1 q2 → fk ≠ 8 → EHr q ⟨fk,fst,fo,fn,fcd,ffin,fd,fsp⟩ q2):=by
  intro q2 hu hk
  refine ⟨by rw [hu.same,U2.out],fun i hi => by have:=hu.ws i hi;rw [U2.out] at this;exact this,fun i hi => ?_⟩
  rw [if_neg (by simp [hk]),hu.rs i hi,U2.out]
 clear hq1 h2 s2 a2 H1 A1 B1 HAS
 generalize wc = w2 at E2 S2 A2 ⊢
 have y0 : w2.cell? ⟨w.heap.size,0,none⟩ = some (.int .i64 fk):=qcb A2.out 0
 have D2 : Hid (Rd .u8 w2 (.slice da fd.length dc) fd):=Rd.stp HD.out S2.out (fun _ j hj => HDC.out j hj)
 have R2 : Hid (RdS w2 (.slice sa fsp.length sc) fsp):=RdC.stp HS.out S2.out (fun _ j hj => HSC.out j hj)
 have HC2 : Hid (∀ j,w2.heap.size ≤ j → c j = Z):=fun j hj => HC.out j (Nat.le_trans S2.out.size hj)
 have bsz : w.heap.size < w2.heap.size:=(qgs A2.out).1
 by_cases k2 : fk = 2
 ·subst k2
  have e2 : ((2 : Int) == 2) = true:=rfl
  have y1 : w2.cell? ⟨w.heap.size,1,none⟩ = some (.int .i64 fst):=qcb A2.out 1
  have y2 : w2.cell? ⟨w.heap.size,2,none⟩ = some (.int .i64 fo):=qcb A2.out 2
  have y3 : w2.cell? ⟨w.heap.size,3,none⟩ = some (.int .i64 fn):=qcb A2.out 3
  have y4 : w2.cell? ⟨w.heap.size,4,none⟩ = some (.int .i64 fcd):=qcb A2.out 4
  have y5 : w2.cell? ⟨w.heap.size,5,none⟩ = some (.bool ffin):=qcb A2.out 5
  have y6 : w2.cell? ⟨w.heap.size,6,none⟩ = some (.slice da fd.length dc):=qcb A2.out 6
  have y7 : w2.cell? ⟨w.heap.size,7,none⟩ = some (.slice sa fsp.length sc):=qcb A2.out 7
  have HA:=qhi (HAK.out rfl E2.out HC2.out HZ.out 2 fst fo fn fcd ffin da fd.length dc _ fsp R2.out HSC.out)
  go_wp2_with (go_at_call 83;refine HA.out.mono ?_;rintro x w3 ⟨rfl,q2,hE,hU,hS⟩)
  go_end0
  exact ⟨rfl,q2,hE,RE.out _ hU (by omega),S2.out.trans hS⟩
 ·have e2 : (fk == 2) = false:=by simp [k2]
  by_cases k17 : fk = 17
  ·subst k17
   have e17 : ((17 : Int) == 17) = true:=rfl
   obtain ⟨hs0,hs4⟩:=HG.out (.inr (.inr (.inl rfl)))
   dsimp only at hs0 hs4
   obtain ⟨i,hi⟩ : ∃ i : Nat,fst = (i : Int):=⟨fst.toNat,by omega⟩
   have hi4 : i < 4:=by omega
   subst hi
   have hN:=numB_yes (mayF_parts HM.out).2.2.2.2.1 (by simp [hN])
   dsimp only at hN
   have i0 : (0 : Int) ≤ (i : Int):=by omega
   have i4 : (i : Int) < 4:=by omega
   have y1 : w2.cell? ⟨w.heap.size,1,none⟩ = some (.int .i64 (i : Int)):=qcb A2.out 1
   have y3 : w2.cell? ⟨w.heap.size,3,none⟩ = some (.int .i64 fn):=qcb A2.out 3
   have ED:=qhi (E2.out.below (qbd (qbr w2.heap.size w2) 2))
   have L:=E2.out.wok i hi4
   have SL:=qhi ((E2.out.below (qbd (qbr w2.heap.size w2) 2)).setLimit hi4 (max (q1.ws i).limit fn) ⟨Int.le_max_left _ _,Int.max_le.2 ⟨L.limit.2,hN.2⟩⟩)
   obtain ⟨c3,g3⟩:=(E2.out.wr i hi4).cells.c3
   rw [show 3 + 8 * i + 3 = 3 + i * 8 + 3 from by omega] at c3 g3
   have y1d : w2.drew.cell? ⟨w.heap.size,1,none⟩ = some (.int .i64 (i : Int)):=y1
   go_upto_region 6 with fail
   go_region
   go_upto_region 7 with fail
   have y3d : w2.drew.drew.cell? ⟨w.heap.size,3,none⟩ = some (.int .i64 fn):=y3
   have c3d : w2.drew.drew.cell? ⟨e,3 + i * 8 + 3,none⟩ = some (.int .i64 (q1.ws i).limit):=c3
   have g3d : w2.drew.drew.frozen? ⟨e,3 + i * 8 + 3,none⟩ = false:=g3
   go_region
   go_wp2_with fail
   go_end0
   have hgoal:=SL.out
   rw [show 3 + 8 * i + 3 = 3 + i * 8 + 3 from by omega] at hgoal
   refine ⟨rfl,_,hgoal.1,RE.out { q1 with ws:=upd q1.ws i { q1.ws i with limit:=max (q1.ws i).limit fn } } ⟨rfl,hgoal.2.2,fun _ _ => rfl⟩ (by omega),(S2.out.trans (Stp.of_below (qbd (qbr w2.heap.size w2) 2))).trans (hgoal.2.1.mono (fun i hi => by unfold EndC;omega))⟩
  ·have e17 : (fk == 17) = false:=by simp [k17]
   by_cases k8 : fk = 8
   ·subst k8
    have e8 : ((8 : Int) == 8) = true:=rfl
    obtain ⟨⟨hs0,hs4⟩,ho,hsay⟩:=HY.out rfl
    dsimp only at hs0 hs4 ho hsay
    obtain ⟨i,hi⟩ : ∃ i : Nat,fst = (i : Int):=⟨fst.toNat,by omega⟩
    have hi4 : i < 4:=by omega
    subst hi
    simp only [Int.toNat_natCast] at hsay
    have i0 : (0 : Int) ≤ (i : Int):=by omega
    have i4 : (i : Int) < 4:=by omega
    have hO:=(mayF_parts HM.out).2.2.2.2.2.2.1
    have hlen : fo + fd.length ≤ 4611686018427387903:=by
     have e : hData 8 = true:=by simp [hData]
     dsimp only at hO
     rw [e] at hO
     simp [dataB] at hO
     omega
    have y1 : w2.drew.cell? ⟨w.heap.size,1,none⟩ = some (.int .i64 (i : Int)):=qcb A2.out 1
    have y0d : w2.drew.cell? ⟨w.heap.size,0,none⟩ = some (.int .i64 8):=y0
    have y2 : w2.drew.cell? ⟨w.heap.size,2,none⟩ = some (.int .i64 fo):=qcb A2.out 2
    have y3 : w2.drew.cell? ⟨w.heap.size,3,none⟩ = some (.int .i64 fn):=qcb A2.out 3
    have y4 : w2.drew.cell? ⟨w.heap.size,4,none⟩ = some (.int .i64 fcd):=qcb A2.out 4
    have y5 : w2.drew.cell? ⟨w.heap.size,5,none⟩ = some (.bool ffin):=qcb A2.out 5
    have y6 : w2.drew.cell? ⟨w.heap.size,6,none⟩ = some (.slice da fd.length dc):=qcb A2.out 6
    have y7 : w2.drew.cell? ⟨w.heap.size,7,none⟩ = some (.slice sa fsp.length sc):=qcb A2.out 7
    have BD : Hid (Below w2.heap.size w2 w2.drew):=qbd (qbr _ _) 1
    have ED:=qhi (E2.out.below BD.out)
    have he:=E2.out.cell.ce
    have TK:=rtake_any (c:=c) (k:=K + 11 + i) (e:=e) (o:=7 + 8 * i) (ED.out.rd i hi4) (ED.out.rok i hi4).ok (by omega) 8 (i : Int) fo fn fcd ffin da fd dc (.slice sa fsp.length sc) rfl (D2.out.below BD.out) (fun _ j hj hk => HDC.out j hj (by unfold EndC;omega)) ⟨ho,hlen⟩
    rw [show 7 + 8 * i = 3 + i * 8 + 4 from by omega] at TK
    have HTK:=qhi TK
    have RK:=qhi (rok_data (ED.out.rok i hi4) (o:=fo.toNat) (d:=fd) (fin:=ffin) hsay).1
    have HO:=qhi ho
    clear TK hsay hO
    go_upto_region 9 with fail
    go_region_law (first | (go_simp;go_at_call 84;refine HTK.out.mono ?_;rintro x w3 ⟨rfl,hd⟩;have HT:=qhi hd;clear hd))
    all_goals go_wp2_with fail
    all_goals go_end0
    all_goals
     have hT:=HT.out
     rw [show 3 + i * 8 + 4 = 7 + 8 * i from by omega] at hT
     have hr:=RK.out
     rw [Int.toNat_of_nonneg HO.out] at hr
     obtain ⟨tp,hE,hS⟩:=ED.out.take hi4 hT hr
     refine ⟨rfl,_,hE,⟨by rw [U2.out],fun j hj => by rw [U2.out];exact WSub.refl _,fun j hj => ?_⟩,(S2.out.trans (Stp.of_below BD.out)).trans hS⟩
     by_cases hji : j = i
     ·subst hji
      rw [if_pos ⟨rfl,rfl⟩]
      show (upd q1.rs j _ j).st = _
      rw [upd_at,U2.out]
     ·rw [if_neg (by rintro ⟨_,y⟩;dsimp only at y;omega)]
      show (upd q1.rs i _ j).st = _
      rw [upd_ne _ _ hji,U2.out]
   ·have e8 : (fk == 8) = false:=by simp [k8]
    go_wp2_with fail
    go_end0
    exact ⟨rfl,q1,E2.out,RE.out _ (EHe.refl _) k8,S2.out⟩
end
end Go.Proofs.YtmcomdmcmnbhlaaGreatDoor
namespace Go.Proofs.YtmcomdmcmnbhlaaGreatDoor
open Go.RowKit Go.Maps
theorem OwnF.stp {c c' : Col} {P : Nat → Prop} {w w' : World} {B : Nat} {v : Value} {fs : List Fr} (h : OwnF w B v fs) (s : Stp c c' P w w') (hp : ∀ j,B ≤ j → j < w.heap.size → ¬ P (c j)) : OwnF w' B v fs:=by
 obtain ⟨l,h1,h2,h3⟩:=h
 refine ⟨l,h1,ownsRow_block h2 fun j hj => ?_,fun g hg => ⟨ownsRow_block (h3 g hg).1 fun j hj => ?_,ownsRow_block (h3 g hg).2 fun j hj => ?_⟩⟩
 ·have:=World.ownsRow.lt h2 j hj;exact s.block j this.2 (hp j this.1 this.2)
 ·have:=World.ownsRow.lt (h3 g hg).1 j hj;exact s.block j this.2 (hp j this.1 this.2)
 ·have:=World.ownsRow.lt (h3 g hg).2 j hj;exact s.block j this.2 (hp j this.1 this.2)
theorem cell_over {w w' : World} {b i : Nat} (h : w'.heap[b]? = w.heap[b]?) : w'.cell? ⟨b,i,none⟩ = w.cell? ⟨b,i,none⟩:=by
 unfold World.cell?
 rw [h]
theorem OwnF.over {w : World} {B b o n c : Nat} {fs : List Fr} (h : OwnF w B (.slice (some ⟨b,o,none⟩) n c) fs) (k : Nat) (hk : k < fs.length) :
  ∃ (f : Fr) (da sa : Option Addr) (dc sc : Nat),fs[k]? = some f ∧ (∀ j,(Value.slice da f.data.length dc).ownBlock = some j → B ≤ j ∧ j < w.heap.size) ∧ (∀ j,(Value.slice sa f.spans.length sc).ownBlock = some j → B ≤ j ∧ j < w.heap.size) ∧
   ∀ (c c' : Col) (P : Nat → Prop) (W : World),Stp c c' P w W → (∀ j,B ≤ j → j < w.heap.size → ¬ P (c j)) →
   (W.cell? ⟨b,o + k * 8,none⟩ = some (.int .i64 f.kind) ∧ W.cell? ⟨b,o + k * 8 + 1,none⟩ = some (.int .i64 f.stream) ∧ W.cell? ⟨b,o + k * 8 + 2,none⟩ = some (.int .i64 f.offset) ∧ W.cell? ⟨b,o + k * 8 + 3,none⟩ = some (.int .i64 f.n) ∧
    W.cell? ⟨b,o + k * 8 + 4,none⟩ = some (.int .i64 f.code) ∧ W.cell? ⟨b,o + k * 8 + 5,none⟩ = some (.bool f.fin) ∧ W.cell? ⟨b,o + k * 8 + 6,none⟩ = some (.slice da f.data.length dc) ∧ W.cell? ⟨b,o + k * 8 + 7,none⟩ = some (.slice sa f.spans.length sc)) ∧
   Rd .u8 W (.slice da f.data.length dc) f.data ∧ RdS W (.slice sa f.spans.length sc) f.spans:=by
 obtain ⟨l,rfl,h1,h3⟩:=h
 rw [List.length_map] at hk
 have h2:=RdC.of_owns h1
 have hb:=World.ownsRow.lt h1 b rfl
 have hn : n = l.length:=by obtain ⟨_,_,e,_⟩:=RdC.isSlice h2;simp only [Value.slice.injEq] at e;exact e.2.1
 subst hn
 obtain ⟨hd,hs⟩:=h3 l[k] (List.getElem_mem hk)
 obtain ⟨da,dc,e1⟩:=hd.rd.isSlice
 obtain ⟨sa,sc,e2,_,_⟩:=RdC.isSlice hs.rd
 have cell : ∀ j u,j < 8 → (frCell l[k])[j]? = some u → w.cell? ⟨b,o + k * 8 + j,none⟩ = some u:=fun j u hj hu =>
  RdC.cell h2 (k * 8 + j) u ((frC_get l k j hk hj).trans hu) _ (by omega)
 refine ⟨l[k].f,da,sa,dc,sc,by simp [hk],?_,?_,fun c c' P W s hp => ?_⟩
 ·rw [← e1];exact fun j hj => ⟨hd.blk j hj,hd.blt j hj⟩
 ·rw [← e2];exact fun j hj => ⟨hs.blk j hj,hs.blt j hj⟩
 have hbl : W.heap[b]? = w.heap[b]?:=s.block b hb.2 (hp b hb.1 hb.2)
 have C : ∀ j u,j < 8 → (frCell l[k])[j]? = some u → W.cell? ⟨b,o + k * 8 + j,none⟩ = some u:=fun j u hj hu => (cell_over hbl).trans (cell j u hj hu)
 refine ⟨⟨C 0 _ (by omega) rfl,C 1 _ (by omega) rfl,C 2 _ (by omega) rfl,C 3 _ (by omega) rfl,C 4 _ (by omega) rfl,C 5 _ (by omega) rfl,?_,?_⟩,?_,?_⟩
 ·rw [← e1];exact C 6 _ (by omega) rfl
 ·rw [← e2];exact C 7 _ (by omega) rfl
 ·rw [← e1];exact hd.rd.stp s fun _ j hj => hp j (hd.blk j hj) (hd.blt j hj)
 ·rw [← e2];exact RdC.stp hs.rd s fun _ j hj => hp j (hs.blk j hj) (hs.blt j hj)
theorem enc_may {fs : List Fr} {bs : List Int} (h : encL fs = .ok bs) : fs.all mayF = true:=by
 unfold encL at h
 split at h
 ·cases h
 ·split at h
  ·assumption
  ·cases h
theorem open_goodF (key : Int) (v : Value) (n : Nat) (fs : List Fr) (L : Int) (w : World) (ht : Tab w) (hg : GramOk n fs) (hL0 : -1 ≤ L) (hL1 : L < 1048576) (hr : Rd .u8 w v (sealL key (bodyOf n fs))) :
  Calls Tryz.prog 41 #[.int .u64 key,v,.int .i64 L] w fun e w' => ∃ u,e = .returned (.tuple #[.int .i64 n,u,.int .i64 0]) ∧ OwnF w' w.heap.size u fs ∧ Below w.heap.size w w':=by
 have hB:=bodyOf_bts (n:=n) hg.bts
 have hlen:=hg.len
 have hsl : (sealL key (bodyOf n fs)).length = (bodyOf n fs).length + 8:=sealL_len _ _
 have O:=qhi (open_any key v _ w hr (sealL_bts key hB) (by rw [hsl];omega))
 have hT:=qhi ht
 have hp:=ht.pos
 have hE:=qhi (encFs_bts hg.bts)
 obtain ⟨va,vc,rfl⟩:=hr.isSlice
 obtain ⟨S,hS⟩ : ∃ S,S = (sealL key (bodyOf n fs)).length:=⟨_,rfl⟩
 have dS : decide ((S : Int) > 1200) = false:=qdf (by omega)
 have hf0 : 0 < fs.length:=List.length_pos_iff.2 hg.some
 have hD:=qhi (dec_enc hg.enc)
 rw [← hS] at O ⊢
 have HS:=qhi hS
 clear hr hsl ht hS
 go_enter Tryz.func41,Tryz.ntmps41
 go_wp2_with fail
 refine O.out.mono ?_
 rintro e w1 ⟨u,ys,c,rfl,o1,b1,hd⟩
 rcases hd with ⟨h,rfl⟩ | ⟨h,_,_⟩
 ·rw [open_seal] at h
  cases h
  have z1:=b1.size
  go_wp2_with fail
  refine (openNumber_good u n (encFs fs) L w1 hg.num hL0 hL1 o1.rd).mono ?_
  rintro e w2 ⟨u2,rfl,r2,b2⟩
  have B2 : Below w.heap.size w w2:=b1.trans (b2.mono z1)
  have z2:=B2.size
  go_wp2_with fail
  refine (decode_any u2 (encFs fs) w2 (hT.out.below B2 hp) r2 hE.out).mono ?_
  intro e w3 hd3
  obtain ⟨b3,hd3⟩:=hd3
  rw [hD.out] at hd3
  obtain ⟨u3,rfl,o3⟩:=hd3
  have B3 : Below w.heap.size w w3:=B2.trans (b3.mono z2)
  obtain ⟨a3,c3,rfl⟩:=o3.len
  have e0 : ((fs.length : Int) == 0) = false:=by simpa using (by omega : ¬ fs.length = 0)
  have O3:=qhi (o3.mono (B':=w.heap.size) z2)
  have z3:=B3.size
  clear o3 b3 r2 b2 b1 o1
  go_wp2_with fail
  refine bodyPost_ret (v:=.tuple #[.int .i64 n,.slice a3 fs.length c3,.int .i64 0]) (by simp [results,Tryz.results41,go_sem]) rfl ⟨_,rfl,O3.out.below ((qbr _ _).alloc (qlr _) _),B3.alloc z3 _⟩
 ·rw [open_seal] at h;cases h
theorem EOk.beyond {c c' : Col} {K e : Nat} {X : Nat → List Int} {F : Nat → Bool} {Y : Nat → List Int} {G : Nat → Bool} {q : EQ} {w : World} (h : EOk c K e X F Y G q w) (hc : ∀ j,j < w.heap.size → c' j = c j) : EOk c' K e X F Y G q w :=
 h.stp (P:=fun _ => False) ⟨rfl,rfl,rfl,qlr _,hc,fun _ _ _ => rfl⟩ (fun _ _ _ h => h)
def heardL (i : Nat) (st : St9) (fs : List Fr) : St9:=fs.foldl (fun st f => if f.kind = 8 ∧ f.stream = (i : Int) then (dataE st f.offset f.data f.fin).1 else st) st
structure EHs (q : EQ) (fs : List Fr) (q' : EQ) : Prop where
 same : q' = { q with wv:=q'.wv,ws:=q'.ws,rs:=q'.rs,fl:=q'.fl,asked:=q'.asked }
 ws : ∀ i,i < 4 → WSub (q.ws i) (q'.ws i)
 rs : ∀ i,i < 4 → (q'.rs i).st = heardL i (q.rs i).st fs
theorem EHs.nil (q : EQ) : EHs q [] q:=⟨rfl,fun _ _ => WSub.refl _,fun _ _ => rfl⟩
theorem EHs.snoc {q q1 q2 : EQ} {fs : List Fr} {f : Fr} (h : EHs q fs q1) (k : EHr q1 f q2) : EHs q (fs ++ [f]) q2 :=
 ⟨by rw [k.same,h.same],fun i hi => (h.ws i hi).trans (k.ws i hi),fun i hi => by
  rw [k.rs i hi,h.rs i hi];unfold heardL;rw [List.foldl_append];rfl⟩
end Go.Proofs.YtmcomdmcmnbhlaaGreatDoor
