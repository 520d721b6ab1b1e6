import Derived.Test.YtmcomdmcmnbhlaaGreatDoorKCns2
import Derived.StillTailTactics
import Derived.Test.YtmcomdmcmnbhlaaGreatDoorKCn5
set_option maxRecDepth 100000
set_option maxHeartbeats 25600000
set_option linter.unusedSimpArgs false
set_option linter.unusedVariables false
set_option linter.unnecessarySimpa false
namespace Go.Proofs.YtmcomdmcmnbhlaaGreatDoor
open Go.RowKit Go.Maps
theorem last_same {v : Value} {ss : List (Int × Int)} {n : Nat} {w : World} (hr : RdS w v ss) (hm : ss.length < 4611686018427387903) (hn : n < 4611686018427387903) :
  ∃ v',RdS w v' (ss.drop (ss.length - n)) ∧ ∀ W,Calls Tryz.prog 65 #[v,.int .i64 n] W fun e w' => e = .returned v' ∧ w' = W:=by
 obtain ⟨a,c,rfl,hc1,hc2⟩:=hr.isSlice
 have mx : (max 0 ((ss.length : Int) - (n : Int))).toNat = ss.length - n:=by omega
 by_cases hln : n < ss.length
 ·have HP : (∀ (m cc : Nat) (ao : Option Addr),m = ss.length - (ss.length - n) → cc = c - (ss.length - n) → (¬ c = ss.length - n → ao = a.map (fun x => x.add ((ss.length - n) * 2))) → RdS w (.slice ao m cc) (ss.drop (ss.length - n))) :=
   fun m cc ao e1 e2 h => by
    have h1:=hr.part (show ss.length - n ≤ ss.length by omega) (qlr _) ao h
    rw [List.take_of_length_le (by simp)] at h1
    rw [e1,e2]
    exact h1
  by_cases hcc : c = ss.length - n
  ·refine ⟨_,HP _ 0 a rfl (by omega) (fun x => absurd hcc x),fun W => ?_⟩
   clear HP hr
   go_enter Tryz.func65,Tryz.ntmps65
   go_wp2
   all_goals go_ret
   all_goals exact ⟨by simp [mx],rfl⟩
  ·refine ⟨_,HP _ _ _ rfl rfl (fun _ => rfl),fun W => ?_⟩
   clear HP hr
   go_enter Tryz.func65,Tryz.ntmps65
   go_wp2
   all_goals go_ret
   all_goals exact ⟨by simp [mx],rfl⟩
 ·have e : ss.length - n = 0:=by omega
  refine ⟨_,by rw [e];exact hr,fun W => ?_⟩
  rw [e] at mx
  clear hr e
  go_enter Tryz.func65,Tryz.ntmps65
  go_wp2
  all_goals go_ret
  all_goals exact ⟨by simp [mx],rfl⟩
def ackFr (d : Int) (ss : List (Int × Int)) : Fr:=⟨2,0,0,d,0,false,[],ss⟩
theorem ackFr_may {d : Int} {ss : List (Int × Int)} (hd : 0 ≤ d ∧ d ≤ 1099511627776) (hr : riseB 0 ss = true) (h1 : 1 ≤ ss.length) (h2 : ss.length ≤ 32) : mayF (ackFr d ss) = true:=by
 have e1 : risesB 0 ss = true:=(rises_eq ss 0).trans hr
 have e2 : numB d true = true:=by show decide _ = true;exact qdt (by omega)
 have e3 : spansB ss true = true:=by show (decide _ && _) = true;rw [e1,Bool.and_true];exact qdt ⟨h1,h2⟩
 show (_ && numB 0 _ && numB 0 _ && numB 0 _ && numB d true && spansB ss true && _ && _) = true
 rw [e2,e3]
 rfl
theorem ackFr_len (d : Int) {ss : List (Int × Int)} (h2 : ss.length ≤ 32) : (encF (ackFr d ss)).length ≤ 1200:=by
 rw [encF_2 rfl]
 have h:=spanBytes_le ss
 have a:=E_le (typeI (ackFr d ss))
 have b:=E_le (lastTo (ackFr d ss).spans)
 have c:=E_le (ackFr d ss).n
 have e : (ackFr d ss).spans = ss:=rfl
 rw [e] at b ⊢
 simp only [List.length_append]
 omega
theorem Gin.drew {X : Nat → List Int} {F : Nat → Bool} {B g n : Nat} {fs : List Fr} {room : Int} {ps : List Pt} {w : World} (h : Gin X F B g n fs room ps w) : Gin X F B g n fs room ps w.drew :=
 ⟨h.gm.drew,h.may,h.many,h.sum,h.low,h.bts,h.says,h.parts,h.few,h.num,h.len⟩
theorem EOk.over2 {c : Col} {K e B Z : Nat} {X : Nat → List Int} {F : Nat → Bool} {Y : Nat → List Int} {G : Nat → Bool} {q : EQ} {w w' : World} (h : EOk c K e X F Y G q w) (hb : Below B w w') (hc : ∀ j,B ≤ j → c j = Z) (hz : ¬ EndC K Z) : EOk c K e X F Y G q w' ∧ Stp c c (fun i => i = Z) w w':=by
 have s : Stp c c (fun i => i = Z) w w':=⟨hb.os,hb.tape,hb.output,hb.size,fun _ _ => rfl,fun i hi hn => hb.block i (by
  rcases Nat.lt_or_ge i B with h1 | h1
  ·exact h1
  ·exact absurd (hc i h1) hn)⟩
 exact ⟨h.stp s (fun i h1 h2 h3 => hz (h3 ▸ ⟨h1,h2⟩)),s⟩
def Tells (c : Col) (K Z e B g n : Nat) (X : Nat → List Int) (F : Nat → Bool) (Y : Nat → List Int) (G : Nat → Bool) (fs : List Fr) (q : EQ) (w w' : World) (room : Int) (P : Prop) : Prop :=
 ∃ fs' room' ps',Gin X F B g n fs' room' ps' w' ∧ EOk c K e X F Y G q w' ∧ Stp c c (fun i => Wrs K i ∨ i = Z) w w' ∧ fs.length ≤ fs'.length ∧ (P → fs' = fs ∧ room' = room)
theorem etellAck {c : Col} {K e B g n : Nat} {X : Nat → List Int} {F : Nat → Bool} {Y : Nat → List Int} {G : Nat → Bool} {fs : List Fr} {room : Int} {ps : List Pt} {q : EQ} {w : World} (ht : Tab w) (h : EOk c K e X F Y G q w) (hg : Gin X F B g n fs room ps w)
  {Z : Nat} (hc : ∀ j,B ≤ j → c j = Z) (hz : ¬ EndC K Z) (ha : q.asked = true → q.came ≠ []) :
  Calls Tryz.prog 33 #[.pointer (some ⟨e,0,none⟩),.pointer (some ⟨g,0,none⟩)] w fun r w' => r = .returned (.tuple #[]) ∧ Tells c K Z e B g n X F Y G fs { q with asked:=false } w w' room (q.asked = false):=by
 have H:=qhi h
 have HG:=qhi hg
 have HC:=qhi hc
 have HZ:=qhi hz
 have c53:=h.cell.c53.1
 cases hq : q.asked with
 | false =>
   rw [hq] at c53
   obtain ⟨_,f53⟩:=h.cell.c53
   obtain ⟨h3,s3,r3⟩:=h.setAsked false
   have H3:=qhi h3
   have S3:=qhi s3
   have G3:=qhi (hg.stp s3 (fun j hj _ hk => hz (by rw [← hc j hj];exact ⟨by omega,by omega⟩)))
   clear h hg hc hz h3 s3 r3 ha hq
   go_enter Tryz.func33,Tryz.ntmps33
   go_wp2_with fail
   go_end0
   exact ⟨rfl,_,_,_,G3.out,H3.out,S3.out.mono (fun i hi => .inl (by unfold Wrs;omega)),qlr _,fun _ => ⟨rfl,rfl⟩⟩
 | true =>
   rw [hq] at c53
   have hrise:=h.num.rise
   have hfew:=h.num.few
   have htime:=h.num.time
   have hcam:=h.num.cameAt
   have hne:=ha hq
   obtain ⟨v',hv',hlast⟩:=last_same (n:=32) h.cell.row.reads (by omega) (by omega)
   have hl1 : 1 ≤ (q.came.drop (q.came.length - 32)).length:=by
    rw [List.length_drop]
    have:=List.length_pos_iff.2 hne
    omega
   have hl2 : (q.came.drop (q.came.length - 32)).length ≤ 32:=by rw [List.length_drop];omega
   have hr2:=rise_drop (q.came.length - 32) hrise (Int.le_refl 0)
   obtain ⟨ss,hss⟩ : ∃ ss,ss = q.came.drop (q.came.length - 32):=⟨_,rfl⟩
   rw [← hss] at hv' hl1 hl2 hr2
   obtain ⟨va,vc,rfl,_,_⟩:=hv'.isSlice
   obtain ⟨d,hd⟩ : ∃ d,d = q.time - q.cameAt:=⟨_,rfl⟩
   have hsub : IntKind.i64.wrap (q.time - q.cameAt) = d:=by rw [IntKind.wrap_i64];omega
   have HS:=qhi hsub
   have hdl:=qbd (qbr w.heap.size w) 1
   have HA : Hid (Calls Tryz.prog 64 #[.pointer (some ⟨g,0,none⟩),.agg #[.int .i64 2,.int .i64 0,.int .i64 0,.int .i64 d,.int .i64 0,.bool false,.slice none 0 0,.slice va ss.length vc],.slice none 0 0] w.drew fun r w' =>
     ∃ b,r = .returned (.bool b) ∧ Below B w.drew w' ∧ ∃ fs' room' ps',Gin X F B g n fs' room' ps' w' ∧ fs.length ≤ fs'.length):=by
    refine (Gin.add (w:=w.drew) (ht.block rfl) hg.drew (ackFr d ss) (.slice none 0 0) (.slice va ss.length vc) (.slice none 0 0) [] ⟨Rd.nil _ _,(show RdS w.drew (.slice va ss.length vc) ss from hv')⟩ (ackFr_may (by omega) hr2 hl1 hl2) (ackFr_len d hl2) (by intro x hx;cases hx) (fun hk => by cases hk) (World.ownsRow_nil _ _ _ _) (by simp) (by simp)).mono ?_
    rintro r w' ⟨b,⟨h1,h2⟩ | ⟨h1,h2⟩⟩
    ·exact ⟨_,h1,b,_,_,_,h2,by simp⟩
    ·exact ⟨_,h1,b,_,_,_,h2,qlr _⟩
   have HL:=qhi hlast
   have c2d : w.drew.cell? ⟨e,2,none⟩ = some (.int .i64 q.time):=h.cell.c2.1
   have c51d : w.drew.cell? ⟨e,51,none⟩ = some q.cv:=h.cell.c51.1
   have c52d : w.drew.cell? ⟨e,52,none⟩ = some (.int .i64 q.cameAt):=h.cell.c52.1
   clear h hg hc hz ha hq hv' hlast hsub hrise hfew hne hl1 hl2 hr2 hss
   go_enter Tryz.func33,Tryz.ntmps33
   go_upto_region 1 with fail
   have hsub:=HS.out
   clear hd hdl htime hcam ht
   go_still_tail 16,(by kernel_rfl)
   repeat still_step
   still_call (HL.out _)
   repeat still_step
   change wpList _ _ _ _ _ w.drew
   go_upto_region 2 with (go_at_call 64;refine HA.out.mono ?_;rintro r w2 ⟨b,rfl,b2,h2⟩;have B2:=qhi b2;have G2:=qhi h2;clear b2 h2)
   have H2:=qhi (H.out.over2 ((qbd (qbr B w) 1).trans B2.out) HC.out HZ.out)
   obtain ⟨fs',room',ps',g2,hle⟩:=G2.out
   obtain ⟨_,f53⟩:=H2.out.1.cell.c53
   obtain ⟨h3,s3,r3⟩:=H2.out.1.setAsked false
   have H3:=qhi h3
   have S3:=qhi s3
   have G3:=qhi (g2.stp s3 (fun j hj _ hk => HZ.out (by rw [← HC.out j hj];exact ⟨by omega,by omega⟩)))
   clear G2 g2 h3 s3 r3
   go_wp2_with fail
   go_end0
   exact ⟨rfl,_,_,_,G3.out,H3.out,(H2.out.2.mono (fun i hi => .inr hi)).trans (S3.out.mono (fun i hi => .inl (by unfold Wrs;omega))),hle,fun h => by cases h⟩
theorem EOk.setTold {c : Col} {K e i : Nat} {X : Nat → List Int} {F : Nat → Bool} {Y : Nat → List Int} {G : Nat → Bool} {q : EQ} {w : World} (h : EOk c K e X F Y G q w) (hi : i < 4) (t : Int) :
  EOk c K e X F Y G { q with rs:=upd q.rs i ⟨(q.rs i).b,(q.rs i).r,(q.rs i).m,(q.rs i).st,(q.rs i).top,(q.rs i).sure,t⟩ } (w.setCell ⟨e,7 + 8 * i + 3,none⟩ (.int .i64 t)) ∧ Stp c c (fun j => j = K) w (w.setCell ⟨e,7 + 8 * i + 3,none⟩ (.int .i64 t)) ∧ Rgn e 3 35 w (w.setCell ⟨e,7 + 8 * i + 3,none⟩ (.int .i64 t)):=by
 have hc:=h.cell.ce
 have s : Stp c c (fun j => j = K) w (w.setCell ⟨e,7 + 8 * i + 3,none⟩ (.int .i64 t)):=Stp.set _ _ hc
 have r : Rgn e (7 + 8 * i + 3) (7 + 8 * i + 3 + 1) w (w.setCell ⟨e,7 + 8 * i + 3,none⟩ (.int .i64 t)):=Rgn.set ⟨by omega,by omega⟩
 refine ⟨⟨?_,?_,fun j hj => (h.wr j hj).frame s r (by omega) (by omega),?_,h.wok,?_,h.fly.frame s r (by omega) (by omega)⟩,s,r.mono (by omega) (by omega)⟩
 ·obtain ⟨a0,a1,a2,a3,a4,a5,a6,a7,a8,a9,a10⟩:=h.cell.frame s r (by omega) (.inl (by omega))
  exact ⟨a0,a1,a2,a3,a4,a5,a6,a7,a8,a9,a10⟩
 ·obtain ⟨a0,a1,a2,a3,a4,a5,a6,a7,a8⟩:=h.num
  exact ⟨a0,a1,a2,a3,a4,a5,a6,a7,a8⟩
 ·intro j hj
  by_cases hji : j = i
  ·subst hji
   show Rr _ _ _ _ (upd q.rs j _ j) _
   rw [upd_at]
   obtain ⟨d0,d1,d2,d3⟩:=(h.rd j hj).cells
   obtain ⟨k1,k2,k3⟩:=(h.rd j hj).col
   exact ⟨⟨d0.rgn r (by omega),d1.rgn r (by omega),d2.rgn r (by omega),d3.set _ rfl⟩,(h.rd j hj).str.stp s (by rw [k1];omega) (by rw [k2];omega) (by rw [k3];omega),k1,k2,k3⟩
  ·show Rr _ _ _ _ (upd q.rs i _ j) _
   rw [upd_ne _ _ hji]
   exact (h.rd j hj).frame s r (by omega) (by omega)
 ·intro j hj
  by_cases hji : j = i
  ·subst hji
   show ROk _ _ (upd q.rs j _ j).st
   rw [upd_at];exact h.rok j hj
  ·show ROk _ _ (upd q.rs i _ j).st
   rw [upd_ne _ _ hji];exact h.rok j hj
theorem ESub.setTold (q : EQ) (i : Nat) (t : Int) : ESub q { q with rs:=upd q.rs i ⟨(q.rs i).b,(q.rs i).r,(q.rs i).m,(q.rs i).st,(q.rs i).top,(q.rs i).sure,t⟩ }:=by
 refine ⟨rfl,fun _ _ => WSub.refl _,fun j hj => ?_⟩
 by_cases hji : j = i
 ·subst hji
  show (upd q.rs j _ j).st = _
  rw [upd_at]
 ·show (upd q.rs i _ j).st = _
  rw [upd_ne _ _ hji]
def limFr (i : Nat) (n : Int) : Fr:=⟨17,i,0,n,0,false,[],[]⟩
theorem limFr_may {i : Nat} {n : Int} (hi : i < 4) (hn : 0 ≤ n ∧ n ≤ 4611686018427387903) : mayF (limFr i n) = true:=by
 have e1 : numB (i : Int) true = true:=by show decide _ = true;exact qdt (by omega)
 have e2 : numB n true = true:=by show decide _ = true;exact qdt (by omega)
 show (_ && numB (i : Int) true && numB 0 _ && numB 0 _ && numB n true && _ && _ && _) = true
 rw [e1,e2]
 rfl
theorem limFr_len (i : Nat) (n : Int) : (encF (limFr i n)).length ≤ 1200:=by
 rw [encF_17 rfl]
 have a:=E_le (typeI (limFr i n))
 have b:=E_le (limFr i n).stream
 have c:=E_le (limFr i n).n
 simp only [List.length_append]
 omega
theorem Gin.below {X : Nat → List Int} {F : Nat → Bool} {B g n : Nat} {fs : List Fr} {room : Int} {ps : List Pt} {w w' : World} (h : Gin X F B g n fs room ps w) (hb : Below w.heap.size w w') : Gin X F B g n fs room ps w' :=
 ⟨h.gm.below hb,h.may,h.many,h.sum,h.low,h.bts,h.says,h.parts,h.few,h.num,h.len⟩
theorem Gin.drewN {X : Nat → List Int} {F : Nat → Bool} {B g n : Nat} {fs : List Fr} {room : Int} {ps : List Pt} {w : World} (h : Gin X F B g n fs room ps w) (N : Nat) : Gin X F B g n fs room ps (w.drewN N):=h.below (qbd (qbr _ _) N)
def TellS (c : Col) (K Z e B g n : Nat) (X : Nat → List Int) (F : Nat → Bool) (Y : Nat → List Int) (G : Nat → Bool) (fs : List Fr) (q : EQ) (w w' : World) (J : EQ → List Fr → Int → Prop) : Prop :=
 ∃ q' fs' room' ps',Gin X F B g n fs' room' ps' w' ∧ EOk c K e X F Y G q' w' ∧ ESub q q' ∧ Stp c c (fun i => Wrs K i ∨ i = Z) w w' ∧ fs.length ≤ fs'.length ∧ J q' fs' room'
def LimJ (q : EQ) (fs : List Fr) (room : Int) : EQ → List Fr → Int → Prop:=fun q' fs' room' => (∀ i,i < 4 → dueR (q.rs i) = false) → q' = q ∧ fs' = fs ∧ room' = room
theorem etellLimits {c : Col} {K e B g n : Nat} {X : Nat → List Int} {F : Nat → Bool} {Y : Nat → List Int} {G : Nat → Bool} {fs : List Fr} {room : Int} {ps : List Pt} {q : EQ} {w : World} (ht : Tab w) (h : EOk c K e X F Y G q w) (hg : Gin X F B g n fs room ps w)
  {Z : Nat} (hc : ∀ j,B ≤ j → c j = Z) (hz : ¬ EndC K Z) (hw : c 0 ≠ Z ∧ ¬ EndC K (c 0)) (hY : ∀ i,i < 4 → ((Y i).length : Int) ≤ 4398046511104) :
  Calls Tryz.prog 36 #[.pointer (some ⟨e,0,none⟩),.pointer (some ⟨g,0,none⟩)] w fun r w' => r = .returned (.tuple #[]) ∧ TellS c K Z e B g n X F Y G fs q w w' (LimJ q fs room):=by
 have H:=qhi h
 have HG:=qhi hg
 have HC:=qhi hc
 have HZ:=qhi hz
 have HW:=qhi hw
 have HT:=qhi ht
 have HY:=qhi hY
 clear h hg hc hz hw ht hY
 go_enter Tryz.func36,Tryz.ntmps36
 go_wp2_with fail
 go_loopw [7] (fun s wr => ∃ (k : Nat),s = .int .i64 (k : Int) ∧ k ≤ 4 ∧ TellS c K Z e B g n X F Y G fs q w wr (LimJ q fs room)) (fun s _ => 4 - (intOf s).toNat)
 case atStart => exact ⟨0,rfl,by omega,q,fs,room,ps,HG.out,H.out,ESub.refl _,Stp.refl _ _ _,qlr _,fun _ => ⟨rfl,rfl,rfl⟩⟩
 case round =>
  obtain ⟨k,rfl,hk,q1,fs1,room1,ps1,g1,e1,s1,t1,l1,j1⟩:=hrel
  have J1:=qhi j1
  have T1 : Hid (Tab wr):=HT.out.block (t1.block _ HT.out.pos (by have h1:=HW.out.1;have h2:=HW.out.2;unfold EndC at h2;unfold Wrs;omega))
  have G1:=qhi g1
  have E1:=qhi e1
  have S1:=qhi s1
  have ST1:=qhi t1
  have L1:=qhi l1
  clear g1 e1 s1 t1 l1 j1
  by_cases hlt : k < 4
  ·have k4 : (k : Int) < 4:=by omega
   have hro:=E1.out.rok k hlt
   have hp:=hro.left
   have hrw:=hro.row
   have hyl:=HY.out k hlt
   have hbig : (q1.rs k).st.p + (q1.rs k).st.row.length ≤ 4611686018427387903:=by omega
   have DU:=due_any (E1.out.rd k hlt).cells (E1.out.rd k hlt).str (by omega)
   have LM:=qhi (fun N => limit_any (wr.drewN N) ((E1.out.rd k hlt).str.dn N) (by omega))
   obtain ⟨L,hL⟩ : ∃ L,L = (q1.rs k).st.p + (q1.rs k).st.row.length:=⟨_,rfl⟩
   rw [← hL] at LM hbig
   rw [show 7 + 8 * k = 3 + k * 8 + 4 from by omega] at DU
   obtain ⟨d,hd⟩ : ∃ d,d = dueR (q1.rs k):=⟨_,rfl⟩
   rw [← hd] at DU
   have HD:=qhi hd
   have DD:=qhi DU
   have c0:=(E1.out.rd k hlt).cells.c0.1
   rw [show 7 + 8 * k = 3 + k * 8 + 4 from by omega] at c0
   have C0 : Hid (∀ N,(wr.drewN N).cell? ⟨e,3 + k * 8 + 4,none⟩ = some (.pointer (some ⟨(q1.rs k).b,0,none⟩))):=fun N => c0
   have HK:=qhi hlt
   clear hro hp hrw hyl DU hd c0 hlt hL
   cases d
   ·go_wp2_with (go_at_call 68;refine DD.out.mono ?_;rintro x w2 ⟨rfl,N,hw⟩)
    subst hw
    have hb:=qbd (qbr B wr) N
    have e2:=E1.out.over2 hb HC.out HZ.out
    exact ⟨⟨k + 1,by simp,by have:=HK.out;omega,q1,fs1,room1,ps1,G1.out.drewN N,e2.1,S1.out,ST1.out.trans (e2.2.mono fun _ => .inr),L1.out,J1.out⟩,by have:=HK.out;simp [intOf];omega⟩
   ·have JX : Hid (∀ a b d,LimJ q fs room a b d):=fun a b d h => by
     obtain ⟨r1,_,_⟩:=J1.out h
     have h2:=h k HK.out
     rw [← r1,← HD.out] at h2
     cases h2
    go_upto_region 5 with (go_at_call 68;refine DD.out.mono ?_;rintro x w2 ⟨rfl,N,hw⟩)
    subst hw
    have c0:=C0.out N
    have LMN:=qhi (LM.out N)
    go_upto_region 6 with (go_at_call 69;refine LMN.out.mono ?_;rintro x w3 ⟨rfl,M,hw⟩;have HQ:=qhi hw;clear hw)
    have hb : Below B wr w3:=by rw [HQ.out];exact qbd (qbd (qbr B wr) N) M
    have e2:=E1.out.over2 hb HC.out HZ.out
    have E2:=qhi e2.1
    have ST2:=qhi (ST1.out.trans (e2.2.mono fun _ => .inr))
    have G2 : Hid (Gin X F B g n fs1 room1 ps1 w3):=by rw [HQ.out];exact (G1.out.drewN N).drewN M
    have T2 : Hid (Tab w3):=by rw [HQ.out];exact T1.out.block rfl
    clear c0 C0 LM LMN DD hb e2 E1 G1 T1 ST1 HQ
    obtain ⟨W,hW⟩ : ∃ W,W = w3:=⟨_,rfl⟩
    rw [← hW] at E2 ST2 G2 T2 ⊢
    clear hW
    have HA : Hid (Calls Tryz.prog 64 #[.pointer (some ⟨g,0,none⟩),.agg #[.int .i64 17,.int .i64 (k : Int),.int .i64 0,.int .i64 (L : Int),.int .i64 0,.bool false,.slice none 0 0,.slice none 0 0],.slice (some ⟨W.heap.size,0,none⟩) 1 1] (W.alloc (.cells #[.int .i64 (k : Int),.int .i64 0,.int .i64 0,.int .i64 (L : Int)] 122)) fun r w' =>
      ∃ b,r = .returned (.bool b) ∧ Below B W w' ∧ ∃ fs' room' ps',Gin X F B g n fs' room' ps' w' ∧ fs1.length ≤ fs'.length):=by
     have hBW : B ≤ W.heap.size:=Nat.le_of_lt G2.out.gm.lt
     have hbA:=(qbr B W).alloc hBW (.cells #[.int .i64 (k : Int),.int .i64 0,.int .i64 0,.int .i64 (L : Int)] 122)
     have hQ:=(World.ownsRow_lit (base:=0) (size:=4) (e:=122) W #[.int .i64 (k : Int),.int .i64 0,.int .i64 0,.int .i64 (L : Int)] 1 (by omega) (by decide) rfl)
     refine (Gin.add (w:=W.alloc (.cells #[.int .i64 (k : Int),.int .i64 0,.int .i64 0,.int .i64 (L : Int)] 122)) (T2.out.block (Go.heap_alloc_old _ _ T2.out.pos)) (G2.out.below ((qbr _ W).alloc (qlr _) _)) (limFr k L) (.slice none 0 0) (.slice none 0 0) (.slice (some ⟨W.heap.size,0,none⟩) 1 1) [⟨k,0,0,L⟩] ⟨Rd.nil _ _,RdS.nil _⟩ (limFr_may HK.out (by omega)) (limFr_len k L) (by intro x hx;cases hx) (fun hk => by cases hk) hQ (by simp) (by intro p hp;simp at hp;subst hp;have:=HK.out;exact ⟨by show (0 : Int) ≤ k;omega,by show (k : Int) < 4;omega,Int.le_refl _⟩)).mono ?_
     rintro r w' ⟨b,⟨h1,h2⟩ | ⟨h1,h2⟩⟩
     ·exact ⟨_,h1,hbA.trans b,_,_,_,h2,by simp⟩
     ·exact ⟨_,h1,hbA.trans b,_,_,_,h2,qlr _⟩
    clear G2 T2 hbig
    go_upto_if 32 with (go_at_call 64;refine HA.out.mono ?_;rintro r w4 ⟨b,rfl,b4,h4⟩;have B4:=qhi b4;have G4:=qhi h4;clear b4 h4)
    have e4:=E2.out.over2 B4.out HC.out HZ.out
    have E4:=qhi e4.1
    have ST4:=qhi (ST2.out.trans (e4.2.mono fun _ => .inr))
    clear e4 HA
    obtain ⟨fs4,room4,ps4,g4,l4⟩:=G4.out
    have G5:=qhi g4
    have L5 : Hid (fs.length ≤ fs4.length):=Nat.le_trans L1.out l4
    clear g4 l4 G4
    cases b
    ·go_wp2_with fail
     exact ⟨⟨k + 1,by simp,by have:=HK.out;omega,q1,fs4,room4,ps4,G5.out,E4.out,S1.out,ST4.out,L5.out,JX.out _ _ _⟩,by have:=HK.out;simp [intOf];omega⟩
    ·obtain ⟨e3,f3⟩:=(E4.out.rd k HK.out).cells.c3
     rw [show 7 + 8 * k + 3 = 3 + k * 8 + 4 + 3 from by omega] at e3 f3
     obtain ⟨h5,s5,r5⟩:=E4.out.setTold HK.out (L : Int)
     rw [show 7 + 8 * k + 3 = 3 + k * 8 + 4 + 3 from by omega] at h5 s5
     have E5:=qhi h5
     have S5:=qhi s5
     have G6:=qhi (G5.out.stp s5 (fun j hj _ hk => HZ.out (by rw [← HC.out j hj];exact ⟨by omega,by omega⟩)))
     clear h5 s5 r5
     go_wp2_with fail
     exact ⟨⟨k + 1,by simp,by have:=HK.out;omega,_,fs4,room4,ps4,G6.out,E5.out,S1.out.trans (ESub.setTold q1 k (L : Int)),ST4.out.trans (S5.out.mono fun i hi => .inl (by unfold Wrs;omega)),L5.out,JX.out _ _ _⟩,by have:=HK.out;simp [intOf];omega⟩
  ·have i1 : ¬ ((k : Int) < 4):=by omega
   go_wp2_with fail
   go_end0
   exact ⟨rfl,_,_,_,_,G1.out,E1.out,S1.out,ST1.out,L1.out,J1.out⟩
theorem size_mono {n m : Int} (h : n ≤ m) (h0 : 0 ≤ n) (hm : fitsB m 8 = true) : sizeI n ≤ sizeI m:=by
 have key : ∀ a,fitsB m a = true → fitsB n a = true:=fun a ha => by
  simp only [fitsB,decide_eq_true_eq] at ha ⊢
  exact ⟨h0,Int.lt_of_le_of_lt h ha.2⟩
 unfold sizeI
 by_cases a1 : fitsB m 1 = true
 ·rw [if_pos (key 1 a1),if_pos a1];decide
 ·rw [if_neg a1]
  by_cases a2 : fitsB m 2 = true
  ·rw [if_pos a2,if_pos (key 2 a2)];split <;> decide
  ·rw [if_neg a2]
   by_cases a4 : fitsB m 4 = true
   ·rw [if_pos a4,if_pos (key 4 a4)];split <;> (try split) <;> decide
   ·rw [if_neg a4,if_pos hm,if_pos (key 8 hm)];split <;> (try split) <;> (try split) <;> decide
theorem E_size {n : Int} (h : fitsB n 8 = true) : ((E n).length : Int) = sizeI n:=by
 have:=sizeI_in h
 unfold E
 rw [enc_len _ _ this.1]
 rcases this.1 with h | h | h | h <;> rw [h] <;> decide
theorem Run.short {q : WQ} {i n N : Nat} (h : Run q i N) (hn : n ≤ N) : Run q i n:=⟨by have:=h.le;omega,fun j hj => h.next j (by omega)⟩
theorem told_room {X : List Int} {F : Bool} {q : WQ} {st room : Int} {i n : Nat} (hq : WOk X F q) (hr : Run q i n) (hn : 0 < n) (hT : Told q q.limit room st i n) (h0 : i < q.rest.length) :
  ((dataOf q.size ((q.rest.drop i).take n)).length : Int) ≤ holdI st q.rest[i].at_ room:=by
 obtain ⟨o,h1,h2,h3,h4,h5⟩:=told_true hq hn hr
 have hj : i + (n - 1) < q.rest.length:=by have:=hr.le;omega
 have hm:=hT.most (n - 1) (by omega) hj h0
 cases hf : finOf q.size ((q.rest.drop i).take n) with
 | true =>
   rw [hf] at h5
   simp only [if_true] at h5
   rcases hm with hm | ⟨hm,_⟩ <;> omega
 | false =>
   rw [hf] at h5
   simp only [Bool.false_eq_true,if_false] at h5
   rcases hm with hm | ⟨hm,he⟩
   ·omega
   ·exfalso
    have : finOf q.size ((q.rest.drop i).take n) = true:=by
     unfold finOf
     rw [List.any_eq_true]
     refine ⟨q.rest[i + (n - 1)],List.mem_iff_getElem.2 ⟨n - 1,by simp;omega,by simp⟩,by simpa using he⟩
    rw [this] at hf;cases hf
def strFr (st a : Int) (fin : Bool) (d : List Int) : Fr:=⟨8,st,a,0,0,fin,d,[]⟩
theorem strFr_may {st a : Int} {fin : Bool} {d : List Int} (hs : 0 ≤ st ∧ st < 4) (ha : 0 ≤ a ∧ a ≤ 4398046511104) (hd : d.length ≤ 1200) : mayF (strFr st a fin d) = true:=by
 have e1 : numB st true = true:=by show decide _ = true;exact qdt (by omega)
 have e2 : numB a true = true:=by show decide _ = true;exact qdt (by omega)
 have e3 : dataB d.length a true = true:=by show decide _ = true;exact qdt (by omega)
 show (_ && numB st true && numB 0 _ && numB a true && numB 0 _ && _ && dataB d.length a true && (true || !fin)) = true
 rw [e1,e2,e3]
 rfl
theorem strFr_len {st a room : Int} {fin : Bool} {d : List Int} (hs : 0 ≤ st ∧ st < 4) (ha : 0 ≤ a ∧ a ≤ 4398046511104) (hr : room ≤ 1200) (hd : (d.length : Int) ≤ holdI st a room) : ((encF (strFr st a fin d)).length : Int) ≤ room:=by
 rw [encF_8 rfl]
 have e0 : ((E (typeI (strFr st a fin d))).length : Int) = 1:=by
  cases fin
  ·show ((E 14).length : Int) = 1;decide
  ·show ((E 15).length : Int) = 1;decide
 have e1 : ((E st).length : Int) = sizeI st:=E_size (fits_of hs.1 (by omega))
 have e2 : ((E a).length : Int) = sizeI a:=E_size (fits_of ha.1 (by omega))
 have b1:=sizeI_rng st
 have b2:=sizeI_rng a
 unfold holdI at hd
 split at hd
 ·omega
 ·rename_i hl
  have b3:=sizeI_rng (room - 1 - sizeI st - sizeI a - 1)
  have f3 : fitsB (room - 1 - sizeI st - sizeI a - 1) 8 = true:=fits_of (by omega) (by omega)
  have p3 : 1 ≤ sizeI (room - 1 - sizeI st - sizeI a - 1):=by
   have:=E_len f3
   have e:=E_size f3
   omega
  have e3 : ((E (d.length : Int)).length : Int) = sizeI (d.length : Int):=E_size (fits_of (by omega) (by omega))
  have m3:=size_mono (n:=(d.length : Int)) (m:=room - 1 - sizeI st - sizeI a - 1) (by omega) (by omega) f3
  show ((E (typeI (strFr st a fin d)) ++ (E st ++ (E a ++ (E (d.length : Int) ++ d)))).length : Int) ≤ room
  simp only [List.length_append,Int.natCast_add]
  omega
theorem hold_le (s o room : Int) (hr : room ≤ 1200) : holdI s o room ≤ 1200:=by
 have b1:=sizeI_rng s
 have b2:=sizeI_rng o
 have b3:=sizeI_rng (room - 1 - sizeI s - sizeI o - 1)
 unfold holdI
 split <;> omega
theorem mark_wsub (q : WQ) (i n : Nat) : WSub q ⟨mark true q.rest i n,q.size,q.closed,q.limit⟩:=⟨rfl,rfl,by show ((mark true q.rest i n).map core).Sublist _;rw [mark_core];exact List.Sublist.refl _,Int.le_refl _,.inr rfl⟩
def twoQ : WQ:=⟨[⟨0,97,false⟩,⟨1,0,false⟩],1,true,1024⟩
def twoT : WQ:=⟨[⟨0,97,true⟩,⟨1,0,true⟩],1,true,1024⟩
def EXG (q : WQ) (st : Nat) (room a t : Int) (fin : Bool) (q1 : WQ) : Prop:=((∀ l ∈ q.rest,l.told = true) → a = t ∧ q1 = q) ∧ (q = twoQ → st = 0 → 100 ≤ room → a = 0 ∧ t = 2 ∧ fin = true ∧ q1 = twoT)
theorem hold_two {room : Int} (h : 100 ≤ room) : 50 ≤ holdI 0 0 room:=by
 have b1:=sizeI_rng 0
 have b3:=sizeI_rng (room - 1 - sizeI 0 - sizeI 0 - 1)
 unfold holdI
 split <;> omega
theorem exg_told {q : WQ} {st : Nat} {room : Int} {i N n : Nat} (hi : i < q.rest.length) (hW : WaitR q i N) (hn : n ≤ N ∧ FullT q q.limit room st i N n) :
  EXG q st room q.rest[i].at_ (q.rest[i].at_ + n) (finOf q.size ((q.rest.drop i).take n)) ⟨mark true q.rest i n,q.size,q.closed,q.limit⟩:=by
 refine ⟨fun h => ?_,fun hq hs hr => ?_⟩
 ·have h1:=hW.wait 0 hW.pos (by omega)
  have h2:=h _ (List.getElem_mem (l:=q.rest) (n:=i + 0) (by omega))
  rw [h1] at h2;cases h2
 ·subst hq;subst hs
  have hl : (twoQ.rest).length = 2:=rfl
  have hi0 : i = 0:=by
   rcases Nat.eq_zero_or_pos i with h | h
   ·exact h
   ·have:=hW.first 0 h (by omega)
    cases this
  subst hi0
  have hN : N = 2:=by
   have h1:=hW.run.le
   have h2:=hW.pos
   have h3 : N ≤ 2:=by rw [hl] at h1;omega
   rcases Nat.lt_or_ge N 2 with h | h
   ·exfalso
    have e1 : N = 1:=by omega
    subst e1
    rcases hW.most (by rw [hl];omega) with h4 | h4
    ·cases h4
    ·exact h4 (by rw [hl];omega) rfl
   ·omega
  subst hN
  have hh:=hold_two hr
  have h2 : n = 2:=by
   rcases Nat.lt_or_ge n 2 with h | h
   ·exfalso
    have hf:=hn.2 h (by rw [hl];omega) (by rw [hl];omega)
    have e0 : (twoQ.rest[0]'(by rw [hl];omega)).at_ = 0:=rfl
    have e1 : twoQ.limit = 1024:=rfl
    rw [e0,e1] at hf
    have e2 : holdI ((0 : Nat) : Int) 0 room = holdI 0 0 room:=rfl
    rw [e2] at hf
    rcases hf with hf | ⟨hf,_⟩ <;> omega
   ·exact Nat.le_antisymm hn.1 h
  subst h2
  exact ⟨rfl,rfl,rfl,rfl⟩
def TellF (c : Col) (k e o : Nat) (X : List Int) (F : Bool) (q : WQ) (st : Nat) (room : Int) (w : World) (r : Ending) (w' : World) : Prop :=
 (r = .returned (.tuple #[noFr,ptOf ⟨0,0,0,0⟩]) ∧ (∀ i,∀ h : i < q.rest.length,q.rest[i].told = true) ∧ Below w.heap.size w w') ∨
 ∃ (a : Int) (fin : Bool) (d : List Int) (dv : Value) (t : Int) (q1 : WQ),r = .returned (.tuple #[frOf st a fin dv,ptOf ⟨st,a,t,0⟩]) ∧ Own .u8 5 w' w.heap.size dv d ∧ WDone c k e o q1 w w' ∧ WOk X F q1 ∧ WSub q q1 ∧ EXG q st room a t fin q1 ∧ a ≤ t ∧
  (a < t → mayF (strFr st a fin d) = true ∧ ((encF (strFr st a fin d)).length : Int) ≤ room ∧ Bts d ∧ 0 ≤ a ∧ Says X F a.toNat d fin)
theorem tell_done {c : Col} {k e o : Nat} {v : Value} {q : WQ} {w w' : World} {X : List Int} {F : Bool} {st : Nat} {room : Int} {g cc : Nat} {r : Ending} (h : Wr c k e o v q w) (hq : WOk X F q) (hX : (X.length : Int) ≤ 4398046511104) (hb : Bts X) (hk : c e ≠ k)
  (hst : st < 4) (hroom : room ≤ 1200) (ht : TellIs q g cc v st room w r w') : TellF c k e o X F q st room w r w':=by
 rcases ht with ⟨h1,h0,h2⟩ | ⟨i,N,n,dv,hi,hW,hn,hT,hv,h1,h2,h3,h4⟩
 ·exact .inl ⟨h1,h0,h2⟩
 ·have hg : c g = k:=h.col g (by rw [hv];rfl)
  have hge : g ≠ e:=fun x => hk (by rw [← x];exact hg)
  have hR:=hW.run.short hn.1
  have hsub:=mark_wsub q i n
  have h0:=hq.at hi
  have heb : w'.heap[e]? = w.heap[e]?:=h4.block e h.cells.c0.lt (by simp;exact fun x => hge x.symm)
  refine .inr ⟨_,_,_,dv,_,⟨mark true q.rest i n,q.size,q.closed,q.limit⟩,h1,h2,⟨v,⟨?_,h3,h.col,h.ne⟩,Stp.of_keep h4 (fun x hx _ => by simp at hx;subst hx;exact .inl hg),Rgn.of_block heb⟩,hq.sub hsub,hsub,exg_told hi hW hn,by omega,fun hlt => ?_⟩
  ·obtain ⟨a0,a1,a2,a3⟩:=h.cells.block heb
   exact ⟨by have:=a0;simpa using this,a1,a2,a3⟩
  ·have hn0 : 0 < n:=by omega
   obtain ⟨p,k1,k2,k3,k4,k5⟩:=told_true hq hn0 hR
   have kp:=k1 hi
   have hl:=told_room hq hR hn0 hT hi
   have hh:=hold_le (st : Int) q.rest[i].at_ room hroom
   refine ⟨strFr_may (by omega) (by omega) (by omega),strFr_len (by omega) (by omega) hroom hl,?_,h0.1,?_⟩
   ·rw [k2]
    intro x hx
    exact hb x (List.mem_of_mem_drop (List.mem_of_mem_take hx))
   ·rw [kp]
    exact ⟨by simpa using k3,by simpa using k2,fun hf => by simpa using k4 hf⟩
theorem EOk.wdone {c : Col} {K e i : Nat} {X : Nat → List Int} {F : Nat → Bool} {Y : Nat → List Int} {G : Nat → Bool} {q : EQ} {w w' : World} (h : EOk c K e X F Y G q w) (hi : i < 4) (q1 : WQ) (X1 : List Int) (F1 : Bool) (hd : WDone c (K + 1 + i) e (3 + 8 * i) q1 w w') (hw : WOk X1 F1 q1) :
  ∃ v',EOk c K e (upd X i X1) (upd F i F1) Y G { q with wv:=upd q.wv i v',ws:=upd q.ws i q1 } w' ∧ Stp c c (Wrs K) w w' ∧ Rgn e 3 35 w w':=by
 obtain ⟨v',hW,s,r⟩:=hd
 have hc:=h.cell.ce
 refine ⟨v',⟨?_,?_,?_,?_,?_,h.rok,h.fly.frame s r (by omega) (by omega)⟩,s.mono (fun x hx => by unfold Wrs;omega),r.mono (by omega) (by omega)⟩
 ·obtain ⟨a0,a1,a2,a3,a4,a5,a6,a7,a8,a9,a10⟩:=h.cell.frame s r (by omega) (.inl (by omega))
  exact ⟨a0,a1,a2,a3,a4,a5,a6,a7,a8,a9,a10⟩
 ·obtain ⟨a0,a1,a2,a3,a4,a5,a6,a7,a8⟩:=h.num
  exact ⟨a0,a1,a2,a3,a4,a5,a6,a7,a8⟩
 ·intro j hj
  by_cases hji : j = i
  ·subst hji
   show Wr _ _ _ _ (upd q.wv j v' j) (upd q.ws j q1 j) _
   rw [upd_at,upd_at];exact hW
  ·show Wr _ _ _ _ (upd q.wv i v' j) (upd q.ws i q1 j) _
   rw [upd_ne _ _ hji,upd_ne _ _ hji]
   exact (h.wr j hj).frame s r (by omega) (by omega)
 ·intro j hj
  exact (h.rd j hj).frame s r (by omega) (by omega)
 ·intro j hj
  by_cases hji : j = i
  ·subst hji
   show WOk (upd X j X1 j) (upd F j F1 j) (upd q.ws j q1 j)
   rw [upd_at,upd_at,upd_at];exact hw
  ·show WOk (upd X i X1 j) (upd F i F1 j) (upd q.ws i q1 j)
   rw [upd_ne _ _ hji,upd_ne _ _ hji,upd_ne _ _ hji];exact h.wok j hj
theorem write_wok {X : List Int} {F : Bool} {q : WQ} (h : WOk X F q) (b : List Int) (fin : Bool) : WOk (if (writeE q b fin).2 = 0 then X ++ b else X) (if (writeE q b fin).2 = 0 then fin else F) (writeE q b fin).1:=by
 unfold writeE
 split
 ·simpa using h
 ·rename_i hc
  split
  ·simpa using h
  ·rename_i hb
   have hF : F = false:=by rw [← h.closed];simpa using hc
   subst hF
   simpa using h.wrote b fin (by omega)
theorem ewrite {c : Col} {K e i : Nat} {X : Nat → List Int} {F : Nat → Bool} {Y : Nat → List Int} {G : Nat → Bool} {q : EQ} {w : World} (h : EOk c K e X F Y G q w) (hi : i < 4) (hX : ((X i).length : Int) ≤ 4398046511104) (hnew : ∀ j,w.heap.size ≤ j → c j = K + 1 + i)
  (bv : Value) (bs : List Int) (fin : Bool) (hr : Rd .u8 w bv bs) (hb : bs ≠ [] → ∀ j,bv.ownBlock = some j → ¬ Wrs K (c j)) :
  Calls Tryz.prog 12 #[.pointer (some ⟨e,0,none⟩),.int .i64 (i : Int),bv,.bool fin] w fun x w' => x = .returned (.int .i64 (writeE (q.ws i) bs fin).2) ∧ ∃ v',
   EOk c K e (upd X i (if (writeE (q.ws i) bs fin).2 = 0 then X i ++ bs else X i)) (upd F i (if (writeE (q.ws i) bs fin).2 = 0 then fin else F i)) Y G { q with wv:=upd q.wv i v',ws:=upd q.ws i (writeE (q.ws i) bs fin).1 } w' ∧ Stp c c (Wrs K) w w' ∧ Rgn e 3 35 w w':=by
 have M:=qhi (emade w h.fly.cells.c0.1)
 have hi4 : (i : Int) < 4:=by omega
 have I:=isStream_any (i : Int) w
 rw [show (decide ((0 : Int) ≤ (i : Int)) && decide ((i : Int) < 4)) = true from by simp;omega] at I
 have II:=qhi I
 have hce:=h.cell.ce
 have Q:=write_any (h.wr i hi) (h.wok i hi) hX (by omega) hnew bv bs fin hr (fun h0 j hj => by have:=hb h0 j hj;unfold Wrs at this;omega)
 have QQ : Hid (Calls Tryz.prog 26 #[.pointer (some ⟨e,3 + i * 8,none⟩),bv,.bool fin] w fun r w' => r = .returned (.int .i64 (writeE (q.ws i) bs fin).2) ∧ WDone c (K + 1 + i) e (3 + 8 * i) (writeE (q.ws i) bs fin).1 w w'):=by
  rw [Nat.mul_comm i 8];exact Q
 have HH:=qhi h
 have HI:=qhi hi
 obtain ⟨W,hW⟩ : ∃ W,W = writeE (q.ws i) bs fin:=⟨_,rfl⟩
 have hwo:=write_wok (h.wok i hi) bs fin
 rw [← hW] at QQ hwo ⊢
 generalize (if W.2 = 0 then X i ++ bs else X i) = X1 at hwo ⊢
 generalize (if W.2 = 0 then fin else F i) = F1 at hwo ⊢
 have HWO:=qhi hwo
 clear I Q h hi hb hnew hX hce hW hwo hr
 go_enter Tryz.func12,Tryz.ntmps12
 go_wp2_with (first
  | (go_at_call 23;refine M.out.mono ?_;rintro x w2 ⟨rfl,hw⟩;obtain rfl : w = w2:=hw.symm)
  | (go_at_call 24;refine II.out.mono ?_;rintro x w2 ⟨rfl,hw⟩;obtain rfl : w = w2:=hw.symm)
  | (go_at_call 26;refine QQ.out.mono ?_;rintro x w2 ⟨rfl,hw⟩))
 go_ret
 obtain ⟨v',hE,hS,hR⟩:=HH.out.wdone HI.out _ _ _ hw HWO.out
 exact ⟨rfl,v',hE,hS,hR⟩
end Go.Proofs.YtmcomdmcmnbhlaaGreatDoor
