import Derived.Test.YtmcomdmcmnbhlaaGreatDoorKCn0
import Derived.Test.YtmcomdmcmnbhlaaGreatDoorKSns0
import Derived.Test.YtmcomdmcmnbhlaaGreatDoorKCg0
import Derived.Test.YtmcomdmcmnbhlaaGreatDoorKVi0
import Derived.Test.YtmcomdmcmnbhlaaGreatDoorKRt0
import Derived.Test.YtmcomdmcmnbhlaaGreatDoorKCg1
import Derived.Deep.RegionHeld3
set_option maxRecDepth 100000
set_option maxHeartbeats 25600000
set_option linter.unusedSimpArgs false
set_option linter.unusedVariables false
set_option linter.unnecessarySimpa false
namespace Go.Proofs.YtmcomdmcmnbhlaaGreatDoor
open Go.RowKit
theorem numbersOf_any (l : List Pk) (v : Value) (w : World) (h : RdP w v l) (hl : l.length ≤ 512) :
  Calls Tryz.prog 96 #[v] w fun e w' => ∃ v',e = .returned v' ∧ Own .i64 3 w' w.heap.size v' (l.map (·.n)) ∧ Below w.heap.size w w':=by
 obtain ⟨a,c,rfl,_,_⟩:=h.slice
 have HR:=qhi h
 have HL:=qhi hl
 clear h hl
 go_enter Tryz.func96,Tryz.ntmps96
 go_wp2_with fail
 go_loopw [8,3] (fun s v wr => ∃ (k : Nat),s = .int .i64 (k : Int) ∧ k ≤ l.length ∧ Own .i64 3 wr w.heap.size v ((l.take k).map (·.n)) ∧ Below w.heap.size w wr) (fun s _ _ => l.length - (intOf s).toNat)
 case atStart => exact ⟨0,rfl,by omega,Own.nil _ _ _ _,qbr _ _⟩
 case round =>
  obtain ⟨k,rfl,hk,O,B⟩:=hrel
  obtain ⟨sa,sc,rfl⟩:=O.len
  obtain ⟨K,hK⟩ : ∃ K,K = ((l.take k).map (·.n)).length:=⟨_,rfl⟩
  have HKK:=qhi hK
  rw [← hK]
  rw [← hK] at O
  have HO:=qhi O
  have HB:=qhi B
  clear O hK
  by_cases hlt : k < l.length
  ·have hne : l ≠ []:=fun e => by rw [e] at hlt;simp at hlt
   obtain ⟨b,o,c',hv,hb⟩:=HR.out.form hne
   simp only [Value.slice.injEq] at hv
   obtain ⟨rfl,_,rfl⟩:=hv
   have i1 : (k : Int) < (l.length : Int):=by omega
   have i2 : (0 : Int) ≤ (k : Int):=by omega
   have i3 : wr.heap.size ≥ w.heap.size:=B.size
   obtain ⟨x0,x1,x2⟩:=(HR.out.below B).cells k hlt
   have hKn : K = k:=by rw [HKK.out,List.length_map,List.length_take];omega
   have HKn:=qhi hKn
   have hl5:=HL.out
   clear B hKn
   go_wp2_with (at_builtin;go_loud ((with_reducible refine wpList_append_rd _ ?_ (.tmp 12) (.tmp 15) 85 ?_ elemInt Tryz.underlying85 w.heap.size (.slice sa K sc) ((l.take k).map (·.n)) ?_ ((HO.out.alloc _).alloc _) _ [l[k].n] ?_ (Rd.one' _ _ _ _ (wr.heap.size + 1) (by simp)) ?_ ?_ ?_ ?_);rfl;rfl;rfl;rfl;(have:=HKK.out;have:=HKn.out;rw [← HKK.out];simp;omega);(have:=HKK.out;have:=HKn.out;rw [← HKK.out];simp;unfold maxLen;omega);(simp;omega);intro v3 w3 o3 g3))
   have b3 : Below w.heap.size w w3:=((HB.out.alloc i3 _).alloc (by simp;omega) _).grown g3 (by simp;omega) HO.out.blk
   refine ⟨⟨k + 1,by simp,by omega,?_,b3⟩,by simp [intOf];omega⟩
   rw [List.take_succ_eq_append_getElem hlt,List.map_append]
   exact o3
  ·have i1 : ¬ ((k : Int) < (l.length : Int)):=by omega
   clear B
   go_wp2_with fail
   go_ret
   have e : k = l.length:=by omega
   refine ⟨_,rfl,?_,HB.out⟩
   have:=HO.out
   rw [e,List.take_length] at this
   exact this
structure FlC (e o tb lb : Nat) (la : Int) (q : St7) (a : St6) (d : Int) (w : World) : Prop where
 c0 : Cell e o (.map (some tb)) w
 c1 : Cell e (o + 1) (.pointer (some ⟨lb,0,none⟩)) w
 c2 : Cell e (o + 2) (.int .i64 la) w
 c3 : Cell e (o + 3) (.int .i64 q.z) w
 c4 : Cell e (o + 4) (.int .i64 q.t) w
 c5 : Cell e (o + 5) (.int .i64 q.f) w
 c6 : Cell e (o + 6) (.int .i64 q.s) w
 c7 : Cell e (o + 7) (.int .i64 q.p) w
 c8 : Cell e (o + 8) (.bool a.h) w
 c9 : Cell e (o + 9) (.int .i64 a.l) w
 c10 : Cell e (o + 10) (.int .i64 a.s) w
 c11 : Cell e (o + 11) (.int .i64 a.v) w
 c12 : Cell e (o + 12) (.int .i64 a.t) w
 c13 : Cell e (o + 13) (.int .i64 d) w
theorem FlC.block {e o tb lb : Nat} {la : Int} {q : St7} {a : St6} {d : Int} {w w' : World} (h : FlC e o tb lb la q a d w) (hb : w'.heap[e]? = w.heap[e]?) : FlC e o tb lb la q a d w' :=
 ⟨h.c0.block hb,h.c1.block hb,h.c2.block hb,h.c3.block hb,h.c4.block hb,h.c5.block hb,h.c6.block hb,h.c7.block hb,h.c8.block hb,h.c9.block hb,h.c10.block hb,h.c11.block hb,h.c12.block hb,h.c13.block hb⟩
theorem FlC.below {e o tb lb : Nat} {la : Int} {q : St7} {a : St6} {d : Int} {w w' : World} (h : FlC e o tb lb la q a d w) (hb : Below w.heap.size w w') : FlC e o tb lb la q a d w':=h.block (hb.block e h.c0.lt)
theorem FlC.drewN {e o tb lb : Nat} {la : Int} {q : St7} {a : St6} {d : Int} {w : World} (h : FlC e o tb lb la q a d w) (n : Nat) : FlC e o tb lb la q a d (w.drewN n):=h.block rfl
theorem FlC.rgn {e o tb lb : Nat} {la : Int} {q : St7} {a : St6} {d : Int} {w w' : World} {lo hi : Nat} (h : FlC e o tb lb la q a d w) (k : Rgn e lo hi w w') (hd : o + 14 ≤ lo ∨ hi ≤ o) : FlC e o tb lb la q a d w' :=
 ⟨h.c0.rgn k (by omega),h.c1.rgn k (by omega),h.c2.rgn k (by omega),h.c3.rgn k (by omega),h.c4.rgn k (by omega),h.c5.rgn k (by omega),h.c6.rgn k (by omega),h.c7.rgn k (by omega),h.c8.rgn k (by omega),h.c9.rgn k (by omega),h.c10.rgn k (by omega),h.c11.rgn k (by omega),h.c12.rgn k (by omega),h.c13.rgn k (by omega)⟩
def setWin (w : World) (e o : Nat) (q : St7) : World:=((((w.setCell ⟨e,o + 3,none⟩ (.int .i64 q.z)).setCell ⟨e,o + 4,none⟩ (.int .i64 q.t)).setCell ⟨e,o + 5,none⟩ (.int .i64 q.f)).setCell ⟨e,o + 6,none⟩ (.int .i64 q.s)).setCell ⟨e,o + 7,none⟩ (.int .i64 q.p)
theorem setWin_rgn (w : World) (e o : Nat) (q : St7) : Rgn e (o + 3) (o + 8) w (setWin w e o q) :=
 ((((Rgn.set (w:=w) (v:=.int .i64 q.z) (j:=o + 3) ⟨by omega,by omega⟩).trans (Rgn.set (j:=o + 4) ⟨by omega,by omega⟩)).trans (Rgn.set (j:=o + 5) ⟨by omega,by omega⟩)).trans (Rgn.set (j:=o + 6) ⟨by omega,by omega⟩)).trans (Rgn.set (j:=o + 7) ⟨by omega,by omega⟩)
theorem keep_setCell (w : World) (e j : Nat) (v : Value) : Keep [e] w (w.setCell ⟨e,j,none⟩ v) :=
 ⟨rfl,rfl,rfl,by simp [World.setCell],fun i hi hn => Below.heap_setCell _ _ _ _ (fun x => hn (by simp [x]))⟩
theorem setWin_keep (w : World) (e o : Nat) (q : St7) : Keep [e] w (setWin w e o q) :=
 have T : ∀ {a b c : World},Keep [e] a b → Keep [e] b c → Keep [e] a c:=fun h k => h.trans k (fun i hi => .inl hi)
 T (T (T (T (keep_setCell _ _ _ _) (keep_setCell _ _ _ _)) (keep_setCell _ _ _ _)) (keep_setCell _ _ _ _)) (keep_setCell _ _ _ _)
theorem FlC.win {e o tb lb : Nat} {la : Int} {q : St7} {a : St6} {d : Int} {w : World} (h : FlC e o tb lb la q a d w) (q' : St7) : FlC e o tb lb la q' a d (setWin w e o q'):=by
 have r : ∀ (w : World) (j : Nat) (v : Value),Rgn e (o + j) (o + j + 1) w (w.setCell ⟨e,o + j,none⟩ v):=fun w j v => Rgn.set ⟨qlr _,by omega⟩
 have R:=setWin_rgn w e o q'
 unfold setWin at R ⊢
 have z:=(((((h.c3.set (.int .i64 q'.z) rfl).rgn (r _ 4 (.int .i64 q'.t)) (by omega)).rgn (r _ 5 (.int .i64 q'.f)) (by omega)).rgn (r _ 6 (.int .i64 q'.s)) (by omega)).rgn (r _ 7 (.int .i64 q'.p)) (by omega))
 have t:=(((((h.c4.rgn (r _ 3 (.int .i64 q'.z)) (by omega)).set (.int .i64 q'.t) rfl).rgn (r _ 5 (.int .i64 q'.f)) (by omega)).rgn (r _ 6 (.int .i64 q'.s)) (by omega)).rgn (r _ 7 (.int .i64 q'.p)) (by omega))
 have f:=(((((h.c5.rgn (r _ 3 (.int .i64 q'.z)) (by omega)).rgn (r _ 4 (.int .i64 q'.t)) (by omega)).set (.int .i64 q'.f) rfl).rgn (r _ 6 (.int .i64 q'.s)) (by omega)).rgn (r _ 7 (.int .i64 q'.p)) (by omega))
 have s:=(((((h.c6.rgn (r _ 3 (.int .i64 q'.z)) (by omega)).rgn (r _ 4 (.int .i64 q'.t)) (by omega)).rgn (r _ 5 (.int .i64 q'.f)) (by omega)).set (.int .i64 q'.s) rfl).rgn (r _ 7 (.int .i64 q'.p)) (by omega))
 have p:=(((((h.c7.rgn (r _ 3 (.int .i64 q'.z)) (by omega)).rgn (r _ 4 (.int .i64 q'.t)) (by omega)).rgn (r _ 5 (.int .i64 q'.f)) (by omega)).rgn (r _ 6 (.int .i64 q'.s)) (by omega)).set (.int .i64 q'.p) rfl)
 exact ⟨h.c0.rgn R (by omega),h.c1.rgn R (by omega),h.c2.rgn R (by omega),z,t,f,s,p,h.c8.rgn R (by omega),h.c9.rgn R (by omega),h.c10.rgn R (by omega),h.c11.rgn R (by omega),h.c12.rgn R (by omega),h.c13.rgn R (by omega)⟩
def fallQ (now : Int) (q : St7) (l : List Pk) : St7:=l.foldl (fun q p => (lostE q p.s p.t now).1) q
theorem fallQ_succ (now : Int) (q : St7) (l : List Pk) (k : Nat) (hk : k < l.length) : fallQ now q (l.take (k + 1)) = (lostE (fallQ now q (l.take k)) l[k].s l[k].t now).1:=by
 rw [List.take_succ_eq_append_getElem hk]
 show List.foldl _ q (l.take k ++ [l[k]]) = _
 rw [List.foldl_append]
 rfl
theorem fall_any {e o tb lb : Nat} {la : Int} {q : St7} {a : St6} {d : Int} (l : List Pk) (v : Value) (now : Int) (w : World) (hF : FlC e o tb lb la q a d w) (h : RdP w v l) (hl : l.length ≤ 512) (hv : v.ownBlock ≠ some e) :
  Calls Tryz.prog 59 #[.pointer (some ⟨e,o,none⟩),v,.int .i64 now] w fun x w' => ∃ v',x = .returned v' ∧ Own .i64 3 w' w.heap.size v' (l.map (·.n)) ∧ FlC e o tb lb la (fallQ now q l) a d w' ∧ Keep [e] w w' ∧ Rgn e (o + 3) (o + 8) w w':=by
 obtain ⟨va,c,rfl,_,_⟩:=h.slice
 have HR:=qhi h
 have HL:=qhi hl
 have HF:=qhi hF
 have HV:=qhi hv
 have hel:=hF.c0.lt
 clear h hl hF hv
 go_enter Tryz.func59,Tryz.ntmps59
 go_wp2_with fail
 go_loopw [11] (fun s wr => ∃ (k : Nat),s = .int .i64 (k : Int) ∧ k ≤ l.length ∧ FlC e o tb lb la (fallQ now q (l.take k)) a d wr ∧ Keep [e] w wr ∧ Rgn e (o + 3) (o + 8) w wr) (fun s _ => l.length - (intOf s).toNat)
 case atStart => exact ⟨0,rfl,by omega,HF.out,Keep.refl _ _,Rgn.refl _ _ _ _⟩
 case round =>
  obtain ⟨k,rfl,hk,F,K,G⟩:=hrel
  have FF:=qhi F
  have KK:=qhi K
  have GG:=qhi G
  have hKs:=K.size
  by_cases hlt : k < l.length
  ·have hne : l ≠ []:=fun e => by rw [e] at hlt;simp at hlt
   obtain ⟨b,o',c',hv,hb⟩:=HR.out.form hne
   simp only [Value.slice.injEq] at hv
   obtain ⟨rfl,_,rfl⟩:=hv
   have i1 : (k : Int) < (l.length : Int):=by omega
   have i2 : (0 : Int) ≤ (k : Int):=by omega
   have hbe : b ≠ e:=fun x => HV.out (by rw [x];rfl)
   have R2 : RdP wr (.slice (some ⟨b,o',none⟩) l.length c) l:=RdC.block HR.out hKs (fun _ j hj => by cases hj;exact K.block _ hb (by simpa using hbe))
   obtain ⟨x0,x1,x2⟩:=R2.cells k hlt
   clear R2
   have eK : l.getD k default = l[k]:=by simp [List.getD,hlt]
   rw [eK] at x0 x1 x2
   have HFS:=qhi (fallQ_succ now q l k hlt)
   clear F K G eK
   obtain ⟨pz,hpz⟩ : ∃ pz,pz = l[k].s:=⟨_,rfl⟩
   obtain ⟨pt,hpt⟩ : ∃ pt,pt = l[k].t:=⟨_,rfl⟩
   obtain ⟨pn,hpn⟩ : ∃ pn,pn = l[k].n:=⟨_,rfl⟩
   rw [← hpz,← hpt] at HFS
   rw [← hpn] at x0
   rw [← hpt] at x1
   rw [← hpz] at x2
   clear hpz hpt hpn
   go_upto_region 4 with fail
   have CB : Hid ((wr.alloc (.cells #[.int .i64 pn,.int .i64 pt,.int .i64 pz] 174)).heap[wr.heap.size]? = some (.cells #[.int .i64 pn,.int .i64 pt,.int .i64 pz] 174 (0,0))):=by
    show (wr.heap.push _)[wr.heap.size]? = _;simp
   have BB : Hid (Below wr.heap.size wr (wr.alloc (.cells #[.int .i64 pn,.int .i64 pt,.int .i64 pz] 174))):=(qbr _ wr).alloc (qlr _) _
   clear x0 x1 x2
   generalize wr.alloc (.cells #[.int .i64 pn,.int .i64 pt,.int .i64 pz] 174) = W at CB BB ⊢
   obtain ⟨q1,hq1⟩ : ∃ q1,q1 = fallQ now q (l.take k):=⟨_,rfl⟩
   rw [← hq1] at FF HFS
   clear hq1
   obtain ⟨z,tt,f,s,p⟩:=q1
   obtain ⟨⟨⟨z',t',f',s',p'⟩,e'⟩,he⟩ : ∃ r,lostE ⟨z,tt,f,s,p⟩ pz pt now = r:=⟨_,rfl⟩
   have HE:=qhi he
   rw [he] at HFS
   clear he
   have F2:=qhi (FF.out.below BB.out)
   have HC:=qhi (fun V => lost_eq HE.out V)
   have x1 : W.drew.cell? ⟨wr.heap.size,1,none⟩ = some (.int .i64 pt):=(by simp [World.cell?,CB.out] : W.cell? _ = _)
   have x2 : W.drew.cell? ⟨wr.heap.size,2,none⟩ = some (.int .i64 pz):=(by simp [World.cell?,CB.out] : W.cell? _ = _)
   have y3 : W.drew.cell? ⟨e,o + 3,none⟩ = some (.int .i64 z):=F2.out.c3.1
   have y4 : W.drew.cell? ⟨e,o + 4,none⟩ = some (.int .i64 tt):=F2.out.c4.1
   have y5 : W.drew.cell? ⟨e,o + 5,none⟩ = some (.int .i64 f):=F2.out.c5.1
   have y6 : W.drew.cell? ⟨e,o + 6,none⟩ = some (.int .i64 s):=F2.out.c6.1
   have y7 : W.drew.cell? ⟨e,o + 7,none⟩ = some (.int .i64 p):=F2.out.c7.1
   go_region_law (first
    | (go_simp;go_at_call 95;refine (HC.out _).mono ?_;rintro x w3 ⟨rfl,b3⟩;have F3:=qhi (F2.out.drewN 1 |>.below b3);obtain ⟨u3,v3⟩:=F3.out.c3;obtain ⟨u4,v4⟩:=F3.out.c4;obtain ⟨u5,v5⟩:=F3.out.c5;obtain ⟨u6,v6⟩:=F3.out.c6;obtain ⟨u7,v7⟩:=F3.out.c7))
   all_goals clear x1 x2 y3 y4 y5 y6 y7 u3 v3 u4 v4 u5 v5 u6 v6 u7 v7
   all_goals
    generalize hW5 : ((((w3.setCell ⟨e,o + 3,none⟩ (.int .i64 z')).setCell ⟨e,o + 3 + 1,none⟩ (.int .i64 t')).setCell ⟨e,o + 3 + 2,none⟩ (.int .i64 f')).setCell ⟨e,o + 3 + 3,none⟩ (.int .i64 s')).setCell ⟨e,o + 3 + 4,none⟩ (.int .i64 p') = W5
    have e5 : Hid (W5 = setWin w3 e o ⟨z',t',f',s',p'⟩):=hW5.symm
    clear hW5
   all_goals have hl5:=HL.out
   all_goals go_wp2_with fail
   all_goals
    have hz:=BB.out.size
    have bz:=(qbd (qbr W.heap.size W) 1).trans b3
    have bw:=BB.out.trans (bz.mono hz)
    have hew : e < wr.heap.size:=by omega
    have F4:=F3.out.win ⟨z',t',f',s',p'⟩
    have HK:=HFS.out
    have K4:=(KK.out.trans (S':=[]) (Keep.of_below bw) (by simp)).trans (setWin_keep w3 e o ⟨z',t',f',s',p'⟩) (fun i hi => .inl hi)
    have G4:=GG.out.trans ((Rgn.below hew bw).trans (setWin_rgn w3 e o ⟨z',t',f',s',p'⟩))
    rw [← e5.out] at F4 K4 G4
    refine ⟨⟨k + 1,by simp,by omega,?_,K4,G4⟩,by simp [intOf];omega⟩
    rw [HK];exact F4
  ·have i1 : ¬ ((k : Int) < (l.length : Int)):=by omega
   clear F K G
   have HN:=qhi (numbersOf_any l _ wr (RdC.block HR.out hKs (fun h0 j hj => KK.out.block _ (HR.out.blt h0 j hj) (by intro hm;exact HV.out (by rw [hj];simpa using hm)))) HL.out)
   go_wp2_with (go_at_call 96;refine HN.out.mono ?_;rintro x w2 ⟨v',rfl,O2,B2⟩)
   go_ret
   have e : k = l.length:=by omega
   have F2:=FF.out.below B2
   rw [e,List.take_length] at F2
   exact ⟨_,rfl,O2.mono KK.out.size,F2,KK.out.trans (S':=[]) (Keep.of_below B2) (by simp),GG.out.trans (Rgn.below (by have:=KK.out.size;omega) B2)⟩
theorem froom_any {e o tb lb mb : Nat} {la : Int} {q : St7} {a : St6} {d : Int} {lg : Lg} (w : World) (hF : FlC e o tb lb la q a d w) (hL : Led lb mb lg w) (hq : Ok8 lg) :
  Calls Tryz.prog 35 #[.pointer (some ⟨e,o,none⟩)] w fun x w' => x = .returned (.int .i64 (if 512 ≤ lg.l.length then 0 else roomI q)) ∧ Below w.heap.size w w':=by
 have HO:=qhi (out_any lb mb lg w hq hL)
 have HF:=qhi hF
 have x1:=hF.c1.1
 obtain ⟨z,t,f,s,p⟩:=q
 obtain ⟨r,hr⟩ : ∃ r,roomI ⟨z,t,f,s,p⟩ = r:=⟨_,rfl⟩
 rw [hr]
 have HR:=qhi (fun V => room_b' z t f s p r hr V)
 clear hF hL hq hr
 by_cases h5 : 512 ≤ lg.l.length
 ·rw [if_pos h5]
  go_enter Tryz.func35,Tryz.ntmps35
  go_wp2_with (go_at_call 66;refine HO.out.mono ?_;rintro x w2 ⟨v,rfl,O,B⟩;obtain ⟨va,vc,rfl,_,_⟩:=O.slice;have e1 : (512 : Int) ≤ (lg.l.length : Int):=by omega)
  go_ret
  exact ⟨rfl,B⟩
 ·rw [if_neg h5]
  go_enter Tryz.func35,Tryz.ntmps35
  go_wp2_with (first
   | (go_at_call 66;refine HO.out.mono ?_;rintro x w2 ⟨v,rfl,O,B⟩;obtain ⟨va,vc,rfl,_,_⟩:=O.slice;have e1 : ¬ (512 : Int) ≤ (lg.l.length : Int):=by omega
      have F2:=HF.out.below B;have y3:=F2.c3.1;have y4:=F2.c4.1;have y5:=F2.c5.1;have y6:=F2.c6.1;have y7:=F2.c7.1;clear F2)
   | (go_at_call 67;refine (HR.out _).mono ?_;rintro x w3 ⟨rfl,B3⟩))
  go_ret
  exact ⟨rfl,B.trans (B3.mono B.size)⟩
def goneQ (q : St7) (l : List Pk) : St7:=l.foldl (fun q p => (goneE q p.s).1) q
theorem goneQ_succ (q : St7) (l : List Pk) (k : Nat) (hk : k < l.length) : goneQ q (l.take (k + 1)) = (goneE (goneQ q (l.take k)) l[k].s).1:=by
 rw [List.take_succ_eq_append_getElem hk]
 show List.foldl _ q (l.take k ++ [l[k]]) = _
 rw [List.foldl_append]
 rfl
theorem giveUp_nil {e o tb lb mb : Nat} {la : Int} {q : St7} {a : St6} {d : Int} {lg : Lg} (now : Int) (w : World) (hF : FlC e o tb lb la q a d w) (hL : Led lb mb lg w) (hq : Ok8 lg) (hd : d ≤ 9223372036854775807) (h0 : lg.l = []) :
  Calls Tryz.prog 61 #[.pointer (some ⟨e,o,none⟩),.int .i64 now] w fun x w' => x = .returned (.slice none 0 0) ∧ Below w.heap.size w w':=by
 have HO:=qhi (out_any lb mb lg w hq hL)
 have HF:=qhi hF
 have x1:=hF.c1.1
 have H0:=qhi h0
 obtain ⟨h,l,s,v,t⟩:=a
 have HP:=qhi (fun V => probe_any h l s v t d V hd)
 clear hF hL hq hd h0
 go_enter Tryz.func61,Tryz.ntmps61
 go_upto_region 2 with (go_at_call 66;refine HO.out.mono ?_;rintro x w2 ⟨v,rfl,O,B⟩;rw [H0.out] at O;obtain ⟨va,vc,rfl,_,_⟩:=O.slice;have BB:=qhi B;have F2:=qhi (HF.out.below B);clear O B)
 have HK : Hid (∀ V,Below w2.heap.size w2 V → (V.cell? ⟨e,o + 8,none⟩ = some (.bool h) ∧ V.cell? ⟨e,o + 9,none⟩ = some (.int .i64 l) ∧ V.cell? ⟨e,o + 10,none⟩ = some (.int .i64 s) ∧ V.cell? ⟨e,o + 11,none⟩ = some (.int .i64 v) ∧ V.cell? ⟨e,o + 12,none⟩ = some (.int .i64 t) ∧ V.cell? ⟨e,o + 13,none⟩ = some (.int .i64 d)) ∧ Below w2.heap.size w2 V):=fun V hV => by
  have F3:=F2.out.below hV
  exact ⟨⟨F3.c8.1,F3.c9.1,F3.c10.1,F3.c11.1,F3.c12.1,F3.c13.1⟩,hV⟩
 go_region_held3 (fun V => (V.cell? ⟨e,o + 8,none⟩ = some (.bool h) ∧ V.cell? ⟨e,o + 9,none⟩ = some (.int .i64 l) ∧ V.cell? ⟨e,o + 10,none⟩ = some (.int .i64 s) ∧ V.cell? ⟨e,o + 11,none⟩ = some (.int .i64 v) ∧ V.cell? ⟨e,o + 12,none⟩ = some (.int .i64 t) ∧ V.cell? ⟨e,o + 13,none⟩ = some (.int .i64 d)) ∧ Below w2.heap.size w2 V)
  (first
   | (exact HK.out _ (qbd (qbr _ _) 1))
   | (exact HK.out _ B3))
  (first
   | (go_at_call 102;refine (HP.out _).mono ?_;rintro x w3 ⟨rfl,hb3⟩;have B3 : Below w2.heap.size w2 w3:=(qbd (qbr _ _) 1).trans hb3))
 go_wp2_with fail
 go_ret
 exact ⟨rfl,BB.out.trans (B3.mono BB.out.size)⟩
theorem giveUp_early {e o tb lb mb : Nat} {la : Int} {q : St7} {a : St6} {d : Int} {lg : Lg} (now : Int) (w : World) (hF : FlC e o tb lb la q a d w) (hL : Led lb mb lg w) (hq : Ok8 lg) (hd : d ≤ 9223372036854775807) (n : Nat) (h0 : lg.l.length = n + 1) (tl : Int) (htl : (lg.l.getD n default).t = tl) (hlt : wrap64 (now - tl) < (probeE a d).1) :
  Calls Tryz.prog 61 #[.pointer (some ⟨e,o,none⟩),.int .i64 now] w fun x w' => x = .returned (.slice none 0 0) ∧ Below w.heap.size w w':=by
 have HO:=qhi (out_any lb mb lg w hq hL)
 have HF:=qhi hF
 have x1:=hF.c1.1
 have H0:=qhi h0
 obtain ⟨h,l,s,v,t⟩:=a
 have hn5 : n < 512:=by have:=hq.few;omega
 have HN5:=qhi hn5
 obtain ⟨wt,hwt⟩ : ∃ wt,(probeE ⟨h,l,s,v,t⟩ d).1 = wt:=⟨_,rfl⟩
 obtain ⟨we,hwe⟩ : ∃ we,(probeE ⟨h,l,s,v,t⟩ d).2 = we:=⟨_,rfl⟩
 rw [hwt] at hlt
 have HP:=qhi (fun V => probe_any h l s v t d V hd)
 rw [hwt,hwe] at HP
 have HLT:=qhi hlt
 have HTL:=qhi htl
 clear hF hL hq hd h0 hwt hwe hlt hn5 htl
 go_enter Tryz.func61,Tryz.ntmps61
 go_upto_region 2 with (go_at_call 66;refine HO.out.mono ?_;rintro x w2 ⟨v,rfl,O,B⟩;obtain ⟨b,o',vc,rfl,hb⟩:=O.rd.form (by intro x;have:=H0.out;rw [x] at this;simp at this);have O2:=qhi O;have hh:=H0.out;rw [hh];have BB:=qhi B;have F2:=qhi (HF.out.below B);clear O B hh)
 have HK : Hid (∀ V,Below w2.heap.size w2 V → (V.cell? ⟨e,o + 8,none⟩ = some (.bool h) ∧ V.cell? ⟨e,o + 9,none⟩ = some (.int .i64 l) ∧ V.cell? ⟨e,o + 10,none⟩ = some (.int .i64 s) ∧ V.cell? ⟨e,o + 11,none⟩ = some (.int .i64 v) ∧ V.cell? ⟨e,o + 12,none⟩ = some (.int .i64 t) ∧ V.cell? ⟨e,o + 13,none⟩ = some (.int .i64 d)) ∧ Below w2.heap.size w2 V):=fun V hV => by
  have F3:=F2.out.below hV
  exact ⟨⟨F3.c8.1,F3.c9.1,F3.c10.1,F3.c11.1,F3.c12.1,F3.c13.1⟩,hV⟩
 go_region_held3 (fun V => (V.cell? ⟨e,o + 8,none⟩ = some (.bool h) ∧ V.cell? ⟨e,o + 9,none⟩ = some (.int .i64 l) ∧ V.cell? ⟨e,o + 10,none⟩ = some (.int .i64 s) ∧ V.cell? ⟨e,o + 11,none⟩ = some (.int .i64 v) ∧ V.cell? ⟨e,o + 12,none⟩ = some (.int .i64 t) ∧ V.cell? ⟨e,o + 13,none⟩ = some (.int .i64 d)) ∧ Below w2.heap.size w2 V)
  (first
   | (exact HK.out _ (qbd (qbr _ _) 1))
   | (exact HK.out _ B3))
  (first
   | (go_at_call 102;refine (HP.out _).mono ?_;rintro x w3 ⟨rfl,hb3⟩;have B3 : Below w2.heap.size w2 w3:=(qbd (qbr _ _) 1).trans hb3))
 have R3:=O2.out.rd.below B3
 obtain ⟨_,y1,_⟩:=R3.cells n (by rw [H0.out];omega)
 have hn5:=HN5.out
 rw [HTL.out] at y1
 have hlt' : decide (wrap64 (now - tl) < wt) = true:=qdt HLT.out
 have hz : (((n : Int) + 1) == 0) = false:=beq_eq_false_iff_ne.2 (by omega)
 clear R3
 go_wp2_with fail
 go_ret
 exact ⟨rfl,BB.out.trans (B3.mono BB.out.size)⟩
theorem FlC.dbl {e o tb lb : Nat} {la : Int} {q : St7} {a : St6} {d : Int} {w : World} (h : FlC e o tb lb la q a d w) (d' : Int) : FlC e o tb lb la q a d' (w.setCell ⟨e,o + 13,none⟩ (.int .i64 d')):=by
 have R : Rgn e (o + 13) (o + 14) w (w.setCell ⟨e,o + 13,none⟩ (.int .i64 d')):=Rgn.set ⟨qlr _,by omega⟩
 exact ⟨h.c0.rgn R (by omega),h.c1.rgn R (by omega),h.c2.rgn R (by omega),h.c3.rgn R (by omega),h.c4.rgn R (by omega),h.c5.rgn R (by omega),h.c6.rgn R (by omega),h.c7.rgn R (by omega),h.c8.rgn R (by omega),h.c9.rgn R (by omega),h.c10.rgn R (by omega),h.c11.rgn R (by omega),h.c12.rgn R (by omega),h.c13.set (.int .i64 d') rfl⟩
theorem giveUp_all {e o tb lb mb : Nat} {la : Int} {q : St7} {a : St6} {d : Int} {lg : Lg} (now : Int) (w : World) (hF : FlC e o tb lb la q a d w) (hL : Led lb mb lg w) (hq : Ok8 lg) (hd : d ≤ 9223372036854775807) (n : Nat) (h0 : lg.l.length = n + 1) (tl : Int) (htl : (lg.l.getD n default).t = tl) (hlt : ¬ wrap64 (now - tl) < (probeE a d).1) (hle : lb ≠ e) (hme : mb ≠ e) :
  Calls Tryz.prog 61 #[.pointer (some ⟨e,o,none⟩),.int .i64 now] w fun x w' => ∃ v',x = .returned v' ∧ Own .i64 3 w' w.heap.size v' (lg.l.map (·.n)) ∧ FlC e o tb lb la (goneQ q lg.l) a (wrap64 (d + 1)) w' ∧ Led lb mb ⟨[],lg.last,lg.time,lg.big⟩ w' ∧ Keep [e,lb,mb] w w' ∧ Rgn e o (o + 14) w w':=by
 have HO:=qhi (out_any lb mb lg w hq hL)
 have HD : Hid (∀ V,Led lb mb lg V → Calls Tryz.prog 103 #[.pointer (some ⟨lb,0,none⟩)] V (Gives8 lb mb ⟨[],lg.last,lg.time,lg.big⟩ lg.l V)):=fun V hV => drop_any lb mb lg V hq hV
 have HLd:=qhi hL
 have HFew:=qhi hq.few
 have hel:=hF.c0.lt
 have HF:=qhi hF
 have x1:=hF.c1.1
 have H0:=qhi h0
 obtain ⟨h,l,s,v,t⟩:=a
 have hn5 : n < 512:=by have:=hq.few;omega
 have HN5:=qhi hn5
 obtain ⟨wt,hwt⟩ : ∃ wt,(probeE ⟨h,l,s,v,t⟩ d).1 = wt:=⟨_,rfl⟩
 obtain ⟨we,hwe⟩ : ∃ we,(probeE ⟨h,l,s,v,t⟩ d).2 = we:=⟨_,rfl⟩
 rw [hwt] at hlt
 have HP:=qhi (fun V => probe_any h l s v t d V hd)
 rw [hwt,hwe] at HP
 have HLT:=qhi hlt
 have HTL:=qhi htl
 clear hF hL hq hd h0 hwt hwe hlt hn5 htl
 go_enter Tryz.func61,Tryz.ntmps61
 go_upto_region 2 with (go_at_call 66;refine HO.out.mono ?_;rintro x w2 ⟨v,rfl,O,B⟩;obtain ⟨b,o',vc,rfl,hb⟩:=O.rd.form (by intro x;have:=H0.out;rw [x] at this;simp at this);have O2:=qhi O;have hh:=H0.out;rw [hh];have BB:=qhi B;have F2:=qhi (HF.out.below B);clear O B hh)
 have HK : Hid (∀ V,Below w2.heap.size w2 V → (V.cell? ⟨e,o + 8,none⟩ = some (.bool h) ∧ V.cell? ⟨e,o + 9,none⟩ = some (.int .i64 l) ∧ V.cell? ⟨e,o + 10,none⟩ = some (.int .i64 s) ∧ V.cell? ⟨e,o + 11,none⟩ = some (.int .i64 v) ∧ V.cell? ⟨e,o + 12,none⟩ = some (.int .i64 t) ∧ V.cell? ⟨e,o + 13,none⟩ = some (.int .i64 d)) ∧ Below w2.heap.size w2 V):=fun V hV => by
  have F3:=F2.out.below hV
  exact ⟨⟨F3.c8.1,F3.c9.1,F3.c10.1,F3.c11.1,F3.c12.1,F3.c13.1⟩,hV⟩
 go_region_held3 (fun V => (V.cell? ⟨e,o + 8,none⟩ = some (.bool h) ∧ V.cell? ⟨e,o + 9,none⟩ = some (.int .i64 l) ∧ V.cell? ⟨e,o + 10,none⟩ = some (.int .i64 s) ∧ V.cell? ⟨e,o + 11,none⟩ = some (.int .i64 v) ∧ V.cell? ⟨e,o + 12,none⟩ = some (.int .i64 t) ∧ V.cell? ⟨e,o + 13,none⟩ = some (.int .i64 d)) ∧ Below w2.heap.size w2 V)
  (first
   | (exact HK.out _ (qbd (qbr _ _) 1))
   | (exact HK.out _ B3))
  (first
   | (go_at_call 102;refine (HP.out _).mono ?_;rintro x w3 ⟨rfl,hb3⟩;have B3 : Below w2.heap.size w2 w3:=(qbd (qbr _ _) 1).trans hb3))
 have R3:=O2.out.rd.below B3
 obtain ⟨_,y1,_⟩:=R3.cells n (by rw [H0.out];omega)
 have hn5:=HN5.out
 rw [HTL.out] at y1
 have hlt' : decide (wrap64 (now - tl) < wt) = false:=qdf (by have:=HLT.out;omega)
 have hz : (((n : Int) + 1) == 0) = false:=beq_eq_false_iff_ne.2 (by omega)
 have F3:=qhi (F2.out.below B3)
 obtain ⟨d3,f3⟩:=F3.out.c13
 have x3:=F3.out.c1.1
 clear R3
 have L3:=qhi (HLd.out.below (BB.out.trans (B3.mono BB.out.size)))
 have F4:=qhi (F3.out.dbl (wrap64 (d + 1)))
 have L4:=qhi (L3.out.keep (keep_setCell w3 e (o + 13) (.int .i64 (wrap64 (d + 1)))) (by simpa using hle) (by simpa using hme))
 have K4:=qhi (keep_setCell w3 e (o + 13) (.int .i64 (wrap64 (d + 1))))
 have G4 : Hid (Rgn e o (o + 14) w3 (w3.setCell ⟨e,o + 13,none⟩ (.int .i64 (wrap64 (d + 1))))):=Rgn.set ⟨by omega,by omega⟩
 have HME:=qhi (And.intro hle hme)
 clear hle hme
 go_upto_region 6 with fail
 generalize w3.setCell ⟨e,o + 13,none⟩ (.int .i64 (wrap64 (d + 1))) = w4 at F4 L4 K4 G4 ⊢
 have x4:=F4.out.c1.1
 have KA : Hid (Keep [e,lb,mb] w2 w4):=((Keep.of_below (S:=[e,lb,mb]) B3).trans K4.out (fun i hi => .inl (by simp at hi ⊢;simp [hi])))
 have GA : Hid (Rgn e o (o + 14) w w4):=(Rgn.below hel (BB.out.trans (B3.mono BB.out.size))).trans G4.out
 clear d3 f3 x3 y1 hlt' hz B3
 obtain ⟨d',hd'⟩ : ∃ d',wrap64 (d + 1) = d':=⟨_,rfl⟩
 rw [hd'] at F4 ⊢
 have HDD:=qhi hd'
 clear hd'
 go_wp2_with (go_at_call 103;refine (HD.out _ L4.out).mono ?_;rintro x w5 ⟨v5,rfl,O5,L5,K5⟩;obtain ⟨a5,c5,rfl,_,_⟩:=O5.slice)
 have hb5:=hb
 have HO5:=qhi O5
 have HL5:=qhi L5
 have HK5:=qhi K5
 have F5:=qhi (F4.out.block (K5.block e F4.out.c0.lt (by have:=HME.out;simp;exact ⟨fun x => this.1 x.symm,fun x => this.2 x.symm⟩)))
 have G5 : Hid (Rgn e o (o + 14) w w5):=GA.out.trans (Rgn.keep F4.out.c0.lt K5 (by have:=HME.out;simp;exact ⟨fun x => this.1 x.symm,fun x => this.2 x.symm⟩))
 have KB : Hid (Keep [e,lb,mb] w2 w5):=KA.out.trans K5 (fun i hi => .inl (by simp at hi ⊢;rcases hi with x | x <;> simp [x]))
 have hel5 : w4.heap.size ≤ w5.heap.size:=K5.size
 have hel4:=F4.out.c0.lt
 clear O5 L5 K5 x4
 go_loopw [56] (fun i wr => ∃ (k : Nat),i = .int .i64 (k : Int) ∧ k ≤ lg.l.length ∧ FlC e o tb lb la (goneQ q (lg.l.take k)) ⟨h,l,s,v,t⟩ d' wr ∧ Keep [e] w5 wr ∧ Rgn e o (o + 14) w5 wr) (fun i _ => lg.l.length - (intOf i).toNat)
 case atStart => exact ⟨0,rfl,by omega,F5.out,Keep.refl _ _,Rgn.refl _ _ _ _⟩
 case round =>
  obtain ⟨k,rfl,hk,F,K,G⟩:=hrel
  have FF:=qhi F
  have KK:=qhi K
  have GG:=qhi G
  have hKs:=K.size
  by_cases hlt : k < lg.l.length
  ·have hne : lg.l ≠ []:=fun e => by rw [e] at hlt;simp at hlt
   obtain ⟨b6,o6,c6,hv6,hb6⟩:=HO5.out.rd.form hne
   have hbe : b6 ≠ e:=fun x => by
    have:=HO5.out.blk b6 (by rw [hv6];rfl)
    omega
   simp only [Value.slice.injEq] at hv6
   obtain ⟨rfl,_,rfl⟩:=hv6
   have i1 : (k : Int) < (lg.l.length : Int):=by omega
   have i2 : (0 : Int) ≤ (k : Int):=by omega
   have R2 : RdP wr (.slice (some ⟨b6,o6,none⟩) lg.l.length c5) lg.l:=RdC.block HO5.out.rd hKs (fun _ j hj => by cases hj;exact K.block _ hb6 (by simpa using hbe))
   obtain ⟨x0,x1,x2⟩:=R2.cells k hlt
   clear R2
   have eK : lg.l.getD k default = lg.l[k]:=by simp [List.getD,hlt]
   rw [eK] at x0 x1 x2
   have HFS:=qhi (goneQ_succ q lg.l k hlt)
   clear F K G eK
   obtain ⟨pz,hpz⟩ : ∃ pz,pz = lg.l[k].s:=⟨_,rfl⟩
   obtain ⟨pt,hpt⟩ : ∃ pt,pt = lg.l[k].t:=⟨_,rfl⟩
   obtain ⟨pn,hpn⟩ : ∃ pn,pn = lg.l[k].n:=⟨_,rfl⟩
   rw [← hpz] at HFS
   rw [← hpn] at x0
   rw [← hpt] at x1
   rw [← hpz] at x2
   clear hpz hpt hpn
   go_upto_region 9 with fail
   have CB : Hid ((wr.alloc (.cells #[.int .i64 pn,.int .i64 pt,.int .i64 pz] 174)).heap[wr.heap.size]? = some (.cells #[.int .i64 pn,.int .i64 pt,.int .i64 pz] 174 (0,0))):=by
    show (wr.heap.push _)[wr.heap.size]? = _;simp
   have BX : Hid (Below wr.heap.size wr (wr.alloc (.cells #[.int .i64 pn,.int .i64 pt,.int .i64 pz] 174))):=(qbr _ wr).alloc (qlr _) _
   clear x0 x1 x2
   generalize wr.alloc (.cells #[.int .i64 pn,.int .i64 pt,.int .i64 pz] 174) = W at CB BX ⊢
   obtain ⟨q1,hq1⟩ : ∃ q1,q1 = goneQ q (lg.l.take k):=⟨_,rfl⟩
   rw [← hq1] at FF HFS
   clear hq1
   obtain ⟨z1,t1,f1,s1,p1⟩:=q1
   obtain ⟨⟨⟨z',t',f',s',p'⟩,e'⟩,he⟩ : ∃ r,goneE ⟨z1,t1,f1,s1,p1⟩ pz = r:=⟨_,rfl⟩
   have HE:=qhi he
   rw [he] at HFS
   clear he
   have F6:=qhi (FF.out.below BX.out)
   have HC:=qhi (fun V => gone_eq HE.out V)
   have x2 : W.drew.cell? ⟨wr.heap.size,2,none⟩ = some (.int .i64 pz):=(by simp [World.cell?,CB.out] : W.cell? _ = _)
   have y3 : W.drew.cell? ⟨e,o + 3,none⟩ = some (.int .i64 z1):=F6.out.c3.1
   have y4 : W.drew.cell? ⟨e,o + 4,none⟩ = some (.int .i64 t1):=F6.out.c4.1
   have y5 : W.drew.cell? ⟨e,o + 5,none⟩ = some (.int .i64 f1):=F6.out.c5.1
   have y6 : W.drew.cell? ⟨e,o + 6,none⟩ = some (.int .i64 s1):=F6.out.c6.1
   have y7 : W.drew.cell? ⟨e,o + 7,none⟩ = some (.int .i64 p1):=F6.out.c7.1
   go_region_law (first
    | (go_simp;go_at_call 104;refine (HC.out _).mono ?_;rintro x w7 ⟨rfl,b7⟩;have F7:=qhi (F6.out.drewN 1 |>.below b7);obtain ⟨u3,v3⟩:=F7.out.c3;obtain ⟨u4,v4⟩:=F7.out.c4;obtain ⟨u5,v5⟩:=F7.out.c5;obtain ⟨u6,v6⟩:=F7.out.c6;obtain ⟨u7,v7⟩:=F7.out.c7))
   all_goals clear x2 y3 y4 y5 y6 y7 u3 v3 u4 v4 u5 v5 u6 v6 u7 v7
   all_goals
    generalize hW5 : ((((w7.setCell ⟨e,o + 3,none⟩ (.int .i64 z')).setCell ⟨e,o + 3 + 1,none⟩ (.int .i64 t')).setCell ⟨e,o + 3 + 2,none⟩ (.int .i64 f')).setCell ⟨e,o + 3 + 3,none⟩ (.int .i64 s')).setCell ⟨e,o + 3 + 4,none⟩ (.int .i64 p') = W5
    have e5 : Hid (W5 = setWin w7 e o ⟨z',t',f',s',p'⟩):=hW5.symm
    clear hW5
   all_goals have hl5:=HFew.out
   all_goals go_wp2_with fail
   all_goals
    have hz:=BX.out.size
    have bz:=(qbd (qbr W.heap.size W) 1).trans b7
    have bw:=BX.out.trans (bz.mono hz)
    have hew : e < wr.heap.size:=by omega
    have F4:=F7.out.win ⟨z',t',f',s',p'⟩
    have HK:=HFS.out
    have K4:=(KK.out.trans (S':=[]) (Keep.of_below bw) (by simp)).trans (setWin_keep w7 e o ⟨z',t',f',s',p'⟩) (fun i hi => .inl hi)
    have G4:=GG.out.trans ((Rgn.below hew bw).trans ((setWin_rgn w7 e o ⟨z',t',f',s',p'⟩).mono (by omega) (by omega)))
    rw [← e5.out] at F4 K4 G4
    refine ⟨⟨k + 1,by simp,by omega,?_,K4,G4⟩,by simp [intOf];omega⟩
    rw [HK];exact F4
  ·have i1 : ¬ ((k : Int) < (lg.l.length : Int)):=by omega
   clear F K G
   have KE : Hid (Keep [e,lb,mb] w2 wr):=KB.out.trans KK.out (fun i hi => .inl (by simp at hi ⊢;simp [hi]))
   have hb2 : w.heap.size ≤ b:=O2.out.blk b rfl
   have hbn : b ∉ [e,lb,mb]:=by
    have q1:=HLd.out.row.lt
    have q2:=HLd.out.map.lt
    simp only [List.mem_cons,List.not_mem_nil,or_false,not_or]
    exact ⟨by omega,by omega,by omega⟩
   have RW : RdP wr (.slice (some ⟨b,o',none⟩) (n + 1) vc) lg.l:=by
    have hs:=KE.out.size
    have:=RdC.block (w':=wr) O2.out.rd hs (fun _ j hj => by cases hj;exact KE.out.block _ hb (by simpa using hbn))
    exact H0.out ▸ this
   have HN:=qhi (numbersOf_any lg.l _ wr RW HFew.out)
   clear RW
   go_wp2_with (go_at_call 96;refine HN.out.mono ?_;rintro x w8 ⟨v',rfl,O8,B8⟩)
   go_ret
   have hek : k = lg.l.length:=by omega
   have F8:=FF.out.below B8
   have hs:=KE.out.size
   have hs2:=BB.out.size
   rw [hek,List.take_length] at F8
   refine ⟨_,rfl,O8.mono (by omega),HDD.out ▸ F8,?_,?_,?_⟩
   ·exact (HL5.out.keep KK.out (by simpa using HME.out.1) (by simpa using HME.out.2)).below B8
   ·exact ((Keep.of_below (S:=[e,lb,mb]) BB.out).trans KE.out (fun i hi => .inl hi)).trans (S':=[]) (Keep.of_below B8) (by simp)
   ·exact (G5.out.trans GG.out).trans (Rgn.below (by omega) B8)
end Go.Proofs.YtmcomdmcmnbhlaaGreatDoor
