import Derived.Test.YtmcomdmcmnbhlaaGreatDoorKCns0
import Derived.IntWalk
import Derived.Test.YtmcomdmcmnbhlaaGreatDoorKRt0
import Derived.Test.YtmcomdmcmnbhlaaGreatDoorKCn0
import Derived.Lib.SmallJoins
import Derived.StillTailTactics
import Derived.Test.YtmcomdmcmnbhlaaGreatDoorKSp0
import Derived.Test.YtmcomdmcmnbhlaaGreatDoorKSns0
import Derived.Deep.RegionHeld3
import Derived.Test.YtmcomdmcmnbhlaaGreatDoorKCn2
set_option maxRecDepth 100000
set_option maxHeartbeats 25600000
set_option linter.unusedSimpArgs false
set_option linter.unusedVariables false
set_option linter.unnecessarySimpa false
namespace Go.Proofs.YtmcomdmcmnbhlaaGreatDoor
open Go.RowKit
structure Lost (e o tb lb mb : Nat) (la : Int) (q : St7) (a : St6) (d : Int) (lg : Lg) (ns : List Int) (w w' : World) (m : Nat) : Prop where
 fl : ∃ q' d' lg',FlC e o tb lb la q' a d' w' ∧ Led lb mb lg' w' ∧ Ok8 lg' ∧ d' ≤ 9223372036854775807 ∧ (lg.l = [] → ns = [] ∧ q' = q ∧ d' = d ∧ lg' = lg)
 keep : Keep [e,lb,mb] w w'
 rgn : Rgn e o (o + 14) w w'
 few : ns.length ≤ m
 wf : ∀ n ∈ ns,(Lit.int .i64 n).wf = true
theorem wf_num {n : Int} (h0 : 0 ≤ n) (h1 : n ≤ 4611686018427387903) : (Lit.int .i64 n).wf = true:=WalkArith.wf_i64 ⟨by omega,by omega⟩
theorem wf_pks {lg : Lg} (h : Ok8 lg) {l : List Pk} (hl : ∀ p ∈ l,p ∈ lg.l) : ∀ n ∈ l.map (·.n),(Lit.int .i64 n).wf = true:=by
 intro n hn
 obtain ⟨p,hp,rfl⟩:=List.mem_map.1 hn
 have h1:=h.each p (hl p hp)
 have h2:=h.last
 exact wf_num h1.1 (by omega)
theorem giveUp_any {e o tb lb mb : Nat} {la : Int} {q : St7} {a : St6} {d : Int} {lg : Lg} (now : Int) (w : World) (hF : FlC e o tb lb la q a d w) (hL : Led lb mb lg w) (hq : Ok8 lg) (hd : d ≤ 9223372036854775807) (hle : lb ≠ e) (hme : mb ≠ e) :
  Calls Tryz.prog 61 #[.pointer (some ⟨e,o,none⟩),.int .i64 now] w fun x w' => ∃ v' ns,x = .returned v' ∧ Own .i64 3 w' w.heap.size v' ns ∧ Lost e o tb lb mb la q a d lg ns w w' 512:=by
 have none : ∀ w',Below w.heap.size w w' → Lost e o tb lb mb la q a d lg [] w w' 512:=fun w' B =>
  ⟨⟨q,d,lg,hF.below B,hL.below B,hq,hd,fun _ => ⟨rfl,rfl,rfl,rfl⟩⟩,Keep.of_below B,Rgn.below hF.c0.lt B,by simp,by simp⟩
 cases h0 : lg.l.length with
 | zero =>
   refine (giveUp_nil now w hF hL hq hd (List.length_eq_zero_iff.1 h0)).mono ?_
   rintro x w' ⟨rfl,B⟩
   exact ⟨_,[],rfl,Own.nil _ _ _ _,none w' B⟩
 | succ n =>
   by_cases hlt : wrap64 (now - (lg.l.getD n default).t) < (probeE a d).1
   ·refine (giveUp_early now w hF hL hq hd n h0 _ rfl hlt).mono ?_
    rintro x w' ⟨rfl,B⟩
    exact ⟨_,[],rfl,Own.nil _ _ _ _,none w' B⟩
   ·refine (giveUp_all now w hF hL hq hd n h0 _ rfl hlt hle hme).mono ?_
    rintro x w' ⟨v',rfl,O,F,L,K,G⟩
    refine ⟨v',_,rfl,O,⟨_,_,_,F,L,drop_ok8 hq,?_,fun h => ?_⟩,K,G,by rw [List.length_map];exact hq.few,wf_pks hq (fun p hp => hp)⟩
    ·unfold wrap64;omega
    ·rw [h] at h0;simp at h0
theorem loseE_few {lg : Lg} (h : Ok8 lg) (now wait : Int) : (loseE lg now wait).2.length ≤ 512:=by
 unfold loseE
 split
 ·simp
 ·exact Nat.le_trans (List.length_filter_le _ _) h.few
theorem loseE_mem (lg : Lg) (now wait : Int) : ∀ p ∈ (loseE lg now wait).2,p ∈ lg.l:=by
 unfold loseE
 split
 ·intro p hp;cases hp
 ·intro p hp;exact (List.mem_filter.1 hp).1
theorem loseE_nil {lg : Lg} (h0 : lg.l = []) (now wait : Int) : loseE lg now wait = (lg,[]):=by
 obtain ⟨l,x,y,z⟩:=lg
 obtain rfl : l = []:=h0
 unfold loseE
 split <;> simp
theorem flose_any {e o tb lb mb : Nat} {la : Int} {q : St7} {a : St6} {d : Int} {lg : Lg} (now : Int) (w : World) (hF : FlC e o tb lb la q a d w) (hL : Led lb mb lg w) (hq : Ok8 lg) (hd : d ≤ 9223372036854775807) (hle : lb ≠ e) (hme : mb ≠ e) :
  Calls Tryz.prog 31 #[.pointer (some ⟨e,o,none⟩),.int .i64 now] w fun x w' => ∃ v' ns,x = .returned v' ∧ Own .i64 3 w' w.heap.size v' ns ∧ Lost e o tb lb mb la q a d lg ns w w' 1024:=by
 have HF:=qhi hF
 have HL:=qhi hL
 have HQ:=qhi hq
 have HD:=qhi hd
 have HE:=qhi (And.intro hle hme)
 have y8:=hF.c8.1
 have y9:=hF.c9.1
 have y10:=hF.c10.1
 have y11:=hF.c11.1
 have y12:=hF.c12.1
 obtain ⟨h,l,s,v,t⟩:=a
 have HP:=qhi (fun V => loss_any h l s v t V)
 obtain ⟨wt,hwt⟩ : ∃ wt,(lossE ⟨h,l,s,v,t⟩).1 = wt:=⟨_,rfl⟩
 obtain ⟨we,hwe⟩ : ∃ we,(lossE ⟨h,l,s,v,t⟩).2 = we:=⟨_,rfl⟩
 rw [hwt,hwe] at HP
 clear hF hL hq hd hwt hwe hle hme
 go_enter Tryz.func31,Tryz.ntmps31
 go_upto_region 2 with (go_at_call 58;refine (HP.out _).mono ?_;rintro x w2 ⟨rfl,B2⟩;have F2:=qhi (HF.out.below B2);have L2:=qhi (HL.out.below B2);have z1:=F2.out.c1.1;have BB:=qhi B2;clear B2)
 clear y8 y9 y10 y11 y12
 have HS:=qhi (lose_any lb mb lg now wt w2 HQ.out L2.out)
 go_upto_region 3 with (first
  | (go_at_call 60;refine HS.out.mono ?_;rintro x w3 ⟨v3,rfl,O3,L3,K3⟩;have OO3:=qhi O3;have LL3:=qhi L3;have KK3:=qhi K3;clear O3 L3 K3)
  | (go_at_call 59;refine (fall_any (loseE lg now wt).2 _ now _ (F2.out.block (KK3.out.block e F2.out.c0.lt (by have:=HE.out;simp;exact ⟨fun x => this.1 x.symm,fun x => this.2 x.symm⟩))) OO3.out.rd (loseE_few HQ.out now wt) (fun x => by have:=OO3.out.blk e x;have:=F2.out.c0.lt;omega)).mono ?_;rintro x w4 ⟨v4,rfl,O4,F4,K4,G4⟩))
 have hz2:=BB.out.size
 have hz3:=KK3.out.size
 have hz4:=K4.size
 have hlb:=HL.out.row.lt
 have hmb:=HL.out.map.lt
 have hel:=HF.out.c0.lt
 have L4:=LL3.out.keep K4 (by simpa using HE.out.1) (by simpa using HE.out.2)
 have HG:=qhi (giveUp_any now w4 F4 L4 (lose_ok HQ.out now wt) HD.out HE.out.1 HE.out.2)
 have KA : Hid (Keep [e,lb,mb] w w4):=((Keep.of_below (S:=[e,lb,mb]) BB.out).trans KK3.out (fun i hi => .inl (by simp at hi ⊢;rcases hi with x | x <;> simp [x]))).trans K4 (fun i hi => .inl (by simp at hi ⊢;simp [hi]))
 have GA : Hid (Rgn e o (o + 14) w w4):=((Rgn.below hel BB.out).trans (Rgn.keep F2.out.c0.lt KK3.out (by have:=HE.out;simp;exact ⟨fun x => this.1 x.symm,fun x => this.2 x.symm⟩))).trans (G4.mono (by omega) (by omega))
 have hl3 : Hid (((loseE lg now wt).2.map (·.n)).length ≤ 512):=by rw [List.length_map];exact loseE_few HQ.out now wt
 have H4:=qhi O4
 obtain ⟨xs,hxs⟩ : ∃ xs,xs = (loseE lg now wt).2.map (·.n):=⟨_,rfl⟩
 have HXS:=qhi hxs
 rw [← hxs] at H4 hl3
 clear O4 F4 L4 K4 G4 hxs
 go_wp2_with (first
  | (go_at_call 61;refine HG.out.mono ?_;rintro x w5 ⟨v5,ns,rfl,O5,LS⟩;have h5:=qhi O5;have hL5:=qhi LS;have hz5:=LS.keep.size
     have H5 : Hid (Own .i64 3 w5 w.heap.size v4 xs):=Own.mono (ownsRow_block H4.out (fun j hj => LS.keep.block j (Own.blt H4.out j hj) (by have:=Own.blk H4.out j hj;simp only [List.mem_cons,List.not_mem_nil,or_false,not_or];exact ⟨by omega,by omega,by omega⟩))) (by omega);clear O5 LS)
  | (at_builtin;go_loud ((with_reducible refine wpList_append_rd _ ?_ (.tmp 26) (.tmp 29) 85 ?_ elemInt Tryz.underlying85 w.heap.size v4 xs ?_ H5.out v5 ns ?_ h5.out.rd ?_ ?_ ?_ ?_);rfl;rfl;rfl;rfl;(have:=hl3.out;have:=hL5.out.few;omega);(have:=hl3.out;have:=hL5.out.few;unfold maxLen;omega);(omega);intro v6 w6 o6 g6)))
 go_ret
 have hblk : ∀ j,v4.ownBlock = some j → w.heap.size ≤ j:=fun j hj => by have:=Own.blk H4.out j hj;omega
 have K6 : Keep v4.ownBlock.toList w5 w6:=Keep.of_grown g6 (fun j hj => .inl (by simp [hj]))
 have hno : ∀ j,j < w.heap.size → j ∉ v4.ownBlock.toList:=fun j hj hm => by
  have:=hblk j (by simpa using hm)
  omega
 obtain ⟨q',d',lg',F5,L5,hq5,hd5,hsame⟩:=hL5.out.fl
 refine ⟨v6,xs ++ ns,rfl,o6,⟨q',d',lg',F5.block (K6.block e F5.c0.lt (hno e hel)),L5.keep K6 (hno lb hlb) (hno mb hmb),hq5,hd5,fun h0 => ?_⟩,?_,?_,?_,?_⟩
 ·have e0:=loseE_nil h0 now wt
  have hx:=HXS.out
  rw [e0] at hx hsame
  obtain ⟨s1,s2,s3,s4⟩:=hsame h0
  exact ⟨by rw [hx,s1];rfl,s2,s3,s4⟩
 ·exact (KA.out.trans hL5.out.keep (fun i hi => .inl hi)).trans K6 (fun i hi => .inr (hblk i (by simpa using hi)))
 ·exact (GA.out.trans hL5.out.rgn).trans (Rgn.keep F5.c0.lt K6 (hno e hel))
 ·have:=hl3.out
  have:=hL5.out.few
  rw [List.length_append];omega
 ·intro n hn
  rcases List.mem_append.1 hn with hn | hn
  ·rw [HXS.out] at hn
   exact wf_pks HQ.out (loseE_mem lg now wt) n hn
  ·exact hL5.out.wf n hn
def flV (tb lb : Nat) (la : Int) (q : St7) (a : St6) (d : Int) : Value :=
 .agg #[.map (some tb),.pointer (some ⟨lb,0,none⟩),.int .i64 la,.int .i64 q.z,.int .i64 q.t,.int .i64 q.f,.int .i64 q.s,.int .i64 q.p,.bool a.h,.int .i64 a.l,.int .i64 a.s,.int .i64 a.v,.int .i64 a.t,.int .i64 d]
def set14 (w : World) (b : Nat) (x0 x1 x2 x3 x4 x5 x6 x7 x8 x9 x10 x11 x12 x13 : Value) : World:=((((((((((((((w.setCell ⟨b,0,none⟩ x0).setCell ⟨b,1,none⟩ x1).setCell ⟨b,2,none⟩ x2).setCell ⟨b,3,none⟩ x3).setCell ⟨b,4,none⟩ x4).setCell ⟨b,5,none⟩ x5).setCell ⟨b,6,none⟩ x6).setCell ⟨b,7,none⟩ x7).setCell ⟨b,8,none⟩ x8).setCell ⟨b,9,none⟩ x9).setCell ⟨b,10,none⟩ x10).setCell ⟨b,11,none⟩ x11).setCell ⟨b,12,none⟩ x12).setCell ⟨b,13,none⟩ x13)
theorem set14_block {w : World} {b T : Nat} {fr : Nat × Nat} {y0 y1 y2 y3 y4 y5 y6 y7 y8 y9 y10 y11 y12 y13 : Value} (h : w.heap[b]? = some (.cells #[y0,y1,y2,y3,y4,y5,y6,y7,y8,y9,y10,y11,y12,y13] T fr)) (x0 x1 x2 x3 x4 x5 x6 x7 x8 x9 x10 x11 x12 x13 : Value) : (set14 w b x0 x1 x2 x3 x4 x5 x6 x7 x8 x9 x10 x11 x12 x13).heap[b]? = some (.cells #[x0,x1,x2,x3,x4,x5,x6,x7,x8,x9,x10,x11,x12,x13] T fr):=by
 simp [set14,World.setCell,Array.getElem?_modify,h]
theorem set14_keep (w : World) (b : Nat) (x0 x1 x2 x3 x4 x5 x6 x7 x8 x9 x10 x11 x12 x13 : Value) : Keep [b] w (set14 w b x0 x1 x2 x3 x4 x5 x6 x7 x8 x9 x10 x11 x12 x13) :=
 have T : ∀ {a b' c : World},Keep [b] a b' → Keep [b] b' c → Keep [b] a c:=fun h k => h.trans k (fun i hi => .inl hi)
 (T (T (T (T (T (T (T (T (T (T (T (T (T (T (Keep.refl [b] w) (keep_setCell _ b 0 x0)) (keep_setCell _ b 1 x1)) (keep_setCell _ b 2 x2)) (keep_setCell _ b 3 x3)) (keep_setCell _ b 4 x4)) (keep_setCell _ b 5 x5)) (keep_setCell _ b 6 x6)) (keep_setCell _ b 7 x7)) (keep_setCell _ b 8 x8)) (keep_setCell _ b 9 x9)) (keep_setCell _ b 10 x10)) (keep_setCell _ b 11 x11)) (keep_setCell _ b 12 x12)) (keep_setCell _ b 13 x13))
theorem newFlight_any (w : World) :
  Calls Tryz.prog 48 #[] w fun x w' => ∃ tb lb mb,x = .returned (flV tb lb (-1) ⟨12000,0,0,-1,0⟩ ⟨false,0,0,0,0⟩ 0) ∧ Mt w' tb [] ∧ Led lb mb fresh8 w' ∧ w.heap.size ≤ tb ∧ w.heap.size ≤ lb ∧ w.heap.size ≤ mb ∧ tb ≠ lb ∧ tb ≠ mb ∧ Below w.heap.size w w':=by
 have hmm:=@run_makeMap Tryz.prog
 have HS:=qhi new_any8
 have HC:=qhi new_any7
 go_enter Tryz.func48,Tryz.ntmps48
 go_upto_region 1 with fail
 have CB : Hid ((w.alloc (.cells #[.map none,.pointer none,.int .i64 0,.int .i64 0,.int .i64 0,.int .i64 0,.int .i64 0,.int .i64 0,.bool false,.int .i64 0,.int .i64 0,.int .i64 0,.int .i64 0,.int .i64 0] 62)).heap[w.heap.size]? = some (.cells #[.map none,.pointer none,.int .i64 0,.int .i64 0,.int .i64 0,.int .i64 0,.int .i64 0,.int .i64 0,.bool false,.int .i64 0,.int .i64 0,.int .i64 0,.int .i64 0,.int .i64 0] 62 (0,0))):=by
  show (w.heap.push _)[w.heap.size]? = _;simp
 have BB : Hid (Below w.heap.size w (w.alloc (.cells #[.map none,.pointer none,.int .i64 0,.int .i64 0,.int .i64 0,.int .i64 0,.int .i64 0,.int .i64 0,.bool false,.int .i64 0,.int .i64 0,.int .i64 0,.int .i64 0,.int .i64 0] 62))):=(qbr _ w).alloc (qlr _) _
 have HZ : Hid (w.heap.size < (w.alloc (.cells #[.map none,.pointer none,.int .i64 0,.int .i64 0,.int .i64 0,.int .i64 0,.int .i64 0,.int .i64 0,.bool false,.int .i64 0,.int .i64 0,.int .i64 0,.int .i64 0,.int .i64 0] 62)).heap.size):=(by simp : _ < _)
 generalize w.alloc (.cells #[.map none,.pointer none,.int .i64 0,.int .i64 0,.int .i64 0,.int .i64 0,.int .i64 0,.int .i64 0,.bool false,.int .i64 0,.int .i64 0,.int .i64 0,.int .i64 0,.int .i64 0] 62) = W at CB BB HZ ⊢
 have HM:=qhi (Mt.made W)
 have BM : Hid (Below W.heap.size W (W.alloc (.map #[] 0))):=(qbr _ W).alloc (qlr _) _
 have hzm : Hid ((W.alloc (.map #[] 0)).heap.size = W.heap.size + 1):=(by simp : _ = _)
 go_wp2_with (first
  | (go_at_call 86;refine (HS.out _).mono ?_;rintro x W3 ⟨rfl,L3,B3⟩;have LL3:=qhi L3;have BB3:=qhi B3;clear L3 B3)
  | (go_at_call 87;refine (HC.out _).mono ?_;rintro x W4 ⟨rfl,B4⟩;have BW : Hid (Below W.heap.size W W4):=(BM.out.trans (BB3.out.mono BM.out.size)).trans (B4.mono (Nat.le_trans BM.out.size BB3.out.size))
     have FR : Hid (∀ i,W4.frozen? ⟨w.heap.size,i,none⟩ = false):=fun i => by
      have:=BW.out.block _ HZ.out
      simp only [World.frozen?];rw [this,CB.out];simp
     have u0 : W4.cell? ⟨w.heap.size,0,none⟩ = some (.map none):=(World.cell?_of_block (w:=W) (BW.out.block _ HZ.out)).trans (by simp [World.cell?,CB.out])
     have f0 : W4.frozen? ⟨w.heap.size,0,none⟩ = false:=(FR.out 0)
     have u1 : W4.cell? ⟨w.heap.size,1,none⟩ = some (.pointer none):=(World.cell?_of_block (w:=W) (BW.out.block _ HZ.out)).trans (by simp [World.cell?,CB.out])
     have f1 : W4.frozen? ⟨w.heap.size,1,none⟩ = false:=(FR.out 1)
     have u2 : W4.cell? ⟨w.heap.size,2,none⟩ = some (.int .i64 0):=(World.cell?_of_block (w:=W) (BW.out.block _ HZ.out)).trans (by simp [World.cell?,CB.out])
     have f2 : W4.frozen? ⟨w.heap.size,2,none⟩ = false:=(FR.out 2)
     have u3 : W4.cell? ⟨w.heap.size,3,none⟩ = some (.int .i64 0):=(World.cell?_of_block (w:=W) (BW.out.block _ HZ.out)).trans (by simp [World.cell?,CB.out])
     have f3 : W4.frozen? ⟨w.heap.size,3,none⟩ = false:=(FR.out 3)
     have u4 : W4.cell? ⟨w.heap.size,4,none⟩ = some (.int .i64 0):=(World.cell?_of_block (w:=W) (BW.out.block _ HZ.out)).trans (by simp [World.cell?,CB.out])
     have f4 : W4.frozen? ⟨w.heap.size,4,none⟩ = false:=(FR.out 4)
     have u5 : W4.cell? ⟨w.heap.size,5,none⟩ = some (.int .i64 0):=(World.cell?_of_block (w:=W) (BW.out.block _ HZ.out)).trans (by simp [World.cell?,CB.out])
     have f5 : W4.frozen? ⟨w.heap.size,5,none⟩ = false:=(FR.out 5)
     have u6 : W4.cell? ⟨w.heap.size,6,none⟩ = some (.int .i64 0):=(World.cell?_of_block (w:=W) (BW.out.block _ HZ.out)).trans (by simp [World.cell?,CB.out])
     have f6 : W4.frozen? ⟨w.heap.size,6,none⟩ = false:=(FR.out 6)
     have u7 : W4.cell? ⟨w.heap.size,7,none⟩ = some (.int .i64 0):=(World.cell?_of_block (w:=W) (BW.out.block _ HZ.out)).trans (by simp [World.cell?,CB.out])
     have f7 : W4.frozen? ⟨w.heap.size,7,none⟩ = false:=(FR.out 7)
     have u8 : W4.cell? ⟨w.heap.size,8,none⟩ = some (.bool false):=(World.cell?_of_block (w:=W) (BW.out.block _ HZ.out)).trans (by simp [World.cell?,CB.out])
     have f8 : W4.frozen? ⟨w.heap.size,8,none⟩ = false:=(FR.out 8)
     have u9 : W4.cell? ⟨w.heap.size,9,none⟩ = some (.int .i64 0):=(World.cell?_of_block (w:=W) (BW.out.block _ HZ.out)).trans (by simp [World.cell?,CB.out])
     have f9 : W4.frozen? ⟨w.heap.size,9,none⟩ = false:=(FR.out 9)
     have u10 : W4.cell? ⟨w.heap.size,10,none⟩ = some (.int .i64 0):=(World.cell?_of_block (w:=W) (BW.out.block _ HZ.out)).trans (by simp [World.cell?,CB.out])
     have f10 : W4.frozen? ⟨w.heap.size,10,none⟩ = false:=(FR.out 10)
     have u11 : W4.cell? ⟨w.heap.size,11,none⟩ = some (.int .i64 0):=(World.cell?_of_block (w:=W) (BW.out.block _ HZ.out)).trans (by simp [World.cell?,CB.out])
     have f11 : W4.frozen? ⟨w.heap.size,11,none⟩ = false:=(FR.out 11)
     have u12 : W4.cell? ⟨w.heap.size,12,none⟩ = some (.int .i64 0):=(World.cell?_of_block (w:=W) (BW.out.block _ HZ.out)).trans (by simp [World.cell?,CB.out])
     have f12 : W4.frozen? ⟨w.heap.size,12,none⟩ = false:=(FR.out 12)
     have u13 : W4.cell? ⟨w.heap.size,13,none⟩ = some (.int .i64 0):=(World.cell?_of_block (w:=W) (BW.out.block _ HZ.out)).trans (by simp [World.cell?,CB.out])
     have f13 : W4.frozen? ⟨w.heap.size,13,none⟩ = false:=(FR.out 13)
     have BB4:=qhi B4;clear B4))
 have hb4:=(BW.out.block _ HZ.out).trans CB.out
 have HB5:=qhi (set14_block hb4 (.map (some W.heap.size)) (.pointer (some ⟨W.heap.size + 1 + 1,0,none⟩)) (.int .i64 (-1)) (.int .i64 12000) (.int .i64 0) (.int .i64 0) (.int .i64 (-1)) (.int .i64 0) (.bool false) (.int .i64 0) (.int .i64 0) (.int .i64 0) (.int .i64 0) (.int .i64 0))
 have HK5:=qhi (set14_keep W4 w.heap.size (.map (some W.heap.size)) (.pointer (some ⟨W.heap.size + 1 + 1,0,none⟩)) (.int .i64 (-1)) (.int .i64 12000) (.int .i64 0) (.int .i64 0) (.int .i64 (-1)) (.int .i64 0) (.bool false) (.int .i64 0) (.int .i64 0) (.int .i64 0) (.int .i64 0) (.int .i64 0))
 clear u0 f0 u1 f1 u2 f2 u3 f3 u4 f4 u5 f5 u6 f6 u7 f7 u8 f8 u9 f9 u10 f10 u11 f11 u12 f12 u13 f13 hb4
 generalize hW5 : ((((((((((((((W4.setCell ⟨w.heap.size,0,none⟩ (.map (some W.heap.size))).setCell ⟨w.heap.size,1,none⟩ (.pointer (some ⟨W.heap.size + 1 + 1,0,none⟩))).setCell ⟨w.heap.size,2,none⟩ (.int .i64 (-1))).setCell ⟨w.heap.size,3,none⟩ (.int .i64 12000)).setCell ⟨w.heap.size,4,none⟩ (.int .i64 0)).setCell ⟨w.heap.size,5,none⟩ (.int .i64 0)).setCell ⟨w.heap.size,6,none⟩ (.int .i64 (-1))).setCell ⟨w.heap.size,7,none⟩ (.int .i64 0)).setCell ⟨w.heap.size,8,none⟩ (.bool false)).setCell ⟨w.heap.size,9,none⟩ (.int .i64 0)).setCell ⟨w.heap.size,10,none⟩ (.int .i64 0)).setCell ⟨w.heap.size,11,none⟩ (.int .i64 0)).setCell ⟨w.heap.size,12,none⟩ (.int .i64 0)).setCell ⟨w.heap.size,13,none⟩ (.int .i64 0)) = W5
 have e5 : set14 W4 w.heap.size (.map (some W.heap.size)) (.pointer (some ⟨W.heap.size + 1 + 1,0,none⟩)) (.int .i64 (-1)) (.int .i64 12000) (.int .i64 0) (.int .i64 0) (.int .i64 (-1)) (.int .i64 0) (.bool false) (.int .i64 0) (.int .i64 0) (.int .i64 0) (.int .i64 0) (.int .i64 0) = W5:=hW5
 rw [e5] at HB5 HK5
 clear hW5 e5
 have cp:=qcb HB5.out
 have r0 : W5.cell? ⟨w.heap.size,0,none⟩ = some (.map (some W.heap.size)):=cp 0
 have r1 : W5.cell? ⟨w.heap.size,1,none⟩ = some (.pointer (some ⟨W.heap.size + 1 + 1,0,none⟩)):=cp 1
 have r2 : W5.cell? ⟨w.heap.size,2,none⟩ = some (.int .i64 (-1)):=cp 2
 have r3 : W5.cell? ⟨w.heap.size,3,none⟩ = some (.int .i64 12000):=cp 3
 have r4 : W5.cell? ⟨w.heap.size,4,none⟩ = some (.int .i64 0):=cp 4
 have r5 : W5.cell? ⟨w.heap.size,5,none⟩ = some (.int .i64 0):=cp 5
 have r6 : W5.cell? ⟨w.heap.size,6,none⟩ = some (.int .i64 (-1)):=cp 6
 have r7 : W5.cell? ⟨w.heap.size,7,none⟩ = some (.int .i64 0):=cp 7
 have r8 : W5.cell? ⟨w.heap.size,8,none⟩ = some (.bool false):=cp 8
 have r9 : W5.cell? ⟨w.heap.size,9,none⟩ = some (.int .i64 0):=cp 9
 have r10 : W5.cell? ⟨w.heap.size,10,none⟩ = some (.int .i64 0):=cp 10
 have r11 : W5.cell? ⟨w.heap.size,11,none⟩ = some (.int .i64 0):=cp 11
 have r12 : W5.cell? ⟨w.heap.size,12,none⟩ = some (.int .i64 0):=cp 12
 have r13 : W5.cell? ⟨w.heap.size,13,none⟩ = some (.int .i64 0):=cp 13
 clear cp
 refine bodyPost_ret (v:=flV W.heap.size (W.heap.size + 1 + 1) (-1) ⟨12000,0,0,-1,0⟩ ⟨false,0,0,0,0⟩ 0) (by simp [results,Tryz.results48,go_sem,flV,r0,r1,r2,r3,r4,r5,r6,r7,r8,r9,r10,r11,r12,r13]) rfl ?_
 have hz:=hzm.out
 have h1:=HZ.out
 have h3:=BB3.out.size
 have hs4:=BB4.out.size
 have hL:=LL3.out.row.lt
 have hM:=LL3.out.map.lt
 have hne : ∀ i,i ≠ w.heap.size → i ∉ [w.heap.size]:=fun i hi => by simpa using hi
 refine ⟨W.heap.size,_,(W.alloc (.map #[] 0)).heap.size,rfl,?_,?_,by omega,by omega,by omega,by omega,by omega,?_⟩
 ·exact (((HM.out.block (BB3.out.block _ (by omega))).block (BB4.out.block _ (by omega))).block (HK5.out.block _ (by omega) (hne _ (by omega))))
 ·have:=(LL3.out.below BB4.out).keep HK5.out (hne _ (by omega)) (hne _ (by omega))
  rw [hz] at this ⊢
  exact this
 ·have bw:=BB.out.trans (BW.out.mono BB.out.size)
  exact ⟨HK5.out.os.trans bw.os,HK5.out.tape.trans bw.tape,HK5.out.output.trans bw.output,Nat.le_trans bw.size HK5.out.size,fun i hi => (HK5.out.block i (by have:=bw.size;omega) (hne _ (by omega))).trans (bw.block i hi)⟩
theorem FlC.last {e o tb lb : Nat} {la : Int} {q : St7} {a : St6} {d : Int} {w : World} (h : FlC e o tb lb la q a d w) (la' : Int) : FlC e o tb lb la' q a d (w.setCell ⟨e,o + 2,none⟩ (.int .i64 la')):=by
 have R : Rgn e (o + 2) (o + 3) w (w.setCell ⟨e,o + 2,none⟩ (.int .i64 la')):=Rgn.set ⟨qlr _,by omega⟩
 exact ⟨h.c0.rgn R (by omega),h.c1.rgn R (by omega),h.c2.set (.int .i64 la') rfl,h.c3.rgn R (by omega),h.c4.rgn R (by omega),h.c5.rgn R (by omega),h.c6.rgn R (by omega),h.c7.rgn R (by omega),h.c8.rgn R (by omega),h.c9.rgn R (by omega),h.c10.rgn R (by omega),h.c11.rgn R (by omega),h.c12.rgn R (by omega),h.c13.rgn R (by omega)⟩
theorem fsend_any {e o tb lb mb G : Nat} {la : Int} {q : St7} {a : St6} {d : Int} {lg : Lg} {l : List Td} (p : Td) (size : Int) (w : World) (hF : FlC e o tb lb la q a d w) (hL : Led lb mb lg w) (hq : Ok8 lg) (hM : Mt w tb l)
  (c0 : w.cell? ⟨G,0,none⟩ = some (.int .i64 p.n)) (c4 : w.cell? ⟨G,4,none⟩ = some (tdS p)) (hl : l.length ≤ 1048576) (hup : ∀ x ∈ l,x.n < p.n) (h0 : 0 ≤ p.n ∧ p.n ≤ 4611686018427387903)
  (d1 : lb ≠ e) (d2 : mb ≠ e) (d3 : tb ≠ e) (d4 : tb ≠ lb) (d5 : tb ≠ mb) (g1 : G ≠ e) (g2 : G ≠ lb) (g3 : G ≠ mb) (g4 : G ≠ tb) :
  Calls Tryz.prog 40 #[.pointer (some ⟨e,o,none⟩),.pointer (some ⟨G,0,none⟩),.int .i64 p.t,.int .i64 size] w fun x w' => x = .returned (.tuple #[]) ∧ (∃ q',FlC e o tb lb p.n q' a d w') ∧ Led lb mb (sentE8 lg p.n p.t size).1 w' ∧ Mt w' tb (l ++ [p]) ∧ Keep [e,lb,mb,tb] w w' ∧ Rgn e o (o + 14) w w':=by
 have HF:=qhi hF
 have HL:=qhi hL
 have HQ:=qhi hq
 have HM:=qhi hM
 have HC0:=qhi c0
 have HC4:=qhi c4
 have HUP:=qhi hup
 have HLN:=qhi hl
 have H0:=qhi h0
 have x0:=hF.c0.1
 obtain ⟨ad,ln,cp,hps⟩ : ∃ ad ln cp,tdS p = .slice ad ln cp:=⟨_,_,_,rfl⟩
 have HPS:=qhi hps
 rw [hps] at c4
 obtain ⟨n,hn⟩ : ∃ n,n = p.n:=⟨_,rfl⟩
 have HN:=qhi hn
 rw [← hn] at c0
 obtain ⟨tt,htt⟩ : ∃ tt,tt = p.t:=⟨_,rfl⟩
 have HTT:=qhi htt
 rw [← htt]
 have HV : Hid ((.agg #[.int .i64 tt,.slice ad ln cp] : Value) = tdV p):=by rw [htt,← hps];rfl
 have HX : Hid ((.int .i64 n : Value) = .int .i64 p.n):=qhi (congrArg (Value.int .i64) hn)
 have HEL:=qhi hF.c0.lt
 have HD : Hid (lb ≠ e ∧ mb ≠ e ∧ tb ≠ e ∧ tb ≠ lb ∧ tb ≠ mb ∧ G ≠ e ∧ G ≠ lb ∧ G ≠ mb ∧ G ≠ tb):=⟨d1,d2,d3,d4,d5,g1,g2,g3,g4⟩
 clear hF hL hq hM hup hl h0 hps hn htt d1 d2 d3 d4 d5 g1 g2 g3 g4
 go_enter Tryz.func40,Tryz.ntmps40
 go_upto_region 0 with fail
 have x0d : w.drew.cell? ⟨e,o,none⟩ = some (.map (some tb)):=x0
 have c0d : w.drew.cell? ⟨G,0,none⟩ = some (.int .i64 n):=c0
 have c4d : w.drew.cell? ⟨G,4,none⟩ = some (.slice ad ln cp):=c4
 go_still_tail 14,(by kernel_rfl)
 repeat still_step
 change wpList _ _ _ _ _ w.drew
 go_upto_region 1 with (at_mapUpdate;refine wpList_put_td _ rfl (.tmp 11) (.tmp 15) (.tmp 21) rfl tb l p rfl (HM.out.block rfl) HLN.out HX.out HV.out H0.out HUP.out ?_;intro w1 hM1 ht1;have HM1:=qhi hM1;have HG1:=qhi ht1.grown;clear hM1 ht1)
 clear x0 c0 c4 x0d c0d c4d
 have K1 : Hid (Keep [tb] w w1):=by
  have k : Keep [tb] w.drew w1:=Keep.of_grown HG1.out (fun j hj => .inl (by cases hj;simp))
  exact ⟨k.os,k.tape,k.output,k.size,k.block⟩
 have F1:=qhi (HF.out.block (K1.out.block e HEL.out (by simpa using fun x => HD.out.2.2.1 x.symm)))
 have L1:=qhi (HL.out.keep K1.out (by simpa using fun x => HD.out.2.2.2.1 x.symm) (by simpa using fun x => HD.out.2.2.2.2.1 x.symm))
 have hGl : Hid (G < w.heap.size):=cell_lt HC0.out
 have eG:=World.cell?_of_block (w:=w) (a:=⟨G,0,none⟩) (K1.out.block G hGl.out (by simpa using HD.out.2.2.2.2.2.2.2.2))
 have c01 : w1.drew.cell? ⟨G,0,none⟩ = some (.int .i64 n):=by
  have:=eG.trans HC0.out
  rw [← HN.out] at this
  exact this
 have c02 : w1.cell? ⟨G,0,none⟩ = some (.int .i64 n):=c01
 have x1 : w1.cell? ⟨e,o + 1,none⟩ = some (.pointer (some ⟨lb,0,none⟩)):=F1.out.c1.1
 have x1d : w1.drew.cell? ⟨e,o + 1,none⟩ = some (.pointer (some ⟨lb,0,none⟩)):=x1
 clear eG
 have HS:=qhi (sent_any lb mb lg n tt size w1.drew HQ.out (L1.out.below (qbd (qbr _ _) 1)))
 go_still_tail 10,(by kernel_rfl)
 repeat still_step
 change wpList _ _ _ _ _ w1.drew
 go_upto_region 2 with (go_at_call 72;refine HS.out.mono ?_;rintro x w2 ⟨rfl,L2,K2⟩;have LL2:=qhi L2;have KK2:=qhi K2;clear L2 K2)
 have hw1 : w1.heap.size ≤ w2.heap.size:=KK2.out.size
 have hw0 : w.heap.size ≤ w1.heap.size:=K1.out.size
 have hne : e ∉ [lb,mb]:=by have:=HD.out;simp only [List.mem_cons,List.not_mem_nil,or_false,not_or];exact ⟨fun x => this.1 x.symm,fun x => this.2.1 x.symm⟩
 have hnG : G ∉ [lb,mb]:=by have:=HD.out;simp only [List.mem_cons,List.not_mem_nil,or_false,not_or];exact ⟨this.2.2.2.2.2.2.1,this.2.2.2.2.2.2.2.1⟩
 have hnt : tb ∉ [lb,mb]:=by have:=HD.out;simp only [List.mem_cons,List.not_mem_nil,or_false,not_or];exact ⟨this.2.2.2.1,this.2.2.2.2.1⟩
 have F2:=qhi (F1.out.block (KK2.out.block e F1.out.c0.lt hne))
 have M2:=qhi (HM1.out.block (KK2.out.block tb HM1.out.lt hnt))
 have g2c : w2.cell? ⟨G,0,none⟩ = some (.int .i64 n):=(World.cell?_of_block (w:=w1) (KK2.out.block G (cell_lt c02) hnG)).trans c02
 obtain ⟨l2,l2f⟩:=F2.out.c2
 clear c01 c02 x1 x1d hnG hnt
 go_upto_region 3 with fail
 have F3:=qhi (F2.out.last n)
 have K3:=qhi (keep_setCell w2 e (o + 2) (.int .i64 n))
 have G3 : Hid (Rgn e o (o + 14) w2 (w2.setCell ⟨e,o + 2,none⟩ (.int .i64 n))):=Rgn.set ⟨by omega,by omega⟩
 clear l2 l2f g2c
 generalize w2.setCell ⟨e,o + 2,none⟩ (.int .i64 n) = w3 at F3 K3 G3 ⊢
 obtain ⟨z,t1,f,s,p1⟩:=q
 obtain ⟨⟨⟨z',t',f',s',p'⟩,e'⟩,he⟩ : ∃ r,sentE7 ⟨z,t1,f,s,p1⟩ size = r:=⟨_,rfl⟩
 have HC:=qhi (fun V => sent_eq he V)
 clear he
 have y3 : w3.cell? ⟨e,o + 3,none⟩ = some (.int .i64 z):=F3.out.c3.1
 have y4 : w3.cell? ⟨e,o + 4,none⟩ = some (.int .i64 t1):=F3.out.c4.1
 have y5 : w3.cell? ⟨e,o + 5,none⟩ = some (.int .i64 f):=F3.out.c5.1
 have y6 : w3.cell? ⟨e,o + 6,none⟩ = some (.int .i64 s):=F3.out.c6.1
 have y7 : w3.cell? ⟨e,o + 7,none⟩ = some (.int .i64 p1):=F3.out.c7.1
 go_wp2_with (go_at_call 73;refine (HC.out _).mono ?_;rintro x w4 ⟨rfl,b4⟩;have F4:=qhi (F3.out.below b4);obtain ⟨u3,v3⟩:=F4.out.c3;obtain ⟨u4,v4⟩:=F4.out.c4;obtain ⟨u5,v5⟩:=F4.out.c5;obtain ⟨u6,v6⟩:=F4.out.c6;obtain ⟨u7,v7⟩:=F4.out.c7)
 clear y3 y4 y5 y6 y7 u3 v3 u4 v4 u5 v5 u6 v6 u7 v7
 generalize hW5 : ((((w4.setCell ⟨e,o + 3,none⟩ (.int .i64 z')).setCell ⟨e,o + 3 + 1,none⟩ (.int .i64 t')).setCell ⟨e,o + 3 + 2,none⟩ (.int .i64 f')).setCell ⟨e,o + 3 + 3,none⟩ (.int .i64 s')).setCell ⟨e,o + 3 + 4,none⟩ (.int .i64 p') = W5
 have e5 : W5 = setWin w4 e o ⟨z',t',f',s',p'⟩:=hW5.symm
 clear hW5
 go_end0
 have F5:=F4.out.win ⟨z',t',f',s',p'⟩
 have K5:=setWin_keep w4 e o ⟨z',t',f',s',p'⟩
 have G5:=setWin_rgn w4 e o ⟨z',t',f',s',p'⟩
 rw [← e5] at F5 K5 G5
 have hd:=HD.out
 have KL : Keep [lb,mb] w1 w2:=⟨KK2.out.os,KK2.out.tape,KK2.out.output,KK2.out.size,KK2.out.block⟩
 have KA : Keep [e,lb,mb,tb] w w2:=((Keep.refl [e,lb,mb,tb] w).trans K1.out (fun i hi => .inl (by simp at hi ⊢;simp [hi]))).trans KL (fun i hi => .inl (by simp at hi ⊢;rcases hi with x | x <;> simp [x]))
 have KB : Keep [e] w2 W5:=(K3.out.trans (S':=[]) (Keep.of_below b4) (by simp)).trans K5 (fun i hi => .inl hi)
 have hn:=HN.out
 refine ⟨rfl,⟨_,by rw [← hn];exact F5⟩,?_,?_,KA.trans KB (fun i hi => .inl (by simp at hi ⊢;simp [hi])),?_⟩
 ·have:=LL2.out.keep KB (by simpa using hd.1) (by simpa using hd.2.1)
  rw [hn] at this
  exact this
 ·exact M2.out.block (KB.block tb M2.out.lt (by simpa using hd.2.2.1))
 ·have r1 : Rgn e o (o + 14) w w2:=Rgn.of_block ((KL.block e F1.out.c0.lt hne).trans (K1.out.block e HEL.out (by simpa using fun x => hd.2.2.1 x.symm)))
  exact ((r1.trans G3.out).trans (Rgn.below F3.out.c0.lt b4)).trans (G5.mono (by omega) (by omega))
structure FQ where
 tb : Nat
 lb : Nat
 mb : Nat
 la : Int
 win : St7
 ans : St6
 d : Int
 lg : Lg
 l : List Td
def PtOk (p : Pt) : Prop:=0 ≤ p.s ∧ p.s < 4 ∧ p.f ≤ p.t
def UpT (l : List Td) : Prop:=l.Pairwise fun p q => p.n < q.n
def TdOk (c : Col) (k : Nat) (x : Td) (w : World) : Prop :=
 ∃ ps : List Pt,w.ownsRow 0 122 4 (tdS x) ps.length (ptC ps) ∧ (∀ p ∈ ps,PtOk p) ∧ (∀ j,x.row = some j → c j = k) ∧ ps.length ≤ 64
structure Fly (c : Col) (k e o : Nat) (q : FQ) (w : World) : Prop where
 cells : FlC e o q.tb q.lb q.la q.win q.ans q.d w
 led : Led q.lb q.mb q.lg w
 ok : Ok8 q.lg
 map : Mt w q.tb q.l
 up : UpT q.l
 nums : ∀ x ∈ q.l,0 ≤ x.n ∧ x.n ≤ q.la
 last : -1 ≤ q.la ∧ q.la ≤ 1048575
 many : (q.l.length : Int) ≤ q.la + 1
 dbl : q.d ≤ 9223372036854775807
 rows : ∀ x ∈ q.l,TdOk c k x w
 col : c q.tb = k ∧ c q.lb = k ∧ c q.mb = k
 ne : c e ≠ k
 ap : q.tb ≠ q.lb ∧ q.tb ≠ q.mb ∧ ∀ x ∈ q.l,∀ j,x.row = some j → j ≠ q.tb ∧ j ≠ q.lb ∧ j ≠ q.mb
theorem tdS_own (x : Td) : (tdS x).ownBlock = x.row:=by
 obtain ⟨n,t,row,len,cap⟩:=x
 cases row <;> rfl
theorem TdOk.stp {c c' : Col} {K : Nat → Prop} {k : Nat} {x : Td} {w w' : World} (h : TdOk c k x w) (s : Stp c c' K w w') (hk : ¬ K k) : TdOk c' k x w':=by
 obtain ⟨ps,h1,h2,h3,h4⟩:=h
 have hl : ∀ j,x.row = some j → j < w.heap.size:=fun j hj => (World.ownsRow.lt h1 j (by rw [tdS_own];exact hj)).2
 refine ⟨ps,ownsRow_stp h1 s (fun j hj => ?_),h2,fun j hj => (s.col j (hl j hj)).trans (h3 j hj),h4⟩
 rw [tdS_own] at hj
 rw [h3 j hj]
 exact hk
theorem Led.stp {c c' : Col} {K : Nat → Prop} {b mb : Nat} {q : Lg} {w w' : World} (h : Led b mb q w) (s : Stp c c' K w w') (h1 : ¬ K (c b)) (h2 : ¬ K (c mb)) : Led b mb q w' :=
 ⟨h.row.block (s.block b h.row.lt h1),h.map.block (s.block mb h.map.lt h2)⟩
theorem Fly.frame {c c' : Col} {K : Nat → Prop} {k e o lo hi : Nat} {q : FQ} {w w' : World} (h : Fly c k e o q w) (s : Stp c c' K w w') (r : Rgn e lo hi w w') (hk : ¬ K k) (hd : o + 14 ≤ lo ∨ hi ≤ o) : Fly c' k e o q w':=by
 obtain ⟨k1,k2,k3⟩:=h.col
 exact ⟨h.cells.rgn r hd,h.led.stp s (by rw [k2];exact hk) (by rw [k3];exact hk),h.ok,h.map.block (s.block _ h.map.lt (by rw [k1];exact hk)),h.up,h.nums,h.last,h.many,h.dbl,fun x hx => (h.rows x hx).stp s hk,
  ⟨(s.col _ h.map.lt).trans k1,(s.col _ h.led.row.lt).trans k2,(s.col _ h.led.map.lt).trans k3⟩,by rw [s.col _ h.cells.c0.lt];exact h.ne,h.ap⟩
theorem Fly.stp {c c' : Col} {K : Nat → Prop} {k e o : Nat} {q : FQ} {w w' : World} (h : Fly c k e o q w) (s : Stp c c' K w w') (hk : ¬ K k) (he : ¬ K (c e)) : Fly c' k e o q w' :=
 h.frame s (Rgn.of_block (lo:=0) (hi:=0) (s.block e h.cells.c0.lt he)) hk (.inr (Nat.zero_le _))
theorem Fly.below {c : Col} {k e o : Nat} {q : FQ} {w w' : World} (h : Fly c k e o q w) (hb : Below w.heap.size w w') : Fly c k e o q w' :=
 h.stp (K:=fun _ => False) (Stp.of_below hb) (fun x => x) (fun x => x)
theorem Fly.apart {c : Col} {k e o : Nat} {q : FQ} {w : World} (h : Fly c k e o q w) : q.lb ≠ e ∧ q.mb ≠ e ∧ q.tb ≠ e :=
 ⟨fun x => h.ne (x ▸ h.col.2.1),fun x => h.ne (x ▸ h.col.2.2),fun x => h.ne (x ▸ h.col.1)⟩
theorem TdOk.keep {c : Col} {k : Nat} {S : List Nat} {x : Td} {w w' : World} (h : TdOk c k x w) (s : Keep S w w') (hn : ∀ j,x.row = some j → j ∉ S) : TdOk c k x w':=by
 obtain ⟨ps,h1,h2,h3⟩:=h
 exact ⟨ps,ownsRow_block h1 (fun j hj => s.block j (World.ownsRow.lt h1 j hj).2 (hn j (by rw [tdS_own] at hj;exact hj))),h2,h3⟩
theorem Fly.off {c : Col} {k e o : Nat} {q : FQ} {w : World} (h : Fly c k e o q w) {x : Td} (hx : x ∈ q.l) {j : Nat} (hj : x.row = some j) : j ∉ [e,q.lb,q.mb,q.tb]:=by
 obtain ⟨ps,_,_,h3,_⟩:=h.rows x hx
 obtain ⟨a1,a2,a3⟩:=h.ap.2.2 x hx j hj
 simp only [List.mem_cons,List.not_mem_nil,or_false,not_or]
 exact ⟨fun y => h.ne (by rw [← y];exact h3 j hj),a2,a3,a1⟩
theorem Fly.turn {c : Col} {k e o : Nat} {q : FQ} {w w' : World} (h : Fly c k e o q w) (K : Keep [e,q.lb,q.mb] w w') {win : St7} {ans : St6} {d : Int} {lg : Lg} (hF : FlC e o q.tb q.lb q.la win ans d w') (hL : Led q.lb q.mb lg w') (hq : Ok8 lg) (hd : d ≤ 9223372036854775807) :
  Fly c k e o ⟨q.tb,q.lb,q.mb,q.la,win,ans,d,lg,q.l⟩ w':=by
 have ht : q.tb ∉ [e,q.lb,q.mb]:=by
  simp only [List.mem_cons,List.not_mem_nil,or_false,not_or]
  exact ⟨h.apart.2.2,h.ap.1,h.ap.2.1⟩
 exact ⟨hF,hL,hq,h.map.block (K.block _ h.map.lt ht),h.up,h.nums,h.last,h.many,hd,fun x hx => (h.rows x hx).keep K (fun j hj hm => h.off hx hj (by simp at hm ⊢;rcases hm with y | y | y <;> simp [y])),h.col,h.ne,h.ap⟩
theorem flyLose {c : Col} {k e o : Nat} {q : FQ} (now : Int) (w : World) (h : Fly c k e o q w) :
  Calls Tryz.prog 31 #[.pointer (some ⟨e,o,none⟩),.int .i64 now] w fun x w' => ∃ v' ns win d lg,x = .returned v' ∧ Own .i64 3 w' w.heap.size v' ns ∧ (ns.length ≤ 1024 ∧ ∀ n ∈ ns,(Lit.int .i64 n).wf = true) ∧ Fly c k e o ⟨q.tb,q.lb,q.mb,q.la,win,q.ans,d,lg,q.l⟩ w' ∧
   Stp c c (fun i => i = k ∨ i = c e) w w' ∧ Rgn e o (o + 14) w w' ∧ (q.lg.l = [] → ns = [] ∧ win = q.win ∧ d = q.d ∧ lg = q.lg):=by
 refine (flose_any now w h.cells h.led h.ok h.dbl h.apart.1 h.apart.2.1).mono ?_
 rintro x w' ⟨v',ns,rfl,O,L⟩
 obtain ⟨win,d,lg,hF,hL,hq,hd,hs⟩:=L.fl
 exact ⟨v',ns,win,d,lg,rfl,O,⟨L.few,L.wf⟩,h.turn L.keep hF hL hq hd,Stp.of_keep L.keep (fun i hi _ => by simp at hi;rcases hi with y | y | y <;> subst y <;> simp [h.col.2.1,h.col.2.2]),L.rgn,hs⟩
theorem flyRoom {c : Col} {k e o : Nat} {q : FQ} (w : World) (h : Fly c k e o q w) :
  Calls Tryz.prog 35 #[.pointer (some ⟨e,o,none⟩)] w fun x w' => x = .returned (.int .i64 (if 512 ≤ q.lg.l.length then 0 else roomI q.win)) ∧ Below w.heap.size w w':=froom_any w h.cells h.led h.ok
theorem flySend {c : Col} {k e o G : Nat} {q : FQ} (p : Td) (size : Int) (w : World) (h : Fly c k e o q w) (c0 : w.cell? ⟨G,0,none⟩ = some (.int .i64 p.n)) (c4 : w.cell? ⟨G,4,none⟩ = some (tdS p))
  (hp : TdOk c k p w) (hn : q.la < p.n ∧ p.n ≤ 1048575) (hap : ∀ j,p.row = some j → j ≠ q.tb ∧ j ≠ q.lb ∧ j ≠ q.mb) (g1 : G ≠ e) (g2 : G ≠ q.lb) (g3 : G ≠ q.mb) (g4 : G ≠ q.tb) :
  Calls Tryz.prog 40 #[.pointer (some ⟨e,o,none⟩),.pointer (some ⟨G,0,none⟩),.int .i64 p.t,.int .i64 size] w fun x w' => ∃ win lg,x = .returned (.tuple #[]) ∧ Fly c k e o ⟨q.tb,q.lb,q.mb,p.n,win,q.ans,q.d,lg,q.l ++ [p]⟩ w' ∧
   Stp c c (fun i => i = k ∨ i = c e) w w' ∧ Rgn e o (o + 14) w w':=by
 have hla:=h.last
 have hup : ∀ x ∈ q.l,x.n < p.n:=fun x hx => by have:=h.nums x hx;omega
 have hmany:=h.many
 refine (fsend_any p size w h.cells h.led h.ok h.map c0 c4 (by omega) hup ⟨by omega,by omega⟩ h.apart.1 h.apart.2.1 h.apart.2.2 h.ap.1 h.ap.2.1 g1 g2 g3 g4).mono ?_
 rintro x w' ⟨rfl,⟨win,F⟩,L,M,K,R⟩
 have hoff : ∀ j,p.row = some j → j ∉ [e,q.lb,q.mb,q.tb]:=fun j hj => by
  obtain ⟨ps,_,_,h3,_⟩:=hp
  obtain ⟨a1,a2,a3⟩:=hap j hj
  simp only [List.mem_cons,List.not_mem_nil,or_false,not_or]
  exact ⟨fun y => h.ne (by rw [← y];exact h3 j hj),a2,a3,a1⟩
 refine ⟨win,_,rfl,⟨F,L,sent_ok h.ok _ _ _,M,?_,?_,⟨by show -1 ≤ p.n;omega,hn.2⟩,?_,h.dbl,?_,h.col,h.ne,h.ap.1,h.ap.2.1,?_⟩,Stp.of_keep K (fun i hi _ => by simp at hi;rcases hi with y | y | y | y <;> subst y <;> simp [h.col.1,h.col.2.1,h.col.2.2]),R⟩
 ·refine List.pairwise_append.2 ⟨h.up,List.pairwise_singleton _ _,fun a ha b hb => ?_⟩
  rw [List.mem_singleton.1 hb]
  exact hup a ha
 ·intro x hx
  rcases List.mem_append.1 hx with hx | hx
  ·have:=h.nums x hx
   exact ⟨this.1,by show x.n ≤ p.n;omega⟩
  ·rw [List.mem_singleton.1 hx]
   exact ⟨by omega,Int.le_refl _⟩
 ·show (((q.l ++ [p]).length : Nat) : Int) ≤ p.n + 1
  rw [List.length_append,List.length_singleton]
  omega
 ·intro x hx
  rcases List.mem_append.1 hx with hx | hx
  ·exact (h.rows x hx).keep K (fun j hj => h.off hx hj)
  ·rw [List.mem_singleton.1 hx]
   exact hp.keep K hoff
 ·intro x hx j hj
  rcases List.mem_append.1 hx with hx | hx
  ·exact h.ap.2.2 x hx j hj
  ·rw [List.mem_singleton.1 hx] at hj
   exact hap j hj
end Go.Proofs.YtmcomdmcmnbhlaaGreatDoor
