import Derived.Test.YtmcomdmcmnbhlaaGreatDoorKCns9
import Derived.Test.YtmcomdmcmnbhlaaGreatDoorKCns2
set_option maxRecDepth 100000
set_option maxHeartbeats 25600000
set_option linter.unusedSimpArgs false
set_option linter.unusedVariables false
set_option linter.unnecessarySimpa false
namespace Go.Proofs.YtmcomdmcmnbhlaaGreatDoor
open Go.RowKit Go.Maps
theorem NewAt.below {e : Nat} {ro key : Int} {tb lb mb : Nat} {P : Nat → RdQ} {S : Nat → Nat} {k : Nat} {w w' : World} (h : NewAt e ro key tb lb mb P S k w) (hb : Below w.heap.size w w') : NewAt e ro key tb lb mb P S k w':=by
 have he:=h.c0.lt
 obtain ⟨t1,t2,t3,t4,t5⟩:=h.bl
 refine ⟨h.c0.below hb,h.c1.below hb,h.c2.below hb,h.c35.below hb,h.c36.below hb,h.c51.below hb,h.c52.below hb,h.c53.below hb,h.fl.below hb,h.map.block (hb.block tb (by omega)),h.led.below hb,h.bl,h.s0,h.up,Nat.le_trans h.top hb.size,fun i hi => ?_,fun i hi hi4 j hj => ?_⟩
 ·obtain ⟨a1,a2,a3,a4⟩:=h.old i hi
  exact ⟨a1.below hb,a2.below hb,a3.below hb,a4⟩
 ·obtain ⟨v,hv⟩:=h.new i hi hi4 j hj
  exact ⟨v,hv.below hb⟩
theorem newAt0 (w1 : World) (ro key : Int) (tb lb mb : Nat) (ht : Mt w1 tb []) (hl : Led lb mb fresh8 w1) (hn : tb ≠ lb ∧ tb ≠ mb) :
  NewAt w1.heap.size ro key tb lb mb (fun _ => newRQ 0 0 0) (fun _ => w1.heap.size + 1) 0 (w1.alloc (.cells #[.int .i64 (ro),.int .u64 key,.int .i64 0,Value.slice none 0 0,Value.int IntKind.i64 0,Value.bool false,Value.int IntKind.i64 0,Value.pointer none,Value.int IntKind.i64 0,Value.int IntKind.i64 0,Value.int IntKind.i64 0,Value.slice none 0 0,Value.int IntKind.i64 0,Value.bool false,Value.int IntKind.i64 0,Value.pointer none,Value.int IntKind.i64 0,Value.int IntKind.i64 0,Value.int IntKind.i64 0,Value.slice none 0 0,Value.int IntKind.i64 0,Value.bool false,Value.int IntKind.i64 0,Value.pointer none,Value.int IntKind.i64 0,Value.int IntKind.i64 0,Value.int IntKind.i64 0,Value.slice none 0 0,Value.int IntKind.i64 0,Value.bool false,Value.int IntKind.i64 0,Value.pointer none,Value.int IntKind.i64 0,Value.int IntKind.i64 0,Value.int IntKind.i64 0,.int .i64 0,.int .i64 0,.map (some tb),.pointer (some ⟨lb,0,none⟩),.int .i64 (-1),.int .i64 12000,.int .i64 0,.int .i64 0,.int .i64 (-1),.int .i64 0,.bool false,.int .i64 0,.int .i64 0,.int .i64 0,.int .i64 0,.int .i64 0,.slice none 0 0,.int .i64 0,.bool false] 66)):=by
 have CS:=Cs.made w1 #[.int .i64 (ro),.int .u64 key,.int .i64 0,Value.slice none 0 0,Value.int IntKind.i64 0,Value.bool false,Value.int IntKind.i64 0,Value.pointer none,Value.int IntKind.i64 0,Value.int IntKind.i64 0,Value.int IntKind.i64 0,Value.slice none 0 0,Value.int IntKind.i64 0,Value.bool false,Value.int IntKind.i64 0,Value.pointer none,Value.int IntKind.i64 0,Value.int IntKind.i64 0,Value.int IntKind.i64 0,Value.slice none 0 0,Value.int IntKind.i64 0,Value.bool false,Value.int IntKind.i64 0,Value.pointer none,Value.int IntKind.i64 0,Value.int IntKind.i64 0,Value.int IntKind.i64 0,Value.slice none 0 0,Value.int IntKind.i64 0,Value.bool false,Value.int IntKind.i64 0,Value.pointer none,Value.int IntKind.i64 0,Value.int IntKind.i64 0,Value.int IntKind.i64 0,.int .i64 0,.int .i64 0,.map (some tb),.pointer (some ⟨lb,0,none⟩),.int .i64 (-1),.int .i64 12000,.int .i64 0,.int .i64 0,.int .i64 (-1),.int .i64 0,.bool false,.int .i64 0,.int .i64 0,.int .i64 0,.int .i64 0,.int .i64 0,.slice none 0 0,.int .i64 0,.bool false] 66
 have B:=below1 w1 (.cells #[.int .i64 (ro),.int .u64 key,.int .i64 0,Value.slice none 0 0,Value.int IntKind.i64 0,Value.bool false,Value.int IntKind.i64 0,Value.pointer none,Value.int IntKind.i64 0,Value.int IntKind.i64 0,Value.int IntKind.i64 0,Value.slice none 0 0,Value.int IntKind.i64 0,Value.bool false,Value.int IntKind.i64 0,Value.pointer none,Value.int IntKind.i64 0,Value.int IntKind.i64 0,Value.int IntKind.i64 0,Value.slice none 0 0,Value.int IntKind.i64 0,Value.bool false,Value.int IntKind.i64 0,Value.pointer none,Value.int IntKind.i64 0,Value.int IntKind.i64 0,Value.int IntKind.i64 0,Value.slice none 0 0,Value.int IntKind.i64 0,Value.bool false,Value.int IntKind.i64 0,Value.pointer none,Value.int IntKind.i64 0,Value.int IntKind.i64 0,Value.int IntKind.i64 0,.int .i64 0,.int .i64 0,.map (some tb),.pointer (some ⟨lb,0,none⟩),.int .i64 (-1),.int .i64 12000,.int .i64 0,.int .i64 0,.int .i64 (-1),.int .i64 0,.bool false,.int .i64 0,.int .i64 0,.int .i64 0,.int .i64 0,.int .i64 0,.slice none 0 0,.int .i64 0,.bool false] 66)
 have hsz : (w1.alloc (.cells #[.int .i64 (ro),.int .u64 key,.int .i64 0,Value.slice none 0 0,Value.int IntKind.i64 0,Value.bool false,Value.int IntKind.i64 0,Value.pointer none,Value.int IntKind.i64 0,Value.int IntKind.i64 0,Value.int IntKind.i64 0,Value.slice none 0 0,Value.int IntKind.i64 0,Value.bool false,Value.int IntKind.i64 0,Value.pointer none,Value.int IntKind.i64 0,Value.int IntKind.i64 0,Value.int IntKind.i64 0,Value.slice none 0 0,Value.int IntKind.i64 0,Value.bool false,Value.int IntKind.i64 0,Value.pointer none,Value.int IntKind.i64 0,Value.int IntKind.i64 0,Value.int IntKind.i64 0,Value.slice none 0 0,Value.int IntKind.i64 0,Value.bool false,Value.int IntKind.i64 0,Value.pointer none,Value.int IntKind.i64 0,Value.int IntKind.i64 0,Value.int IntKind.i64 0,.int .i64 0,.int .i64 0,.map (some tb),.pointer (some ⟨lb,0,none⟩),.int .i64 (-1),.int .i64 12000,.int .i64 0,.int .i64 0,.int .i64 (-1),.int .i64 0,.bool false,.int .i64 0,.int .i64 0,.int .i64 0,.int .i64 0,.int .i64 0,.slice none 0 0,.int .i64 0,.bool false] 66)).heap.size = w1.heap.size + 1:=by simp
 generalize w1.alloc (.cells #[.int .i64 (ro),.int .u64 key,.int .i64 0,Value.slice none 0 0,Value.int IntKind.i64 0,Value.bool false,Value.int IntKind.i64 0,Value.pointer none,Value.int IntKind.i64 0,Value.int IntKind.i64 0,Value.int IntKind.i64 0,Value.slice none 0 0,Value.int IntKind.i64 0,Value.bool false,Value.int IntKind.i64 0,Value.pointer none,Value.int IntKind.i64 0,Value.int IntKind.i64 0,Value.int IntKind.i64 0,Value.slice none 0 0,Value.int IntKind.i64 0,Value.bool false,Value.int IntKind.i64 0,Value.pointer none,Value.int IntKind.i64 0,Value.int IntKind.i64 0,Value.int IntKind.i64 0,Value.slice none 0 0,Value.int IntKind.i64 0,Value.bool false,Value.int IntKind.i64 0,Value.pointer none,Value.int IntKind.i64 0,Value.int IntKind.i64 0,Value.int IntKind.i64 0,.int .i64 0,.int .i64 0,.map (some tb),.pointer (some ⟨lb,0,none⟩),.int .i64 (-1),.int .i64 12000,.int .i64 0,.int .i64 0,.int .i64 (-1),.int .i64 0,.bool false,.int .i64 0,.int .i64 0,.int .i64 0,.int .i64 0,.int .i64 0,.slice none 0 0,.int .i64 0,.bool false] 66) = w2 at CS B hsz ⊢
 have C : ∀ j v,(#[.int .i64 (ro),.int .u64 key,.int .i64 0,Value.slice none 0 0,Value.int IntKind.i64 0,Value.bool false,Value.int IntKind.i64 0,Value.pointer none,Value.int IntKind.i64 0,Value.int IntKind.i64 0,Value.int IntKind.i64 0,Value.slice none 0 0,Value.int IntKind.i64 0,Value.bool false,Value.int IntKind.i64 0,Value.pointer none,Value.int IntKind.i64 0,Value.int IntKind.i64 0,Value.int IntKind.i64 0,Value.slice none 0 0,Value.int IntKind.i64 0,Value.bool false,Value.int IntKind.i64 0,Value.pointer none,Value.int IntKind.i64 0,Value.int IntKind.i64 0,Value.int IntKind.i64 0,Value.slice none 0 0,Value.int IntKind.i64 0,Value.bool false,Value.int IntKind.i64 0,Value.pointer none,Value.int IntKind.i64 0,Value.int IntKind.i64 0,Value.int IntKind.i64 0,.int .i64 0,.int .i64 0,.map (some tb),.pointer (some ⟨lb,0,none⟩),.int .i64 (-1),.int .i64 12000,.int .i64 0,.int .i64 0,.int .i64 (-1),.int .i64 0,.bool false,.int .i64 0,.int .i64 0,.int .i64 0,.int .i64 0,.int .i64 0,.slice none 0 0,.int .i64 0,.bool false] : Array Value).toList[j]? = some v → Cell w1.heap.size j v w2:=fun j v hv => ⟨CS.get j v hv,CS.free j⟩
 have l1:=ht.lt
 obtain ⟨l2,l3⟩ : lb < w1.heap.size ∧ mb < w1.heap.size:=⟨hl.row.lt,hl.map.lt⟩
 refine ⟨C 0 _ rfl,C 1 _ rfl,C 2 _ rfl,C 35 _ rfl,C 36 _ rfl,C 51 _ rfl,C 52 _ rfl,C 53 _ rfl,⟨C 37 _ rfl,C 38 _ rfl,C 39 _ rfl,C 40 _ rfl,C 41 _ rfl,C 42 _ rfl,C 43 _ rfl,C 44 _ rfl,C 45 _ rfl,C 46 _ rfl,C 47 _ rfl,C 48 _ rfl,C 49 _ rfl,C 50 _ rfl⟩,ht.block (B.block tb l1),hl.below B,⟨l1,l2,l3,hn⟩,rfl,fun i hi => by omega,Nat.le_of_eq hsz.symm,fun i hi => by omega,fun i hi hi4 j hj => ?_⟩
 have hlt : 3 + 8 * i + j < 54:=by omega
 have hlen : (#[.int .i64 (ro),.int .u64 key,.int .i64 0,Value.slice none 0 0,Value.int IntKind.i64 0,Value.bool false,Value.int IntKind.i64 0,Value.pointer none,Value.int IntKind.i64 0,Value.int IntKind.i64 0,Value.int IntKind.i64 0,Value.slice none 0 0,Value.int IntKind.i64 0,Value.bool false,Value.int IntKind.i64 0,Value.pointer none,Value.int IntKind.i64 0,Value.int IntKind.i64 0,Value.int IntKind.i64 0,Value.slice none 0 0,Value.int IntKind.i64 0,Value.bool false,Value.int IntKind.i64 0,Value.pointer none,Value.int IntKind.i64 0,Value.int IntKind.i64 0,Value.int IntKind.i64 0,Value.slice none 0 0,Value.int IntKind.i64 0,Value.bool false,Value.int IntKind.i64 0,Value.pointer none,Value.int IntKind.i64 0,Value.int IntKind.i64 0,Value.int IntKind.i64 0,.int .i64 0,.int .i64 0,.map (some tb),.pointer (some ⟨lb,0,none⟩),.int .i64 (-1),.int .i64 12000,.int .i64 0,.int .i64 0,.int .i64 (-1),.int .i64 0,.bool false,.int .i64 0,.int .i64 0,.int .i64 0,.int .i64 0,.int .i64 0,.slice none 0 0,.int .i64 0,.bool false] : Array Value).toList.length = 54:=rfl
 exact ⟨_,C (3 + 8 * i + j) _ (List.getElem?_eq_getElem (by rw [hlen];exact hlt))⟩
theorem enew (w : World) (role key : Int) (hr : role = 0 ∨ role = 1) (c : Col) (K : Nat) :
  Calls Tryz.prog 18 #[.int .i64 role,.int .u64 key] w fun x w' => ∃ (e : Nat) (c' : Col) (q : EQ),x = .returned (.tuple #[.pointer (some ⟨e,0,none⟩),.int .i64 0]) ∧ EOk c' K e (fun _ => []) (fun _ => false) (fun _ => []) (fun _ => false) q w' ∧ (∀ j,j < w.heap.size → c' j = c j) ∧ Below w.heap.size w w' ∧ w.heap.size ≤ e ∧
   ∃ (P : Nat → RdQ) (tb lb mb : Nat),q = newEQ role key P tb lb mb ∧ ∀ i,i < 4 → P i = newRQ (P i).b (P i).r (P i).m:=by
 have NF0:=newFlight_any w
 unfold flV at NF0
 have NF:=qhi NF0
 clear NF0
 rcases hr with rfl | rfl
 ·go_enter Tryz.func18,Tryz.ntmps18
  go_upto_region 4 with (go_at_call 48;refine NF.out.mono ?_;rintro x w1 ⟨tb,lb,mb,rfl,ht,hl,g1,g2,g3,n1,n2,hb⟩;have HB1:=qhi hb;have HT1:=qhi ht;have HL1:=qhi hl;have HG1 : Hid (w.heap.size ≤ tb ∧ w.heap.size ≤ lb ∧ w.heap.size ≤ mb ∧ tb ≠ lb ∧ tb ≠ mb):=⟨g1,g2,g3,n1,n2⟩;clear ht hl g1 g2 g3 n1 n2 hb)
  have N0:=qhi (newAt0 w1 (0) key tb lb mb HT1.out HL1.out HG1.out.2.2.2)
  have B2 : Hid (Below w.heap.size w (w1.alloc (.cells #[.int .i64 (0),.int .u64 key,.int .i64 0,Value.slice none 0 0,Value.int IntKind.i64 0,Value.bool false,Value.int IntKind.i64 0,Value.pointer none,Value.int IntKind.i64 0,Value.int IntKind.i64 0,Value.int IntKind.i64 0,Value.slice none 0 0,Value.int IntKind.i64 0,Value.bool false,Value.int IntKind.i64 0,Value.pointer none,Value.int IntKind.i64 0,Value.int IntKind.i64 0,Value.int IntKind.i64 0,Value.slice none 0 0,Value.int IntKind.i64 0,Value.bool false,Value.int IntKind.i64 0,Value.pointer none,Value.int IntKind.i64 0,Value.int IntKind.i64 0,Value.int IntKind.i64 0,Value.slice none 0 0,Value.int IntKind.i64 0,Value.bool false,Value.int IntKind.i64 0,Value.pointer none,Value.int IntKind.i64 0,Value.int IntKind.i64 0,Value.int IntKind.i64 0,.int .i64 0,.int .i64 0,.map (some tb),.pointer (some ⟨lb,0,none⟩),.int .i64 (-1),.int .i64 12000,.int .i64 0,.int .i64 0,.int .i64 (-1),.int .i64 0,.bool false,.int .i64 0,.int .i64 0,.int .i64 0,.int .i64 0,.int .i64 0,.slice none 0 0,.int .i64 0,.bool false] 66))):=HB1.out.alloc HB1.out.size _
  generalize w1.alloc (.cells #[.int .i64 (0),.int .u64 key,.int .i64 0,Value.slice none 0 0,Value.int IntKind.i64 0,Value.bool false,Value.int IntKind.i64 0,Value.pointer none,Value.int IntKind.i64 0,Value.int IntKind.i64 0,Value.int IntKind.i64 0,Value.slice none 0 0,Value.int IntKind.i64 0,Value.bool false,Value.int IntKind.i64 0,Value.pointer none,Value.int IntKind.i64 0,Value.int IntKind.i64 0,Value.int IntKind.i64 0,Value.slice none 0 0,Value.int IntKind.i64 0,Value.bool false,Value.int IntKind.i64 0,Value.pointer none,Value.int IntKind.i64 0,Value.int IntKind.i64 0,Value.int IntKind.i64 0,Value.slice none 0 0,Value.int IntKind.i64 0,Value.bool false,Value.int IntKind.i64 0,Value.pointer none,Value.int IntKind.i64 0,Value.int IntKind.i64 0,Value.int IntKind.i64 0,.int .i64 0,.int .i64 0,.map (some tb),.pointer (some ⟨lb,0,none⟩),.int .i64 (-1),.int .i64 12000,.int .i64 0,.int .i64 0,.int .i64 (-1),.int .i64 0,.bool false,.int .i64 0,.int .i64 0,.int .i64 0,.int .i64 0,.int .i64 0,.slice none 0 0,.int .i64 0,.bool false] 66) = w2 at N0 B2 ⊢
  have EW : Hid (w.heap.size ≤ w1.heap.size):=HB1.out.size
  generalize w1.heap.size = e at N0 EW ⊢
  clear HT1 HL1 HB1 NF
  go_wp2_with fail
  go_loopw [19] (fun s wr => ∃ (k : Nat) (P : Nat → RdQ) (S : Nat → Nat),s = .int .i64 (k : Int) ∧ k ≤ 4 ∧ NewAt e (0) key tb lb mb P S k wr ∧ Below w.heap.size w wr) (fun s _ => 4 - (intOf s).toNat)
  case atStart => exact ⟨0,fun _ => newRQ 0 0 0,fun _ => e + 1,rfl,by omega,N0.out,B2.out⟩
  case round =>
   obtain ⟨k,P,S,rfl,hk,hn,hb⟩:=hrel
   have N:=qhi hn
   have B:=qhi hb
   clear hn hb N0 B2
   by_cases hlt : k < 4
   ·have i1 : (k : Int) < 4:=by omega
    have i2 : (0 : Int) ≤ (k : Int):=by omega
    have hwk : IntKind.i64.wrap ((k : Int) + 1) = ((k + 1 : Nat) : Int):=by rw [IntKind.wrap_i64];omega
    have HK:=qhi hlt
    clear hlt hk
    go_upto_region 7 with fail
    have NS:=qhi (newStream_any wr.drew)
    have ND : Hid (NewAt e (0) key tb lb mb P S k wr.drew):=N.out.below (qbd (qbr _ _) 1)
    have BD : Hid (Below w.heap.size w wr.drew):=B.out.trans (qbd (qbr _ _) 1 |>.mono B.out.size)
    go_region_law (first | (go_simp;go_at_call 49;refine NS.out.mono ?_;rintro x w5 ⟨b,r,m,rfl,hstr,hge,hb5⟩;have N5:=qhi (ND.out.step HK.out hb5 hstr hge);have B5:=qhi (BD.out.trans (hb5.mono BD.out.size));have C5:=qhi (ND.out.below hb5);clear hstr hge hb5;obtain ⟨v0,x0,f0⟩:=C5.out.new k (qlr _) HK.out 0 (by omega);obtain ⟨v1,x1,f1⟩:=C5.out.new k (qlr _) HK.out 1 (by omega);obtain ⟨v2,x2,f2⟩:=C5.out.new k (qlr _) HK.out 2 (by omega);obtain ⟨v3,x3,f3⟩:=C5.out.new k (qlr _) HK.out 3 (by omega);obtain ⟨v4,x4,f4⟩:=C5.out.new k (qlr _) HK.out 4 (by omega);obtain ⟨v5,x5,f5⟩:=C5.out.new k (qlr _) HK.out 5 (by omega);obtain ⟨v6,x6,f6⟩:=C5.out.new k (qlr _) HK.out 6 (by omega);obtain ⟨v7,x7,f7⟩:=C5.out.new k (qlr _) HK.out 7 (by omega);rw [Nat.mul_comm 8 k] at x0 f0 x1 f1 x2 f2 x3 f3 x4 f4 x5 f5 x6 f6 x7 f7;simp only [Nat.add_zero] at x0 f0))
    all_goals go_wp2_with fail
    all_goals
     have n5:=N5.out
     unfold setS at n5
     rw [Nat.mul_comm 8 k] at n5
     refine ⟨⟨k + 1,_,_,by simp,by have:=HK.out;omega,n5,?_⟩,by have:=HK.out;simp [intOf];omega⟩
     exact (((((((B5.out.setCell (p:=⟨e,_,none⟩) EW.out _).setCell (p:=⟨e,_,none⟩) EW.out _).setCell (p:=⟨e,_,none⟩) EW.out _).setCell (p:=⟨e,_,none⟩) EW.out _).setCell (p:=⟨e,_,none⟩) EW.out _).setCell (p:=⟨e,_,none⟩) EW.out _).setCell (p:=⟨e,_,none⟩) EW.out _).setCell (p:=⟨e,_,none⟩) EW.out _
   ·have i1 : ¬ ((k : Int) < 4):=by omega
    have hk4 : k = 4:=by omega
    subst hk4
    go_wp2_with fail
    refine bodyPost_ret (v:=.tuple #[.pointer (some ⟨e,0,none⟩),.int .i64 0]) (by simp [results,Tryz.results18,go_sem]) rfl ?_
    exact ⟨e,rfl,newCol c K w.heap.size e S,newEQ (0) key P tb lb mb,N.out.done c K (.inl rfl) ⟨HG1.out.1,HG1.out.2.1,HG1.out.2.2.1⟩,fun j hj => by unfold newCol;rw [if_pos hj],B.out,EW.out,P,⟨tb,lb,mb,rfl⟩,fun i hi => (N.out.old i hi).2.2.2.2.2.2⟩
 ·go_enter Tryz.func18,Tryz.ntmps18
  go_upto_region 4 with (go_at_call 48;refine NF.out.mono ?_;rintro x w1 ⟨tb,lb,mb,rfl,ht,hl,g1,g2,g3,n1,n2,hb⟩;have HB1:=qhi hb;have HT1:=qhi ht;have HL1:=qhi hl;have HG1 : Hid (w.heap.size ≤ tb ∧ w.heap.size ≤ lb ∧ w.heap.size ≤ mb ∧ tb ≠ lb ∧ tb ≠ mb):=⟨g1,g2,g3,n1,n2⟩;clear ht hl g1 g2 g3 n1 n2 hb)
  have N0:=qhi (newAt0 w1 (1) key tb lb mb HT1.out HL1.out HG1.out.2.2.2)
  have B2 : Hid (Below w.heap.size w (w1.alloc (.cells #[.int .i64 (1),.int .u64 key,.int .i64 0,Value.slice none 0 0,Value.int IntKind.i64 0,Value.bool false,Value.int IntKind.i64 0,Value.pointer none,Value.int IntKind.i64 0,Value.int IntKind.i64 0,Value.int IntKind.i64 0,Value.slice none 0 0,Value.int IntKind.i64 0,Value.bool false,Value.int IntKind.i64 0,Value.pointer none,Value.int IntKind.i64 0,Value.int IntKind.i64 0,Value.int IntKind.i64 0,Value.slice none 0 0,Value.int IntKind.i64 0,Value.bool false,Value.int IntKind.i64 0,Value.pointer none,Value.int IntKind.i64 0,Value.int IntKind.i64 0,Value.int IntKind.i64 0,Value.slice none 0 0,Value.int IntKind.i64 0,Value.bool false,Value.int IntKind.i64 0,Value.pointer none,Value.int IntKind.i64 0,Value.int IntKind.i64 0,Value.int IntKind.i64 0,.int .i64 0,.int .i64 0,.map (some tb),.pointer (some ⟨lb,0,none⟩),.int .i64 (-1),.int .i64 12000,.int .i64 0,.int .i64 0,.int .i64 (-1),.int .i64 0,.bool false,.int .i64 0,.int .i64 0,.int .i64 0,.int .i64 0,.int .i64 0,.slice none 0 0,.int .i64 0,.bool false] 66))):=HB1.out.alloc HB1.out.size _
  generalize w1.alloc (.cells #[.int .i64 (1),.int .u64 key,.int .i64 0,Value.slice none 0 0,Value.int IntKind.i64 0,Value.bool false,Value.int IntKind.i64 0,Value.pointer none,Value.int IntKind.i64 0,Value.int IntKind.i64 0,Value.int IntKind.i64 0,Value.slice none 0 0,Value.int IntKind.i64 0,Value.bool false,Value.int IntKind.i64 0,Value.pointer none,Value.int IntKind.i64 0,Value.int IntKind.i64 0,Value.int IntKind.i64 0,Value.slice none 0 0,Value.int IntKind.i64 0,Value.bool false,Value.int IntKind.i64 0,Value.pointer none,Value.int IntKind.i64 0,Value.int IntKind.i64 0,Value.int IntKind.i64 0,Value.slice none 0 0,Value.int IntKind.i64 0,Value.bool false,Value.int IntKind.i64 0,Value.pointer none,Value.int IntKind.i64 0,Value.int IntKind.i64 0,Value.int IntKind.i64 0,.int .i64 0,.int .i64 0,.map (some tb),.pointer (some ⟨lb,0,none⟩),.int .i64 (-1),.int .i64 12000,.int .i64 0,.int .i64 0,.int .i64 (-1),.int .i64 0,.bool false,.int .i64 0,.int .i64 0,.int .i64 0,.int .i64 0,.int .i64 0,.slice none 0 0,.int .i64 0,.bool false] 66) = w2 at N0 B2 ⊢
  have EW : Hid (w.heap.size ≤ w1.heap.size):=HB1.out.size
  generalize w1.heap.size = e at N0 EW ⊢
  clear HT1 HL1 HB1 NF
  go_wp2_with fail
  go_loopw [19] (fun s wr => ∃ (k : Nat) (P : Nat → RdQ) (S : Nat → Nat),s = .int .i64 (k : Int) ∧ k ≤ 4 ∧ NewAt e (1) key tb lb mb P S k wr ∧ Below w.heap.size w wr) (fun s _ => 4 - (intOf s).toNat)
  case atStart => exact ⟨0,fun _ => newRQ 0 0 0,fun _ => e + 1,rfl,by omega,N0.out,B2.out⟩
  case round =>
   obtain ⟨k,P,S,rfl,hk,hn,hb⟩:=hrel
   have N:=qhi hn
   have B:=qhi hb
   clear hn hb N0 B2
   by_cases hlt : k < 4
   ·have i1 : (k : Int) < 4:=by omega
    have i2 : (0 : Int) ≤ (k : Int):=by omega
    have hwk : IntKind.i64.wrap ((k : Int) + 1) = ((k + 1 : Nat) : Int):=by rw [IntKind.wrap_i64];omega
    have HK:=qhi hlt
    clear hlt hk
    go_upto_region 7 with fail
    have NS:=qhi (newStream_any wr.drew)
    have ND : Hid (NewAt e (1) key tb lb mb P S k wr.drew):=N.out.below (qbd (qbr _ _) 1)
    have BD : Hid (Below w.heap.size w wr.drew):=B.out.trans (qbd (qbr _ _) 1 |>.mono B.out.size)
    go_region_law (first | (go_simp;go_at_call 49;refine NS.out.mono ?_;rintro x w5 ⟨b,r,m,rfl,hstr,hge,hb5⟩;have N5:=qhi (ND.out.step HK.out hb5 hstr hge);have B5:=qhi (BD.out.trans (hb5.mono BD.out.size));have C5:=qhi (ND.out.below hb5);clear hstr hge hb5;obtain ⟨v0,x0,f0⟩:=C5.out.new k (qlr _) HK.out 0 (by omega);obtain ⟨v1,x1,f1⟩:=C5.out.new k (qlr _) HK.out 1 (by omega);obtain ⟨v2,x2,f2⟩:=C5.out.new k (qlr _) HK.out 2 (by omega);obtain ⟨v3,x3,f3⟩:=C5.out.new k (qlr _) HK.out 3 (by omega);obtain ⟨v4,x4,f4⟩:=C5.out.new k (qlr _) HK.out 4 (by omega);obtain ⟨v5,x5,f5⟩:=C5.out.new k (qlr _) HK.out 5 (by omega);obtain ⟨v6,x6,f6⟩:=C5.out.new k (qlr _) HK.out 6 (by omega);obtain ⟨v7,x7,f7⟩:=C5.out.new k (qlr _) HK.out 7 (by omega);rw [Nat.mul_comm 8 k] at x0 f0 x1 f1 x2 f2 x3 f3 x4 f4 x5 f5 x6 f6 x7 f7;simp only [Nat.add_zero] at x0 f0))
    all_goals go_wp2_with fail
    all_goals
     have n5:=N5.out
     unfold setS at n5
     rw [Nat.mul_comm 8 k] at n5
     refine ⟨⟨k + 1,_,_,by simp,by have:=HK.out;omega,n5,?_⟩,by have:=HK.out;simp [intOf];omega⟩
     exact (((((((B5.out.setCell (p:=⟨e,_,none⟩) EW.out _).setCell (p:=⟨e,_,none⟩) EW.out _).setCell (p:=⟨e,_,none⟩) EW.out _).setCell (p:=⟨e,_,none⟩) EW.out _).setCell (p:=⟨e,_,none⟩) EW.out _).setCell (p:=⟨e,_,none⟩) EW.out _).setCell (p:=⟨e,_,none⟩) EW.out _).setCell (p:=⟨e,_,none⟩) EW.out _
   ·have i1 : ¬ ((k : Int) < 4):=by omega
    have hk4 : k = 4:=by omega
    subst hk4
    go_wp2_with fail
    refine bodyPost_ret (v:=.tuple #[.pointer (some ⟨e,0,none⟩),.int .i64 0]) (by simp [results,Tryz.results18,go_sem]) rfl ?_
    exact ⟨e,rfl,newCol c K w.heap.size e S,newEQ (1) key P tb lb mb,N.out.done c K (.inr rfl) ⟨HG1.out.1,HG1.out.2.1,HG1.out.2.2.1⟩,fun j hj => by unfold newCol;rw [if_pos hj],B.out,EW.out,P,⟨tb,lb,mb,rfl⟩,fun i hi => (N.out.old i hi).2.2.2.2.2.2⟩
theorem EOk.rdone {c : Col} {K e i : Nat} {X : Nat → List Int} {F : Nat → Bool} {Y : Nat → List Int} {G : Nat → Bool} {q : EQ} {w w' : World} (h : EOk c K e X F Y G q w) (hi : i < 4) (st : St9) (hd : Does9 (q.rs i).b (q.rs i).r (q.rs i).m st w w') (ho : ROk (Y i) (G i) st) :
  EOk c K e X F Y G { q with rs:=upd q.rs i ⟨(q.rs i).b,(q.rs i).r,(q.rs i).m,st,(q.rs i).top,(q.rs i).sure,(q.rs i).told⟩ } w' ∧ Stp c c (fun j => j = K + 11 + i) w w' ∧ Rgn e 3 35 w w':=by
 have hc:=h.cell.ce
 obtain ⟨hS,hK⟩:=hd
 obtain ⟨k1,k2,k3⟩:=(h.rd i hi).col
 have s : Stp c c (fun j => j = K + 11 + i) w w':=Stp.of_keep hK (fun x hx _ => by simp at hx;rcases hx with y | y | y <;> subst y <;> simp [k1,k2,k3])
 have hb:=s.block e h.cell.c0.lt (by rw [hc];omega)
 have r : Rgn e 3 35 w w':=Rgn.of_block hb
 have r0 : Rgn e 3 3 w w':=Rgn.of_block hb
 refine ⟨⟨?_,?_,fun j hj => (h.wr j hj).stp s (by omega) (by omega),?_,h.wok,?_,h.fly.stp s (by omega) (by omega)⟩,s,r⟩
 ·obtain ⟨a0,a1,a2,a3,a4,a5,a6,a7,a8,a9,a10⟩:=h.cell.frame s r0 (by omega) (.inl (by omega))
  exact ⟨a0,a1,a2,a3,a4,a5,a6,a7,a8,a9,a10⟩
 ·obtain ⟨a0,a1,a2,a3,a4,a5,a6,a7,a8⟩:=h.num
  exact ⟨a0,a1,a2,a3,a4,a5,a6,a7,a8⟩
 ·intro j hj
  by_cases hji : j = i
  ·subst hji
   show Rr _ _ _ _ (upd q.rs j _ j) _
   rw [upd_at]
   obtain ⟨d0,d1,d2,d3⟩:=(h.rd j hj).cells.block hb
   exact ⟨⟨d0,d1,d2,d3⟩,hS,k1,k2,k3⟩
  ·show Rr _ _ _ _ (upd q.rs i _ j) _
   rw [upd_ne _ _ hji]
   exact (h.rd j hj).stp s (by omega) (by omega)
 ·intro j hj
  by_cases hji : j = i
  ·subst hji
   show ROk _ _ (upd q.rs j _ j).st
   rw [upd_at];exact ho
  ·show ROk _ _ (upd q.rs i _ j).st
   rw [upd_ne _ _ hji];exact h.rok j hj
theorem eread {c : Col} {K e i : Nat} {X : Nat → List Int} {F : Nat → Bool} {Y : Nat → List Int} {G : Nat → Bool} {q : EQ} {w : World} (h : EOk c K e X F Y G q w) (hi : i < 4) (n : Int) :
  Calls Tryz.prog 13 #[.pointer (some ⟨e,0,none⟩),.int .i64 (i : Int),.int .i64 n] w fun x w' => ∃ v,x = .returned v ∧ Given w' w.heap.size v (readE (q.rs i).st n).2 ∧ Does9 (q.rs i).b (q.rs i).r (q.rs i).m (readE (q.rs i).st n).1 w w':=by
 have M:=qhi (emade w h.fly.cells.c0.1)
 have hi4 : (i : Int) < 4:=by omega
 have I:=isStream_any (i : Int) w
 rw [show (decide ((0 : Int) ≤ (i : Int)) && decide ((i : Int) < 4)) = true from by simp;omega] at I
 have II:=qhi I
 have Q:=qhi (read_any _ _ _ _ n w (h.rok i hi).ok (h.rd i hi).str)
 have x0 : w.cell? ⟨e,3 + i * 8 + 4,none⟩ = some (.pointer (some ⟨(q.rs i).b,0,none⟩)):=by
  have:=(h.rd i hi).cells.c0.1
  rw [show 7 + 8 * i = 3 + i * 8 + 4 from by omega] at this
  exact this
 clear I h hi
 go_enter Tryz.func13,Tryz.ntmps13
 go_wp2_with (first
  | (go_at_call 23;refine M.out.mono ?_;rintro x w2 ⟨rfl,hw⟩;obtain rfl : w = w2:=hw.symm)
  | (go_at_call 24;refine II.out.mono ?_;rintro x w2 ⟨rfl,hw⟩;obtain rfl : w = w2:=hw.symm)
  | (go_at_call 27;refine Q.out.mono ?_;rintro x w2 ⟨v,rfl,hg,hd⟩))
 go_ret
 exact ⟨v,rfl,hg,hd⟩
theorem edone {c : Col} {K e i : Nat} {X : Nat → List Int} {F : Nat → Bool} {Y : Nat → List Int} {G : Nat → Bool} {q : EQ} {w : World} (h : EOk c K e X F Y G q w) (hi : i < 4) :
  Calls Tryz.prog 14 #[.pointer (some ⟨e,0,none⟩),.int .i64 (i : Int)] w fun x w' => x = .returned (.bool (overB (q.rs i).st)) ∧ Below w.heap.size w w':=by
 have M:=qhi (emade w h.fly.cells.c0.1)
 have hi4 : (i : Int) < 4:=by omega
 have I:=isStream_any (i : Int) w
 rw [show (decide ((0 : Int) ≤ (i : Int)) && decide ((i : Int) < 4)) = true from by simp;omega] at I
 have II:=qhi I
 have Q:=qhi (over_any w (h.rd i hi).str)
 have x0 : w.cell? ⟨e,3 + i * 8 + 4,none⟩ = some (.pointer (some ⟨(q.rs i).b,0,none⟩)):=by
  have:=(h.rd i hi).cells.c0.1
  rw [show 7 + 8 * i = 3 + i * 8 + 4 from by omega] at this
  exact this
 clear I h hi
 go_enter Tryz.func14,Tryz.ntmps14
 go_wp2_with (first
  | (go_at_call 23;refine M.out.mono ?_;rintro x w2 ⟨rfl,hw⟩;obtain rfl : w = w2:=hw.symm)
  | (go_at_call 24;refine II.out.mono ?_;rintro x w2 ⟨rfl,hw⟩;obtain rfl : w = w2:=hw.symm)
  | (go_at_call 28;refine Q.out.mono ?_;rintro x w2 ⟨rfl,n,hw⟩))
 go_ret
 exact ⟨rfl,qbd (qbr _ _) n⟩
end Go.Proofs.YtmcomdmcmnbhlaaGreatDoor
