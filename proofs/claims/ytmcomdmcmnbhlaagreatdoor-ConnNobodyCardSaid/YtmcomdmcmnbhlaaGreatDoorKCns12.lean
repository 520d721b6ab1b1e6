import Derived.Test.YtmcomdmcmnbhlaaGreatDoorKCns2
import Derived.Test.YtmcomdmcmnbhlaaGreatDoorKCns11
import Derived.Test.YtmcomdmcmnbhlaaGreatDoorKCns6
import Derived.BigQuiet
import Derived.Deep.QuietTactic
import Derived.StillTailTactics
set_option maxRecDepth 100000
set_option maxHeartbeats 25600000
set_option linter.unusedSimpArgs false
set_option linter.unusedVariables false
set_option linter.unnecessarySimpa false
namespace Go.Proofs.YtmcomdmcmnbhlaaGreatDoor
open Go.RowKit Go.Maps
def NoEnd (w : World) (p : Option Addr) : Prop:=Calls Tryz.prog 23 #[.pointer p] w fun x w' => x = .returned (.bool false) ∧ w' = w
theorem NoEnd.nil (w : World) : NoEnd w none:=emade_no w
theorem NoEnd.zero (w : World) {e : Nat} (m0 : w.cell? ⟨e,37,none⟩ = some (.map none)) : NoEnd w (some ⟨e,0,none⟩):=by
 unfold NoEnd
 have hq:=neqTold
 go_enter Tryz.func23,Tryz.ntmps23
 go_wp2_with fail
 go_ret
 exact ⟨rfl,rfl⟩
theorem no_write {w : World} {p : Option Addr} (h : NoEnd w p) (s : Int) (ba : Option Addr) (bn bc : Nat) (fin : Bool) : Calls Tryz.prog 12 #[.pointer p,.int .i64 s,.slice ba bn bc,.bool fin] w fun x w' => x = .returned (.int .i64 2) ∧ w' = w:=by
 have MA:=qhi h
 clear h
 go_enter Tryz.func12,Tryz.ntmps12
 go_wp2_with (go_at_call 23;refine MA.out.mono ?_;rintro x w2 ⟨rfl,hw⟩;obtain rfl : w = w2:=hw.symm)
 go_ret
 exact ⟨rfl,rfl⟩
theorem no_read {w : World} {p : Option Addr} (h : NoEnd w p) (s n : Int) : Calls Tryz.prog 13 #[.pointer p,.int .i64 s,.int .i64 n] w fun x w' => x = .returned (.slice none 0 0) ∧ w' = w:=by
 have MA:=qhi h
 clear h
 go_enter Tryz.func13,Tryz.ntmps13
 go_wp2_with (go_at_call 23;refine MA.out.mono ?_;rintro x w2 ⟨rfl,hw⟩;obtain rfl : w = w2:=hw.symm)
 go_ret
 exact ⟨rfl,rfl⟩
theorem no_done {w : World} {p : Option Addr} (h : NoEnd w p) (s : Int) : Calls Tryz.prog 14 #[.pointer p,.int .i64 s] w fun x w' => x = .returned (.bool false) ∧ w' = w:=by
 have MA:=qhi h
 clear h
 go_enter Tryz.func14,Tryz.ntmps14
 go_wp2_with (go_at_call 23;refine MA.out.mono ?_;rintro x w2 ⟨rfl,hw⟩;obtain rfl : w = w2:=hw.symm)
 go_ret
 exact ⟨rfl,rfl⟩
theorem no_queued {w : World} {p : Option Addr} (h : NoEnd w p) (s : Int) : Calls Tryz.prog 11 #[.pointer p,.int .i64 s] w fun x w' => x = .returned (.int .i64 0) ∧ w' = w:=by
 have MA:=qhi h
 clear h
 go_enter Tryz.func11,Tryz.ntmps11
 go_wp2_with (go_at_call 23;refine MA.out.mono ?_;rintro x w2 ⟨rfl,hw⟩;obtain rfl : w = w2:=hw.symm)
 go_ret
 exact ⟨rfl,rfl⟩
theorem no_step {w : World} {p : Option Addr} (h : NoEnd w p) (n : Int) : Calls Tryz.prog 15 #[.pointer p,.int .i64 n] w fun x w' => x = .returned (.slice none 0 0) ∧ w' = w:=by
 have MA:=qhi h
 clear h
 go_enter Tryz.func15,Tryz.ntmps15
 go_wp2_with (go_at_call 23;refine MA.out.mono ?_;rintro x w2 ⟨rfl,hw⟩;obtain rfl : w = w2:=hw.symm)
 go_ret
 exact ⟨rfl,rfl⟩
theorem no_recv {w : World} {p : Option Addr} (h : NoEnd w p) (ba : Option Addr) (bn bc : Nat) (n : Int) : Calls Tryz.prog 16 #[.pointer p,.slice ba bn bc,.int .i64 n] w fun x w' => x = .returned (.int .i64 2) ∧ w' = w:=by
 have MA:=qhi h
 clear h
 go_enter Tryz.func16,Tryz.ntmps16
 go_wp2_with (go_at_call 23;refine MA.out.mono ?_;rintro x w2 ⟨rfl,hw⟩;obtain rfl : w = w2:=hw.symm)
 go_ret
 exact ⟨rfl,rfl⟩
theorem no_idle {w : World} {p : Option Addr} (h : NoEnd w p)  : Calls Tryz.prog 17 #[.pointer p] w fun x w' => x = .returned (.bool true) ∧ w' = w:=by
 have MA:=qhi h
 clear h
 go_enter Tryz.func17,Tryz.ntmps17
 go_wp2_with (go_at_call 23;refine MA.out.mono ?_;rintro x w2 ⟨rfl,hw⟩;obtain rfl : w = w2:=hw.symm)
 go_ret
 exact ⟨rfl,rfl⟩
theorem enew_no (w : World) (ro key : Int) (h0 : ro ≠ 0) (h1 : ro ≠ 1) : Calls Tryz.prog 18 #[.int .i64 ro,.int .u64 key] w fun x w' => x = .returned (.tuple #[.pointer none,.int .i64 1]) ∧ w' = w:=by
 have z0 : (ro != 0) = true:=bne_iff_ne.2 h0
 have z1 : (ro != 1) = true:=bne_iff_ne.2 h1
 go_enter Tryz.func18,Tryz.ntmps18
 go_wp2_with fail
 refine bodyPost_ret (v:=.tuple #[.pointer none,.int .i64 1]) (by simp [results,Tryz.results18,go_sem]) rfl ?_
 exact ⟨rfl,rfl⟩
theorem enew_any (w : World) (sd : Int) : Calls Tryz.prog 18 #[.int .i64 sd,.int .u64 1] w fun x w' => ∃ (p : Option Addr) (f : Int),x = .returned (.tuple #[.pointer p,.int .i64 f]) ∧ Below w.heap.size w w' ∧ decide (f = 0) = (decide (sd = 0) || decide (sd = 1)):=by
 by_cases h0 : sd = 0
 ·refine (enew2 w 0 sd 1 h0 (by omega) (fun _ => 50)).mono ?_
  rintro x w' ⟨e,_,_,rfl,_,_,_,hb,_⟩
  exact ⟨_,_,rfl,hb,by simp [h0]⟩
 ·by_cases h1 : sd = 1
  ·refine (enew2 w 1 sd 1 h1 (by omega) (fun _ => 50)).mono ?_
   rintro x w' ⟨e,_,_,rfl,_,_,_,hb,_⟩
   exact ⟨_,_,rfl,hb,by simp [h1]⟩
  ·refine (enew_no w sd 1 h0 h1).mono ?_
   rintro x w' ⟨rfl,rfl⟩
   exact ⟨_,_,rfl,qbr _ _,by simp [h0,h1]⟩
theorem three_new {Q : World → Prop} (w : World) (o1 o2 o3 : Obj) (h : ∀ W,Below w.heap.size w W → W.heap[w.heap.size]? = some o1 → W.heap[w.heap.size + 1]? = some o2 → W.heap[w.heap.size + 1 + 1]? = some o3 → Q W) : Q (((w.alloc o1).alloc o2).alloc o3):=by
 have b1 : Below w.heap.size w (w.alloc o1):=(qbr _ w).alloc (qlr _) _
 have s1 : (w.alloc o1).heap.size = w.heap.size + 1:=by simp
 have s2 : ((w.alloc o1).alloc o2).heap.size = w.heap.size + 1 + 1:=by simp
 have b2 : Below (w.heap.size + 1) (w.alloc o1) ((w.alloc o1).alloc o2):=(qbr _ _).alloc (by omega) _
 have b3 : Below (w.heap.size + 1 + 1) ((w.alloc o1).alloc o2) (((w.alloc o1).alloc o2).alloc o3):=(qbr _ _).alloc (by omega) _
 refine h _ ((b1.trans (b2.mono (by omega))).trans (b3.mono (by omega))) ?_ ?_ ?_
 ·rw [Below.heap_alloc _ _ _ (by omega),Below.heap_alloc _ _ _ (by omega)];exact Go.heap_alloc_new w o1
 ·rw [Below.heap_alloc _ _ _ (by omega),← s1];exact Go.heap_alloc_new _ o2
 ·rw [← s2];exact Go.heap_alloc_new _ o3
theorem nobody (kd sd st n at_ by_ : Int) (ba : Option Addr) (bn bc : Nat) (fin : Bool) (w : World) (ht : Tab w) : Calls Tryz.prog 6 #[.agg #[.int .i64 kd,.int .i64 sd,.int .i64 st,.int .i64 n,.int .i64 at_,.int .u8 by_,.slice ba bn bc,.bool fin]] w (Yes w):=by
 have HT:=qhi ht
 clear ht
 go_enter Tryz.func6,Tryz.ntmps6
 go_upto_region 2 with fail
 refine three_new (Q:=Code.wp _ _ _ _) w _ _ _ (fun W3 hB3 hA hE hL => ?_)
 have B3:=qhi hB3
 obtain ⟨A,hAe⟩ : ∃ A,A = w.heap.size:=⟨_,rfl⟩
 rw [← hAe] at hA hE hL ⊢
 have a1 : W3.cell? ⟨A,1,none⟩ = some (.int .i64 sd):=qcb hA 1
 have a2 : W3.cell? ⟨A,2,none⟩ = some (.int .i64 st):=qcb hA 2
 have a3 : W3.cell? ⟨A,3,none⟩ = some (.int .i64 n):=qcb hA 3
 have a6 : W3.cell? ⟨A,6,none⟩ = some (.slice ba bn bc):=qcb hA 6
 have a7 : W3.cell? ⟨A,7,none⟩ = some (.bool fin):=qcb hA 7
 have e0 : W3.cell? ⟨A + 1 + 1,0,none⟩ = some (.pointer none):=qcb hL 0
 have e1 : W3.cell? ⟨A + 1 + 1,1,none⟩ = some (.pointer (some ⟨A + 1,0,none⟩)):=qcb hL 1
 have m0 : W3.cell? ⟨A + 1,37,none⟩ = some (.map none):=qcb hE 37
 have EP : Hid (∀ k : Nat,k < 2 → ∃ p,W3.cell? ⟨A + 1 + 1,k,none⟩ = some (.pointer p) ∧ NoEnd W3 p):=fun k hk => by
  rcases (by omega : k = 0 ∨ k = 1) with rfl | rfl
  ·exact ⟨_,e0,NoEnd.nil W3⟩
  ·exact ⟨_,e1,NoEnd.zero W3 m0⟩
 have HA : Hid (A < W3.heap.size):=by show A < W3.heap.size;exact (qgs hA).1
 have HAE : Hid (A = w.heap.size):=hAe
 clear hA hE hL e0 e1 m0 hB3 hAe
 go_loopw [11] (fun sv wr => wr = W3 ∧ ∃ k : Nat,sv = .int .i64 (k : Int) ∧ k ≤ 2) (fun sv _ => 2 - (intOf sv).toNat)
 case atStart => exact ⟨rfl,0,rfl,by omega⟩
 case round =>
  obtain ⟨hwr,k,rfl,hk⟩:=hrel
  subst hwr
  by_cases hlt : k < 2
  ·have k2 : (k : Int) < 2:=by omega
   have hk0 : (0 : Int) ≤ (k : Int):=by omega
   have hw1 : IntKind.i64.wrap ((k : Int) + 1) = (k : Int) + 1:=by rw [IntKind.wrap_i64];omega
   obtain ⟨p,hp,hne⟩:=EP.out k hlt
   have NE:=qhi hne
   clear hne EP
   go_wp2_with (first
    | (go_at_call 12;refine (no_write (NE.out) st ba bn bc fin).mono ?_;rintro x w2 ⟨rfl,hw⟩;obtain rfl : wr = w2:=hw.symm)
    | (go_at_call 13;refine (no_read (NE.out) st n).mono ?_;rintro x w2 ⟨rfl,hw⟩;obtain rfl : wr = w2:=hw.symm)
    | (go_at_call 14;refine (no_done (NE.out) st).mono ?_;rintro x w2 ⟨rfl,hw⟩;obtain rfl : wr = w2:=hw.symm)
    | (go_at_call 11;refine (no_queued (NE.out) st).mono ?_;rintro x w2 ⟨rfl,hw⟩;obtain rfl : wr = w2:=hw.symm)
    | (go_at_call 15;refine (no_step (NE.out) n).mono ?_;rintro x w2 ⟨rfl,hw⟩;obtain rfl : wr = w2:=hw.symm)
    | (go_at_call 16;refine (no_recv (NE.out) ba bn bc n).mono ?_;rintro x w2 ⟨rfl,hw⟩;obtain rfl : wr = w2:=hw.symm)
    | (go_at_call 17;refine (no_idle (NE.out)).mono ?_;rintro x w2 ⟨rfl,hw⟩;obtain rfl : wr = w2:=hw.symm))
   exact ⟨⟨trivial,k + 1,by simp,by omega⟩,by simp [intOf];omega⟩
  ·have i1 : ¬ ((k : Int) < 2):=by omega
   have NW:=qhi (enew_any wr sd)
   clear hk hlt
   go_wp2_with (first
    | (go_at_call 18;refine NW.out.mono ?_;rintro x w5 ⟨p,f,rfl,hb5,hf⟩;have B5:=qhi (hb5.mono (Nat.le_of_lt HA.out));have c5:=(hb5.cell (p:=⟨A,1,none⟩) HA.out).trans a1;have HF:=qhi hf;have AL:=qhi (alive10 w5 ((HT.out.below B3.out HT.out.pos).below hb5 (Nat.lt_of_lt_of_le HT.out.pos B3.out.size)));clear hb5 hf)
    | (go_at_call 8;refine AL.out.mono ?_;rintro x w6 ⟨rfl,hb6⟩))
   all_goals first
    | (go_ret;exact ⟨rfl,(HAE.out ▸ (B3.out.trans (B5.out.mono (Nat.le_of_eq HAE.out.symm))) : Below w.heap.size w w5).trans (hb6.mono (Nat.le_trans (Nat.le_trans (Nat.le_of_eq HAE.out.symm) (Nat.le_of_lt HA.out)) B5.out.size))⟩)
    | (exfalso;have hh:=HF.out;simp_all)
theorem nobody_any (c : ActT) (w : World) (ht : Tab w) (hok : ActTOk w c) : Calls Tryz.prog 6 #[actTV c] w (Yes w):=by
 obtain ⟨kd,sd,st,n,at_,by_,bv,bs,fin⟩:=c
 obtain ⟨ba,bc,e⟩:=hok.2.1.isSlice
 simp only at e
 subst e
 exact nobody kd sd st n at_ by_ ba _ bc fin w ht
end Go.Proofs.YtmcomdmcmnbhlaaGreatDoor
