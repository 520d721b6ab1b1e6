import Derived.Test.YtmcomdmcmnbhlaaGreatDoorKCns2
import Derived.Test.YtmcomdmcmnbhlaaGreatDoorKCn9
import Derived.Test.YtmcomdmcmnbhlaaGreatDoorKFs0
import Derived.StillTailTactics
set_option maxRecDepth 100000
set_option maxHeartbeats 25600000
set_option linter.unusedSimpArgs false
set_option linter.unusedVariables false
set_option linter.unnecessarySimpa false
namespace Go.Proofs.YtmcomdmcmnbhlaaGreatDoor
open Go.RowKit Go.Maps
def AR (bk : Nat) (b : Nat → Bd) (w : World) : Prop:=∀ i,i < 4 → BdC bk (i * 4) (b i) w
theorem BdC.rgn {e o lo hi : Nat} {b : Bd} {w w' : World} (h : BdC e o b w) (r : Rgn e lo hi w w') (hd : o + 4 ≤ lo ∨ hi ≤ o) : BdC e o b w':=⟨h.c0.rgn r (by omega),h.c1.rgn r (by omega),h.c2.rgn r (by omega),h.c3.rgn r (by omega)⟩
theorem BdC.below {e o : Nat} {b : Bd} {w w' : World} (h : BdC e o b w) (hb : Below w.heap.size w w') : BdC e o b w':=⟨h.c0.below hb,h.c1.below hb,h.c2.below hb,h.c3.below hb⟩
theorem AR.below {bk : Nat} {b : Nat → Bd} {w w' : World} (h : AR bk b w) (hb : Below w.heap.size w w') : AR bk b w':=fun i hi => (h i hi).below hb
theorem AR.lt {bk : Nat} {b : Nat → Bd} {w : World} (h : AR bk b w) : bk < w.heap.size:=(h 0 (by omega)).c0.lt
def zeroBd : Bd:=⟨0,0,0,false⟩
theorem AR.made (w : World) (T : TypeId) : AR w.heap.size (fun _ => zeroBd) (w.alloc (.cells #[.int .i64 0,.int .i64 0,.int .i64 0,.bool false,.int .i64 0,.int .i64 0,.int .i64 0,.bool false,.int .i64 0,.int .i64 0,.int .i64 0,.bool false,.int .i64 0,.int .i64 0,.int .i64 0,.bool false] T)):=by
 have C:=Cs.made w #[.int .i64 0,.int .i64 0,.int .i64 0,.bool false,.int .i64 0,.int .i64 0,.int .i64 0,.bool false,.int .i64 0,.int .i64 0,.int .i64 0,.bool false,.int .i64 0,.int .i64 0,.int .i64 0,.bool false] T
 intro i hi
 have : i = 0 ∨ i = 1 ∨ i = 2 ∨ i = 3:=by omega
 rcases this with rfl | rfl | rfl | rfl
 all_goals exact ⟨⟨C.get _ _ rfl,C.free _⟩,⟨C.get _ _ rfl,C.free _⟩,⟨C.get _ _ rfl,C.free _⟩,⟨C.get _ _ rfl,C.free _⟩⟩
theorem AR.put {bk k : Nat} {b : Nat → Bd} {w : World} (h : AR bk b w) (hk : k < 4) (x : Bd) :
  AR bk (upd b k x) ((((w.setCell ⟨bk,k * 4,none⟩ (.int .i64 x.lim)).setCell ⟨bk,k * 4 + 1,none⟩ (.int .i64 x.top)).setCell ⟨bk,k * 4 + 2,none⟩ (.int .i64 x.en)).setCell ⟨bk,k * 4 + 3,none⟩ (.bool x.kn)) ∧
  Rgn bk (k * 4) (k * 4 + 4) w ((((w.setCell ⟨bk,k * 4,none⟩ (.int .i64 x.lim)).setCell ⟨bk,k * 4 + 1,none⟩ (.int .i64 x.top)).setCell ⟨bk,k * 4 + 2,none⟩ (.int .i64 x.en)).setCell ⟨bk,k * 4 + 3,none⟩ (.bool x.kn)):=by
 obtain ⟨a0,a1,a2,a3⟩:=h k hk
 have r0 : Rgn bk (k * 4) (k * 4 + 1) w (w.setCell ⟨bk,k * 4,none⟩ (.int .i64 x.lim)):=Rgn.set ⟨by omega,by omega⟩
 have b0:=a0.set (.int .i64 x.lim) rfl
 have b1:=a1.rgn r0 (by omega)
 have b2:=a2.rgn r0 (by omega)
 have b3:=a3.rgn r0 (by omega)
 generalize w.setCell ⟨bk,k * 4,none⟩ (.int .i64 x.lim) = w1 at r0 b0 b1 b2 b3 ⊢
 have r1 : Rgn bk (k * 4 + 1) (k * 4 + 2) w1 (w1.setCell ⟨bk,k * 4 + 1,none⟩ (.int .i64 x.top)):=Rgn.set ⟨by omega,by omega⟩
 have c0:=b0.rgn r1 (by omega)
 have c1:=b1.set (.int .i64 x.top) rfl
 have c2:=b2.rgn r1 (by omega)
 have c3:=b3.rgn r1 (by omega)
 have q1:=(r0.mono (lo':=k * 4) (hi':=k * 4 + 4) (by omega) (by omega)).trans (r1.mono (by omega) (by omega))
 generalize w1.setCell ⟨bk,k * 4 + 1,none⟩ (.int .i64 x.top) = w2 at q1 c0 c1 c2 c3 ⊢
 have r2 : Rgn bk (k * 4 + 2) (k * 4 + 3) w2 (w2.setCell ⟨bk,k * 4 + 2,none⟩ (.int .i64 x.en)):=Rgn.set ⟨by omega,by omega⟩
 have d0:=c0.rgn r2 (by omega)
 have d1:=c1.rgn r2 (by omega)
 have d2:=c2.set (.int .i64 x.en) rfl
 have d3:=c3.rgn r2 (by omega)
 have q2:=q1.trans (r2.mono (by omega) (by omega))
 generalize w2.setCell ⟨bk,k * 4 + 2,none⟩ (.int .i64 x.en) = w3 at q2 d0 d1 d2 d3 ⊢
 have r3 : Rgn bk (k * 4 + 3) (k * 4 + 4) w3 (w3.setCell ⟨bk,k * 4 + 3,none⟩ (.bool x.kn)):=Rgn.set ⟨by omega,by omega⟩
 have q3:=q2.trans (r3.mono (by omega) (by omega))
 refine ⟨fun i hi => ?_,q3⟩
 by_cases hik : i = k
 ·subst hik
  rw [upd_at]
  exact ⟨d0.rgn r3 (by omega),d1.rgn r3 (by omega),d2.rgn r3 (by omega),d3.set (.bool x.kn) rfl⟩
 ·rw [upd_ne _ _ hik]
  exact (h i hi).rgn q3 (by omega)
def GoodF (f : Fr) : Prop:=(f.kind = 4 ∨ f.kind = 5 ∨ f.kind = 17 ∨ f.kind = 8) → 0 ≤ f.stream ∧ f.stream < 4
theorem may_spans {f : Fr} (h : mayF f = true) (hk : f.kind = 2) : 1 ≤ f.spans.length ∧ f.spans.length ≤ 32:=by
 simp only [mayF,Bool.and_eq_true] at h
 have h1:=h.1.1.2
 rw [hk] at h1
 have h2 : spansB f.spans true = true:=h1
 unfold spansB at h2
 simp only [if_true,Bool.and_eq_true,decide_eq_true_eq] at h2
 exact h2.1
theorem may_data {f : Fr} (h : mayF f = true) (hk : f.kind = 8) : 0 ≤ f.offset ∧ f.offset + f.data.length ≤ 4611686018427387903:=by
 simp only [mayF,Bool.and_eq_true] at h
 have h1:=h.1.2
 have h2:=h.1.1.1.1.2
 rw [hk] at h1 h2
 have h3 : dataB f.data.length f.offset true = true:=h1
 have h4 : numB f.offset true = true:=h2
 simp only [dataB,numB,if_true,decide_eq_true_eq] at h3 h4
 omega
def OneF (q : EQ) (fs : List Fr) : Prop:=∃ (f : Fr) (s : Nat),fs = [f] ∧ f.kind = 8 ∧ f.fin = true ∧ f.stream = (s : Int) ∧ s < 4 ∧ f.offset + f.data.length ≤ (bdOf (q.rs s)).lim ∧ (bdOf (q.rs s)).kn = false ∧ (bdOf (q.rs s)).top ≤ f.offset + f.data.length
def CheckIs (q : EQ) (fs : List Fr) (w : World) (r : Ending) (w' : World) : Prop :=
 ∃ y : Int,r = .returned (.int .i64 y) ∧ Below w.heap.size w w' ∧ (y = 0 → ∀ f ∈ fs,GoodF f) ∧ (OneF q fs → y = 0)
theorem echeck {c : Col} {K e : Nat} {X : Nat → List Int} {F : Nat → Bool} {Y : Nat → List Int} {G : Nat → Bool} {q : EQ} {w : World} (h : EOk c K e X F Y G q w) (hY : ∀ i,i < 4 → ((Y i).length : Int) ≤ 4398046511104) {v : Value} {fs : List Fr} (hr : RdF w v fs) (h0 : fs ≠ []) (hm : fs.all mayF = true) :
  Calls Tryz.prog 44 #[.pointer (some ⟨e,0,none⟩),v] w (CheckIs q fs w):=by
 obtain ⟨vb,vo,vc,rfl,hvb,hl1,hl2⟩:=hr.form h0
 have HLN : Hid (fs.length ≤ 9223372036854775807):=Nat.le_trans hl1 hl2
 clear hl1 hl2
 have H:=qhi h
 have HY:=qhi hY
 have HR:=qhi hr
 have HVB:=qhi hvb
 have HM : Hid (∀ f ∈ fs,mayF f = true):=by have:=hm;rw [List.all_eq_true] at this;exact this
 clear h hY hr hm hvb h0
 go_enter Tryz.func44,Tryz.ntmps44
 go_upto_region 2 with fail
 obtain ⟨bk,hbk⟩ : ∃ bk,bk = w.heap.size:=⟨_,rfl⟩
 have A1:=AR.made w 157
 have B1:=below1 w (.cells #[.int .i64 0,.int .i64 0,.int .i64 0,.bool false,.int .i64 0,.int .i64 0,.int .i64 0,.bool false,.int .i64 0,.int .i64 0,.int .i64 0,.bool false,.int .i64 0,.int .i64 0,.int .i64 0,.bool false] 157)
 generalize w.alloc (.cells #[.int .i64 0,.int .i64 0,.int .i64 0,.bool false,.int .i64 0,.int .i64 0,.int .i64 0,.bool false,.int .i64 0,.int .i64 0,.int .i64 0,.bool false,.int .i64 0,.int .i64 0,.int .i64 0,.bool false] 157) = w1 at A1 B1 ⊢
 have HBK : Hid (w.heap.size ≤ bk):=(by omega : w.heap.size ≤ bk)
 rw [← hbk] at A1 ⊢
 clear hbk
 go_wp2_with fail
 go_loopw [10] (fun s wr => ∃ (k : Nat) (b : Nat → Bd),s = .int .i64 (k : Int) ∧ k ≤ 4 ∧ AR bk b wr ∧ (∀ i,i < k → b i = bdOf (q.rs i)) ∧ Below w.heap.size w wr) (fun s _ => 4 - (intOf s).toNat)
 case atStart => exact ⟨0,_,rfl,by omega,A1,fun i hi => by omega,B1⟩
 case round =>
  obtain ⟨k,b,rfl,hk,ha,hbs,hb⟩:=hrel
  have AA:=qhi ha
  have BS:=qhi hbs
  have BB:=qhi hb
  clear ha hbs hb A1 B1
  by_cases hlt : k < 4
  ·have k4 : (k : Int) < 4:=by omega
   have E1:=H.out.below BB.out
   have hro:=E1.rok k hlt
   have hp:=hro.left
   have hrw:=hro.row
   have hyl:=HY.out k hlt
   have Q:=bounds_any (E1.rd k hlt).cells (E1.rd k hlt).str (by omega)
   rw [show 7 + 8 * k = 3 + k * 8 + 4 from by omega] at Q
   obtain ⟨⟨xl,xt,xn,xk⟩,hx⟩ : ∃ x,x = bdOf (q.rs k):=⟨_,rfl⟩
   rw [← hx] at Q
   unfold bdV at Q
   have QQ:=qhi Q
   have HX:=qhi hx
   have HK:=qhi hlt
   clear Q hx hro hp hrw hyl E1 hlt
   go_wp2_with (go_at_call 79;refine QQ.out.mono ?_;rintro x w2 ⟨rfl,h2⟩;have A2:=qhi (AA.out.below h2);have B2:=qhi (BB.out.trans (h2.mono BB.out.size));obtain ⟨⟨c0,f0⟩,⟨c1,f1⟩,⟨c2,f2⟩,⟨c3,f3⟩⟩:=A2.out k HK.out;have hlz:=A2.out.lt;clear h2)
   refine ⟨⟨k + 1,upd b k ⟨xl,xt,xn,xk⟩,by simp,by have:=HK.out;omega,(A2.out.put HK.out ⟨xl,xt,xn,xk⟩).1,fun i hi => ?_,?_⟩,by have:=HK.out;simp [intOf];omega⟩
   ·by_cases hik : i = k
    ·subst hik;rw [upd_at];exact HX.out
    ·rw [upd_ne _ _ hik];exact BS.out i (by omega)
   ·exact (((B2.out.setCell (p:=⟨bk,_,none⟩) HBK.out _).setCell (p:=⟨bk,_,none⟩) HBK.out _).setCell (p:=⟨bk,_,none⟩) HBK.out _).setCell (p:=⟨bk,_,none⟩) HBK.out _
  ·have i1 : ¬ ((k : Int) < 4):=by omega
   have BE : Hid (∀ i,i < 4 → b i = bdOf (q.rs i)):=fun i hi => BS.out i (by omega)
   clear hk hlt
   go_wp2_with fail
   go_loopw [25] (fun s wq => ∃ (j : Nat) (b : Nat → Bd),s = .int .i64 (j : Int) ∧ j ≤ fs.length ∧ AR bk b wq ∧ (j = 0 → ∀ i,i < 4 → b i = bdOf (q.rs i)) ∧ Below w.heap.size w wq ∧ (∀ (i : Nat) (f : Fr),i < j → fs[i]? = some f → GoodF f)) (fun s _ => fs.length - (intOf s).toNat)
   case atStart => exact ⟨0,b,rfl,by omega,AA.out,fun _ => BE.out,BB.out,fun i f hi => by omega⟩
   case round =>
    clear AA BB BS BE
    obtain ⟨j,b,rfl,hj,ha,hbs,hb,hgo⟩:=hrel
    have AA:=qhi ha
    have BS:=qhi hbs
    have BB:=qhi hb
    have GO:=qhi hgo
    clear ha hbs hb hgo
    by_cases hlt : j < fs.length
    ·obtain ⟨f,da,sa,dc,sc,hf,_,hat⟩:=RdF.at HR.out HVB.out j hlt
     obtain ⟨⟨y0,y1,y2,y3,y4,y5,y6,y7⟩,hd,hs⟩:=hat wr BB.out
     have hfm : mayF f = true:=HM.out f (List.mem_of_getElem? hf)
     obtain ⟨fk,fst,fo,fn,fcd,ffin,fd,fsp⟩:=f
     simp only at y0 y1 y2 y3 y4 y5 y6 y7 hd hs
     have HF:=qhi hf
     have HFM:=qhi hfm
     have HLT:=qhi hlt
     have i1 : (j : Int) < (fs.length : Int):=by omega
     have i2 : (0 : Int) ≤ (j : Int):=by omega
     have RS:=qhi hs
     obtain ⟨sn,hsn⟩ : ∃ sn,sn = fsp.length:=⟨_,rfl⟩
     obtain ⟨dn,hdn⟩ : ∃ dn,dn = fd.length:=⟨_,rfl⟩
     rw [← hsn] at y7
     rw [← hdn] at y6
     have HSN:=qhi hsn
     have HDN:=qhi hdn
     clear hat hd hs hf hfm hlt hj hsn hdn
     go_upto_region 10 with fail
     have CB : Hid ((wr.alloc (.cells #[.int .i64 fk,.int .i64 fst,.int .i64 fo,.int .i64 fn,.int .i64 fcd,.bool ffin,.slice da dn dc,.slice sa sn sc] 102)).heap[wr.heap.size]? = some (.cells #[.int .i64 fk,.int .i64 fst,.int .i64 fo,.int .i64 fn,.int .i64 fcd,.bool ffin,.slice da dn dc,.slice sa sn sc] 102 (0,0))):=Go.heap_alloc_new _ _
     have B2:=qhi (below1 wr (.cells #[.int .i64 fk,.int .i64 fst,.int .i64 fo,.int .i64 fn,.int .i64 fcd,.bool ffin,.slice da dn dc,.slice sa sn sc] 102))
     clear y0 y1 y2 y3 y4 y5 y6 y7
     generalize wr.alloc (.cells #[.int .i64 fk,.int .i64 fst,.int .i64 fo,.int .i64 fn,.int .i64 fcd,.bool ffin,.slice da dn dc,.slice sa sn sc] 102) = W at CB B2 ⊢
     obtain ⟨bf,hbf⟩ : ∃ bf,bf = wr.heap.size:=⟨_,rfl⟩
     have HBF : Hid (w.heap.size ≤ bf):=(by rw [hbf];exact BB.out.size : w.heap.size ≤ bf)
     rw [← hbf] at CB ⊢
     have A2:=qhi (AA.out.below B2.out)
     have B3:=qhi (BB.out.trans (B2.out.mono BB.out.size))
     have RS2:=qhi (RS.out.below B2.out)
     clear hbf AA RS B2
     have z0 : W.cell? ⟨bf,0,none⟩ = some (.int .i64 fk):=qcb CB.out 0
     have z1 : W.cell? ⟨bf,1,none⟩ = some (.int .i64 fst):=qcb CB.out 1
     have next : ∀ V b',Below w.heap.size w V → AR bk b' V → GoodF ⟨fk,fst,fo,fn,fcd,ffin,fd,fsp⟩ → ∃ (k' : Nat) (b'' : Nat → Bd),(Value.int IntKind.i64 (((j + 1 : Nat)) : Int)) = .int .i64 (k' : Int) ∧ k' ≤ fs.length ∧ AR bk b'' V ∧ (k' = 0 → ∀ i,i < 4 → b'' i = bdOf (q.rs i)) ∧ Below w.heap.size w V ∧ (∀ (i : Nat) (f : Fr),i < k' → fs[i]? = some f → GoodF f):=by
      intro V b' hV hA hG
      refine ⟨j + 1,b',rfl,by have:=HLT.out;omega,hA,fun h => by omega,hV,fun i f hi hf => ?_⟩
      by_cases hij : i = j
      ·subst hij
       have:=HF.out
       rw [hf] at this
       rw [Option.some.inj this];exact hG
      ·exact GO.out i f (by omega) hf
     have HNX:=qhi next
     have one : OneF q fs → fs = [⟨fk,fst,fo,fn,fcd,ffin,fd,fsp⟩] ∧ j = 0:=by
      rintro ⟨f,s,hfs,_⟩
      have hj0 : j = 0:=by have:=HLT.out;rw [hfs] at this;simpa using this
      have:=HF.out
      rw [hfs,hj0] at this
      simp at this
      rw [hfs,this];exact ⟨rfl,hj0⟩
     have HONE:=qhi one
     clear next one
     have hwj : IntKind.i64.wrap ((j : Int) + 1) = ((j + 1 : Nat) : Int):=by have h1:=HLT.out;have h2:=HLN.out;rw [IntKind.wrap_i64];omega
     by_cases k2 : fk = 2
     ·subst k2
      obtain ⟨hs1,hs2⟩:=may_spans HFM.out rfl
      simp only at hs1 hs2
      obtain ⟨sb,so,sc',hsv,hsb⟩:=RS2.out.form (by intro h;rw [h] at hs1;simp at hs1)
      simp only [Value.slice.injEq] at hsv
      obtain ⟨rfl,_,rfl⟩:=hsv
      have z7 : W.cell? ⟨bf,7,none⟩ = some (.slice (some ⟨sb,so,none⟩) sn sc):=qcb CB.out 7
      have z7d : W.drew.cell? ⟨bf,7,none⟩ = some (.slice (some ⟨sb,so,none⟩) sn sc):=z7
      obtain ⟨m,hmm⟩ : ∃ m,fsp.length = m + 1:=⟨fsp.length - 1,by omega⟩
      have x1:=(RS2.out.cells rfl m (by omega)).2
      obtain ⟨top,htop⟩ : ∃ top,top = (fsp.getD m (0,0)).2:=⟨_,rfl⟩
      rw [← htop] at x1
      have x1d : W.drew.cell? ⟨sb,so + m * 2 + 1,none⟩ = some (.int .i64 top):=x1
      have E2:=H.out.below B3.out
      have n0:=E2.cell.c36.1
      have n0d : W.drew.cell? ⟨e,36,none⟩ = some (.int .i64 q.next):=n0
      have hsn : sn = m + 1:=HSN.out.trans hmm
      have hwm : IntKind.i64.wrap ((sn : Int) - 1) = (m : Int):=by rw [IntKind.wrap_i64];omega
      have hml : (m : Int) < (sn : Int):=by omega
      have hml2 : m < sn:=by omega
      have HSM : Hid (sn = m + 1):=hsn
      have HNE : Hid (¬ OneF q fs):=fun ⟨f,s,hfs,h8,_⟩ => by
       have h1:=(HONE.out ⟨f,s,hfs,h8,‹_›⟩).1
       rw [hfs] at h1
       have h2:=(List.cons.inj h1).1
       rw [h2] at h8
       simp at h8
      clear hs1 hs2 hmm htop E2 hsn
      by_cases hge : top ≥ q.next
      ·have d1 : decide (top ≥ q.next) = true:=qdt hge
       clear hge
       go_wp2_with fail
       go_quiet (fail)
       go_wp2_with fail
       go_ret
       exact ⟨14,rfl,qbd B3.out _,fun h => absurd h (by decide),fun h => absurd h HNE.out⟩
      ·have d1 : decide (top ≥ q.next) = false:=qdf hge
       clear hge
       go_wp2_with fail
       go_quiet (fail)
       go_wp2_with fail
       exact ⟨HNX.out _ _ (qbd B3.out nq) (A2.out.below (qbd (qbr _ _) nq)) (by rintro (h | h | h | h) <;> cases h),by have:=HLT.out;simp [intOf];omega⟩
     ·have e2 : (fk == 2) = false:=by simpa using k2
      by_cases kk : fk = 4 ∨ fk = 5 ∨ fk = 17 ∨ fk = 8
      ·clear k2 e2
       rcases kk with rfl | rfl | rfl | rfl
       ·by_cases hin : 0 ≤ fst ∧ fst < 4
        ·obtain ⟨s,hs⟩ : ∃ s : Nat,fst = (s : Int):=⟨fst.toNat,by omega⟩
         subst hs
         have I:=isStream_any (s : Int) W
         rw [show (decide ((0 : Int) ≤ (s : Int)) && decide ((s : Int) < 4)) = true from by simp;omega] at I
         have II:=qhi I
         have HG : Hid (GoodF ⟨4,(s : Int),fo,fn,fcd,ffin,fd,fsp⟩):=fun _ => hin
         clear I hin
         go_wp2_with (go_at_call 24;refine II.out.mono ?_;rintro x w2 ⟨rfl,hw⟩;obtain rfl : W = w2:=hw.symm)
         exact ⟨HNX.out _ _ B3.out A2.out HG.out,by have:=HLT.out;simp [intOf];omega⟩
        ·have I:=isStream_any fst W
         rw [show (decide ((0 : Int) ≤ fst) && decide (fst < 4)) = false from by simp;omega] at I
         have II:=qhi I
         have HNE : Hid (¬ OneF q fs):=fun ho => by
          obtain ⟨h1,_⟩:=HONE.out ho
          obtain ⟨f,s,hfs,_,_,h5,h6,_⟩:=ho
          rw [hfs] at h1
          have h2:=(List.cons.inj h1).1
          rw [h2] at h5
          simp only at h5
          exact hin (by omega)
         clear I hin
         go_wp2_with (go_at_call 24;refine II.out.mono ?_;rintro x w2 ⟨rfl,hw⟩;obtain rfl : W = w2:=hw.symm)
         go_ret
         exact ⟨9,rfl,B3.out,fun h => absurd h (by decide),fun h => absurd h HNE.out⟩
       ·by_cases hin : 0 ≤ fst ∧ fst < 4
        ·obtain ⟨s,hs⟩ : ∃ s : Nat,fst = (s : Int):=⟨fst.toNat,by omega⟩
         subst hs
         have I:=isStream_any (s : Int) W
         rw [show (decide ((0 : Int) ≤ (s : Int)) && decide ((s : Int) < 4)) = true from by simp;omega] at I
         have II:=qhi I
         have HG : Hid (GoodF ⟨5,(s : Int),fo,fn,fcd,ffin,fd,fsp⟩):=fun _ => hin
         clear I hin
         go_wp2_with (go_at_call 24;refine II.out.mono ?_;rintro x w2 ⟨rfl,hw⟩;obtain rfl : W = w2:=hw.symm)
         exact ⟨HNX.out _ _ B3.out A2.out HG.out,by have:=HLT.out;simp [intOf];omega⟩
        ·have I:=isStream_any fst W
         rw [show (decide ((0 : Int) ≤ fst) && decide (fst < 4)) = false from by simp;omega] at I
         have II:=qhi I
         have HNE : Hid (¬ OneF q fs):=fun ho => by
          obtain ⟨h1,_⟩:=HONE.out ho
          obtain ⟨f,s,hfs,_,_,h5,h6,_⟩:=ho
          rw [hfs] at h1
          have h2:=(List.cons.inj h1).1
          rw [h2] at h5
          simp only at h5
          exact hin (by omega)
         clear I hin
         go_wp2_with (go_at_call 24;refine II.out.mono ?_;rintro x w2 ⟨rfl,hw⟩;obtain rfl : W = w2:=hw.symm)
         go_ret
         exact ⟨9,rfl,B3.out,fun h => absurd h (by decide),fun h => absurd h HNE.out⟩
       ·by_cases hin : 0 ≤ fst ∧ fst < 4
        ·obtain ⟨s,hs⟩ : ∃ s : Nat,fst = (s : Int):=⟨fst.toNat,by omega⟩
         subst hs
         have I:=isStream_any (s : Int) W
         rw [show (decide ((0 : Int) ≤ (s : Int)) && decide ((s : Int) < 4)) = true from by simp;omega] at I
         have II:=qhi I
         have HG : Hid (GoodF ⟨17,(s : Int),fo,fn,fcd,ffin,fd,fsp⟩):=fun _ => hin
         clear I hin
         go_wp2_with (go_at_call 24;refine II.out.mono ?_;rintro x w2 ⟨rfl,hw⟩;obtain rfl : W = w2:=hw.symm)
         exact ⟨HNX.out _ _ B3.out A2.out HG.out,by have:=HLT.out;simp [intOf];omega⟩
        ·have I:=isStream_any fst W
         rw [show (decide ((0 : Int) ≤ fst) && decide (fst < 4)) = false from by simp;omega] at I
         have II:=qhi I
         have HNE : Hid (¬ OneF q fs):=fun ho => by
          obtain ⟨h1,_⟩:=HONE.out ho
          obtain ⟨f,s,hfs,_,_,h5,h6,_⟩:=ho
          rw [hfs] at h1
          have h2:=(List.cons.inj h1).1
          rw [h2] at h5
          simp only at h5
          exact hin (by omega)
         clear I hin
         go_wp2_with (go_at_call 24;refine II.out.mono ?_;rintro x w2 ⟨rfl,hw⟩;obtain rfl : W = w2:=hw.symm)
         go_ret
         exact ⟨9,rfl,B3.out,fun h => absurd h (by decide),fun h => absurd h HNE.out⟩
       ·by_cases hin : 0 ≤ fst ∧ fst < 4
        ·obtain ⟨s,hs⟩ : ∃ s : Nat,fst = (s : Int):=⟨fst.toNat,by omega⟩
         subst hs
         have hs4 : s < 4:=by omega
         have I:=isStream_any (s : Int) W
         rw [show (decide ((0 : Int) ≤ (s : Int)) && decide ((s : Int) < 4)) = true from by simp;omega] at I
         have II:=qhi I
         have HG : Hid (GoodF ⟨8,(s : Int),fo,fn,fcd,ffin,fd,fsp⟩):=fun _ => hin
         have hmd:=may_data HFM.out rfl
         simp only at hmd
         rw [← HDN.out] at hmd
         have AD:=A2.out.below (qbd (qbr _ W) 1)
         have TK : Hid (Calls Tryz.prog 80 #[.pointer (some ⟨bk,s * 4,none⟩),.agg #[.int .i64 8,.int .i64 (s : Int),.int .i64 fo,.int .i64 fn,.int .i64 fcd,.bool ffin,.slice da dn dc,.slice sa sn sc]] W.drew fun r w' => ∃ y : Int,r = .returned (.int .i64 y) ∧ BdS bk (s * 4) W.drew w' ∧ (OneF q fs → y = 0)):=by
          by_cases ho : OneF q fs
          ·obtain ⟨h1,hj0⟩:=HONE.out ho
           obtain ⟨f,s',hfs,_,hfin,hst,_,g1,g2,g3⟩:=ho
           rw [hfs] at h1
           have h2:=(List.cons.inj h1).1
           rw [h2] at hfin hst g1 g3
           simp only at hfin hst g1 g3
           have hss : s' = s:=by omega
           subst hss
           rw [← HDN.out] at g1 g3
           have hb : b s' = bdOf (q.rs s'):=BS.out hj0 s' hs4
           have AD':=AD s' hs4
           rw [hb] at AD'
           have:=takeB_yes AD' 8 (s' : Int) fo fn fcd da sa dn dc sn sc hmd g1 g2 g3
           rw [hfin]
           exact this.mono fun r w' ⟨p1,p2⟩ => ⟨0,p1,p2,fun _ => rfl⟩
          ·exact (takeB_any (AD s hs4) 8 (s : Int) fo fn fcd ffin da sa dn dc sn sc hmd).mono fun r w' ⟨⟨y,p1⟩,p2⟩ => ⟨y,p1,p2,fun h => absurd h ho⟩
         have HS4:=qhi hs4
         have zd0 : W.drew.cell? ⟨bf,0,none⟩ = some (.int .i64 8):=qcb CB.out 0
         have zd1 : W.drew.cell? ⟨bf,1,none⟩ = some (.int .i64 (s : Int)):=qcb CB.out 1
         have zd2 : W.drew.cell? ⟨bf,2,none⟩ = some (.int .i64 fo):=qcb CB.out 2
         have zd3 : W.drew.cell? ⟨bf,3,none⟩ = some (.int .i64 fn):=qcb CB.out 3
         have zd4 : W.drew.cell? ⟨bf,4,none⟩ = some (.int .i64 fcd):=qcb CB.out 4
         have zd5 : W.drew.cell? ⟨bf,5,none⟩ = some (.bool ffin):=qcb CB.out 5
         have zd6 : W.drew.cell? ⟨bf,6,none⟩ = some (.slice da dn dc):=qcb CB.out 6
         have zd7 : W.drew.cell? ⟨bf,7,none⟩ = some (.slice sa sn sc):=qcb CB.out 7
         have i4 : (s : Int) < 4:=hin.2
         have i0 : (0 : Int) ≤ (s : Int):=hin.1
         clear I hin hmd AD hs4
         go_upto_region 21 with (go_at_call 24;refine II.out.mono ?_;rintro x w2 ⟨rfl,hw⟩;obtain rfl : W = w2:=hw.symm)
         go_region_law (first | (go_simp;go_at_call 80;refine TK.out.mono ?_;rintro x w3 ⟨y,rfl,hbd,hy⟩;have BD:=qhi hbd;have YY:=qhi hy;clear hbd hy))
         all_goals clear zd0 zd1 zd2 zd3 zd4 zd5 zd6 zd7
         all_goals obtain ⟨b',hb',hk',hr'⟩:=BD.out
         all_goals have A3 : Hid (AR bk (upd b s b') w3):=(fun i hi => by
          by_cases his : i = s
          ·subst his;rw [upd_at];exact hb'
          ·rw [upd_ne _ _ his];exact ((A2.out.below (qbd (qbr _ W) 1)) i hi).rgn hr' (by omega) : AR bk (upd b s b') w3)
         all_goals have B4 : Hid (Below w.heap.size w w3):=(qbd B3.out 1).trans (hk'.to_below (fun i hi => by simp at hi;subst hi;exact HBK.out) (by have:=B3.out.size;exact this))
         all_goals clear hb' hk' hr' BD TK
         all_goals by_cases hy0 : y = 0
         all_goals first
          | (subst hy0
             go_wp2_with fail
             exact ⟨HNX.out _ _ B4.out A3.out HG.out,by have:=HLT.out;simp [intOf];omega⟩)
          | (have hyn : (y != 0) = true:=by simpa using hy0
             have HY0:=qhi hy0
             clear hy0
             go_wp2_with fail
             go_ret
             exact ⟨y,rfl,B4.out,fun h => absurd h HY0.out,YY.out⟩)
        ·have I:=isStream_any fst W
         rw [show (decide ((0 : Int) ≤ fst) && decide (fst < 4)) = false from by simp;omega] at I
         have II:=qhi I
         have HNE : Hid (¬ OneF q fs):=fun ho => by
          obtain ⟨h1,_⟩:=HONE.out ho
          obtain ⟨f,s,hfs,_,_,h5,h6,_⟩:=ho
          rw [hfs] at h1
          have h2:=(List.cons.inj h1).1
          rw [h2] at h5
          simp only at h5
          exact hin (by omega)
         clear I hin
         go_wp2_with (go_at_call 24;refine II.out.mono ?_;rintro x w2 ⟨rfl,hw⟩;obtain rfl : W = w2:=hw.symm)
         go_ret
         exact ⟨9,rfl,B3.out,fun h => absurd h (by decide),fun h => absurd h HNE.out⟩
      ·have e4 : (fk == 4) = false:=by simp;omega
       have e5 : (fk == 5) = false:=by simp;omega
       have e17 : (fk == 17) = false:=by simp;omega
       have e8 : (fk == 8) = false:=by simp;omega
       have HG : Hid (GoodF ⟨fk,fst,fo,fn,fcd,ffin,fd,fsp⟩):=fun h => absurd h kk
       clear k2 kk
       go_wp2_with fail
       exact ⟨HNX.out _ _ B3.out A2.out HG.out,by have:=HLT.out;simp [intOf];omega⟩
    ·have i1 : ¬ ((j : Int) < (fs.length : Int)):=by omega
     clear hlt
     go_wp2_with fail
     go_ret
     exact ⟨0,rfl,BB.out,fun _ f hf => by obtain ⟨i,hi,rfl⟩:=List.mem_iff_getElem.1 hf;exact GO.out i _ (by omega) (List.getElem?_eq_getElem hi),fun _ => rfl⟩
end Go.Proofs.YtmcomdmcmnbhlaaGreatDoor
