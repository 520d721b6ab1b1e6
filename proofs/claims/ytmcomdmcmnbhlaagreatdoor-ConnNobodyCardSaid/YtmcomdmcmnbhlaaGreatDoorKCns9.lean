import Derived.Test.YtmcomdmcmnbhlaaGreatDoorKCns8
import Derived.Test.YtmcomdmcmnbhlaaGreatDoorKCn7
import Derived.Test.YtmcomdmcmnbhlaaGreatDoorKCn2
set_option maxRecDepth 100000
set_option maxHeartbeats 25600000
set_option linter.unusedSimpArgs false
set_option linter.unusedVariables false
set_option linter.unnecessarySimpa false
namespace Go.Proofs.YtmcomdmcmnbhlaaGreatDoor
open Go.RowKit Go.Maps
theorem addR_some : ∀ (ss : List (Int × Int)) (f t : Int),addR ss f t ≠ []
 | [],f,t => by simp [addR]
 | s :: r,f,t => by
   rw [addR]
   split
   ·simp
   split
   ·simp
   ·exact addR_some r _ _
theorem topN_fits {ss : List (Int × Int)} (h : riseB 0 ss = true) (ht : ∀ s ∈ ss,s.2 ≤ 1048575) (h0 : ∀ s ∈ ss,0 ≤ s.2) : -1 ≤ topN ss ∧ topN ss ≤ 1048575:=by
 unfold topN
 split
 ·omega
 ·rename_i hn
  have hl : 0 < ss.length:=List.length_pos_iff.2 hn
  have e : ss.getD (ss.length - 1) (0,0) = ss[ss.length - 1]:=by
   rw [List.getD_eq_getElem?_getD,List.getElem?_eq_getElem (by omega)];rfl
  rw [e]
  have hm:=List.getElem_mem (l:=ss) (n:=ss.length - 1) (by omega)
  exact ⟨by have:=h0 _ hm;omega,ht _ hm⟩
theorem rise_zero : ∀ {ss : List (Int × Int)} {l : Int},riseB l ss = true → ∀ s ∈ ss,l ≤ s.2
 | [],_,_,s,hs => by cases hs
 | s' :: r,l,h,s,hs => by
   rw [rise_cons] at h
   rcases List.mem_cons.1 hs with rfl | hs
   ·have:=h.1;omega
   ·have h1:=rise_zero h.2 s hs
    have:=h.1;omega
theorem enc_few {fs : List Fr} {bs : List Int} (h : encL fs = .ok bs) : fs.length ≤ 64:=by
 unfold encL at h
 split at h
 ·cases h
 ·omega
theorem OwnF.form0 {w : World} {B : Nat} {v : Value} {fs : List Fr} (h : OwnF w B v fs) (h0 : fs ≠ []) : ∃ b c,v = .slice (some ⟨b,0,none⟩) fs.length c:=by
 obtain ⟨ub,uo,uc,rfl,_⟩:=h.rd.form h0
 have h0:=List.length_pos_iff.2 h0
 obtain ⟨l,_,⟨_,h1⟩,_⟩:=h
 rcases h1 with h1 | ⟨g,cap,cur,e1,_⟩
 ·simp only [Value.slice.injEq] at h1;exact absurd h1.1 (by simp)
 ·simp only [Value.slice.injEq,Option.some.injEq,Addr.mk.injEq] at e1
  rw [e1.1.2.1];exact ⟨ub,uc,rfl⟩
theorem Stp.recol2 {c c' c'' : Col} {P : Nat → Prop} {w w' : World} (h : Stp c c' P w w') (hc : ∀ j,j < w'.heap.size → c'' j = c' j) : Stp c c'' P w w' :=
 ⟨h.os,h.tape,h.output,h.size,fun i hi => (hc i (Nat.lt_of_lt_of_le hi h.size)).trans (h.col i hi),h.block⟩
def Recvd (c : Col) (K e : Nat) (X : Nat → List Int) (F : Nat → Bool) (Y : Nat → List Int) (G : Nat → Bool) (q : EQ) (n : Nat) (fs : List Fr) (w : World) (r : Ending) (w' : World) : Prop :=
 ∃ (y : Int) (c' : Col) (q' : EQ),r = .returned (.int .i64 y) ∧ EOk c' K e X F Y G q' w' ∧ Stp c c' (EndC K) w w' ∧ (y ≠ 0 → q' = q) ∧
  (y = 0 → q'.came ≠ [] ∧ ∃ t ca cv cm,EHs { q with time:=t,cameAt:=ca,cv:=cv,came:=cm } fs q') ∧ (inB5 (n : Int) q.came = false → OneF q fs → y = 0)
def CutO (w : World) (B n : Nat) (fs : List Fr) (t7 t8 t9 : Value) (wx : World) : Prop :=
 ∃ b c,t7 = .int .i64 (n : Int) ∧ t8 = .slice (some ⟨b,0,none⟩) fs.length c ∧ t9 = .int .i64 0 ∧ OwnF wx B (.slice (some ⟨b,0,none⟩) fs.length c) fs ∧ Below B w wx
section
variable {c : Col} {K e : Nat} {X : Nat → List Int} {F : Nat → Bool} {Y : Nat → List Int} {G : Nat → Bool} {q : EQ}
theorem erecv {w : World} {Z n : Nat} {fs : List Fr} (ht : Tab w) (h : EOk c K e X F Y G q w) (hc : ∀ j,w.heap.size ≤ j → c j = Z) (hz : ¬ EndC K Z) (hY : ∀ i,i < 4 → ((Y i).length : Int) ≤ 4398046511104) (hg : GramOk n fs) (hsay : ∀ f ∈ fs,SayF Y G f) (hak : ∀ f ∈ fs,f.kind = 2 → HearsAck) (va : Option Addr) (vn vc : Nat)
  (hv : Rd .u8 w (.slice va vn vc) (sealL (bits .xor .u64 q.key (1 - q.role + 1)) (bodyOf n fs))) (now : Int) :
  Calls Tryz.prog 16 #[.pointer (some ⟨e,0,none⟩),.slice va vn vc,.int .i64 now] w (Recvd c K e X F Y G q n fs w):=by
 have H:=qhi h
 have HT:=qhi ht
 have HC:=qhi hc
 have HZ:=qhi hz
 have HY:=qhi hY
 have HG:=qhi hg
 have HSAY:=qhi hsay
 have HAK:=qhi hak
 have HV:=qhi hv
 have MA:=qhi (emade w h.fly.cells.c0.1)
 obtain ⟨ca,cc,hcv,_,_⟩:=h.cell.row.reads.isSlice
 have HCV:=qhi hcv
 have hrole:=h.num.role
 have hr1 : 1 - q.role = 0 ∨ 1 - q.role = 1:=by rcases hrole with x | x <;> rw [x] <;> simp
 have hwr : IntKind.i64.wrap (1 - q.role) = 1 - q.role:=by rw [IntKind.wrap_i64];omega
 have htop:=topN_fits h.num.rise h.num.top (rise_zero h.num.rise)
 have hfew:=h.num.few
 have KO:=qhi (fun W => keyOf_any q.key (1 - q.role) W hr1)
 have GR:=qhi (fun W (hW : Below w.heap.size w W) => greatest_any (h.cell.row.reads.below hW) (by omega))
 have OG:=qhi (fun W (hW : Below w.heap.size w W) => open_goodF (bits .xor .u64 q.key (1 - q.role + 1)) (.slice va vn vc) n fs (topN q.came) W (ht.below hW ht.pos) hg htop.1 (by omega) (hv.below hW))
 have CL:=qhi (fun W (hW : Below w.heap.size w W) => (show W.cell? ⟨e,0,none⟩ = some (.int .i64 q.role) ∧ W.cell? ⟨e,1,none⟩ = some (.int .u64 q.key) ∧ W.cell? ⟨e,51,none⟩ = some (.slice ca q.came.length cc) from
  ⟨(h.cell.below hW).c0.1,(h.cell.below hW).c1.1,by have:=(h.cell.below hW).c51.1;rw [hcv] at this;exact this⟩))
 rw [hcv] at GR
 clear h ht hc hz hY hg hsay hak hv hcv hrole hr1 htop hfew
 go_enter Tryz.func16,Tryz.ntmps16
 go_upto_region 3 with (go_at_call 23;refine MA.out.mono ?_;rintro x w2 ⟨rfl,hw⟩;obtain rfl : w = w2:=hw.symm)
 go_cut [7,8,9] (fun t7 t8 t9 wx => CutO w w.heap.size n fs t7 t8 t9 wx)
 case first =>
  clear HT HC HZ HY HSAY HV MA H HCV
  have B0 : Hid (Below w.heap.size w w.drew):=qbd (qbr _ w) 1
  obtain ⟨c0,c1,c51⟩:=CL.out _ B0.out
  go_region_law (first
   | (go_simp;go_at_call 39;refine (KO.out _).mono ?_;rintro x wk ⟨rfl,hw⟩;obtain rfl:=hw)
   | (go_simp;go_at_call 42;refine (GR.out _ B0.out).mono ?_;rintro x w2 ⟨rfl,hb⟩;have B2:=qhi (B0.out.trans (hb.mono B0.out.size));obtain ⟨d0,d1,d51⟩:=CL.out _ B2.out;clear hb)
   | (go_simp;go_at_call 41;refine (OG.out _ B2.out).mono ?_;rintro x w3 ⟨u,rfl,hu,hb⟩;have HU:=qhi (hu.mono B2.out.size);have B3:=qhi (B2.out.trans (hb.mono B2.out.size));clear hu hb))
  all_goals go_wp2_with fail
  all_goals go_meet
  all_goals
   obtain ⟨ub,uc,rfl⟩:=HU.out.form0 HG.out.some
   exact ⟨ub,uc,rfl,rfl,rfl,HU.out,B3.out⟩
 case rest =>
 obtain ⟨ub,uc,rfl,rfl,rfl,hu,hb⟩:=hcut
 have HU:=qhi hu
 have B3:=qhi hb
 have E3:=qhi (H.out.below hb)
 have c51:=(CL.out _ hb).2.2
 have hnum:=HG.out.num
 have NH:=qhi (nhas_any (n:=(n : Int)) E3.out.cell.row.reads E3.out.num.rise (by have:=E3.out.num.few;omega) ⟨by omega,by omega⟩)
 rw [HCV.out] at NH
 have CK:=qhi (fun W (hW : Below wc.heap.size wc W) => echeck (E3.out.below hW) HY.out (HU.out.rd.below hW) HG.out.some (enc_may HG.out.enc))
 have MY : Hid (∀ f ∈ fs,mayF f = true):=by have:=enc_may HG.out.enc;rw [List.all_eq_true] at this;exact this
 have HN : Hid (n < 1048576):=hnum
 have FEW : Hid (fs.length ≤ 64):=enc_few HG.out.enc
 clear hu hb hnum KO GR OG CL MA HV HT H
 generalize wc = w3 at HU B3 E3 c51 NH CK ⊢
 cases hin : inB5 (n : Int) q.came
 ·rw [hin] at NH
  go_upto_region 9 with (first
   | (go_at_call 43;refine NH.out.mono ?_;rintro x w4 ⟨rfl,hb4⟩;have B4:=qhi hb4;clear hb4)
   | (go_at_call 44;refine (CK.out _ B4.out).mono ?_;rintro x w5 ⟨y,rfl,hb5,hgood,hone⟩;have B5:=qhi (B4.out.trans (hb5.mono B4.out.size));have GO:=qhi hgood;have ON:=qhi hone;clear hb5 hgood hone))
  have E5:=qhi (E3.out.below B5.out)
  have U5:=qhi (HU.out.below B5.out)
  have BB:=qhi (B3.out.trans (B5.out.mono B3.out.size))
  clear NH CK E3 HU B4 B5 B3 c51
  generalize w5 = w4 at E5 U5 BB ⊢
  by_cases hy : y = 0
  ·subst hy
   have LA:=qhi (later_any E5.out.cell now)
   obtain ⟨T,hT⟩ : ∃ T,T = laterE q.time now:=⟨_,rfl⟩
   have hfit:=later_fits E5.out.num.time (now:=now)
   rw [← hT] at hfit LA
   clear hT
   obtain ⟨c2,f2⟩:=E5.out.cell.c2
   obtain ⟨e6,s6,_⟩:=E5.out.setTime T hfit
   have MK:=qhi (emark e6 (n : Int) ⟨by omega,by have:=HN.out;omega⟩)
   have S6:=qhi s6
   have ZC : Hid (∀ j,w.heap.size ≤ j → ¬ EndC K (c j)):=fun j hj => by rw [HC.out j hj];exact HZ.out
   have hsz6 : (w4.setCell ⟨e,2,none⟩ (.int .i64 T)).heap.size = w4.heap.size:=by simp [World.setCell]
   have U6 : Hid (OwnF (w4.setCell ⟨e,2,none⟩ (.int .i64 T)) w.heap.size (.slice (some ⟨ub,0,none⟩) fs.length uc) fs):=U5.out.stp S6.out (fun j h1 h2 h3 => ZC.out j h1 (by rw [h3];unfold EndC;omega))
   have SZ6:=qhi hsz6
   clear e6 s6 hfit hsz6
   go_upto_region 13 with (first
    | (go_at_call 29;refine LA.out.mono ?_;rintro x w5 ⟨rfl,hw⟩;obtain rfl : w4 = w5:=hw.symm)
    | (go_at_call 45;refine MK.out.mono ?_;rintro x w7 ⟨rfl,c',v',t,hE,hS,_⟩;have E7:=qhi hE;have S7:=qhi hS;clear hE hS))
   clear c2 f2 LA MK
   generalize w4.setCell ⟨e,2,none⟩ (.int .i64 T) = w6 at U6 S6 S7 SZ6 ⊢
   obtain ⟨c4,hc4⟩ : ∃ c4 : Col,c4 = fun j => if j < w7.heap.size then c' j else Z:=⟨_,rfl⟩
   have HC4 : Hid (∀ j,j < w7.heap.size → c4 j = c' j):=fun j hj => by rw [hc4];simp [hj]
   have HC5 : Hid (∀ j,w7.heap.size ≤ j → c4 j = Z):=fun j hj => by rw [hc4];simp [Nat.not_lt.2 hj]
   clear hc4
   obtain ⟨q7,hq7⟩ : ∃ q7 : EQ,q7 = { q with time:=T,cameAt:=t,cv:=v',came:=addR q.came (n : Int) (n : Int) }:=⟨_,rfl⟩
   have E8 : Hid (EOk c4 K e X F Y G q7 w7):=by rw [hq7];exact E7.out.beyond HC4.out
   have S8 : Hid (Stp c c4 (EndC K) w6 w7):=(S7.out.mono (fun i hi => by unfold EndC;omega)).recol2 HC4.out
   have SW : Hid (Stp c c (EndC K) w w6):=(Stp.of_below BB.out).trans (S6.out.mono (fun i hi => by unfold EndC;omega))
   have HQ7:=qhi hq7
   clear hq7 E7 S7 E5 U5 S6 ON BB
   go_wp2_with fail
   go_loopw [63] (fun s wr => ∃ (k : Nat) (q' : EQ),s = .int .i64 (k : Int) ∧ k ≤ fs.length ∧ EOk c4 K e X F Y G q' wr ∧ EHs q7 (fs.take k) q' ∧ Stp c c4 (EndC K) w6 wr ∧ w7.heap.size ≤ wr.heap.size) (fun s _ => fs.length - (intOf s).toNat)
   case atStart => exact ⟨0,q7,rfl,by omega,E8.out,by simpa using EHs.nil q7,S8.out,qlr _⟩
   case round =>
    obtain ⟨k,q',rfl,hk,h1,h2,h3,h4⟩:=hrel
    have E9:=qhi h1
    have R9:=qhi h2
    have S9:=qhi h3
    have SZ:=qhi h4
    clear h1 h2 h3 h4
    by_cases hlt : k < fs.length
    ·obtain ⟨f,da,sa,dc,sc,hf,hda,hsa,hov⟩:=U6.out.over k hlt
     obtain ⟨⟨y0,y1,y2,y3,y4,y5,y6,y7⟩,hd,hs⟩:=hov c c4 (EndC K) wr S9.out (fun j hj _ => ZC.out j hj)
     have hmem:=List.mem_of_getElem? hf
     have hcol : ∀ j,w.heap.size ≤ j ∧ j < w6.heap.size → ¬ EndC K (c4 j):=fun j hj => by rw [S9.out.col j hj.2];exact ZC.out j hj.1
     have HE:=fun W (hW : Below wr.heap.size wr W) => ehear f (E9.out.below hW) (fun j hj => HC5.out j (Nat.le_trans SZ.out (Nat.le_trans hW.size hj))) HZ.out da sa dc sc (hd.below hW) (hs.below hW) (fun j hj => hcol j (hda j hj)) (fun j hj => hcol j (hsa j hj)) (MY.out f hmem) (GO.out trivial f hmem) (HSAY.out f hmem) (HAK.out f hmem)
     have hstep : ∀ q2,EHr q' f q2 → EHs q7 (fs.take (k + 1)) q2:=fun q2 hr => by
      have:=R9.out.snoc hr
      rw [List.take_add_one,hf];exact this
     obtain ⟨fk,fst,fo,fn,fcd,ffin,fd,fsp⟩:=f
     dsimp only at y0 y1 y2 y3 y4 y5 y6 y7 HE
     simp only [Nat.zero_add] at y0 y1 y2 y3 y4 y5 y6 y7
     have HE:=qhi HE
     have HST:=qhi hstep
     have HLT:=qhi hlt
     have i1 : (k : Int) < (fs.length : Int):=by omega
     have i2 : (0 : Int) ≤ (k : Int):=by omega
     have hwk : IntKind.i64.wrap ((k : Int) + 1) = ((k + 1 : Nat) : Int):=by rw [IntKind.wrap_i64];have:=FEW.out;omega
     clear hf hda hsa hov hd hs hmem hcol hstep hlt hk
     obtain ⟨sn,hsn⟩ : ∃ sn,sn = fsp.length:=⟨_,rfl⟩
     obtain ⟨dn,hdn⟩ : ∃ dn,dn = fd.length:=⟨_,rfl⟩
     rw [← hsn] at y7 HE
     rw [← hdn] at y6 HE
     clear hsn hdn
     go_upto_region 16 with fail
     have CB : Hid ((wr.alloc (.cells #[.int .i64 fk,.int .i64 fst,.int .i64 fo,.int .i64 fn,.int .i64 fcd,.bool ffin,.slice da dn dc,.slice sa sn sc] 102)).heap[wr.heap.size]? = some (.cells #[.int .i64 fk,.int .i64 fst,.int .i64 fo,.int .i64 fn,.int .i64 fcd,.bool ffin,.slice da dn dc,.slice sa sn sc] 102 (0,0))):=Go.heap_alloc_new _ _
     have B2:=qhi (below1 wr (.cells #[.int .i64 fk,.int .i64 fst,.int .i64 fo,.int .i64 fn,.int .i64 fcd,.bool ffin,.slice da dn dc,.slice sa sn sc] 102))
     clear y0 y1 y2 y3 y4 y5 y6 y7
     generalize wr.alloc (.cells #[.int .i64 fk,.int .i64 fst,.int .i64 fo,.int .i64 fn,.int .i64 fcd,.bool ffin,.slice da dn dc,.slice sa sn sc] 102) = W at CB B2 ⊢
     have z0 : W.cell? ⟨wr.heap.size,0,none⟩ = some (.int .i64 fk):=qcb CB.out 0
     have z1 : W.cell? ⟨wr.heap.size,1,none⟩ = some (.int .i64 fst):=qcb CB.out 1
     have z2 : W.cell? ⟨wr.heap.size,2,none⟩ = some (.int .i64 fo):=qcb CB.out 2
     have z3 : W.cell? ⟨wr.heap.size,3,none⟩ = some (.int .i64 fn):=qcb CB.out 3
     have z4 : W.cell? ⟨wr.heap.size,4,none⟩ = some (.int .i64 fcd):=qcb CB.out 4
     have z5 : W.cell? ⟨wr.heap.size,5,none⟩ = some (.bool ffin):=qcb CB.out 5
     have z6 : W.cell? ⟨wr.heap.size,6,none⟩ = some (.slice da dn dc):=qcb CB.out 6
     have z7 : W.cell? ⟨wr.heap.size,7,none⟩ = some (.slice sa sn sc):=qcb CB.out 7
     have HW:=qhi (HE.out W B2.out)
     go_wp2_with (go_at_call 46;refine HW.out.mono ?_;rintro x w9 ⟨rfl,q2,hE2,hR2,hS2⟩)
     have S10:=(S9.out.trans (Stp.of_below B2.out)).trans hS2
     exact ⟨⟨k + 1,q2,by simp,by have:=HLT.out;omega,hE2,HST.out q2 hR2,S10,Nat.le_trans SZ.out (Nat.le_trans B2.out.size hS2.size)⟩,by have:=HLT.out;simp [intOf];omega⟩
    ·have i1 : ¬ ((k : Int) < (fs.length : Int)):=by omega
     have hkk : k = fs.length:=by omega
     subst hkk
     have R:=R9.out
     rw [List.take_length] at R
     go_wp2_with fail
     go_ret
     refine ⟨0,c4,q',rfl,E9.out,SW.out.trans S9.out,fun h => absurd rfl h,fun _ => ⟨?_,T,t,v',_,HQ7.out ▸ R⟩,fun _ _ => rfl⟩
     rw [R.same,HQ7.out];exact addR_some _ _ _
  ·have hy1 : (y != 0) = true:=by simp [hy]
   have hy2 : ¬ y = 0:=hy
   go_wp2_with fail
   go_ret
   exact ⟨y,c,q,rfl,E5.out,Stp.of_below BB.out,fun _ => rfl,fun h => absurd h hy,fun _ h => ON.out h⟩
 ·rw [hin] at NH
  go_wp2_with (go_at_call 43;refine NH.out.mono ?_;rintro x w4 ⟨rfl,hb4⟩;have B4:=qhi hb4;clear hb4)
  go_ret
  exact ⟨14,c,q,rfl,E3.out.below B4.out,Stp.of_below (B3.out.trans (B4.out.mono B3.out.size)),fun _ => rfl,fun h => absurd h (by decide),fun h => by rw [hin] at h;cases h⟩
end
end Go.Proofs.YtmcomdmcmnbhlaaGreatDoor
namespace Go.Proofs.YtmcomdmcmnbhlaaGreatDoor
open Go.RowKit Go.Maps
def newWQ : WQ:=⟨[],0,false,1024⟩
def newRQ (b r m : Nat) : RdQ:=⟨b,r,m,fresh9 1024,0,1024,0⟩
def setS (w : World) (e o : Nat) (b : Nat) : World :=
 (((((((w.setCell ⟨e,o,none⟩ (.slice none 0 0)).setCell ⟨e,o + 1,none⟩ (.int .i64 0)).setCell ⟨e,o + 2,none⟩ (.bool false)).setCell ⟨e,o + 3,none⟩ (.int .i64 1024)).setCell ⟨e,o + 4,none⟩ (.pointer (some ⟨b,0,none⟩))).setCell ⟨e,o + 5,none⟩ (.int .i64 0)).setCell ⟨e,o + 6,none⟩ (.int .i64 1024)).setCell ⟨e,o + 7,none⟩ (.int .i64 0)
theorem setS_keep (w : World) (e o b : Nat) : Keep [e] w (setS w e o b):=by
 have T : ∀ {a b' c : World},Keep [e] a b' → Keep [e] b' c → Keep [e] a c:=fun h k => h.trans k (fun i hi => .inl hi)
 unfold setS
 refine T ?_ (keep_setCell _ e _ _)
 refine T ?_ (keep_setCell _ e _ _)
 refine T ?_ (keep_setCell _ e _ _)
 refine T ?_ (keep_setCell _ e _ _)
 refine T ?_ (keep_setCell _ e _ _)
 refine T ?_ (keep_setCell _ e _ _)
 refine T ?_ (keep_setCell _ e _ _)
 exact keep_setCell _ e _ _
theorem setS_rgn (w : World) (e o b : Nat) : Rgn e o (o + 8) w (setS w e o b):=by
 unfold setS
 exact (((((((Rgn.set ⟨by omega,by omega⟩).trans (Rgn.set ⟨by omega,by omega⟩)).trans (Rgn.set ⟨by omega,by omega⟩)).trans (Rgn.set ⟨by omega,by omega⟩)).trans (Rgn.set ⟨by omega,by omega⟩)).trans (Rgn.set ⟨by omega,by omega⟩)).trans (Rgn.set ⟨by omega,by omega⟩)).trans (Rgn.set ⟨by omega,by omega⟩)
theorem Cell.oth {e i j : Nat} {v u : Value} {w : World} (h : Cell e j v w) (hij : j ≠ i) : Cell e j v (w.setCell ⟨e,i,none⟩ u):=h.rgn (lo:=i) (hi:=i + 1) (Rgn.set ⟨by omega,by omega⟩) (by omega)
theorem setS_cells {w : World} {e o b : Nat} (h : ∀ j,j < 8 → ∃ v,Cell e (o + j) v w) : WrC e o (.slice none 0 0) newWQ (setS w e o b) ∧ ∀ r m,RrC e (o + 4) (newRQ b r m) (setS w e o b):=by
 obtain ⟨v0,h0⟩:=h 0 (by omega)
 obtain ⟨v1,h1⟩:=h 1 (by omega)
 obtain ⟨v2,h2⟩:=h 2 (by omega)
 obtain ⟨v3,h3⟩:=h 3 (by omega)
 obtain ⟨v4,h4⟩:=h 4 (by omega)
 obtain ⟨v5,h5⟩:=h 5 (by omega)
 obtain ⟨v6,h6⟩:=h 6 (by omega)
 obtain ⟨v7,h7⟩:=h 7 (by omega)
 simp only [Nat.add_zero] at h0
 unfold setS
 refine ⟨⟨?_,?_,?_,?_⟩,fun r m => ⟨?_,?_,?_,?_⟩⟩
 ·exact ((((((((h0.set _ rfl).oth (by omega)).oth (by omega)).oth (by omega)).oth (by omega)).oth (by omega)).oth (by omega)).oth (by omega))
 ·exact (((((((h1.oth (by omega)).set _ rfl).oth (by omega)).oth (by omega)).oth (by omega)).oth (by omega)).oth (by omega)).oth (by omega)
 ·exact (((((((h2.oth (by omega)).oth (by omega)).set _ rfl).oth (by omega)).oth (by omega)).oth (by omega)).oth (by omega)).oth (by omega)
 ·exact (((((((h3.oth (by omega)).oth (by omega)).oth (by omega)).set _ rfl).oth (by omega)).oth (by omega)).oth (by omega)).oth (by omega)
 ·exact (((((((h4.oth (by omega)).oth (by omega)).oth (by omega)).oth (by omega)).set _ rfl).oth (by omega)).oth (by omega)).oth (by omega)
 ·exact (((((((h5.oth (by omega)).oth (by omega)).oth (by omega)).oth (by omega)).oth (by omega)).set _ rfl).oth (by omega)).oth (by omega)
 ·exact (((((((h6.oth (by omega)).oth (by omega)).oth (by omega)).oth (by omega)).oth (by omega)).oth (by omega)).set _ rfl).oth (by omega)
 ·exact (((((((h7.oth (by omega)).oth (by omega)).oth (by omega)).oth (by omega)).oth (by omega)).oth (by omega)).oth (by omega)).set _ rfl
structure NewAt (e : Nat) (ro key : Int) (tb lb mb : Nat) (P : Nat → RdQ) (S : Nat → Nat) (k : Nat) (w : World) : Prop where
 c0 : Cell e 0 (.int .i64 ro) w
 c1 : Cell e 1 (.int .u64 key) w
 c2 : Cell e 2 (.int .i64 0) w
 c35 : Cell e 35 (.int .i64 0) w
 c36 : Cell e 36 (.int .i64 0) w
 c51 : Cell e 51 (.slice none 0 0) w
 c52 : Cell e 52 (.int .i64 0) w
 c53 : Cell e 53 (.bool false) w
 fl : FlC e 37 tb lb (-1) ⟨12000,0,0,-1,0⟩ ⟨false,0,0,0,0⟩ 0 w
 map : Mt w tb []
 led : Led lb mb fresh8 w
 bl : tb < e ∧ lb < e ∧ mb < e ∧ tb ≠ lb ∧ tb ≠ mb
 s0 : S 0 = e + 1
 up : ∀ i,i < k → S i ≤ S (i + 1)
 top : S k ≤ w.heap.size
 old : ∀ i,i < k → WrC e (3 + 8 * i) (.slice none 0 0) newWQ w ∧ RrC e (3 + 8 * i + 4) (P i) w ∧ Str (P i).b (P i).r (P i).m (fresh9 1024) w ∧ (S i ≤ (P i).b ∧ (P i).b < S (i + 1)) ∧ (S i ≤ (P i).r ∧ (P i).r < S (i + 1)) ∧ (S i ≤ (P i).m ∧ (P i).m < S (i + 1)) ∧ P i = newRQ (P i).b (P i).r (P i).m
 new : ∀ i,k ≤ i → i < 4 → ∀ j,j < 8 → ∃ v,Cell e (3 + 8 * i + j) v w
theorem NewAt.mono {e : Nat} {ro key : Int} {tb lb mb : Nat} {P : Nat → RdQ} {S : Nat → Nat} {k : Nat} (hk : k ≤ 4) : ∀ {i},({w : World} → (h : NewAt e ro key tb lb mb P S k w) → i ≤ k → e + 1 ≤ S i):=by
 intro i w h hi
 induction i with
 | zero => exact Nat.le_of_eq h.s0.symm
 | succ i ih => have:=ih (by omega);have:=h.up i (by omega);omega
theorem NewAt.step {e : Nat} {ro key : Int} {tb lb mb : Nat} {P : Nat → RdQ} {S : Nat → Nat} {k b r m : Nat} {w w1 : World} (h : NewAt e ro key tb lb mb P S k w) (hk : k < 4) (hb : Below w.heap.size w w1) (hs : Str b r m (fresh9 1024) w1) (hl : w.heap.size ≤ b ∧ w.heap.size ≤ r ∧ w.heap.size ≤ m) :
  NewAt e ro key tb lb mb (upd P k (newRQ b r m)) (upd S (k + 1) w1.heap.size) (k + 1) (setS w1 e (3 + 8 * k) b):=by
 have K8:=setS_keep w1 e (3 + 8 * k) b
 have R8:=setS_rgn w1 e (3 + 8 * k) b
 have he:=h.c0.lt
 have hsz : (setS w1 e (3 + 8 * k) b).heap.size = w1.heap.size:=by simp [setS,World.setCell]
 obtain ⟨l1,l2,l3⟩:=hs.lt
 obtain ⟨t1,t2,t3,t4,t5⟩:=h.bl
 have hup:=fun i (hi : i ≤ k) => NewAt.mono (by omega) h hi
 have hz:=hb.size
 have cell : ∀ {j v},Cell e j v w → ¬ (3 + 8 * k ≤ j ∧ j < 3 + 8 * k + 8) → Cell e j v (setS w1 e (3 + 8 * k) b):=fun hc hj => (hc.below hb).rgn R8 hj
 have W1 : ∀ i,i < k → ∀ {v q},WrC e (3 + 8 * i) v q w → WrC e (3 + 8 * i) v q (setS w1 e (3 + 8 * k) b):=fun i hi v q hw => (hw.below hb).rgn R8 (by omega)
 have R1 : ∀ i,i < k → ∀ {q},RrC e (3 + 8 * i + 4) q w → RrC e (3 + 8 * i + 4) q (setS w1 e (3 + 8 * k) b):=fun i hi q hw => (hw.below hb).rgn R8 (by omega)
 have C8:=setS_cells (w:=w1) (e:=e) (o:=3 + 8 * k) (b:=b) (fun j hj => by obtain ⟨v,hv⟩:=h.new k (qlr _) hk j hj;exact ⟨v,hv.below hb⟩)
 refine ⟨cell h.c0 (by omega),cell h.c1 (by omega),cell h.c2 (by omega),cell h.c35 (by omega),cell h.c36 (by omega),cell h.c51 (by omega),cell h.c52 (by omega),cell h.c53 (by omega),(h.fl.below hb).rgn R8 (by omega),?_,(h.led.below hb).keep K8 (by simp;omega) (by simp;omega),h.bl,?_,?_,?_,?_,?_⟩
 ·exact (h.map.block (hb.block tb (by omega))).block (K8.block tb (by omega) (by simp;omega))
 ·rw [upd_ne _ _ (by omega)];exact h.s0
 ·intro i hi
  by_cases hik : i = k
  ·subst hik
   rw [upd_at,upd_ne _ _ (by omega)]
   exact Nat.le_trans h.top hz
  ·rw [upd_ne _ _ (by omega),upd_ne _ _ (by omega)];exact h.up i (by omega)
 ·rw [upd_at,hsz];exact qlr _
 ·intro i hi
  by_cases hik : i = k
  ·subst hik
   rw [upd_at,upd_at,upd_ne _ _ (by omega)]
   have ht:=h.top
   exact ⟨C8.1,C8.2 r m,hs.keep K8 (by simp;omega) (by simp;omega) (by simp;omega),⟨by show S i ≤ b;omega,l1⟩,⟨by show S i ≤ r;omega,l2⟩,⟨by show S i ≤ m;omega,l3⟩,rfl⟩
  ·rw [upd_ne _ _ hik,upd_ne _ _ (by omega),upd_ne _ _ (by omega)]
   obtain ⟨a1,a2,a3,a4,a5,a6,a7⟩:=h.old i (by omega)
   have hS:=hup i (by omega)
   exact ⟨W1 i (by omega) a1,R1 i (by omega) a2,(a3.below hb).keep K8 (by simp;omega) (by simp;omega) (by simp;omega),a4,a5,a6,a7⟩
 ·intro i hi hi4 j hj
  obtain ⟨v,hv⟩:=h.new i (by omega) hi4 j hj
  exact ⟨v,cell hv (by omega)⟩
def newEQ (ro key : Int) (P : Nat → RdQ) (tb lb mb : Nat) : EQ :=
 { role:=ro,key:=key,time:=0,wv:=fun _ => .slice none 0 0,ws:=fun _ => newWQ,rs:=P,turn:=0,next:=0,fl:=⟨tb,lb,mb,-1,⟨12000,0,0,-1,0⟩,⟨false,0,0,0,0⟩,0,fresh8,[]⟩,cv:=.slice none 0 0,came:=[],cameAt:=0,asked:=false }
def newCol (c : Col) (K n e : Nat) (S : Nat → Nat) : Col:=fun j => if j < n then c j else if j < e then K + 21 else if j = e then K else if j < S 1 then K + 11 else if j < S 2 then K + 12 else if j < S 3 then K + 13 else K + 14
theorem NewAt.done {e : Nat} {ro key : Int} {tb lb mb : Nat} {P : Nat → RdQ} {S : Nat → Nat} {w : World} (h : NewAt e ro key tb lb mb P S 4 w) (c : Col) (K : Nat) {n : Nat} (hro : ro = 0 ∨ ro = 1) (hn : n ≤ tb ∧ n ≤ lb ∧ n ≤ mb) :
  EOk (newCol c K n e S) K e (fun _ => []) (fun _ => false) (fun _ => []) (fun _ => false) (newEQ ro key P tb lb mb) w:=by
 obtain ⟨t1,t2,t3,t4,t5⟩:=h.bl
 have ce : newCol c K n e S e = K:=by unfold newCol;rw [if_neg (by omega),if_neg (by omega),if_pos rfl]
 have cf : ∀ j,n ≤ j → j < e → newCol c K n e S j = K + 21:=fun j h1 h2 => by unfold newCol;rw [if_neg (by omega),if_pos h2]
 have s0:=h.s0
 have u0:=h.up 0 (by omega)
 have u1:=h.up 1 (by omega)
 have u2:=h.up 2 (by omega)
 have u3:=h.up 3 (by omega)
 simp only [Nat.zero_add,Nat.reduceAdd] at u0 u1 u2 u3
 have cs : ∀ i,i < 4 → ∀ j,S i ≤ j → j < S (i + 1) → newCol c K n e S j = K + 11 + i:=by
  intro i hi j h1 h2
  unfold newCol
  have : i = 0 ∨ i = 1 ∨ i = 2 ∨ i = 3:=by omega
  rcases this with rfl | rfl | rfl | rfl <;> simp only [Nat.zero_add,Nat.reduceAdd] at h1 h2
  ·rw [if_neg (by omega),if_neg (by omega),if_neg (by omega),if_pos h2]
  ·rw [if_neg (by omega),if_neg (by omega),if_neg (by omega),if_neg (by omega),if_pos h2]
  ·rw [if_neg (by omega),if_neg (by omega),if_neg (by omega),if_neg (by omega),if_neg (by omega),if_pos h2]
  ·rw [if_neg (by omega),if_neg (by omega),if_neg (by omega),if_neg (by omega),if_neg (by omega),if_neg (by omega)]
 refine ⟨⟨h.c0,h.c1,h.c2,h.c35,h.c36,h.c51,h.c52,h.c53,World.ownsRow_nil w 0 _ 2,fun j hj => (by cases hj),ce⟩,⟨hro,⟨by show (0 : Int) ≤ 0;omega,by show (0 : Int) ≤ _;omega⟩,⟨by show (0 : Int) ≤ 0;omega,by show (0 : Int) < 4;omega⟩,⟨by show (0 : Int) ≤ 0;omega,by show (0 : Int) ≤ _;omega⟩,by show (-1 : Int) < 0;omega,rfl,by show 0 ≤ _;omega,fun s hs => (by cases hs),⟨by show (0 : Int) ≤ 0;omega,by show (0 : Int) ≤ 0;omega⟩⟩,fun i hi => ?_,fun i hi => ?_,fun i hi => WOk.fresh,fun i hi => ?_,?_⟩
 ·exact ⟨(h.old i hi).1,(by unfold OwnT;exact World.ownsRow_nil w _ _ _),fun j hj => (by cases hj),fun hh => (by cases hh)⟩
 ·obtain ⟨a1,a2,a3,a4,a5,a6,a7⟩:=h.old i hi
  have est : (P i).st = fresh9 1024:=by rw [a7];rfl
  refine ⟨by rw [show 7 + 8 * i = 3 + 8 * i + 4 from by omega];exact a2,by show Str _ _ _ (P i).st w;rw [est];exact a3,cs i hi _ a4.1 a4.2,cs i hi _ a5.1 a5.2,cs i hi _ a6.1 a6.2⟩
 ·have est : (P i).st = fresh9 1024:=by rw [(h.old i hi).2.2.2.2.2.2];rfl
  show ROk [] false (P i).st
  rw [est];exact ROk.fresh
 ·exact ⟨h.fl,h.led,fresh_ok8,h.map,List.Pairwise.nil,fun x hx => (by cases hx),⟨by show (-1 : Int) ≤ -1;omega,by show (-1 : Int) ≤ _;omega⟩,by show ((0 : Nat) : Int) ≤ -1 + 1;omega,by show (0 : Int) ≤ _;omega,fun x hx => (by cases hx),⟨cf _ hn.1 t1,cf _ hn.2.1 t2,cf _ hn.2.2 t3⟩,by rw [ce];omega,⟨t4,t5,fun x hx => (by cases hx)⟩⟩
end Go.Proofs.YtmcomdmcmnbhlaaGreatDoor
