import Derived.Test.YtmcomdmcmnbhlaaGreatDoorKCn2
import Derived.Test.YtmcomdmcmnbhlaaGreatDoorKFs0
import Derived.Test.YtmcomdmcmnbhlaaGreatDoorKVi0
set_option maxRecDepth 100000
set_option maxHeartbeats 25600000
set_option linter.unusedSimpArgs false
set_option linter.unusedVariables false
set_option linter.unnecessarySimpa false
namespace Go.Proofs.YtmcomdmcmnbhlaaGreatDoor
open Go.RowKit
theorem elemPt : ElemC Tryz.prog 122 4 32 (.agg #[.int .i64 0,.int .i64 0,.int .i64 0,.int .i64 0]):=⟨info_parts (by kernel_rfl),rfl,by decide⟩
theorem owns_two {w : World} {B B' e e' m m' n n' : Nat} {v v' : Value} {fl fl' : List Value} (h : w.ownsRow B e m v n fl) (h' : w.ownsRow B' e' m' v' n' fl') (hne : e ≠ e') : ∀ j,v'.ownBlock = some j → v.ownBlock ≠ some j:=by
 intro j hj
 obtain ⟨cur,hc⟩:=owns_type h' hj
 exact owns_apart h hc hne
theorem owns_kept2 {w w' : World} {B e m n : Nat} {v : Value} {fl : List Value} {row : Option Nat} (h : w.ownsRow B e m v n fl) (hg : w.grownBy w' row) (hne : ∀ j,v.ownBlock = some j → row ≠ some j) : w'.ownsRow B e m v n fl:=by
 refine World.ownsRow.kept h hg ?_
 cases hv : v.ownBlock with
 | none => exact .inl rfl
 | some j => exact .inr fun e => hne j hv e.symm
theorem owns_below {w w' : World} {B e m n : Nat} {v : Value} {fl : List Value} (h : w.ownsRow B e m v n fl) (hb : Below w.heap.size w w') : w'.ownsRow B e m v n fl:=by
 refine ownsRow_block h fun j hj => hb.block j ?_
 obtain ⟨cur,hc⟩:=owns_type h hj
 exact (qgs hc).1
theorem Gm.below {B G : Nat} {n : Int} {bs : List Int} {cnt : Nat} {room : Int} {ps : List Pt} {w w' : World} (h : Gm B G n bs cnt room ps w) (hb : Below w.heap.size w w') : Gm B G n bs cnt room ps w':=by
 obtain ⟨bv,pv,hB,H,o,hp⟩:=h
 exact ⟨bv,pv,hB,H.below hb H.lt,o.below hb,owns_below hp hb⟩
theorem Gm.lt {B G : Nat} {n : Int} {bs : List Int} {cnt : Nat} {room : Int} {ps : List Pt} {w : World} (h : Gm B G n bs cnt room ps w) : B < w.heap.size:=by
 obtain ⟨bv,pv,hB,H,o,hp⟩:=h
 have:=H.lt
 omega
def frA (f : Fr) (dv sv : Value) : Value:=.agg #[.int .i64 f.kind,.int .i64 f.stream,.int .i64 f.offset,.int .i64 f.n,.int .i64 f.code,.bool f.fin,dv,sv]
theorem add_yes {B G : Nat} {n : Int} {bs : List Int} {cnt : Nat} {room : Int} {ps qs : List Pt} {w : World} {qv dv sv : Value} {f : Fr} (ht : Tab w) (h : Gm B G n bs cnt room ps w) (hl : bs.length ≤ 4096) (hp : ps.length ≤ 4096) (hq : qs.length ≤ 4096)
  (hf : FvRd w ⟨f,dv,sv⟩) (he : encL [f] = .ok (encF f)) (hQ : w.ownsRow 0 122 4 qv qs.length (ptC qs)) (hroom : ((encF f).length : Int) ≤ room) (hr2 : room ≤ 1200) (hc : cnt < 64) :
  Calls Tryz.prog 64 #[.pointer (some ⟨G,0,none⟩),frA f dv sv,qv] w fun e w' => e = .returned (.bool true) ∧ Gm B G n (bs ++ encF f) (cnt + 1) (room - (encF f).length) (ps ++ qs) w' ∧ Below B w w':=by
 have hBs:=h.lt
 have hd1:=hf.1.isSlice
 have hs1:=hf.2.isSlice
 simp only at hd1 hs1
 obtain ⟨da,dc,hde⟩:=hd1
 obtain ⟨sa,sc,hse,_,_⟩:=hs1
 subst hde hse
 have hpos:=ht.pos
 have HGm:=qhi h
 obtain ⟨qa,qc,hqe,_,_⟩:=(RdC.of_owns hQ).isSlice
 subst hqe
 obtain ⟨X,hX⟩ : ∃ X : Obj,X = (.cells #[.int .i64 f.kind,.int .i64 f.stream,.int .i64 f.offset,.int .i64 f.n,.int .i64 f.code,.bool f.fin,.slice da f.data.length dc,.slice sa f.spans.length sc] 102):=⟨_,rfl⟩
 have bA : Below w.heap.size w (w.alloc X):=(qbr _ _).alloc (qlr _) _
 have bN : Below w.heap.size w ((w.alloc X).alloc X):=bA.alloc (by simp) _
 have hOne : RdF ((w.alloc X).alloc X) (.slice (some ⟨w.heap.size + 1,0,none⟩) 1 1) [f]:=by
  have h1:=RdF.one (w:=w.alloc X) (g:=⟨f,.slice da f.data.length dc,.slice sa f.spans.length sc⟩) ⟨hf.1.below bA,hf.2.below bA⟩
  have e : (w.alloc X).heap.size = w.heap.size + 1:=by simp
  rw [e] at h1
  rw [hX]
  rw [hX] at h1
  exact h1
 have HONE:=qhi hOne
 have hT:=qhi (ht.below bN hpos)
 have HBN:=qhi bN
 have HE:=qhi he
 have HQ:=qhi hQ
 have HX:=qhi hX
 clear h ht hf he hQ hOne bA bN hpos hX
 unfold frA
 go_enter Tryz.func64,Tryz.ntmps64
 go_wp2_with fail
 rw [← HX.out]
 refine (encode_any _ [f] _ hT.out HONE.out).mono ?_
 intro e w1 hen
 obtain ⟨b1,hen⟩:=hen
 rw [HE.out] at hen
 obtain ⟨u,rfl,o1⟩:=hen
 have B1 : Hid (Below w.heap.size w w1):=qhi (HBN.out.trans (b1.mono HBN.out.size))
 obtain ⟨bv,pv,hB,H,o,hpp⟩:=HGm.out.below B1.out
 obtain ⟨ua,uc,rfl⟩:=o1.len
 obtain ⟨ba,bc,rfl⟩:=o.len
 obtain ⟨pa,pc,rfl,_,_⟩:=(RdC.of_owns hpp).isSlice
 obtain ⟨c0,c1,c2,c3,c4⟩:=H.facts
 obtain ⟨E,hE⟩ : ∃ E,E = (encF f).length:=⟨_,rfl⟩
 have d1 : decide ((E : Int) > room) = false:=qdf (by omega)
 have d2 : ((cnt : Int) == 64) = false:=by simp;omega
 have hEl : (encF f).length ≤ 1200:=by omega
 have HEN:=qhi hE
 have hwE : IntKind.i64.wrap (room - (E : Int)) = room - (E : Int):=by rw [IntKind.wrap_i64];omega
 rw [← hE]
 have O:=qhi o
 have PP:=qhi hpp
 have QQ:=qhi (owns_below HQ.out B1.out)
 have HH:=qhi H
 have O1:=qhi o1
 have hBw : B ≤ w1.heap.size:=by have:=H.lt;omega
 clear o hpp H o1 b1 hE
 go_upto_region 5 with (at_builtin;((with_reducible refine wpList_append_rd _ ?_ (.tmp 33) (.tmp 34) 29 ?_ elemU8 Tryz.underlying29 B (.slice ba bs.length bc) bs ?_ O.out (.slice ua E uc) (encF f) ?_ (by rw [HEN.out];exact O1.out.rd) ?_ ?_ ?_ ?_));rfl;rfl;rfl;rfl;(omega);(unfold maxLen;omega);(exact hBw);intro v3 w3 o3 g3;have H3:=qhi (HH.out.kept g3 (owns_apart O.out HH.out (by decide)));have P3:=qhi (owns_kept2 PP.out g3 (owns_two O.out PP.out (by decide)));have Q3:=qhi (owns_kept2 QQ.out g3 (owns_two O.out QQ.out (by decide)));have O3:=qhi o3;have B3:=qhi ((B1.out.mono (Nat.le_of_lt hBs)).grown g3 hBw O.out.blk);obtain ⟨va,vc,hv3⟩:=o3.len;obtain ⟨L3,hL3⟩ : ∃ L3,L3 = (bs ++ encF f).length:=⟨_,rfl⟩;rw [← hL3] at hv3;subst hv3;clear hL3;obtain ⟨c0,c1,c2,c3,c4⟩:=H3.out.facts;have f1:=H3.out.free 1;clear o3 g3)
 have H4:=qhi (H3.out.set1 (.slice va L3 vc))
 have O4:=qhi (owns_keptG O3.out H3.out (by decide) (grown_set G 1 w3 (.slice va L3 vc)))
 have P4:=qhi (owns_keptG P3.out H3.out (by decide) (grown_set G 1 w3 (.slice va L3 vc)))
 have Q4:=qhi (owns_keptG Q3.out H3.out (by decide) (grown_set G 1 w3 (.slice va L3 vc)))
 have B4:=qhi (B3.out.setCell (p:=⟨G,1,none⟩) hB (.slice va L3 vc))
 generalize w3.setCell ⟨G,1,none⟩ (.slice va L3 vc) = w4 at H4 O4 P4 Q4 B4 ⊢
 clear H3 O3 P3 B3 c0 c1 c2 c3 c4 f1
 obtain ⟨c0,c1,c2,c3,c4⟩:=H4.out.facts
 have f2:=H4.out.free 2
 go_upto_region 6 with fail
 have H5:=qhi (H4.out.set2 ((cnt : Int) + 1))
 have O5:=qhi (owns_keptG O4.out H4.out (by decide) (grown_set G 2 w4 (.int .i64 ((cnt : Int) + 1))))
 have P5:=qhi (owns_keptG P4.out H4.out (by decide) (grown_set G 2 w4 (.int .i64 ((cnt : Int) + 1))))
 have Q5:=qhi (owns_keptG Q4.out H4.out (by decide) (grown_set G 2 w4 (.int .i64 ((cnt : Int) + 1))))
 have B5:=qhi (B4.out.setCell (p:=⟨G,2,none⟩) hB (.int .i64 ((cnt : Int) + 1)))
 generalize w4.setCell ⟨G,2,none⟩ (.int .i64 ((cnt : Int) + 1)) = w5 at H5 O5 P5 Q5 B5 ⊢
 clear H4 O4 P4 B4 c0 c1 c2 c3 c4 f2
 obtain ⟨c0,c1,c2,c3,c4⟩:=H5.out.facts
 have f3:=H5.out.free 3
 go_upto_region 7 with fail
 have H6:=qhi (H5.out.set3 (room - (E : Int)))
 have O6:=qhi (owns_keptG O5.out H5.out (by decide) (grown_set G 3 w5 (.int .i64 (room - (E : Int)))))
 have P6:=qhi (owns_keptG P5.out H5.out (by decide) (grown_set G 3 w5 (.int .i64 (room - (E : Int)))))
 have Q6:=qhi (owns_keptG Q5.out H5.out (by decide) (grown_set G 3 w5 (.int .i64 (room - (E : Int)))))
 have B6:=qhi (B5.out.setCell (p:=⟨G,3,none⟩) hB (.int .i64 (room - (E : Int))))
 generalize w5.setCell ⟨G,3,none⟩ (.int .i64 (room - (E : Int))) = w6 at H6 O6 P6 Q6 B6 ⊢
 clear H5 O5 P5 B5 c0 c1 c2 c3 c4 f3
 obtain ⟨c0,c1,c2,c3,c4⟩:=H6.out.facts
 have hBw6 : B ≤ w6.heap.size:=by have:=H6.out.lt;omega
 have hQ6:=qhi (RdC.of_owns Q6.out)
 go_wp2_with (at_builtin;((with_reducible refine wpList_append_rows _ ?_ (.tmp 58) (.tmp 59) 91 ?_ elemPt Tryz.underlying91 B (.slice pa ps.length pc) ps.length (ptC ps) ?_ P6.out (.slice qa qs.length qc) qs.length (ptC qs) ?_ hQ6.out (ptC_one qs) ?_ ?_ ?_ ?_));rfl;rfl;rfl;rfl;(omega);(unfold maxLen;omega);(exact hBw6);intro v7 w7 o7 g7;have H7:=qhi (H6.out.kept g7 (owns_apart P6.out H6.out (by decide)));have O7:=qhi (owns_kept2 O6.out g7 (owns_two P6.out O6.out (by decide)));have P7:=qhi o7;have B7:=qhi (B6.out.grown g7 hBw6 (fun j hj => (World.ownsRow.lt P6.out j hj).1));obtain ⟨xa,xc,hv7,_,_⟩:=(RdC.of_owns o7).isSlice;subst hv7;clear c0 c1 c2 c3 c4;obtain ⟨c0,c1,c2,c3,c4⟩:=H7.out.facts;have f4:=H7.out.free 4;clear o7 g7)
 go_ret
 refine ⟨rfl,⟨.slice va L3 vc,.slice xa (ps.length + qs.length) xc,hB,?_,owns_keptG O7.out H7.out (by decide) (grown_set G 4 _ _),?_⟩,B7.out.setCell hB _⟩
 ·have h1:=H7.out.set4 (.slice xa (ps.length + qs.length) xc)
  rw [HEN.out] at h1
  exact h1
 ·have h1:=owns_keptG P7.out H7.out (by decide) (grown_set G 4 w7 (.slice xa (ps.length + qs.length) xc))
  rw [List.length_append,ptC_append]
  exact h1
theorem add_no {B G : Nat} {n : Int} {bs : List Int} {cnt : Nat} {room : Int} {ps qs : List Pt} {w : World} {qv dv sv : Value} {f : Fr} (ht : Tab w) (h : Gm B G n bs cnt room ps w) (hl : bs.length ≤ 4096) (hp : ps.length ≤ 4096) (hq : qs.length ≤ 4096)
  (hf : FvRd w ⟨f,dv,sv⟩) (he : encL [f] = .ok (encF f)) (hQ : w.ownsRow 0 122 4 qv qs.length (ptC qs)) (hroom : room < ((encF f).length : Int) ∨ (((encF f).length : Int) ≤ room ∧ cnt = 64)) :
  Calls Tryz.prog 64 #[.pointer (some ⟨G,0,none⟩),frA f dv sv,qv] w fun e w' => e = .returned (.bool false) ∧ Gm B G n bs cnt room ps w' ∧ Below w.heap.size w w':=by
 have hBs:=h.lt
 have hd1:=hf.1.isSlice
 have hs1:=hf.2.isSlice
 simp only at hd1 hs1
 obtain ⟨da,dc,hde⟩:=hd1
 obtain ⟨sa,sc,hse,_,_⟩:=hs1
 subst hde hse
 have hpos:=ht.pos
 have HGm:=qhi h
 obtain ⟨qa,qc,hqe,_,_⟩:=(RdC.of_owns hQ).isSlice
 subst hqe
 obtain ⟨X,hX⟩ : ∃ X : Obj,X = (.cells #[.int .i64 f.kind,.int .i64 f.stream,.int .i64 f.offset,.int .i64 f.n,.int .i64 f.code,.bool f.fin,.slice da f.data.length dc,.slice sa f.spans.length sc] 102):=⟨_,rfl⟩
 have bA : Below w.heap.size w (w.alloc X):=(qbr _ _).alloc (qlr _) _
 have bN : Below w.heap.size w ((w.alloc X).alloc X):=bA.alloc (by simp) _
 have hOne : RdF ((w.alloc X).alloc X) (.slice (some ⟨w.heap.size + 1,0,none⟩) 1 1) [f]:=by
  have h1:=RdF.one (w:=w.alloc X) (g:=⟨f,.slice da f.data.length dc,.slice sa f.spans.length sc⟩) ⟨hf.1.below bA,hf.2.below bA⟩
  have e : (w.alloc X).heap.size = w.heap.size + 1:=by simp
  rw [e] at h1
  rw [hX]
  rw [hX] at h1
  exact h1
 have HONE:=qhi hOne
 have hT:=qhi (ht.below bN hpos)
 have HBN:=qhi bN
 have HE:=qhi he
 have HQ:=qhi hQ
 have HX:=qhi hX
 clear h ht hf he hQ hOne bA bN hpos hX
 unfold frA
 go_enter Tryz.func64,Tryz.ntmps64
 go_wp2_with fail
 rw [← HX.out]
 refine (encode_any _ [f] _ hT.out HONE.out).mono ?_
 intro e w1 hen
 obtain ⟨b1,hen⟩:=hen
 rw [HE.out] at hen
 obtain ⟨u,rfl,o1⟩:=hen
 have B1 : Hid (Below w.heap.size w w1):=qhi (HBN.out.trans (b1.mono HBN.out.size))
 obtain ⟨bv,pv,hB,H,o,hpp⟩:=HGm.out.below B1.out
 obtain ⟨ua,uc,rfl⟩:=o1.len
 obtain ⟨ba,bc,rfl⟩:=o.len
 obtain ⟨pa,pc,rfl,_,_⟩:=(RdC.of_owns hpp).isSlice
 obtain ⟨c0,c1,c2,c3,c4⟩:=H.facts
 obtain ⟨E,hE⟩ : ∃ E,E = (encF f).length:=⟨_,rfl⟩
 rw [← hE] at hroom ⊢
 have HGm1:=qhi (HGm.out.below B1.out)
 clear o1 o hpp H hE b1
 rcases hroom with hroom | ⟨hroom,rfl⟩
 ·have d1 : decide ((E : Int) > room) = true:=qdt hroom
  go_wp2_with fail
  go_ret
  exact ⟨rfl,HGm1.out,B1.out⟩
 ·have d1 : decide ((E : Int) > room) = false:=qdf (by omega)
  go_wp2_with fail
  go_ret
  exact ⟨rfl,HGm1.out,B1.out⟩
theorem gadd_any {B G : Nat} {n : Int} {bs : List Int} {cnt : Nat} {room : Int} {ps qs : List Pt} {w : World} {qv dv sv : Value} {f : Fr} (ht : Tab w) (h : Gm B G n bs cnt room ps w) (hl : bs.length ≤ 4096) (hp : ps.length ≤ 4096) (hq : qs.length ≤ 4096)
  (hf : FvRd w ⟨f,dv,sv⟩) (he : encL [f] = .ok (encF f)) (hQ : w.ownsRow 0 122 4 qv qs.length (ptC qs)) (hr2 : room ≤ 1200) (hc : cnt ≤ 64) :
  Calls Tryz.prog 64 #[.pointer (some ⟨G,0,none⟩),frA f dv sv,qv] w fun e w' => Below B w w' ∧
   ((e = .returned (.bool true) ∧ ((encF f).length : Int) ≤ room ∧ cnt < 64 ∧ Gm B G n (bs ++ encF f) (cnt + 1) (room - (encF f).length) (ps ++ qs) w') ∨
    (e = .returned (.bool false) ∧ (room < ((encF f).length : Int) ∨ cnt = 64) ∧ Gm B G n bs cnt room ps w')):=by
 have hlt:=h.lt
 by_cases h1 : ((encF f).length : Int) ≤ room
 ·by_cases h2 : cnt < 64
  ·exact (add_yes ht h hl hp hq hf he hQ h1 hr2 h2).mono fun e w' ⟨a,b,c⟩ => ⟨c,.inl ⟨a,h1,h2,b⟩⟩
  ·exact (add_no ht h hl hp hq hf he hQ (.inr ⟨h1,by omega⟩)).mono fun e w' ⟨a,b,c⟩ => ⟨c.mono (Nat.le_of_lt hlt),.inr ⟨a,.inr (by omega),b⟩⟩
 ·exact (add_no ht h hl hp hq hf he hQ (.inl (by omega))).mono fun e w' ⟨a,b,c⟩ => ⟨c.mono (Nat.le_of_lt hlt),.inr ⟨a,.inl (by omega),b⟩⟩
theorem waitcl_any (a x : Int) (t : Bool) (w : World) :
  Calls Tryz.prog 156 #[.agg #[.int .i64 a,.int .u8 x,.bool t]] w fun r w' => r = .returned (.bool (!t)) ∧ Below w.heap.size w w':=by
 go_enter Tryz.func156,Tryz.ntmps156
 go_wp2
 go_ret
 exact ⟨rfl,(qbr _ w).alloc (qlr _) _⟩
def FirstW (l : List Lt) (r : Int) : Prop:=(r = -1 ∧ ∀ i,∀ h : i < l.length,l[i].told = true) ∨ ∃ m : Nat,r = (m : Int) ∧ ∃ h : m < l.length,l[m].told = false ∧ ∀ i,i < m → ∀ h : i < l.length,l[i].told = true
theorem index_any (v : Value) (l : List Lt) (w : World) (h : OwnT w v l) (hl : l.length ≤ 4096) :
  Calls Tryz.prog 155 #[v,.func (.func 156) #[] #[]] w fun r w' => ∃ x,r = .returned (.int .i64 x) ∧ FirstW l x ∧ Below w.heap.size w w':=by
 obtain ⟨va,vc,rfl,_,_⟩:=h.slice
 have HO:=qhi h
 have HC:=qhi waitcl_any
 clear h
 go_enter Tryz.func155,Tryz.ntmps155
 go_wp2_with fail
 go_loopw [8] (fun i wr => ∃ (k : Nat),i = .int .i64 k ∧ k ≤ l.length ∧ Hid (∀ i,i < k → ∀ h : i < l.length,l[i].told = true) ∧ Below w.heap.size w wr) (fun i _ => l.length - (intOf i).toNat)
 case atStart => exact ⟨0,rfl,Nat.zero_le _,(fun i hi => absurd hi (Nat.not_lt_zero _) : ∀ i,i < 0 → ∀ h : i < l.length,l[i].told = true),qbr _ _⟩
 case round =>
  obtain ⟨k,rfl,hk,I,hb⟩:=hrel
  have HB:=qhi hb
  rcases Nat.lt_or_ge k l.length with hlt | hge
  ·obtain ⟨g,cc,hv,hg,_,_⟩:=HO.out.form (by intro e0;rw [e0] at hlt;simp at hlt)
   simp only [Value.slice.injEq,true_and] at hv
   obtain ⟨rfl,rfl⟩:=hv
   obtain ⟨l0,l1,l2,_⟩:=(HO.out.below hb).at k hlt
   have HL : Hid (∃ h : k < l.length,l[k] = l[k]):=⟨hlt,rfl⟩
   obtain ⟨⟨a,x,t⟩,hlk⟩ : ∃ y,l[k] = y:=⟨_,rfl⟩
   rw [hlk] at l0 l1 l2
   simp only at l0 l1 l2
   have HK : Hid (∃ h : k < l.length,l[k] = ⟨a,x,t⟩):=⟨hlt,hlk⟩
   have i1 : (k : Int) < (l.length : Int):=by omega
   have i2 : (0 : Int) ≤ (k : Int):=by omega
   clear hlk hb
   cases t
   ·go_wp2_with (go_at_call 156;refine (HC.out a x false _).mono ?_;rintro r w2 ⟨rfl,hb2⟩)
    go_ret
    obtain ⟨h1,h2⟩:=HK.out
    exact ⟨k,rfl,.inr ⟨k,rfl,h1,by rw [h2],I.out⟩,HB.out.trans (hb2.mono HB.out.size)⟩
   ·go_wp2_with (go_at_call 156;refine (HC.out a x true _).mono ?_;rintro r w2 ⟨rfl,hb2⟩)
    refine ⟨⟨k + 1,rfl,hlt,?_,HB.out.trans (hb2.mono HB.out.size)⟩,by simp [intOf];omega⟩
    intro i hi h
    rcases Nat.lt_or_eq_of_le (Nat.lt_succ_iff.1 hi) with h1 | rfl
    ·exact I.out i h1 h
    ·obtain ⟨_,h2⟩:=HK.out
     rw [h2]
  ·have i1 : ¬ (k : Int) < (l.length : Int):=by omega
   go_wp2
   go_ret
   exact ⟨-1,rfl,.inl ⟨rfl,fun i h => I.out i (by omega) h⟩,hb⟩
structure WaitR (q : WQ) (i n : Nat) : Prop where
 run : Run q i n
 pos : 0 < n
 wait : ∀ j,j < n → ∀ h : i + j < q.rest.length,q.rest[i + j].told = false
 first : ∀ j,j < i → ∀ h : j < q.rest.length,q.rest[j].told = true
 most : ∀ h : i + n < q.rest.length,q.rest[i + n].told = true ∨ ∀ h0 : i < q.rest.length,q.rest[i + n].at_ ≠ q.rest[i].at_ + n
def WaitP (q : WQ) (i n : Nat) : Prop:=Run q i n ∧ ∀ j,j < n → ∀ h : i + j < q.rest.length,q.rest[i + j].told = false
theorem wait_one {q : WQ} {i : Nat} (hi : i < q.rest.length) (ht : q.rest[i].told = false) : WaitP q i 1:=by
 refine ⟨⟨by omega,fun j hj h h0 => ?_⟩,fun j hj h => ?_⟩
 ·obtain rfl : j = 0:=by omega
  simp
 ·obtain rfl : j = 0:=by omega
  simpa using ht
theorem wait_more {q : WQ} {i n : Nat} (h : WaitP q i n) (h0 : 0 < n) (hl : i + n < q.rest.length) (ht : q.rest[i + n].told = false) (ha : q.rest[i + n].at_ = (q.rest[i + n - 1]'(by omega)).at_ + 1) : WaitP q i (n + 1):=by
 refine ⟨⟨by omega,fun j hj h1 h2 => ?_⟩,fun j hj h1 => ?_⟩
 ·rcases Nat.lt_or_eq_of_le (Nat.lt_succ_iff.1 hj) with h3 | rfl
  ·exact h.1.next j h3 h1 h2
  ·have:=h.1.next (j - 1) (by omega) (by omega) h2
   rw [ha]
   have e : i + j - 1 = i + (j - 1):=by omega
   simp only [e]
   rw [this];omega
 ·rcases Nat.lt_or_eq_of_le (Nat.lt_succ_iff.1 hj) with h3 | rfl
  ·exact h.2 j h3 h1
  ·exact ht
def WaitIs (q : WQ) (v u : Value) : Prop:=(u = .slice none 0 0 ∧ ∀ i,∀ h : i < q.rest.length,q.rest[i].told = true) ∨ ∃ i n g c,u = .slice (some ⟨g,i * 3,none⟩) n (c - i) ∧ v = .slice (some ⟨g,0,none⟩) q.rest.length c ∧ WaitR q i n
theorem waiting_any {c : Col} {k e o : Nat} {v : Value} {q : WQ} {w : World} {X : List Int} {F : Bool} (h : Wr c k e o v q w) (hq : WOk X F q) (hX : (X.length : Int) ≤ 4611686018427387903) :
  Calls Tryz.prog 111 #[.pointer (some ⟨e,o,none⟩)] w fun r w' => ∃ u,r = .returned u ∧ WaitIs q v u ∧ Below w.heap.size w w':=by
 have hlen:=hq.len
 have HI:=qhi (index_any v q.rest w h.row (by omega))
 have HW:=qhi h
 have HQ:=qhi hq
 have c0:=h.cells.c0.1
 clear h hq
 go_enter Tryz.func111,Tryz.ntmps111
 go_upto_region 2 with (go_at_call 155;refine HI.out.mono ?_;rintro r w2 ⟨x,rfl,hx,hb2⟩)
 have HB2:=qhi hb2
 clear hb2 HI
 rcases hx with ⟨rfl,hall⟩ | ⟨i,rfl,hi,hti,hbe⟩
 ·have HA:=qhi hall
  clear hall
  go_wp2
  go_ret
  exact ⟨_,rfl,.inl ⟨rfl,HA.out⟩,HB2.out⟩
 ·obtain ⟨g,cc,rfl,hg,hcap,hmx⟩:=HW.out.row.form (by intro e0;rw [e0] at hi;simp at hi)
  have HR0:=qhi (wait_one hi hti)
  have HF:=qhi hbe
  have i0 : ¬ ((i : Int) < 0):=by omega
  have i3 : (0 : Int) ≤ (i : Int):=by omega
  clear hbe hti
  go_wp2_with fail
  go_loopw [4] (fun s wr => ∃ (n : Nat),s = .int .i64 ((i + n : Nat) + 1) ∧ i + n + 1 ≤ q.rest.length ∧ Hid (WaitP q i (n + 1)) ∧ Below w.heap.size w wr) (fun s _ => q.rest.length - (intOf s).toNat)
  case atStart => exact ⟨0,by simp,by omega,HR0.out,HB2.out⟩
  case round =>
   obtain ⟨n,rfl,hn,I,hb⟩:=hrel
   have HB:=qhi hb
   have hw:=HW.out.below hb
   have c1:=hw.cells.c0.1
   have c1' : wr.drew.cell? ⟨e,o,none⟩ = some (.slice (some ⟨g,0,none⟩) q.rest.length cc):=c1
   obtain ⟨m,hm⟩ : ∃ m,i + n = m:=⟨_,rfl⟩
   rw [hm] at hn ⊢
   have i1 : (0 : Int) ≤ (m : Int):=by omega
   have i4 : (0 : Int) ≤ (m : Int) + 1:=by omega
   have i8 : (i : Int) ≤ (m : Int) + 1:=by omega
   have i9 : i ≤ m + 1:=by omega
   have fin : ∀ W,Below w.heap.size w W → (∀ h : m + 1 < q.rest.length,q.rest[m + 1].told = true ∨ q.rest[m + 1].at_ ≠ q.rest[m].at_ + 1) → ∃ u,Ending.returned (.slice (some ⟨g,i * 3,none⟩) (m + 1 - i) (cc - i)) = .returned u ∧ WaitIs q (.slice (some ⟨g,0,none⟩) q.rest.length cc) u ∧ Below w.heap.size w W:=fun W hW hh => by
    subst hm
    refine ⟨_,rfl,.inr ⟨i,n + 1,g,_,by rw [show i + n + 1 - i = n + 1 by omega],rfl,I.out.1,by omega,I.out.2,HF.out,fun h => ?_⟩,hW⟩
    rcases hh h with hh | hh
    ·exact .inl hh
    ·refine .inr fun h0 e => hh ?_
     have h1:=I.out.1.next n (by omega) (by omega) h0
     have e' : q.rest[i + n + 1].at_ = q.rest[i].at_ + ((n + 1 : Nat) : Int):=e
     rw [e',h1];omega
   have FIN:=qhi fin
   clear fin
   by_cases hlt : m + 1 < q.rest.length
   ·have i2 : (m : Int) + 1 < (q.rest.length : Int):=by omega
    have i5 : (m : Int) < (q.rest.length : Int):=by omega
    obtain ⟨l0,l1,l2,_⟩:=hw.row.at m (by omega)
    obtain ⟨k0,k1,k2,_⟩:=hw.row.at (m + 1) hlt
    obtain ⟨⟨a,x,t⟩,ha⟩ : ∃ y,q.rest[m]'(by omega) = y:=⟨_,rfl⟩
    obtain ⟨⟨a',x',t'⟩,ha'⟩ : ∃ y,q.rest[m + 1] = y:=⟨_,rfl⟩
    have HA:=qhi ha
    have HA':=qhi ha'
    have hb1:=HQ.out.at (i:=m) (by omega)
    rw [ha] at hb1
    have hwp : IntKind.i64.wrap (a + 1) = a + 1:=by rw [IntKind.wrap_i64];simp only at hb1;omega
    rw [ha] at l0
    rw [ha'] at k0 k2
    simp only at l0 k0 k2
    have l0' : wr.drew.cell? ⟨g,m * 3,none⟩ = some (.int .i64 a):=l0
    have k0' : wr.drew.cell? ⟨g,(m + 1) * 3,none⟩ = some (.int .i64 a'):=k0
    have k2' : wr.drew.cell? ⟨g,(m + 1) * 3 + 2,none⟩ = some (.bool t'):=k2
    clear ha ha' hb hw hb1 l1 l2 k1
    cases t'
    ·cases e1 : (a' == a + 1)
     ·have HE : Hid (¬ a' = a + 1):=(by simpa using e1 : ¬ a' = a + 1)
      go_wp2_with fail
      go_quiet (fail)
      go_wp2_with fail
      go_ret
      exact FIN.out _ (qbd HB.out _) (fun _ => .inr (by rw [HA.out,HA'.out];exact HE.out))
     ·have HE : Hid (a' = a + 1):=(by simpa using e1 : a' = a + 1)
      go_wp2_with fail
      go_quiet (fail)
      go_wp2_with fail
      have HA1:=HA.out
      have HA2:=HA'.out
      subst hm
      refine ⟨⟨n + 1,by simp;omega,by omega,?_,qbd HB.out _⟩,by simp [intOf];omega⟩
      exact wait_more I.out (by omega) (by omega) (by show (q.rest[i + n + 1]).told = false;rw [HA2]) (by show (q.rest[i + n + 1]).at_ = (q.rest[i + n]).at_ + 1;rw [HA1,HA2];exact HE.out)
    ·go_wp2_with fail
     go_quiet (fail)
     go_wp2_with fail
     go_ret
     exact FIN.out _ (qbd HB.out _) (fun _ => .inl (by rw [HA'.out]))
   ·have e1 : decide ((m : Int) + 1 < (q.rest.length : Int)) = false:=qdf (by omega)
    have i6 : (m : Int) + 1 ≤ (q.rest.length : Int):=by omega
    have i7 : (m : Int) + 1 ≤ (cc : Int):=by omega
    have hml : m + 1 = q.rest.length:=by omega
    have HML:=qhi hml
    have HM:=qhi hm
    clear hml hm hlt
    go_wp2_with fail
    go_quiet (fail)
    go_wp2_with fail
    go_ret
    exact FIN.out _ (qbd HB.out _) (fun h => by have:=HML.out;omega)
def holdI (s o room : Int) : Int:=if room - 1 - sizeI s - sizeI o < 1 then -1 else room - 1 - sizeI s - sizeI o - sizeI (room - 1 - sizeI s - sizeI o - 1)
theorem sizeI_rng (n : Int) : 0 ≤ sizeI n ∧ sizeI n ≤ 8:=by unfold sizeI;split <;> (try split) <;> (try split) <;> (try split) <;> omega
theorem hold_any (kd st off n cd : Int) (fin : Bool) (dv sv : Value) (room : Int) (w : World) (ht : Tab w) (h1 : dv.oneCell' = true) (h2 : sv.oneCell' = true) (hr : -100000 ≤ room ∧ room ≤ 100000) :
  Calls Tryz.prog 112 #[.agg #[.int .i64 kd,.int .i64 st,.int .i64 off,.int .i64 n,.int .i64 cd,.bool fin,dv,sv],.int .i64 room] w fun r w' => r = .returned (.int .i64 (holdI st off room)) ∧ Below w.heap.size w w':=by
 have g1:=sizeI_rng st
 have g2:=sizeI_rng off
 obtain ⟨w1,hw1⟩ : ∃ w1,w1 = w.alloc (.cells #[.int .i64 kd,.int .i64 st,.int .i64 off,.int .i64 n,.int .i64 cd,.bool fin,dv,sv] 102):=⟨_,rfl⟩
 have BA : Below w.heap.size w w1:=by subst hw1;exact (qbr _ w).alloc (qlr _) _
 have hs : ∀ n x,Calls Tryz.prog 157 #[.int .i64 x] (w1.drewN n) fun e w' => e = .returned (.int .i64 (sizeI x)) ∧ w' = w1.drewN n:=fun n x =>
  (size_any x _ ((ht.below BA ht.pos).below (qbd (qbr _ _) n) (ht.below BA ht.pos).pos)).mono fun e w' h => ⟨h.1,h.2.symm⟩
 have b1 : w1.cell? ⟨w.heap.size,1,none⟩ = some (.int .i64 st):=by subst hw1;rw [World.cell?_alloc_at _ _ _ _ rfl];rfl
 have b2 : w1.cell? ⟨w.heap.size,2,none⟩ = some (.int .i64 off):=by subst hw1;rw [World.cell?_alloc_at _ _ _ _ rfl];rfl
 have d1 : w1.drew.cell? ⟨w.heap.size,1,none⟩ = some (.int .i64 st):=b1
 have d2 : w1.drew.cell? ⟨w.heap.size,2,none⟩ = some (.int .i64 off):=b2
 have HB:=qhi BA
 obtain ⟨b,hb⟩ : ∃ b,room - 1 - sizeI st - sizeI off = b:=⟨_,rfl⟩
 have q1 : IntKind.i64.wrap (room - 1) = room - 1:=by rw [IntKind.wrap_i64];omega
 have q2 : IntKind.i64.wrap (room - 1 - sizeI st) = room - 1 - sizeI st:=by rw [IntKind.wrap_i64];omega
 have q3 : IntKind.i64.wrap (room - 1 - sizeI st - sizeI off) = room - 1 - sizeI st - sizeI off:=by rw [IntKind.wrap_i64];omega
 have q4 : IntKind.i64.wrap (room - 1 - sizeI st - sizeI off - 1) = room - 1 - sizeI st - sizeI off - 1:=by rw [IntKind.wrap_i64];omega
 have g3:=sizeI_rng (room - 1 - sizeI st - sizeI off - 1)
 have q5 : IntKind.i64.wrap (room - 1 - sizeI st - sizeI off - sizeI (room - 1 - sizeI st - sizeI off - 1)) = room - 1 - sizeI st - sizeI off - sizeI (room - 1 - sizeI st - sizeI off - 1):=by rw [IntKind.wrap_i64];omega
 have E : Hid (holdI st off room = if room - 1 - sizeI st - sizeI off < 1 then -1 else room - 1 - sizeI st - sizeI off - sizeI (room - 1 - sizeI st - sizeI off - 1)):=rfl
 have HS:=qhi hs
 clear hs ht BA hb
 by_cases hlt : room - 1 - sizeI st - sizeI off < 1
 ·have e1 : decide (room - 1 - sizeI st - sizeI off < 1) = true:=qdt hlt
  clear g1 g2 g3 hlt
  go_enter Tryz.func112,Tryz.ntmps112
  go_wp2_with fail
  rw [← hw1]
  clear hw1
  go_quiet (first
   | (go_at_call 157;refine Calls.quiet_of_same (HS.out _ _)))
  go_wp2_with fail
  go_ret
  rw [E.out,if_pos (of_decide_eq_true e1)]
  exact ⟨rfl,qbd HB.out _⟩
 ·have e1 : decide (room - 1 - sizeI st - sizeI off < 1) = false:=qdf hlt
  clear g1 g2 g3 hlt
  go_enter Tryz.func112,Tryz.ntmps112
  go_wp2_with fail
  rw [← hw1]
  clear hw1
  go_quiet (first
   | (go_at_call 157;refine Calls.quiet_of_same (HS.out _ _)))
  go_wp2_with (go_at_call 157;refine (HS.out _ _).mono ?_;rintro r w2 ⟨rfl,rfl⟩)
  go_ret
  rw [E.out,if_neg (of_decide_eq_false e1)]
  exact ⟨rfl,qbd HB.out _⟩
end Go.Proofs.YtmcomdmcmnbhlaaGreatDoor
