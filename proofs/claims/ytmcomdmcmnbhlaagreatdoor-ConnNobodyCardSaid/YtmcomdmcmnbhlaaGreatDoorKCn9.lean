import Derived.Test.YtmcomdmcmnbhlaaGreatDoorKCn8
import Derived.Test.YtmcomdmcmnbhlaaGreatDoorKCn7
import Derived.Test.YtmcomdmcmnbhlaaGreatDoorKCn2
import Derived.Test.YtmcomdmcmnbhlaaGreatDoorKCn0
import Derived.Test.YtmcomdmcmnbhlaaGreatDoorKFs0
import Derived.Test.YtmcomdmcmnbhlaaGreatDoorKTa0
set_option maxRecDepth 100000
set_option maxHeartbeats 25600000
set_option linter.unusedSimpArgs false
set_option linter.unusedVariables false
set_option linter.unnecessarySimpa false
namespace Go.Proofs.YtmcomdmcmnbhlaaGreatDoor
open Go.RowKit
theorem grownBy_over {a b c : World} {row : Option Nat} {N : Nat} (h : a.grownBy b row) (k : b.grownBy c (some N)) (hN : a.heap.size ≤ N) : a.grownBy c row :=
 ⟨k.os.trans h.os,k.tape.trans h.tape,k.output.trans h.output,Nat.le_trans h.size k.size,fun j hj hne => (k.block j (Nat.lt_of_lt_of_le hj h.size) (fun e => by cases e;omega)).trans (h.block j hj hne)⟩
theorem app_zeros {W : World} {g i c k : Nat} {cur : List Value} {l : List (Int × Int)} (hg : W.heap[g]? = some (.cells cur.toArray 151 (0,0))) (hi : i ≤ c) (hil : l.length = i) (hcl : cur.length = c * 2) (hct : cur.take (i * 2) = spC l) (hk : 0 < k) (hroom : c < i + k) (hsm : i + k < 1099511627777) :
  ∃ cap W1 cur1,(Builtin.append_ #[64,3] 64 #[.slice (some ⟨g,0,none⟩) i c,.int .i64 k]).run Tryz.prog W = .ok (.slice (some ⟨W.heap.size,0,none⟩) (i + k) cap) W1 ∧
   W1.heap[W.heap.size]? = some (.cells (List.toArray cur1) 151 (0,0)) ∧ cur1.length = cap * 2 ∧ cur1.take (i * 2) = spC l ∧ i + k ≤ cap ∧ cap ≤ maxLen ∧ Below W.heap.size W W1:=by
 obtain ⟨inf,hinf,hz,hsz,hby⟩:=elemSpan.info
 have hs2 : inf.size = 2:=hsz
 have hnx : Builtin.nextslicecap (i + k) c ≤ 2 * (i + k):=nextslicecap_le hroom
 have hold : (Builtin.firstCells inf.size i (.slice (some ⟨g,0,none⟩) i c)).run Tryz.prog W.drew = .ok (spC l).toArray W.drew:=by
  refine run_firstCells_some (P:=Tryz.prog) W.drew inf.size i ⟨g,0,none⟩ i c (spC l) (by rw [spC_len,hil,hs2]) ?_
  exact cell_part (w:=W.drew) hg (by rw [List.drop_zero,spC_len,hil];exact hct)
 have hrun:=Lib.run_append_grow_zeros (P:=Tryz.prog) W 64 3 64 151 inf _ .i64 .i64 Tryz.underlying64 Tryz.underlying3 hinf hz (some ⟨g,0,none⟩) i c (spC l) hold k hk (by rw [hs2];omega) hroom (by omega) (by rw [hby];omega) (by rw [hby];omega)
 have hcap:=grownCap_ge W (i + k) c 151
 refine ⟨_,_,(spC l ++ (Builtin.zeroCells (Value.cells (.agg #[.int .i64 0,.int .i64 0])) k).toList ++ (Builtin.zeroCells (Value.cells (.agg #[.int .i64 0,.int .i64 0])) (grownCap W (i + k) c 151 - (i + k))).toList),hrun,?_,?_,?_,hcap,grownCap_le_maxLen _ _ _ _ (by unfold maxLen;omega),?_⟩
 ·show (W.heap.push _)[W.heap.size]? = _
  simp
 ·have hzc : (Value.cells (.agg #[.int .i64 0,.int .i64 0])).size = 2:=rfl
  simp only [List.length_append,spC_len,hil,Array.length_toList,Builtin.zeroCells,Array.size_map,Array.size_range,hzc]
  omega
 ·rw [List.append_assoc,List.take_left' (by rw [spC_len,hil])]
 ·have h1:=(qbr W.heap.size W).drew
  exact h1.alloc (qlr _) _
theorem rep_mid_grow {g c i : Nat} {l xs : List (Int × Int)} {u : Value} {w : World} (h : OwnN w (.slice (some ⟨g,0,none⟩) l.length c) l) (hu : OwnN w u xs) (hx : 0 < xs.length) (hx2 : xs.length = 3) (hi : i + 2 < l.length) (hcL : l.length < 1099511627776) (hroom : c < l.length + 1) :
  Calls Tryz.prog 128 #[.slice (some ⟨g,0,none⟩) l.length c,.int .i64 i,.int .i64 ((i + 2 : Nat) : Int),u] w (NewRow (.slice (some ⟨g,0,none⟩) l.length c) (l.take i ++ xs ++ l.drop (i + 2)) w):=by
 obtain ⟨cur,hg,hcl,hct,_,hlc,hmx⟩:=h.open
 obtain ⟨ub,uc,rfl,hu4⟩:=hu.form (by intro e;rw [e] at hx;simp at hx)
 obtain ⟨curu,hub,hucl,_,_,hu2,hu3⟩:=hu.open
 have hu5 : ∀ p v,(spC xs)[p]? = some v → w.cell? ⟨ub,0 + p,none⟩ = some v:=fun p v hv => by
  rw [Nat.zero_add]
  have:=World.ownsRow.cells hu (g:=ub) rfl p v hv
  rw [Addr.add_lit] at this
  simpa using this
 have hsx : (spC xs).length = xs.length * 2:=spC_len xs
 have hdl : (l.drop (i + 2)).length = l.length - (i + 2):=by rw [List.length_drop]
 obtain ⟨j,hj⟩ : ∃ j,j = i + 2:=⟨_,rfl⟩
 obtain ⟨m,hm⟩ : ∃ m,m = xs.length:=⟨_,rfl⟩
 obtain ⟨q,hq⟩ : ∃ q,q = i + m:=⟨_,rfl⟩
 obtain ⟨r,hr⟩ : ∃ r,r = l.length - j:=⟨_,rfl⟩
 obtain ⟨tot,htot⟩ : ∃ tot,tot = q + r:=⟨_,rfl⟩
 obtain ⟨L,hL⟩ : ∃ L,L = l.length:=⟨_,rfl⟩
 rw [← hj] at hdl ⊢
 rw [← hm] at hsx hu2 hx hx2 ⊢
 rw [← hL] at hct hlc hi hcL hr hdl hroom ⊢
 have e1 : ((i : Int) == (j : Int)) = false:=by simp;omega
 have e2 : ((j : Int) == (L : Int)) = false:=by simp;omega
 have i1 : (0 : Int) ≤ (i : Int):=by omega
 have i2 : (i : Int) ≤ (j : Int):=by omega
 have i3 : (j : Int) ≤ (L : Int):=by omega
 have i4 : (L : Int) ≤ (c : Int):=by omega
 have i5 : (i : Int) ≤ (c : Int):=by omega
 have i6 : (j : Int) ≤ (c : Int):=by omega
 have i7 : (i : Int) ≤ (L : Int):=by omega
 have i8 : ¬ c = i:=by omega
 have i9 : ¬ c = j:=by omega
 have s1 : (i : Int) + (m : Int) = (q : Int):=by omega
 have s2 : L - j = r:=hr.symm
 have s3 : (q : Int) + (r : Int) = (tot : Int):=by omega
 have s4 : tot - q = r:=by omega
 have d1 : decide ((tot : Int) > (c : Int)) = true:=qdt (by omega)
 have d1' : decide (c < tot) = true:=qdt (by omega)
 have t1 : (0 : Int) ≤ (tot : Int):=by omega
 have t3 : (i : Int) ≤ (tot : Int):=by omega
 have t4 : (q : Int) ≤ (tot : Int):=by omega
 have t5 : (0 : Int) ≤ (q : Int):=by omega
 have t9 : (0 : Int) ≤ (j : Int):=by omega
 have HUB:=qhi hub
 have hup : curu.toArray.size ≠ 0:=by simp;intro e;rw [e] at hucl;simp at hucl;omega
 have HX2:=qhi hx2
 have hm3 : m ≤ 3:=by omega
 have HUP:=qhi hup
 clear hu hub hx2 hup hucl
 obtain ⟨k,hk⟩ : ∃ k,k = tot - i:=⟨_,rfl⟩
 have s5 : (tot : Int) - (i : Int) = (k : Int):=by omega
 have s6 : tot - i = k:=hk.symm
 have hk0 : 0 < k:=by omega
 have hkt : i + k = tot:=by omega
 have HKT:=qhi hkt
 have htc : c < tot:=of_decide_eq_true d1'
 have HTC:=qhi htc
 have htm : tot < 1099511627777:=by omega
 have HTM:=qhi htm
 clear htc htm
 have HJ:=qhi hj
 have HM:=qhi hm
 have HQ:=qhi hq
 have HR:=qhi hr
 have HT:=qhi htot
 have HL:=qhi hL
 have HH:=qhi h
 have HG:=qhi hg
 have HCL:=qhi hcl
 have HCT:=qhi hct
 have HU:=qhi hu5
 have HSX:=qhi hsx
 have HDL:=qhi hdl
 have hmt : m ≤ tot - i:=by omega
 clear hk hj hm hq hr htot hL h hg hcl hct hu5 hsx hdl
 go_enter Tryz.func128,Tryz.ntmps128
 go_wp2_with fail
 go_quiet (fail)
 have HG0 : Hid ((w.drewN nq).heap[g]? = some (.cells cur.toArray 151 (0,0))):=HG
 have HU0 : Hid (∀ p v,(spC xs)[p]? = some v → (w.drewN nq).cell? ⟨ub,0 + p,none⟩ = some v):=HU
 have HUB0 : Hid ((w.drewN nq).heap[ub]? = some (.cells curu.toArray 151 (0,0))):=HUB
 have HW0 : Hid (w.grownBy (w.drewN nq) (some g)):=qhi (grownBy_drewN (World.grownBy.refl w _) nq)
 generalize w.drewN nq = w0 at HG0 HU0 HW0 HUB0 ⊢
 have hti : cur.take (i * 2) = spC (l.take i):=by rw [spC_take,← HCT.out,List.take_take,Nat.min_eq_left (by omega)]
 obtain ⟨cap,w1,cur1,hap,hN,hN1,hN2,hN3,hN4,hB⟩:=app_zeros (l:=l.take i) (k:=k) HG0.out (by omega) (by rw [List.length_take,← HL.out];omega) HCL.out hti hk0 (by rw [HKT.out];exact HTC.out) (by rw [HKT.out];exact HTM.out)
 rw [HKT.out] at hap hN3
 have HAP:=qhi hap
 obtain ⟨N,hNe⟩ : ∃ N,N = w0.heap.size:=⟨_,rfl⟩
 rw [← hNe] at HAP hN hB
 have u1 : (tot : Int) ≤ (cap : Int):=by omega
 have u2 : (i : Int) ≤ (cap : Int):=by omega
 have u3 : (q : Int) ≤ (cap : Int):=by omega
 have u4 : ¬ cap = i:=by omega
 have u5 : ¬ cap = q:=by omega
 have HN:=qhi hN
 have HN1:=qhi hN1
 have HN2:=qhi hN2
 have HB:=qhi hB
 have HNE:=qhi hNe
 clear hap hN hN1 hN2 hB hNe hti
 go_upto_region 12 with (at_builtin;refine wpList_app_M rfl (.tmp 63) (.tmp 66) 64 3 rfl rfl rfl HAP.out ?_)
 have hu1 : ∀ p v,(spC xs)[p]? = some v → w1.cell? ⟨ub,0 + p,none⟩ = some v:=fun p v hv => by
  have h0:=HU0.out p v hv
  have hlt : ub < N:=by rw [HNE.out];exact cell_lt h0
  exact (HB.out.cell (p:=⟨ub,0 + p,none⟩) hlt).trans h0
 have hNl : N ≠ g:=by
  have hlt : g < w0.heap.size:=(qgs HG0.out).1
  rw [HNE.out];omega
 have HNL:=qhi hNl
 have hg1 : w1.heap[g]? = some (.cells cur.toArray 151 (0,0)):=by
  have hlt : g < w0.heap.size:=(qgs HG0.out).1
  exact (HB.out.block g (by rw [HNE.out];exact hlt)).trans HG0.out
 obtain ⟨w2,r2,g2,k2⟩:=run_cp_src (dLen:=k) (dCap:=cap - i) (off:=i * 2) (uc:=uc) 3 HN.out hu1 HM.out (by omega) (by rw [HN1.out];have:=HQ.out;omega)
 have G2:=qhi g2
 have K2:=qhi k2
 have hg2 : w2.heap[g]? = some (.cells cur.toArray 151 (0,0)):=block_kept hg1 K2.out (fun e => HNL.out (by cases e;rfl))
 have HG2:=qhi hg2
 clear g2 k2 hu1 hNl hg1 hg2
 go_upto_region 13 with fail
 clear r2
 have hDc : (cur.drop (j * 2)).take (r * 2) = spC (l.drop j):=row_tail HCT.out HL.out HR.out (by omega)
 have hDL : (spC (l.drop j)).length = r * 2:=by rw [spC_len,HDL.out];have:=HR.out;omega
 have hX : (spC xs).length = m * 2:=HSX.out
 have hl1 : (splice cur1 (i * 2) (spC xs)).length = cap * 2:=by rw [splice_len _ _ _ (by rw [hX,HN1.out];have:=HQ.out;omega),HN1.out]
 obtain ⟨w3,r3,g3,k3,_⟩:=run_copy_spliceM (P:=Tryz.prog) w2.drew 64 64 3 151 2 (by decide) Tryz.underlying64 (by rw [infoSp.1];simp [infoSp.2]) (some ⟨N,q * 2,none⟩) (some ⟨g,j * 2,none⟩) r (cap - q) r (c - j) N (q * 2) (splice cur1 (i * 2) (spC xs)) 151 G2.out (spC (l.drop j)) (by rw [hDL];congr 1;exact (Nat.min_self r).symm)
  (fun _ => ⟨rfl,_,rfl,cell_part (w:=w2.drew) HG2.out (by rw [hDL];exact hDc)⟩) (by rw [hDL,hl1];have:=HT.out;omega) (spC_one _)
 rw [show Nat.min r r = r from Nat.min_self r] at r3
 have G3:=qhi g3
 have K3:=qhi k3
 have HL1:=qhi hl1
 have HDLL:=qhi hDL
 have hwq : IntKind.i64.wrap (q : Int) = (q : Int):=by rw [IntKind.wrap_i64];omega
 clear g3 k3 hl1 hDL hDc hX
 go_still_tail 9,(by kernel_rfl)
 repeat still_step
 change wpList _ _ _ _ _ w2.drew
 go_upto_region 14 with fail
 clear r3
 go_wp2_with fail
 have hX : (spC xs).length = m * 2:=HSX.out
 have hq2 : i * 2 + (spC xs).length = q * 2:=by rw [hX];have:=HQ.out;omega
 have hll : (l.take i ++ xs ++ l.drop j).length = tot:=by
  rw [List.length_append,List.length_append,List.length_take,HDL.out,← HM.out,← HL.out]
  have:=HT.out;have:=HQ.out;have:=HR.out;omega
 have hl2 : (splice (splice cur1 (i * 2) (spC xs)) (q * 2) (spC (l.drop j))).length = cap * 2:=by rw [splice_len _ _ _ (by rw [HDLL.out,HL1.out];have:=HT.out;omega),HL1.out]
 have hcells : (splice (splice cur1 (i * 2) (spC xs)) (q * 2) (spC (l.drop j))).take (tot * 2) = spC (l.take i ++ xs ++ l.drop j):=by
  have h2:=two_splices cur1 (spC xs) (spC (l.drop j)) (i * 2) (by rw [hX,HDLL.out,HN1.out];have:=HT.out;have:=HQ.out;omega)
  rw [hq2,HDLL.out,show q * 2 + r * 2 = tot * 2 by have:=HT.out;omega] at h2
  rw [h2,HN2.out,spC_append,spC_append]
 have hO:=OwnN.shut (l:=l.take i ++ xs ++ l.drop j) (c:=cap) G3.out hl2 (by rw [hll];exact hcells) (by rw [hll];omega) hN4
 rw [hll] at hO
 have HW : w.grownBy w3 (some g):=by
  have h1 : w.heap.size ≤ N:=by rw [HNE.out];exact HW0.out.size
  have h2 : w.grownBy w1 (some g):=grownBy_trans HW0.out (grownBy_of_below (by rw [← HNE.out];exact HB.out))
  exact grownBy_over (grownBy_over h2 K2.out h1) (step_run_drew K3.out) h1
 go_ret
 refine ⟨_,rfl,?_,HW,.inr ⟨N,rfl,by rw [HNE.out];exact HW0.out.size⟩⟩
 first
  | exact hO
  | (rw [← List.append_assoc];exact hO)
theorem OwnS.ownN {w : World} {B : Nat} {v : Value} {l : List (Int × Int)} (h : OwnS w B v l) : OwnN w v l:=by
 obtain ⟨h1,h2 | ⟨g,cap,cur,a1,a2,a3⟩⟩:=h
 ·exact ⟨h1,.inl h2⟩
 ·exact ⟨h1,.inr ⟨g,cap,cur,a1,Nat.zero_le _,a3⟩⟩
theorem OwnN.grown {w w' : World} {v : Value} {l : List (Int × Int)} (h : OwnN w v l) (hb : Below w.heap.size w w') : OwnN w' v l:=by
 refine ownsRow_block h fun j hj => hb.block j ?_
 obtain ⟨cur,hc⟩:=owns_type h hj
 exact (qgs hc).1
theorem rep_ins {v u : Value} {l xs : List (Int × Int)} {w : World} (h : OwnN w v l) (hu : RdS w u xs) (hx : 0 < xs.length) (hsm : l.length + xs.length < 1099511627776) :
  Calls Tryz.prog 128 #[v,.int .i64 l.length,.int .i64 l.length,u] w (NewRow v (l ++ xs) w):=by
 have I:=qhi (ins_end h hu hx hsm)
 obtain ⟨a,c,rfl,hc1,hc2⟩:=h.reads.isSlice
 obtain ⟨ua,uc,rfl,_,_⟩:=hu.isSlice
 have i1 : (l.length : Int) ≤ (c : Int):=by omega
 have i0 : (0 : Int) ≤ (l.length : Int):=by omega
 clear h hu
 go_enter Tryz.func128,Tryz.ntmps128
 go_wp2_with (go_at_call 172;refine I.out.mono ?_;rintro e w2 ⟨v',rfl,M1,M2,M3⟩)
 all_goals
  go_ret
  first
   | exact ⟨v',rfl,M1,M2,M3⟩
   | (have e : c = l.length:=by assumption
      subst e
      exact ⟨v',rfl,M1,M2,M3⟩)
theorem rep_any {v u : Value} {l xs : List (Int × Int)} {f j : Nat} {w : World} (h : OwnN w v l) (hu : OwnN w u xs) (hne : ∀ g,v.ownBlock = some g → u.ownBlock ≠ some g) (hx : 0 < xs.length) (hx2 : xs.length ≤ j - f + 1) (hf : f ≤ l.length) (hj : j = min (f + 2) l.length) (hsm : l.length < 1048576) :
  Calls Tryz.prog 128 #[v,.int .i64 f,.int .i64 j,u] w (NewRow v (l.take f ++ xs ++ l.drop j) w):=by
 by_cases hfl : f = l.length
 ·have e1 : j = l.length:=by omega
  have e2 : l.take f ++ xs ++ l.drop j = l ++ xs:=by rw [hfl,e1,List.take_of_length_le (qlr _),List.drop_length,List.append_nil]
  rw [e2,hfl,e1]
  exact rep_ins h hu.reads hx (by omega)
 ·obtain ⟨g,c,rfl,hg⟩:=h.form (by intro e;rw [e] at hfl hf;simp at hfl hf;omega)
  have hgu:=hne g rfl
  by_cases hjl : j = l.length
  ·have e2 : l.take f ++ xs ++ l.drop j = l.take f ++ xs:=by rw [hjl,List.drop_length,List.append_nil]
   rw [e2,hjl]
   by_cases hroom : f + xs.length ≤ c
   ·by_cases hge : l.length ≤ f + xs.length
    ·exact rep_end_room h hu.reads hx (by omega) hroom hge
    ·exact rep_end_less h hu.reads hx (by omega) hroom (by omega)
   ·exact rep_end_grow h hu.reads hx (by omega) (by omega) (by omega)
  ·have hj2 : j = f + 2:=by omega
   rw [hj2]
   by_cases hm : xs.length ≤ 2
   ·exact rep_mid_less h hu.reads hx hm (by omega) (by omega)
   ·by_cases hroom : l.length + 1 ≤ c
    ·exact rep_mid_more h hu hx (by omega) (by omega) (by omega) hroom hgu
    ·exact rep_mid_grow h hu hx (by omega) (by omega) (by omega) (by omega)
theorem with_any {v : Value} {l : List (Int × Int)} {n : Int} {w : World} (h : OwnN w v l) (hr : riseB 0 l = true) (hn : 0 ≤ n ∧ n ≤ 4611686018427387903) (hsm : l.length < 1048576) :
  Calls Tryz.prog 81 #[v,.int .i64 n] w (NewRow v (addR l n n) w):=by
 have N:=qhi (near_any h.reads hr (by omega) hn)
 have HO:=qhi h
 have HI:=qhi hr
 obtain ⟨a,c,rfl,hc1,hc2⟩:=h.reads.isSlice
 have HP : Hid (∀ (f j cc : Nat) (w2 : World) (ao : Option Addr),cc = c - f → Below w.heap.size w w2 → NearIs l n f → j = min (f + 2) l.length → (¬ c = f → ao = a.map (fun x => x.add (f * 2))) →
   Calls Tryz.prog 127 #[.slice ao (j - f) cc,.int .i64 n,.int .i64 n] w2 (Gives2 (addR ((l.drop f).take (j - f)) n n) 0 w2)) :=
  fun f j cc w2 ao e hb NI ej hao => by
   have hf:=NI.le
   have h1:=add_any _ _ n n w2 ((HO.out.reads.below hb).part (show f ≤ j by omega) (show j ≤ l.length by omega) ao hao)
   have h3:=rise_part HI.out f (j - f)
   have h4 : ((l.drop f).take (j - f)).length ≤ 2:=by simp only [List.length_take,List.length_drop];omega
   have h2 : rightB5 ((l.drop f).take (j - f)) = true:=by
    rw [rightB5,h3,qdt (show ((l.drop f).take (j - f)).length ≤ 256 by omega)];rfl
   have h5 : spanB n n = true:=by unfold spanB;simp;omega
   have h6:=add_lenK ((l.drop f).take (j - f)) n n
   have e7 : addE ((l.drop f).take (j - f)) n n = (addR ((l.drop f).take (j - f)) n n,0):=by
    unfold addE
    rw [h2,h5]
    exact (if_pos rfl).trans (if_pos (by omega))
   rw [e7] at h1
   rw [e];exact h1
 have HF : Hid (∀ (f j : Nat) (w2 w3 : World) (u : Value),Below w.heap.size w w2 → Below w2.heap.size w2 w3 → NearIs l n f → j = min (f + 2) l.length → OwnS w3 w2.heap.size u (addR ((l.drop f).take (j - f)) n n) →
   Calls Tryz.prog 128 #[.slice a l.length c,.int .i64 f,.int .i64 j,u] w3 (NewRow (.slice a l.length c) (addR l n n) w3)) :=
  fun f j w2 w3 u hb2 hb3 NI ej hu => by
   have hB : Below w.heap.size w w3:=hb2.trans (hb3.mono hb2.size)
   have hv:=HO.out.grown hB
   have h4 : ((l.drop f).take (j - f)).length = j - f:=by have:=NI.le;simp only [List.length_take,List.length_drop];omega
   have h6:=add_lenK ((l.drop f).take (j - f)) n n
   have hne : ∀ g,(Value.slice a l.length c).ownBlock = some g → u.ownBlock ≠ some g:=fun g hg e => by
    obtain ⟨cur,hc⟩:=owns_type HO.out hg
    have hlt : g < w.heap.size:=(qgs hc).1
    have hge:=(World.ownsRow.lt hu g e).1
    have:=hb2.size
    omega
   have e:=add_two HI.out hn.1 NI
   rw [← ej] at e
   rw [e]
   exact rep_any hv hu.ownN hne (add_posK _ _ _) (by omega) NI.le ej hsm
 have hle : ∀ f j : Nat,f ≤ l.length → j = min (f + 2) l.length → f ≤ j ∧ j ≤ c ∧ j ≤ l.length:=fun f j hf ej => by omega
 clear h hr
 go_enter Tryz.func81,Tryz.ntmps81
 go_upto_region 2 with first
  | (go_at_call 77;refine N.out.mono ?_;rintro e w2 ⟨f,j,NI,ej,rfl,hb2⟩;obtain ⟨hj1,hj2,hj3⟩:=hle f j NI.le ej;have B2:=qhi hb2;have NN:=qhi NI;have EJ:=qhi ej;clear hb2 NI N ej hle)
 go_upto_region 3 with first
  | (go_at_call 127;refine (HP.out _ _ _ _ _ (by omega) B2.out NN.out EJ.out (fun h => by first | rfl | exact absurd ‹_› h)).mono ?_;rintro e w3 ⟨u,rfl,o3,hb3⟩;have O3:=qhi o3;have B3:=qhi hb3;clear o3 hb3)
 ·obtain rfl : c = f:=by assumption
  have R:=qhi (HF.out c j w2 w3 u B2.out B3.out NN.out EJ.out O3.out)
  clear HF HP
  go_wp2_with fail
  refine R.out.mono ?_
  rintro e w4 ⟨v',rfl,M1,M2,M3⟩
  go_wp2_with fail
  go_ret
  have hg:=grownBy_of_below (row:=(Value.slice a l.length c).ownBlock) (B2.out.trans (B3.out.mono B2.out.size))
  exact ⟨v',rfl,M1,grownBy_trans hg M2,M3.imp id fun ⟨p,q1,q2⟩ => ⟨p,q1,Nat.le_trans hg.size q2⟩⟩
 ·have R:=qhi (HF.out f j w2 w3 u B2.out B3.out NN.out EJ.out O3.out)
  clear HF HP
  go_wp2_with fail
  refine R.out.mono ?_
  rintro e w4 ⟨v',rfl,M1,M2,M3⟩
  go_wp2_with fail
  go_ret
  have hg:=grownBy_of_below (row:=(Value.slice a l.length c).ownBlock) (B2.out.trans (B3.out.mono B2.out.size))
  exact ⟨v',rfl,M1,grownBy_trans hg M2,M3.imp id fun ⟨p,q1,q2⟩ => ⟨p,q1,Nat.le_trans hg.size q2⟩⟩
def bodyOf (n : Nat) (fs : List Fr) : List Int:=4 :: (be n 4 ++ encFs fs)
structure GramOk (n : Nat) (fs : List Fr) : Prop where
 num : n < 1048576
 some : fs ≠ []
 enc : encL fs = .ok (encFs fs)
 len : (bodyOf n fs).length + 8 ≤ 1200
 bts : BtsF fs
theorem bodyOf_bts {n : Nat} {fs : List Fr} (h : BtsF fs) : Bts (bodyOf n fs):=by
 intro x hx
 rcases List.mem_cons.1 hx with rfl | hx
 ·omega
 ·exact (Bts.append (be_bts n 4) (encFs_bts h)) x hx
end Go.Proofs.YtmcomdmcmnbhlaaGreatDoor
