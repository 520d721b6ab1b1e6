import Derived.Test.YtmcomdmcmnbhlaaGreatDoorKCn7
import Derived.Lib.AppendZerosOnto
import Derived.Lib.Overlaps
set_option maxRecDepth 100000
set_option maxHeartbeats 25600000
set_option linter.unusedSimpArgs false
set_option linter.unusedVariables false
set_option linter.unnecessarySimpa false
namespace Go.Proofs.YtmcomdmcmnbhlaaGreatDoor
open Go.RowKit
theorem OwnN.open {w : World} {g n c : Nat} {l : List (Int × Int)} (h : OwnN w (.slice (some ⟨g,0,none⟩) n c) l) : ∃ cur : List Value,w.heap[g]? = some (.cells cur.toArray 151 (0,0)) ∧ cur.length = c * 2 ∧ cur.take (l.length * 2) = spC l ∧ n = l.length ∧ l.length ≤ c ∧ c ≤ maxLen:=by
 obtain ⟨h1,h2⟩:=h
 rcases h2 with ⟨q,_⟩ | ⟨g',cap,cur,q,_,a3,a4,a5,a6,a7⟩
 ·cases q
 ·simp only [Value.slice.injEq,Option.some.injEq,Addr.mk.injEq,and_true] at q
  obtain ⟨rfl,rfl,rfl⟩:=q
  exact ⟨cur.toList,by simpa using a3,by simpa using a6,a7,rfl,a4,a5⟩
theorem OwnN.shut {w : World} {g c : Nat} {l : List (Int × Int)} {cur : List Value} (hg : w.heap[g]? = some (.cells cur.toArray 151 (0,0))) (hc : cur.length = c * 2) (ht : cur.take (l.length * 2) = spC l) (hn : l.length ≤ c) (hm : c ≤ maxLen) : OwnN w (.slice (some ⟨g,0,none⟩) l.length c) l :=
 ⟨spC_len l,.inr ⟨g,c,cur.toArray,rfl,Nat.zero_le _,hg,hn,hm,by simpa using hc,by simpa using ht⟩⟩
theorem OwnN.form {w : World} {v : Value} {l : List (Int × Int)} (h : OwnN w v l) (h0 : l ≠ []) : ∃ g c,v = .slice (some ⟨g,0,none⟩) l.length c ∧ g < w.heap.size:=by
 obtain ⟨h1,⟨rfl,h2⟩ | ⟨g,cap,cur,rfl,_,a3,_⟩⟩:=h
 ·exact absurd (List.length_eq_zero_iff.1 h2) h0
 ·exact ⟨g,cap,rfl,(qgs a3).1⟩
theorem spC_take (l : List (Int × Int)) (i : Nat) : spC (l.take i) = (spC l).take (i * 2):=by
 have:=spC_part l 0 i
 simpa using this
theorem spC_drop (l : List (Int × Int)) (j : Nat) : spC (l.drop j) = (spC l).drop (j * 2):=by
 have h:=spC_part l j (l.length - j)
 rw [List.take_of_length_le (by rw [List.length_drop];exact qlr _),List.take_of_length_le (by rw [List.length_drop,spC_len];omega)] at h
 exact h
theorem infoSp : Tryz.prog.info? 151 = some ((Tryz.prog.info? 151).getD default) ∧ ((Tryz.prog.info? 151).getD default).size = 2:=by
 obtain ⟨i,hi,_,hs,_⟩:=elemSpan.info
 rw [hi];exact ⟨rfl,hs⟩
theorem zeroSp : ∀ w : World,(zeroValue 151).run Tryz.prog w = .ok (.agg #[.int .i64 0,.int .i64 0]) w:=Tryz.zeroValue151
theorem wpList_app_M {P : Program} {ops : Array Oper} {rest : List Oper} {o : Oper} {a : Act} {w : World} {Q : Exit → Act → World → Prop} (hgd : o.guard = none) (d s : Operand) (dT sT : TypeId)
  (ho : o.op = .call { callee:=.builtin .append,args:=#[d,s],argTypes:=#[dT,sT] }) {v u r : Value} {w' : World} (hd : a.eval d = v) (hs : a.eval s = u)
  (hr : (Builtin.append_ #[dT,sT] o.type #[v,u]).run P w = .ok r w') (h : wpList P ops Q rest (a.put o.dst r) w') : wpList P ops Q (o :: rest) a w:=by
 refine wpList_plain hgd fun K hK => ?_
 unfold Oper.wp
 simp [execOp,ho,resolve,invoke,builtin,hd,hs,hr,Result.andThen]
 exact hK _ _ h
theorem app_room {w : World} {g c i : Nat} {l xs : List (Int × Int)} {u : Value} {cur : List Value} (hg : w.heap[g]? = some (.cells cur.toArray 151 (0,0))) (hcl : cur.length = c * 2) (hu : RdS w u xs) (hx : 0 < xs.length) (hroom : i + xs.length ≤ c) :
  ∃ w',(Builtin.append_ #[64,63] 64 #[.slice (some ⟨g,0,none⟩) i c,u]).run Tryz.prog w = .ok (.slice (some ⟨g,0,none⟩) (i + xs.length) c) w' ∧
   w'.heap[g]? = some (.cells (splice cur (i * 2) (spC xs)).toArray 151 (0,0)) ∧ w.grownBy w' (some g):=by
 obtain ⟨hlen,⟨h0,_⟩ | ⟨h0,b,off,uc,rfl,h2,h3,h4,h5⟩⟩:=hu
 ·omega
 ·have hr:=run_append_room (P:=Tryz.prog) (w:=w) 64 64 151 _ Tryz.underlying64 infoSp.1 g i c cur.toArray hg ⟨b,off,none⟩ xs.length uc (spC xs) (by rw [spC_len,infoSp.2]) (fun j u hu => by rw [Addr.add_lit];exact h5 j u hu) (spC_one xs) hroom (by rw [infoSp.2,spC_len];simp;omega)
  refine ⟨_,?_,setRow_heap w g _ _ _ _ hg,grown_setRow w g _⟩
  rw [append_types 64 63 _ 151 _ _ _ _ _ Tryz.underlying64 Tryz.underlying63,hr,infoSp.2]
  simp [splice]
theorem rep_end_room {g c i : Nat} {l xs : List (Int × Int)} {u : Value} {w : World} (h : OwnN w (.slice (some ⟨g,0,none⟩) l.length c) l) (hu : RdS w u xs) (hx : 0 < xs.length) (hi : i < l.length) (hroom : i + xs.length ≤ c) (hge : l.length ≤ i + xs.length) :
  Calls Tryz.prog 128 #[.slice (some ⟨g,0,none⟩) l.length c,.int .i64 i,.int .i64 l.length,u] w (NewRow (.slice (some ⟨g,0,none⟩) l.length c) (l.take i ++ xs) w):=by
 obtain ⟨cur,hg,hcl,hct,_,hlc,hmx⟩:=h.open
 obtain ⟨w1,hap,hg1,hw1⟩:=app_room (l:=l) hg hcl hu hx hroom
 obtain ⟨ua,uc,rfl,_,_⟩:=hu.isSlice
 obtain ⟨m,hm⟩ : ∃ m,m = i + xs.length:=⟨_,rfl⟩
 have e1 : ((i : Int) == (l.length : Int)) = false:=by simp;omega
 have e2 : decide ((m : Int) < (l.length : Int)) = false:=qdf (by omega)
 have e2' : decide (m < l.length) = false:=qdf (by omega)
 have i1 : (0 : Int) ≤ (i : Int):=by omega
 have i2 : (i : Int) ≤ (l.length : Int):=by omega
 have i4 : (l.length : Int) ≤ (c : Int):=by omega
 have i5 : (i : Int) ≤ (c : Int):=by omega
 have i6 : ¬ c = i:=by omega
 have hfin : (splice cur (i * 2) (spC xs)).take ((l.take i ++ xs).length * 2) = spC (l.take i ++ xs):=by
  have hll : (l.take i ++ xs).length = i + xs.length:=by rw [List.length_append,List.length_take];omega
  have hs : (spC xs).length = xs.length * 2:=spC_len xs
  rw [hll,splice_eq,← List.append_assoc,List.take_append_of_le_length (by rw [List.length_append,List.length_take,hs,hcl];omega),List.take_of_length_le (by rw [List.length_append,List.length_take,hs,hcl];omega),spC_append,spC_take,← hct,List.take_take,Nat.min_eq_left (by omega)]
 have hO : Hid (OwnN w1 (.slice (some ⟨g,0,none⟩) m c) (l.take i ++ xs)):=by
  have hll : (l.take i ++ xs).length = m:=by rw [List.length_append,List.length_take];omega
  have:=OwnN.shut (l:=l.take i ++ xs) (c:=c) hg1 (by rw [splice_len _ _ _ (by rw [spC_len,hcl];omega),hcl]) hfin (by rw [hll];omega) hmx
  rw [hll] at this;exact this
 rw [← hm] at hap
 have HW:=qhi hw1
 have HA:=qhi hap
 clear h hu hx hg hcl hct hg1 hw1 hfin hap hm
 go_enter Tryz.func128,Tryz.ntmps128
 go_wp2_with (at_builtin;refine wpList_app_M rfl (.tmp 32) (.tmp 33) 64 63 rfl rfl rfl HA.out ?_)
 go_ret
 exact ⟨_,rfl,hO.out,HW.out,.inl rfl⟩
theorem OwnN.cut {w : World} {g n c i : Nat} {l : List (Int × Int)} (h : OwnN w (.slice (some ⟨g,0,none⟩) n c) l) (hi : i ≤ l.length) : OwnN w (.slice (some ⟨g,0,none⟩) i c) (l.take i):=by
 obtain ⟨cur,hg,hcl,hct,_,hlc,hmx⟩:=h.open
 have hll : (l.take i).length = i:=by rw [List.length_take];omega
 have:=OwnN.shut (l:=l.take i) (c:=c) hg hcl (by rw [hll,spC_take,← hct,List.take_take,Nat.min_eq_left (by omega)]) (by rw [hll];omega) hmx
 rw [hll] at this;exact this
theorem rep_end_less {g c i : Nat} {l xs : List (Int × Int)} {u : Value} {w : World} (h : OwnN w (.slice (some ⟨g,0,none⟩) l.length c) l) (hu : RdS w u xs) (hx : 0 < xs.length) (hi : i < l.length) (hroom : i + xs.length ≤ c) (hlt : i + xs.length < l.length) :
  Calls Tryz.prog 128 #[.slice (some ⟨g,0,none⟩) l.length c,.int .i64 i,.int .i64 l.length,u] w (NewRow (.slice (some ⟨g,0,none⟩) l.length c) (l.take i ++ xs) w):=by
 obtain ⟨cur,hg,hcl,hct,_,hlc,hmx⟩:=h.open
 obtain ⟨w1,hap,hg1,hw1⟩:=app_room (l:=l) hg hcl hu hx hroom
 obtain ⟨ua,uc,rfl,_,_⟩:=hu.isSlice
 obtain ⟨m,hm⟩ : ∃ m,m = i + xs.length:=⟨_,rfl⟩
 have e1 : ((i : Int) == (l.length : Int)) = false:=by simp;omega
 have e2 : decide ((m : Int) < (l.length : Int)) = true:=qdt (by omega)
 have e2' : decide (m < l.length) = true:=qdt (by omega)
 have i1 : (0 : Int) ≤ (i : Int):=by omega
 have i2 : (i : Int) ≤ (l.length : Int):=by omega
 have i4 : (l.length : Int) ≤ (c : Int):=by omega
 have i5 : (i : Int) ≤ (c : Int):=by omega
 have i6 : ¬ c = i:=by omega
 have i7 : (m : Int) ≤ (l.length : Int):=by omega
 have i8 : (0 : Int) ≤ (m : Int):=by omega
 have i9 : ¬ c = m:=by omega
 have hsl : (spC xs).length = xs.length * 2:=spC_len xs
 have hs2 : i * 2 + (spC xs).length = m * 2:=by rw [hsl];omega
 have hspl : (splice cur (i * 2) (spC xs)).length = c * 2:=by rw [splice_len _ _ _ (by rw [hsl,hcl];omega),hcl]
 obtain ⟨vs,hvs,hrun⟩:=run_clear_rows w1 64 151 0 (.agg #[.int .i64 0,.int .i64 0]) Tryz.underlying64 zeroSp (by intro v hv;simp [Value.cells] at hv;rcases hv with rfl | rfl <;> rfl) g (m * 2) (l.length - m) (c - m) 2 rfl (by omega) 151 _ hg1 (by rw [hspl];omega)
 have hO : Hid (OwnN (w1.setRow g (splice (splice cur (i * 2) (spC xs)) (m * 2) vs).toArray) (.slice (some ⟨g,0,none⟩) m c) (l.take i ++ xs)):=by
  have hll : (l.take i ++ xs).length = m:=by rw [List.length_append,List.length_take];omega
  have hfin : (splice (splice cur (i * 2) (spC xs)) (m * 2) vs).take ((l.take i ++ xs).length * 2) = spC (l.take i ++ xs):=by
   rw [hll,← hs2,cut_splice cur (spC xs) vs (i * 2) (by rw [hsl,hcl];omega),spC_append,spC_take,← hct,List.take_take,Nat.min_eq_left (by omega)]
  have:=OwnN.shut (l:=l.take i ++ xs) (c:=c) (setRow_heap w1 g _ (splice (splice cur (i * 2) (spC xs)) (m * 2) vs).toArray _ _ hg1) (by rw [splice_len _ _ _ (by rw [hvs,hspl];omega),hspl]) hfin (by rw [hll];omega) hmx
  rw [hll] at this;exact this
 have HW2:=qhi (grown_setRow w1 g (splice (splice cur (i * 2) (spC xs)) (m * 2) vs).toArray)
 rw [← hm] at hap
 have HW:=qhi hw1
 have HA:=qhi hap
 clear h hu hx hg hcl hct hg1 hw1 hap hm hsl hs2 hspl hvs
 go_enter Tryz.func128,Tryz.ntmps128
 go_wp2_with (first | (at_builtin;refine wpList_app_M rfl (.tmp 32) (.tmp 33) 64 63 rfl rfl rfl HA.out ?_))
 go_ret
 exact ⟨_,rfl,hO.out,grownBy_trans HW.out HW2.out,.inl rfl⟩
theorem rep_end_grow {g c i : Nat} {l xs : List (Int × Int)} {u : Value} {w : World} (h : OwnN w (.slice (some ⟨g,0,none⟩) l.length c) l) (hu : RdS w u xs) (hx : 0 < xs.length) (hi : i < l.length) (hroom : c < i + xs.length) (hsm : l.length + xs.length < 1099511627776) :
  Calls Tryz.prog 128 #[.slice (some ⟨g,0,none⟩) l.length c,.int .i64 i,.int .i64 l.length,u] w (NewRow (.slice (some ⟨g,0,none⟩) l.length c) (l.take i ++ xs) w):=by
 obtain ⟨cur,hg,hcl,hct,_,hlc,hmx⟩:=h.open
 obtain ⟨ua,uc,rfl,_,_⟩:=hu.isSlice
 have e1 : ((i : Int) == (l.length : Int)) = false:=by simp;omega
 have i1 : (0 : Int) ≤ (i : Int):=by omega
 have i2 : (i : Int) ≤ (l.length : Int):=by omega
 have i4 : (l.length : Int) ≤ (c : Int):=by omega
 have i5 : (i : Int) ≤ (c : Int):=by omega
 have i6 : ¬ c = i:=by omega
 have hll : (l.take i).length = i:=by rw [List.length_take];omega
 have hcut:=h.cut (i:=i) (by omega)
 have HC : Hid (w.ownsRow 0 151 2 (.slice (some ⟨g,0,none⟩) i c) i (spC (l.take i))):=by
  have:=hcut
  unfold OwnN at this
  rw [hll] at this;exact this
 obtain ⟨m,hm⟩ : ∃ m,m = i + xs.length:=⟨_,rfl⟩
 have e2 : decide ((m : Int) < (l.length : Int)) = false:=qdf (by omega)
 have e2' : decide (m < l.length) = false:=qdf (by omega)
 have HU:=qhi hu
 have HM:=qhi hm
 have hby : (i + xs.length) * 16 ≤ 140737488355328:=by omega
 have h63 : i + xs.length ≤ maxLen:=by unfold maxLen;omega
 clear h hu hg hcl hct hcut
 go_enter Tryz.func128,Tryz.ntmps128
 go_wp2_with (at_builtin;(refine wpList_append_at2 rfl (.tmp 32) (.tmp 33) 64 63 rfl elemSpan Tryz.underlying64 Tryz.underlying63 0 (.slice (some ⟨g,0,none⟩) i c) i (spC (l.take i)) rfl HC.out _ _ _ rfl HU.out hx (spC_one xs) hby h63 (Nat.zero_le _) ?_;intro v' w' N1 N2 N3;obtain ⟨va,vc,hv,_,_⟩:=(RdC.of_owns N1).isSlice;subst hv;have M1:=qhi N1;have M2:=qhi N2;have M3:=qhi N3;clear N1 N2 N3))
 all_goals
  go_ret
  refine ⟨_,rfl,?_,M2.out,M3.out.imp id fun h => ⟨_,h,qlr _⟩⟩
  unfold OwnN
  rw [List.length_append,hll,spC_append]
  exact M1.out
theorem two_splices {α : Type} (cur X D : List α) (a : Nat) (h : a + X.length + D.length ≤ cur.length) : (splice (splice cur a X) (a + X.length) D).take (a + X.length + D.length) = cur.take a ++ X ++ D:=by
 have h1 : (splice cur a X).take (a + X.length) = cur.take a ++ X:=by
  have hl : (cur.take a ++ X).length = a + X.length:=by rw [List.length_append,List.length_take];omega
  rw [splice_eq,← List.append_assoc,← hl,List.take_left']
  rfl
 have hl : (cur.take a ++ X ++ D).length = a + X.length + D.length:=by rw [List.length_append,List.length_append,List.length_take];omega
 rw [splice_eq (splice cur a X),h1,← List.append_assoc,← hl,List.take_left']
 rfl
theorem splice_back {α : Type} (cur X D : List α) (a : Nat) (h : a + X.length + D.length ≤ cur.length) : (splice (splice cur (a + X.length) D) a X).take (a + X.length + D.length) = cur.take a ++ X ++ D:=by
 have e : splice (splice cur (a + X.length) D) a X = splice (splice cur a X) (a + X.length) D:=by
  rw [splice_eq (splice cur (a + X.length) D),splice_eq cur (a + X.length) D,splice_eq (splice cur a X),splice_eq cur a X]
  have l1 : (cur.take (a + X.length)).length = a + X.length:=by rw [List.length_take];omega
  have l2 : (cur.take a).length = a:=by rw [List.length_take];omega
  rw [List.take_append_of_le_length (by rw [l1];omega),List.take_take,Nat.min_eq_left (by omega)]
  rw [List.drop_left' l1]
  have h1 : (cur.take a ++ (X ++ cur.drop (a + X.length))).take (a + X.length) = cur.take a ++ X:=by
   have hl : (cur.take a ++ X).length = a + X.length:=by rw [List.length_append,l2]
   rw [← List.append_assoc,← hl,List.take_left']
   rfl
  have h2 : (cur.take a ++ (X ++ cur.drop (a + X.length))).drop (a + X.length + D.length) = cur.drop (a + X.length + D.length):=by
   have hl : (cur.take a ++ X).length = a + X.length:=by rw [List.length_append,l2]
   rw [← List.append_assoc,← List.drop_drop,List.drop_left' hl,List.drop_drop]
  rw [h1,h2,List.append_assoc]
 rw [e];exact two_splices cur X D a h
theorem cell_part {w : World} {g : Nat} {cur : List Value} {T : TypeId} {z : Nat × Nat} (hg : w.heap[g]? = some (.cells cur.toArray T z)) {o : Nat} {D : List Value} (hD : (cur.drop o).take D.length = D) : ∀ j v,D[j]? = some v → w.cell? ((⟨g,o,none⟩ : Addr).add j) = some v:=by
 intro j v hv
 rw [Addr.add_lit]
 have hj : j < D.length:=(List.getElem?_eq_some_iff.1 hv).1
 have h1 : cur[o + j]? = some v:=by
  rw [← hD,List.getElem?_take,if_pos hj,List.getElem?_drop] at hv
  exact hv
 simp only [World.cell?,hg,Option.bind_some]
 simpa using h1
theorem step_run_drew {w w' : World} {row : Option Nat} (h : w.drew.grownBy w' row) : w.grownBy w' row:=⟨h.os,h.tape,h.output,h.size,h.block⟩
theorem run_clear_none {P : Program} (w : World) (t e ty : TypeId) (z : Value) (ht : P.underlying t = some (.slice e)) (hv : ∀ w,(zeroValue e).run P w = .ok z w) (a : Option Addr) (c : Nat) : (Builtin.clear_ #[t] ty #[.slice a 0 c]).run P w = .ok (.tuple #[]) w:=by
 cases a <;> simp [Builtin.clear_,run_underlying ht,hv]
theorem run_cp_src {W : World} {g off m ub uo uc dLen dCap : Nat} {cur : List Value} {xs : List (Int × Int)} (ty : TypeId) (hg : W.heap[g]? = some (.cells cur.toArray 151 (0,0))) (hu : ∀ j v,(spC xs)[j]? = some v → W.cell? ⟨ub,uo + j,none⟩ = some v) (hm : m = xs.length) (hd : m ≤ dLen) (hfit : off + m * 2 ≤ cur.length) :
  ∃ W1,(Builtin.copy_ #[64,63] ty #[.slice (some ⟨g,off,none⟩) dLen dCap,.slice (some ⟨ub,uo,none⟩) m uc]).run Tryz.prog W = .ok (goInt m) W1 ∧ W1.heap[g]? = some (.cells (splice cur off (spC xs)).toArray 151 (0,0)) ∧ W.grownBy W1 (some g):=by
 have hs : (spC xs).length = m * 2:=by rw [spC_len,hm]
 obtain ⟨W1,h1,h2,h3,_⟩:=run_copy_spliceM (P:=Tryz.prog) W 64 63 ty 151 2 (by decide) Tryz.underlying64 (by rw [infoSp.1];simp [infoSp.2]) (some ⟨g,off,none⟩) (some ⟨ub,uo,none⟩) dLen dCap m uc g off cur 151 hg (spC xs) (by rw [hs];congr 1;exact (Nat.min_eq_left hd).symm)
  (fun _ => ⟨rfl,_,rfl,fun j v hv => by rw [Addr.add_lit];exact hu j v hv⟩) (by rw [hs];exact hfit) (spC_one xs)
 refine ⟨W1,?_,h2,h3⟩
 rw [h1,show Nat.min m dLen = m from Nat.min_eq_left hd]
theorem run_cp_row {W : World} {g off o n dCap sCap : Nat} {cur : List Value} {D : List (Int × Int)} (ty : TypeId) (hg : W.heap[g]? = some (.cells cur.toArray 151 (0,0))) (hn : n = D.length) (hD : (cur.drop o).take (n * 2) = spC D) (hfit : off + n * 2 ≤ cur.length) :
  ∃ W1,(Builtin.copy_ #[64,64] ty #[.slice (some ⟨g,off,none⟩) n dCap,.slice (some ⟨g,o,none⟩) n sCap]).run Tryz.prog W = .ok (goInt n) W1 ∧ W1.heap[g]? = some (.cells (splice cur off (spC D)).toArray 151 (0,0)) ∧ W.grownBy W1 (some g):=by
 have hs : (spC D).length = n * 2:=by rw [spC_len,hn]
 obtain ⟨W1,h1,h2,h3,_⟩:=run_copy_spliceM (P:=Tryz.prog) W 64 64 ty 151 2 (by decide) Tryz.underlying64 (by rw [infoSp.1];simp [infoSp.2]) (some ⟨g,off,none⟩) (some ⟨g,o,none⟩) n dCap n sCap g off cur 151 hg (spC D) (by rw [hs];congr 1;exact (Nat.min_self n).symm)
  (fun _ => ⟨rfl,_,rfl,cell_part hg (by rw [hs];exact hD)⟩) (by rw [hs];exact hfit) (spC_one D)
 refine ⟨W1,?_,h2,h3⟩
 rw [h1,show Nat.min n n = n from Nat.min_self n]
theorem splice_drop {α : Type} (L cs : List α) (o p : Nat) (h : o + cs.length ≤ p) (ho : o + cs.length ≤ L.length) : (splice L o cs).drop p = L.drop p:=by
 rw [splice_eq,← List.append_assoc]
 have hl : (L.take o ++ cs).length = o + cs.length:=by rw [List.length_append,List.length_take];omega
 obtain ⟨d,rfl⟩ : ∃ d,p = o + cs.length + d:=⟨p - (o + cs.length),by omega⟩
 rw [← List.drop_drop,List.drop_left' hl,List.drop_drop]
theorem row_tail {cur : List Value} {l : List (Int × Int)} {L j r : Nat} (hct : cur.take (L * 2) = spC l) (hL : L = l.length) (hr : r = L - j) (hj : j ≤ L) : (cur.drop (j * 2)).take (r * 2) = spC (l.drop j):=by
 rw [spC_drop,← hct,List.drop_take]
 congr 1
 omega
theorem rep_mid_less {g c i : Nat} {l xs : List (Int × Int)} {u : Value} {w : World} (h : OwnN w (.slice (some ⟨g,0,none⟩) l.length c) l) (hu : RdS w u xs) (hx : 0 < xs.length) (hx2 : xs.length ≤ 2) (hi : i + 2 < l.length) (hcL : l.length < 1099511627776) :
  Calls Tryz.prog 128 #[.slice (some ⟨g,0,none⟩) l.length c,.int .i64 i,.int .i64 ((i + 2 : Nat) : Int),u] w (NewRow (.slice (some ⟨g,0,none⟩) l.length c) (l.take i ++ xs ++ l.drop (i + 2)) w):=by
 obtain ⟨cur,hg,hcl,hct,_,hlc,hmx⟩:=h.open
 obtain ⟨_,⟨h0,_⟩ | ⟨_,ub,uo,uc,rfl,hu2,hu3,hu4,hu5⟩⟩:=hu
 ·omega
 have hsx : (spC xs).length = xs.length * 2:=spC_len xs
 have hdl : (l.drop (i + 2)).length = l.length - (i + 2):=by rw [List.length_drop]
 obtain ⟨j,hj⟩ : ∃ j,j = i + 2:=⟨_,rfl⟩
 obtain ⟨m,hm⟩ : ∃ m,m = xs.length:=⟨_,rfl⟩
 obtain ⟨q,hq⟩ : ∃ q,q = i + m:=⟨_,rfl⟩
 obtain ⟨r,hr⟩ : ∃ r,r = l.length - j:=⟨_,rfl⟩
 obtain ⟨tot,htot⟩ : ∃ tot,tot = q + r:=⟨_,rfl⟩
 obtain ⟨L,hL⟩ : ∃ L,L = l.length:=⟨_,rfl⟩
 rw [← hj] at hdl ⊢
 rw [← hm] at hsx hu2 hx hx2 ⊢
 rw [← hL] at hct hlc hi hcL hr hdl ⊢
 have e1 : ((i : Int) == (j : Int)) = false:=by simp;omega
 have e2 : ((j : Int) == (L : Int)) = false:=by simp;omega
 have i1 : (0 : Int) ≤ (i : Int):=by omega
 have i2 : (i : Int) ≤ (j : Int):=by omega
 have i3 : (j : Int) ≤ (L : Int):=by omega
 have i4 : (L : Int) ≤ (c : Int):=by omega
 have i5 : (i : Int) ≤ (c : Int):=by omega
 have i6 : (j : Int) ≤ (c : Int):=by omega
 have i7 : (i : Int) ≤ (L : Int):=by omega
 have i8 : ¬ c = i:=by omega
 have i9 : ¬ c = j:=by omega
 have s1 : (i : Int) + (m : Int) = (q : Int):=by omega
 have s2 : L - j = r:=hr.symm
 have s3 : (q : Int) + (r : Int) = (tot : Int):=by omega
 have s4 : tot - q = r:=by omega
 have d1 : decide ((tot : Int) > (c : Int)) = false:=qdf (by omega)
 have d1' : decide (c < tot) = false:=qdf (by omega)
 have d2 : decide ((q : Int) ≤ (j : Int)) = true:=qdt (by omega)
 have d2' : decide (q ≤ j) = true:=qdt (by omega)
 have t1 : (0 : Int) ≤ (tot : Int):=by omega
 have t2 : (tot : Int) ≤ (c : Int):=by omega
 have t3 : (i : Int) ≤ (tot : Int):=by omega
 have t4 : (q : Int) ≤ (tot : Int):=by omega
 have t5 : (0 : Int) ≤ (q : Int):=by omega
 have t6 : (q : Int) ≤ (c : Int):=by omega
 have t7 : (tot : Int) ≤ (L : Int):=by omega
 have t8 : ¬ c = q:=by omega
 have t9 : (0 : Int) ≤ (j : Int):=by omega
 have HJ:=qhi hj
 have HM:=qhi hm
 have HQ:=qhi hq
 have HR:=qhi hr
 have HT:=qhi htot
 have HL:=qhi hL
 have HH:=qhi h
 have HG:=qhi hg
 have HCL:=qhi hcl
 have HCT:=qhi hct
 have HU:=qhi hu5
 have HSX:=qhi hsx
 have HDL:=qhi hdl
 have hmt : m ≤ tot - i:=by omega
 clear hj hm hq hr htot hL h hg hcl hct hu5 hsx hdl
 go_enter Tryz.func128,Tryz.ntmps128
 go_wp2_with fail
 go_quiet (fail)
 have HG0 : Hid ((w.drewN nq).heap[g]? = some (.cells cur.toArray 151 (0,0))):=HG
 have HU0 : Hid (∀ p v,(spC xs)[p]? = some v → (w.drewN nq).cell? ⟨ub,uo + p,none⟩ = some v):=HU
 have HW0 : Hid (w.grownBy (w.drewN nq) (some g)):=qhi (grownBy_drewN (World.grownBy.refl w _) nq)
 generalize w.drewN nq = w0 at HG0 HU0 HW0 ⊢
 obtain ⟨w1,r1,g1,k1⟩:=run_cp_src (dLen:=tot - i) (dCap:=c - i) (off:=i * 2) (uc:=uc) 3 HG0.out HU0.out HM.out hmt (by have:=HCL.out;have:=HQ.out;omega)
 have G1:=qhi g1
 have K1:=qhi k1
 clear g1 k1
 go_upto_region 18 with fail
 have hC1 : ((splice cur (i * 2) (spC xs)).drop (j * 2)).take (r * 2) = spC (l.drop j):=by
  rw [splice_drop _ _ _ _ (by rw [HSX.out];omega) (by rw [HSX.out,HCL.out];omega)]
  exact row_tail HCT.out HL.out HR.out (by omega)
 have hl1 : (splice cur (i * 2) (spC xs)).length = c * 2:=by rw [splice_len _ _ _ (by rw [HSX.out,HCL.out];omega),HCL.out]
 obtain ⟨w2,r2,g2,k2⟩:=run_cp_row (W:=w1.drew) (off:=q * 2) (o:=j * 2) (n:=r) (dCap:=c - q) (sCap:=c - j) (D:=l.drop j) 3 G1.out (by rw [HDL.out];exact HR.out) hC1 (by rw [hl1];omega)
 have G2:=qhi g2
 have K2:=qhi k2
 have HC1:=qhi hC1
 have HL1:=qhi hl1
 clear r1 g2 k2 hC1 hl1
 have hwq : IntKind.i64.wrap (q : Int) = (q : Int):=by rw [IntKind.wrap_i64];omega
 go_still_tail 9,(by kernel_rfl)
 repeat still_step
 change wpList _ _ _ _ _ w1.drew
 go_upto_region 19 with fail
 clear r2
 have hX : (spC xs).length = m * 2:=HSX.out
 have hq2 : i * 2 + (spC xs).length = q * 2:=by rw [hX];have:=HQ.out;omega
 have hDL : (spC (l.drop j)).length = r * 2:=by rw [spC_len,HDL.out];have:=HR.out;omega
 have hl2 : (splice (splice cur (i * 2) (spC xs)) (q * 2) (spC (l.drop j))).length = c * 2:=by rw [splice_len _ _ _ (by rw [hDL,HL1.out];have:=HT.out;omega),HL1.out]
 have hll : (l.take i ++ xs ++ l.drop j).length = tot:=by
  rw [List.length_append,List.length_append,List.length_take,HDL.out,← HM.out,← HL.out]
  have:=HT.out;have:=HQ.out;have:=HR.out;omega
 have hcells : (splice (splice cur (i * 2) (spC xs)) (q * 2) (spC (l.drop j))).take (tot * 2) = spC (l.take i ++ xs ++ l.drop j):=by
  have h2:=two_splices cur (spC xs) (spC (l.drop j)) (i * 2) (by rw [hX,hDL,HCL.out];have:=HT.out;have:=HQ.out;omega)
  rw [hq2,hDL,show q * 2 + r * 2 = tot * 2 by have:=HT.out;omega] at h2
  rw [h2,spC_append,spC_append,spC_take,← HCT.out,List.take_take,Nat.min_eq_left (by omega)]
 have HS : Hid (w.grownBy w2 (some g)):=qhi (grownBy_trans HW0.out (grownBy_trans K1.out (step_run_drew K2.out)))
 have HL2:=qhi hl2
 have HLL:=qhi hll
 have HCE:=qhi hcells
 clear hX hq2 hDL hl2 hll hcells
 by_cases hm2 : m = 2
 ·have hz0 : L - tot = 0:=by have:=HT.out;have:=HQ.out;have:=HR.out;have:=HJ.out;omega
  have hcz : ∀ a c',(Builtin.clear_ #[64] 0 #[.slice a 0 c']).run Tryz.prog w2 = .ok (.tuple #[]) w2:=fun a c' => run_clear_none w2 64 151 0 _ Tryz.underlying64 zeroSp a c'
  have hO : Hid (OwnN w2 (.slice (some ⟨g,0,none⟩) tot c) (l.take i ++ xs ++ l.drop j)):=by
   have:=OwnN.shut (l:=l.take i ++ xs ++ l.drop j) (c:=c) G2.out HL2.out (by rw [HLL.out];exact HCE.out) (by rw [HLL.out];omega) hmx
   rw [HLL.out] at this;exact this
  clear hm2
  go_wp2_with fail
  all_goals
   go_ret
   refine ⟨_,rfl,?_,HS.out,.inl rfl⟩
   first
    | exact hO.out
    | (rw [← List.append_assoc];exact hO.out)
    | (have hO1:=hO.out;rw [show c = tot by assumption] at hO1;first | exact hO1 | (rw [← List.append_assoc];exact hO1))
 ·have hz1 : L - tot = 1:=by have:=HT.out;have:=HQ.out;have:=HR.out;have:=HJ.out;omega
  have ht9 : ¬ c = tot:=by have:=HT.out;have:=HQ.out;have:=HR.out;have:=HJ.out;omega
  obtain ⟨vs,hvs,hrun⟩:=run_clear_rows w2 64 151 0 (.agg #[.int .i64 0,.int .i64 0]) Tryz.underlying64 zeroSp (by intro v hv;simp [Value.cells] at hv;rcases hv with rfl | rfl <;> rfl) g (tot * 2) 1 (c - tot) 2 rfl (by omega) 151 _ G2.out (by rw [HL2.out];omega)
  have hO : Hid (OwnN (w2.setRow g (splice (splice (splice cur (i * 2) (spC xs)) (q * 2) (spC (l.drop j))) (tot * 2) vs).toArray) (.slice (some ⟨g,0,none⟩) tot c) (l.take i ++ xs ++ l.drop j)):=by
   have hc : (splice (splice (splice cur (i * 2) (spC xs)) (q * 2) (spC (l.drop j))) (tot * 2) vs).take (tot * 2) = spC (l.take i ++ xs ++ l.drop j):=by
    rw [splice_eq,List.take_append_of_le_length (by rw [List.length_take,HL2.out];omega),List.take_take,Nat.min_self]
    exact HCE.out
   have:=OwnN.shut (l:=l.take i ++ xs ++ l.drop j) (c:=c) (setRow_heap w2 g _ (splice (splice (splice cur (i * 2) (spC xs)) (q * 2) (spC (l.drop j))) (tot * 2) vs).toArray _ _ G2.out) (by rw [splice_len _ _ _ (by rw [hvs,HL2.out];omega),HL2.out]) (by rw [HLL.out];exact hc) (by rw [HLL.out];omega) hmx
   rw [HLL.out] at this;exact this
  have HS2 : Hid (w.grownBy (w2.setRow g (splice (splice (splice cur (i * 2) (spC xs)) (q * 2) (spC (l.drop j))) (tot * 2) vs).toArray) (some g)):=qhi (grownBy_trans HS.out (grown_setRow w2 g _))
  clear hm2 hvs
  go_wp2_with fail
  all_goals
   go_ret
   refine ⟨_,rfl,?_,HS2.out,.inl rfl⟩
   first | exact hO.out | (rw [← List.append_assoc];exact hO.out)
theorem ovl_run {W : World} {g off n cap ub uo m uc : Nat} {cg cu : Array Value} {tg tu : TypeId} (hne : g ≠ ub) (hg : W.heap[g]? = some (.cells cg tg (0,0))) (hu : W.heap[ub]? = some (.cells cu tu (0,0))) (hp : cu.size ≠ 0) :
  (callFunc 173 #[.slice (some ⟨g,off,none⟩) n cap,.slice (some ⟨ub,uo,none⟩) m uc]).run Tryz.prog W = .ok (.value (.bool false)) W:=by
 rw [run_callFunc_extern Tryz.func173 (by kernel_rfl) (by kernel_rfl) (by kernel_rfl) (e:=Extern.SlicesOverlaps.overlaps #[63,63] #[4]) (by kernel_rfl),
  Lib.run_overlaps_apart W 63 4 151 Tryz.underlying63 2 Tryz.sizeOf151 ⟨g,off,none⟩ ⟨ub,uo,none⟩ n cap m uc hne tg tu cg.size cu.size (by simp [World.shape?,hg]) (by simp [World.shape?,hu]) hp (by simp [World.frozen?,hg]) (by simp [World.frozen?,hg])]
 rfl
theorem rep_mid_more {g c i : Nat} {l xs : List (Int × Int)} {u : Value} {w : World} (h : OwnN w (.slice (some ⟨g,0,none⟩) l.length c) l) (hu : OwnN w u xs) (hx : 0 < xs.length) (hx2 : xs.length = 3) (hi : i + 2 < l.length) (hcL : l.length < 1099511627776) (hroom : l.length + 1 ≤ c) (hne : u.ownBlock ≠ some g) :
  Calls Tryz.prog 128 #[.slice (some ⟨g,0,none⟩) l.length c,.int .i64 i,.int .i64 ((i + 2 : Nat) : Int),u] w (NewRow (.slice (some ⟨g,0,none⟩) l.length c) (l.take i ++ xs ++ l.drop (i + 2)) w):=by
 obtain ⟨cur,hg,hcl,hct,_,hlc,hmx⟩:=h.open
 obtain ⟨ub,uc,rfl,hu4⟩:=hu.form (by intro e;rw [e] at hx;simp at hx)
 obtain ⟨curu,hub,hucl,_,_,hu2,hu3⟩:=hu.open
 have hu5 : ∀ p v,(spC xs)[p]? = some v → w.cell? ⟨ub,0 + p,none⟩ = some v:=fun p v hv => by
  rw [Nat.zero_add]
  have:=World.ownsRow.cells hu (g:=ub) rfl p v hv
  rw [Addr.add_lit] at this
  simpa using this
 have hsx : (spC xs).length = xs.length * 2:=spC_len xs
 have hdl : (l.drop (i + 2)).length = l.length - (i + 2):=by rw [List.length_drop]
 obtain ⟨j,hj⟩ : ∃ j,j = i + 2:=⟨_,rfl⟩
 obtain ⟨m,hm⟩ : ∃ m,m = xs.length:=⟨_,rfl⟩
 obtain ⟨q,hq⟩ : ∃ q,q = i + m:=⟨_,rfl⟩
 obtain ⟨r,hr⟩ : ∃ r,r = l.length - j:=⟨_,rfl⟩
 obtain ⟨tot,htot⟩ : ∃ tot,tot = q + r:=⟨_,rfl⟩
 obtain ⟨L,hL⟩ : ∃ L,L = l.length:=⟨_,rfl⟩
 rw [← hj] at hdl ⊢
 rw [← hm] at hsx hu2 hx hx2 ⊢
 rw [← hL] at hct hlc hi hcL hr hdl hroom ⊢
 have e1 : ((i : Int) == (j : Int)) = false:=by simp;omega
 have e2 : ((j : Int) == (L : Int)) = false:=by simp;omega
 have i1 : (0 : Int) ≤ (i : Int):=by omega
 have i2 : (i : Int) ≤ (j : Int):=by omega
 have i3 : (j : Int) ≤ (L : Int):=by omega
 have i4 : (L : Int) ≤ (c : Int):=by omega
 have i5 : (i : Int) ≤ (c : Int):=by omega
 have i6 : (j : Int) ≤ (c : Int):=by omega
 have i7 : (i : Int) ≤ (L : Int):=by omega
 have i8 : ¬ c = i:=by omega
 have i9 : ¬ c = j:=by omega
 have s1 : (i : Int) + (m : Int) = (q : Int):=by omega
 have s2 : L - j = r:=hr.symm
 have s3 : (q : Int) + (r : Int) = (tot : Int):=by omega
 have s4 : tot - q = r:=by omega
 have d1 : decide ((tot : Int) > (c : Int)) = false:=qdf (by omega)
 have d1' : decide (c < tot) = false:=qdf (by omega)
 have d2 : decide ((q : Int) ≤ (j : Int)) = false:=qdf (by omega)
 have d2' : decide (q ≤ j) = false:=qdf (by omega)
 have t1 : (0 : Int) ≤ (tot : Int):=by omega
 have t2 : (tot : Int) ≤ (c : Int):=by omega
 have t3 : (i : Int) ≤ (tot : Int):=by omega
 have t4 : (q : Int) ≤ (tot : Int):=by omega
 have t5 : (0 : Int) ≤ (q : Int):=by omega
 have t6 : (q : Int) ≤ (c : Int):=by omega
 have t8 : ¬ c = q:=by omega
 have t9 : (0 : Int) ≤ (j : Int):=by omega
 have hnb : ub ≠ g:=fun e => hne (by rw [e];rfl)
 have HUB:=qhi hub
 have hup : curu.toArray.size ≠ 0:=by simp;intro e;rw [e] at hucl;simp at hucl;omega
 have HX2:=qhi hx2
 have hm3 : m ≤ 3:=by omega
 have HUP:=qhi hup
 have HNB:=qhi hnb
 clear hu hub hx2 hup hnb hne hucl
 have HJ:=qhi hj
 have HM:=qhi hm
 have HQ:=qhi hq
 have HR:=qhi hr
 have HT:=qhi htot
 have HL:=qhi hL
 have HH:=qhi h
 have HG:=qhi hg
 have HCL:=qhi hcl
 have HCT:=qhi hct
 have HU:=qhi hu5
 have HSX:=qhi hsx
 have HDL:=qhi hdl
 have hmt : m ≤ tot - i:=by omega
 clear hj hm hq hr htot hL h hg hcl hct hu5 hsx hdl
 go_enter Tryz.func128,Tryz.ntmps128
 go_wp2_with fail
 go_quiet (fail)
 have HG0 : Hid ((w.drewN nq).heap[g]? = some (.cells cur.toArray 151 (0,0))):=HG
 have HU0 : Hid (∀ p v,(spC xs)[p]? = some v → (w.drewN nq).cell? ⟨ub,0 + p,none⟩ = some v):=HU
 have HUB0 : Hid ((w.drewN nq).heap[ub]? = some (.cells curu.toArray 151 (0,0))):=HUB
 have HW0 : Hid (w.grownBy (w.drewN nq) (some g)):=qhi (grownBy_drewN (World.grownBy.refl w _) nq)
 generalize w.drewN nq = w0 at HG0 HU0 HW0 HUB0 ⊢
 have ho:=ovl_run (off:=q * 2) (n:=r) (cap:=c - q) (uo:=0) (m:=m) (uc:=uc) (fun e => HNB.out e.symm) HG0.out HUB0.out HUP.out
 go_upto_region 22 with fail
 clear ho
 have hDc : (cur.drop (j * 2)).take (r * 2) = spC (l.drop j):=row_tail HCT.out HL.out HR.out (by omega)
 have hDL : (spC (l.drop j)).length = r * 2:=by rw [spC_len,HDL.out];have:=HR.out;omega
 obtain ⟨w1,r1,g1,k1⟩:=run_cp_row (W:=w0.drew) (off:=q * 2) (o:=j * 2) (n:=r) (dCap:=c - q) (sCap:=c - j) (D:=l.drop j) 3 HG0.out (by rw [HDL.out];exact HR.out) hDc (by rw [HCL.out];have:=HT.out;omega)
 have hl1 : (splice cur (q * 2) (spC (l.drop j))).length = c * 2:=by rw [splice_len _ _ _ (by rw [hDL,HCL.out];have:=HT.out;omega),HCL.out]
 have hu1 : ∀ p v,(spC xs)[p]? = some v → w1.cell? ⟨ub,0 + p,none⟩ = some v:=fun p v hv => (step_run_drew k1).cell (HU0.out p v hv) (fun e => HNB.out (by cases e;rfl))
 obtain ⟨w2,r2,g2,k2⟩:=run_cp_src (dLen:=tot - i) (dCap:=c - i) (off:=i * 2) (uc:=uc) 3 g1 hu1 HM.out hmt (by rw [hl1];have:=HQ.out;omega)
 have G1:=qhi g1
 have K1:=qhi k1
 have G2:=qhi g2
 have K2:=qhi k2
 have HL1:=qhi hl1
 have HDLL:=qhi hDL
 have hwq : IntKind.i64.wrap (q : Int) = (q : Int):=by rw [IntKind.wrap_i64];omega
 clear g1 k1 g2 k2 hDc hDL hl1 hu1
 go_still_tail 9,(by kernel_rfl)
 repeat still_step
 change wpList _ _ _ _ _ w0.drew
 go_upto_region 23 with fail
 clear r1
 go_wp2_with fail
 have hX : (spC xs).length = m * 2:=HSX.out
 have hq2 : i * 2 + (spC xs).length = q * 2:=by rw [hX];have:=HQ.out;omega
 have hll : (l.take i ++ xs ++ l.drop j).length = tot:=by
  rw [List.length_append,List.length_append,List.length_take,HDL.out,← HM.out,← HL.out]
  have:=HT.out;have:=HQ.out;have:=HR.out;omega
 have hl2 : (splice (splice cur (q * 2) (spC (l.drop j))) (i * 2) (spC xs)).length = c * 2:=by rw [splice_len _ _ _ (by rw [hX,HL1.out];have:=HQ.out;omega),HL1.out]
 have hcells : (splice (splice cur (q * 2) (spC (l.drop j))) (i * 2) (spC xs)).take (tot * 2) = spC (l.take i ++ xs ++ l.drop j):=by
  have h2:=splice_back cur (spC xs) (spC (l.drop j)) (i * 2) (by rw [hX,HDLL.out,HCL.out];have:=HT.out;have:=HQ.out;omega)
  rw [hq2,HDLL.out,show q * 2 + r * 2 = tot * 2 by have:=HT.out;omega] at h2
  rw [h2,spC_append,spC_append,spC_take,← HCT.out,List.take_take,Nat.min_eq_left (by omega)]
 have hO:=OwnN.shut (l:=l.take i ++ xs ++ l.drop j) (c:=c) G2.out hl2 (by rw [hll];exact hcells) (by rw [hll];omega) hmx
 rw [hll] at hO
 go_ret
 refine ⟨_,rfl,?_,grownBy_trans HW0.out (grownBy_trans (step_run_drew K1.out) K2.out),.inl rfl⟩
 first
  | exact hO
  | (rw [← List.append_assoc];exact hO)
end Go.Proofs.YtmcomdmcmnbhlaaGreatDoor
