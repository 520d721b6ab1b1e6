import Derived.Test.YtmcomdmcmnbhlaaGreatDoorKLSpan0
import Derived.Test.YtmcomdmcmnbhlaaGreatDoorKLRow0
import Derived.BigQuiet
import Derived.Test.YtmcomdmcmnbhlaaGreatDoorRows
import Derived.StillTailTactics
import Derived.Shelf.Abstract
import Derived.Lib.AppendZeros
import Derived.Lib.SliceRun
import Derived.Deep.RegionLaw
set_option maxRecDepth 100000
set_option maxHeartbeats 25600000
set_option linter.unusedSimpArgs false
set_option linter.unusedVariables false
set_option linter.unnecessarySimpa false
namespace Go.Proofs.YtmcomdmcmnbhlaaGreatDoor
open Go.RowKit
theorem wraps_i64' (n : Int) (h₀ : 0 ≤ n) (h₁ : n < 2 ^ 63) : IntKind.i64.wrap n = n:=by rw [IntKind.wrap_i64];omega
theorem RdS.cells {w : World} {b o n c : Nat} {ss : List (Int × Int)} (h : RdS w (.slice (some ⟨b,o,none⟩) n c) ss) (hn : n = ss.length) (k : Nat) (hk : k < ss.length) :
  w.cell? ⟨b,o + k * 2,none⟩ = some (.int .i64 (ss.getD k (0,0)).1) ∧ w.cell? ⟨b,o + k * 2 + 1,none⟩ = some (.int .i64 (ss.getD k (0,0)).2):=by
 subst hn
 exact ⟨RdC.cell h _ _ (spC_get0 ss k hk) _ rfl,RdC.cell h _ _ (spC_get1 ss k hk) _ (by omega)⟩
theorem RdS.form {w : World} {v : Value} {ss : List (Int × Int)} (h : RdS w v ss) (hs : ss ≠ []) : ∃ b o c,v = .slice (some ⟨b,o,none⟩) ss.length c ∧ b < w.heap.size:=by
 obtain ⟨_,⟨h0,_⟩ | ⟨_,b,o,c,rfl,_,_,h4,_⟩⟩:=h
 ·exact absurd (List.length_eq_zero_iff.1 h0) hs
 ·exact ⟨b,o,c,rfl,h4⟩
theorem RdS.below {w w' : World} {v : Value} {ss : List (Int × Int)} (h : RdS w v ss) (hb : Below w.heap.size w w') : RdS w' v ss:=RdC.below h hb
theorem RdS.isSlice {w : World} {v : Value} {ss : List (Int × Int)} (h : RdS w v ss) : ∃ a c,v = .slice a ss.length c ∧ ss.length ≤ c ∧ c ≤ maxLen:=RdC.isSlice h
theorem elemSpanC : ElemC Tryz.prog 151 2 16 (.agg #[.int .i64 0,.int .i64 0]):=⟨info_parts (by kernel_rfl),rfl,by decide⟩
theorem alloc_at (w : World) (o : Obj) : (w.alloc o).heap[w.heap.size]? = some o:=by show (w.heap.push o)[w.heap.size]? = _;simp
theorem owns_built (w : World) (B : Nat) (a b : Int) (hB : B ≤ w.heap.size) : OwnS (w.alloc (.cells #[.int .i64 a,.int .i64 b] 151)) B (.slice (some ⟨w.heap.size,0,none⟩) 1 1) [(a,b)] :=
 ⟨rfl,.inr ⟨w.heap.size,1,_,rfl,hB,alloc_at _ _,qlr _,by decide,rfl,rfl⟩⟩
theorem reads_built (w : World) (a b : Int) : RdS (w.alloc (.cells #[.int .i64 a,.int .i64 b] 151)) (.slice (some ⟨w.heap.size,0,none⟩) 1 1) [(a,b)]:=(owns_built w 0 a b (Nat.zero_le _)).rd
theorem wpList_append_spans (w : World) {ops : Array Oper} {rest : List Oper} {o : Oper} {a : Act} {Q : Exit → Act → World → Prop} (hgd : o.guard = none) (s x : Operand)
  (ho : o.op = .call { callee:=.builtin .append,args:=#[s,x],argTypes:=#[63,63] })
  (B : Nat) (v : Value) (xs : List (Int × Int)) (hs : a.eval s = v) (hown : OwnS w B v xs) (u : Value) (ys : List (Int × Int)) (hx : a.eval x = u) (hr : RdS w u ys)
  (hby : xs.length + ys.length ≤ 8796093022208) (hB : B ≤ w.heap.size)
  (h : ∀ v' w',OwnS w' B v' (xs ++ ys) → w.grownBy w' v.ownBlock → wpList Tryz.prog ops Q rest (a.put o.dst v') w') : wpList Tryz.prog ops Q (o :: rest) a w :=
 wpList_append_rows w hgd s x 63 ho elemSpanC Tryz.underlying63 B v xs.length (spC xs) hs hown u ys.length (spC ys) hx hr (spC_one ys) (by omega) (by unfold maxLen;omega) hB
  fun v' w' h1 h2 => h v' w' (show w'.ownsRow _ _ _ _ (xs ++ ys).length _ by rw [List.length_append,spC_append];exact h1) h2
theorem spC_part (ss : List (Int × Int)) (i m : Nat) : spC ((ss.drop i).take m) = ((spC ss).drop (i * 2)).take (m * 2):=by
 have hd : ∀ (ss : List (Int × Int)) (i : Nat),spC (ss.drop i) = (spC ss).drop (i * 2):=by
  intro ss
  induction ss with
  | nil => intro i;simp [spC]
  | cons s r ih =>
    intro i
    cases i with
    | zero => simp
    | succ i =>
      have:=ih i
      rw [List.drop_succ_cons,this,Nat.succ_mul]
      show _ = List.drop (i * 2 + 2) (spCell s ++ spC r)
      rw [show i * 2 + 2 = 2 + i * 2 by omega,← List.drop_drop];rfl
 have ht : ∀ (ss : List (Int × Int)) (i : Nat),spC (ss.take i) = (spC ss).take (i * 2):=by
  intro ss
  induction ss with
  | nil => intro i;simp [spC]
  | cons s r ih =>
    intro i
    cases i with
    | zero => simp [spC]
    | succ i =>
      have:=ih i
      rw [List.take_succ_cons,Nat.succ_mul]
      show spCell s ++ spC (r.take i) = List.take (i * 2 + 2) (spCell s ++ spC r)
      rw [this]
      show _ :: _ :: _ = _
      rfl
 rw [ht,hd]
theorem RdS.cut {w : World} {b o n c : Nat} {ss : List (Int × Int)} (h : RdS w (.slice (some ⟨b,o,none⟩) n c) ss) (i m : Nat) (him : i + m ≤ n) (ao : Option Addr) (hao : ¬ c = i → ao = some ⟨b,o + i * 2,none⟩) (hn : ao ≠ none) : RdS w (.slice ao m (c - i)) ((ss.drop i).take m):=by
 have h0:=h
 obtain ⟨hl,hh⟩:=h
 have hc : n = ss.length ∧ n ≤ c ∧ c ≤ maxLen:=by
  obtain ⟨a',c',e,h1,h2⟩:=h0.isSlice
  simp only [Value.slice.injEq] at e
  obtain ⟨_,rfl,rfl⟩:=e
  exact ⟨rfl,h1,h2⟩
 obtain ⟨rfl,hc,hm⟩:=hc
 have hlen : ((ss.drop i).take m).length = m:=by rw [List.length_take,List.length_drop];omega
 refine ⟨by rw [hlen,spC_len,hlen],?_⟩
 rw [hlen]
 by_cases hm0 : m = 0
 ·subst hm0
  exact .inl ⟨rfl,ao,c - i,rfl,by omega,fun h => absurd h hn⟩
 ·rw [hao (by omega)]
  rcases hh with ⟨hz,_⟩ | ⟨_,b',o',c',q,h2,h3,h4,h5⟩
  ·omega
  ·simp only [Value.slice.injEq,Option.some.injEq,Addr.mk.injEq,and_true,true_and] at q
   obtain ⟨⟨rfl,rfl⟩,rfl⟩:=q
   refine .inr ⟨by omega,b,o + i * 2,c - i,rfl,by omega,by omega,h4,fun j u hu => ?_⟩
   rw [spC_part] at hu
   have hj : j < m * 2:=by
    have:=(List.getElem?_eq_some_iff.1 hu).1
    rw [List.length_take] at this;omega
   rw [show o + i * 2 + j = o + (i * 2 + j) by omega]
   refine h5 _ _ ?_
   rw [List.getElem?_take_of_lt hj,List.getElem?_drop] at hu
   exact hu
theorem RdS.cutAny {w : World} {a : Addr} {n c : Nat} {ss : List (Int × Int)} (h : RdS w (.slice (some a) n c) ss) (i m : Nat) (him : i + m ≤ n) (ao : Option Addr) (hao : ¬ c = i → ao = some (a.add (i * 2))) (hn : ao ≠ none) : RdS w (.slice ao m (c - i)) ((ss.drop i).take m):=by
 by_cases h0 : ss = []
 ·subst h0
  obtain ⟨a',c',e,h1,h2⟩:=h.isSlice
  simp only [Value.slice.injEq] at e
  obtain ⟨rfl,rfl,rfl⟩:=e
  obtain rfl : i = 0:=by simp at him;omega
  obtain rfl : m = 0:=by simp at him;omega
  exact ⟨rfl,.inl ⟨rfl,ao,_,rfl,by simpa using h2,fun h => absurd h hn⟩⟩
 ·obtain ⟨b',o',c',e,_⟩:=h.form h0
  simp only [Value.slice.injEq,Option.some.injEq] at e
  obtain ⟨rfl,rfl,rfl⟩:=e
  exact h.cut i m him ao (fun h => by rw [hao h,Addr.add_lit]) hn
theorem RdS.nilCut {w : World} {n c : Nat} {ss : List (Int × Int)} (h : RdS w (.slice none n c) ss) : ss = [] ∧ c = 0:=by
 obtain ⟨hl,⟨h1,a,c',e,_,hn⟩ | ⟨h1,b,o,c',e,_⟩⟩:=h
 ·simp only [Value.slice.injEq] at e
  obtain ⟨rfl,_,rfl⟩:=e
  exact ⟨List.length_eq_zero_iff.1 h1,hn rfl⟩
 ·simp at e
end Go.Proofs.YtmcomdmcmnbhlaaGreatDoor
namespace Go.Proofs.YtmcomdmcmnbhlaaGreatDoor
def riseB (least : Int) : List (Int × Int) → Bool
 | [] => true
 | s :: r => decide (least ≤ s.1 ∧ s.1 ≤ s.2 ∧ s.2 ≤ 4611686018427387903) && riseB (s.2 + 2) r
def rightB5 (ss : List (Int × Int)) : Bool:=decide (ss.length ≤ 256) && riseB 0 ss
def inB5 (n : Int) : List (Int × Int) → Bool
 | [] => false
 | s :: r => decide (s.1 ≤ n ∧ n ≤ s.2) || inB5 n r
def spanB (x y : Int) : Bool:=decide (0 ≤ x ∧ x ≤ y ∧ y ≤ 4611686018427387903)
theorem rise_cons {l : Int} {s : Int × Int} {r : List (Int × Int)} : riseB l (s :: r) = true ↔ (l ≤ s.1 ∧ s.1 ≤ s.2 ∧ s.2 ≤ 4611686018427387903) ∧ riseB (s.2 + 2) r = true:=by simp [riseB]
theorem rise_mono {l m : Int} {ss : List (Int × Int)} (h : riseB l ss = true) (hm : m ≤ l) : riseB m ss = true:=by
 cases ss with
 | nil => rfl
 | cons s r => rw [rise_cons] at h ⊢;exact ⟨⟨by omega,h.1.2⟩,h.2⟩
theorem rise_mem {ss : List (Int × Int)} : ∀ {l : Int},riseB l ss = true → ∀ s ∈ ss,l ≤ s.1 ∧ s.1 ≤ s.2 ∧ s.2 ≤ 4611686018427387903:=by
 induction ss with
 | nil => intro l _ s hs;cases hs
 | cons x r ih =>
   intro l h s hs
   rw [rise_cons] at h
   rcases List.mem_cons.1 hs with rfl | hs
   ·exact h.1
   ·have:=ih h.2 s hs;omega
theorem in_cons {n : Int} {s : Int × Int} {r : List (Int × Int)} : inB5 n (s :: r) = true ↔ (s.1 ≤ n ∧ n ≤ s.2) ∨ inB5 n r = true:=by simp [inB5]
theorem in_mem {n : Int} {ss : List (Int × Int)} : inB5 n ss = true ↔ ∃ s ∈ ss,s.1 ≤ n ∧ n ≤ s.2:=by
 induction ss with
 | nil => simp [inB5]
 | cons s r ih => rw [in_cons,ih];simp
theorem in_rise {n l : Int} {ss : List (Int × Int)} (h : riseB l ss = true) (hn : inB5 n ss = true) : l ≤ n ∧ n ≤ 4611686018427387903:=by
 obtain ⟨s,hs,h1,h2⟩:=in_mem.1 hn
 have:=rise_mem h s hs
 omega
def upN (n : Int) : List (Int × Int) → Nat
 | [] => 0
 | s :: r => if s.2 < n then upN n r + 1 else 0
def bhN (n : Int) : List (Int × Int) → Nat
 | [] => 0
 | s :: r => if n < s.1 then 0 else bhN n r + 1
theorem upN_is {n : Int} : ∀ {ss : List (Int × Int)} {k : Nat},k ≤ ss.length → (∀ t,t < k → (ss.getD t (0,0)).2 < n) → (k < ss.length → ¬ (ss.getD k (0,0)).2 < n) → upN n ss = k
 | [],k,h,_,_ => by simp at h;subst h;rfl
 | s :: r,0,_,_,h2 => by
   have:=h2 (by simp)
   simp at this
   rw [upN,if_neg (by omega)]
 | s :: r,k + 1,h0,h1,h2 => by
   have:=h1 0 (by omega)
   simp at this
   rw [upN,if_pos this,upN_is (k:=k) (by simpa using h0) (fun t ht => by have:=h1 (t + 1) (by omega);simpa using this) (fun ht => by have:=h2 (by simpa using ht);simpa using this)]
theorem bhN_is {n : Int} : ∀ {ss : List (Int × Int)} {k : Nat},k ≤ ss.length → (∀ t,t < k → ¬ n < (ss.getD t (0,0)).1) → (k < ss.length → n < (ss.getD k (0,0)).1) → bhN n ss = k
 | [],k,h,_,_ => by simp at h;subst h;rfl
 | s :: r,0,_,_,h2 => by
   have:=h2 (by simp)
   simp at this
   rw [bhN,if_pos (by omega)]
 | s :: r,k + 1,h0,h1,h2 => by
   have:=h1 0 (by omega)
   simp at this
   rw [bhN,if_neg (by omega),bhN_is (k:=k) (by simpa using h0) (fun t ht => by have:=h1 (t + 1) (by omega);simpa using this) (fun ht => by have:=h2 (by simpa using ht);simpa using this)]
theorem upN_le (n : Int) : ∀ ss : List (Int × Int),upN n ss ≤ ss.length
 | [] => Nat.le_refl _
 | s :: r => by rw [upN];have:=upN_le n r;split <;> simp <;> omega
theorem bhN_le (n : Int) : ∀ ss : List (Int × Int),bhN n ss ≤ ss.length
 | [] => Nat.le_refl _
 | s :: r => by rw [bhN];have:=bhN_le n r;split <;> simp <;> omega
theorem up_le_bh {f t : Int} (hft : f ≤ t + 1) : ∀ {ss : List (Int × Int)} {l : Int},riseB l ss = true → upN f ss ≤ bhN t ss
 | [],_,_ => Nat.le_refl _
 | s :: r,l,h => by
   rw [rise_cons] at h
   rw [upN,bhN]
   have:=up_le_bh hft h.2
   split
   ·rw [if_neg (by omega)];omega
   ·omega
theorem rise_get {ss : List (Int × Int)} : ∀ {l : Int} {i j : Nat},riseB l ss = true → i < j → j < ss.length → (ss.getD i (0,0)).2 + 2 ≤ (ss.getD j (0,0)).1:=by
 induction ss with
 | nil => intro l i j _ _ h;simp at h
 | cons s r ih =>
   intro l i j h hij hj
   rw [rise_cons] at h
   cases j with
   | zero => omega
   | succ j =>
     cases i with
     | zero =>
       have hj' : j < r.length:=by simpa using hj
       have:=rise_mem h.2 (r.getD j (0,0)) (by simp [List.getD,List.getElem?_eq_getElem hj'])
       simpa using this.1
     | succ i => simpa using ih h.2 (Nat.lt_of_succ_lt_succ hij) (by simpa using hj)
theorem rise_getD {ss : List (Int × Int)} {l : Int} (h : riseB l ss = true) {j : Nat} (hj : j < ss.length) : l ≤ (ss.getD j (0,0)).1 ∧ (ss.getD j (0,0)).1 ≤ (ss.getD j (0,0)).2 ∧ (ss.getD j (0,0)).2 ≤ 4611686018427387903 :=
 rise_mem h _ (by simp [List.getD,List.getElem?_eq_getElem hj])
def addR : List (Int × Int) → Int → Int → List (Int × Int)
 | [],f,t => [(f,t)]
 | s :: r,f,t => if s.2 < f - 1 then s :: addR r f t else if t < s.1 - 1 then (f,t) :: s :: r else addR r (min f s.1) (max t s.2)
theorem add_rise : ∀ {ss : List (Int × Int)} {l f t : Int},riseB l ss = true → l ≤ f → f ≤ t → t ≤ 4611686018427387903 → riseB l (addR ss f t) = true
 | [],l,f,t,_,h1,h2,h3 => by rw [addR,rise_cons];exact ⟨⟨h1,h2,h3⟩,rfl⟩
 | s :: r,l,f,t,h,h1,h2,h3 => by
   rw [rise_cons] at h
   rw [addR]
   split
   ·rw [rise_cons];exact ⟨h.1,add_rise h.2 (by omega) h2 h3⟩
   ·split
    ·rw [rise_cons,rise_cons];exact ⟨⟨h1,h2,h3⟩,⟨by simp only;omega,h.1.2⟩,h.2⟩
    ·exact add_rise (rise_mono h.2 (by omega)) (by omega) (by omega) (by omega)
def wholeP (ss : List (Int × Int)) (f t : Int) (b e : Nat) : Int × Int:=if b < e then (min f (ss.getD b (0,0)).1,max t (ss.getD (e - 1) (0,0)).2) else (f,t)
def addP (ss : List (Int × Int)) (f t : Int) : List (Int × Int) :=
 ss.take (upN (f - 1) ss) ++ (wholeP ss f t (upN (f - 1) ss) (bhN (t + 1) ss) :: ss.drop (bhN (t + 1) ss))
theorem bh_max {t y : Int} : ∀ {r : List (Int × Int)},riseB (y + 2) r = true → bhN (max t y + 1) r = bhN (t + 1) r
 | [],_ => rfl
 | s :: r,h => by
   rw [rise_cons] at h
   rw [bhN,bhN,bh_max (rise_mono h.2 (by omega))]
   by_cases c : t + 1 < s.1
   ·rw [if_pos c,if_pos (by omega)]
   ·rw [if_neg c,if_neg (by omega)]
theorem add_touch : ∀ {r : List (Int × Int)} {y f t : Int},riseB (y + 2) r = true → f ≤ y + 1 → y ≤ t →
  addR r f t = (f,if 0 < bhN (t + 1) r then max t (r.getD (bhN (t + 1) r - 1) (0,0)).2 else t) :: r.drop (bhN (t + 1) r)
 | [],y,f,t,_,_,_ => rfl
 | s :: r,y,f,t,h,h1,h2 => by
   rw [rise_cons] at h
   rw [addR,if_neg (by omega)]
   by_cases c : t + 1 < s.1
   ·rw [if_pos (by omega),bhN,if_pos c];simp
   ·rw [if_neg (by omega),bhN,if_neg c,add_touch (y:=s.2) h.2 (by omega) (by omega),bh_max h.2]
    rw [if_pos (Nat.succ_pos (bhN (t + 1) r)),List.drop_succ_cons,Nat.add_sub_cancel,show min f s.1 = f by omega]
    congr 2
    by_cases d : 0 < bhN (t + 1) r
    ·rw [if_pos d]
     obtain ⟨k,hk⟩ : ∃ k,bhN (t + 1) r = k + 1:=⟨bhN (t + 1) r - 1,by omega⟩
     rw [hk,Nat.add_sub_cancel]
     have:=rise_getD h.2 (j:=k) (by have:=bhN_le (t + 1) r;omega)
     simp only [List.getD_cons_succ]
     omega
    ·rw [if_neg d,show bhN (t + 1) r = 0 by omega]
     simp
theorem addP_eq {f t : Int} (hft : f ≤ t) : ∀ {ss : List (Int × Int)} {l : Int},riseB l ss = true → addP ss f t = addR ss f t
 | [],_,_ => by simp [addP,addR,upN,bhN,wholeP]
 | s :: r,l,h => by
   rw [rise_cons] at h
   have ih:=addP_eq hft h.2
   by_cases c : s.2 < f - 1
   ·rw [addR,if_pos c,← ih]
    unfold addP
    rw [upN,if_pos c,bhN,if_neg (by omega),List.take_succ_cons,List.drop_succ_cons,List.cons_append]
    congr 3
    unfold wholeP
    by_cases d : upN (f - 1) r < bhN (t + 1) r
    ·rw [if_pos d,if_pos (by omega)]
     obtain ⟨k,hk⟩ : ∃ k,bhN (t + 1) r = k + 1:=⟨bhN (t + 1) r - 1,by omega⟩
     rw [hk];simp
    ·rw [if_neg d,if_neg (by omega)]
   ·rw [addR,if_neg c]
    by_cases d : t < s.1 - 1
    ·rw [if_pos d]
     unfold addP
     rw [upN,if_neg c,bhN,if_pos (by omega)]
     simp [wholeP]
    ·rw [if_neg d,add_touch (y:=s.2) h.2 (by omega) (by omega),bh_max h.2]
     unfold addP
     rw [upN,if_neg c,bhN,if_neg (by omega),List.drop_succ_cons,List.take_zero,List.nil_append]
     unfold wholeP
     rw [if_pos (by omega),Nat.add_sub_cancel]
     congr 2
     by_cases q : 0 < bhN (t + 1) r
     ·rw [if_pos q]
      obtain ⟨k,hk⟩ : ∃ k,bhN (t + 1) r = k + 1:=⟨bhN (t + 1) r - 1,by omega⟩
      rw [hk,Nat.add_sub_cancel]
      have:=rise_getD h.2 (j:=k) (by have:=bhN_le (t + 1) r;omega)
      simp only [List.getD_cons_succ]
      omega
     ·rw [if_neg q,show bhN (t + 1) r = 0 by omega]
      simp
end Go.Proofs.YtmcomdmcmnbhlaaGreatDoor
namespace Go.Proofs.YtmcomdmcmnbhlaaGreatDoor
open Go.RowKit
theorem may_any5 (x y : Int) (w : World) :
  Calls Tryz.prog 164 #[.agg #[.int .i64 x,.int .i64 y]] w fun e w' => e = .returned (.bool (spanB x y)) ∧ Below w.heap.size w w':=by
 by_cases h1 : 0 ≤ x
 ·have e1 : decide (0 ≤ x) = true:=qdt h1
  by_cases h2 : x ≤ y
  ·have e2 : decide (x ≤ y) = true:=qdt h2
   have e3 : spanB x y = decide (y ≤ 4611686018427387903):=by simp [spanB,h1,h2]
   rw [e3]
   clear h1 h2 e3
   go_enter Tryz.func164,Tryz.ntmps164
   go_wp2
   go_ret
   exact ⟨rfl,(qbr _ _).alloc (qlr _) _⟩
  ·have e2 : decide (x ≤ y) = false:=qdf h2
   have e3 : spanB x y = false:=by simp [spanB,h2]
   rw [e3]
   clear h1 h2 e3
   go_enter Tryz.func164,Tryz.ntmps164
   go_wp2
   go_ret
   exact ⟨rfl,(qbr _ _).alloc (qlr _) _⟩
 ·have e1 : decide (0 ≤ x) = false:=qdf h1
  have e3 : spanB x y = false:=by simp [spanB,h1]
  rw [e3]
  clear h1 e3
  go_enter Tryz.func164,Tryz.ntmps164
  go_wp2
  go_ret
  exact ⟨rfl,(qbr _ _).alloc (qlr _) _⟩
theorem may_b (x y : Int) (b : Bool) (w : World) (hb : spanB x y = b) : Calls Tryz.prog 164 #[.agg #[.int .i64 x,.int .i64 y]] w fun e w' => e = .returned (.bool b) ∧ Below w.heap.size w w':=hb ▸ may_any5 x y w
theorem right_any5 (v : Value) (ss : List (Int × Int)) (w : World) (hr : RdS w v ss) :
  Calls Tryz.prog 124 #[v] w fun e w' => e = .returned (.bool (rightB5 ss)) ∧ Below w.heap.size w w':=by
 by_cases h2 : 256 < ss.length
 ·obtain ⟨va,vc,rfl,_,_⟩:=hr.isSlice
  have e : rightB5 ss = false:=by simp [rightB5];omega
  have t2 : decide (256 < (ss.length : Int)) = true:=qdt (by omega)
  rw [e]
  clear hr h2 e
  go_enter Tryz.func124,Tryz.ntmps124
  go_wp2
  go_ret
  exact ⟨rfl,qbr _ _⟩
 by_cases h0 : ss = []
 ·subst h0
  obtain ⟨va,vc,rfl,_,_⟩:=hr.isSlice
  clear hr h2
  go_enter Tryz.func124,Tryz.ntmps124
  go_wp2_with fail
  refine wp_loop_rounds 1 ?_
  rw [rounds_succ]
  go_wp2
  go_ret
  exact ⟨rfl,qbr _ _⟩
 have e : rightB5 ss = riseB 0 ss:=by simp [rightB5,show ss.length ≤ 256 by omega]
 rw [e]
 obtain ⟨b,o,c,rfl,hb⟩:=hr.form h0
 have HR:=qhi hr
 have t2 : decide (256 < (ss.length : Int)) = false:=qdf (by omega)
 have hl32 : ss.length ≤ 256:=by omega
 clear hr h2 e h0
 go_enter Tryz.func124,Tryz.ntmps124
 go_wp2_with fail
 go_loopw [10] (fun i wr => ∃ (k : Nat) (least : Int),i = .int .i64 k ∧ (k = 0 ∧ least = 0 ∨ 0 < k ∧ 0 ≤ (ss.getD (k - 1) (0,0)).2 ∧ (ss.getD (k - 1) (0,0)).2 ≤ 4611686018427387903 ∧ least = (ss.getD (k - 1) (0,0)).2 + 2) ∧ k ≤ ss.length ∧ riseB least (ss.drop k) = riseB 0 ss ∧ Below w.heap.size w wr) (fun i _ => ss.length - (intOf i).toNat)
 case atStart => exact ⟨0,0,rfl,.inl ⟨rfl,rfl⟩,Nat.zero_le _,rfl,qbr _ _⟩
 case round =>
  obtain ⟨k,least,rfl,hl0,hk,hris,hbel⟩:=hrel
  have HRis:=qhi hris
  have hz:=hbel.size
  by_cases hlt : k < ss.length
  ·obtain ⟨q0,q1⟩:=(HR.out.below hbel).cells rfl k hlt
   have hd : ss.drop k = ss.getD k (0,0) :: ss.drop (k + 1):=by rw [List.drop_eq_getElem_cons hlt];simp [List.getD,hlt]
   have HPc : Hid (0 < k → wr.cell? ⟨b,o + (k - 1) * 2 + 1,none⟩ = some (.int .i64 (ss.getD (k - 1) (0,0)).2)):=fun h => ((HR.out.below hbel).cells rfl (k - 1) (by omega)).2
   obtain ⟨⟨x,y⟩,hs⟩ : ∃ s,s = ss.getD k (0,0):=⟨_,rfl⟩
   have HSk:=qhi hs
   rw [← hs] at q0 q1 hd
   simp only at q0 q1
   have HD:=qhi hd
   have hi1 : (k : Int) < (ss.length : Int):=by omega
   have hi2 : (0 : Int) ≤ (k : Int):=by omega
   have hw1 : IntKind.i64.wrap ((k : Int) + 1) = (k : Int) + 1:=wraps_i64' _ (by omega) (by omega)
   have bA : Below w.heap.size w (wr.alloc (.cells #[.int .i64 x,.int .i64 y] 151)):=hbel.alloc hz _
   clear hd hs hris
   cases hm : spanB x y
   ·have HE : Hid (riseB 0 ss = false):=by
     show _ = _;rw [← HRis.out,HD.out,riseB,Bool.and_eq_false_iff]
     left
     have : ¬ (0 ≤ x ∧ x ≤ y ∧ y ≤ 4611686018427387903):=by simpa [spanB] using hm
     rw [decide_eq_false_iff_not];simp only;omega
    have HM:=qhi hm
    clear hm hl0
    go_wp2_with (go_at_call 164;refine (may_b x y false _ HM.out).mono ?_;rintro e w2 ⟨rfl,hb2⟩)
    go_ret
    rw [HE.out]
    exact ⟨rfl,bA.trans (hb2.mono (by simp;omega))⟩
   ·have hx : 0 ≤ x ∧ x ≤ y ∧ y ≤ 4611686018427387903:=by simpa [spanB] using hm
    have HM:=qhi hm
    have HY : Hid (0 ≤ (ss.getD k (0,0)).2 ∧ (ss.getD k (0,0)).2 ≤ 4611686018427387903 ∧ y + 2 = (ss.getD k (0,0)).2 + 2):=by rw [← HSk.out];exact ⟨by omega,hx.2.2,rfl⟩
    clear hm
    by_cases hk0 : k = 0
    ·have e2 : decide (0 < (k : Int)) = false:=qdf (by omega)
     have e2' : decide (0 < k) = false:=qdf (by omega)
     have HE : Hid (riseB (y + 2) (ss.drop (k + 1)) = riseB 0 ss):=by
      show _ = _;rw [← HRis.out,HD.out,riseB,qdt (by simp only;omega),Bool.true_and]
     clear hl0 hk0
     go_wp2_with (go_at_call 164;refine (may_b x y true _ HM.out).mono ?_;rintro e w2 ⟨rfl,hb2⟩)
     have bD : ∀ n,Below w.heap.size w (w2.drewN n):=fun n => qbd (bA.trans (hb2.mono (by simp;omega))) n
     go_quiet (fail)
     go_wp2
     exact ⟨⟨k + 1,y + 2,by go_num,.inr ⟨by omega,HY.out.1,HY.out.2.1,HY.out.2.2⟩,by omega,HE.out,bD _⟩,by simp [intOf,hw1];omega⟩
    ·have e2 : decide (0 < (k : Int)) = true:=qdt (by omega)
     have e2' : decide (0 < k) = true:=qdt (by omega)
     have HPc':=HPc.out (by omega)
     generalize hp : (ss.getD (k - 1) (0,0)).2 = pv at hl0 HPc'
     have HPd:=qhi HPc'
     have hpv : 0 ≤ pv ∧ pv ≤ 4611686018427387903 ∧ least = pv + 2:=by omega
     have hw2 : IntKind.i64.wrap (x - pv) = x - pv:=by rw [IntKind.wrap_i64];omega
     have hw3 : IntKind.i64.wrap ((k : Int) - 1) = (k : Int) - 1:=wraps_i64' _ (by omega) (by omega)
     have hi3 : (0 : Int) ≤ (k : Int) - 1:=by omega
     have hi4 : (k : Int) - 1 < (ss.length : Int):=by omega
     have hi5 : ((k : Int) - 1).toNat = k - 1:=by omega
     have hbw : b < wr.heap.size:=by omega
     clear hl0 hp HPc'
     by_cases hle : x - pv < 2
     ·have e3 : decide (x - pv < 2) = true:=qdt hle
      have HE : Hid (riseB 0 ss = false):=by
       show _ = _;rw [← HRis.out,HD.out,riseB,qdf (by simp only;omega),Bool.false_and]
      clear hle hpv
      go_wp2_with (go_at_call 164;refine (may_b x y true _ HM.out).mono ?_;rintro e w2 ⟨rfl,hb2⟩)
      have bD : ∀ n,Below w.heap.size w (w2.drewN n):=fun n => qbd (bA.trans (hb2.mono (by simp;omega))) n
      have c0 : w2.cell? ⟨wr.heap.size,0,none⟩ = some (.int .i64 x):=(hb2.cell (p:=⟨wr.heap.size,0,none⟩) (by simp)).trans (by rw [World.cell?_alloc_at _ _ _ _ rfl];rfl)
      have c2 : w2.cell? ⟨b,o + (k - 1) * 2 + 1,none⟩ = some (.int .i64 pv):=(hb2.cell (p:=⟨b,o + (k - 1) * 2 + 1,none⟩) (by simp;omega)).trans ((Below.cell ((qbr wr.heap.size wr).alloc (qlr _) _) (p:=⟨b,o + (k - 1) * 2 + 1,none⟩) hbw).trans HPd.out)
      have d0 : w2.drew.cell? ⟨wr.heap.size,0,none⟩ = some (.int .i64 x):=c0
      have d2 : w2.drew.cell? ⟨b,o + (k - 1) * 2 + 1,none⟩ = some (.int .i64 pv):=c2
      go_quiet (fail)
      go_wp2
      go_ret
      rw [HE.out]
      exact ⟨rfl,bD _⟩
     ·have e3 : decide (x - pv < 2) = false:=qdf hle
      have HE : Hid (riseB (y + 2) (ss.drop (k + 1)) = riseB 0 ss):=by
       show _ = _;rw [← HRis.out,HD.out,riseB,qdt (by simp only;omega),Bool.true_and]
      clear hle hpv
      go_wp2_with (go_at_call 164;refine (may_b x y true _ HM.out).mono ?_;rintro e w2 ⟨rfl,hb2⟩)
      have bD : ∀ n,Below w.heap.size w (w2.drewN n):=fun n => qbd (bA.trans (hb2.mono (by simp;omega))) n
      have c0 : w2.cell? ⟨wr.heap.size,0,none⟩ = some (.int .i64 x):=(hb2.cell (p:=⟨wr.heap.size,0,none⟩) (by simp)).trans (by rw [World.cell?_alloc_at _ _ _ _ rfl];rfl)
      have c2 : w2.cell? ⟨b,o + (k - 1) * 2 + 1,none⟩ = some (.int .i64 pv):=(hb2.cell (p:=⟨b,o + (k - 1) * 2 + 1,none⟩) (by simp;omega)).trans ((Below.cell ((qbr wr.heap.size wr).alloc (qlr _) _) (p:=⟨b,o + (k - 1) * 2 + 1,none⟩) hbw).trans HPd.out)
      have d0 : w2.drew.cell? ⟨wr.heap.size,0,none⟩ = some (.int .i64 x):=c0
      have d2 : w2.drew.cell? ⟨b,o + (k - 1) * 2 + 1,none⟩ = some (.int .i64 pv):=c2
      go_quiet (fail)
      go_wp2
      exact ⟨⟨k + 1,y + 2,by go_num,.inr ⟨by omega,HY.out.1,HY.out.2.1,HY.out.2.2⟩,by omega,HE.out,bD _⟩,by simp [intOf,hw1];omega⟩
  ·have HE : Hid (riseB 0 ss = true):=by
    show _ = _
    rw [← HRis.out,show k = ss.length by omega,List.drop_length];rfl
   have hk2 : k = ss.length:=by omega
   clear hl0
   go_wp2
   go_ret
   rw [HE.out]
   exact ⟨rfl,hbel⟩
def SrchIs (n : Nat) (p : Nat → Bool) (w : World) (e : Ending) (w' : World) : Prop:=∃ k : Nat,e = .returned (.int .i64 k) ∧ k ≤ n ∧ (∀ t,t < k → p t = false) ∧ (∀ t,k ≤ t → t < n → p t = true) ∧ Below w.heap.size w w'
theorem search_any (g : Nat) (cb : Array Value) (n : Nat) (p : Nat → Bool) (w : World) (eg : ∀ args w,(callFunc g args).run Tryz.prog w = .ok (.enter g args) w) (hsz : n < 4611686018427387904)
  (hf : ∀ (W : World) (i : Nat),i < n → Below w.heap.size w W → Calls Tryz.prog g (#[.int .i64 i] ++ cb) W fun e w' => e = .returned (.bool (p i)) ∧ Below W.heap.size W w')
  (hmono : ∀ a b,a ≤ b → b < n → p a = true → p b = true) :
  Calls Tryz.prog 122 #[.int .i64 n,.func (.func g) #[] cb] w (SrchIs n p w):=by
 have HF:=qhi hf
 have M:=qhi hmono
 clear hf hmono
 go_enter Tryz.func122,Tryz.ntmps122
 go_wp2_with fail
 go_loopw [5,6] (fun s5 s6 wr => ∃ (lo hi : Nat),s5 = .int .i64 lo ∧ s6 = .int .i64 hi ∧ lo ≤ hi ∧ hi ≤ n ∧ Hid ((∀ t,t < lo → p t = false) ∧ (∀ t,hi ≤ t → t < n → p t = true)) ∧ Below w.heap.size w wr) (fun s5 s6 _ => (intOf s6).toNat - (intOf s5).toNat)
 case atStart => exact ⟨0,n,rfl,rfl,Nat.zero_le _,qlr _,(⟨fun t ht => absurd ht (Nat.not_lt_zero _),fun t h1 h2 => by omega⟩ : (∀ t,t < 0 → p t = false) ∧ (∀ t,n ≤ t → t < n → p t = true)),qbr _ _⟩
 case round =>
  obtain ⟨lo,hi,rfl,rfl,hlh,hin,I,hbel⟩:=hrel
  by_cases hlt : lo < hi
  ·have hc:=HF.out wr ((lo + hi) / 2) (by omega) hbel
   rw [show (((lo + hi) / 2 : Nat) : Int) = ((lo : Int) + (hi : Int)) / 2 by omega] at hc
   have HB:=qhi hbel
   cases hp : p ((lo + hi) / 2) <;> rw [hp] at hc
   ·have HP:=qhi hp
    have HC:=qhi hc
    clear hp hbel hc
    go_wp2_with (go_at_fn g;refine HC.out.mono ?_;rintro e w' ⟨rfl,hb2⟩)
    refine ⟨⟨(lo + hi) / 2 + 1,hi,by rw [show ((lo : Int) + (hi : Int)) / 2 + 1 = (((lo + hi) / 2 + 1 : Nat) : Int) by omega],rfl,by omega,hin,?_,HB.out.trans (hb2.mono HB.out.size)⟩,by simp [intOf];omega⟩
    exact ⟨fun t ht => (by
      cases h : p t with
      | false => rfl
      | true => have:=M.out t ((lo + hi) / 2) (by omega) (by omega) h;rw [HP.out] at this;cases this),I.out.2⟩
   ·have HP:=qhi hp
    have HC:=qhi hc
    clear hp hbel hc
    go_wp2_with (go_at_fn g;refine HC.out.mono ?_;rintro e w' ⟨rfl,hb2⟩)
    refine ⟨⟨lo,(lo + hi) / 2,rfl,by rw [show ((lo : Int) + (hi : Int)) / 2 = (((lo + hi) / 2 : Nat) : Int) by omega],by omega,by omega,?_,HB.out.trans (hb2.mono HB.out.size)⟩,by simp [intOf];omega⟩
    exact ⟨I.out.1,fun t ht htn => M.out ((lo + hi) / 2) t ht htn HP.out⟩
  ·obtain rfl : hi = lo:=by omega
   go_wp2
   go_ret
   exact ⟨hi,rfl,hin,I.out.1,I.out.2,hbel⟩
theorem upcl_any (x y n : Int) (bn : Nat) (w : World) (hb : bn < w.heap.size) (hn : w.cell? ⟨bn,0,none⟩ = some (.int .i64 n)) :
  Calls Tryz.prog 166 #[.agg #[.int .i64 x,.int .i64 y],.pointer (some ⟨bn,0,none⟩)] w fun e w' => e = .returned (.bool (!decide (y < n))) ∧ Below w.heap.size w w':=by
 have hn' : (w.alloc (.cells #[.int .i64 x,.int .i64 y] 151)).cell? ⟨bn,0,none⟩ = some (.int .i64 n):=(Below.cell ((qbr w.heap.size w).alloc (qlr _) _) (p:=⟨bn,0,none⟩) hb).trans hn
 clear hn
 go_enter Tryz.func166,Tryz.ntmps166
 go_wp2
 go_ret
 exact ⟨ret_bool (by rw [Bool.eq_iff_iff];simp),(qbr _ _).alloc (qlr _) _⟩
theorem bhcl_any (x y n : Int) (bn : Nat) (w : World) (hb : bn < w.heap.size) (hn : w.cell? ⟨bn,0,none⟩ = some (.int .i64 n)) :
  Calls Tryz.prog 207 #[.agg #[.int .i64 x,.int .i64 y],.pointer (some ⟨bn,0,none⟩)] w fun e w' => e = .returned (.bool (decide (n < x))) ∧ Below w.heap.size w w':=by
 have hn' : (w.alloc (.cells #[.int .i64 x,.int .i64 y] 151)).cell? ⟨bn,0,none⟩ = some (.int .i64 n):=(Below.cell ((qbr w.heap.size w).alloc (qlr _) _) (p:=⟨bn,0,none⟩) hb).trans hn
 clear hn
 go_enter Tryz.func207,Tryz.ntmps207
 go_wp2
 go_ret
 exact ⟨rfl,(qbr _ _).alloc (qlr _) _⟩
theorem fcl_any (g : Nat) (cb : Array Value) (bf bl b o c m i : Nat) (x y : Int) (r : Bool) (w : World) (eg : ∀ args w,(callFunc g args).run Tryz.prog w = .ok (.enter g args) w) (him : i < m) (hm : m < 4611686018427387904)
  (hf : w.cell? ⟨bf,0,none⟩ = some (.func (.func g) #[] cb)) (hl : w.cell? ⟨bl,0,none⟩ = some (.slice (some ⟨b,o,none⟩) m c))
  (q0 : w.cell? ⟨b,o + i * 2,none⟩ = some (.int .i64 x)) (q1 : w.cell? ⟨b,o + i * 2 + 1,none⟩ = some (.int .i64 y))
  (hc : ∀ W : World,Below w.heap.size w W → Calls Tryz.prog g (#[.agg #[.int .i64 x,.int .i64 y]] ++ cb) W fun e w' => e = .returned (.bool r) ∧ Below W.heap.size W w') :
  Calls Tryz.prog 206 #[.int .i64 i,.pointer (some ⟨bf,0,none⟩),.pointer (some ⟨bl,0,none⟩)] w fun e w' => e = .returned (.bool r) ∧ Below w.heap.size w w':=by
 have HC:=qhi hc
 have hi1 : (i : Int) < (m : Int):=by omega
 have hi2 : (0 : Int) ≤ (i : Int):=by omega
 clear hc
 go_enter Tryz.func206,Tryz.ntmps206
 go_wp2_with fail
 go_still_tail 5,(by kernel_rfl)
 change wpList _ _ _ _ _ w.drew
 have HC':=qhi (HC.out w.drew (qbd (qbr _ w) 1))
 clear HC hf hl q0 q1
 have B1 : Hid (Below w.heap.size w w.drew):=qbd (qbr _ w) 1
 generalize hW : w.drew = W at HC' B1 ⊢
 clear hW
 go_wp2_with (go_at_fn g;refine HC'.out.mono ?_;rintro e w2 ⟨rfl,hb2⟩)
 go_ret
 exact ⟨rfl,B1.out.trans (hb2.mono B1.out.size)⟩
def FirstIs (ss : List (Int × Int)) (q : Int × Int → Bool) (w : World) (e : Ending) (w' : World) : Prop:=∃ k : Nat,e = .returned (.int .i64 k) ∧ k ≤ ss.length ∧ (∀ t,t < k → q (ss.getD t (0,0)) = false) ∧ (∀ t,k ≤ t → t < ss.length → q (ss.getD t (0,0)) = true) ∧ Below w.heap.size w w'
theorem first_any (g : Nat) (cb : Array Value) (v : Value) (ss : List (Int × Int)) (q : Int × Int → Bool) (w : World) (eg : ∀ args w,(callFunc g args).run Tryz.prog w = .ok (.enter g args) w)
  (hr : RdS w v ss) (hm : ss.length < 4611686018427387904) (hmono : ∀ a b,a ≤ b → b < ss.length → q (ss.getD a (0,0)) = true → q (ss.getD b (0,0)) = true)
  (hc : ∀ (W : World) (x y : Int),Below w.heap.size w W → Calls Tryz.prog g (#[.agg #[.int .i64 x,.int .i64 y]] ++ cb) W fun e w' => e = .returned (.bool (q (x,y))) ∧ Below W.heap.size W w') :
  Calls Tryz.prog 165 #[v,.func (.func g) #[] cb] w (FirstIs ss q w):=by
 by_cases h0 : ss = []
 ·subst h0
  obtain ⟨va,vc,rfl,_,_⟩:=hr.isSlice
  have BA : Hid (Below w.heap.size w ((w.alloc (.cells #[.slice va ([] : List (Int × Int)).length vc] 63)).alloc (.cells #[.func (.func g) #[] cb] 230))):=((qbr _ w).alloc (qlr _) _).alloc (by simp) _
  have hs:=search_any 206 #[.pointer (some ⟨w.heap.size + 1,0,none⟩),.pointer (some ⟨w.heap.size,0,none⟩)] 0 (fun _ => true) ((w.alloc (.cells #[.slice va ([] : List (Int × Int)).length vc] 63)).alloc (.cells #[.func (.func g) #[] cb] 230)) (enters_of Tryz.func206 (by kernel_rfl) rfl) (by omega) (fun W i hi => by omega) (fun a b h1 h2 => by omega)
  have HS:=qhi hs
  clear hs hr hc hmono hm
  go_enter Tryz.func165,Tryz.ntmps165
  go_wp2_with (go_at_call 122;refine HS.out.mono ?_;rintro e w2 ⟨k,rfl,h1,_,_,hb2⟩)
  go_ret
  exact ⟨k,rfl,h1,fun t ht => by omega,fun t _ ht => by simp at ht,BA.out.trans (hb2.mono BA.out.size)⟩
 obtain ⟨b,o,c,rfl,hb⟩:=hr.form h0
 have BA : Hid (Below w.heap.size w ((w.alloc (.cells #[.slice (some ⟨b,o,none⟩) ss.length c] 63)).alloc (.cells #[.func (.func g) #[] cb] 230))):=((qbr _ w).alloc (qlr _) _).alloc (by simp) _
 have ca : ((w.alloc (.cells #[.slice (some ⟨b,o,none⟩) ss.length c] 63)).alloc (.cells #[.func (.func g) #[] cb] 230)).cell? ⟨w.heap.size,0,none⟩ = some (.slice (some ⟨b,o,none⟩) ss.length c) :=
  (Below.cell ((qbr (w.heap.size + 1) (w.alloc (.cells #[.slice (some ⟨b,o,none⟩) ss.length c] 63))).alloc (by simp) _) (p:=⟨w.heap.size,0,none⟩) (by simp)).trans (by rw [World.cell?_alloc_at _ _ _ _ rfl];rfl)
 have cf : ((w.alloc (.cells #[.slice (some ⟨b,o,none⟩) ss.length c] 63)).alloc (.cells #[.func (.func g) #[] cb] 230)).cell? ⟨w.heap.size + 1,0,none⟩ = some (.func (.func g) #[] cb):=by
  rw [World.cell?_alloc_at _ _ _ _ (by simp)];rfl
 have hz : ((w.alloc (.cells #[.slice (some ⟨b,o,none⟩) ss.length c] 63)).alloc (.cells #[.func (.func g) #[] cb] 230)).heap.size = w.heap.size + 2:=by simp
 have hs:=search_any 206 #[.pointer (some ⟨w.heap.size + 1,0,none⟩),.pointer (some ⟨w.heap.size,0,none⟩)] ss.length (fun i => q (ss.getD i (0,0))) ((w.alloc (.cells #[.slice (some ⟨b,o,none⟩) ss.length c] 63)).alloc (.cells #[.func (.func g) #[] cb] 230)) (enters_of Tryz.func206 (by kernel_rfl) rfl) hm
  (fun W i hi hbW => by
   have hB : Below w.heap.size w W:=BA.out.trans (hbW.mono BA.out.size)
   obtain ⟨q0,q1⟩:=(hr.below hB).cells rfl i hi
   exact fcl_any g cb (w.heap.size + 1) w.heap.size b o c ss.length i _ _ _ W eg hi hm ((hbW.cell (p:=⟨w.heap.size + 1,0,none⟩) (by rw [hz];exact Nat.lt_succ_self _)).trans cf) ((hbW.cell (p:=⟨w.heap.size,0,none⟩) (by rw [hz];exact Nat.lt_succ_of_lt (Nat.lt_succ_self _))).trans ca) q0 q1
    fun W2 hb2 => hc W2 _ _ (hB.trans (hb2.mono hB.size)))
  hmono
 have HS:=qhi hs
 clear hs hr hc hmono hm ca cf hz
 go_enter Tryz.func165,Tryz.ntmps165
 go_wp2_with (go_at_call 122;refine HS.out.mono ?_;rintro e w2 ⟨k,rfl,h1,h2,h3,hb2⟩)
 go_ret
 exact ⟨k,rfl,h1,h2,h3,BA.out.trans (hb2.mono BA.out.size)⟩
theorem upTo_any (v : Value) (ss : List (Int × Int)) (n : Int) (w : World) (hr : RdS w v ss) (hm : rightB5 ss = true) :
  Calls Tryz.prog 125 #[v,.int .i64 n] w fun e w' => e = .returned (.int .i64 (upN n ss)) ∧ Below w.heap.size w w':=by
 have hR : riseB 0 ss = true ∧ ss.length ≤ 256:=by simpa [rightB5,and_comm] using hm
 have BA : Hid (Below w.heap.size w (w.alloc (.cells #[.int .i64 n] 3))):=(qbr _ w).alloc (qlr _) _
 have hz : (w.alloc (.cells #[.int .i64 n] 3)).heap.size = w.heap.size + 1:=by simp
 have cn : (w.alloc (.cells #[.int .i64 n] 3)).cell? ⟨w.heap.size,0,none⟩ = some (.int .i64 n):=by rw [World.cell?_alloc_at _ _ _ _ rfl];rfl
 have hs:=first_any 166 #[.pointer (some ⟨w.heap.size,0,none⟩)] v ss (fun s => !decide (s.2 < n)) (w.alloc (.cells #[.int .i64 n] 3)) (enters_of Tryz.func166 (by kernel_rfl) rfl) (hr.below BA.out) (by omega)
  (fun a b hab hbl h => by
   rcases Nat.lt_or_eq_of_le hab with h1 | rfl
   ·have h2:=rise_get hR.1 h1 hbl
    have h3:=rise_getD hR.1 hbl
    simp only [Bool.not_eq_true',decide_eq_false_iff_not,decide_eq_true_eq] at h ⊢;omega
   ·exact h)
  (fun W x y hW => upcl_any x y n w.heap.size W (by have:=hW.size;omega) ((hW.cell (p:=⟨w.heap.size,0,none⟩) (by rw [hz];exact Nat.lt_succ_self _)).trans cn))
 have HS:=qhi hs
 clear hs hr hm cn hz hR
 go_enter Tryz.func125,Tryz.ntmps125
 go_wp2_with (go_at_call 165;refine HS.out.mono ?_;rintro e w2 ⟨k,rfl,h1,h2,h3,hb2⟩)
 go_ret
 have e1 : upN n ss = k:=upN_is h1 (fun t ht => by simpa using h2 t ht) (fun ht => by simpa using h3 k (qlr _) ht)
 rw [e1]
 exact ⟨rfl,BA.out.trans (hb2.mono BA.out.size)⟩
theorem behind_any (v : Value) (ss : List (Int × Int)) (n : Int) (w : World) (hr : RdS w v ss) (hm : rightB5 ss = true) :
  Calls Tryz.prog 169 #[v,.int .i64 n] w fun e w' => e = .returned (.int .i64 (bhN n ss)) ∧ Below w.heap.size w w':=by
 have hR : riseB 0 ss = true ∧ ss.length ≤ 256:=by simpa [rightB5,and_comm] using hm
 have BA : Hid (Below w.heap.size w (w.alloc (.cells #[.int .i64 n] 3))):=(qbr _ w).alloc (qlr _) _
 have hz : (w.alloc (.cells #[.int .i64 n] 3)).heap.size = w.heap.size + 1:=by simp
 have cn : (w.alloc (.cells #[.int .i64 n] 3)).cell? ⟨w.heap.size,0,none⟩ = some (.int .i64 n):=by rw [World.cell?_alloc_at _ _ _ _ rfl];rfl
 have hs:=first_any 207 #[.pointer (some ⟨w.heap.size,0,none⟩)] v ss (fun s => decide (n < s.1)) (w.alloc (.cells #[.int .i64 n] 3)) (enters_of Tryz.func207 (by kernel_rfl) rfl) (hr.below BA.out) (by omega)
  (fun a b hab hbl h => by
   rcases Nat.lt_or_eq_of_le hab with h1 | rfl
   ·have h2:=rise_get hR.1 h1 hbl
    have h3:=rise_getD hR.1 (Nat.lt_trans h1 hbl)
    simp only [Bool.not_eq_true',decide_eq_false_iff_not,decide_eq_true_eq] at h ⊢;omega
   ·exact h)
  (fun W x y hW => bhcl_any x y n w.heap.size W (by have:=hW.size;omega) ((hW.cell (p:=⟨w.heap.size,0,none⟩) (by rw [hz];exact Nat.lt_succ_self _)).trans cn))
 have HS:=qhi hs
 clear hs hr hm cn hz hR
 go_enter Tryz.func169,Tryz.ntmps169
 go_wp2_with (go_at_call 165;refine HS.out.mono ?_;rintro e w2 ⟨k,rfl,h1,h2,h3,hb2⟩)
 go_ret
 have e1 : bhN n ss = k:=bhN_is h1 (fun t ht => by simpa using h2 t ht) (fun ht => by simpa using h3 k (qlr _) ht)
 rw [e1]
 exact ⟨rfl,BA.out.trans (hb2.mono BA.out.size)⟩
theorem has_eq {n : Int} : ∀ {ss : List (Int × Int)} {l : Int},riseB l ss = true → inB5 n ss = (decide (upN n ss < ss.length) && decide ((ss.getD (upN n ss) (0,0)).1 ≤ n))
 | [],_,_ => rfl
 | s :: r,l,h => by
   rw [rise_cons] at h
   have ih:=has_eq (n:=n) h.2
   by_cases c : s.2 < n
   ·rw [inB5,upN,if_pos c,ih,List.getD_cons_succ,List.length_cons]
    rw [qdf (by omega),Bool.false_or]
    congr 1
    rw [decide_eq_decide];omega
   ·rw [inB5,upN,if_neg c]
    have : inB5 n r = false:=by
     cases q : inB5 n r with
     | false => rfl
     | true => have:=in_rise h.2 q;omega
    rw [this,Bool.eq_iff_iff]
    simp;omega
theorem has_any (v : Value) (ss : List (Int × Int)) (n : Int) (w : World) (hr : RdS w v ss) :
  Calls Tryz.prog 78 #[v,.int .i64 n] w fun e w' => e = .returned (.bool (rightB5 ss && inB5 n ss)) ∧ Below w.heap.size w w':=by
 have HRt:=right_any5 v ss w hr
 cases h : rightB5 ss <;> rw [h] at HRt
 ·obtain ⟨va,vc,rfl,_,_⟩:=hr.isSlice
  have HRt':=qhi HRt
  clear HRt hr h
  go_enter Tryz.func78,Tryz.ntmps78
  go_wp2_with (go_at_call 124;refine HRt'.out.mono ?_;rintro e w2 ⟨rfl,hb2⟩)
  go_ret
  exact ⟨rfl,hb2⟩
 ·have hR : riseB 0 ss = true ∧ ss.length ≤ 256:=by simpa [rightB5,and_comm] using h
  have HE:=qhi (has_eq (n:=n) hR.1)
  rw [Bool.true_and]
  have HR:=qhi hr
  have H:=qhi h
  have hk:=upN_le n ss
  have hl:=hR.2
  have HRt':=qhi HRt
  clear hR
  by_cases hlt : upN n ss < ss.length
  ·obtain ⟨b,o,c,rfl,hb⟩:=hr.form (by intro h0;rw [h0] at hlt;simp at hlt)
   have HK:=qhi (qdt hlt)
   generalize hu : upN n ss = k at hlt HE hk HK
   have HU:=qhi hu
   obtain ⟨q0,q1⟩:=hr.cells rfl k hlt
   have Q0:=qhi q0
   generalize (ss.getD k (0,0)).1 = x at Q0 HE
   have hi1 : (k : Int) < (ss.length : Int):=by omega
   have hi1' : decide ((k : Int) < (ss.length : Int)) = true:=qdt hi1
   clear HRt hr h q0 q1 hu
   go_enter Tryz.func78,Tryz.ntmps78
   go_wp2_with (first
    | (go_at_call 124;refine HRt'.out.mono ?_;rintro e w2 ⟨rfl,hb2⟩)
    | (go_at_call 125;refine (upTo_any _ ss n _ (HR.out.below hb2) H.out).mono ?_;rw [HU.out];rintro e w3 ⟨rfl,hb3⟩;have hb4:=qhi (hb2.trans (hb3.mono hb2.size));have c3 : w3.cell? ⟨b,o + k * 2,none⟩ = some (.int .i64 x):=(hb4.out.cell (p:=⟨b,o + k * 2,none⟩) hb).trans Q0.out))
   go_ret
   rw [HE.out,HK.out,Bool.true_and]
   exact ⟨rfl,hb4.out⟩
  ·have HK:=qhi (qdf hlt)
   obtain ⟨va,vc,rfl,_,_⟩:=hr.isSlice
   generalize hu : upN n ss = k at hlt HE hk HK
   have HU:=qhi hu
   have hi1 : decide ((k : Int) < (ss.length : Int)) = false:=qdf (by omega)
   have hi2 : decide (k < ss.length) = false:=qdf (by omega)
   clear HRt hr h hu
   go_enter Tryz.func78,Tryz.ntmps78
   go_wp2_with (first
    | (go_at_call 124;refine HRt'.out.mono ?_;rintro e w2 ⟨rfl,hb2⟩)
    | (go_at_call 125;refine (upTo_any _ ss n _ (HR.out.below hb2) H.out).mono ?_;rw [HU.out];rintro e w3 ⟨rfl,hb3⟩;have hb4:=qhi (hb2.trans (hb3.mono hb2.size))))
   go_ret
   rw [HE.out,HK.out,Bool.false_and]
   exact ⟨rfl,hb4.out⟩
def Gives5 (l : List (Int × Int)) (w : World) (e : Ending) (w' : World) : Prop:=∃ v,e = .returned v ∧ OwnS w' w.heap.size v l ∧ Below w.heap.size w w'
def Gives2 (l : List (Int × Int)) (c : Int) (w : World) (e : Ending) (w' : World) : Prop:=∃ v,e = .returned (.tuple #[v,.int .i64 c]) ∧ OwnS w' w.heap.size v l ∧ Below w.heap.size w w'
theorem grow_any5 (n : Nat) (w : World) (hn : n ≤ 8796093022208) :
  Calls Tryz.prog 208 #[.slice none 0 0,.int .i64 n] w (Gives5 [] w):=by
 by_cases h0 : n = 0
 ·subst h0
  clear hn
  go_enter Tryz.func208,Tryz.ntmps208
  go_wp2
  go_ret
  exact ⟨_,rfl,OwnS.nil _ _,qbr _ _⟩
 ·have HN:=qhi h0
  have h1 : ¬ ((n : Int) < 0):=by omega
  have h2 : (n : Int) > 0:=by omega
  have h2' : decide (0 < (n : Int)) = true:=qdt h2
  have h2'' : decide (0 < n) = true:=qdt (by omega)
  obtain ⟨i,hi,hz,hsz,hbs⟩:=elemSpanC.info
  have hrz : ∀ ty,(Builtin.append_ #[63,3] ty #[.slice none 0 0,.int .i64 n]).run Tryz.prog w = _:=fun ty =>
   Lib.run_append_nil_zeros w 63 3 ty 151 i _ .i64 .i64 Tryz.underlying63 Tryz.underlying3 hi hz n (by omega) (by omega) (by omega) (by rw [hbs];omega)
  obtain ⟨G,hG⟩ : ∃ G,G = grownCap w n 0 151:=⟨_,rfl⟩
  rw [← hG] at hrz
  have hG1 : n ≤ G:=by rw [hG];exact grownCap_ge w _ _ _
  have hG2 : G ≤ maxLen:=by rw [hG];exact grownCap_le_maxLen w _ _ _ (by unfold maxLen;omega)
  unfold maxLen at hG2
  have HO : Hid (Gives5 [] w (.returned (.slice (some ⟨w.heap.size,0,none⟩) 0 G)) (w.drew.alloc (.cells (Builtin.zeroCells (Value.cells (.agg #[.int .i64 0,.int .i64 0])) n ++ Builtin.zeroCells (Value.cells (.agg #[.int .i64 0,.int .i64 0])) (G - n)) 151))) :=
   ⟨_,rfl,⟨by simp [spC],.inr ⟨w.heap.size,G,_,rfl,qlr _,alloc_at w.drew _,Nat.zero_le _,by unfold maxLen;exact hG2,by rw [Array.size_append,size_zeroCells,size_zeroCells];show n * 2 + (G - n) * 2 = G * 2;omega,by simp [spC]⟩⟩,(qbd (qbr _ w) 1).alloc (qlr _) _⟩
  clear hG hi hz hsz hbs h0
  go_enter Tryz.func208,Tryz.ntmps208
  go_wp2_with (at_builtin;refine Lib.wpList_append_run _ rfl _ _ _ _ rfl _ _ rfl rfl _ _ (hrz _) ?_)
  all_goals (go_ret;exact HO.out)
theorem notMany_ok (v : Value) (l : List (Int × Int)) (w : World) (hr : RdS w v l) (hl : l.length ≤ 256) :
  Calls Tryz.prog 170 #[v] w fun e w' => e = .returned (.tuple #[v,.int .i64 0]) ∧ w = w':=by
 obtain ⟨a,c,rfl,_,_⟩:=hr.isSlice
 have t1 : decide (256 < (l.length : Int)) = false:=qdf (by omega)
 clear hr
 go_enter Tryz.func170,Tryz.ntmps170
 go_wp2
 go_ret2
 exact ⟨rfl,rfl⟩
theorem notMany_no (v : Value) (l : List (Int × Int)) (w : World) (hr : RdS w v l) (hl : 256 < l.length) :
  Calls Tryz.prog 170 #[v] w fun e w' => e = .returned (.tuple #[.slice none 0 0,.int .i64 6]) ∧ w = w':=by
 obtain ⟨a,c,rfl,_,_⟩:=hr.isSlice
 have t1 : decide (256 < (l.length : Int)) = true:=qdt (by omega)
 clear hr
 go_enter Tryz.func170,Tryz.ntmps170
 go_wp2
 go_ret2
 exact ⟨rfl,rfl⟩
theorem mayBoth_any (v : Value) (l : List (Int × Int)) (x y : Int) (w : World) (hr : RdS w v l) :
  Calls Tryz.prog 168 #[v,.int .i64 x,.int .i64 y] w fun e w' => e = .returned (.bool (rightB5 l && spanB x y)) ∧ Below w.heap.size w w':=by
 obtain ⟨a,c,rfl,_,_⟩:=hr.isSlice
 have HR:=right_any5 _ l w hr
 cases h : rightB5 l <;> rw [h] at HR
 ·have HR':=qhi HR
  clear HR hr h
  go_enter Tryz.func168,Tryz.ntmps168
  go_wp2_with (go_at_call 124;refine HR'.out.mono ?_;rintro e w2 ⟨rfl,hb2⟩)
  go_ret
  exact ⟨rfl,hb2⟩
 ·have HR':=qhi HR
  clear HR hr h
  generalize hs : spanB x y = s
  have HS:=qhi hs
  clear hs
  go_enter Tryz.func168,Tryz.ntmps168
  go_wp2_with (first
   | (go_at_call 124;refine HR'.out.mono ?_;rintro e w2 ⟨rfl,hb2⟩)
   | (go_at_call 164;refine (may_b x y s _ HS.out).mono ?_;rintro e w3 ⟨rfl,hb3⟩))
  go_ret
  exact ⟨rfl,hb2.trans (hb3.mono hb2.size)⟩
def catK (L : Nat → List (Int × Int)) : Nat → List (Int × Int)
 | 0 => []
 | k + 1 => catK L k ++ L k
theorem catK_le (L : Nat → List (Int × Int)) : ∀ {k m : Nat},k ≤ m → (catK L k).length ≤ (catK L m).length
 | k,0,h => by rw [Nat.le_zero.1 h];exact qlr _
 | k,m + 1,h => by
   rcases Nat.lt_or_eq_of_le h with h1 | rfl
   ·have:=catK_le L (Nat.le_of_lt_succ h1)
    rw [catK,List.length_append];omega
   ·exact qlr _
theorem concat_any (p m : Nat) (V : Nat → Value) (L : Nat → List (Int × Int)) (w : World) (hp : p < w.heap.size) (hm : m < 1000000) (hc : ∀ k,k < m → w.cell? ⟨p,k,none⟩ = some (V k)) (hr : ∀ k,k < m → RdS w (V k) (L k))
  (hT : (catK L m).length ≤ 8796093022208) : Calls Tryz.prog 171 #[.slice (some ⟨p,0,none⟩) m m] w (Gives5 (catK L m) w):=by
 have HC:=qhi hc
 have HR:=qhi hr
 clear hc hr
 go_enter Tryz.func171,Tryz.ntmps171
 go_wp2_with fail
 go_loop [3,11] (fun s i => ∃ k : Nat,k ≤ m ∧ i = .int .i64 k ∧ s = .int .i64 (catK L k).length) (fun _ i => m - (intOf i).toNat)
 case atStart => exact ⟨0,Nat.zero_le _,rfl,rfl⟩
 case round =>
  obtain ⟨k,hk,rfl,rfl⟩:=hrel
  have hle:=catK_le L hk
  by_cases hlt : k < m
  ·have hle1:=catK_le L (show k + 1 ≤ m from hlt)
   obtain ⟨a,c,hv,_,_⟩:=(HR.out k hlt).isSlice
   have hcell:=HC.out k hlt
   rw [hv] at hcell
   have e1 : (catK L (k + 1)).length = (catK L k).length + (L k).length:=by rw [catK,List.length_append]
   have E1:=qhi e1
   have hsum : ((catK L k).length : Int) + ((L k).length : Int) ≤ 8796093022208:=by have:=E1.out;omega
   have t1 : decide (((catK L k).length : Int) + ((L k).length : Int) < 0) = false:=qdf (by omega)
   clear e1 hv
   generalize (L k).length = ln at *
   generalize (catK L k).length = sn at *
   go_wp2
   go_round
   case rel => exact ⟨k + 1,hlt,by go_num,by rw [E1.out];go_num⟩
   case measure => simp [intOf];omega
  ·obtain rfl : k = m:=by omega
   go_wp2_with (go_at_call 208;refine (grow_any5 _ _ hT).mono ?_;rintro e w1 ⟨v1,rfl,o1,b1⟩)
   have O1:=qhi o1
   have B1:=qhi b1
   clear o1 b1
   go_loopw [6,27] (fun s i wr => ∃ j : Nat,j ≤ k ∧ i = .int .i64 j ∧ OwnS wr w.heap.size s (catK L j) ∧ Below w.heap.size w wr) (fun _ i _ => k - (intOf i).toNat)
   case atStart => exact ⟨0,Nat.zero_le _,rfl,O1.out,B1.out⟩
   case round =>
    obtain ⟨j,hj,rfl,own,hbel⟩:=hrel
    have OW:=qhi own
    have HB:=qhi hbel
    have hz:=hbel.size
    by_cases hlt2 : j < k
    ·have hle2:=catK_le L (show j + 1 ≤ k from hlt2)
     obtain ⟨a,c,hv,_,_⟩:=(HR.out j hlt2).isSlice
     have hcell : wr.cell? ⟨p,j,none⟩ = some (V j):=(hbel.cell (p:=⟨p,j,none⟩) hp).trans (HC.out j hlt2)
     have hrd : Hid (RdS wr (V j) (L j)):=(HR.out j hlt2).below hbel
     rw [hv] at hcell hrd
     have e1 : (catK L j).length + (L j).length ≤ 8796093022208:=by
                                     have : (catK L (j + 1)).length = (catK L j).length + (L j).length:=by rw [catK,List.length_append]
                                     omega
     have E1:=qhi e1
     clear e1 hv own hbel
     go_wp2_with (at_builtin;refine wpList_append_spans _ rfl (.tmp 31) (.tmp 32) rfl w.heap.size _ (catK L j) rfl OW.out _ (L j) rfl hrd.out E1.out hz ?_;intro v' w' o' g')
     exact ⟨⟨j + 1,hlt2,by go_num,o',HB.out.grown g' hz (fun i hi => OW.out.blk i hi)⟩,by simp [intOf];omega⟩
    ·obtain rfl : j = k:=by omega
     clear own hbel
     go_wp2
     go_ret
     exact ⟨_,rfl,OW.out,HB.out⟩
def addE (ss : List (Int × Int)) (f t : Int) : List (Int × Int) × Int:=if (rightB5 ss && spanB f t) = true then (if (addR ss f t).length ≤ 256 then (addR ss f t,0) else ([],6)) else ([],1)
theorem concat3d_any (w0 : World) (p : Nat) (V0 V1 V2 : Value) (l0 l1 l2 : List (Int × Int)) (hp : p = w0.heap.size) (h0 : RdS w0 V0 l0) (h1 : RdS w0 V1 l1) (h2 : RdS w0 V2 l2) (hT : l0.length + l1.length + l2.length ≤ 8796093022208) :
  Calls Tryz.prog 171 #[.slice (some ⟨p,0,none⟩) 3 3] (w0.alloc (.cells #[V0,V1,V2] 63)).drew (Gives5 (l0 ++ l1 ++ l2) (w0.alloc (.cells #[V0,V1,V2] 63)).drew):=by
 subst hp
 have hb : Below w0.heap.size w0 (w0.alloc (.cells #[V0,V1,V2] 63)).drew:=qbd ((qbr _ _).alloc (qlr _) _) 1
 have:=concat_any w0.heap.size 3 (fun k => if k = 0 then V0 else if k = 1 then V1 else V2) (fun k => if k = 0 then l0 else if k = 1 then l1 else l2) (w0.alloc (.cells #[V0,V1,V2] 63)).drew (by show _ < (w0.alloc _).heap.size;simp) (by omega)
  (fun k hk => by
   show (w0.alloc (.cells #[V0,V1,V2] 63)).cell? _ = _
   rw [World.cell?_alloc_at _ _ _ _ rfl]
   rcases (show k = 0 ∨ k = 1 ∨ k = 2 by omega) with rfl | rfl | rfl <;> rfl)
  (fun k hk => by
   rcases (show k = 0 ∨ k = 1 ∨ k = 2 by omega) with rfl | rfl | rfl
   ·exact h0.below hb
   ·exact h1.below hb
   ·exact h2.below hb)
  (by simp [catK];omega)
 simpa [catK] using this
theorem add_A (b o n c : Nat) (ss : List (Int × Int)) (f t : Int) (w : World) (hr : RdS w (.slice (some ⟨b,o,none⟩) n c) ss) (hR : rightB5 ss = true) (hS : spanB f t = true) (hlt : upN (f - 1) ss < bhN (t + 1) ss) :
  Calls Tryz.prog 127 #[.slice (some ⟨b,o,none⟩) n c,.int .i64 f,.int .i64 t] w (Gives2 (addE ss f t).1 (addE ss f t).2 w):=by
 have hft : 0 ≤ f ∧ f ≤ t ∧ t ≤ 4611686018427387903:=by simpa [spanB] using hS
 have hRi : riseB 0 ss = true ∧ ss.length ≤ 256:=by simpa [rightB5,and_comm] using hR
 obtain ⟨a',c',e',hn1,hn2⟩:=hr.isSlice
 simp only [Value.slice.injEq] at e'
 obtain ⟨rfl,rfl,rfl⟩:=e'
 have HM:=mayBoth_any _ ss f t w hr
 rw [hR,hS,Bool.and_self] at HM
 have HMay:=qhi HM
 have HR:=qhi hr
 have HRt:=qhi hR
 have HE : Hid ((addE ss f t) = if (addP ss f t).length ≤ 256 then (addP ss f t,0) else ([],6)):=by
  show _ = _
  rw [addP_eq hft.2.1 hRi.1,addE,hR,hS];rfl
 have hk1:=bhN_le (t + 1) ss
 have hP : Hid (addP ss f t = ss.take (upN (f - 1) ss) ++ ((min f (ss.getD (upN (f - 1) ss) (0,0)).1,max t (ss.getD (bhN (t + 1) ss - 1) (0,0)).2) :: ss.drop (bhN (t + 1) ss))):=by
  show _ = _
  rw [addP,wholeP,if_pos hlt]
 have HB:=qhi (show b < w.heap.size from (by
  obtain ⟨_,⟨h0,_⟩ | ⟨_,b',o',c',e,_,_,h4,_⟩⟩:=hr
  ·rw [h0] at hk1;omega
  ·simp only [Value.slice.injEq,Option.some.injEq,Addr.mk.injEq] at e;rw [e.1.1];exact h4))
 generalize hp : upN (f - 1) ss = p at hlt hP
 generalize hq : bhN (t + 1) ss = q at hlt hP hk1
 have HPp:=qhi hp
 have HQq:=qhi hq
 have c0:=(hr.cells rfl p (by omega)).1
 have c1:=(hr.cells rfl (q - 1) (by omega)).2
 have C0:=qhi c0
 have C1:=qhi c1
 generalize (ss.getD p (0,0)).1 = x0 at C0 hP
 generalize (ss.getD (q - 1) (0,0)).2 = y1 at C1 hP
 have hw1 : IntKind.i64.wrap (f - 1) = f - 1:=by rw [IntKind.wrap_i64];omega
 have hw2 : IntKind.i64.wrap (t + 1) = t + 1:=by rw [IntKind.wrap_i64];omega
 have hw3 : IntKind.i64.wrap ((q : Int) - 1) = (q : Int) - 1:=by rw [IntKind.wrap_i64];omega
 have hi1 : (p : Int) < (ss.length : Int):=by omega
 have hi2 : (0 : Int) ≤ (q : Int) - 1:=by omega
 have hi3 : (q : Int) - 1 < (ss.length : Int):=by omega
 have hi4 : ((q : Int) - 1).toNat = q - 1:=by omega
 have ht1 : decide ((p : Int) < (q : Int)) = true:=qdt (by omega)
 have hi5 : (p : Int) ≤ (c : Int):=by omega
 have hi6 : (q : Int) ≤ (ss.length : Int):=by omega
 have hl:=hRi.2
 unfold maxLen at hn2
 clear HM hr hR hS hp hq c0 c1 hRi
 go_enter Tryz.func127,Tryz.ntmps127
 go_wp2_with fail
 refine HMay.out.mono ?_
 rintro e w1 ⟨rfl,hb1⟩
 have B1:=qhi hb1
 clear hb1
 go_wp2_with fail
 refine (upTo_any _ ss _ _ (HR.out.below B1.out) HRt.out).mono ?_
 rw [HPp.out]
 rintro e w2 ⟨rfl,hb2⟩
 have B2:=qhi (B1.out.trans (hb2.mono B1.out.size))
 clear hb2
 go_wp2_with fail
 refine (behind_any _ ss _ _ (HR.out.below B2.out) HRt.out).mono ?_
 rw [HQq.out]
 rintro e w3 ⟨rfl,hb3⟩
 have B3:=qhi (B2.out.trans (hb3.mono B2.out.size))
 clear hb3
 have B4:=qhi (B3.out.alloc (B3.out.size) (.cells #[.int .i64 f,.int .i64 t] 151))
 have z3:=B3.out.size
 have hb3 : b < w3.heap.size:=Nat.lt_of_lt_of_le HB.out z3
 have k0 : w3.cell? ⟨b,o + p * 2,none⟩ = some (.int .i64 x0):=(B3.out.cell (p:=⟨b,_,none⟩) HB.out).trans C0.out
 have k1 : w3.cell? ⟨b,o + (q - 1) * 2 + 1,none⟩ = some (.int .i64 y1):=(B3.out.cell (p:=⟨b,_,none⟩) HB.out).trans C1.out
 have FACT : ∀ (u v : Int) (V : World),w3.alloc (.cells #[.int .i64 u,.int .i64 v] 151) = V → u = min f x0 → v = max t y1 →
   ∃ u0 v0,u0 = min f x0 ∧ v0 = max t y1 ∧ Below w.heap.size w V ∧ V.heap.size = w3.heap.size + 1 ∧ V.cell? ⟨w3.heap.size,0,none⟩ = some (.int .i64 u0) ∧ V.cell? ⟨w3.heap.size,1,none⟩ = some (.int .i64 v0):=by
  rintro u v V rfl hu hv
  exact ⟨u,v,hu,hv,B3.out.alloc z3 _,by simp,by rw [World.cell?_alloc_at _ _ _ _ rfl];rfl,by rw [World.cell?_alloc_at _ _ _ _ rfl];rfl⟩
 have F:=qhi FACT
 clear FACT B4
 go_wp2_with fail
 all_goals
  clear k0 k1 hi1 hi2 hi3 hi4 ht1 hw1 hw2 hw3
  generalize hV : w3.alloc _ = V
  obtain ⟨u0,v0,hU,hV2,BV,zV,c0,c1⟩:=F.out _ _ _ hV (by omega) (by omega)
  have R0 : Hid (RdS (V.alloc (.cells #[.int .i64 u0,.int .i64 v0] 151)) (.slice (some ⟨b,o,none⟩) p c) (ss.take p)):=by
   have:=(HR.out.below (BV.alloc BV.size (.cells #[.int .i64 u0,.int .i64 v0] 151))).cut 0 p (by omega) (some ⟨b,o,none⟩) (fun _ => by simp) (by simp)
   show RdS _ _ _
   simpa using this
  have R1 : Hid (RdS (V.alloc (.cells #[.int .i64 u0,.int .i64 v0] 151)) (.slice (some ⟨V.heap.size,0,none⟩) 1 1) [(u0,v0)]):=reads_built V u0 v0
  have R2 : Hid (RdS (V.alloc (.cells #[.int .i64 u0,.int .i64 v0] 151)) (.slice (if c = q then some ⟨b,o,none⟩ else some ⟨b,o + q * 2,none⟩) (ss.length - q) (c - q)) (ss.drop q)):=by
   have:=(HR.out.below (BV.alloc BV.size (.cells #[.int .i64 u0,.int .i64 v0] 151))).cut q (ss.length - q) (by omega) (if c = q then some ⟨b,o,none⟩ else some ⟨b,o + q * 2,none⟩) (fun h => by rw [if_neg h]) (by split <;> simp)
   rw [List.take_of_length_le (by rw [List.length_drop];exact qlr _)] at this
   exact this
  have hT : (ss.take p).length + [(u0,v0)].length + (ss.drop q).length ≤ 8796093022208:=by rw [List.length_take,List.length_drop];simp only [List.length_cons,List.length_nil];omega
  have HT:=qhi hT
  have E0 : Hid (addP ss f t = ss.take p ++ [(u0,v0)] ++ ss.drop q):=by
   show _ = _
   rw [hP.out,show min f x0 = u0 by omega,show max t y1 = v0 by omega];simp
  have HBV:=qhi BV
  have ZV:=qhi zV
  clear hV BV zV hT hU hV2
  by_cases hlen : (addP ss f t).length ≤ 256
  ·have HE2 : Hid (addE ss f t = (addP ss f t,0)):=by show _ = _;rw [HE.out,if_pos hlen]
   have HL : Hid ((ss.take p ++ [(u0,v0)] ++ ss.drop q).length ≤ 256):=by rw [E0.out] at hlen;exact hlen
   clear hlen
   go_region_law (first
    | (go_simp;go_at_call 171;refine (concat3d_any _ _ _ _ _ _ _ _ (by simp) R0.out R1.out R2.out HT.out).mono ?_;rintro e w5 ⟨v5,rfl,o5,b5⟩;have O5:=qhi o5;have B5:=qhi b5;clear o5 b5)
    | (go_simp;go_at_call 170;refine (notMany_ok v5 _ _ O5.out.rd HL.out).mono ?_;rintro e w6 ⟨rfl,rfl⟩))
   all_goals go_wp2
   all_goals go_ret2
   all_goals
    have B6:=qbd ((HBV.out.alloc HBV.out.size (.cells #[.int .i64 u0,.int .i64 v0] 151)).alloc (by have:=HBV.out.size;simp;omega) (.cells #[.slice (some ⟨b,o,none⟩) p c,.slice (some ⟨V.heap.size,0,none⟩) 1 1,.slice (if c = q then some ⟨b,o,none⟩ else some ⟨b,o + q * 2,none⟩) (ss.length - q) (c - q)] 63)) 1
    rw [HE2.out,E0.out]
    exact ⟨v5,rfl,O5.out.mono B6.size,B6.trans (B5.out.mono B6.size)⟩
  ·have HE2 : Hid (addE ss f t = ([],6)):=by show _ = _;rw [HE.out,if_neg hlen]
   have HL : Hid (256 < (ss.take p ++ [(u0,v0)] ++ ss.drop q).length):=by rw [E0.out] at hlen;exact Nat.lt_of_not_le hlen
   clear hlen
   go_region_law (first
    | (go_simp;go_at_call 171;refine (concat3d_any _ _ _ _ _ _ _ _ (by simp) R0.out R1.out R2.out HT.out).mono ?_;rintro e w5 ⟨v5,rfl,o5,b5⟩;have O5:=qhi o5;have B5:=qhi b5;clear o5 b5)
    | (go_simp;go_at_call 170;refine (notMany_no v5 _ _ O5.out.rd HL.out).mono ?_;rintro e w6 ⟨rfl,rfl⟩))
   all_goals go_wp2
   all_goals go_ret2
   all_goals
    have B6:=qbd ((HBV.out.alloc HBV.out.size (.cells #[.int .i64 u0,.int .i64 v0] 151)).alloc (by have:=HBV.out.size;simp;omega) (.cells #[.slice (some ⟨b,o,none⟩) p c,.slice (some ⟨V.heap.size,0,none⟩) 1 1,.slice (if c = q then some ⟨b,o,none⟩ else some ⟨b,o + q * 2,none⟩) (ss.length - q) (c - q)] 63)) 1
    rw [HE2.out]
    exact ⟨_,rfl,OwnS.nil _ _,B6.trans (B5.out.mono B6.size)⟩
end Go.Proofs.YtmcomdmcmnbhlaaGreatDoor
