import Derived.Test.YtmcomdmcmnbhlaaGreatDoorKRm0
set_option maxRecDepth 100000
set_option maxHeartbeats 25600000
set_option linter.unusedSimpArgs false
set_option linter.unusedVariables false
set_option linter.unnecessarySimpa false
namespace Go.Proofs.YtmcomdmcmnbhlaaGreatDoor
open Go.RowKit
structure Lt where
 at_ : Int
 v : Int
 told : Bool
instance : Inhabited Lt:=⟨⟨0,0,false⟩⟩
def core (l : Lt) : Int × Int:=(l.at_,l.v)
structure WQ where
 rest : List Lt
 size : Int
 closed : Bool
 limit : Int
def queuedN (q : WQ) : Nat:=q.rest.countP fun l => !decide (l.at_ = q.size)
structure WOk (X : List Int) (F : Bool) (q : WQ) : Prop where
 size : q.size = (X.length : Int)
 closed : q.closed = F
 up : (q.rest.map core).Pairwise fun a b => a.1 < b.1
 each : ∀ c ∈ q.rest.map core,0 ≤ c.1 ∧ c.1 ≤ (X.length : Int) ∧ (c.1 < (X.length : Int) → c.2 = X.getD c.1.toNat 0) ∧ (c.1 = (X.length : Int) → F = true)
 few : queuedN q ≤ 2048
 limit : 1024 ≤ q.limit ∧ q.limit ≤ 4611686018427387903
theorem WOk.fresh : WOk [] false ⟨[],0,false,1024⟩:=⟨rfl,rfl,List.Pairwise.nil,fun c h => (by cases h),by simp [queuedN],by simp⟩
theorem queued_core (q : WQ) : queuedN q = (q.rest.map core).countP fun c => !decide (c.1 = q.size):=by
 unfold queuedN
 rw [List.countP_map];rfl
theorem WOk.at {X : List Int} {F : Bool} {q : WQ} (h : WOk X F q) {i : Nat} (hi : i < q.rest.length) :
  0 ≤ q.rest[i].at_ ∧ q.rest[i].at_ ≤ (X.length : Int) ∧ (q.rest[i].at_ < (X.length : Int) → q.rest[i].v = X.getD q.rest[i].at_.toNat 0) ∧ (q.rest[i].at_ = (X.length : Int) → F = true) :=
 h.each (core q.rest[i]) (List.mem_map.2 ⟨_,List.getElem_mem hi,rfl⟩)
theorem WOk.lt {X : List Int} {F : Bool} {q : WQ} (h : WOk X F q) {i j : Nat} (hj : j < q.rest.length) (hij : i < j) : (q.rest[i]'(by omega)).at_ < q.rest[j].at_:=by
 have:=List.pairwise_iff_getElem.1 h.up i j (by simp;omega) (by simpa using hj) hij
 simpa [core] using this
theorem WOk.last {X : List Int} {F : Bool} {q : WQ} (h : WOk X F q) {i : Nat} (hi : i < q.rest.length) (he : q.rest[i].at_ = (X.length : Int)) : i + 1 = q.rest.length:=by
 rcases Nat.lt_or_ge (i + 1) q.rest.length with h1 | h1
 ·have h2:=h.lt h1 (Nat.lt_succ_self i)
  have h3:=(h.at h1).2.1
  omega
 ·omega
theorem WOk.queued {X : List Int} {F : Bool} {q : WQ} (h : WOk X F q) : queuedN q = if 0 < q.rest.length ∧ (q.rest.getLastD default).at_ = q.size then q.rest.length - 1 else q.rest.length:=by
 rcases List.eq_nil_or_concat q.rest with h0 | ⟨l,x,h0⟩
 ·simp [queuedN,h0]
 ·have hl : ∀ y ∈ l,¬ y.at_ = q.size:=by
   intro y hy e
   obtain ⟨i,hi,rfl⟩:=List.mem_iff_getElem.1 hy
   have h1 : i < q.rest.length:=by rw [h0];simp;omega
   have h2 : q.rest[i] = l[i]:=by simp [h0,hi]
   have:=h.last h1 (by rw [h2,e];exact h.size)
   rw [h0] at this;simp at this;omega
  have hc : l.countP (fun y => !decide (y.at_ = q.size)) = l.length:=List.countP_eq_length.2 fun y hy => by simpa using hl y hy
  unfold queuedN
  rw [h0]
  simp only [List.concat_eq_append,List.countP_append,hc,List.length_append,List.length_singleton,List.getLastD_concat]
  by_cases hx : x.at_ = q.size
  ·rw [if_pos ⟨by omega,by simpa using hx⟩];simp [hx]
  ·rw [if_neg (by rintro ⟨_,k⟩;exact hx (by simpa using k))];simp [hx]
theorem WOk.len {X : List Int} {F : Bool} {q : WQ} (h : WOk X F q) : q.rest.length ≤ 2049:=by
 have h1:=h.few
 rw [h.queued] at h1
 split at h1 <;> omega
structure WSub (q q' : WQ) : Prop where
 size : q'.size = q.size
 closed : q'.closed = q.closed
 rest : (q'.rest.map core).Sublist (q.rest.map core)
 limit : q.limit ≤ q'.limit ∧ (q'.limit ≤ 4611686018427387903 ∨ q'.limit = q.limit)
theorem WSub.refl (q : WQ) : WSub q q:=⟨rfl,rfl,List.Sublist.refl _,Int.le_refl _,.inr rfl⟩
theorem WSub.trans {a b c : WQ} (h : WSub a b) (k : WSub b c) : WSub a c :=
 ⟨k.size.trans h.size,k.closed.trans h.closed,k.rest.trans h.rest,Int.le_trans h.limit.1 k.limit.1,by rcases k.limit.2 with x | x <;> rcases h.limit.2 with y | y <;> first | exact .inl x | (rw [x];exact .inl y) | (rw [x];exact .inr y)⟩
theorem WOk.sub {X : List Int} {F : Bool} {q q' : WQ} (h : WOk X F q) (k : WSub q q') : WOk X F q' :=
 ⟨k.size.trans h.size,k.closed.trans h.closed,h.up.sublist k.rest,fun c hc => h.each c (k.rest.subset hc),by
  have:=h.few
  rw [queued_core] at this ⊢
  rw [k.size]
  exact Nat.le_trans (k.rest.countP_le) this,by have:=h.limit;have:=k.limit;omega⟩
def lts : Int → List Int → List Lt
 | _,[] => []
 | n,x :: r => ⟨n,x,false⟩ :: lts (n + 1) r
theorem lts_len (n : Int) (b : List Int) : (lts n b).length = b.length:=by
 induction b generalizing n with
 | nil => rfl
 | cons x r ih => simp [lts,ih]
theorem lts_snoc (n : Int) (b : List Int) (x : Int) : lts n (b ++ [x]) = lts n b ++ [⟨n + b.length,x,false⟩]:=by
 induction b generalizing n with
 | nil => simp [lts]
 | cons y r ih => simp [lts,ih];omega
theorem lts_mem {n : Int} {b : List Int} {c : Int × Int} (h : c ∈ (lts n b).map core) : n ≤ c.1 ∧ c.1 < n + b.length ∧ c.2 = b.getD (c.1 - n).toNat 0:=by
 induction b generalizing n with
 | nil => cases h
 | cons x r ih =>
   simp only [lts,List.map_cons,List.mem_cons] at h
   rcases h with rfl | h
   ·simp [core];omega
   ·obtain ⟨h1,h2,h3⟩:=ih h
    refine ⟨by omega,by simp only [List.length_cons];omega,?_⟩
    rw [show (c.1 - n).toNat = (c.1 - (n + 1)).toNat + 1 by omega]
    simpa using h3
theorem lts_up (n : Int) (b : List Int) : ((lts n b).map core).Pairwise fun a b => a.1 < b.1:=by
 induction b generalizing n with
 | nil => exact List.Pairwise.nil
 | cons x r ih => exact List.Pairwise.cons (fun c hc => by have:=(lts_mem hc).1;simp [core];omega) (ih _)
def wroteE (q : WQ) (b : List Int) (fin : Bool) : WQ:=⟨q.rest ++ lts q.size b ++ (if fin then [⟨q.size + b.length,0,false⟩] else []),q.size + b.length,fin,q.limit⟩
def writeE (q : WQ) (b : List Int) (fin : Bool) : WQ × Int:=if q.closed = true then (q,18) else if (2048 : Int) - queuedN q < b.length then (q,17) else (wroteE q b fin,0)
theorem WOk.wrote {X : List Int} {q : WQ} (h : WOk X false q) (b : List Int) (fin : Bool) (hb : (b.length : Int) ≤ 2048 - queuedN q) : WOk (X ++ b) fin (wroteE q b fin):=by
 have hX : ((X ++ b).length : Int) = X.length + b.length:=by simp
 have old : ∀ c ∈ q.rest.map core,0 ≤ c.1 ∧ c.1 < (X.length : Int) ∧ c.2 = X.getD c.1.toNat 0:=fun c hc => by
  obtain ⟨h1,h2,h3,h4⟩:=h.each c hc
  have : ¬ c.1 = (X.length : Int):=fun e => by have:=h4 e;cases this
  exact ⟨h1,by omega,h3 (by omega)⟩
 have hq : queuedN q = q.rest.length:=by
  rw [queued_core,List.countP_eq_length.2,List.length_map]
  intro c hc
  have:=old c hc
  have:=h.size
  simp;omega
 have hmap : (wroteE q b fin).rest.map core = q.rest.map core ++ ((lts (X.length : Int) b).map core ++ if fin then [((X.length : Int) + b.length,0)] else []):=by
  simp only [wroteE,List.map_append,List.append_assoc,h.size]
  cases fin <;> simp [core]
 refine ⟨by simp [wroteE,h.size],rfl,?_,?_,?_,h.limit⟩
 ·rw [hmap,List.pairwise_append,List.pairwise_append]
  refine ⟨h.up,⟨lts_up _ _,by cases fin <;> simp,fun c hc d hd => ?_⟩,fun c hc d hd => ?_⟩
  ·cases fin
   ·simp at hd
   ·simp only [if_true,List.mem_singleton] at hd
    subst hd
    have:=(lts_mem hc).2.1
    simpa using this
  ·have h1:=(old c hc).2.1
   rcases List.mem_append.1 hd with hd | hd
   ·have:=(lts_mem hd).1;omega
   ·cases fin
    ·simp at hd
    ·simp only [if_true,List.mem_singleton] at hd
     subst hd;simp only;omega
 ·intro c hc
  rw [hmap] at hc
  rcases List.mem_append.1 hc with hc | hc
  ·obtain ⟨h1,h2,h3⟩:=old c hc
   refine ⟨h1,by omega,fun _ => ?_,fun e => by omega⟩
   rw [h3,getD_app,if_pos (by omega)]
  rcases List.mem_append.1 hc with hc | hc
  ·obtain ⟨h1,h2,h3⟩:=lts_mem hc
   refine ⟨by omega,by omega,fun _ => ?_,fun e => by omega⟩
   rw [h3,getD_app,if_neg (by omega)]
   congr 1;omega
  ·cases fin
   ·simp at hc
   ·simp only [if_true,List.mem_singleton] at hc
    subst hc
    exact ⟨by simp only;omega,by simp only;omega,fun e => by simp only at e;omega,fun _ => rfl⟩
 ·have h1 : queuedN (wroteE q b fin) ≤ q.rest.length + b.length:=by
   rw [queued_core,hmap,List.countP_append,List.countP_append]
   have h2:=List.countP_le_length (p:=fun c : Int × Int => !decide (c.1 = (wroteE q b fin).size)) (l:=q.rest.map core)
   have h3:=List.countP_le_length (p:=fun c : Int × Int => !decide (c.1 = (wroteE q b fin).size)) (l:=(lts (X.length : Int) b).map core)
   have h4 : List.countP (fun c : Int × Int => !decide (c.1 = (wroteE q b fin).size)) (if fin then [((X.length : Int) + b.length,0)] else []) = 0:=by
    cases fin <;> simp [wroteE,h.size]
   simp only [List.length_map,lts_len] at h2 h3
   omega
  rw [hq] at hb
  omega
structure Run (q : WQ) (i n : Nat) : Prop where
 le : i + n ≤ q.rest.length
 next : ∀ j,j < n → ∀ (h : i + j < q.rest.length) (h0 : i < q.rest.length),q.rest[i + j].at_ = q.rest[i].at_ + j
def dataOf (size : Int) (l : List Lt) : List Int:=(l.filter fun x => !decide (x.at_ = size)).map (·.v)
def finOf (size : Int) (l : List Lt) : Bool:=l.any fun x => decide (x.at_ = size)
theorem dataOf_none {size : Int} {l : List Lt} (h : ∀ x ∈ l,x.at_ ≠ size) : dataOf size l = l.map (·.v) ∧ finOf size l = false:=by
 refine ⟨?_,?_⟩
 ·unfold dataOf
  rw [List.filter_eq_self.2 fun x hx => by simpa using h x hx]
 ·simp [finOf];exact fun x hx => h x hx
theorem told_true {X : List Int} {F : Bool} {q : WQ} (h : WOk X F q) {i n : Nat} (hn : 0 < n) (hr : Run q i n) :
  ∃ o : Nat,(∀ h0 : i < q.rest.length,q.rest[i].at_ = (o : Int)) ∧ dataOf q.size ((q.rest.drop i).take n) = (X.drop o).take (dataOf q.size ((q.rest.drop i).take n)).length ∧ o + (dataOf q.size ((q.rest.drop i).take n)).length ≤ X.length ∧
   (finOf q.size ((q.rest.drop i).take n) = true → F = true ∧ o + (dataOf q.size ((q.rest.drop i).take n)).length = X.length) ∧
   ((dataOf q.size ((q.rest.drop i).take n)).length + (if finOf q.size ((q.rest.drop i).take n) then 1 else 0) = n):=by
 have hi : i < q.rest.length:=by have:=hr.le;omega
 have h0:=h.at hi
 refine ⟨q.rest[i].at_.toNat,fun _ => by omega,?_⟩
 generalize ho : q.rest[i].at_.toNat = o
 have hio : q.rest[i].at_ = (o : Int):=by omega
 have hat : ∀ j,j < n → ∀ hj : i + j < q.rest.length,q.rest[i + j].at_ = (o : Int) + j:=fun j hj hj' => by rw [hr.next j hj hj' hi,hio]
 have plain : ∀ m,m ≤ n → (∀ x ∈ (q.rest.drop i).take m,x.at_ ≠ q.size) → dataOf q.size ((q.rest.drop i).take m) = (X.drop o).take m ∧ o + m ≤ X.length ∧ finOf q.size ((q.rest.drop i).take m) = false:=by
  intro m hm hx
  obtain ⟨e1,e2⟩:=dataOf_none hx
  have hml : i + m ≤ q.rest.length:=by have:=hr.le;omega
  have hlast : o + m ≤ X.length:=by
   cases m with
   | zero => have:=h0.2.1;omega
   | succ m =>
     have hjm : i + m < q.rest.length:=by omega
     have h1:=hat m (by omega) hjm
     have h2:=(h.at hjm).2.1
     have h3 : q.rest[i + m].at_ ≠ q.size:=hx _ (List.mem_iff_getElem.2 ⟨m,by simp;omega,by simp⟩)
     rw [h.size] at h3
     omega
  refine ⟨?_,hlast,e2⟩
  rw [e1]
  apply List.ext_getElem
  ·simp;omega
  ·intro j h1 h2
   simp only [List.length_map,List.length_take,List.length_drop] at h1
   simp only [List.getElem_map,List.getElem_take,List.getElem_drop]
   have hj : i + j < q.rest.length:=by omega
   have h3:=hat j (by omega) hj
   have h4:=(h.at hj).2.2.1 (by omega)
   rw [h4,h3,show ((o : Int) + j).toNat = o + j by omega]
   simp [List.getD,show o + j < X.length by omega]
 by_cases hx : ∀ x ∈ (q.rest.drop i).take n,x.at_ ≠ q.size
 ·obtain ⟨e1,e2,e3⟩:=plain n (qlr n) hx
  have hl : (dataOf q.size ((q.rest.drop i).take n)).length = n:=by rw [e1];simp;omega
  refine ⟨by rw [hl];exact e1,by rw [hl];exact e2,fun hf => (by rw [e3] at hf;cases hf),?_⟩
  rw [hl,e3];rfl
 ·obtain ⟨m,rfl⟩ : ∃ m,n = m + 1:=⟨n - 1,by omega⟩
  have hle:=hr.le
  have hex : ∃ x ∈ (q.rest.drop i).take (m + 1),x.at_ = q.size:=by simpa using hx
  obtain ⟨x,hxm,hxe⟩:=hex
  obtain ⟨j,hj,rfl⟩:=List.mem_iff_getElem.1 hxm
  simp only [List.length_take,List.length_drop] at hj
  simp only [List.getElem_take,List.getElem_drop] at hxe
  have hjl : i + j < q.rest.length:=by omega
  have hj1:=h.last hjl (by rw [hxe];exact h.size)
  obtain rfl : j = m:=by omega
  have hsplit : (q.rest.drop i).take (j + 1) = (q.rest.drop i).take j ++ [q.rest[i + j]]:=by
   rw [List.take_succ_eq_append_getElem (by simp;omega)]
   simp
  have hpl : ∀ x ∈ (q.rest.drop i).take j,x.at_ ≠ q.size:=by
   intro y hy e
   obtain ⟨k,hk,rfl⟩:=List.mem_iff_getElem.1 hy
   simp only [List.length_take,List.length_drop] at hk
   simp only [List.getElem_take,List.getElem_drop] at e
   have:=h.last (i:=i + k) (by omega) (by rw [e];exact h.size)
   omega
  obtain ⟨e1,e2,e3⟩:=plain j (by omega) hpl
  have hF:=(h.at hjl).2.2.2 (by rw [hxe];exact h.size)
  have hoj:=hat j (by omega) hjl
  have hsz:=h.size
  have hd : dataOf q.size ((q.rest.drop i).take (j + 1)) = (X.drop o).take j:=by
   rw [hsplit,← e1]
   simp [dataOf,hxe]
  have hl : (dataOf q.size ((q.rest.drop i).take (j + 1))).length = j:=by rw [hd];simp;omega
  have hf : finOf q.size ((q.rest.drop i).take (j + 1)) = true:=by
   rw [hsplit]
   simp [finOf,hxe]
  refine ⟨by rw [hl];exact hd,by rw [hl];exact e2,fun _ => ⟨hF,by rw [hl];omega⟩,?_⟩
  rw [hl,hf];rfl
def mark (t : Bool) (l : List Lt) (i n : Nat) : List Lt:=l.take i ++ (((l.drop i).take n).map fun x => { x with told:=t }) ++ l.drop (i + n)
theorem mark_core (t : Bool) (l : List Lt) (i n : Nat) : (mark t l i n).map core = l.map core:=by
 unfold mark
 have : (((l.drop i).take n).map fun x => { x with told:=t }).map core = ((l.drop i).take n).map core:=by rw [List.map_map];rfl
 rw [List.map_append,List.map_append,this,← List.map_append,← List.map_append]
 congr 1
 rw [List.append_assoc,show l.drop (i + n) = (l.drop i).drop n by rw [List.drop_drop],List.take_append_drop,List.take_append_drop]
theorem mark_len (t : Bool) (l : List Lt) (i n : Nat) : (mark t l i n).length = l.length:=by have:=congrArg List.length (mark_core t l i n);simpa using this
theorem mark_zero (t : Bool) (l : List Lt) (i : Nat) : mark t l i 0 = l:=by simp [mark]
theorem mark_set (t : Bool) (l : List Lt) (i n : Nat) (h : i + n < l.length) : (mark t l i n).set (i + n) { l[i + n] with told:=t } = mark t l i (n + 1):=by
 unfold mark
 have hl1 : (l.take i).length = i:=by simp;omega
 have hl2 : (((l.drop i).take n).map fun x => { x with told:=t }).length = n:=by simp;omega
 rw [List.append_assoc,List.set_append_right _ _ (by omega),hl1,show i + n - i = n by omega,List.set_append_right _ _ (by omega),hl2,Nat.sub_self]
 rw [List.take_succ_eq_append_getElem (by simp;omega),List.map_append,List.append_assoc,List.append_assoc]
 congr 1
 congr 1
 rw [List.drop_eq_getElem_cons h]
 simp [Nat.add_assoc]
theorem mark_get (t : Bool) (l : List Lt) (i n j : Nat) (hj : j < l.length) (h : i + n ≤ l.length) : (mark t l i n)[j]'(by rw [mark_len];exact hj) = if i ≤ j ∧ j < i + n then { l[j] with told:=t } else l[j]:=by
 unfold mark
 have hl1 : (l.take i).length = i:=by simp;omega
 have hl2 : (((l.drop i).take n).map fun x => { x with told:=t }).length = n:=by simp;omega
 by_cases h1 : j < i
 ·rw [if_neg (by omega),List.getElem_append_left (by simp;omega),List.getElem_append_left (by omega)]
  simp
 ·by_cases h2 : j < i + n
  ·rw [if_pos ⟨by omega,h2⟩,List.getElem_append_left (by simp;omega),List.getElem_append_right (by omega)]
   simp only [hl1,List.getElem_map,List.getElem_take,List.getElem_drop]
   simp [show i + (j - i) = j by omega]
  ·rw [if_neg (by omega),List.getElem_append_right (by simp;omega)]
   simp only [List.length_append,hl1,hl2,List.getElem_drop]
   simp [show i + n + (j - (i + n)) = j by omega]
theorem WSub.mark (q : WQ) (t : Bool) (i n : Nat) : WSub q { q with rest:=mark t q.rest i n }:=⟨rfl,rfl,by show (List.map core (Go.Proofs.YtmcomdmcmnbhlaaGreatDoor.mark t q.rest i n)).Sublist _;rw [mark_core];exact List.Sublist.refl _,Int.le_refl _,.inr rfl⟩
structure ROk (Y : List Int) (G : Bool) (q : St9) : Prop where
 ok : Ok9 q
 row : q.row.length = 1024
 nb : q.br = false
 e : q.e = -1 ∨ (q.e = (Y.length : Int) ∧ G = true)
 top : q.top ≤ Y.length
 at_ : ∀ i,q.came.getD i false = true → q.row.getD i 0 = Y.getD (q.p + i) 0
theorem ROk.fresh : ROk [] false (fresh9 1024) :=
 ⟨fresh_ok9 1024 (by omega) (by omega),List.length_replicate,rfl,.inl rfl,Nat.zero_le _,fun i hi => by simp only [fresh9] at hi;rw [getD_rep'] at hi;cases hi⟩
theorem ROk.left {Y : List Int} {G : Bool} {q : St9} (h : ROk Y G q) : q.p ≤ Y.length:=Nat.le_trans h.ok.pt h.top
theorem ROk.more {Y : List Int} {q : St9} (h : ROk Y false q) (b : List Int) (G : Bool) : ROk (Y ++ b) G q:=by
 refine ⟨h.ok,h.row,h.nb,?_,by have:=h.top;simp;omega,fun i hi => ?_⟩
 ·rcases h.e with e | ⟨_,e⟩
  ·exact .inl e
  ·cases e
 ·rw [h.at_ i hi,getD_app,if_pos]
  have:=h.ok.cm i hi
  have:=h.top
  omega
structure Says (Y : List Int) (G : Bool) (o : Nat) (d : List Int) (fin : Bool) : Prop where
 le : o + d.length ≤ Y.length
 is : d = (Y.drop o).take d.length
 fin : fin = true → G = true ∧ o + d.length = Y.length
theorem Says.get {Y : List Int} {G : Bool} {o : Nat} {d : List Int} {fin : Bool} (h : Says Y G o d fin) {i : Nat} (hi : i < d.length) : d.getD i 0 = Y.getD (o + i) 0:=by
 have hl:=h.le
 rw [h.is]
 simp [List.getD,hi]
theorem rok_data {Y : List Int} {G : Bool} {q : St9} (h : ROk Y G q) {o : Nat} {d : List Int} {fin : Bool} (hs : Says Y G o d fin) :
  ROk Y G (dataE q o d fin).1 ∧ (dataE q o d fin).1.p = q.p:=by
 have hok:=data_ok h.ok (o : Int) d fin
 generalize hR : dataE q o d fin = R at hok ⊢
 unfold dataE at hR
 split at hR
 ·subst hR;exact ⟨h,rfl⟩
 split at hR
 ·subst hR;exact ⟨h,rfl⟩
 split at hR
 ·subst hR;exact ⟨h,rfl⟩
 split at hR
 ·subst hR;exact ⟨h,rfl⟩
 subst hR
 rw [Int.toNat_natCast] at hok ⊢
 refine ⟨⟨hok,?_,?_,?_,?_,?_⟩,take_p _ _⟩
 ·show (takeE9 q o d).row.length = 1024
  rw [take_row];exact h.row
 ·show (takeE9 q o d).br = false
  rw [take_br];exact h.nb
 ·show (if fin = true then (o : Int) + d.length else q.e) = -1 ∨ (if fin = true then (o : Int) + d.length else q.e) = (Y.length : Int) ∧ G = true
  split
  ·rename_i hf;have:=hs.fin hf;exact .inr ⟨by omega,this.1⟩
  ·exact h.e
 ·show (takeE9 q o d).top ≤ Y.length
  have h1:=(take_top (q:=q) o d).2
  have h2:=h.top
  have h3:=hs.le
  omega
 ·intro i hi
  show (takeE9 q o d).row.getD i 0 = Y.getD ((takeE9 q o d).p + i) 0
  rw [take_p]
  have hi' : (takeE9 q o d).came.getD i false = true:=hi
  unfold takeE9 at hi' ⊢
  split at hi'
  ·rename_i hb;rw [if_pos hb];exact h.at_ i hi'
  ·rename_i hb
   rw [if_neg hb]
   simp only at hi' ⊢
   have hcl:=h.ok.len
   have hil : i < q.came.length:=by
    rcases Nat.lt_or_ge i q.came.length with h1 | h1
    ·exact h1
    ·rw [getD_ge (by rw [mixC_len];exact h1)] at hi';cases hi'
   rw [mixC_get hil] at hi'
   rw [mixR_get (by omega)]
   by_cases hc : q.came.getD i false = true
   ·rw [if_pos hc];exact h.at_ i hc
   ·rw [if_neg hc]
    have hin : o ≤ q.p + i ∧ q.p + i < o + d.length:=by
     cases hcc : q.came.getD i false
     ·rw [hcc,Bool.false_or,decide_eq_true_eq] at hi';exact hi'
     ·exact absurd hcc hc
    rw [if_pos hin,hs.get (by omega)]
    congr 1;omega
theorem rok_read {Y : List Int} {G : Bool} {q : St9} (h : ROk Y G q) (n : Int) :
  ROk Y G (readE q n).1 ∧ (readE q n).2 = (Y.drop q.p).take (readE q n).2.length ∧ q.p + (readE q n).2.length ≤ Y.length ∧ (readE q n).1.p = q.p + (readE q n).2.length ∧ ((readE q n).2.length : Int) ≤ max n 0:=by
 have hok:=read_ok h.ok n
 have hcl:=h.ok.len
 have hrow:=h.row
 have hrl:=h.ok.ready_le
 generalize hR : readE q n = R at hok ⊢
 unfold readE at hR
 split at hR
 ·subst hR
  exact ⟨h,by simp,by have:=h.left;simpa using this,by simp,by simp;omega⟩
 rename_i hm
 generalize hk : (min n (readyN q : Int)).toNat = k at hR
 have hk1 : 1 ≤ k:=by omega
 have hk2 : k ≤ readyN q:=by omega
 subst hR
 have hl : (q.row.take k).length = k:=by rw [List.length_take];omega
 have hc : ∀ i,i < k → q.came.getD i false = true:=fun i hi => by have:=lead_lt true false q.came i (by unfold readyN at hk2;omega);exact this
 have htop:=h.top
 have hlast:=h.ok.cm (k - 1) (hc _ (by omega))
 refine ⟨⟨hok,?_,h.nb,h.e,h.top,?_⟩,?_,?_,?_,?_⟩
 ·show (splice q.row 0 (q.row.drop k)).length = 1024
  simp [splice];omega
 ·intro i hi
  show (splice q.row 0 (q.row.drop k)).getD i 0 = Y.getD (q.p + k + i) 0
  have hi' : (q.came.drop k ++ List.replicate k false).getD i false = true:=hi
  rw [getD_app] at hi'
  split at hi'
  ·rename_i hil
   rw [List.length_drop] at hil
   rw [getD_drop] at hi'
   rw [getD_splice _ _ _ _ _ (by simp),if_pos ⟨Nat.zero_le _,by simp;omega⟩,Nat.sub_zero,getD_drop,h.at_ _ hi']
   congr 1;omega
  ·rw [getD_rep'] at hi';cases hi'
 ·rw [hl]
  apply List.ext_getElem
  ·simp;omega
  ·intro i h1 h2
   simp only [List.length_take] at h1
   have h3:=h.at_ i (hc i (by omega))
   rw [getD_lt (by omega)] at h3
   simp only [List.getElem_take,List.getElem_drop]
   rw [h3,getD_lt (by omega)]
 ·rw [hl];omega
 ·rw [hl];rfl
 ·rw [hl];omega
end Go.Proofs.YtmcomdmcmnbhlaaGreatDoor
