import Derived.Test.YtmcomdmcmnbhlaaGreatDoorKCn0
import Derived.Test.YtmcomdmcmnbhlaaGreatDoorKSp1
import Derived.Test.YtmcomdmcmnbhlaaGreatDoorKLBe0
import Derived.Test.YtmcomdmcmnbhlaaGreatDoorKSp0
import Derived.Test.YtmcomdmcmnbhlaaGreatDoorKCn5
import Derived.Test.YtmcomdmcmnbhlaaGreatDoorKFr0
set_option maxRecDepth 100000
set_option maxHeartbeats 25600000
set_option linter.unusedSimpArgs false
set_option linter.unusedVariables false
set_option linter.unnecessarySimpa false
namespace Go.Proofs.YtmcomdmcmnbhlaaGreatDoor
open Go.RowKit
structure NearIs (l : List (Int × Int)) (n : Int) (f : Nat) : Prop where
 le : f ≤ l.length
 lo : ∀ i,i < f → (l.getD i (0,0)).2 < n - 1
 hi : f < l.length → n - 1 ≤ (l.getD f (0,0)).2
theorem add_skip {n : Int} : ∀ {a b : List (Int × Int)},(∀ s ∈ a,s.2 < n - 1) → addR (a ++ b) n n = a ++ addR b n n
 | [],_,_ => rfl
 | s :: a,b,h => by
   rw [List.cons_append,addR,if_pos (h s (by simp)),add_skip (fun x hx => h x (by simp [hx])),List.cons_append]
theorem add_stop {f t : Int} {r : List (Int × Int)} (h : riseB (t + 2) r = true) (hft : f ≤ t) : addR r f t = (f,t) :: r:=by
 cases r with
 | nil => rfl
 | cons s r =>
   have:=(rise_cons.1 h).1
   rw [addR,if_neg (by omega),if_pos (by omega)]
theorem add_two {l : List (Int × Int)} {n : Int} {f : Nat} (hr : riseB 0 l = true) (hn : 0 ≤ n) (h : NearIs l n f) :
  addR l n n = l.take f ++ addR ((l.drop f).take (min (f + 2) l.length - f)) n n ++ l.drop (min (f + 2) l.length):=by
 have hlo : ∀ s ∈ l.take f,s.2 < n - 1:=fun s hs => by
  obtain ⟨i,hi,rfl⟩:=List.mem_iff_getElem.1 hs
  simp only [List.length_take] at hi
  have:=h.lo i (by omega)
  simpa [List.getD,show i < l.length by omega] using this
 have hsplit : addR l n n = l.take f ++ addR (l.drop f) n n:=by
  conv => lhs;rw [← List.take_append_drop f l]
  exact add_skip hlo
 have hrd : ∃ m,riseB m (l.drop f) = true:=by
  have : ∀ (l : List (Int × Int)) (m : Int) (f : Nat),riseB m l = true → ∃ k,riseB k (l.drop f) = true:=by
   intro l
   induction l with
   | nil => intro m f h;exact ⟨0,by simp [riseB]⟩
   | cons s r ih =>
     intro m f h
     cases f with
     | zero => exact ⟨m,h⟩
     | succ f => exact ih _ f (rise_cons.1 h).2
  exact this l 0 f hr
 obtain ⟨m,hm⟩:=hrd
 have hhi : ∀ s r,l.drop f = s :: r → n - 1 ≤ s.2:=fun s r e => by
  have hf : f < l.length:=by
   rcases Nat.lt_or_ge f l.length with h1 | h1
   ·exact h1
   ·rw [List.drop_eq_nil_of_le h1] at e;cases e
  have h1:=h.hi hf
  have h2 : (l.drop f).head? = some s:=by rw [e];rfl
  rw [List.head?_drop,List.getElem?_eq_getElem hf] at h2
  cases h2
  simpa [List.getD,hf] using h1
 rw [hsplit,List.append_assoc]
 congr 1
 have hdd : l.drop (min (f + 2) l.length) = (l.drop f).drop (min (f + 2) l.length - f):=by
  rw [List.drop_drop];congr 1
  have:=h.le
  omega
 rw [hdd]
 have hlen : (l.drop f).length = l.length - f:=List.length_drop
 generalize hd : l.drop f = d at hm hlen hhi
 match d,hm,hlen,hhi with
 | [],_,_,_ => simp [addR]
 | [s],hm,hlen,_ =>
   simp only [List.length_cons,List.length_nil] at hlen
   rw [show min (f + 2) l.length - f = 1 by omega]
   simp
 | s1 :: s2 :: r,hm,hlen,hhi =>
   simp only [List.length_cons] at hlen
   rw [show min (f + 2) l.length - f = 2 by omega]
   obtain ⟨h1,h2⟩:=rise_cons.1 hm
   obtain ⟨h3,h4⟩:=rise_cons.1 h2
   have hn1:=hhi s1 (s2 :: r) rfl
   simp only [List.take_succ_cons,List.take_zero,List.drop_succ_cons,List.drop_zero]
   rw [addR,if_neg (by omega)]
   rw [show addR [s1,s2] n n = if n < s1.1 - 1 then (n,n) :: [s1,s2] else addR [s2] (min n s1.1) (max n s1.2) by rw [addR,if_neg (by omega)]]
   by_cases hlt : n < s1.1 - 1
   ·rw [if_pos hlt,if_pos hlt];simp
   ·rw [if_neg hlt,if_neg hlt]
    have hmx : max n s1.2 ≤ s1.2 + 1:=by omega
    rw [addR,if_neg (by omega),show addR [s2] (min n s1.1) (max n s1.2) = if max n s1.2 < s2.1 - 1 then (min n s1.1,max n s1.2) :: [s2] else [(min (min n s1.1) s2.1,max (max n s1.2) s2.2)] by rw [addR.eq_2,if_neg (by omega),addR]]
    by_cases h5 : max n s1.2 < s2.1 - 1
    ·rw [if_pos h5,if_pos h5];simp
    ·rw [if_neg h5,if_neg h5,add_stop (r:=r) (rise_mono h4 (by omega)) (by omega)]
     simp [addR]
theorem rise_part {l : List (Int × Int)} (h : riseB 0 l = true) (f k : Nat) : riseB 0 ((l.drop f).take k) = true:=by
 have d : ∀ (l : List (Int × Int)) (m : Int) (f : Nat),riseB m l = true → riseB m (l.drop f) = true:=by
  intro l
  induction l with
  | nil => intro m f h;simpa using h
  | cons s r ih =>
    intro m f h
    cases f with
    | zero => exact h
    | succ f =>
      obtain ⟨h1,h2⟩:=rise_cons.1 h
      exact rise_mono (ih _ f h2) (by omega)
 have t : ∀ (l : List (Int × Int)) (m : Int) (k : Nat),riseB m l = true → riseB m (l.take k) = true:=by
  intro l
  induction l with
  | nil => intro m k h;simpa using h
  | cons s r ih =>
    intro m k h
    cases k with
    | zero => simp [riseB]
    | succ k =>
      obtain ⟨h1,h2⟩:=rise_cons.1 h
      exact rise_cons.2 ⟨h1,ih _ k h2⟩
 exact t _ _ _ (d _ _ _ h)
theorem add_lenK (l : List (Int × Int)) (n t : Int) : (addR l n t).length ≤ l.length + 1:=by
 induction l generalizing n t with
 | nil => simp [addR]
 | cons s r ih =>
   rw [addR]
   split
   ·have:=ih n t;simp;omega
   ·split
    ·simp
    ·have:=ih (min n s.1) (max t s.2);simp;omega
theorem add_posK (l : List (Int × Int)) (n t : Int) : 0 < (addR l n t).length:=by
 induction l generalizing n t with
 | nil => simp [addR]
 | cons s r ih =>
   rw [addR]
   split
   ·simp
   ·split
    ·simp
    ·exact ih _ _
theorem ncl_any (i b o m c bl bn : Nat) (n y : Int) (w : World) (him : i < m) (hm : m < 4611686018427387904) (hn : 0 ≤ n ∧ n ≤ 4611686018427387903)
  (hl : w.cell? ⟨bl,0,none⟩ = some (.slice (some ⟨b,o,none⟩) m c)) (hc : w.cell? ⟨bn,0,none⟩ = some (.int .i64 n))
  (q1 : w.cell? ⟨b,o + i * 2 + 1,none⟩ = some (.int .i64 y)) :
  Calls Tryz.prog 123 #[.int .i64 i,.pointer (some ⟨bl,0,none⟩),.pointer (some ⟨bn,0,none⟩)] w fun e w' => e = .returned (.bool (decide (n - 1 ≤ y))) ∧ Below w.heap.size w w':=by
 have hi1 : (i : Int) < (m : Int):=by omega
 have hi2 : (0 : Int) ≤ (i : Int):=by omega
 have hw1 : IntKind.i64.wrap (n - 1) = n - 1:=by rw [IntKind.wrap_i64];omega
 go_enter Tryz.func123,Tryz.ntmps123
 go_wp2_with fail
 have d0 : w.drew.cell? ⟨bl,0,none⟩ = some (.slice (some ⟨b,o,none⟩) m c):=hl
 have d1 : w.drew.cell? ⟨bn,0,none⟩ = some (.int .i64 n):=hc
 have d2 : w.drew.cell? ⟨b,o + i * 2 + 1,none⟩ = some (.int .i64 y):=q1
 go_quiet (fail)
 go_wp2
 go_ret
 exact ⟨ret_bool (by rw [Bool.eq_iff_iff]),qbd (qbr _ w) _⟩
def NearS (ss : List (Int × Int)) (n : Int) (w : World) (e : Ending) (w' : World) : Prop :=
 ∃ f j : Nat,NearIs ss n f ∧ j = min (f + 2) ss.length ∧ e = .returned (.tuple #[.int .i64 f,.int .i64 j]) ∧ Below w.heap.size w w'
theorem near_row (b o c : Nat) (ss : List (Int × Int)) (n : Int) (w : World) (hr : RdS w (.slice (some ⟨b,o,none⟩) ss.length c) ss) (hi : riseB 0 ss = true) (hm : ss.length < 4611686018427387903) (hn : 0 ≤ n ∧ n ≤ 4611686018427387903) :
  Calls Tryz.prog 77 #[.slice (some ⟨b,o,none⟩) ss.length c,.int .i64 n] w (NearS ss n w):=by
 have BA : Hid (Below w.heap.size w ((w.alloc (.cells #[.slice (some ⟨b,o,none⟩) ss.length c] 64)).alloc (.cells #[.int .i64 n] 3))):=((qbr _ w).alloc (qlr _) _).alloc (by simp) _
 have ca : ((w.alloc (.cells #[.slice (some ⟨b,o,none⟩) ss.length c] 64)).alloc (.cells #[.int .i64 n] 3)).cell? ⟨w.heap.size,0,none⟩ = some (.slice (some ⟨b,o,none⟩) ss.length c) :=
  (Below.cell ((qbr (w.heap.size + 1) (w.alloc (.cells #[.slice (some ⟨b,o,none⟩) ss.length c] 64))).alloc (by simp) _) (p:=⟨w.heap.size,0,none⟩) (by simp)).trans (by rw [World.cell?_alloc_at _ _ _ _ rfl];rfl)
 have cf : ((w.alloc (.cells #[.slice (some ⟨b,o,none⟩) ss.length c] 64)).alloc (.cells #[.int .i64 n] 3)).cell? ⟨w.heap.size + 1,0,none⟩ = some (.int .i64 n):=by
  rw [World.cell?_alloc_at _ _ _ _ (by simp)];rfl
 have hz : ((w.alloc (.cells #[.slice (some ⟨b,o,none⟩) ss.length c] 64)).alloc (.cells #[.int .i64 n] 3)).heap.size = w.heap.size + 2:=by simp
 generalize hW : (w.alloc (.cells #[.slice (some ⟨b,o,none⟩) ss.length c] 64)).alloc (.cells #[.int .i64 n] 3) = W0 at BA ca cf hz
 have hs:=search_any 123 #[.pointer (some ⟨w.heap.size,0,none⟩),.pointer (some ⟨w.heap.size + 1,0,none⟩)] ss.length (fun i => decide (n - 1 ≤ (ss.getD i (0,0)).2)) W0
  (enters_of Tryz.func123 (by kernel_rfl) rfl) (by omega)
  (fun W i hi hbW => by
   have hB : Below w.heap.size w W:=BA.out.trans (hbW.mono BA.out.size)
   obtain ⟨q0,q1⟩:=(hr.below hB).cells rfl i hi
   exact ncl_any i b o ss.length c w.heap.size (w.heap.size + 1) n _ W hi (by omega) hn ((hbW.cell (p:=⟨w.heap.size,0,none⟩) (by rw [hz];exact Nat.lt_succ_of_lt (Nat.lt_succ_self _))).trans ca) ((hbW.cell (p:=⟨w.heap.size + 1,0,none⟩) (by rw [hz];exact Nat.lt_succ_self _)).trans cf) q1)
  (fun a b hab hbl h => by
   rcases Nat.lt_or_eq_of_le hab with h1 | rfl
   ·have h2:=rise_get hi h1 hbl
    have h3:=rise_getD hi hbl
    simp only [decide_eq_true_eq] at h ⊢;omega
   ·exact h)
 have HS:=qhi hs
 have CA:=qhi ca
 clear hs hr hi ca cf
 go_enter Tryz.func77,Tryz.ntmps77
 subst hW
 have hw2 : ∀ k : Nat,k ≤ ss.length → IntKind.i64.wrap ((k : Int) + 2) = (k : Int) + 2:=fun k hk => by rw [IntKind.wrap_i64];omega
 go_wp2_with (go_at_call 122;refine HS.out.mono ?_;rintro e w2 ⟨k,rfl,h1,h2,h3,hb2⟩)
 have c2:=(hb2.cell (p:=⟨w.heap.size,0,none⟩) (by rw [hz];exact Nat.lt_succ_of_lt (Nat.lt_succ_self _))).trans CA.out
 have B2:=qhi (BA.out.trans (hb2.mono BA.out.size))
 have N:=qhi (show NearIs ss n k from ⟨h1,fun i hi => by simpa using h2 i hi,fun h => by simpa using h3 k (qlr _) h⟩)
 have hw3:=hw2 k h1
 clear h2 h3 hb2 HS CA BA hz hw2
 have d2 : w2.drew.cell? ⟨w.heap.size,0,none⟩ = some (.slice (some ⟨b,o,none⟩) ss.length c):=c2
 go_region
 go_wp2
 ·have e1 : min (k + 2) ss.length = ss.length:=by omega
  go_ret2
  exact ⟨k,ss.length,N.out,e1.symm,by rfl,qbd B2.out _⟩
 ·have e1 : min (k + 2) ss.length = k + 2:=by omega
  go_ret2
  exact ⟨k,k + 2,N.out,e1.symm,by rfl,qbd B2.out _⟩
theorem near_none (a : Option Addr) (c : Nat) (n : Int) (w : World) :
  Calls Tryz.prog 77 #[.slice a 0 c,.int .i64 n] w (NearS [] n w):=by
 have BA : Hid (Below w.heap.size w ((w.alloc (.cells #[.slice a 0 c] 64)).alloc (.cells #[.int .i64 n] 3))):=((qbr _ w).alloc (qlr _) _).alloc (by simp) _
 have ca : ((w.alloc (.cells #[.slice a 0 c] 64)).alloc (.cells #[.int .i64 n] 3)).cell? ⟨w.heap.size,0,none⟩ = some (.slice a 0 c) :=
  (Below.cell ((qbr (w.heap.size + 1) (w.alloc (.cells #[.slice a 0 c] 64))).alloc (by simp) _) (p:=⟨w.heap.size,0,none⟩) (by simp)).trans (by rw [World.cell?_alloc_at _ _ _ _ rfl];rfl)
 have hz : ((w.alloc (.cells #[.slice a 0 c] 64)).alloc (.cells #[.int .i64 n] 3)).heap.size = w.heap.size + 2:=by simp
 generalize hW : (w.alloc (.cells #[.slice a 0 c] 64)).alloc (.cells #[.int .i64 n] 3) = W0 at BA ca hz
 have hs:=search_any 123 #[.pointer (some ⟨w.heap.size,0,none⟩),.pointer (some ⟨w.heap.size + 1,0,none⟩)] 0 (fun _ => true) W0
  (enters_of Tryz.func123 (by kernel_rfl) rfl) (by omega) (fun W i hi _ => absurd hi (Nat.not_lt_zero _)) (fun a b _ hb _ => rfl)
 have HS:=qhi hs
 have CA:=qhi ca
 clear hs ca
 go_enter Tryz.func77,Tryz.ntmps77
 subst hW
 go_wp2_with (go_at_call 122;refine HS.out.mono ?_;rintro e w2 ⟨k,rfl,h1,h2,h3,hb2⟩)
 obtain rfl : k = 0:=by omega
 have c2:=(hb2.cell (p:=⟨w.heap.size,0,none⟩) (by rw [hz];exact Nat.lt_succ_of_lt (Nat.lt_succ_self _))).trans CA.out
 have B2:=qhi (BA.out.trans (hb2.mono BA.out.size))
 clear h1 h2 h3 hb2 HS CA BA hz
 have d2 : w2.drew.cell? ⟨w.heap.size,0,none⟩ = some (.slice a 0 c):=c2
 go_region
 go_wp2
 go_ret2
 exact ⟨0,0,⟨qlr _,fun i hi => absurd hi (Nat.not_lt_zero _),fun h => absurd h (Nat.lt_irrefl _)⟩,rfl,by rfl,qbd B2.out _⟩
theorem near_any {v : Value} {ss : List (Int × Int)} {n : Int} {w : World} (hr : RdS w v ss) (hi : riseB 0 ss = true) (hm : ss.length < 4611686018427387903) (hn : 0 ≤ n ∧ n ≤ 4611686018427387903) :
  Calls Tryz.prog 77 #[v,.int .i64 n] w (NearS ss n w):=by
 by_cases h0 : ss = []
 ·subst h0
  obtain ⟨a,c,rfl,_⟩:=hr.isSlice
  exact near_none a c n w
 ·obtain ⟨b,o,c,rfl,_⟩:=hr.form h0
  exact near_row b o c ss n w hr hi hm hn
theorem RdS.mid {w : World} {b o c : Nat} {ss : List (Int × Int)} (h : RdS w (.slice (some ⟨b,o,none⟩) ss.length c) ss) {i j : Nat} (hij : i ≤ j) (hj : j ≤ ss.length) (ao : Option Addr) (hao : ¬ c = i → ao = some ⟨b,o + i * 2,none⟩) (hn : ao ≠ none) :
  RdS w (.slice ao (j - i) (c - i)) ((ss.drop i).take (j - i)) :=
 h.cutAny i (j - i) (by omega) ao (fun hc => by rw [hao hc];simp [Addr.add]) hn
theorem RdS.part {w : World} {a : Option Addr} {c : Nat} {ss : List (Int × Int)} (h : RdS w (.slice a ss.length c) ss) {i j : Nat} (hij : i ≤ j) (hj : j ≤ ss.length) (ao : Option Addr) (hao : ¬ c = i → ao = a.map (fun x => x.add (i * 2))) :
  RdS w (.slice ao (j - i) (c - i)) ((ss.drop i).take (j - i)):=by
 obtain ⟨a',c',e,hc1,hc2⟩:=h.isSlice
 cases e
 have hlen : ((ss.drop i).take (j - i)).length = j - i:=by simp only [List.length_take,List.length_drop];omega
 rcases Nat.eq_zero_or_pos (j - i) with h0 | h0
 ·rw [h0,List.take_zero]
  refine ⟨rfl,.inl ⟨rfl,ao,c - i,rfl,by omega,fun hn => ?_⟩⟩
  by_cases hci : c = i
  ·omega
  ·rw [hao hci] at hn
   obtain ⟨_,⟨_,a2,c2,e,_,h2⟩ | ⟨_,b,o,c2,e,_⟩⟩:=h
   ·simp only [Value.slice.injEq] at e
    obtain ⟨rfl,_,rfl⟩:=e
    cases a with
    | none => rw [h2 rfl];omega
    | some x => cases hn
   ·simp only [Value.slice.injEq] at e
    obtain ⟨rfl,_,_⟩:=e
    cases hn
 ·obtain ⟨b,o,c2,e,_⟩:=h.form (by intro h1;rw [h1] at hj;simp at hj;omega)
  cases e
  have hci : ¬ c = i:=by omega
  exact h.mid hij hj ao (fun hc => by rw [hao hc];simp [Addr.add]) (by rw [hao hci];simp)
theorem in_appendL {n : Int} : ∀ {a b : List (Int × Int)},inB5 n (a ++ b) = (inB5 n a || inB5 n b)
 | [],_ => by simp [inB5]
 | s :: a,b => by rw [List.cons_append,inB5,inB5,in_appendL,Bool.or_assoc]
theorem in_noneL {n : Int} : ∀ {a : List (Int × Int)},(∀ s ∈ a,n < s.1 ∨ s.2 < n) → inB5 n a = false
 | [],_ => rfl
 | s :: a,h => by
   rw [inB5,in_noneL (fun x hx => h x (by simp [hx])),Bool.or_false]
   have:=h s (by simp)
   simp;omega
theorem in_part {ss : List (Int × Int)} {n : Int} {f j : Nat} (hr : riseB 0 ss = true) (h : NearIs ss n f) (ej : j = min (f + 2) ss.length) : inB5 n ((ss.drop f).take (j - f)) = inB5 n ss:=by
 have hf:=h.le
 have h1 : inB5 n (ss.take f) = false:=in_noneL fun s hs => by
  obtain ⟨i,hi,rfl⟩:=List.mem_iff_getElem.1 hs
  simp only [List.length_take] at hi
  have h2:=h.lo i (by omega)
  rw [List.getD_eq_getElem?_getD,List.getElem?_eq_getElem (show i < ss.length by omega),Option.getD_some] at h2
  rw [List.getElem_take]
  omega
 have h2 : inB5 n (ss.drop j) = false:=in_noneL fun s hs => by
  obtain ⟨i,hi,rfl⟩:=List.mem_iff_getElem.1 hs
  simp only [List.length_drop] at hi
  have h3:=rise_get hr (show f < j + i by omega) (show j + i < ss.length by omega)
  have h4:=h.hi (by omega)
  rw [List.getD_eq_getElem?_getD (i:=j + i),List.getElem?_eq_getElem (show j + i < ss.length by omega),Option.getD_some] at h3
  rw [List.getElem_drop]
  omega
 have e : ss = ss.take f ++ ((ss.drop f).take (j - f) ++ ss.drop j):=by
  conv => lhs;rw [← List.take_append_drop f ss,← List.take_append_drop (j - f) (ss.drop f),List.drop_drop,show f + (j - f) = j by omega]
 conv => rhs;rw [e,in_appendL,in_appendL,h1,h2,Bool.false_or,Bool.or_false]
theorem nhas_any {v : Value} {ss : List (Int × Int)} {n : Int} {w : World} (hr : RdS w v ss) (hi : riseB 0 ss = true) (hm : ss.length < 4611686018427387903) (hn : 0 ≤ n ∧ n ≤ 4611686018427387903) :
  Calls Tryz.prog 43 #[v,.int .i64 n] w fun e w' => e = .returned (.bool (inB5 n ss)) ∧ Below w.heap.size w w':=by
 have HI:=qhi hi
 have HN:=qhi (near_any hr hi hm hn)
 obtain ⟨a,c,rfl,hc1,hc2⟩:=hr.isSlice
 have HR:=qhi hr
 clear hr hi
 go_enter Tryz.func43,Tryz.ntmps43
 have HP : Hid (∀ (f j cc : Nat) (w2 : World) (ao : Option Addr),cc = c - f → Below w.heap.size w w2 → NearIs ss n f → j = min (f + 2) ss.length → (¬ c = f → ao = a.map (fun x => x.add (f * 2))) →
   Calls Tryz.prog 78 #[.slice ao (j - f) cc,.int .i64 n] w2 fun e w' => e = .returned (.bool (inB5 n ss)) ∧ Below w2.heap.size w2 w') :=
  fun f j cc w2 ao e hb N ej h => by
   have hf:=N.le
   have h1:=has_any _ _ n w2 ((HR.out.below hb).part (show f ≤ j by omega) (show j ≤ ss.length by omega) ao h)
   have h2 : rightB5 ((ss.drop f).take (j - f)) = true:=by
    have h3:=rise_part HI.out f (j - f)
    have h4 : ((ss.drop f).take (j - f)).length ≤ 256:=by simp only [List.length_take,List.length_drop];omega
    rw [rightB5,h3,qdt h4];rfl
   rw [h2,in_part HI.out N ej,Bool.true_and] at h1
   rw [e]
   exact h1
 have hle : ∀ f j : Nat,f ≤ ss.length → j = min (f + 2) ss.length → f ≤ j ∧ j ≤ c ∧ j ≤ ss.length:=fun f j hf ej => by omega
 clear HR HI
 go_wp2_with first
  | (go_at_call 77;refine HN.out.mono ?_;rintro e w2 ⟨f,j,N,ej,rfl,hb2⟩;obtain ⟨hj1,hj2,hj3⟩:=hle f j N.le ej;have B2:=qhi hb2;have NN:=qhi N;have EJ:=qhi ej;clear hb2 N HN ej hle)
  | (go_at_call 78;refine (HP.out _ _ _ _ _ (by omega) B2.out NN.out EJ.out (fun h => by first | rfl | exact absurd ‹_› h)).mono ?_;rintro e w3 ⟨rfl,hb3⟩)
 all_goals (go_ret;exact ⟨rfl,B2.out.trans (hb3.mono B2.out.size)⟩)
def topN (ss : List (Int × Int)) : Int:=if ss = [] then -1 else (ss.getD (ss.length - 1) (0,0)).2
theorem greatest_any {v : Value} {ss : List (Int × Int)} {w : World} (hr : RdS w v ss) (hm : ss.length < 4611686018427387903) :
  Calls Tryz.prog 42 #[v] w fun e w' => e = .returned (.int .i64 (topN ss)) ∧ Below w.heap.size w w':=by
 by_cases h0 : ss = []
 ·subst h0
  obtain ⟨a,c,rfl,_⟩:=hr.isSlice
  clear hr
  go_enter Tryz.func42,Tryz.ntmps42
  go_wp2_with fail
  go_wp2
  go_ret
  exact ⟨rfl,qbr _ _⟩
 ·obtain ⟨b,o,c,rfl,_⟩:=hr.form h0
  have hl : 0 < ss.length:=List.length_pos_iff.2 h0
  obtain ⟨q0,q1⟩:=hr.cells rfl (ss.length - 1) (by omega)
  have hc : ((ss.length - 1 : Nat) : Int) = (ss.length : Int) - 1:=by omega
  have ht : topN ss = (ss.getD (ss.length - 1) (0,0)).2:=if_neg h0
  rw [← ht] at q1
  generalize topN ss = y at q1 ⊢
  generalize hk : ss.length - 1 = k at q1 hc
  have he : decide ((ss.length : Int) = 0) = false:=qdf (by omega)
  have he' : ((ss.length : Int) == 0) = false:=by simpa using (by omega : ¬ ss.length = 0)
  have hw1 : IntKind.i64.wrap ((ss.length : Int) - 1) = (k : Int):=by rw [IntKind.wrap_i64];omega
  have hi1 : (k : Int) < (ss.length : Int):=by omega
  have hi2 : (0 : Int) ≤ (k : Int):=by omega
  clear hr q0 ht h0
  go_enter Tryz.func42,Tryz.ntmps42
  go_wp2
  go_ret
  exact ⟨rfl,qbr _ _⟩
theorem run_copy_rowM {P : Program} (w : World) (dT sT ty elem : TypeId) (m g o dLen dCap : Nat) (a : Addr) (sLen sCap : Nat) (cur : Array Value) (t : TypeId) (cs : List Value)
  (hu : P.underlying dT = some (.slice elem)) (hs : (P.info? elem).map (·.size) = some m)
  (hg : w.heap[g]? = some (.cells cur t (0,0))) (hn : cs.length = Nat.min sLen dLen * m)
  (hsrc : ∀ j v,cs[j]? = some v → w.cell? (a.add j) = some v) (hfit : o + cs.length ≤ cur.size) (h1 : ∀ v ∈ cs,v.oneCell' = true) :
  (Builtin.copy_ #[dT,sT] ty #[.slice (some ⟨g,o,none⟩) dLen dCap,.slice (some a) sLen sCap]).run P w =
   .ok (goInt (Nat.min sLen dLen)) (w.setRow g (splice cur.toList o cs).toArray):=by
 have hl:=run_loadCells_list (P:=P) w a cs hsrc
 have hst:=run_storeCells_at P g o t cs 0 cur w hg (by simpa using hfit) h1
 rw [splice_eq]
 cases hq : P.info? elem with
 | none => simp [hq] at hs
 | some i =>
   have hi : i.size = m:=by simpa [hq] using hs
   simp [Builtin.copy_,run_underlying hu,Builtin.lenOf,Builtin.firstCells,sizeOf,typeInfo,hq,hi,← hn,hl,hst]
theorem run_copy_noneM {P : Program} (w : World) (dT sT ty elem : TypeId) (m : Nat) (d a : Option Addr) (dLen dCap sLen sCap : Nat) (hu : P.underlying dT = some (.slice elem)) (hs : (P.info? elem).map (·.size) = some m) (hn : Nat.min sLen dLen = 0) :
  (Builtin.copy_ #[dT,sT] ty #[.slice d dLen dCap,.slice a sLen sCap]).run P w = .ok (goInt 0) w:=by
 cases hq : P.info? elem with
 | none => simp [hq] at hs
 | some i =>
   have hl : ∀ x : Addr,(loadCells x 0).run P w = .ok #[] w:=fun x => by simpa using run_loadCells_list (P:=P) w x [] (by simp)
   cases d <;> cases a <;> simp [Builtin.copy_,run_underlying hu,Builtin.lenOf,Builtin.firstCells,sizeOf,typeInfo,hq,hn,storeCells,hl]
theorem run_copy_spliceM {P : Program} (w : World) (dT sT ty elem : TypeId) (m : Nat) (hm : 0 < m) (hu : P.underlying dT = some (.slice elem)) (hsz : (P.info? elem).map (·.size) = some m)
  (dp sp : Option Addr) (dLen dCap sLen sCap : Nat) (g off : Nat) (cur : List Value) (t : TypeId) (hg : w.heap[g]? = some (.cells cur.toArray t (0,0))) (cs : List Value) (hn : cs.length = Nat.min sLen dLen * m)
  (hpos : 0 < cs.length → dp = some ⟨g,off,none⟩ ∧ ∃ ad,sp = some ad ∧ ∀ j v,cs[j]? = some v → w.cell? (ad.add j) = some v)
  (hfit : off + cs.length ≤ cur.length) (h1 : ∀ v ∈ cs,v.oneCell' = true) :
  ∃ w',(Builtin.copy_ #[dT,sT] ty #[.slice dp dLen dCap,.slice sp sLen sCap]).run P w = .ok (goInt (Nat.min sLen dLen)) w' ∧ w'.heap[g]? = some (.cells (splice cur off cs).toArray t (0,0)) ∧ w.grownBy w' (some g) ∧ w'.heap.size = w.heap.size:=by
 by_cases h0 : cs.length = 0
 ·have hz : Nat.min sLen dLen = 0:=by
   rw [h0] at hn
   rcases Nat.mul_eq_zero.1 hn.symm with h | h
   ·exact h
   ·omega
  obtain rfl : cs = []:=List.eq_nil_of_length_eq_zero h0
  refine ⟨w,?_,by rw [splice_eq];simpa using hg,World.grownBy.refl w _,rfl⟩
  rw [run_copy_noneM w dT sT ty elem m dp sp dLen dCap sLen sCap hu hsz hz,hz];rfl
 ·obtain ⟨rfl,ad,rfl,hsrc⟩:=hpos (by omega)
  refine ⟨_,run_copy_rowM w dT sT ty elem m g off dLen dCap ad sLen sCap cur.toArray t cs hu hsz hg hn hsrc (by simpa using hfit) h1,?_,?_,?_⟩
  ·simpa using setRow_heap w g _ _ t _ hg
  ·exact grown_setRow w g _
  ·simp [World.setRow]
theorem append_types {P : Program} (t t' ty e : TypeId) (b : Option Addr) (n c : Nat) (x : Value) (w : World) (ht : P.underlying t = some (.slice e)) (ht' : P.underlying t' = some (.slice e)) :
  (Builtin.append_ #[t,t'] ty #[.slice b n c,x]).run P w = (Builtin.append_ #[t,t] ty #[.slice b n c,x]).run P w:=by
 unfold Builtin.append_
 simp [run_underlying ht,run_underlying ht']
theorem wpList_append_at2 {P : Program} {ops : Array Oper} {rest : List Oper} {w : World} {o : Oper} {a : Act} {Q : Exit → Act → World → Prop} (hgd : o.guard = none) (s x : Operand) (t t' : TypeId)
  (ho : o.op = .call { callee:=.builtin .append,args:=#[s,x],argTypes:=#[t,t'] }) {e : TypeId} {m bytes : Nat} {z : Value} (hE : ElemC P e m bytes z) (ht : P.underlying t = some (.slice e)) (ht' : P.underlying t' = some (.slice e))
  (B : Nat) (v : Value) (n : Nat) (fl : List Value) (hs : a.eval s = v) (hown : w.ownsRow B e m v n fl) (u : Value) (k : Nat) (gl : List Value) (hx : a.eval x = u) (hr : RdC m w u k gl) (hk : 0 < k) (hone : ∀ u ∈ gl,u.oneCell' = true)
  (hby : (n + k) * bytes ≤ 140737488355328) (h63 : n + k ≤ maxLen) (hB : B ≤ w.heap.size)
  (h : ∀ v' w',w'.ownsRow B e m v' (n + k) (fl ++ gl) → w.grownBy w' v.ownBlock → (v'.ownBlock = v.ownBlock ∨ v'.ownBlock = some w.heap.size) → wpList P ops Q rest (a.put o.dst v') w') : wpList P ops Q (o :: rest) a w:=by
 refine wpList_plain hgd fun K hK => ?_
 obtain ⟨i,hi,hz,hsz,hbs⟩:=hE.info
 obtain ⟨hlen,⟨rfl,_⟩ | ⟨h0,b,off,c,rfl,h2,h3,h4,h5⟩⟩:=hr
 ·omega
 ·obtain ⟨v',w',hrun,q2,q3,_,q5⟩:=run_append_own_at (P:=P) w B t o.type e i z m bytes ht hi hz hsz hbs hE.size hE.pos v n _ hown ⟨b,off,none⟩ k c gl hlen (fun j u hu => by rw [Addr.add_lit];exact h5 j u hu) hone h63 hby hB
  obtain ⟨va,vc,rfl,_⟩:=(RdC.of_owns hown).isSlice
  rw [← append_types t t' _ e va n vc _ _ ht ht'] at hrun
  unfold Oper.wp execOp
  simp only [ho,resolve,invoke,builtin,Sem.run_bind,Sem.run_pure,Result.andThen_ok,List.map_toArray,List.map_cons,List.map_nil,hs,hx,hrun]
  exact hK _ _ (h v' w' q2 q3 q5)
def OwnN (w : World) (v : Value) (l : List (Int × Int)) : Prop:=w.ownsRow 0 151 2 v l.length (spC l)
theorem OwnN.reads {w : World} {v : Value} {l : List (Int × Int)} (h : OwnN w v l) : RdS w v l:=RdC.of_owns h
def NewRow (v : Value) (l : List (Int × Int)) (w : World) (e : Ending) (w' : World) : Prop :=
 ∃ v',e = .returned v' ∧ OwnN w' v' l ∧ w.grownBy w' v.ownBlock ∧ (v'.ownBlock = v.ownBlock ∨ ∃ j,v'.ownBlock = some j ∧ w.heap.size ≤ j)
theorem ins_end {v u : Value} {l xs : List (Int × Int)} {w : World} (h : OwnN w v l) (hu : RdS w u xs) (hx : 0 < xs.length) (hsm : l.length + xs.length < 1099511627776) :
  Calls Tryz.prog 172 #[v,.int .i64 l.length,u] w (NewRow v (l ++ xs) w):=by
 obtain ⟨a,c,rfl,hc1,hc2⟩:=h.reads.isSlice
 obtain ⟨ua,uc,rfl,hu1,hu2⟩:=hu.isSlice
 have he0 : ((xs.length : Int) == 0) = false:=by simpa using (by omega : ¬ xs.length = 0)
 have he0' : decide ((xs.length : Int) = 0) = false:=qdf (by omega)
 have hi1 : (l.length : Int) ≤ (l.length : Int):=Int.le_refl _
 have H:=qhi h
 have HU:=qhi hu
 clear h hu
 go_enter Tryz.func172,Tryz.ntmps172
 have hby : (l.length + xs.length) * 16 ≤ 140737488355328:=by omega
 have h63 : l.length + xs.length ≤ maxLen:=by unfold maxLen;omega
 go_wp2_with (at_builtin;(refine wpList_append_at2 rfl (.tmp 23) (.tmp 24) 64 63 rfl elemSpan Tryz.underlying64 Tryz.underlying63 0 _ _ _ rfl H.out _ _ _ rfl HU.out hx (spC_one xs) hby h63 (Nat.zero_le _) ?_;intro v' w' N1 N2 N3))
 all_goals
  have M1 : Hid (OwnN w' v' (l ++ xs)):=by
   show OwnN w' v' (l ++ xs)
   unfold OwnN
   rw [List.length_append,spC_append]
   exact N1
  have M2 : Hid (w.grownBy w' (Value.slice a l.length c).ownBlock):=by first | exact N2 | (rw [‹c = l.length›];exact N2)
  have M3 : Hid (v'.ownBlock = (Value.slice a l.length c).ownBlock ∨ v'.ownBlock = some w.heap.size):=by first | exact N3 | (rw [‹c = l.length›];exact N3)
  clear N1 N2 N3
  go_ret
 ·subst ‹c = l.length›
  exact ⟨v',rfl,M1.out,M2.out,M3.out.imp id fun h => ⟨_,h,qlr _⟩⟩
 ·exact ⟨v',rfl,M1.out,M2.out,M3.out.imp id fun h => ⟨_,h,qlr _⟩⟩
end Go.Proofs.YtmcomdmcmnbhlaaGreatDoor
