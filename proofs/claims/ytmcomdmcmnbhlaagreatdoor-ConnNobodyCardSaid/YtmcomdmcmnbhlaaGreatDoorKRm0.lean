import Derived.Test.YtmcomdmcmnbhlaaGreatDoorKLGen0
import Derived.Test.YtmcomdmcmnbhlaaGreatDoorKLKeep0
import Derived.BigQuiet
import Derived.Laws.Cover3
import Derived.Deep.OwnRows
import Derived.StillTailTactics
set_option maxRecDepth 100000
set_option maxHeartbeats 25600000
set_option linter.unusedSimpArgs false
set_option linter.unusedVariables false
set_option linter.unnecessarySimpa false
namespace Go.Proofs.YtmcomdmcmnbhlaaGreatDoor
open Go.RowKit
structure St9 where
 row : List Int
 came : List Bool
 p : Nat
 top : Nat
 e : Int
 br : Bool
theorem tt_of {b : Bool} (h : ¬ b = false) : b = true:=by simpa using h
theorem ff_of {b : Bool} (h : ¬ b = true) : b = false:=by simpa using h
def withinB9 (n a b : Int) : Bool:=decide (a ≤ n) && decide (n ≤ b)
theorem within_iff9 {n a b : Int} : withinB9 n a b = true ↔ a ≤ n ∧ n ≤ b:=by simp [withinB9]
theorem ext_getD {α : Type} (d : α) {l l' : List α} (hl : l.length = l'.length) (h : ∀ i,i < l.length → l.getD i d = l'.getD i d) : l = l':=by
 refine List.ext_getElem hl fun i h1 h2 => ?_
 have:=h i h1
 simpa [List.getD,h1,h2] using this
theorem getD_lt {α : Type} {l : List α} {i : Nat} {d : α} (h : i < l.length) : l.getD i d = l[i]:=by simp [List.getD,h]
theorem getD_ge {α : Type} {l : List α} {i : Nat} {d : α} (h : l.length ≤ i) : l.getD i d = d:=by simp [List.getD,h]
theorem getD_drop {α : Type} (l : List α) (j i : Nat) (d : α) : (l.drop j).getD i d = l.getD (j + i) d:=by simp [List.getD]
theorem getD_take {α : Type} (l : List α) (j i : Nat) (d : α) (h : i < j) : (l.take j).getD i d = l.getD i d:=by simp [List.getD,h]
theorem getD_rep {α : Type} (n i : Nat) (x d : α) (h : i < n) : (List.replicate n x).getD i d = x:=by simp [List.getD,h]
theorem getD_rep' {α : Type} (n i : Nat) (x : α) : (List.replicate n x).getD i x = x:=by
 by_cases h : i < n
 ·exact getD_rep n i x x h
 ·exact getD_ge (by simp;omega)
theorem getD_app {α : Type} (l l' : List α) (i : Nat) (d : α) : (l ++ l').getD i d = if i < l.length then l.getD i d else l'.getD (i - l.length) d:=by
 by_cases h : i < l.length
 ·rw [if_pos h];simp [List.getD,h,List.getElem?_append_left h]
 ·rw [if_neg h];simp [List.getD,List.getElem?_append_right (Nat.le_of_not_lt h)]
theorem getD_splice {α : Type} (L : List α) (o i : Nat) (cs : List α) (d : α) (h : o + cs.length ≤ L.length) : (splice L o cs).getD i d = if o ≤ i ∧ i < o + cs.length then cs.getD (i - o) d else L.getD i d:=by
 have ht : (L.take o).length = o:=by rw [List.length_take];omega
 unfold splice
 rw [getD_app,ht]
 by_cases h1 : i < o
 ·rw [if_pos h1,getD_take _ _ _ _ h1,if_neg (by omega)]
 ·rw [if_neg h1,getD_app]
  by_cases h2 : i - o < cs.length
  ·rw [if_pos h2,if_pos ⟨by omega,by omega⟩]
  ·rw [if_neg h2,getD_drop,if_neg (by omega),show o + cs.length + (i - o - cs.length) = i by omega]
theorem map_splice {α β : Type} (f : α → β) (L : List α) (o : Nat) (cs : List α) : (splice L o cs).map f = splice (L.map f) o (cs.map f):=by
 simp [splice,List.map_take,List.map_drop]
def lead (so : Bool) (cs : List Bool) : Nat:=(cs.takeWhile (fun c => c == so)).length
theorem lead_le (so : Bool) : ∀ cs : List Bool,lead so cs ≤ cs.length
 | [] => qlr _
 | c :: cs => by
   unfold lead
   rw [List.takeWhile_cons]
   split
   ·simp only [List.length_cons];have:=lead_le so cs;unfold lead at this;omega
   ·simp
theorem lead_lt (so d : Bool) : ∀ (cs : List Bool) (i : Nat),i < lead so cs → cs.getD i d = so
 | [],i,h => by simp [lead] at h
 | c :: cs,i,h => by
   unfold lead at h
   rw [List.takeWhile_cons] at h
   split at h
   ·rename_i hc
    cases i with
    | zero => simpa using hc
    | succ i =>
      simp only [List.length_cons] at h
      have:=lead_lt so d cs i (by unfold lead;omega)
      simpa [List.getD] using this
   ·simp at h
theorem lead_is (so : Bool) : ∀ (cs : List Bool) (k : Nat),k ≤ cs.length → (∀ i,i < k → cs.getD i false = so) → (k < cs.length → cs.getD k false ≠ so) → lead so cs = k
 | [],k,h,_,_ => by simp at h;subst h;rfl
 | c :: cs,k,h,h1,h2 => by
   unfold lead
   rw [List.takeWhile_cons]
   cases k with
   | zero =>
     have:=h2 (by simp)
     simp [List.getD] at this
     rw [if_neg (by simpa using this)];rfl
   | succ k =>
     have h0:=h1 0 (by omega)
     simp [List.getD] at h0
     rw [if_pos (by simpa using h0)]
     have:=lead_is so cs k (by simpa using h) (fun i hi => by have:=h1 (i + 1) (by omega);simpa [List.getD] using this) (fun hk => by have:=h2 (by simpa using hk);simpa [List.getD] using this)
     unfold lead at this
     simp [this]
def mixR (p : Nat) (row : List Int) (came : List Bool) (o : Nat) (b : List Int) : List Int :=
 (List.range row.length).map fun i => if came.getD i false = true then row.getD i 0 else if o ≤ p + i ∧ p + i < o + b.length then b.getD (p + i - o) 0 else row.getD i 0
def mixC (p : Nat) (came : List Bool) (o n : Nat) : List Bool:=(List.range came.length).map fun i => came.getD i false || decide (o ≤ p + i ∧ p + i < o + n)
theorem mixR_len (p : Nat) (row : List Int) (came : List Bool) (o : Nat) (b : List Int) : (mixR p row came o b).length = row.length:=by simp [mixR]
theorem mixC_len (p : Nat) (came : List Bool) (o n : Nat) : (mixC p came o n).length = came.length:=by simp [mixC]
theorem mixR_get {p : Nat} {row : List Int} {came : List Bool} {o : Nat} {b : List Int} {i : Nat} (h : i < row.length) :
  (mixR p row came o b).getD i 0 = if came.getD i false = true then row.getD i 0 else if o ≤ p + i ∧ p + i < o + b.length then b.getD (p + i - o) 0 else row.getD i 0:=by
 rw [getD_lt (by rw [mixR_len];exact h)]
 simp [mixR]
theorem mixC_get {p : Nat} {came : List Bool} {o n : Nat} {i : Nat} (h : i < came.length) : (mixC p came o n).getD i false = (came.getD i false || decide (o ≤ p + i ∧ p + i < o + n)):=by
 rw [getD_lt (by rw [mixC_len];exact h)]
 simp [mixC]
theorem mixR_start {p : Nat} {row : List Int} {came : List Bool} {o : Nat} {b : List Int} {k : Nat} (h : k = 0 ∨ o + k ≤ p) : mixR p row came o (b.take k) = row:=by
 refine ext_getD 0 (mixR_len ..) fun i hi => ?_
 rw [mixR_len] at hi
 rw [mixR_get hi]
 have hl : (b.take k).length ≤ k:=by rw [List.length_take];omega
 split
 ·rfl
 ·rw [if_neg (by omega)]
theorem mixC_start {p : Nat} {came : List Bool} {o k : Nat} (h : k = 0 ∨ o + k ≤ p) : mixC p came o k = came:=by
 refine ext_getD false (mixC_len ..) fun i hi => ?_
 rw [mixC_len] at hi
 rw [mixC_get hi,qdf (by omega),Bool.or_false]
theorem mixC_behind {p : Nat} {came : List Bool} {o k j i : Nat} (hp : p + j = o + k) (hi : j ≤ i) : (mixC p came o k).getD i false = came.getD i false:=by
 by_cases h : i < came.length
 ·rw [mixC_get h,qdf (by omega),Bool.or_false]
 ·rw [getD_ge (by rw [mixC_len];omega),getD_ge (by omega)]
theorem mixR_skip {p : Nat} {row : List Int} {came : List Bool} {o : Nat} {b : List Int} {k j n : Nat} (hp : p + j = o + k) (hk : k + n ≤ b.length) (hc : ∀ i,j ≤ i → i < j + n → came.getD i false = true) :
  mixR p row came o (b.take (k + n)) = mixR p row came o (b.take k):=by
 refine ext_getD 0 (by simp [mixR_len]) fun i hi => ?_
 rw [mixR_len] at hi
 rw [mixR_get hi,mixR_get hi]
 have l1 : (b.take (k + n)).length = k + n:=by rw [List.length_take];omega
 have l2 : (b.take k).length = k:=by rw [List.length_take];omega
 rw [l1,l2]
 by_cases h : came.getD i false = true
 ·rw [if_pos h,if_pos h]
 ·rw [if_neg h,if_neg h]
  have hn : ¬ (j ≤ i ∧ i < j + n):=fun x => h (hc i x.1 x.2)
  by_cases h1 : o ≤ p + i ∧ p + i < o + k
  ·rw [if_pos h1,if_pos ⟨h1.1,by omega⟩,getD_take _ _ _ _ (by omega),getD_take _ _ _ _ (by omega)]
  ·rw [if_neg h1,if_neg (by omega)]
theorem mixC_skip {p : Nat} {came : List Bool} {o k j n : Nat} (hp : p + j = o + k) (hc : ∀ i,j ≤ i → i < j + n → came.getD i false = true) : mixC p came o (k + n) = mixC p came o k:=by
 refine ext_getD false (by simp [mixC_len]) fun i hi => ?_
 rw [mixC_len] at hi
 rw [mixC_get hi,mixC_get hi]
 by_cases h : j ≤ i ∧ i < j + n
 ·rw [hc i h.1 h.2];simp
 ·congr 1
  rw [decide_eq_decide];omega
theorem mixR_fill {p : Nat} {row : List Int} {came : List Bool} {o : Nat} {b : List Int} {k j n : Nat} (hp : p + j = o + k) (hk : k + n ≤ b.length) (hj : j + n ≤ row.length) (hc : ∀ i,j ≤ i → i < j + n → came.getD i false = false) :
  mixR p row came o (b.take (k + n)) = splice (mixR p row came o (b.take k)) j ((b.drop k).take n):=by
 have l3 : ((b.drop k).take n).length = n:=by rw [List.length_take,List.length_drop];omega
 refine ext_getD 0 (by rw [length_splice _ _ _ (by rw [mixR_len,l3];exact hj)];simp [mixR_len]) fun i hi => ?_
 rw [mixR_len] at hi
 rw [mixR_get hi,getD_splice _ _ _ _ _ (by rw [mixR_len,l3];exact hj),mixR_get hi]
 have l1 : (b.take (k + n)).length = k + n:=by rw [List.length_take];omega
 have l2 : (b.take k).length = k:=by rw [List.length_take];omega
 rw [l1,l2,l3]
 by_cases h : j ≤ i ∧ i < j + n
 ·rw [if_pos h,hc i h.1 h.2,if_neg (by decide),if_pos (by omega),getD_take _ _ _ _ (by omega),getD_take _ _ _ _ (by omega),getD_drop]
  congr 1;omega
 ·rw [if_neg h]
  split
  ·rfl
  ·by_cases h1 : o ≤ p + i ∧ p + i < o + k
   ·rw [if_pos h1,if_pos ⟨h1.1,by omega⟩,getD_take _ _ _ _ (by omega),getD_take _ _ _ _ (by omega)]
   ·rw [if_neg h1,if_neg (by omega)]
theorem mixC_fill {p : Nat} {came : List Bool} {o k j n : Nat} (hp : p + j = o + k) (hj : j + n ≤ came.length) : mixC p came o (k + n) = splice (mixC p came o k) j (List.replicate n true):=by
 refine ext_getD false (by rw [length_splice _ _ _ (by rw [mixC_len,List.length_replicate];exact hj)];simp [mixC_len]) fun i hi => ?_
 rw [mixC_len] at hi
 rw [mixC_get hi,getD_splice _ _ _ _ _ (by rw [mixC_len,List.length_replicate];exact hj),mixC_get hi,List.length_replicate]
 by_cases h : j ≤ i ∧ i < j + n
 ·rw [if_pos h,getD_rep _ _ _ _ (by omega),qdt (by omega),Bool.or_true]
 ·rw [if_neg h]
  congr 1
  rw [decide_eq_decide];omega
def takeE9 (q : St9) (o : Nat) (b : List Int) : St9:=if b = [] then q else { q with row:=mixR q.p q.row q.came o b,came:=mixC q.p q.came o b.length,top:=max q.top (o + b.length) }
def mayEndB (q : St9) (x : Int) : Bool:=decide ((q.top : Int) ≤ x) && (decide (x = q.e) || decide (q.e = -1))
def dataE (q : St9) (off : Int) (b : List Int) (fin : Bool) : St9 × Int :=
 if withinB9 off 0 (4611686018427387903 - b.length) = false then (q,1)
 else if q.br = true then (q,18)
 else if (q.p + q.row.length : Int) < off + b.length then (q,7)
 else if (q.e ≠ -1 ∧ q.e < off + b.length) ∨ (fin = true ∧ mayEndB q (off + b.length) = false) then (q,8)
 else ({ takeE9 q off.toNat b with e:=if fin = true then off + b.length else q.e },0)
def readyN (q : St9) : Nat:=lead true q.came
def dropE9 (q : St9) (m : Nat) : St9:={ q with row:=splice q.row 0 (q.row.drop m),came:=q.came.drop m ++ List.replicate m false,p:=q.p + m }
def readE (q : St9) (n : Int) : St9 × List Int:=if min n (readyN q : Int) < 1 then (q,[]) else (dropE9 q (min n (readyN q : Int)).toNat,q.row.take (min n (readyN q : Int)).toNat)
def overB (q : St9) : Bool:=q.br || decide ((q.p : Int) = q.e)
def fresh9 (n : Nat) : St9:=⟨List.replicate n 0,List.replicate n false,0,0,-1,false⟩
structure Ok9 (q : St9) : Prop where
 len : q.came.length = q.row.length
 low : 1 ≤ q.row.length
 few : q.row.length ≤ 4096
 pt : q.p ≤ q.top
 big : q.top ≤ 4611686018427387903
 cm : ∀ i,q.came.getD i false = true → q.p + i < q.top
 en : q.e = -1 ∨ ((q.top : Int) ≤ q.e ∧ q.e ≤ 4611686018427387903)
 bk : q.br = true → (∀ i,q.came.getD i false = false) ∧ q.e ≠ -1
theorem Ok9.ready_le {q : St9} (h : Ok9 q) : readyN q ≤ q.row.length:=by have:=lead_le true q.came;rw [h.len] at this;exact this
theorem fresh_ok9 (n : Nat) (h : 1 ≤ n) (h2 : n ≤ 4096) : Ok9 (fresh9 n) :=
 ⟨by simp [fresh9],by simpa [fresh9] using h,by simpa [fresh9] using h2,qlr _,by simp [fresh9],fun i hi => (by simp only [fresh9] at hi;rw [getD_rep'] at hi;cases hi),.inl rfl,fun h => (by cases h)⟩
theorem take_row {q : St9} (o : Nat) (b : List Int) : (takeE9 q o b).row.length = q.row.length:=by
 unfold takeE9;split
 ·rfl
 ·exact mixR_len ..
theorem take_came {q : St9} (o : Nat) (b : List Int) : (takeE9 q o b).came.length = q.came.length:=by
 unfold takeE9;split
 ·rfl
 ·exact mixC_len ..
theorem take_p {q : St9} (o : Nat) (b : List Int) : (takeE9 q o b).p = q.p:=by unfold takeE9;split <;> rfl
theorem take_br {q : St9} (o : Nat) (b : List Int) : (takeE9 q o b).br = q.br:=by unfold takeE9;split <;> rfl
theorem take_top {q : St9} (o : Nat) (b : List Int) : q.top ≤ (takeE9 q o b).top ∧ (takeE9 q o b).top ≤ max q.top (o + b.length):=by
 unfold takeE9;split
 ·exact ⟨qlr _,Nat.le_max_left ..⟩
 ·exact ⟨Nat.le_max_left ..,qlr _⟩
theorem take_cm {q : St9} (o : Nat) (b : List Int) (h : ∀ i,q.came.getD i false = true → q.p + i < q.top) : ∀ i,(takeE9 q o b).came.getD i false = true → q.p + i < (takeE9 q o b).top:=by
 intro i hi
 unfold takeE9 at hi ⊢
 split at hi
 ·rename_i hb;rw [if_pos hb];exact h i hi
 ·rename_i hb
  rw [if_neg hb]
  by_cases hl : i < q.came.length
  ·simp only at hi ⊢
   rw [mixC_get hl] at hi
   simp only [Bool.or_eq_true,decide_eq_true_eq] at hi
   rcases hi with hi | hi
   ·have:=h i hi;omega
   ·omega
  ·rw [getD_ge (by simp only;rw [mixC_len];omega)] at hi;cases hi
theorem data_ways (q : St9) (off : Int) (b : List Int) (fin : Bool) :
  ((dataE q off b fin).1 = q ∧ (dataE q off b fin).2 ≠ 0) ∨
  (0 ≤ off ∧ off + b.length ≤ 4611686018427387903 ∧ q.br = false ∧ off + b.length ≤ q.p + q.row.length ∧ (q.e = -1 ∨ off + b.length ≤ q.e) ∧ (fin = true → (q.top : Int) ≤ off + b.length ∧ (off + b.length = q.e ∨ q.e = -1)) ∧
   dataE q off b fin = ({ takeE9 q off.toNat b with e:=if fin = true then off + b.length else q.e },0)):=by
 unfold dataE
 by_cases h1 : withinB9 off 0 (4611686018427387903 - b.length) = false
 ·rw [if_pos h1];exact .inl ⟨rfl,by simp⟩
 rw [if_neg h1]
 by_cases h2 : q.br = true
 ·rw [if_pos h2];exact .inl ⟨rfl,by simp⟩
 rw [if_neg h2]
 by_cases h3 : (q.p + q.row.length : Int) < off + b.length
 ·rw [if_pos h3];exact .inl ⟨rfl,by simp⟩
 rw [if_neg h3]
 by_cases h4 : (q.e ≠ -1 ∧ q.e < off + b.length) ∨ (fin = true ∧ mayEndB q (off + b.length) = false)
 ·rw [if_pos h4];exact .inl ⟨rfl,by simp⟩
 rw [if_neg h4]
 have w:=within_iff9.1 (tt_of h1)
 refine .inr ⟨w.1,by omega,ff_of h2,by omega,?_,fun hf => ?_,rfl⟩
 ·by_cases he : q.e = -1
  ·exact .inl he
  ·exact .inr (by
    have : ¬ q.e < off + b.length:=fun k => h4 (.inl ⟨he,k⟩)
    omega)
 ·have : mayEndB q (off + b.length) = true:=tt_of fun k => h4 (.inr ⟨hf,k⟩)
  simpa [mayEndB] using this
theorem data_ok {q : St9} (h : Ok9 q) (off : Int) (b : List Int) (fin : Bool) : Ok9 (dataE q off b fin).1:=by
 rcases data_ways q off b fin with ⟨e,_⟩ | ⟨h0,h1,h2,h3,h4,h5,e⟩
 ·rw [e];exact h
 ·rw [e]
  obtain ⟨t1,t2⟩:=take_top (q:=q) off.toNat b
  have ho : (off.toNat : Int) = off:=Int.toNat_of_nonneg h0
  refine ⟨?_,?_,?_,?_,?_,?_,?_,?_⟩
  ·show (takeE9 q off.toNat b).came.length = (takeE9 q off.toNat b).row.length
   rw [take_row,take_came];exact h.len
  ·show 1 ≤ (takeE9 q off.toNat b).row.length
   rw [take_row];exact h.low
  ·show (takeE9 q off.toNat b).row.length ≤ 4096
   rw [take_row];exact h.few
  ·show (takeE9 q off.toNat b).p ≤ (takeE9 q off.toNat b).top
   rw [take_p];exact Nat.le_trans h.pt t1
  ·show (takeE9 q off.toNat b).top ≤ _
   have:=h.big;omega
  ·intro i hi
   show (takeE9 q off.toNat b).p + i < (takeE9 q off.toNat b).top
   rw [take_p]
   exact take_cm off.toNat b h.cm i hi
  ·show (if fin = true then off + (b.length : Int) else q.e) = -1 ∨ (((takeE9 q off.toNat b).top : Int) ≤ (if fin = true then off + (b.length : Int) else q.e) ∧ (if fin = true then off + (b.length : Int) else q.e) ≤ 4611686018427387903)
   by_cases hf : fin = true
   ·rw [if_pos hf]
    have:=h5 hf
    exact .inr ⟨by omega,by omega⟩
   ·rw [if_neg hf]
    rcases h4 with h4 | h4
    ·exact .inl h4
    ·rcases h.en with h6 | h6
     ·exact .inl h6
     ·exact .inr ⟨by omega,h6.2⟩
  ·intro hb
   have : (takeE9 q off.toNat b).br = true:=hb
   rw [take_br,h2] at this;cases this
theorem drop_ok9 {q : St9} (h : Ok9 q) (m : Nat) (hm : 1 ≤ m) (hr : m ≤ readyN q) : Ok9 (dropE9 q m):=by
 have hl:=h.ready_le
 have hlast:=h.cm (m - 1) (lead_lt true false q.came (m - 1) (by unfold readyN at hr;omega))
 refine ⟨?_,?_,?_,?_,h.big,?_,h.en,?_⟩
 ·show (q.came.drop m ++ List.replicate m false).length = (splice q.row 0 (q.row.drop m)).length
  rw [length_splice _ _ _ (by rw [List.length_drop];omega),List.length_append,List.length_drop,List.length_replicate,h.len];omega
 ·show 1 ≤ (splice q.row 0 (q.row.drop m)).length
  rw [length_splice _ _ _ (by rw [List.length_drop];omega)];exact h.low
 ·show (splice q.row 0 (q.row.drop m)).length ≤ 4096
  rw [length_splice _ _ _ (by rw [List.length_drop];omega)];exact h.few
 ·show q.p + m ≤ q.top
  omega
 ·intro i hi
  show q.p + m + i < q.top
  have hi' : (q.came.drop m ++ List.replicate m false).getD i false = true:=hi
  rw [getD_app] at hi'
  split at hi'
  ·rw [getD_drop] at hi'
   have:=h.cm _ hi';omega
  ·rw [getD_rep'] at hi';cases hi'
 ·intro hb
  have hb' : q.br = true:=hb
  have:=(h.bk hb').1 (m - 1)
  have h2:=lead_lt true false q.came (m - 1) (by unfold readyN at hr;omega)
  rw [this] at h2;cases h2
theorem read_ways (q : St9) (n : Int) :
  (readE q n = (q,[]) ∧ min n (readyN q : Int) < 1) ∨ ∃ m : Nat,1 ≤ m ∧ m ≤ readyN q ∧ (m : Int) ≤ n ∧ (m : Int) = min n (readyN q : Int) ∧ readE q n = (dropE9 q m,q.row.take m):=by
 unfold readE
 by_cases h : min n (readyN q : Int) < 1
 ·rw [if_pos h];exact .inl ⟨rfl,h⟩
 ·rw [if_neg h]
  exact .inr ⟨(min n (readyN q : Int)).toNat,by omega,by omega,by omega,by omega,rfl⟩
theorem read_ok {q : St9} (h : Ok9 q) (n : Int) : Ok9 (readE q n).1:=by
 rcases read_ways q n with ⟨e,_⟩ | ⟨m,h1,h2,_,_,e⟩
 ·rw [e];exact h
 ·rw [e];exact drop_ok9 h m h1 h2
theorem wraps_i64'9 (n : Int) (h₀ : -9223372036854775808 ≤ n) (h₁ : n < 9223372036854775808) : IntKind.i64.wrap n = n:=by rw [IntKind.wrap_i64];omega
theorem bools_oneCell (cs : List Bool) : ∀ v ∈ cs.map Value.bool,v.oneCell' = true:=by
 intro v hv
 obtain ⟨c,_,rfl⟩:=List.mem_map.1 hv
 rfl
def StrC (b r m n p top : Nat) (e : Int) (br : Bool) (w : World) : Prop :=
 Cs w b [.slice (some ⟨r,0,none⟩) n n,.slice (some ⟨m,0,none⟩) n n,.int .i64 p,.int .i64 top,.int .i64 e,.bool br]
structure Str (b r m : Nat) (q : St9) (w : World) : Prop where
 fields : StrC b r m q.row.length q.p q.top q.e q.br w
 row : Cs w r (q.row.map (Value.int .u8))
 came : Cs w m (q.came.map Value.bool)
 ne : b ≠ r ∧ b ≠ m ∧ r ≠ m
theorem StrC.facts {b r m n p top : Nat} {e : Int} {br : Bool} {w : World} (h : StrC b r m n p top e br w) :
  w.cell? ⟨b,0,none⟩ = some (.slice (some ⟨r,0,none⟩) n n) ∧ w.cell? ⟨b,1,none⟩ = some (.slice (some ⟨m,0,none⟩) n n) ∧ w.cell? ⟨b,2,none⟩ = some (.int .i64 p) ∧ w.cell? ⟨b,3,none⟩ = some (.int .i64 top) ∧ w.cell? ⟨b,4,none⟩ = some (.int .i64 e) ∧ w.cell? ⟨b,5,none⟩ = some (.bool br) :=
 ⟨Cs.get h 0 _ rfl,Cs.get h 1 _ rfl,Cs.get h 2 _ rfl,Cs.get h 3 _ rfl,Cs.get h 4 _ rfl,Cs.get h 5 _ rfl⟩
theorem StrC.free {b r m n p top : Nat} {e : Int} {br : Bool} {w : World} (h : StrC b r m n p top e br w) :
  w.frozen? ⟨b,2,none⟩ = false ∧ w.frozen? ⟨b,3,none⟩ = false ∧ w.frozen? ⟨b,4,none⟩ = false ∧ w.frozen? ⟨b,5,none⟩ = false :=
 ⟨Cs.free h 2,Cs.free h 3,Cs.free h 4,Cs.free h 5⟩
theorem Str.keep {S : List Nat} {b r m : Nat} {q : St9} {w w' : World} (h : Str b r m q w) (k : Keep S w w') (h1 : b ∉ S) (h2 : r ∉ S) (h3 : m ∉ S) : Str b r m q w':=⟨Cs.keep h.fields k h1,h.row.keep k h2,h.came.keep k h3,h.ne⟩
theorem Str.below {b r m : Nat} {q : St9} {w w' : World} (h : Str b r m q w) (k : Below w.heap.size w w') : Str b r m q w':=h.keep (Keep.of_below (S:=[]) k) (by simp) (by simp) (by simp)
theorem Str.drewN {b r m : Nat} {q : St9} {w : World} (h : Str b r m q w) (n : Nat) : Str b r m q (w.drewN n):=h.below (qbd (qbr _ w) n)
theorem Str.lt {b r m : Nat} {q : St9} {w : World} (h : Str b r m q w) : b < w.heap.size ∧ r < w.heap.size ∧ m < w.heap.size:=⟨Cs.lt h.fields,h.row.lt,h.came.lt⟩
def RdB (w : World) (v : Value) (cs : List Bool) : Prop :=
 (cs = [] ∧ ∃ a c,v = .slice a 0 c) ∨ (cs ≠ [] ∧ ∃ b o c,v = .slice (some ⟨b,o,none⟩) cs.length c ∧ cs.length ≤ c ∧ ∀ i,i < cs.length → w.cell? ⟨b,o + i,none⟩ = some (.bool (cs.getD i false)))
theorem RdB.of_cs {w : World} {m : Nat} {cs : List Bool} (h : Cs w m (cs.map Value.bool)) (j : Nat) (a : Option Addr) (n c : Nat) (hn : n = cs.length - j) (hc : n ≤ c) (ha : j < cs.length → a = some ⟨m,j,none⟩) : RdB w (.slice a n c) (cs.drop j):=by
 subst hn
 by_cases hj : j < cs.length
 ·obtain rfl:=ha hj
  have hl : (cs.drop j).length = cs.length - j:=List.length_drop
  refine .inr ⟨fun e => by rw [e] at hl;simp at hl;omega,m,j,c,by rw [hl],by rw [hl];exact hc,fun i hi => ?_⟩
  rw [hl] at hi
  refine h.get _ _ ?_
  rw [getD_drop,getD_lt (by omega)]
  simp [show j + i < cs.length by omega]
 ·exact .inl ⟨List.drop_eq_nil_of_le (by omega),a,c,by rw [show cs.length - j = 0 by omega]⟩
theorem within_any9 (n a b : Int) (w : World) :
  Calls Tryz.prog 136 #[.int .i64 n,.int .i64 a,.int .i64 b] w fun e w' => e = .returned (.bool (withinB9 n a b)) ∧ w' = w:=by
 by_cases h1 : a ≤ n
 ·have e1 : decide (a ≤ n) = true:=qdt h1
  have e3 : withinB9 n a b = decide (n ≤ b):=by simp [withinB9,h1]
  rw [e3]
  clear e3
  go_enter Tryz.func136,Tryz.ntmps136
  go_wp2
  go_ret
  exact ⟨rfl,rfl⟩
 ·have e1 : decide (a ≤ n) = false:=qdf h1
  have e3 : withinB9 n a b = false:=by simp [withinB9,h1]
  rw [e3]
  clear h1 e3
  go_enter Tryz.func136,Tryz.ntmps136
  go_wp2
  go_ret
  exact ⟨rfl,rfl⟩
theorem within_b9 (n a b : Int) (r : Bool) (hr : withinB9 n a b = r) (w : World) : Calls Tryz.prog 136 #[.int .i64 n,.int .i64 a,.int .i64 b] w fun e w' => e = .returned (.bool r) ∧ w' = w:=hr ▸ within_any9 n a b w
theorem neqSl (w : World) (a : Option Addr) (l c : Nat) : (binOp .neq 29 (.slice a l c) (.slice none 0 0)).run Tryz.prog w = .ok (.bool (!a.isNone)) w:=run_neq_slice_nil _ _ _ a l c Tryz.underlying29
theorem made_any9 {b r m : Nat} {q : St9} (w : World) (h : Str b r m q w) : Calls Tryz.prog 56 #[.pointer (some ⟨b,0,none⟩)] w fun e w' => e = .returned (.bool true) ∧ w' = w:=by
 obtain ⟨c0,_⟩:=h.fields.facts
 clear h
 have hq:=neqSl
 go_enter Tryz.func56,Tryz.ntmps56
 go_wp2
 go_ret
 exact ⟨rfl,rfl⟩
theorem known_any {b r m : Nat} {q : St9} (w : World) (h : Str b r m q w) : Calls Tryz.prog 167 #[.pointer (some ⟨b,0,none⟩)] w fun e w' => e = .returned (.bool (!decide (q.e = -1))) ∧ w' = w:=by
 obtain ⟨row,came,p,top,e,br⟩:=q
 obtain ⟨_,_,_,_,c4,_⟩:=h.fields.facts
 simp only at c4 ⊢
 clear h
 go_enter Tryz.func167,Tryz.ntmps167
 go_wp2
 go_ret
 exact ⟨ret_bool (by rw [Bool.eq_iff_iff];simp),rfl⟩
theorem known_b {b r m : Nat} {q : St9} (w : World) (h : Str b r m q w) (x : Bool) (hx : (!decide (q.e = -1)) = x) : Calls Tryz.prog 167 #[.pointer (some ⟨b,0,none⟩)] w fun e w' => e = .returned (.bool x) ∧ w' = w:=hx ▸ known_any w h
theorem mayEnd_any {b r m : Nat} {q : St9} (x : Int) (w : World) (h : Str b r m q w) : Calls Tryz.prog 185 #[.pointer (some ⟨b,0,none⟩),.int .i64 x] w fun e w' => e = .returned (.bool (mayEndB q x)) ∧ w' = w:=by
 have HK:=qhi (known_any w h)
 obtain ⟨row,came,p,top,e,br⟩:=q
 obtain ⟨_,_,_,c3,c4,_⟩:=h.fields.facts
 unfold mayEndB
 simp only at c3 c4 ⊢
 clear h
 by_cases h1 : (top : Int) ≤ x
 ·have e1 : decide (x ≥ (top : Int)) = true:=qdt h1
  rw [qdt h1,Bool.true_and]
  by_cases h2 : x = e
  ·subst h2
   clear h1
   go_enter Tryz.func185,Tryz.ntmps185
   go_wp2_with (go_at_call 167;refine HK.out.mono ?_;rintro e w2 ⟨rfl,rfl⟩)
   go_ret
   exact ⟨ret_bool (by simp),rfl⟩
  ·have e2 : decide (x = e) = false:=qdf h2
   have e2' : (x == e) = false:=by simpa using h2
   rw [e2,Bool.false_or]
   clear h1
   go_enter Tryz.func185,Tryz.ntmps185
   go_wp2_with (go_at_call 167;refine HK.out.mono ?_;rintro e w2 ⟨rfl,rfl⟩)
   go_ret
   exact ⟨ret_bool (by simp),rfl⟩
 ·have e1 : decide (x ≥ (top : Int)) = false:=qdf h1
  rw [qdf h1,Bool.false_and]
  clear h1
  go_enter Tryz.func185,Tryz.ntmps185
  go_wp2_with (go_at_call 167;refine HK.out.mono ?_;rintro e w2 ⟨rfl,rfl⟩)
  go_ret
  exact ⟨rfl,rfl⟩
theorem limit_any {b r m : Nat} {q : St9} (w : World) (h : Str b r m q w) (hb : q.p + q.row.length ≤ 9223372036854775807) : Calls Tryz.prog 69 #[.pointer (some ⟨b,0,none⟩)] w fun e w' => e = .returned (.int .i64 (q.p + q.row.length : Nat)) ∧ ∃ n,w' = w.drewN n:=by
 have HM:=qhi (made_any9 w h)
 obtain ⟨row,came,p,top,e,br⟩:=q
 obtain ⟨c0,_,c2,_⟩:=h.fields.facts
 simp only at c0 c2 hb ⊢
 clear h
 have hw : IntKind.i64.wrap ((p : Int) + (row.length : Int)) = ((p + row.length : Nat) : Int):=by
  rw [wraps_i64'9 _ (by omega) (by omega)];omega
 go_enter Tryz.func69,Tryz.ntmps69
 go_wp2_with (go_at_call 56;refine HM.out.mono ?_;rintro e w2 ⟨rfl,h⟩;obtain rfl : w = w2:=h.symm)
 go_quiet (fail)
 go_wp2
 go_ret
 exact ⟨rfl,_,rfl⟩
theorem end_any {b r m : Nat} {q : St9} (w : World) (h : Str b r m q w) : Calls Tryz.prog 126 #[.pointer (some ⟨b,0,none⟩)] w fun e w' => e = .returned (.tuple #[.int .i64 (if q.e = -1 then 0 else q.e),.bool (!decide (q.e = -1))]) ∧ w' = w:=by
 have HM:=qhi (made_any9 w h)
 have HK:=qhi (known_any w h)
 obtain ⟨row,came,p,top,e,br⟩:=q
 obtain ⟨_,_,_,_,c4,_⟩:=h.fields.facts
 simp only at c4 HK ⊢
 clear h
 by_cases h1 : e = -1
 ·rw [if_pos h1]
  rw [qdt h1] at HK ⊢
  clear h1
  go_enter Tryz.func126,Tryz.ntmps126
  go_wp2_with (first
   | (go_at_call 56;refine HM.out.mono ?_;rintro e w2 ⟨rfl,rfl⟩)
   | (go_at_call 167;refine HK.out.mono ?_;rintro e w2 ⟨rfl,rfl⟩))
  go_ret2
  exact ⟨rfl,rfl⟩
 ·rw [if_neg h1]
  rw [qdf h1] at HK ⊢
  clear h1
  go_enter Tryz.func126,Tryz.ntmps126
  go_wp2_with (first
   | (go_at_call 56;refine HM.out.mono ?_;rintro e w2 ⟨rfl,rfl⟩)
   | (go_at_call 167;refine HK.out.mono ?_;rintro e w2 ⟨rfl,rfl⟩))
  go_ret2
  exact ⟨rfl,rfl⟩
theorem over_any {b r m : Nat} {q : St9} (w : World) (h : Str b r m q w) : Calls Tryz.prog 28 #[.pointer (some ⟨b,0,none⟩)] w fun e w' => e = .returned (.bool (overB q)) ∧ ∃ n,w' = w.drewN n:=by
 have HM:=qhi (fun n => made_any9 (w.drewN n) (h.drewN n))
 obtain ⟨row,came,p,top,e,br⟩:=q
 obtain ⟨_,_,c2,_,c4,c5⟩:=h.fields.facts
 unfold overB
 simp only at c2 c4 c5 ⊢
 clear h
 cases br
 ·rw [Bool.false_or]
  go_enter Tryz.func28,Tryz.ntmps28
  go_wp2_with fail
  go_quiet (first | (go_at_call 56;refine Calls.quiet_of_same (HM.out _)))
  go_wp2
  go_ret
  exact ⟨ret_bool (by rw [Bool.eq_iff_iff];simp),_,rfl⟩
 ·rw [Bool.true_or]
  go_enter Tryz.func28,Tryz.ntmps28
  go_wp2_with fail
  go_quiet (first | (go_at_call 56;refine Calls.quiet_of_same (HM.out _)))
  go_wp2
  go_ret
  exact ⟨rfl,_,rfl⟩
theorem neqBool (w : World) (a b : Bool) : (binOp .neq 4 (.bool a) (.bool b)).run Tryz.prog w = .ok (.bool (a != b)) w:=by
 cases a <;> cases b <;> kernel_rfl
theorem alike_any (v : Value) (cs : List Bool) (so : Bool) (w : World) (hr : RdB w v cs) (hm : cs.length ≤ 4096) :
  Calls Tryz.prog 92 #[v,.bool so] w fun e w' => e = .returned (.int .i64 (lead so cs)) ∧ w' = w:=by
 rcases hr with ⟨rfl,a,c,rfl⟩ | ⟨h0,b,o,c,rfl,hc,hcell⟩
 ·go_enter Tryz.func92,Tryz.ntmps92
  go_wp2_with fail
  refine wp_loop_rounds 1 ?_
  rw [rounds_succ]
  go_wp2
  go_ret
  exact ⟨rfl,rfl⟩
 ·have HC:=qhi hcell
  clear hcell
  go_enter Tryz.func92,Tryz.ntmps92
  go_wp2_with fail
  go_loopw [9] (fun i wr => ∃ k : Nat,i = .int .i64 k ∧ k ≤ cs.length ∧ (∀ j,j < k → cs.getD j false = so) ∧ wr = w) (fun i _ => cs.length - (intOf i).toNat)
  case atStart => exact ⟨0,rfl,Nat.zero_le _,fun j hj => by omega,rfl⟩
  case round =>
   obtain ⟨k,rfl,hk,hall,rfl⟩:=hrel
   have HA:=qhi hall
   clear hall
   by_cases hlt : k < cs.length
   ·have q0:=HC.out k hlt
    have hi1 : (k : Int) < (cs.length : Int):=by omega
    have hi2 : (0 : Int) ≤ (k : Int):=by omega
    have hw1 : IntKind.i64.wrap ((k : Int) + 1) = (k : Int) + 1:=wraps_i64'9 _ (by omega) (by omega)
    obtain ⟨x,hx⟩ : ∃ x,x = cs.getD k false:=⟨_,rfl⟩
    rw [← hx] at q0
    have HX:=qhi hx
    clear hx
    have hq:=neqBool
    by_cases hs : x = so
    ·subst hs
     have hb : (x != x) = false:=by cases x <;> rfl
     go_wp2
     exact ⟨⟨k + 1,by go_num,hlt,fun j hj => by
      rcases Nat.lt_or_ge j k with h | h
      ·exact HA.out j h
      ·obtain rfl : j = k:=by omega
       exact HX.out.symm,trivial⟩,by simp [intOf,hw1];omega⟩
    ·have hb : (x != so) = true:=by simpa using hs
     have HS:=qhi hs
     clear hs
     go_wp2
     go_ret
     have : lead so cs = k:=lead_is so cs k hk HA.out (fun _ h => HS.out (HX.out.trans h))
     rw [this]
     exact ⟨rfl,rfl⟩
   ·obtain rfl : k = cs.length:=by omega
    have hi1 : ¬ ((cs.length : Int) < (cs.length : Int)):=by omega
    have : lead so cs = cs.length:=lead_is so cs cs.length (qlr _) HA.out (fun h => by omega)
    have HL:=qhi this
    clear this hlt hk
    go_wp2
    go_ret
    rw [HL.out]
    exact ⟨rfl,rfl⟩
theorem ready_cs {w : World} {m n : Nat} {cs : List Bool} (h : Cs w m (cs.map Value.bool)) (hn : n = cs.length) : RdB w (.slice (some ⟨m,0,none⟩) n n) cs:=by
 have:=RdB.of_cs h 0 (some ⟨m,0,none⟩) n n (by simpa using hn) (qlr _) (fun _ => rfl)
 simpa using this
theorem ready_any {b r m : Nat} {q : St9} (w : World) (hq : Ok9 q) (h : Str b r m q w) : Calls Tryz.prog 54 #[.pointer (some ⟨b,0,none⟩)] w fun e w' => e = .returned (.int .i64 (readyN q)) ∧ w' = w:=by
 have HM:=qhi (made_any9 w h)
 have HA:=qhi (alike_any (.slice (some ⟨m,0,none⟩) q.row.length q.row.length) q.came true w (ready_cs h.came hq.len.symm) (by rw [hq.len];exact hq.few))
 have e : readyN q = lead true q.came:=rfl
 rw [e]
 obtain ⟨row,came,p,top,e,br⟩:=q
 obtain ⟨_,c1,_⟩:=h.fields.facts
 simp only at c1 HA ⊢
 clear h hq e
 go_enter Tryz.func54,Tryz.ntmps54
 go_wp2_with (first
  | (go_at_call 56;refine HM.out.mono ?_;rintro e w2 ⟨rfl,h⟩;obtain rfl : w = w2:=h.symm)
  | (go_at_call 92;refine HA.out.mono ?_;rintro e w2 ⟨rfl,h⟩;obtain rfl : w = w2:=h.symm))
 go_ret
 exact ⟨rfl,rfl⟩
theorem makeU8 (n : Nat) (h : n ≤ 4096) (w : World) : (Instr.makeSlice 29 (.int .i64 (n : Int)) (.int .i64 (n : Int))).run Tryz.prog w = .ok (.slice (some ⟨w.heap.size,0,none⟩) n n) (w.alloc (.cells (madeCells #[.int .u8 0] n) 5)) :=
 run_make_row' (P:=Tryz.prog) 29 5 (.int .u8 0) 1 Tryz.underlying29 (by kernel_rfl) rfl .i64 .i64 n (by omega) (by omega) w
theorem makeBool (n : Nat) (h : n ≤ 4096) (w : World) : (Instr.makeSlice 116 (.int .i64 (n : Int)) (.int .i64 (n : Int))).run Tryz.prog w = .ok (.slice (some ⟨w.heap.size,0,none⟩) n n) (w.alloc (.cells (madeCells #[.bool false] n) 4)) :=
 run_make_row' (P:=Tryz.prog) 116 4 (.bool false) 1 Tryz.underlying116 (by kernel_rfl) rfl .i64 .i64 n (by omega) (by omega) w
theorem Cs.made' (w : World) (z : Value) (n : Nat) (T : TypeId) : Cs (w.alloc (.cells (madeCells #[z] n) T)) w.heap.size (List.replicate n z):=by
 have:=Cs.made w (madeCells #[z] n) T
 rwa [toList_madeCells_one] at this
theorem below1 (w : World) (o : Obj) : Below w.heap.size w (w.alloc o):=(qbr _ w).alloc (qlr _) _
theorem rep_map {α β : Type} (f : α → β) (n : Nat) (x : α) : (List.replicate n x).map f = List.replicate n (f x):=by simp
theorem Str.built (w : World) (k : Nat) (TA TB TC : TypeId) :
  Str (w.heap.size + 1 + 1) w.heap.size (w.heap.size + 1) (fresh9 k) (((w.alloc (.cells (madeCells #[.int .u8 0] k) TA)).alloc (.cells (madeCells #[.bool false] k) TB)).alloc
   (.cells #[.slice (some ⟨w.heap.size,0,none⟩) k k,.slice (some ⟨w.heap.size + 1,0,none⟩) k k,.int .i64 0,.int .i64 0,.int .i64 (-1),.bool false] TC)):=by
 have a1:=Cs.made' w (.int .u8 0) k TA
 have a2:=Cs.made' (w.alloc (.cells (madeCells #[.int .u8 0] k) TA)) (.bool false) k TB
 have a3:=Cs.made ((w.alloc (.cells (madeCells #[.int .u8 0] k) TA)).alloc (.cells (madeCells #[.bool false] k) TB)) #[.slice (some ⟨w.heap.size,0,none⟩) k k,.slice (some ⟨w.heap.size + 1,0,none⟩) k k,.int .i64 0,.int .i64 0,.int .i64 (-1),.bool false] TC
 rw [World.size_alloc,World.size_alloc] at a3
 rw [World.size_alloc] at a2
 refine ⟨?_,?_,?_,by omega,by omega,by omega⟩
 ·have e : (fresh9 k).row.length = k:=List.length_replicate
  unfold StrC
  rw [e]
  exact a3
 ·show Cs _ _ ((List.replicate k (0 : Int)).map _)
  rw [rep_map]
  exact (a1.below (below1 _ _)).below (below1 _ _)
 ·show Cs _ _ ((List.replicate k false).map _)
  rw [rep_map]
  exact a2.below (below1 _ _)
theorem Str.built' (w : World) (k : Nat) (TA TB TC : TypeId) :
  Str (w.heap.size + 1 + 1) (w.heap.size + 1) w.heap.size (fresh9 k) (((w.alloc (.cells (madeCells #[.bool false] k) TB)).alloc (.cells (madeCells #[.int .u8 0] k) TA)).alloc
   (.cells #[.slice (some ⟨w.heap.size + 1,0,none⟩) k k,.slice (some ⟨w.heap.size,0,none⟩) k k,.int .i64 0,.int .i64 0,.int .i64 (-1),.bool false] TC)):=by
 have a1:=Cs.made' w (.bool false) k TB
 have a2:=Cs.made' (w.alloc (.cells (madeCells #[.bool false] k) TB)) (.int .u8 0) k TA
 have a3:=Cs.made ((w.alloc (.cells (madeCells #[.bool false] k) TB)).alloc (.cells (madeCells #[.int .u8 0] k) TA)) #[.slice (some ⟨w.heap.size + 1,0,none⟩) k k,.slice (some ⟨w.heap.size,0,none⟩) k k,.int .i64 0,.int .i64 0,.int .i64 (-1),.bool false] TC
 rw [World.size_alloc,World.size_alloc] at a3
 rw [World.size_alloc] at a2
 refine ⟨?_,?_,?_,by omega,by omega,by omega⟩
 ·have e : (fresh9 k).row.length = k:=List.length_replicate
  unfold StrC
  rw [e]
  exact a3
 ·show Cs _ _ ((List.replicate k (0 : Int)).map _)
  rw [rep_map]
  exact a2.below (below1 _ _)
 ·show Cs _ _ ((List.replicate k false).map _)
  rw [rep_map]
  exact (a1.below (below1 _ _)).below (below1 _ _)
theorem below3 (w : World) (a b c : Obj) : Below w.heap.size w (((w.alloc a).alloc b).alloc c).drew:=qbd ((((qbr _ w).alloc (qlr _) _).alloc (by simp) _).alloc (by simp;omega) _) 1
def NewIs (n : Int) (w : World) (e : Ending) (w' : World) : Prop :=
 (withinB9 n 1 4096 = false ∧ e = .returned (.tuple #[.pointer none,.int .i64 1]) ∧ w' = w) ∨
 (withinB9 n 1 4096 = true ∧ ∃ b r m,e = .returned (.tuple #[.pointer (some ⟨b,0,none⟩),.int .i64 0]) ∧ Str b r m (fresh9 n.toNat) w' ∧ (w.heap.size ≤ b ∧ w.heap.size ≤ r ∧ w.heap.size ≤ m) ∧ Below w.heap.size w w')
theorem new_any9 (n : Int) (w : World) : Calls Tryz.prog 88 #[.int .i64 n] w (NewIs n w):=by
 cases h1 : withinB9 n 1 4096
 ·have H:=qhi h1
  have HN : Hid (withinB9 n 1 4096 = false):=h1
  clear h1
  go_enter Tryz.func88,Tryz.ntmps88
  go_wp2_with (go_at_call 136;refine (within_b9 _ _ _ _ H.out _).mono ?_;rintro e w2 ⟨rfl,h⟩;obtain rfl : w = w2:=h.symm)
  go_ret2
  exact .inl ⟨HN.out,rfl,rfl⟩
 ·have H:=qhi h1
  have hw:=within_iff9.1 h1
  obtain ⟨k,rfl⟩ : ∃ k : Nat,n = (k : Int):=⟨n.toNat,by omega⟩
  have hk : k ≤ 4096:=by omega
  have hm1:=makeU8 k hk
  have hm2:=makeBool k hk
  clear h1 hw
  go_enter Tryz.func88,Tryz.ntmps88
  go_wp2_with (go_at_call 136;refine (within_b9 _ _ _ _ H.out _).mono ?_;rintro e w2 ⟨rfl,h⟩;obtain rfl : w = w2:=h.symm)
  go_region
  all_goals (try go_wp2)
  all_goals go_ret2
  ·exact .inr ⟨H.out,_,_,_,rfl,(Str.built w k _ _ _).drewN 1,⟨by omega,by omega,by omega⟩,below3 _ _ _ _⟩
  ·exact .inr ⟨H.out,_,_,_,rfl,(Str.built' w k _ _ _).drewN 1,⟨by omega,by omega,by omega⟩,below3 _ _ _ _⟩
theorem mark_step (L : List Bool) (o k : Nat) (h : o + k < L.length) : (splice L o (List.replicate k true)).set (o + k) true = splice L o (List.replicate (k + 1) true):=by
 have l1 : (splice L o (List.replicate k true)).length = L.length:=length_splice _ _ _ (by simp;omega)
 refine ext_getD false (by rw [List.length_set,l1,length_splice _ _ _ (by simp;omega)]) fun i hi => ?_
 rw [List.length_set,l1] at hi
 rw [getD_splice _ _ _ _ _ (by simp;omega),List.length_replicate]
 have e : ((splice L o (List.replicate k true)).set (o + k) true).getD i false = if o + k = i then true else (splice L o (List.replicate k true)).getD i false:=by
  rw [getD_lt (by rw [List.length_set,l1];exact hi),List.getElem_set]
  split
  ·rfl
  ·rw [getD_lt (by rw [l1];exact hi)]
 rw [e,getD_splice _ _ _ _ _ (by simp;omega),List.length_replicate]
 by_cases h1 : o + k = i
 ·rw [if_pos h1,if_pos (by omega),getD_rep _ _ _ _ (by omega)]
 ·rw [if_neg h1]
  by_cases h2 : o ≤ i ∧ i < o + k
  ·rw [if_pos h2,if_pos (by omega),getD_rep _ _ _ _ (by omega),getD_rep _ _ _ _ (by omega)]
  ·rw [if_neg h2,if_neg (by omega)]
theorem mark_any (m o n c : Nat) (L : List Bool) (w : World) (h : Cs w m (L.map Value.bool)) (ho : o + n ≤ L.length) (hm : n ≤ 4096) :
  Calls Tryz.prog 217 #[.slice (some ⟨m,o,none⟩) n c] w fun e w' => e = .returned (.tuple #[]) ∧ Cs w' m ((splice L o (List.replicate n true)).map Value.bool) ∧ w.grownBy w' (some m):=by
 have H:=qhi h
 clear h
 go_enter Tryz.func217,Tryz.ntmps217
 go_wp2_with fail
 go_loopw [5] (fun i wr => ∃ k : Nat,i = .int .i64 k ∧ k ≤ n ∧ Cs wr m ((splice L o (List.replicate k true)).map Value.bool) ∧ w.grownBy wr (some m)) (fun i _ => n - (intOf i).toNat)
 case atStart => exact ⟨0,rfl,Nat.zero_le _,by simpa [splice] using H.out,World.grownBy.refl _ _⟩
 case round =>
  obtain ⟨k,rfl,hk,hcs,hg⟩:=hrel
  have HCS:=qhi hcs
  have HG:=qhi hg
  by_cases hlt : k < n
  ·have hi1 : (k : Int) < (n : Int):=by omega
   have hi2 : (0 : Int) ≤ (k : Int):=by omega
   have hw1 : IntKind.i64.wrap ((k : Int) + 1) = (k : Int) + 1:=wraps_i64'9 _ (by omega) (by omega)
   have l1 : (splice L o (List.replicate k true)).length = L.length:=length_splice _ _ _ (by simp;omega)
   have q0:=hcs.get (o + k) (.bool ((splice L o (List.replicate k true)).getD (o + k) false)) (by rw [getD_lt (by omega)];simp [show o + k < (splice L o (List.replicate k true)).length by omega])
   have f0:=hcs.free (o + k)
   have HS:=qhi (mark_step L o k (by omega))
   obtain ⟨x,hx⟩ : ∃ x,x = (splice L o (List.replicate k true)).getD (o + k) false:=⟨_,rfl⟩
   rw [← hx] at q0
   clear hx hcs hg l1
   go_wp2
   refine ⟨⟨k + 1,by go_num,hlt,?_,grownBy_trans HG.out (grown_set m (o + k) wr _)⟩,by simp [intOf,hw1];omega⟩
   have:=HCS.out.set (o + k) (.bool true)
   rw [← HS.out,List.map_set]
   exact this
  ·obtain rfl : k = n:=by omega
   have hi1 : ¬ ((k : Int) < (k : Int)):=by omega
   clear hcs hg
   go_wp2
   go_end0
   exact ⟨rfl,HCS.out,HG.out⟩
theorem src_cs {w : World} {g : Nat} {cur : List Value} (h : Cs w g cur) (n : Nat) : ∀ j v,(cur.drop n)[j]? = some v → w.cell? ((⟨g,n,none⟩ : Addr).add j) = some v:=by
 intro j v hv
 rw [List.getElem?_drop] at hv
 rw [Addr.add_lit]
 exact h.get _ _ hv
theorem u8_size : (Tryz.prog.info? 5).map (·.size) = some 1:=by kernel_rfl
theorem bool_size : (Tryz.prog.info? 4).map (·.size) = some 1:=by kernel_rfl
theorem drop_shift (came : List Bool) (n : Nat) (h : n ≤ came.length) : splice (splice came 0 (came.drop n)) (came.length - n) (List.replicate n false) = came.drop n ++ List.replicate n false:=by
 have e : splice came 0 (came.drop n) = came.drop n ++ came.drop (came.length - n):=by simp [splice,List.length_drop]
 rw [e]
 unfold splice
 have l1 : (came.drop n).length = came.length - n:=List.length_drop
 rw [← l1,List.take_left,List.length_replicate,List.drop_append,l1]
 have e2 : (came.drop (came.length - n)).drop (came.length - n + n - (came.length - n)) = []:=List.drop_eq_nil_of_le (by rw [List.length_drop];omega)
 have e3 : (came.drop n).drop (came.length - n + n) = []:=List.drop_eq_nil_of_le (by rw [l1];omega)
 rw [e2,e3];simp
theorem forget_any (b r m : Nat) (q : St9) (n : Nat) (w : World) (hq : Ok9 q) (h : Str b r m q w) (hn : 1 ≤ n) (hl : n ≤ q.row.length) (hb : q.p + n ≤ 4611686018427387903) :
  Calls Tryz.prog 55 #[.pointer (some ⟨b,0,none⟩),.int .i64 n] w fun e w' => e = .returned (.tuple #[]) ∧ Str b r m (dropE9 q n) w' ∧ Keep [b,r,m] w w':=by
 obtain ⟨c0,c1,c2,-⟩:=h.fields.facts
 have hc:=hq.len
 have hf:=hq.few
 have HF:=qhi h.fields
 have HR:=qhi h.row
 have HC:=qhi h.came
 obtain ⟨n1,n2,n3⟩:=h.ne
 have HNE:=qhi h.ne
 obtain ⟨row,came,p,top,e,br⟩:=q
 simp only at c0 c1 c2 hc hf hl HF HR HC hb
 rw [← hc] at c0 c1 hl hf HF
 have hi1 : (n : Int) ≤ (came.length : Int):=by omega
 have hi2 : (0 : Int) ≤ (n : Int):=by omega
 have HL:=qhi hc
 have hwp : IntKind.i64.wrap ((p : Int) + (n : Int)) = (p : Int) + (n : Int):=wraps_i64'9 _ (by omega) (by omega)
 have hwl : IntKind.i64.wrap ((came.length : Int) - (n : Int)) = (came.length : Int) - (n : Int):=wraps_i64'9 _ (by omega) (by omega)
 have hz:=bools_oneCell
 have HLR : Hid ((row.map (Value.int .u8)).length = came.length):=by rw [List.length_map];exact hc.symm
 have HLC : Hid ((came.map Value.bool).length = came.length):=List.length_map _
 clear h hq hc
 by_cases hlt : n < came.length
 ·have hne : ¬ came.length = n:=by omega
  go_enter Tryz.func55,Tryz.ntmps55
  go_wp2_with fail
  go_still_tail 10,(by kernel_rfl)
  change wpList _ _ _ _ _ w.drew
  refine wpList_copy_cs _ rfl (.tmp 7) (.tmp 13) 29 29 rfl 5 Tryz.underlying29 u8_size r 0 came.length came.length (came.length - n) (came.length - n) ⟨r,n,none⟩ (by simp [Act.eval,Act.put]) (by simp [Act.eval,Act.put, *]) (row.map (Value.int .u8)) HR.out ((row.map (Value.int .u8)).drop n) (by rw [List.length_drop,HLR.out];simp) (fun _ => src_cs HR.out n) (by rw [List.length_drop];omega) (fun v hv => ints_oneCell .u8 row v (List.mem_of_mem_drop hv)) ?_
  intro w1 hr1 hg1
  have HR1:=qhi hr1.out
  have HG1 : Hid (w.grownBy w1 (some r)):=⟨hg1.os,hg1.tape,hg1.output,hg1.size,hg1.block⟩
  have HF1:=qhi (Cs.grown HF.out HG1.out (by simpa using n1))
  have HC1:=qhi (HC.out.grown HG1.out (by simpa using Ne.symm n3))
  obtain ⟨d0,d1,d2,-⟩:=StrC.facts HF1.out
  clear hr1 hg1 c0 c1 c2
  go_wp2_with fail
  go_still_tail 10,(by kernel_rfl)
  change wpList _ _ _ _ _ w1.drew
  refine wpList_copy_cs _ rfl (.tmp 18) (.tmp 24) 116 116 rfl 4 Tryz.underlying116 bool_size m 0 came.length came.length (came.length - n) (came.length - n) ⟨m,n,none⟩ (by simp [Act.eval,Act.put]) (by simp [Act.eval,Act.put, *]) (came.map Value.bool) HC1.out ((came.map Value.bool).drop n) (by rw [List.length_drop,HLC.out];simp) (fun _ => src_cs HC1.out n) (by rw [List.length_drop];omega) (fun v hv => bools_oneCell came v (List.mem_of_mem_drop hv)) ?_
  intro w2 hr2 hg2
  have HC2 : Hid (Cs w2 m ((splice came 0 (came.drop n)).map Value.bool)):=by
   show _;rw [map_splice,List.map_drop];exact hr2.out
  have HG2 : Hid (w1.grownBy w2 (some m)):=⟨hg2.os,hg2.tape,hg2.output,hg2.size,hg2.block⟩
  have HF2:=qhi (Cs.grown HF1.out HG2.out (by simpa using n2))
  have HR2:=qhi (HR1.out.grown HG2.out (by simpa using n3))
  obtain ⟨e0,e1,e2,-⟩:=StrC.facts HF2.out
  clear hr2 hg2 d0 d1 d2
  have hs1 : (0 : Int) ≤ (came.length : Int) - (n : Int):=by omega
  have hs2 : (came.length : Int) - (n : Int) ≤ (came.length : Int):=by omega
  have hs3 : ((came.length : Int) - (n : Int)).toNat = came.length - n:=by omega
  have hs4 : ¬ came.length = came.length - n:=by omega
  have hs5 : came.length - (came.length - n) = n:=by omega
  go_wp2_with fail
  go_still_tail 12,(by kernel_rfl)
  change wpList _ _ _ _ _ w2.drew
  refine wpList_clear_cs _ rfl (.tmp 37) 116 rfl 4 (.bool false) Tryz.underlying116 Tryz.zeroValue4 rfl rfl m (came.length - n) n n (by simp [Act.eval,Act.put, *]) hn ((splice came 0 (came.drop n)).map Value.bool) HC2.out (by simp [splice];omega) ?_
  intro w3 hr3 hg3
  have HC3 : Hid (Cs w3 m ((came.drop n ++ List.replicate n false).map Value.bool)):=by
   show _;rw [← drop_shift came n hl,map_splice,rep_map];exact hr3.out
  have HG3 : Hid (w2.grownBy w3 (some m)):=⟨hg3.os,hg3.tape,hg3.output,hg3.size,hg3.block⟩
  have HF3:=qhi (Cs.grown HF2.out HG3.out (by simpa using n2))
  have HR3:=qhi (HR2.out.grown HG3.out (by simpa using n3))
  obtain ⟨x0,x1,x2,-⟩:=StrC.facts HF3.out
  obtain ⟨z2,-⟩:=StrC.free HF3.out
  clear hr3 hg3 e0 e1 e2
  go_wp2_with fail
  go_end0
  refine ⟨rfl,⟨?_,?_,?_,HNE.out⟩,?_⟩
  ·have:=HF3.out.set 2 (.int .i64 ((p : Int) + (n : Int)))
   have el : (splice row 0 (row.drop n)).length = came.length:=by rw [length_splice _ _ _ (by rw [List.length_drop];have:=HL.out;omega)];exact HL.out.symm
   unfold StrC dropE9
   rw [el]
   exact this
  ·show Cs _ r ((splice row 0 (row.drop n)).map _)
   rw [map_splice,List.map_drop]
   exact HR3.out.keep (keep_set b 2 w3 _) (by simp;exact Ne.symm n1)
  ·exact HC3.out.keep (keep_set b 2 w3 _) (by simp;exact Ne.symm n2)
  ·have k1 : Keep [b,r,m] w w1:=Keep.of_grown HG1.out (fun j hj => .inl (by cases hj;simp))
   have k2 : Keep [b,r,m] w1 w2:=Keep.of_grown HG2.out (fun j hj => .inl (by cases hj;simp))
   have k3 : Keep [b,r,m] w2 w3:=Keep.of_grown HG3.out (fun j hj => .inl (by cases hj;simp))
   exact ((k1.trans k2 (fun i hi => .inl hi)).trans k3 (fun i hi => .inl hi)).trans (keep_set b 2 w3 _) (fun i hi => .inl (by simp at hi;simp [hi]))
 ·obtain rfl : n = came.length:=by omega
  clear hi1 hlt hwl
  have hwl1 : IntKind.i64.wrap 0 = 0:=by decide
  have hwl0 : (came.length : Int) - (came.length : Int) = 0:=by omega
  go_enter Tryz.func55,Tryz.ntmps55
  go_wp2_with fail
  go_still_tail 10,(by kernel_rfl)
  change wpList _ _ _ _ _ w.drew
  refine wpList_copy_cs _ rfl (.tmp 7) (.tmp 13) 29 29 rfl 5 Tryz.underlying29 u8_size r 0 came.length came.length 0 0 ⟨r,0,none⟩ (by simp [Act.eval,Act.put]) (by simp [Act.eval,Act.put, *]) (row.map (Value.int .u8)) HR.out ((row.map (Value.int .u8)).drop came.length) (by rw [List.length_drop,HLR.out];simp) (fun h => by rw [List.length_drop,HLR.out] at h;omega) (by rw [List.length_drop];omega) (fun v hv => ints_oneCell .u8 row v (List.mem_of_mem_drop hv)) ?_
  intro w1 hr1 hg1
  have HR1:=qhi hr1.out
  have HG1 : Hid (w.grownBy w1 (some r)):=⟨hg1.os,hg1.tape,hg1.output,hg1.size,hg1.block⟩
  have HF1:=qhi (Cs.grown HF.out HG1.out (by simpa using n1))
  have HC1:=qhi (HC.out.grown HG1.out (by simpa using Ne.symm n3))
  obtain ⟨d0,d1,d2,-⟩:=StrC.facts HF1.out
  clear hr1 hg1 c0 c1 c2
  go_wp2_with fail
  go_still_tail 10,(by kernel_rfl)
  change wpList _ _ _ _ _ w1.drew
  refine wpList_copy_cs _ rfl (.tmp 18) (.tmp 24) 116 116 rfl 4 Tryz.underlying116 bool_size m 0 came.length came.length 0 0 ⟨m,0,none⟩ (by simp [Act.eval,Act.put]) (by simp [Act.eval,Act.put, *]) (came.map Value.bool) HC1.out ((came.map Value.bool).drop came.length) (by rw [List.length_drop,HLC.out];simp) (fun h => by rw [List.length_drop,HLC.out] at h;omega) (by rw [List.length_drop];omega) (fun v hv => bools_oneCell came v (List.mem_of_mem_drop hv)) ?_
  intro w2 hr2 hg2
  have HC2 : Hid (Cs w2 m ((splice came 0 (came.drop came.length)).map Value.bool)):=by
   show _;rw [map_splice,List.map_drop];exact hr2.out
  have HG2 : Hid (w1.grownBy w2 (some m)):=⟨hg2.os,hg2.tape,hg2.output,hg2.size,hg2.block⟩
  have HF2:=qhi (Cs.grown HF1.out HG2.out (by simpa using n2))
  have HR2:=qhi (HR1.out.grown HG2.out (by simpa using n3))
  obtain ⟨e0,e1,e2,-⟩:=StrC.facts HF2.out
  clear hr2 hg2 d0 d1 d2
  have hs4 : ¬ came.length = 0:=by omega
  go_wp2_with fail
  go_still_tail 12,(by kernel_rfl)
  change wpList _ _ _ _ _ w2.drew
  refine wpList_clear_cs _ rfl (.tmp 37) 116 rfl 4 (.bool false) Tryz.underlying116 Tryz.zeroValue4 rfl rfl m 0 came.length came.length (by simp [Act.eval,Act.put, *]) hn ((splice came 0 (came.drop came.length)).map Value.bool) HC2.out (by simp [splice]) ?_
  intro w3 hr3 hg3
  have HC3 : Hid (Cs w3 m ((came.drop came.length ++ List.replicate came.length false).map Value.bool)):=by
   show _;rw [← drop_shift came came.length hl,map_splice,rep_map,Nat.sub_self];exact hr3.out
  have HG3 : Hid (w2.grownBy w3 (some m)):=⟨hg3.os,hg3.tape,hg3.output,hg3.size,hg3.block⟩
  have HF3:=qhi (Cs.grown HF2.out HG3.out (by simpa using n2))
  have HR3:=qhi (HR2.out.grown HG3.out (by simpa using n3))
  obtain ⟨x0,x1,x2,-⟩:=StrC.facts HF3.out
  obtain ⟨z2,-⟩:=StrC.free HF3.out
  clear hr3 hg3 e0 e1 e2
  go_wp2_with fail
  go_end0
  refine ⟨rfl,⟨?_,?_,?_,HNE.out⟩,?_⟩
  ·have:=HF3.out.set 2 (.int .i64 ((p : Int) + (came.length : Int)))
   have el : (splice row 0 (row.drop came.length)).length = came.length:=by rw [length_splice _ _ _ (by rw [List.length_drop];have:=HL.out;omega)];exact HL.out.symm
   unfold StrC dropE9
   rw [el]
   exact this
  ·show Cs _ r ((splice row 0 (row.drop came.length)).map _)
   rw [map_splice,List.map_drop]
   exact HR3.out.keep (keep_set b 2 w3 _) (by simp;exact Ne.symm n1)
  ·exact HC3.out.keep (keep_set b 2 w3 _) (by simp;exact Ne.symm n2)
  ·have k1 : Keep [b,r,m] w w1:=Keep.of_grown HG1.out (fun j hj => .inl (by cases hj;simp))
   have k2 : Keep [b,r,m] w1 w2:=Keep.of_grown HG2.out (fun j hj => .inl (by cases hj;simp))
   have k3 : Keep [b,r,m] w2 w3:=Keep.of_grown HG3.out (fun j hj => .inl (by cases hj;simp))
   exact ((k1.trans k2 (fun i hi => .inl hi)).trans k3 (fun i hi => .inl hi)).trans (keep_set b 2 w3 _) (fun i hi => .inl (by simp at hi;simp [hi]))
end Go.Proofs.YtmcomdmcmnbhlaaGreatDoor
