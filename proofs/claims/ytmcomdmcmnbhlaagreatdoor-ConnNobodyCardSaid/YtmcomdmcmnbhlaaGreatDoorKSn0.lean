import Derived.Test.YtmcomdmcmnbhlaaGreatDoorKSp0
import Derived.Maps.RangeWalk
import Derived.WalkArith
import Derived.Shelf.SlLaysF0
import Derived.Test.YtmcomdmcmnbhlaaGreatDoorChecked
set_option maxRecDepth 100000
set_option maxHeartbeats 25600000
set_option linter.unusedSimpArgs false
set_option linter.unusedVariables false
set_option linter.unnecessarySimpa false
namespace Go.Proofs.YtmcomdmcmnbhlaaGreatDoor
structure Pk where
 n : Int
 t : Int
 s : Int
deriving DecidableEq,Inhabited
structure Lg where
 l : List Pk
 last : Int
 time : Int
 big : Int
def Up (l : List Pk) : Prop:=l.Pairwise fun p q => p.n < q.n
def withinB8 (n a b : Int) : Bool:=decide (a ≤ n) && decide (n ≤ b)
def nowB (n : Int) : Bool:=withinB8 n 0 1099511627776
def waitB (n : Int) : Bool:=withinB8 n 1 1099511627776
def waitsB (now wait : Int) : Bool:=nowB now && waitB wait
def sendB (n t s : Int) : Bool:=withinB8 n 0 4611686018427387903 && nowB t && withinB8 s 1 1200
theorem within_iff8 {n a b : Int} : withinB8 n a b = true ↔ a ≤ n ∧ n ≤ b:=by simp [withinB8]
def sentE8 (q : Lg) (n t s : Int) : Lg × Int :=
 if sendB n t s = false then (q,1)
 else if n ≤ q.last ∨ t < q.time then (q,14)
 else if 512 ≤ q.l.length then (q,6)
 else (⟨q.l ++ [⟨n,t,s⟩],n,t,q.big⟩,0)
def lostB (big now wait : Int) (p : Pk) : Bool:=decide (p.n < big) && (decide (big - p.n ≥ 3) || decide (now - p.t ≥ wait))
def loseE (q : Lg) (now wait : Int) : Lg × List Pk :=
 if waitsB now wait = false then (q,[])
 else (⟨q.l.filter (fun p => !lostB q.big now wait p),q.last,q.time,q.big⟩,q.l.filter (lostB q.big now wait))
def dropE8 (q : Lg) : Lg × List Pk:=(⟨[],q.last,q.time,q.big⟩,q.l)
structure Ok8 (q : Lg) : Prop where
 up : Up q.l
 each : ∀ p ∈ q.l,0 ≤ p.n ∧ p.n ≤ q.last ∧ 0 ≤ p.t ∧ p.t ≤ 1099511627776
 last : -1 ≤ q.last ∧ q.last ≤ 4611686018427387903
 time : -1 ≤ q.time ∧ q.time ≤ 1099511627776
 big : -1 ≤ q.big ∧ q.big ≤ q.last
 few : q.l.length ≤ 512
def fresh8 : Lg:=⟨[],-1,-1,-1⟩
theorem fresh_ok8 : Ok8 fresh8:=⟨List.Pairwise.nil,fun p hp => (by cases hp),by decide,by decide,by decide,by decide⟩
theorem Up.filter {l : List Pk} (h : Up l) (f : Pk → Bool) : Up (l.filter f):=List.Pairwise.filter f h
theorem Up.snoc {l : List Pk} (h : Up l) {p : Pk} (hp : ∀ q ∈ l,q.n < p.n) : Up (l ++ [p]):=by
 unfold Up
 rw [List.pairwise_append]
 exact ⟨h,by simp,fun a ha b hb => by rw [List.mem_singleton] at hb;subst hb;exact hp a ha⟩
theorem up_perm {a b : List Pk} (ha : Up a) (hb : Up b) (h : a.Perm b) : a = b :=
 List.Perm.eq_of_pairwise (fun x y _ _ h1 h2 => by omega) ha hb h
theorem sent_ok {q : Lg} (h : Ok8 q) (n t s : Int) : Ok8 (sentE8 q n t s).1:=by
 unfold sentE8
 by_cases h1 : sendB n t s = false
 ·rw [if_pos h1];exact h
 rw [if_neg h1]
 by_cases h2 : n ≤ q.last ∨ t < q.time
 ·rw [if_pos h2];exact h
 rw [if_neg h2]
 by_cases h3 : 512 ≤ q.l.length
 ·rw [if_pos h3];exact h
 rw [if_neg h3]
 have hs : (0 ≤ n ∧ n ≤ 4611686018427387903) ∧ (0 ≤ t ∧ t ≤ 1099511627776) ∧ 1 ≤ s ∧ s ≤ 1200:=by
  simp only [sendB,nowB,Bool.not_eq_false,Bool.and_eq_true,within_iff8] at h1;exact ⟨h1.1.1,h1.1.2,h1.2⟩
 obtain ⟨hu,he,hl,ht,hb,hf⟩:=h
 refine ⟨hu.snoc fun p hp => ?_,fun p hp => ?_,?_,?_,?_,?_⟩
 ·have:=he p hp;simp only;omega
 ·rcases List.mem_append.1 hp with hp | hp
  ·have:=he p hp;simp only;omega
  ·rw [List.mem_singleton] at hp;subst hp;simp only;omega
 ·simp only;omega
 ·simp only;omega
 ·simp only;omega
 ·simp only [List.length_append,List.length_singleton];omega
theorem Ok8.filt {q : Lg} (h : Ok8 q) (f : Pk → Bool) : Ok8 ⟨q.l.filter f,q.last,q.time,q.big⟩ :=
 ⟨h.up.filter f,fun p hp => h.each p (List.mem_filter.1 hp).1,h.last,h.time,h.big,Nat.le_trans (List.length_filter_le _ _) h.few⟩
theorem lose_ok {q : Lg} (h : Ok8 q) (now wait : Int) : Ok8 (loseE q now wait).1:=by
 unfold loseE
 split
 ·exact h
 ·exact h.filt _
theorem drop_ok8 {q : Lg} (h : Ok8 q) : Ok8 (dropE8 q).1:=⟨List.Pairwise.nil,fun p hp => (by cases hp),h.last,h.time,h.big,Nat.zero_le _⟩
theorem part_done {gs l' l : List Pk} {f : Pk → Bool} (hp : (gs ++ l').Perm l) (hs : l'.Sublist l) (hg : ∀ p ∈ gs,f p = true) (hl : ∀ p ∈ l',f p = false) :
  gs.Perm (l.filter f) ∧ l' = l.filter (fun p => !f p):=by
 have e1 : gs.filter f = gs:=List.filter_eq_self.2 hg
 have e2 : l'.filter f = []:=List.filter_eq_nil_iff.2 fun p hp => by rw [hl p hp];decide
 have e3 : gs.filter (fun p => !f p) = []:=List.filter_eq_nil_iff.2 fun p hp => by rw [hg p hp];decide
 have e4 : l'.filter (fun p => !f p) = l':=List.filter_eq_self.2 fun p hp => by rw [hl p hp];rfl
 constructor
 ·have:=hp.filter f
  rwa [List.filter_append,e1,e2,List.append_nil] at this
 ·have k:=hp.filter (fun p => !f p)
  rw [List.filter_append,e3,e4,List.nil_append] at k
  have s:=hs.filter (fun p => !f p)
  rw [e4] at s
  exact s.eq_of_length k.length_eq
end Go.Proofs.YtmcomdmcmnbhlaaGreatDoor
namespace Go.Proofs.YtmcomdmcmnbhlaaGreatDoor
open Go.RowKit Go.Maps
def pkV (p : Pk) : Value:=.agg #[.int .i64 p.n,.int .i64 p.t,.int .i64 p.s]
def pkD (p : Pk) : DataW Unit:=.agg [.lit (.int .i64 p.n),.lit (.int .i64 p.t),.lit (.int .i64 p.s)]
def pkR (v : Value) : Option (DataW Unit × List MemPlace) :=
 match v with
 | .agg cs => match cs.toList with
   | [.int .i64 n,.int .i64 t,.int .i64 s] => some (pkD ⟨n,t,s⟩,[])
   | _ => none
 | _ => none
theorem pkR_mk (p : Pk) : pkR (pkV p) = some (pkD p,[]):=rfl
theorem pkR_inv {v : Value} {y : DataW Unit × List MemPlace} (h : pkR v = some y) : ∃ p,v = pkV p ∧ y = (pkD p,[]):=by
 unfold pkR at h
 split at h
 ·rename_i cs
  split at h
  ·rename_i n t s e
   cases h
   refine ⟨⟨n,t,s⟩,?_,rfl⟩
   have : cs = #[.int .i64 n,.int .i64 t,.int .i64 s]:=by rw [← Array.toArray_toList (xs:=cs),e]
   rw [this];rfl
  ·cases h
 ·cases h
theorem pkD_inj {p q : Pk} (h : pkD p = pkD q) : p = q:=by
 unfold pkD at h
 simp only [DataW.agg.injEq,List.cons.injEq,DataW.lit.injEq,Lit.int.injEq,true_and,and_true] at h
 obtain ⟨h1,h2,h3⟩:=h
 cases p;cases q;simp only at h1 h2 h3;rw [h1,h2,h3]
def keyL (p : Pk) : Lit:=.int .i64 p.n
def dm (d : Pk → DataW Unit) (l : List Pk) : DataW Unit:=.map (l.map fun p => (keyL p,d p))
theorem key_same (p : Pk) (x : Int) : (keyL p).sameKey (.int .i64 x) = decide (p.n = x):=by simp [keyL,Lit.sameKey]
theorem insert_last (x : Lit × DataW Unit) : ∀ l : List (Lit × DataW Unit),(∀ y ∈ l,x.1.before y.1 = false) → DataW.insert x l = l ++ [x]
 | [],_ => rfl
 | y :: r,h => by
   unfold DataW.insert
   rw [if_neg (by rw [h y (by simp)];decide),insert_last x r (fun z hz => h z (by simp [hz]))]
   rfl
theorem dm_put (d : Pk → DataW Unit) (l : List Pk) (p : Pk) (h : ∀ q ∈ l,q.n < p.n) : (dm d l).put (keyL p) (d p) = dm d (l ++ [p]):=by
 unfold dm DataW.put
 simp only
 rw [List.filter_eq_self.2,insert_last]
 ·simp
 ·intro y hy
  obtain ⟨q,hq,rfl⟩:=List.mem_map.1 hy
  have:=h q hq
  simp only [keyL,Lit.before,decide_eq_false_iff_not];omega
 ·intro y hy
  obtain ⟨q,hq,rfl⟩:=List.mem_map.1 hy
  have:=h q hq
  simp only [keyL,Lit.sameKey,true_and,Bool.not_eq_true',decide_eq_false_iff_not];omega
theorem dm_del (d : Pk → DataW Unit) (l : List Pk) (x : Int) : (dm d l).del (.int .i64 x) = dm d (l.filter fun q => !decide (q.n = x)):=by
 unfold dm DataW.del
 simp only [List.filter_map]
 congr 2
 exact List.filter_congr fun q _ => by simp [key_same]
theorem dm_size (d : Pk → DataW Unit) (l : List Pk) : Maps.size (dm d l) = l.length:=by simp [dm,Maps.size]
theorem dm_has (d : Pk → DataW Unit) (l : List Pk) (x : Int) : Maps.has (dm d l) (.int .i64 x) = l.any (fun q => decide (q.n = x)):=by
 simp only [dm,Maps.has,List.any_map]
 congr 1
 funext q
 simp [key_same]
theorem dm_at {d : Pk → DataW Unit} {l : List Pk} {x : Int} {y : DataW Unit} (h : ∀ z,(dm d l).atKey (.int .i64 x) z = y) : ∃ p ∈ l,p.n = x ∧ y = d p:=by
 have hh:=has_true_of_atKey h
 rw [dm_has] at hh
 obtain ⟨q,hq,hqx⟩:=List.any_eq_true.1 hh
 have h0:=h .nil
 unfold dm DataW.atKey at h0
 simp only at h0
 cases hf : (l.map fun p => (keyL p,d p)).find? (fun p => p.1.sameKey (.int .i64 x)) with
 | none =>
   have:=List.find?_eq_none.1 hf (keyL q,d q) (List.mem_map.2 ⟨q,hq,rfl⟩)
   rw [key_same] at this
   exact absurd hqx this
 | some z =>
   rw [hf] at h0
   obtain ⟨p,hp,rfl⟩:=List.mem_map.1 (List.mem_of_find?_eq_some hf)
   have hk:=List.find?_some hf
   rw [key_same] at hk
   exact ⟨p,hp,by simpa using hk,h0.symm⟩
def Apart (l : List Pk) : Prop:=l.Pairwise fun p q => p.n ≠ q.n
theorem Up.apart {l : List Pk} (h : Up l) : Apart l:=h.imp fun h => by omega
theorem apart_split {l : List Pk} (h : Apart l) {p : Pk} (hp : p ∈ l) : l.Perm (p :: l.filter fun q => !decide (q.n = p.n)):=by
 induction l with
 | nil => cases hp
 | cons x r ih =>
   obtain ⟨h1,h2⟩:=List.pairwise_cons.1 h
   rcases List.mem_cons.1 hp with rfl | hp'
   ·rw [List.filter_cons_of_neg (by simp),List.filter_eq_self.2 fun q hq => by simpa using Ne.symm (h1 q hq)]
   ·rw [List.filter_cons_of_pos (by simpa using h1 p hp')]
    exact ((ih h2 hp').cons x).trans (List.Perm.swap _ _ _)
theorem Apart.filter {l : List Pk} (h : Apart l) (f : Pk → Bool) : Apart (l.filter f):=List.Pairwise.filter f h
theorem lawI : Keyed Tryz.prog 3:=int_keyed Tryz.underlying3
theorem wfI {x : Int} (h : 0 ≤ x) (h' : x ≤ 4611686018427387903) : (Lit.int .i64 x).wf = true:=WalkArith.wf_i64 (by omega)
def Mp (w : World) (mb : Nat) (l : List Pk) : Prop:=w.ownsMap Tryz.prog 3 pkR mb l.length (dm pkD l)
theorem tight {P : Program} {k : TypeId} {R : Value → Option (DataW Unit × List MemPlace)} {w : World} {b n : Nat} {D : DataW Unit} (h : w.ownsMap P k R b n D) : w.ownsMap P k R b (Maps.size D) D:=by
 obtain ⟨es,clock,hb,F,hs,rfl⟩:=h
 exact ⟨es,clock,hb,F,by simp [Maps.size,length_sorted],rfl⟩
theorem Mp.of {w : World} {mb n : Nat} {l : List Pk} (h : w.ownsMap Tryz.prog 3 pkR mb n (dm pkD l)) : Mp w mb l:=by
 have:=tight h
 rwa [dm_size] at this
theorem Mp.lt {w : World} {mb : Nat} {l : List Pk} (h : Mp w mb l) : mb < w.heap.size:=World.ownsMap.lt h
theorem Mp.kept {w w' : World} {mb : Nat} {l : List Pk} {row : Option Nat} (h : Mp w mb l) (hg : w.grownBy w' row) (hne : some mb ≠ row) : Mp w' mb l:=World.ownsMap.kept h hg hne
theorem Mp.made (w : World) : Mp (w.alloc (.map #[] 0)) w.heap.size []:=World.ownsMap_made w _ _ _
theorem Mp.block {w w' : World} {mb : Nat} {l : List Pk} (h : Mp w mb l) (hb : w'.heap[mb]? = w.heap[mb]?) : Mp w' mb l:=by
 obtain ⟨es,clock,h1,h2⟩:=h
 exact ⟨es,clock,hb.trans h1,h2⟩
def Rng (w : World) (mb r : Nat) (l todo : List Pk) : Prop :=
 ∃ n left cnt,w.ranges Tryz.prog 3 pkR mb r n (dm pkD l) left cnt ∧ Apart l ∧ Apart todo ∧ ∀ p,p ∈ todo ↔ p ∈ l ∧ left (keyL p) = true
theorem Rng.owns {w : World} {mb r : Nat} {l todo : List Pk} (h : Rng w mb r l todo) : Mp w mb l:=by
 obtain ⟨n,left,cnt,h1,_⟩:=h
 exact Mp.of h1.owns
theorem Rng.kept {w w' : World} {mb r : Nat} {l todo : List Pk} {row : Option Nat} (h : Rng w mb r l todo) (hg : w.grownBy w' row) (hb : some mb ≠ row) (hr : some r ≠ row) : Rng w' mb r l todo:=by
 obtain ⟨n,left,cnt,h1,h2⟩:=h
 exact ⟨n,left,cnt,h1.kept hg hb hr,h2⟩
theorem Rng.left {w w' : World} {mb r : Nat} {l todo : List Pk} {row : Option Nat} (h : Rng w mb r l todo) (hg : w.grownBy w' row) (hb : some mb ≠ row) (hr : some r ≠ row) : w'.rangeLeft mb r = w.rangeLeft mb r:=by
 obtain ⟨n,left,cnt,h1,h2⟩:=h
 rw [(h1.kept hg hb hr).left_eq,h1.left_eq]
section
variable (w : World) {ops : Array Oper} {rest : List Oper} {o : Oper} {a : Act} {Q : Exit → Act → World → Prop}
theorem wpList_range_pk (hg : o.guard = none) (m : Operand) (hop : o.op = Op.range 178 m) (mb : Nat) (l : List Pk) (hm : a.eval m = .map (some mb)) (hM : Mp w mb l) (hu : Up l)
  (hK : ∀ w',Rng w' mb w.heap.size l l → w.grownBy w' none → w'.heap.size = w.heap.size + 1 → wpList Tryz.prog ops Q rest (a.put o.dst (.pointer (some ⟨w.heap.size,0,none⟩))) w') :
  wpList Tryz.prog ops Q (o :: rest) a w :=
 wpList_range_own w hg m 178 hop 3 174 lawI Tryz.underlying178 pkR mb l.length (dm pkD l) hm hM fun w' h1 h2 h3 =>
  hK w' ⟨_,_,_,h1,hu.apart,hu.apart,fun p => ⟨fun hp => ⟨hp,by unfold keyL;rw [dm_has];exact List.any_eq_true.2 ⟨p,hp,by simp⟩⟩,fun h => h.1⟩⟩ h2 h3
theorem wpList_next_pk (hg : o.guard = none) (it : Operand) (hop : o.op = Op.next it false) (mb r : Nat) (l todo : List Pk) (hit : a.eval it = .pointer (some ⟨r,0,none⟩)) (h : Rng w mb r l todo)
  (hDone : todo = [] → wpList Tryz.prog ops Q rest (a.put o.dst (.tuple #[.bool false])) w)
  (hMore : ∀ (p : Pk) (todo' : List Pk) (w' : World),todo.Perm (p :: todo') → p ∈ l → (∀ q ∈ todo',q.n ≠ p.n) → Rng w' mb r l todo' → w'.rangeLeft mb r < w.rangeLeft mb r → w.grownBy w' (some r) → w'.heap.size = w.heap.size →
   (Instr.entry (.pointer (some ⟨r,0,none⟩))).run Tryz.prog w' = .ok (.tuple #[.int .i64 p.n,.agg #[.int .i64 p.n,.int .i64 p.t,.int .i64 p.s]]) w' → wpList Tryz.prog ops Q rest (a.put o.dst (.tuple #[.bool true,.int .i64 p.n,.agg #[.int .i64 p.n,.int .i64 p.t,.int .i64 p.s]])) w') :
  wpList Tryz.prog ops Q (o :: rest) a w:=by
 obtain ⟨n,left,cnt,h1,h2,h3,h4⟩:=h
 refine wpList_next_ranges w hg it hop 3 lawI pkR (Value.int .i64) pkV (fun key kl hk => by obtain ⟨x,rfl,_⟩:=Maps.keyOf_int_inv Tryz.underlying3 hk;exact ⟨x,rfl⟩) (fun v y hv => by obtain ⟨p,rfl,_⟩:=pkR_inv hv;exact ⟨p,rfl⟩)
  mb r n (dm pkD l) left cnt hit h1 (fun _ hl => hDone ?_) fun x c kl y w' cnt' hkey hlk hv hat hrg hlt hgr hsz hen => ?_
 ·refine List.eq_nil_iff_forall_not_mem.2 fun p hp => ?_
  have:=((h4 p).1 hp).2
  rw [hl] at this;cases this
 ·obtain ⟨x',ex,rfl,_⟩:=Maps.keyOf_int_inv Tryz.underlying3 hkey
  cases ex
  obtain ⟨c',ec,rfl⟩:=pkR_inv hv
  obtain ⟨p,hp,rfl,hpd⟩:=dm_at hat
  obtain rfl : c' = p:=pkD_inj hpd
  have hcc : pkV c = .agg #[.int .i64 c'.n,.int .i64 c'.t,.int .i64 c'.s]:=ec
  rw [hcc] at hen ⊢
  have hpt : c' ∈ todo:=(h4 c').2 ⟨hp,hlk⟩
  have hk : ∀ q : Pk,(keyL q).sameKey (.int .i64 c'.n) = decide (q.n = c'.n):=fun q => key_same q _
  refine hMore c' (todo.filter fun q => !decide (q.n = c'.n)) w' (apart_split h3 hpt) hp (fun q hq => by simpa using (List.mem_filter.1 hq).2) ⟨n,_,cnt',hrg,h2,h3.filter _,fun q => ?_⟩ (by rw [hrg.left_eq,h1.left_eq];exact hlt) hgr hsz hen
  rw [List.mem_filter,h4 q,hk q,Bool.and_eq_true,and_assoc]
theorem wpList_delete_pk (hg : o.guard = none) (m x : Operand) (hop : o.op = Op.call { callee:=Callee.builtin Builtin.delete,args:=#[m,x],argTypes:=#[178,3] })
  (mb r : Nat) (l todo : List Pk) (n : Int) (hm : a.eval m = .map (some mb)) (h : Rng w mb r l todo) (hx : a.eval x = .int .i64 n) (h0 : 0 ≤ n ∧ n ≤ 4611686018427387903) (hne : ∀ q ∈ todo,q.n ≠ n)
  (hK : ∀ w',Rng w' mb r (l.filter fun q => !decide (q.n = n)) todo → w'.rangeLeft mb r ≤ w.rangeLeft mb r → w.mapTurned w' mb → wpList Tryz.prog ops Q rest (a.put o.dst (.tuple #[])) w') :
  wpList Tryz.prog ops Q (o :: rest) a w:=by
 obtain ⟨k,left,cnt,h1,h2,h3,h4⟩:=h
 refine wpList_delete_ranges w hg m x 178 3 hop 174 lawI Tryz.underlying178 pkR mb r k (dm pkD l) left cnt hm h1 (.int .i64 n) (.int .i64 n) hx (keyOf_int_mk Tryz.underlying3 (wfI h0.1 h0.2)) fun w' cnt' hrg hle hturn => ?_
 rw [dm_del] at hrg
 refine hK w' ⟨k,_,cnt',hrg,h2.filter _,h3,fun q => ?_⟩ (by rw [hrg.left_eq,h1.left_eq];exact hle) hturn
 rw [h4 q,List.mem_filter,key_same]
 constructor
 ·rintro ⟨hq,hl⟩
  have:=hne q ((h4 q).2 ⟨hq,hl⟩)
  exact ⟨⟨hq,by simpa using this⟩,by rw [hl];simpa using this⟩
 ·rintro ⟨⟨hq,_⟩,hl⟩
  rw [Bool.and_eq_true] at hl
  exact ⟨hq,hl.1⟩
theorem wpList_len_pk (hg : o.guard = none) (m : Operand) (hop : o.op = Op.call { callee:=Callee.builtin Builtin.len,args:=#[m],argTypes:=#[178] }) (mb : Nat) (l : List Pk) (hm : a.eval m = .map (some mb)) (hM : Mp w mb l)
  (hK : wpList Tryz.prog ops Q rest (a.put o.dst (.int .i64 l.length)) w) : wpList Tryz.prog ops Q (o :: rest) a w :=
 wpList_len_own w hg m 178 hop 3 174 Tryz.underlying178 pkR mb l.length (dm pkD l) hm hM (by rw [dm_size];exact hK)
theorem wpList_put_pk (hg : o.guard = none) (m x v : Operand) (hop : o.op = Op.mapUpdate 178 m x v) (mb : Nat) (l : List Pk) (p : Pk) (hm : a.eval m = .map (some mb)) (hM : Mp w mb l) (hl : l.length ≤ 512)
  (hx : a.eval x = .int .i64 p.n) (hv : a.eval v = .agg #[.int .i64 p.n,.int .i64 p.t,.int .i64 p.s]) (h0 : 0 ≤ p.n ∧ p.n ≤ 4611686018427387903) (hup : ∀ q ∈ l,q.n < p.n)
  (hK : ∀ w',Mp w' mb (l ++ [p]) → w.mapTurned w' mb → wpList Tryz.prog ops Q rest (a.put o.dst undef) w') : wpList Tryz.prog ops Q (o :: rest) a w :=
 wpList_mapUpdate_in w hg m x v 178 hop 3 174 lawI Tryz.underlying178 pkR mb l.length (dm pkD l) hm hM (by unfold maxLen;omega) _ _ (keyL p) hx hv (keyOf_int_mk Tryz.underlying3 (wfI h0.1 h0.2)) (pkD p) [] (pkR_mk p)
  fun w' h1 h2 => hK w' (Mp.of (by rw [dm_put pkD l p hup] at h1;exact h1)) h2
end
end Go.Proofs.YtmcomdmcmnbhlaaGreatDoor
namespace Go.Proofs.YtmcomdmcmnbhlaaGreatDoor
open Go.Shelf
def sortPk_ren : Go.Shelf.Ren:=⟨fun | 6 => 151 | 15 => 200 | 14 => 199 | 28 => 228 | 29 => 229 | 20 => 220 | 21 => 221 | 22 => 222 | 23 => 223 | 24 => 224 | 25 => 225 | 26 => 226 | 27 => 227 | 46 => 232 | 47 => 233 | 48 => 234 | 49 => 235 | 50 => 236 | 57 => 238 | n => n,fun | 22 => 128 | 24 => 174 | 25 => 222 | 3 => 3 | 39 => 195 | 0 => 0 | 53 => 280 | 55 => 22 | 4 => 4 | 46 => 274 | 45 => 273 | 50 => 204 | 5 => 5 | 9 => 9 | 66 => 283 | 70 => 287 | 76 => 290 | 77 => 152 | n => n,fun | n => n⟩
theorem sortPk : Go.Proofs.SlLaysF0.n6 Tryz.prog sortPk_ren:={
 mixed:=by kernel_rfl
 f6:=⟨Tryz.f151.name,by decide,Tryz.func151.trans (congrArg some (by kernel_rfl))⟩
 f14:=⟨Tryz.f199.name,by decide,Tryz.func199.trans (congrArg some (by kernel_rfl))⟩
 f15:=Tryz.func200.trans (congrArg some (by kernel_rfl))
 f20:=⟨Tryz.f220.name,by decide,Tryz.func220.trans (congrArg some (by kernel_rfl))⟩
 f21:=⟨Tryz.f221.name,by decide,Tryz.func221.trans (congrArg some (by kernel_rfl))⟩
 f22:=⟨Tryz.f222.name,by decide,Tryz.func222.trans (congrArg some (by kernel_rfl))⟩
 f23:=⟨Tryz.f223.name,by decide,Tryz.func223.trans (congrArg some (by kernel_rfl))⟩
 f24:=⟨Tryz.f224.name,by decide,Tryz.func224.trans (congrArg some (by kernel_rfl))⟩
 f25:=⟨Tryz.f225.name,by decide,Tryz.func225.trans (congrArg some (by kernel_rfl))⟩
 f26:=⟨Tryz.f226.name,by decide,Tryz.func226.trans (congrArg some (by kernel_rfl))⟩
 f27:=⟨Tryz.f227.name,by decide,Tryz.func227.trans (congrArg some (by kernel_rfl))⟩
 f28:=Tryz.func228.trans (congrArg some (by kernel_rfl))
 f29:=Tryz.func229.trans (congrArg some (by kernel_rfl))
 f46:=⟨Tryz.f232.name,by decide,Tryz.func232.trans (congrArg some (by kernel_rfl))⟩
 f47:=Tryz.func233.trans (congrArg some (by kernel_rfl))
 f48:=Tryz.func234.trans (congrArg some (by kernel_rfl))
 f49:=⟨Tryz.f235.name,by decide,Tryz.func235.trans (congrArg some (by kernel_rfl))⟩
 f50:=⟨Tryz.f236.name,by decide,Tryz.func236.trans (congrArg some (by kernel_rfl))⟩
 f57:=⟨Tryz.f238.name,by decide,Tryz.func238.trans (congrArg some (by kernel_rfl))⟩
 t0:=Tryz.underlying0
 a0:=Tryz.isAgg0
 z0:=Tryz.sizeOf0
 v0:=Tryz.zeroValue0
 t3:=Tryz.underlying3
 a3:=Tryz.isAgg3
 z3:=Tryz.sizeOf3
 v3:=Tryz.zeroValue3
 t4:=Tryz.underlying4
 a4:=Tryz.isAgg4
 z4:=Tryz.sizeOf4
 v4:=Tryz.zeroValue4
 t5:=Tryz.underlying5
 a5:=Tryz.isAgg5
 z5:=Tryz.sizeOf5
 v5:=Tryz.zeroValue5
 t9:=Tryz.underlying9
 a9:=Tryz.isAgg9
 z9:=Tryz.sizeOf9
 v9:=Tryz.zeroValue9
 t22:=Tryz.underlying128
 a22:=Tryz.isAgg128
 z22:=Tryz.sizeOf128
 v22:=Tryz.zeroValue128
 t25:=Tryz.underlying222
 a25:=Tryz.isAgg222
 z25:=Tryz.sizeOf222
 v25:=Tryz.zeroValue222
 t39:=Tryz.underlying195
 a39:=Tryz.isAgg195
 z39:=Tryz.sizeOf195
 v39:=Tryz.zeroValue195
 t45:=Tryz.underlying273
 a45:=Tryz.isAgg273
 z45:=Tryz.sizeOf273
 v45:=Tryz.zeroValue273
 t46:=Tryz.underlying274
 a46:=Tryz.isAgg274
 z46:=Tryz.sizeOf274
 v46:=Tryz.zeroValue274
 t50:=Tryz.underlying204
 a50:=Tryz.isAgg204
 z50:=Tryz.sizeOf204
 v50:=Tryz.zeroValue204
 t53:=Tryz.underlying280
 a53:=Tryz.isAgg280
 z53:=Tryz.sizeOf280
 v53:=Tryz.zeroValue280
 t55:=Tryz.underlying22
 a55:=Tryz.isAgg22
 z55:=Tryz.sizeOf22
 v55:=Tryz.zeroValue22
 t66:=Tryz.underlying283
 a66:=Tryz.isAgg283
 z66:=Tryz.sizeOf283
 v66:=Tryz.zeroValue283
 t70:=Tryz.underlying287
 a70:=Tryz.isAgg287
 z70:=Tryz.sizeOf287
 v70:=Tryz.zeroValue287
 t76:=Tryz.underlying290
 a76:=Tryz.isAgg290
 z76:=Tryz.sizeOf290
 v76:=Tryz.zeroValue290
 t77:=Tryz.underlying152
 a77:=Tryz.isAgg152
 z77:=Tryz.sizeOf152
 v77:=Tryz.zeroValue152 }
end Go.Proofs.YtmcomdmcmnbhlaaGreatDoor
