import Derived.Test.YtmcomdmcmnbhlaaGreatDoorKSn0
import Derived.Test.YtmcomdmcmnbhlaaGreatDoorKLRow0
import Derived.Shelf.GgSortFunc.InsertionK
import Derived.BigQuiet
import Derived.Laws.Cover3
import Derived.Test.YtmcomdmcmnbhlaaGreatDoorKLKeep0
import Derived.Test.YtmcomdmcmnbhlaaGreatDoorKSp0
import Derived.Shelf.SlSortCmp.NoneTotal
set_option maxRecDepth 100000
set_option maxHeartbeats 25600000
set_option linter.unusedSimpArgs false
set_option linter.unusedVariables false
set_option linter.unnecessarySimpa false
namespace Go.Proofs.YtmcomdmcmnbhlaaGreatDoor
open Go.RowKit Go.Sort
def pkCell (p : Pk) : List Value:=[.int .i64 p.n,.int .i64 p.t,.int .i64 p.s]
def pkC (l : List Pk) : List Value:=l.flatMap pkCell
theorem pkC_len (l : List Pk) : (pkC l).length = l.length * 3:=flat_len pkCell 3 (fun _ => rfl) l
theorem pkC_append (a b : List Pk) : pkC (a ++ b) = pkC a ++ pkC b:=by simp [pkC]
theorem pkC_get (l : List Pk) (i j : Nat) (hi : i < l.length) (hj : j < 3) : (pkC l)[i * 3 + j]? = (pkCell l[i])[j]?:=flat_get pkCell 3 (fun _ => rfl) l i j hi hj
theorem pkC_one (l : List Pk) : ∀ u ∈ pkC l,u.oneCell' = true:=by
 intro u hu
 obtain ⟨s,_,hs⟩:=List.mem_flatMap.1 hu
 simp only [pkCell,List.mem_cons,List.not_mem_nil,or_false] at hs
 rcases hs with rfl | rfl | rfl <;> rfl
def RdP (w : World) (v : Value) (l : List Pk) : Prop:=RdC 3 w v l.length (pkC l)
def OwnP (T : TypeId) (w : World) (B : Nat) (v : Value) (l : List Pk) : Prop:=w.ownsRow B T 3 v l.length (pkC l)
theorem OwnP.nil (T : TypeId) (w : World) (B : Nat) : OwnP T w B (.slice none 0 0) []:=World.ownsRow_nil w B _ 3
theorem OwnP.rd {T : TypeId} {w : World} {B : Nat} {v : Value} {l : List Pk} (h : OwnP T w B v l) : RdP w v l:=RdC.of_owns h
theorem OwnP.kept {T : TypeId} {w w' : World} {B : Nat} {v : Value} {l : List Pk} {row : Option Nat} (h : OwnP T w B v l) (hg : w.grownBy w' row) (hne : ∀ j,v.ownBlock = some j → row ≠ some j) : OwnP T w' B v l:=by
 refine World.ownsRow.kept h hg ?_
 cases hv : v.ownBlock with
 | none => exact .inl rfl
 | some j => exact .inr fun e => hne j hv e.symm
theorem OwnP.mono {T : TypeId} {w : World} {B B' : Nat} {v : Value} {l : List Pk} (h : OwnP T w B v l) (hb : B' ≤ B) : OwnP T w B' v l:=by
 obtain ⟨h1,h2⟩:=h
 refine ⟨h1,?_⟩
 rcases h2 with h2 | ⟨g,cap,cur,a1,a2,a3⟩
 ·exact .inl h2
 ·exact .inr ⟨g,cap,cur,a1,Nat.le_trans hb a2,a3⟩
theorem OwnP.blk {T : TypeId} {w : World} {B : Nat} {v : Value} {l : List Pk} (h : OwnP T w B v l) : ∀ j,v.ownBlock = some j → B ≤ j:=fun j hj => (World.ownsRow.lt h j hj).1
theorem OwnP.slice {T : TypeId} {w : World} {B : Nat} {v : Value} {l : List Pk} (h : OwnP T w B v l) : ∃ a c,v = .slice a l.length c ∧ l.length ≤ c ∧ c ≤ maxLen:=RdC.isSlice h.rd
theorem RdP.slice {w : World} {v : Value} {l : List Pk} (h : RdP w v l) : ∃ a c,v = .slice a l.length c ∧ l.length ≤ c ∧ c ≤ maxLen:=RdC.isSlice h
theorem RdP.below {w w' : World} {v : Value} {l : List Pk} (h : RdP w v l) (hb : Below w.heap.size w w') : RdP w' v l:=RdC.below h hb
theorem RdP.form {w : World} {v : Value} {l : List Pk} (h : RdP w v l) (hs : l ≠ []) : ∃ b o c,v = .slice (some ⟨b,o,none⟩) l.length c ∧ b < w.heap.size:=by
 obtain ⟨_,⟨h0,_⟩ | ⟨_,b,o,c,rfl,_,_,h4,_⟩⟩:=h
 ·exact absurd (List.length_eq_zero_iff.1 h0) hs
 ·exact ⟨b,o,c,rfl,h4⟩
theorem RdP.cells {w : World} {b o n c : Nat} {l : List Pk} (h : RdP w (.slice (some ⟨b,o,none⟩) n c) l) (k : Nat) (hk : k < l.length) :
  w.cell? ⟨b,o + k * 3,none⟩ = some (.int .i64 (l.getD k default).n) ∧ w.cell? ⟨b,o + k * 3 + 1,none⟩ = some (.int .i64 (l.getD k default).t) ∧ w.cell? ⟨b,o + k * 3 + 2,none⟩ = some (.int .i64 (l.getD k default).s):=by
 have e : l.getD k default = l[k]:=by simp [List.getD,hk]
 have hn : n = l.length:=by obtain ⟨_,_,e,_⟩:=h.slice;simp only [Value.slice.injEq] at e;exact e.2.1
 subst hn
 rw [e]
 have cell : ∀ j u,j < 3 → (pkCell l[k])[j]? = some u → w.cell? ⟨b,o + k * 3 + j,none⟩ = some u:=fun j u hj hu =>
  RdC.cell h (k * 3 + j) u ((pkC_get l k j hk hj).trans hu) _ (by omega)
 exact ⟨cell 0 _ (by omega) rfl,cell 1 _ (by omega) rfl,cell 2 _ (by omega) rfl⟩
theorem RdP.built (w : World) (p : Pk) (T : TypeId) : RdP (w.alloc (.cells #[.int .i64 p.n,.int .i64 p.t,.int .i64 p.s] T)) (.slice (some ⟨w.heap.size,0,none⟩) 1 1) [p] :=
 RdC.built 3 w #[.int .i64 p.n,.int .i64 p.t,.int .i64 p.s] T rfl
theorem elemPkS : ElemC Tryz.prog 174 3 24 (.agg #[.int .i64 0,.int .i64 0,.int .i64 0]):=⟨info_parts (by kernel_rfl),rfl,by decide⟩
theorem wpList_append_pkS (w : World) {ops : Array Oper} {rest : List Oper} {o : Oper} {a : Act} {Q : Exit → Act → World → Prop} (hgd : o.guard = none) (s x : Operand)
  (ho : o.op = .call { callee:=.builtin .append,args:=#[s,x],argTypes:=#[128,128] })
  (B : Nat) (v : Value) (xs : List Pk) (hs : a.eval s = v) (hown : OwnP 174 w B v xs) (u : Value) (ys : List Pk) (hx : a.eval x = u) (hr : RdP w u ys)
  (hby : xs.length + ys.length ≤ 100000) (hB : B ≤ w.heap.size)
  (h : ∀ v' w',OwnP 174 w' B v' (xs ++ ys) → w.grownBy w' v.ownBlock → wpList Tryz.prog ops Q rest (a.put o.dst v') w') : wpList Tryz.prog ops Q (o :: rest) a w :=
 wpList_append_rows w hgd s x 128 ho elemPkS Tryz.underlying128 B v xs.length (pkC xs) hs hown u ys.length (pkC ys) hx hr (pkC_one ys) (by omega) (by unfold maxLen;omega) hB
  fun v' w' h1 h2 => h v' w' (show w'.ownsRow _ _ _ _ (xs ++ ys).length _ by rw [List.length_append,pkC_append];exact h1) h2
theorem flat_pk (l : List Pk) : flatK pkCell 3 l.toArray = (pkC l).toArray:=by
 refine ext_get! (by rw [size_flatK,List.size_toArray,List.size_toArray,pkC_len]) fun t ht => ?_
 rw [size_flatK,List.size_toArray] at ht
 rw [get_flatK _ _ _ _ (by rw [List.size_toArray];exact ht)]
 have h1 : t / 3 < l.length:=by omega
 have h2 : t % 3 < 3:=Nat.mod_lt _ (by omega)
 have g:=pkC_get l (t / 3) (t % 3) h1 h2
 rw [show t / 3 * 3 + t % 3 = t by omega] at g
 have h3 : (pkCell l[t / 3]).length = 3:=rfl
 rw [List.getElem?_eq_getElem (by rw [pkC_len];omega),List.getElem?_eq_getElem (by omega)] at g
 have g':=Option.some.inj g
 rw [getElem!_pos l.toArray (t / 3) (by simpa using h1),getElem!_pos (pkC l).toArray t (by simpa [pkC_len] using ht)]
 rw [List.getElem_toArray,List.getElem_toArray,g',getElem!_pos (pkCell l[t / 3]) (t % 3) (by omega)]
theorem holds_own {w : World} {g : Nat} {cur : Array Value} {e : TypeId} {F : List Value} (hb : w.heap[g]? = some (.cells cur e (0,0))) (ht : cur.toList.take F.length = F) : Holds id w g 0 F.toArray:=by
 intro j hj
 have hj' : j < F.length:=by simpa using hj
 refine ⟨?_,by simp [World.frozen?,hb]⟩
 have h1 : (cur.toList.take F.length)[j]? = F[j]?:=by rw [ht]
 rw [List.getElem?_take_of_lt hj'] at h1
 simp only [World.cell?,hb,Nat.zero_add]
 simp only [Option.isSome_none,Bool.false_eq_true,if_false]
 rw [← Array.getElem?_toList,h1]
 simp [hj']
theorem heap_sortedV {w : World} {g n : Nat} {os : Array Obj} {cur : Array Value} {e : TypeId} {fr : Nat × Nat} (d : Array Value) (hb : w.heap[g]? = some (.cells cur e fr)) :
  (grow (putRow id (Sort.ahead w n) g 0 d) os).heap[g]? = some (.cells (putCells id 0 d cur) e fr):=by
 have hg : g < w.heap.size:=(qgs hb).1
 rw [heap_grow_old _ _ (by simpa using hg)]
 simp [putRow,mapBlock,Sort.ahead,Array.getElem?_modify,hb,onCells]
theorem grownBy_sortedV {w : World} {g n : Nat} {os : Array Obj} (d : Array Value) : w.grownBy (grow (putRow id (Sort.ahead w n) g 0 d) os) (some g):=by
 refine ⟨rfl,rfl,rfl,by simp,fun k hk hne => ?_⟩
 rw [heap_grow_old _ _ (by simpa using hk)]
 have : g ≠ k:=fun e => hne (by rw [e])
 simp [putRow,mapBlock,Sort.ahead,Array.getElem?_modify,this]
theorem take_putV (cur : Array Value) (F : List Value) (h : F.length ≤ cur.size) : (putCells id 0 F.toArray cur).toList.take F.length = F:=by
 apply List.ext_getElem?
 intro j
 by_cases hj : j < F.length
 ·rw [List.getElem?_take_of_lt hj,Array.getElem?_toList]
  simp [putCells,hj,show j < cur.size by omega]
 ·rw [List.getElem?_take_eq_none (by omega),List.getElem?_eq_none (by omega)]
theorem owns_sorted {T : TypeId} {w : World} {B g n : Nat} {os : Array Obj} {c : Nat} {gs l : List Pk} (h : OwnP T w B (.slice (some ⟨g,0,none⟩) gs.length c) gs) (hl : l.length = gs.length) :
  OwnP T (sortWorldK pkCell 3 w g 0 n l.toArray os) B (.slice (some ⟨g,0,none⟩) gs.length c) l:=by
 obtain ⟨h1,h2⟩:=h
 rcases h2 with ⟨q,_⟩ | ⟨g',cap,cur,q,hB,hb,hn,hm,hs,ht⟩
 ·cases q
 ·simp only [Value.slice.injEq,Option.some.injEq,Addr.mk.injEq,and_true,true_and] at q
  obtain ⟨rfl,rfl⟩:=q
  unfold OwnP
  rw [hl]
  refine ⟨by rw [pkC_len,hl],.inr ⟨g,c,putCells id 0 (pkC l).toArray cur,rfl,hB,?_,hn,hm,by simp [putCells,hs],?_⟩⟩
  ·unfold sortWorldK putRowK
   rw [flat_pk]
   exact heap_sortedV _ hb
  ·have:=take_putV cur (pkC l) (by rw [pkC_len,hs,hl];omega)
   rwa [pkC_len,hl] at this
theorem grown_sorted {w : World} {g n : Nat} {os : Array Obj} (d : Array Pk) : w.grownBy (sortWorldK pkCell 3 w g 0 n d os) (some g):=grownBy_sortedV _
theorem holds_pk {T : TypeId} {w : World} {B g c : Nat} {gs : List Pk} (h : OwnP T w B (.slice (some ⟨g,0,none⟩) gs.length c) gs) : HoldsK pkCell 3 w g 0 gs.toArray:=by
 obtain ⟨h1,h2⟩:=h
 rcases h2 with ⟨q,_⟩ | ⟨g',cap,cur,q,hB,hb,hn,hm,hs,ht⟩
 ·cases q
 ·simp only [Value.slice.injEq,Option.some.injEq,Addr.mk.injEq,and_true,true_and] at q
  obtain ⟨rfl,rfl⟩:=q
  unfold HoldsK
  rw [flat_pk]
  exact holds_own hb (by rw [pkC_len];exact ht)
theorem sorted_is {lt : Pk → Pk → Bool} (hlt : ∀ x y,lt x y = decide (x.n < y.n)) {d d' : Array Pk} {l : List Pk} (hp : PermIn 0 d.size d d') (hs : SortedIn lt 0 d.size d') (hl : Up l) (hd : d.toList.Perm l) : d' = l.toArray:=by
 have e : d'.toList.Perm d.toList:=by
  have h3:=hp.2.2
  rw [Array.extract_size] at h3
  have e1 : d'.extract 0 d.size = d':=by rw [← hp.1,Array.extract_size]
  rwa [e1] at h3
 have hperm:=e.trans hd
 have hsort : d'.toList.Pairwise fun p q => p.n ≤ q.n:=by
  rw [List.pairwise_iff_getElem]
  intro i j hi hj hij
  have hi' : i < d'.size:=by simpa using hi
  have hj' : j < d'.size:=by simpa using hj
  have:=hs i j (Nat.zero_le _) hij (by rw [← hp.1];omega)
  rw [getElem!_pos d' j hj',getElem!_pos d' i hi',hlt] at this
  simp only [decide_eq_false_iff_not] at this
  simp only [Array.getElem_toList];omega
 have hap : d'.toList.Pairwise fun p q => p.n ≠ q.n:=(hperm.pairwise_iff (fun {a b} h => Ne.symm h)).2 hl.apart
 have hup : Up d'.toList:=by
  have:=hsort.and hap
  exact this.imp fun h => by omega
 have:=up_perm hup hl hperm
 rw [← this]
end Go.Proofs.YtmcomdmcmnbhlaaGreatDoor
namespace Go.Proofs.YtmcomdmcmnbhlaaGreatDoor
open Go.RowKit Go.Maps
theorem within_any8 (n a b : Int) (w : World) :
  Calls Tryz.prog 115 #[.int .i64 n,.int .i64 a,.int .i64 b] w fun e w' => e = .returned (.bool (withinB8 n a b)) ∧ w' = w:=by
 by_cases h1 : a ≤ n
 ·have e1 : decide (a ≤ n) = true:=qdt h1
  have e3 : withinB8 n a b = decide (n ≤ b):=by simp [withinB8,h1]
  rw [e3]
  clear e3
  go_enter Tryz.func115,Tryz.ntmps115
  go_wp2
  go_ret
  exact ⟨rfl,rfl⟩
 ·have e1 : decide (a ≤ n) = false:=qdf h1
  have e3 : withinB8 n a b = false:=by simp [withinB8,h1]
  rw [e3]
  clear h1 e3
  go_enter Tryz.func115,Tryz.ntmps115
  go_wp2
  go_ret
  exact ⟨rfl,rfl⟩
theorem within_b8 (n a b : Int) (r : Bool) (hr : withinB8 n a b = r) (w : World) : Calls Tryz.prog 115 #[.int .i64 n,.int .i64 a,.int .i64 b] w fun e w' => e = .returned (.bool r) ∧ w' = w:=hr ▸ within_any8 n a b w
theorem mayNow_b (n : Int) (r : Bool) (hr : nowB n = r) (w : World) : Calls Tryz.prog 98 #[.int .i64 n] w fun e w' => e = .returned (.bool r) ∧ w' = w:=by
 have H:=qhi hr
 clear hr
 go_enter Tryz.func98,Tryz.ntmps98
 go_wp2_with (go_at_call 115;refine (within_b8 _ _ _ _ H.out _).mono ?_;rintro e w2 ⟨rfl,rfl⟩)
 go_ret
 exact ⟨rfl,rfl⟩
theorem mayWait_b (n : Int) (r : Bool) (hr : waitB n = r) (w : World) : Calls Tryz.prog 99 #[.int .i64 n] w fun e w' => e = .returned (.bool r) ∧ w' = w:=by
 have H:=qhi hr
 clear hr
 go_enter Tryz.func99,Tryz.ntmps99
 go_wp2_with (go_at_call 115;refine (within_b8 _ _ _ _ H.out _).mono ?_;rintro e w2 ⟨rfl,rfl⟩)
 go_ret
 exact ⟨rfl,rfl⟩
theorem neqMap (w : World) (m : Option Nat) : (binOp .neq 178 (.map m) (.map none)).run Tryz.prog w = .ok (.bool (!m.isNone)) w:=run_neq_map_nil w _ _ _ m Tryz.underlying178
theorem Mp.keep {S : List Nat} {w w' : World} {mb : Nat} {l : List Pk} (h : Mp w mb l) (k : Keep S w w') (hn : mb ∉ S) : Mp w' mb l:=h.block (k.block mb h.lt hn)
def LedC (b mb : Nat) (last time big : Int) (w : World) : Prop:=∃ T,w.heap[b]? = some (.cells #[.map (some mb),.int .i64 last,.int .i64 time,.int .i64 big] T (0,0))
structure Led (b mb : Nat) (q : Lg) (w : World) : Prop where
 row : LedC b mb q.last q.time q.big w
 map : Mp w mb q.l
theorem LedC.lt {b mb : Nat} {x y z : Int} {w : World} (h : LedC b mb x y z w) : b < w.heap.size:=by
 obtain ⟨T,e⟩:=h
 exact (qgs e).1
theorem LedC.block {b mb : Nat} {x y z : Int} {w w' : World} (h : LedC b mb x y z w) (e : w'.heap[b]? = w.heap[b]?) : LedC b mb x y z w':=by
 obtain ⟨T,h⟩:=h
 exact ⟨T,e.trans h⟩
theorem LedC.grown {b mb : Nat} {x y z : Int} {w w' : World} {row : Option Nat} (h : LedC b mb x y z w) (hg : w.grownBy w' row) (hne : some b ≠ row) : LedC b mb x y z w':=h.block (hg.block b h.lt hne)
theorem LedC.facts {b mb : Nat} {x y z : Int} {w : World} (h : LedC b mb x y z w) :
  w.cell? ⟨b,0,none⟩ = some (.map (some mb)) ∧ w.cell? ⟨b,1,none⟩ = some (.int .i64 x) ∧ w.cell? ⟨b,2,none⟩ = some (.int .i64 y) ∧ w.cell? ⟨b,3,none⟩ = some (.int .i64 z):=by
 obtain ⟨T,e⟩:=h
 simp [World.cell?,e]
theorem LedC.free {b mb : Nat} {x y z : Int} {w : World} (h : LedC b mb x y z w) :
  w.frozen? ⟨b,0,none⟩ = false ∧ w.frozen? ⟨b,1,none⟩ = false ∧ w.frozen? ⟨b,2,none⟩ = false ∧ w.frozen? ⟨b,3,none⟩ = false:=by
 obtain ⟨T,e⟩:=h
 simp [World.frozen?,e]
theorem LedC.set {b mb : Nat} {x y z : Int} {w : World} (h : LedC b mb x y z w) (x' y' : Int) : LedC b mb x' y' z ((w.setCell ⟨b,1,none⟩ (.int .i64 x')).setCell ⟨b,2,none⟩ (.int .i64 y')):=by
 obtain ⟨T,e⟩:=h
 exact ⟨T,by simp [World.setCell,Array.getElem?_modify,e]⟩
theorem Led.ne {b mb : Nat} {q : Lg} {w : World} (h : Led b mb q w) : b ≠ mb:=by
 obtain ⟨⟨T,e⟩,es,clock,h1,_⟩:=h
 intro k
 rw [k,h1] at e;cases e
theorem Led.keep {S : List Nat} {b mb : Nat} {q : Lg} {w w' : World} (h : Led b mb q w) (k : Keep S w w') (h1 : b ∉ S) (h2 : mb ∉ S) : Led b mb q w':=⟨h.row.block (k.block b h.row.lt h1),h.map.keep k h2⟩
theorem Led.below {b mb : Nat} {q : Lg} {w w' : World} (h : Led b mb q w) (k : Below w.heap.size w w') : Led b mb q w':=h.keep (Keep.of_below (S:=[]) k) (by simp) (by simp)
theorem new_any8 (w : World) :
  Calls Tryz.prog 86 #[] w fun e w' => e = .returned (.pointer (some ⟨w.heap.size + 1,0,none⟩)) ∧ Led (w.heap.size + 1) w.heap.size fresh8 w' ∧ Below w.heap.size w w':=by
 have hmm:=@run_makeMap Tryz.prog
 go_enter Tryz.func86,Tryz.ntmps86
 go_wp2
 go_ret
 refine ⟨rfl,⟨⟨180,?_⟩,?_⟩,((qbr _ w).alloc (qlr _) _).alloc (by simp) _⟩
 ·show ((w.heap.push _).push _)[w.heap.size + 1]? = _
  rw [Array.getElem?_push,if_pos (by simp)];rfl
 ·exact (Mp.made w).kept (World.grownBy_alloc _ _ none) (by simp)
theorem made_any8 {b mb : Nat} {x y z : Int} (w : World) (h : LedC b mb x y z w) : Calls Tryz.prog 97 #[.pointer (some ⟨b,0,none⟩)] w fun e w' => e = .returned (.bool true) ∧ w' = w:=by
 obtain ⟨c0,_⟩:=h.facts
 clear h
 have hq:=neqMap
 go_enter Tryz.func97,Tryz.ntmps97
 go_wp2
 go_ret
 exact ⟨rfl,rfl⟩
end Go.Proofs.YtmcomdmcmnbhlaaGreatDoor
namespace Go.Proofs.YtmcomdmcmnbhlaaGreatDoor
open Go.RowKit
theorem below_one8 (w : World) (a : Obj) : Below w.heap.size w (w.alloc a):=(qbr _ _).alloc (qlr _) _
theorem dropcl_any (p : Pk) (w : World) :
  Calls Tryz.prog 146 #[.agg #[.int .i64 p.n,.int .i64 p.t,.int .i64 p.s]] w fun e w' => e = .returned (.bool true) ∧ Below w.heap.size w w':=by
 go_enter Tryz.func146,Tryz.ntmps146
 go_wp2
 go_ret
 exact ⟨rfl,below_one8 _ _⟩
theorem losecl_any (p : Pk) (b bl bn bw : Nat) (big now wait : Int) (w : World) (h0 : 0 ≤ p.n ∧ p.n ≤ 4611686018427387903) (h1 : 0 ≤ p.t ∧ p.t ≤ 1099511627776) (h2 : -1 ≤ big ∧ big ≤ 4611686018427387903) (h3 : 0 ≤ now ∧ now ≤ 1099511627776)
  (cl : w.cell? ⟨bl,0,none⟩ = some (.pointer (some ⟨b,0,none⟩))) (cb : w.cell? ⟨b,3,none⟩ = some (.int .i64 big)) (cn : w.cell? ⟨bn,0,none⟩ = some (.int .i64 now)) (cw : w.cell? ⟨bw,0,none⟩ = some (.int .i64 wait))
  (kl : bl < w.heap.size) (kb : b < w.heap.size) (kn : bn < w.heap.size) (kw : bw < w.heap.size) :
  Calls Tryz.prog 101 #[.agg #[.int .i64 p.n,.int .i64 p.t,.int .i64 p.s],.pointer (some ⟨bl,0,none⟩),.pointer (some ⟨bn,0,none⟩),.pointer (some ⟨bw,0,none⟩)] w fun e w' => e = .returned (.bool (lostB big now wait p)) ∧ Below w.heap.size w w':=by
 have B1:=qhi (below_one8 w (.cells #[.int .i64 p.n,.int .i64 p.t,.int .i64 p.s] 174))
 obtain ⟨n,t,s⟩:=p
 simp only at h0 h1
 have w1 : IntKind.i64.wrap (big - n) = big - n:=by rw [IntKind.wrap_i64];omega
 have w2 : IntKind.i64.wrap (now - t) = now - t:=by rw [IntKind.wrap_i64];omega
 have C : Hid ((w.alloc (.cells #[.int .i64 n,.int .i64 t,.int .i64 s] 174)).cell? ⟨bl,0,none⟩ = some (.pointer (some ⟨b,0,none⟩)) ∧ (w.alloc (.cells #[.int .i64 n,.int .i64 t,.int .i64 s] 174)).cell? ⟨b,3,none⟩ = some (.int .i64 big)
   ∧ (w.alloc (.cells #[.int .i64 n,.int .i64 t,.int .i64 s] 174)).cell? ⟨bn,0,none⟩ = some (.int .i64 now) ∧ (w.alloc (.cells #[.int .i64 n,.int .i64 t,.int .i64 s] 174)).cell? ⟨bw,0,none⟩ = some (.int .i64 wait)
   ∧ (w.alloc (.cells #[.int .i64 n,.int .i64 t,.int .i64 s] 174)).cell? ⟨w.heap.size,0,none⟩ = some (.int .i64 n) ∧ (w.alloc (.cells #[.int .i64 n,.int .i64 t,.int .i64 s] 174)).cell? ⟨w.heap.size,1,none⟩ = some (.int .i64 t)) :=
  ⟨(B1.out.cell (p:=⟨bl,0,none⟩) kl).trans cl,(B1.out.cell (p:=⟨b,3,none⟩) kb).trans cb,(B1.out.cell (p:=⟨bn,0,none⟩) kn).trans cn,(B1.out.cell (p:=⟨bw,0,none⟩) kw).trans cw,by rw [World.cell?_alloc_at _ _ _ _ rfl];rfl,by rw [World.cell?_alloc_at _ _ _ _ rfl];rfl⟩
 have E : lostB big now wait ⟨n,t,s⟩ = (decide (n < big) && (decide (big - n ≥ 3) || decide (now - t ≥ wait))):=rfl
 rw [E]
 clear cl cb cn cw E
 cases e1 : decide (n < big)
 all_goals (try cases e2 : decide (big - n ≥ 3))
 all_goals
  go_enter Tryz.func101,Tryz.ntmps101
  go_wp2_with fail
  generalize w.alloc (.cells #[.int .i64 n,.int .i64 t,.int .i64 s] 174) = W at B1 C ⊢
  generalize w.heap.size = q at C ⊢
  obtain ⟨c0,c1,c2,c3,c4,c5⟩:=C.out
  have d0 : W.drew.cell? ⟨bl,0,none⟩ = some (.pointer (some ⟨b,0,none⟩)):=c0
  have d1 : W.drew.cell? ⟨b,3,none⟩ = some (.int .i64 big):=c1
  have d2 : W.drew.cell? ⟨bn,0,none⟩ = some (.int .i64 now):=c2
  have d3 : W.drew.cell? ⟨bw,0,none⟩ = some (.int .i64 wait):=c3
  have d4 : W.drew.cell? ⟨q,0,none⟩ = some (.int .i64 n):=c4
  have d5 : W.drew.cell? ⟨q,1,none⟩ = some (.int .i64 t):=c5
  clear h0 h1 h2 h3 kl kb kn kw
  go_quiet (fail)
  go_wp2
  go_ret
  exact ⟨rfl,qbd B1.out _⟩
end Go.Proofs.YtmcomdmcmnbhlaaGreatDoor
namespace Go.Proofs.YtmcomdmcmnbhlaaGreatDoor
open Go.RowKit Go.Sort Go.Shelf Go.Lib
theorem nan_any (x : Int) (w : World) : Calls Tryz.prog 201 #[.int .i64 x] w fun e w' => e = .returned (.bool false) ∧ w' = w:=by
 have e0 : (x != x) = false:=by simp
 go_enter Tryz.func201,Tryz.ntmps201
 go_wp2
 go_ret
 exact ⟨rfl,rfl⟩
def cmpI (x y : Int) : Int:=if x < y then -1 else if y < x then 1 else 0
theorem compare_any (x y : Int) (w : World) : Calls Tryz.prog 153 #[.int .i64 x,.int .i64 y] w fun e w' => e = .returned (.int .i64 (cmpI x y)) ∧ w' = w:=by
 unfold cmpI
 by_cases h1 : x < y
 ·rw [if_pos h1]
  have e1 : decide (x < y) = true:=qdt h1
  clear h1
  go_enter Tryz.func153,Tryz.ntmps153
  go_wp2_with (go_at_call 201;refine (nan_any _ _).mono ?_;rintro e w2 ⟨rfl,rfl⟩)
  go_ret
  exact ⟨rfl,rfl⟩
 ·rw [if_neg h1]
  have e1 : decide (x < y) = false:=qdf h1
  by_cases h2 : y < x
  ·rw [if_pos h2]
   have e2 : decide (x > y) = true:=qdt h2
   clear h1 h2
   go_enter Tryz.func153,Tryz.ntmps153
   go_wp2_with (go_at_call 201;refine (nan_any _ _).mono ?_;rintro e w2 ⟨rfl,rfl⟩)
   go_ret
   exact ⟨rfl,rfl⟩
  ·rw [if_neg h2]
   have e2 : decide (x > y) = false:=qdf h2
   clear h1 h2
   go_enter Tryz.func153,Tryz.ntmps153
   go_wp2_with (go_at_call 201;refine (nan_any _ _).mono ?_;rintro e w2 ⟨rfl,rfl⟩)
   go_ret
   exact ⟨rfl,rfl⟩
theorem bycl_any (x y : Pk) (W : World) : Calls Tryz.prog 152 #[.agg #[.int .i64 x.n,.int .i64 x.t,.int .i64 x.s],.agg #[.int .i64 y.n,.int .i64 y.t,.int .i64 y.s]] W fun e w' => e = .returned (.int .i64 (cmpI x.n y.n)) ∧ ∃ q os',w' = grow (W.drewN q) os':=by
 have hcon:=fun W' => compare_any x.n y.n W'
 generalize cmpI x.n y.n = r at hcon ⊢
 have HC:=qhi hcon
 clear hcon
 go_enter Tryz.func152,Tryz.ntmps152
 go_wp2_with (go_at_call 153;refine (HC.out _).mono ?_;rintro e w' ⟨rfl,rfl⟩)
 go_ret
 exact ⟨rfl,0,_,by rw [alloc_eq_grow,alloc_eq_grow,grow_grow];rfl⟩
theorem cmpLaysPk (blk off size : Nat) (w : World) : CmpLays Tryz.prog 152 #[] pkCell 3 (fun x y => cmpI x.n y.n) blk off size w :=
 fun _ _ _ _ x y => bycl_any x y _
theorem ltPk (x y : Pk) : ltOf (fun x y : Pk => cmpI x.n y.n) x y = decide (x.n < y.n):=by
 unfold ltOf cmpI
 by_cases h1 : x.n < y.n
 ·simp [h1]
 ·by_cases h2 : y.n < x.n <;> simp [h1,h2]
theorem swoPk : SWO (ltOf fun x y : Pk => cmpI x.n y.n) where
 irrefl x:=by rw [ltPk];simp
 trans x y z h1 h2:=by rw [ltPk] at *;simp at *;omega
 ntrans x y z h1 h2:=by rw [ltPk] at *;simp at *;omega
theorem byNumber_any (v : Value) (gs l : List Pk) (B : Nat) (w : World) (hO : OwnP 174 w B v gs) (hl : Up l) (hp : gs.Perm l) (hf : l.length ≤ 100000) :
  Calls Tryz.prog 109 #[v] w fun e w' => e = .returned v ∧ OwnP 174 w' B v l ∧ w.grownBy w' v.ownBlock:=by
 have hlen:=hp.length_eq
 by_cases h0 : gs = []
 ·subst h0
  obtain rfl : l = []:=List.length_eq_zero_iff.1 (by simpa using hlen.symm)
  obtain ⟨a,c,rfl,_,_⟩:=hO.slice
  have hcon:=fun W => AnyF.slices_SortFunc_none (P:=Tryz.prog) (ρ:=sortPk_ren) { sortPk with } a c (.func (.func 152) #[] #[]) W
  have HC : Hid (∀ W,Calls Tryz.prog 151 #[.slice a 0 c,.func (.func 152) #[] #[]] W fun e w' => e = .returned (.tuple #[]) ∧ w' = W):=hcon
  have HO:=qhi hO
  clear hcon hO hl hp hlen
  go_enter Tryz.func109,Tryz.ntmps109
  go_wp2_with (go_at_call 151;refine (HC.out _).mono ?_;rintro e w' ⟨rfl,rfl⟩)
  go_ret
  exact ⟨rfl,HO.out,World.grownBy.refl _ _⟩
 ·obtain ⟨g,c,rfl,hg⟩ : ∃ g c,v = .slice (some ⟨g,0,none⟩) gs.length c ∧ g < w.heap.size:=by
   rcases hO.2 with ⟨_,hz⟩ | ⟨g,cap,cur,rfl,_,hb,_⟩
   ·exact absurd (List.length_eq_zero_iff.1 hz) h0
   ·exact ⟨g,cap,rfl,(qgs hb).1⟩
  have eg : ∀ args w,(callFunc 152 args).run Tryz.prog w = .ok (.enter 152 args) w:=enters_of Tryz.func152 (by kernel_rfl) rfl
  have hcon:=AnyQ.slices_SortFunc sortPk 3 Tryz.isAgg174 Tryz.sizeOf174 pkCell (fun _ => rfl) (fun x v hv => by simp [pkCell] at hv;rcases hv with rfl | rfl | rfl <;> rfl) (fun x y => cmpI x.n y.n) swoPk 152 #[] g 0 c gs.toArray w eg (cmpLaysPk g 0 gs.toArray.size w) (holds_pk hO) hg (by simp;omega)
  rw [List.size_toArray] at hcon
  have HC : Hid (Calls Tryz.prog 151 #[.slice (some ⟨g,0,none⟩) gs.length c,.func (.func 152) #[] #[]] w fun e w' => e = .returned (.tuple #[]) ∧ OwnP 174 w' B (.slice (some ⟨g,0,none⟩) gs.length c) l ∧ w.grownBy w' (some g)):=by
   refine Calls.mono hcon ?_
   rintro e w' ⟨rfl,d',n,os,hP,hS,rfl⟩
   have hd : d' = l.toArray:=sorted_is ltPk (d:=gs.toArray) (by rw [List.size_toArray];exact hP) (by rw [List.size_toArray];exact hS) hl (by simpa using hp)
   rw [hd]
   exact ⟨rfl,owns_sorted hO hlen.symm,grown_sorted _⟩
  clear hcon hO hl hp hlen h0 hg eg
  go_enter Tryz.func109,Tryz.ntmps109
  go_wp2_with (go_at_call 151;refine HC.out.mono ?_;rintro e w' ⟨rfl,h1,h2⟩)
  go_ret
  exact ⟨rfl,h1,h2⟩
end Go.Proofs.YtmcomdmcmnbhlaaGreatDoor
namespace Go.Proofs.YtmcomdmcmnbhlaaGreatDoor
open Go.RowKit Go.Maps
theorem filt_len {l : List Pk} (f : Pk → Bool) {n : Nat} (h : l.length ≤ n) : (l.filter f).length ≤ n:=Nat.le_trans (List.length_filter_le _ _) h
theorem part_strike {gs l' l : List Pk} {p : Pk} (h : (gs ++ l').Perm l) (ha : Apart l') (hp : p ∈ l') : ((gs ++ [p]) ++ l'.filter fun q => !decide (q.n = p.n)).Perm l:=by
 refine List.Perm.trans ?_ h
 rw [List.append_assoc]
 exact (List.Perm.append_left gs (apart_split ha hp)).symm
theorem Rng.apart {w : World} {mb r : Nat} {l todo : List Pk} (h : Rng w mb r l todo) : Apart l:=by
 obtain ⟨n,left,cnt,_,h2,_⟩:=h
 exact h2
theorem Rng.row_ne {T : TypeId} {w : World} {mb r B : Nat} {l todo gs : List Pk} {v : Value} (h : Rng w mb r l todo) (hO : OwnP T w B v gs) : ∀ j,v.ownBlock = some j → j ≠ r:=by
 obtain ⟨_,_,_,⟨_,_,_,_,_,_,_,_,_,hit,_⟩,_⟩:=h
 intro j hj e
 rcases hO.2 with ⟨rfl,_⟩ | ⟨g,cap,cur,rfl,_,hb,_⟩
 ·cases hj
 ·simp only [Value.ownBlock,Option.some.injEq] at hj
  rw [hj,e,hit] at hb;cases hb
theorem settle_any (g : Nat) (cb : Array Value) (f : Pk → Bool) (b mb : Nat) (x y z : Int) (l : List Pk) (w : World) (eg : ∀ args w,(callFunc g args).run Tryz.prog w = .ok (.enter g args) w)
  (hL : LedC b mb x y z w) (hM : Mp w mb l) (hu : Up l) (hn : ∀ p ∈ l,0 ≤ p.n ∧ p.n ≤ 4611686018427387903) (hl : l.length ≤ 512) (hbm : b ≠ mb)
  (hf : ∀ (W : World) (p : Pk),p ∈ l → w.grownBy W (some mb) → Calls Tryz.prog g (#[.agg #[.int .i64 p.n,.int .i64 p.t,.int .i64 p.s]] ++ cb) W fun e W' => e = .returned (.bool (f p)) ∧ Below W.heap.size W W') :
  Calls Tryz.prog 100 #[.pointer (some ⟨b,0,none⟩),.func (.func g) #[] cb] w fun e w' =>
   ∃ v,e = .returned v ∧ OwnP 174 w' w.heap.size v (l.filter f) ∧ Mp w' mb (l.filter fun p => !f p) ∧ w.grownBy w' (some mb):=by
 obtain ⟨c0,_⟩:=hL.facts
 have HL:=qhi hL
 have HM:=qhi hM
 have HU:=qhi hu
 have HN:=qhi hn
 have HF:=qhi hf
 have kb:=hL.lt
 have km:=hM.lt
 clear hL hM hu hn hf
 go_enter Tryz.func100,Tryz.ntmps100
 go_wp2_with (at_range;refine wpList_range_pk _ rfl _ rfl mb l rfl HM.out HU.out ?_;intro w0 hrg0 hg0 hs0)
 go_frame
 have HR0:=qhi hrg0
 have HG0:=qhi hg0
 clear hrg0 hg0 hs0
 go_loopw [5] (fun gv wr => ∃ (gs l' todo : List Pk),OwnP 174 wr w.heap.size gv gs ∧ Rng wr mb w.heap.size l' todo ∧ (gs ++ l').Perm l ∧ l'.Sublist l ∧ (∀ p ∈ gs,f p = true) ∧ (∀ p ∈ l',p ∈ todo ∨ f p = false) ∧ w.grownBy wr (some mb))
  (fun _ wr => wr.rangeLeft mb w.heap.size)
 case atStart => exact ⟨[],l,l,OwnP.nil _ _ _,HR0.out,List.Perm.refl _,List.Sublist.refl _,fun p hp => (by cases hp),fun p hp => .inl hp,World.grownBy.but HG0.out _⟩
 case round =>
  obtain ⟨gs,l',todo,hO,hrg,hpm,hsub,hgs,hl',hgw⟩:=hrel
  have HO:=qhi hO
  have HRG:=qhi hrg
  have HP:=qhi hpm
  have HSub:=qhi hsub
  have HGs:=qhi hgs
  have HL':=qhi hl'
  have HGW:=qhi hgw
  have hsz:=hgw.size
  have hgl : gs.length ≤ 512:=by have:=hpm.length_eq;rw [List.length_append] at this;omega
  clear hO hpm hsub hgs hl' hgw
  go_wp2_with (at_next;refine wpList_next_pk _ rfl _ rfl mb w.heap.size _ _ rfl hrg ?_ ?_)
  ·intro ht0
   have hd:=part_done HP.out HSub.out HGs.out (fun p hp => by
    rcases HL'.out p hp with h | h
    ·rw [ht0] at h;cases h
    ·exact h)
   have HD:=qhi hd
   have HB:=qhi (byNumber_any _ gs (l.filter f) w.heap.size wr HO.out (HU.out.filter f) hd.1 (filt_len f (by omega)))
   clear ht0 hd hrg
   go_wp2_with (go_at_call 109;refine HB.out.mono ?_;rintro e w2 ⟨rfl,hO2,hg2⟩)
   go_ret
   refine ⟨_,rfl,hO2,?_,HGW.out.andThen hg2 (fun j hj => .inl (HO.out.blk j hj))⟩
   rw [← HD.out.2]
   refine HRG.out.owns.kept hg2 fun e => ?_
   have:=HO.out.blk mb e.symm
   omega
  ·intro p todo' w1 hpt hpl hne hrg1 hlt hg1 hs1 hen
   have hpn:=HN.out p (HSub.out.subset hpl)
   have HRL : Hid (wr.rangeLeft mb w.heap.size > w1.rangeLeft mb w.heap.size):=hlt
   have HGW1:=qhi (HGW.out.andThen hg1 (fun j hj => by cases hj;exact .inl (qlr _)))
   have hrow:=HRG.out.row_ne HO.out
   have HO1:=qhi (HO.out.kept hg1 (fun j hj e => by cases e;exact hrow _ hj rfl))
   have e1:=hg1.size
   have HPT:=qhi hpt
   have HNE:=qhi hne
   have HPL:=qhi hpl
   have HA:=qhi HRG.out.apart
   have b2:=below_one8 w1 (.cells #[.int .i64 p.n,.int .i64 p.t,.int .i64 p.s] 174)
   have HR2:=qhi (hrg1.kept (grownBy_of_below (row:=none) b2) (by simp) (by simp))
   have HL2:=qhi (hrg1.left (grownBy_of_below (row:=none) b2) (by simp) (by simp))
   have HO2:=qhi (HO1.out.kept (grownBy_of_below (row:=none) b2) (by simp))
   have HGW2:=qhi (HGW1.out.andThen (grownBy_of_below (row:=none) b2) (by simp))
   have CB : Hid ((w1.alloc (.cells #[.int .i64 p.n,.int .i64 p.t,.int .i64 p.s] 174)).heap[w1.heap.size]? = some (.cells #[.int .i64 p.n,.int .i64 p.t,.int .i64 p.s] 174 (0,0))):=by
    show (w1.heap.push _)[w1.heap.size]? = _;simp
   have C:=qhi (HF.out _ p (HSub.out.subset hpl) HGW2.out)
   have hq : w.heap.size ≤ w1.heap.size:=by omega
   clear hs1 hlt hg1 hrg hrg1 hpt hne hpl hrow e1 b2
   cases hfp : f p
   ·have HFP:=qhi hfp
    rw [hfp] at C
    clear hfp
    go_wp2_with (go_at_fn g;refine C.out.mono ?_;rintro e w3 ⟨rfl,hb3⟩)
    refine ⟨⟨gs,l',todo',HO2.out.kept (grownBy_of_below (row:=none) hb3) (by simp),HR2.out.kept (grownBy_of_below (row:=none) hb3) (by simp) (by simp),HP.out,HSub.out,HGs.out,fun q hq => ?_,HGW2.out.andThen (grownBy_of_below (row:=none) hb3) (by simp)⟩,?_⟩
    ·rcases HL'.out q hq with h | h
     ·rcases List.mem_cons.1 (HPT.out.mem_iff.1 h) with rfl | h
      ·exact .inr HFP.out
      ·exact .inl h
     ·exact .inr h
    ·rw [HR2.out.left (grownBy_of_below (row:=none) hb3) (by simp) (by simp),HL2.out]
     exact HRL.out
   ·have HFP:=qhi hfp
    rw [hfp] at C
    clear hfp
    have HPN:=qhi hpn
    have hrow2:=HR2.out.row_ne HO2.out
    have HROW:=qhi hrow2
    clear hpn hrow2
    go_wp2_with (first
     | (go_at_fn g;refine C.out.mono ?_;rintro e w3 ⟨rfl,hb3⟩
        have HG3:=qhi (grownBy_of_below (row:=none) hb3)
        have HGW3:=qhi (HGW2.out.andThen HG3.out (by simp))
        have k0 : w3.cell? ⟨b,0,none⟩ = some (.map (some mb)):=HGW3.out.cell c0 (by simpa using hbm)
        have HR3:=qhi (HR2.out.kept HG3.out (by simp) (by simp))
        have HL3:=qhi (HR2.out.left HG3.out (by simp) (by simp))
        have HO3:=qhi (HO2.out.kept HG3.out (by simp))
        have CB3:=qhi ((hb3.block w1.heap.size (by simp)).trans CB.out)
        clear hb3)
     | (at_delete;refine wpList_delete_pk _ rfl _ _ rfl mb w.heap.size l' todo' p.n rfl HR3.out rfl HPN.out HNE.out ?_;intro w4 hrg4 hle4 ht4
        have HL4:=qhi hle4
        have HR4:=qhi hrg4
        have HT4:=qhi ht4.grown
        have HGW4:=qhi (HGW3.out.andThen HT4.out (fun j hj => .inr hj))
        have HO4:=qhi (HO3.out.kept HT4.out (fun j hj e => by cases e;have:=HO3.out.blk _ hj;omega))
        have CB4:=qhi ((HT4.out.block w1.heap.size (qgs CB3.out).1 (by simp;omega)).trans CB3.out)
        have HLT4:=qhi (qgs CB4.out).1
        have x0 : w4.cell? ⟨w1.heap.size,0,none⟩ = some (.int .i64 p.n):=by simp [World.cell?,CB4.out]
        have x1 : w4.cell? ⟨w1.heap.size,1,none⟩ = some (.int .i64 p.t):=by simp [World.cell?,CB4.out]
        have x2 : w4.cell? ⟨w1.heap.size,2,none⟩ = some (.int .i64 p.s):=by simp [World.cell?,CB4.out]
        clear hle4 hrg4 ht4)
     | (at_builtin;refine wpList_append_pkS _ rfl _ _ rfl w.heap.size u5 gs rfl (HO4.out.kept (grownBy_of_below (row:=none) (below_one8 w4 _)) (by simp)) _ [p] rfl (RdP.built w4 p _) (by simp;omega) (by have:=HGW4.out.size;simp;omega) ?_;intro v' w6 hO6 hg6))
    have b5:=grownBy_of_below (row:=none) (below_one8 w4 (.cells #[.int .i64 p.n,.int .i64 p.t,.int .i64 p.s] 174))
    have hlow : ∀ j,u5.ownBlock = some j → w.heap.size ≤ j:=HO4.out.blk
    have n1 : some mb ≠ u5.ownBlock:=fun e => by have:=hlow _ e.symm;omega
    have n2 : some w.heap.size ≠ u5.ownBlock:=fun e => HROW.out _ e.symm rfl
    have HR5:=HR4.out.kept b5 (by simp) (by simp)
    refine ⟨⟨gs ++ [p],l'.filter (fun q => !decide (q.n = p.n)),todo',hO6,HR5.kept hg6 n1 n2,part_strike HP.out HA.out HPL.out,(List.filter_sublist ..).trans HSub.out,fun q hq => ?_,fun q hq => ?_,(HGW4.out.andThen b5 (by simp)).andThen hg6 (fun j hj => .inl (hlow j hj))⟩,?_⟩
    ·rcases List.mem_append.1 hq with h | h
     ·exact HGs.out q h
     ·rw [List.mem_singleton.1 h];exact HFP.out
    ·obtain ⟨h1,h2⟩:=List.mem_filter.1 hq
     rcases HL'.out q h1 with h | h
     ·rcases List.mem_cons.1 (HPT.out.mem_iff.1 h) with rfl | h
      ·simp at h2
      ·exact .inl h
     ·exact .inr h
    ·rw [HR5.left hg6 n1 n2,HR4.out.left b5 (by simp) (by simp)]
     have r1:=HL4.out
     have r2:=HL3.out
     have r3:=HL2.out
     have r4:=HRL.out
     omega
def Does8 (b mb : Nat) (q' : Lg) (w : World) (w' : World) : Prop:=Led b mb q' w' ∧ Keep [b,mb] w w'
theorem send_split {n t s : Int} (h : sendB n t s = false) : withinB8 n 0 4611686018427387903 = false ∨ (withinB8 n 0 4611686018427387903 = true ∧ nowB t = false) ∨ (withinB8 n 0 4611686018427387903 = true ∧ nowB t = true ∧ withinB8 s 1 1200 = false):=by
 unfold sendB at h
 cases h1 : withinB8 n 0 4611686018427387903
 ·exact .inl rfl
 ·cases h2 : nowB t
  ·exact .inr (.inl ⟨rfl,rfl⟩)
  ·rw [h1,h2] at h
   exact .inr (.inr ⟨rfl,rfl,by simpa using h⟩)
theorem keep_set8 (b o : Nat) (w : World) (x : Value) : Keep [b] w (w.setCell ⟨b,o,none⟩ x) :=
 ⟨rfl,rfl,rfl,by simp [World.setCell],fun i hi hn => by
  have : b ≠ i:=fun e => hn (by simp [e])
  simp [World.setCell,Array.getElem?_modify,this]⟩
theorem keep_set2 (b : Nat) (w : World) (x y : Value) : Keep [b] w ((w.setCell ⟨b,1,none⟩ x).setCell ⟨b,2,none⟩ y):=(keep_set8 b 1 w x).trans (keep_set8 b 2 _ y) (fun i hi => .inl hi)
theorem sent_any (b mb : Nat) (q : Lg) (n t s : Int) (w : World) (hq : Ok8 q) (hL : Led b mb q w) :
  Calls Tryz.prog 72 #[.pointer (some ⟨b,0,none⟩),.int .i64 n,.int .i64 t,.int .i64 s] w fun e w' => e = .returned (.int .i64 (sentE8 q n t s).2) ∧ Does8 b mb (sentE8 q n t s).1 w w':=by
 have HLed:=qhi hL
 have HRow:=qhi hL.row
 have HM:=qhi hL.map
 have hbm:=hL.ne
 obtain ⟨c0,c1,c2,c3⟩:=hL.row.facts
 have km:=hL.map.lt
 unfold sentE8
 cases hs : sendB n t s
 ·rw [if_pos rfl]
  have hw:=send_split hs
  clear hL hs
  rcases hw with h1 | ⟨h1,h2⟩ | ⟨h1,h2,h3⟩
  ·have H1:=qhi h1
   clear h1
   go_enter Tryz.func72,Tryz.ntmps72
   go_wp2_with (first
    | (go_at_call 97;refine (made_any8 _ HRow.out).mono ?_;rintro e w2 ⟨rfl,rfl⟩)
    | (go_at_call 115;refine (within_b8 _ _ _ _ H1.out _).mono ?_;rintro e w2 ⟨rfl,rfl⟩))
   go_ret
   exact ⟨rfl,HLed.out,Keep.refl _ _⟩
  ·have H1:=qhi h1
   have H2:=qhi h2
   clear h1 h2
   go_enter Tryz.func72,Tryz.ntmps72
   go_wp2_with (first
    | (go_at_call 97;refine (made_any8 _ HRow.out).mono ?_;rintro e w2 ⟨rfl,rfl⟩)
    | (go_at_call 115;refine (within_b8 _ _ _ _ H1.out _).mono ?_;rintro e w2 ⟨rfl,rfl⟩)
    | (go_at_call 98;refine (mayNow_b _ _ H2.out _).mono ?_;rintro e w2 ⟨rfl,rfl⟩))
   go_ret
   exact ⟨rfl,HLed.out,Keep.refl _ _⟩
  ·have H1:=qhi h1
   have H2:=qhi h2
   have H3:=qhi h3
   clear h1 h2 h3
   go_enter Tryz.func72,Tryz.ntmps72
   go_wp2_with (first
    | (go_at_call 97;refine (made_any8 _ HRow.out).mono ?_;rintro e w2 ⟨rfl,rfl⟩)
    | (go_at_call 115;refine (within_any8 _ _ _ _).mono ?_;rintro e w2 ⟨rfl,rfl⟩;first | rw [H1.out] | rw [H3.out])
    | (go_at_call 98;refine (mayNow_b _ _ H2.out _).mono ?_;rintro e w2 ⟨rfl,rfl⟩))
   go_ret
   exact ⟨rfl,HLed.out,Keep.refl _ _⟩
 ·rw [if_neg (by decide)]
  have hw : (withinB8 n 0 4611686018427387903 = true ∧ nowB t = true) ∧ withinB8 s 1 1200 = true:=by simpa only [sendB,Bool.and_eq_true] using hs
  have H1:=qhi hw.1.1
  have H2:=qhi hw.1.2
  have H3:=qhi hw.2
  clear hw hs
  obtain ⟨l,last,time,big⟩:=q
  simp only at c0 c1 c2 c3 ⊢
  by_cases h4 : n ≤ last
  ·rw [if_pos (.inl h4)]
   have e1 : decide (n ≤ last) = true:=qdt h4
   clear h4 hL
   go_enter Tryz.func72,Tryz.ntmps72
   go_wp2_with (first
    | (go_at_call 97;refine (made_any8 _ HRow.out).mono ?_;rintro e w2 ⟨rfl,rfl⟩)
    | (go_at_call 115;refine (within_any8 _ _ _ _).mono ?_;rintro e w2 ⟨rfl,rfl⟩;first | rw [H1.out] | rw [H3.out])
    | (go_at_call 98;refine (mayNow_b _ _ H2.out _).mono ?_;rintro e w2 ⟨rfl,rfl⟩))
   go_ret
   exact ⟨rfl,HLed.out,Keep.refl _ _⟩
  have e1 : decide (n ≤ last) = false:=qdf h4
  by_cases h5 : t < time
  ·rw [if_pos (.inr h5)]
   have e2 : decide (t < time) = true:=qdt h5
   clear h4 h5 hL
   go_enter Tryz.func72,Tryz.ntmps72
   go_wp2_with (first
    | (go_at_call 97;refine (made_any8 _ HRow.out).mono ?_;rintro e w2 ⟨rfl,rfl⟩)
    | (go_at_call 115;refine (within_any8 _ _ _ _).mono ?_;rintro e w2 ⟨rfl,rfl⟩;first | rw [H1.out] | rw [H3.out])
    | (go_at_call 98;refine (mayNow_b _ _ H2.out _).mono ?_;rintro e w2 ⟨rfl,rfl⟩))
   go_ret
   exact ⟨rfl,HLed.out,Keep.refl _ _⟩
  have e2 : decide (t < time) = false:=qdf h5
  rw [if_neg (by
         rintro (h | h)
         ·exact h4 h
         ·exact h5 h)]
  by_cases h6 : 512 ≤ l.length
  ·rw [if_pos h6]
   have e3 : decide ((l.length : Int) ≥ 512) = true:=qdt (by omega)
   have e3' : decide (l.length ≥ 512) = true:=qdt (by omega)
   clear h4 h5 h6 hL
   go_enter Tryz.func72,Tryz.ntmps72
   go_wp2_with (first
    | (go_at_call 97;refine (made_any8 _ HRow.out).mono ?_;rintro e w2 ⟨rfl,rfl⟩)
    | (go_at_call 115;refine (within_any8 _ _ _ _).mono ?_;rintro e w2 ⟨rfl,rfl⟩;first | rw [H1.out] | rw [H3.out])
    | (go_at_call 98;refine (mayNow_b _ _ H2.out _).mono ?_;rintro e w2 ⟨rfl,rfl⟩)
    | (at_len;refine wpList_len_pk _ rfl _ rfl mb l rfl HM.out ?_))
   go_ret
   exact ⟨rfl,HLed.out,Keep.refl _ _⟩
  have e3 : decide ((l.length : Int) ≥ 512) = false:=qdf (by omega)
  have e3' : decide (l.length ≥ 512) = false:=qdf (by omega)
  rw [if_neg h6]
  have hl : l.length ≤ 512:=by omega
  have HN : Hid (0 ≤ (⟨n,t,s⟩ : Pk).n ∧ (⟨n,t,s⟩ : Pk).n ≤ 4611686018427387903):=within_iff8.1 H1.out
  have HUp : Hid (∀ p ∈ l,p.n < (⟨n,t,s⟩ : Pk).n):=fun p hp => by have:=hq.each p hp;simp only at this ⊢;omega
  clear h4 h5 h6 hL hq
  go_enter Tryz.func72,Tryz.ntmps72
  go_wp2_with (first
   | (go_at_call 97;refine (made_any8 _ HRow.out).mono ?_;rintro e w2 ⟨rfl,rfl⟩)
   | (go_at_call 115;refine (within_any8 _ _ _ _).mono ?_;rintro e w2 ⟨rfl,rfl⟩;first | rw [H1.out] | rw [H3.out])
   | (go_at_call 98;refine (mayNow_b _ _ H2.out _).mono ?_;rintro e w2 ⟨rfl,rfl⟩)
   | (at_len;refine wpList_len_pk _ rfl _ rfl mb l rfl HM.out ?_)
   | (at_mapUpdate;refine wpList_put_pk _ rfl _ _ _ rfl mb l ⟨n,t,s⟩ rfl HM.out hl rfl rfl HN.out HUp.out ?_;intro w1 hM1 ht1
      have HT1:=qhi ht1.grown
      have HM1:=qhi hM1
      have HR1:=qhi (HRow.out.grown HT1.out (by simpa using hbm))
      obtain ⟨g0,g1,g2,g3⟩:=HR1.out.facts
      obtain ⟨z0,z1,z2,z3⟩:=HR1.out.free
      clear hM1 ht1))
  go_ret
  have k:=HR1.out.set n t
  refine ⟨rfl,⟨k,?_⟩,?_⟩
  ·refine HM1.out.block ?_
   have : b ≠ mb:=hbm
   simp [World.setCell,Array.getElem?_modify,this]
  ·exact (Keep.of_grown HT1.out (fun j hj => .inl (by cases hj;simp))).trans (keep_set2 b w1 _ _) (fun i hi => .inl (by simp at hi;simp [hi]))
def Gives8 (b mb : Nat) (q' : Lg) (l : List Pk) (w : World) (e : Ending) (w' : World) : Prop:=∃ v,e = .returned v ∧ OwnP 174 w' w.heap.size v l ∧ Does8 b mb q' w w'
theorem Ok8.nums {q : Lg} (h : Ok8 q) : ∀ p ∈ q.l,0 ≤ p.n ∧ p.n ≤ 4611686018427387903:=fun p hp => by
 have:=h.each p hp;have:=h.last;omega
theorem drop_any (b mb : Nat) (q : Lg) (w : World) (hq : Ok8 q) (hL : Led b mb q w) :
  Calls Tryz.prog 103 #[.pointer (some ⟨b,0,none⟩)] w (Gives8 b mb (dropE8 q).1 (dropE8 q).2 w):=by
 have hs:=settle_any 146 #[] (fun _ => true) b mb q.last q.time q.big q.l w (enters_of Tryz.func146 (by kernel_rfl) rfl) hL.row hL.map hq.up hq.nums hq.few hL.ne (fun W p _ _ => dropcl_any p W)
 rw [List.filter_eq_self.2 (fun _ _ => rfl),List.filter_eq_nil_iff.2 (fun _ _ => by decide)] at hs
 have HS:=qhi hs
 have HRow:=qhi hL.row
 have hbm:=hL.ne
 clear hs hL hq
 go_enter Tryz.func103,Tryz.ntmps103
 go_wp2_with (first
  | (go_at_call 97;refine (made_any8 _ HRow.out).mono ?_;rintro e w2 ⟨rfl,h⟩;obtain rfl : w = w2:=h.symm)
  | (go_at_call 100;refine HS.out.mono ?_;rintro e w2 ⟨v,rfl,hO,hM,hg⟩))
 go_ret
 exact ⟨v,rfl,hO,⟨HRow.out.grown hg (by simpa using hbm),hM⟩,Keep.of_grown hg (fun j hj => .inl (by cases hj;simp))⟩
def box3 (w : World) (b : Nat) (now wait : Int) : World:=((w.alloc (.cells #[.pointer (some ⟨b,0,none⟩)] 56)).alloc (.cells #[.int .i64 now] 3)).alloc (.cells #[.int .i64 wait] 3)
theorem box3_size (w : World) (b : Nat) (now wait : Int) : (box3 w b now wait).heap.size = w.heap.size + 3:=by simp [box3]
theorem box3_below (w : World) (b : Nat) (now wait : Int) : Below w.heap.size w (box3 w b now wait):=(((qbr _ w).alloc (qlr _) _).alloc (by simp) _).alloc (by simp;omega) _
theorem box3_cells (w : World) (b : Nat) (now wait : Int) :
  (box3 w b now wait).cell? ⟨w.heap.size,0,none⟩ = some (.pointer (some ⟨b,0,none⟩)) ∧ (box3 w b now wait).cell? ⟨w.heap.size + 1,0,none⟩ = some (.int .i64 now) ∧ (box3 w b now wait).cell? ⟨w.heap.size + 2,0,none⟩ = some (.int .i64 wait):=by
 have e : (box3 w b now wait).heap = ((w.heap.push (.cells #[.pointer (some ⟨b,0,none⟩)] 56)).push (.cells #[.int .i64 now] 3)).push (.cells #[.int .i64 wait] 3):=rfl
 have h0 : (box3 w b now wait).heap[w.heap.size]? = some (.cells #[.pointer (some ⟨b,0,none⟩)] 56 (0,0)):=by
  rw [e,Array.getElem?_push,if_neg (by simp;omega),Array.getElem?_push,if_neg (by simp),Array.getElem?_push,if_pos rfl]
 have h1 : (box3 w b now wait).heap[w.heap.size + 1]? = some (.cells #[.int .i64 now] 3 (0,0)):=by
  rw [e,Array.getElem?_push,if_neg (by simp),Array.getElem?_push,if_pos (by simp)]
 have h2 : (box3 w b now wait).heap[w.heap.size + 2]? = some (.cells #[.int .i64 wait] 3 (0,0)):=by
  rw [e,Array.getElem?_push,if_pos (by simp)]
 exact ⟨by simp [World.cell?,h0],by simp [World.cell?,h1],by simp [World.cell?,h2]⟩
theorem box3_is (w : World) (b : Nat) (now wait : Int) : ((w.alloc (.cells #[.pointer (some ⟨b,0,none⟩)] 56)).alloc (.cells #[.int .i64 now] 3)).alloc (.cells #[.int .i64 wait] 3) = box3 w b now wait:=rfl
theorem lose_any (b mb : Nat) (q : Lg) (now wait : Int) (w : World) (hq : Ok8 q) (hL : Led b mb q w) :
  Calls Tryz.prog 60 #[.pointer (some ⟨b,0,none⟩),.int .i64 now,.int .i64 wait] w (Gives8 b mb (loseE q now wait).1 (loseE q now wait).2 w):=by
 have B3:=qhi (box3_below w b now wait)
 have hz:=box3_size w b now wait
 have HZ:=qhi hz
 have C3:=qhi (box3_cells w b now wait)
 have HL:=qhi (hL.below B3.out)
 have hbm:=hL.ne
 have kb:=hL.row.lt
 have km:=hL.map.lt
 unfold loseE waitsB
 cases h1 : nowB now
 ·have H1:=qhi h1
  rw [if_pos (by simp)]
  clear h1 hL hz
  go_enter Tryz.func60,Tryz.ntmps60
  go_upto_region 1 with fail
  rw [box3_is]
  obtain ⟨x0,x1,x2⟩:=C3.out
  generalize box3 w b now wait = W at *
  go_wp2_with (first
   | (go_at_call 97;refine (made_any8 _ HL.out.row).mono ?_;rintro e w2 ⟨rfl,rfl⟩)
   | (go_at_call 98;refine (mayNow_b _ _ H1.out _).mono ?_;rintro e w2 ⟨rfl,rfl⟩))
  go_ret
  exact ⟨_,rfl,OwnP.nil _ _ _,HL.out,Keep.of_below B3.out⟩
 have H1:=qhi h1
 cases h2 : waitB wait
 ·have H2:=qhi h2
  rw [if_pos (by simp)]
  clear h1 h2 hL hz
  go_enter Tryz.func60,Tryz.ntmps60
  go_upto_region 1 with fail
  rw [box3_is]
  obtain ⟨x0,x1,x2⟩:=C3.out
  generalize box3 w b now wait = W at *
  go_wp2_with (first
   | (go_at_call 97;refine (made_any8 _ HL.out.row).mono ?_;rintro e w2 ⟨rfl,rfl⟩)
   | (go_at_call 98;refine (mayNow_b _ _ H1.out _).mono ?_;rintro e w2 ⟨rfl,rfl⟩)
   | (go_at_call 99;refine (mayWait_b _ _ H2.out _).mono ?_;rintro e w2 ⟨rfl,rfl⟩))
  go_ret
  exact ⟨_,rfl,OwnP.nil _ _ _,HL.out,Keep.of_below B3.out⟩
 have H2:=qhi h2
 rw [if_neg (by simp)]
 have hs:=settle_any 101 #[.pointer (some ⟨w.heap.size,0,none⟩),.pointer (some ⟨w.heap.size + 1,0,none⟩),.pointer (some ⟨w.heap.size + 2,0,none⟩)] (lostB q.big now wait) b mb q.last q.time q.big q.l (box3 w b now wait)
  (enters_of Tryz.func101 (by kernel_rfl) rfl) HL.out.row HL.out.map hq.up hq.nums hq.few hbm (fun W p hp hg => by
   have hp':=hq.each p hp
   have hsz:=hg.size
   have hb:=hq.big
   have hl:=hq.last
   have e0:=HL.out.row.facts.2.2.2
   exact losecl_any p b w.heap.size (w.heap.size + 1) (w.heap.size + 2) q.big now wait W (hq.nums p hp) ⟨hp'.2.2.1,hp'.2.2.2⟩ ⟨hb.1,by omega⟩ (within_iff8.1 h1)
    (hg.cell C3.out.1 (by simp;omega)) (hg.cell e0 (by simpa using hbm)) (hg.cell C3.out.2.1 (by simp;omega)) (hg.cell C3.out.2.2 (by simp;omega)) (by omega) (by omega) (by omega) (by omega))
 have HS:=qhi hs
 clear hs h1 h2 hL hz
 go_enter Tryz.func60,Tryz.ntmps60
 go_upto_region 1 with fail
 rw [box3_is]
 obtain ⟨x0,x1,x2⟩:=C3.out
 generalize box3 w b now wait = W at *
 go_wp2_with (first
  | (go_at_call 97;refine (made_any8 _ HL.out.row).mono ?_;rintro e w2 ⟨rfl,rfl⟩)
  | (go_at_call 98;refine (mayNow_b _ _ H1.out _).mono ?_;rintro e w2 ⟨rfl,rfl⟩)
  | (go_at_call 99;refine (mayWait_b _ _ H2.out _).mono ?_;rintro e w2 ⟨rfl,rfl⟩)
  | (go_at_call 100;refine HS.out.mono ?_;rintro e w2 ⟨v,rfl,hO,hM,hg⟩))
 go_ret
 refine ⟨v,rfl,hO.mono B3.out.size,⟨HL.out.row.grown hg (by simpa using hbm),hM⟩,(Keep.of_below B3.out).trans (S':=[mb]) (Keep.of_grown hg (fun j hj => .inl (by cases hj;simp))) (fun i hi => .inl (by simp at hi;simp [hi]))⟩
theorem out_any (b mb : Nat) (q : Lg) (w : World) (hq : Ok8 q) (hL : Led b mb q w) :
  Calls Tryz.prog 66 #[.pointer (some ⟨b,0,none⟩)] w fun e w' => ∃ v,e = .returned v ∧ OwnP 174 w' w.heap.size v q.l ∧ Below w.heap.size w w':=by
 obtain ⟨l,last,time,big⟩:=q
 obtain ⟨c0,_⟩:=hL.row.facts
 have HL:=qhi hL
 have HM : Hid (Mp w mb l):=hL.map
 have HU : Hid (Up l):=hq.up
 have hl : l.length ≤ 512:=hq.few
 have kb:=hL.row.lt
 have km:=hL.map.lt
 clear hL hq
 go_enter Tryz.func66,Tryz.ntmps66
 go_wp2_with (first
  | (go_at_call 97;refine (made_any8 _ HL.out.row).mono ?_;rintro e w2 ⟨rfl,h⟩;obtain rfl : w = w2:=h.symm)
  | (at_range;refine wpList_range_pk _ rfl _ rfl mb l rfl HM.out HU.out ?_;intro w0 hrg0 hg0 hs0))
 go_frame
 have HR0:=qhi hrg0
 have HG0:=qhi hg0
 clear hrg0 hg0 hs0
 go_loopw [3] (fun gv wr => ∃ (gs todo : List Pk),OwnP 174 wr w.heap.size gv gs ∧ Rng wr mb w.heap.size l todo ∧ (gs ++ todo).Perm l ∧ w.grownBy wr none)
  (fun _ wr => wr.rangeLeft mb w.heap.size)
 case atStart => exact ⟨[],l,OwnP.nil _ _ _,HR0.out,List.Perm.refl _,HG0.out⟩
 case round =>
  obtain ⟨gs,todo,hO,hrg,hpm,hgw⟩:=hrel
  have HO:=qhi hO
  have HRG:=qhi hrg
  have HP:=qhi hpm
  have HGW:=qhi hgw
  have hsz:=hgw.size
  have hgl : gs.length ≤ 512:=by have:=hpm.length_eq;rw [List.length_append] at this;omega
  clear hO hpm hgw
  go_wp2_with (at_next;refine wpList_next_pk _ rfl _ rfl mb w.heap.size _ _ rfl hrg ?_ ?_)
  ·intro ht0
   have hd:=HP.out
   rw [ht0,List.append_nil] at hd
   have HB:=qhi (byNumber_any _ gs l w.heap.size wr HO.out HU.out hd (by omega))
   clear ht0 hd hrg
   go_wp2_with (go_at_call 109;refine HB.out.mono ?_;rintro e w2 ⟨rfl,hO2,hg2⟩)
   go_ret
   have hgg : w.grownBy w2 none:=HGW.out.andThen hg2 (fun j hj => .inl (HO.out.blk j hj))
   exact ⟨_,rfl,hO2,hgg.os,hgg.tape,hgg.output,hgg.size,fun i hi => hgg.block i hi (by simp)⟩
  ·intro p todo' w1 hpt hpl hne hrg1 hlt hg1 hs1 hen
   have HRL : Hid (wr.rangeLeft mb w.heap.size > w1.rangeLeft mb w.heap.size):=hlt
   have HGW1:=qhi (HGW.out.andThen hg1 (fun j hj => by cases hj;exact .inl (qlr _)))
   have hrow:=HRG.out.row_ne HO.out
   have HROW:=qhi hrow
   have HO1:=qhi (HO.out.kept hg1 (fun j hj e => by cases e;exact hrow _ hj rfl))
   have e1:=hg1.size
   have HPT:=qhi hpt
   have b2:=below_one8 w1 (.cells #[.int .i64 p.n,.int .i64 p.t,.int .i64 p.s] 174)
   have HR2:=qhi (hrg1.kept (grownBy_of_below (row:=none) b2) (by simp) (by simp))
   have HL2:=qhi (hrg1.left (grownBy_of_below (row:=none) b2) (by simp) (by simp))
   have HO2:=qhi (HO1.out.kept (grownBy_of_below (row:=none) b2) (by simp))
   have HGW2:=qhi (HGW1.out.andThen (grownBy_of_below (row:=none) b2) (by simp))
   have CB : Hid ((w1.alloc (.cells #[.int .i64 p.n,.int .i64 p.t,.int .i64 p.s] 174)).heap[w1.heap.size]? = some (.cells #[.int .i64 p.n,.int .i64 p.t,.int .i64 p.s] 174 (0,0))):=by
    show (w1.heap.push _)[w1.heap.size]? = _;simp
   have hq : w.heap.size ≤ w1.heap.size:=by omega
   clear hs1 hlt hg1 hrg hrg1 hpt hne hpl hrow e1 b2
   go_upto_region 7 with fail
   generalize w1.alloc (.cells #[.int .i64 p.n,.int .i64 p.t,.int .i64 p.s] 174) = w4 at HR2 HL2 HO2 HGW2 CB ⊢
   have hq4 : Hid (w1.heap.size < w4.heap.size):=(qgs CB.out).1
   have x0 : w4.cell? ⟨w1.heap.size,0,none⟩ = some (.int .i64 p.n):=by simp [World.cell?,CB.out]
   have x1 : w4.cell? ⟨w1.heap.size,1,none⟩ = some (.int .i64 p.t):=by simp [World.cell?,CB.out]
   have x2 : w4.cell? ⟨w1.heap.size,2,none⟩ = some (.int .i64 p.s):=by simp [World.cell?,CB.out]
   go_wp2_with (at_builtin;refine wpList_append_pkS _ rfl _ _ rfl w.heap.size u3 gs rfl (HO2.out.kept (grownBy_of_below (row:=none) (below_one8 w4 _)) (by simp)) _ [p] rfl (RdP.built w4 p _) (by simp;omega) (by have:=HGW2.out.size;simp;omega) ?_;intro v' w6 hO6 hg6)
   have b5:=grownBy_of_below (row:=none) (below_one8 w4 (.cells #[.int .i64 p.n,.int .i64 p.t,.int .i64 p.s] 174))
   have hlow : ∀ j,u3.ownBlock = some j → w.heap.size ≤ j:=HO2.out.blk
   have n1 : some mb ≠ u3.ownBlock:=fun e => by have:=hlow _ e.symm;omega
   have n2 : some w.heap.size ≠ u3.ownBlock:=fun e => HROW.out _ e.symm rfl
   have HR5:=HR2.out.kept b5 (by simp) (by simp)
   refine ⟨⟨gs ++ [p],todo',hO6,HR5.kept hg6 n1 n2,?_,(HGW2.out.andThen b5 (by simp)).andThen hg6 (fun j hj => .inl (hlow j hj))⟩,?_⟩
   ·rw [List.append_assoc]
    exact (List.Perm.append_left gs HPT.out.symm).trans HP.out
   ·rw [HR5.left hg6 n1 n2,HR2.out.left b5 (by simp) (by simp),HL2.out]
    exact HRL.out
end Go.Proofs.YtmcomdmcmnbhlaaGreatDoor
