import Derived.Test.YtmcomdmcmnbhlaaGreatDoorKCn0
import Derived.Test.YtmcomdmcmnbhlaaGreatDoorKCn1
import Derived.Test.YtmcomdmcmnbhlaaGreatDoorKSp0
import Derived.Deep.RegionHeld3
import Derived.StillTailTactics
import Derived.WalkLawsBesides
import Derived.Test.YtmcomdmcmnbhlaaGreatDoorKTa0
import Derived.Test.YtmcomdmcmnbhlaaGreatDoorKPn0
set_option maxRecDepth 100000
set_option maxHeartbeats 25600000
set_option linter.unusedSimpArgs false
set_option linter.unusedVariables false
set_option linter.unnecessarySimpa false
namespace Go.Proofs.YtmcomdmcmnbhlaaGreatDoor
open Go.RowKit
def ltCell (l : Lt) : List Value:=[.int .i64 l.at_,.int .u8 l.v,.bool l.told]
def ltC (l : List Lt) : List Value:=l.flatMap ltCell
theorem ltC_append (a b : List Lt) : ltC (a ++ b) = ltC a ++ ltC b:=by simp [ltC]
theorem ltC_get (l : List Lt) (i j : Nat) (hi : i < l.length) (hj : j < 3) : (ltC l)[i * 3 + j]? = (ltCell l[i])[j]?:=flat_get ltCell 3 (fun _ => rfl) l i j hi hj
theorem ltC_set (l : List Lt) (i : Nat) (h : i < l.length) (t : Bool) : ltC (l.set i { l[i] with told:=t }) = (ltC l).set (i * 3 + 2) (.bool t):=by
 induction l generalizing i with
 | nil => simp at h
 | cons x l ih =>
   cases i with
   | zero => simp [ltC,ltCell]
   | succ i =>
     have h2:=ih i (by simpa using h)
     simp only [ltC,List.set_cons_succ,List.flatMap_cons,ltCell,List.getElem_cons_succ] at h2 ⊢
     rw [h2,show (i + 1) * 3 + 2 = i * 3 + 2 + 1 + 1 + 1 by omega]
     simp
def OwnT (w : World) (v : Value) (l : List Lt) : Prop:=w.ownsRow 0 115 3 v l.length (ltC l)
theorem OwnT.form {w : World} {v : Value} {l : List Lt} (h : OwnT w v l) (h0 : l ≠ []) : ∃ g c,v = .slice (some ⟨g,0,none⟩) l.length c ∧ g < w.heap.size ∧ l.length ≤ c ∧ c ≤ maxLen:=by
 rcases h.2 with ⟨_,q⟩ | ⟨g,cap,cur,rfl,a2,a3,a4,a5,_⟩
 ·exact absurd (List.length_eq_zero_iff.1 q) h0
 ·exact ⟨g,cap,rfl,(qgs a3).1,a4,a5⟩
theorem OwnT.slice {w : World} {v : Value} {l : List Lt} (h : OwnT w v l) : ∃ a c,v = .slice a l.length c ∧ l.length ≤ c ∧ c ≤ maxLen:=RdC.isSlice (RdC.of_owns h)
theorem OwnT.at {w : World} {g n c : Nat} {l : List Lt} (h : OwnT w (.slice (some ⟨g,0,none⟩) n c) l) (i : Nat) (hi : i < l.length) :
  w.cell? ⟨g,i * 3,none⟩ = some (.int .i64 l[i].at_) ∧ w.cell? ⟨g,i * 3 + 1,none⟩ = some (.int .u8 l[i].v) ∧ w.cell? ⟨g,i * 3 + 2,none⟩ = some (.bool l[i].told) ∧ w.frozen? ⟨g,i * 3 + 2,none⟩ = false:=by
 have hn : n = l.length:=by
  rcases h.2 with ⟨q,_⟩ | ⟨g',cap',cur,q,_⟩
  ·cases q
  ·simp only [Value.slice.injEq] at q;exact q.2.1
 subst hn
 refine ⟨?_,?_,?_,World.ownsRow.frozenAt h _⟩
 ·rw [World.ownsRow.cellAt h (i * 3) (by omega)]
  exact (ltC_get l i 0 hi (by omega)).trans rfl
 ·rw [World.ownsRow.cellAt h (i * 3 + 1) (by omega)]
  exact (ltC_get l i 1 hi (by omega)).trans rfl
 ·rw [World.ownsRow.cellAt h (i * 3 + 2) (by omega)]
  exact (ltC_get l i 2 hi (by omega)).trans rfl
theorem OwnT.set {w : World} {g n c : Nat} {l : List Lt} (h : OwnT w (.slice (some ⟨g,0,none⟩) n c) l) (i : Nat) (hi : i < l.length) (t : Bool) :
  OwnT (w.setCell ⟨g,i * 3 + 2,none⟩ (.bool t)) (.slice (some ⟨g,0,none⟩) n c) (l.set i { l[i] with told:=t }):=by
 have hn : n = l.length:=by
  rcases h.2 with ⟨q,_⟩ | ⟨g',cap',cur,q,_⟩
  ·cases q
  ·simp only [Value.slice.injEq] at q;exact q.2.1
 subst hn
 have h1:=(World.ownsRow.stored h (i * 3 + 2) (.bool t)).1
 unfold OwnT
 rw [List.length_set,ltC_set l i hi t]
 exact h1
theorem OwnT.block {w w' : World} {v : Value} {l : List Lt} (h : OwnT w v l) (hb : ∀ j,v.ownBlock = some j → w'.heap[j]? = w.heap[j]?) : OwnT w' v l:=ownsRow_block h hb
theorem OwnT.below {w w' : World} {v : Value} {l : List Lt} (h : OwnT w v l) (hb : Below w.heap.size w w') : OwnT w' v l:=h.block fun j hj => hb.block j (World.ownsRow.lt h j hj).2
theorem OwnT.grown {w w' : World} {v : Value} {l : List Lt} {row : Option Nat} (h : OwnT w v l) (hb : w.grownBy w' row) (hn : ∀ j,v.ownBlock = some j → row ≠ some j) : OwnT w' v l:=h.block fun j hj => hb.block j (World.ownsRow.lt h j hj).2 (fun e => hn j hj e.symm)
structure WrC (e o : Nat) (v : Value) (q : WQ) (w : World) : Prop where
 c0 : Cell e o v w
 c1 : Cell e (o + 1) (.int .i64 q.size) w
 c2 : Cell e (o + 2) (.bool q.closed) w
 c3 : Cell e (o + 3) (.int .i64 q.limit) w
structure Wr (c : Col) (k e o : Nat) (v : Value) (q : WQ) (w : World) : Prop where
 cells : WrC e o v q w
 row : OwnT w v q.rest
 col : ∀ j,v.ownBlock = some j → c j = k
 ne : v.ownBlock ≠ some e
theorem WrC.block {e o : Nat} {v : Value} {q : WQ} {w w' : World} (h : WrC e o v q w) (hb : w'.heap[e]? = w.heap[e]?) : WrC e o v q w':=⟨h.c0.block hb,h.c1.block hb,h.c2.block hb,h.c3.block hb⟩
theorem WrC.below {e o : Nat} {v : Value} {q : WQ} {w w' : World} (h : WrC e o v q w) (hb : Below w.heap.size w w') : WrC e o v q w':=h.block (hb.block e h.c0.lt)
theorem WrC.rgn {e o lo hi : Nat} {v : Value} {q : WQ} {w w' : World} (h : WrC e o v q w) (k : Rgn e lo hi w w') (hd : o + 4 ≤ lo ∨ hi ≤ o) : WrC e o v q w':=⟨h.c0.rgn k (by omega),h.c1.rgn k (by omega),h.c2.rgn k (by omega),h.c3.rgn k (by omega)⟩
theorem Wr.below {c : Col} {k e o : Nat} {v : Value} {q : WQ} {w w' : World} (h : Wr c k e o v q w) (hb : Below w.heap.size w w') : Wr c k e o v q w':=⟨h.cells.below hb,h.row.below hb,h.col,h.ne⟩
theorem Wr.frame {c c' : Col} {K : Nat → Prop} {k e o lo hi : Nat} {v : Value} {q : WQ} {w w' : World} (h : Wr c k e o v q w) (s : Stp c c' K w w') (r : Rgn e lo hi w w') (hk : ¬ K k) (hd : o + 4 ≤ lo ∨ hi ≤ o) : Wr c' k e o v q w' :=
 ⟨h.cells.rgn r hd,h.row.block fun j hj => s.block j (World.ownsRow.lt h.row j hj).2 (by rw [h.col j hj];exact hk),fun j hj => (s.col j (World.ownsRow.lt h.row j hj).2).trans (h.col j hj),h.ne⟩
theorem Wr.stp {c c' : Col} {K : Nat → Prop} {k e o : Nat} {v : Value} {q : WQ} {w w' : World} (h : Wr c k e o v q w) (s : Stp c c' K w w') (hk : ¬ K k) (he : ¬ K (c e)) : Wr c' k e o v q w' :=
 ⟨h.cells.block (s.block e h.cells.c0.lt he),h.row.block fun j hj => s.block j (World.ownsRow.lt h.row j hj).2 (by rw [h.col j hj];exact hk),fun j hj => (s.col j (World.ownsRow.lt h.row j hj).2).trans (h.col j hj),h.ne⟩
theorem isEnd_any {e o : Nat} {v : Value} {q : WQ} {w : World} (h : WrC e o v q w) (a x : Int) (t : Bool) :
  Calls Tryz.prog 53 #[.pointer (some ⟨e,o,none⟩),.agg #[.int .i64 a,.int .u8 x,.bool t]] w fun r w' => r = .returned (.bool (decide (a = q.size))) ∧ Below w.heap.size w w':=by
 have B1 : Hid (Below w.heap.size w (w.alloc (.cells #[.int .i64 a,.int .u8 x,.bool t] 115))):=(qbr _ w).alloc (qlr _) _
 have C : Hid ((w.alloc (.cells #[.int .i64 a,.int .u8 x,.bool t] 115)).cell? ⟨w.heap.size,0,none⟩ = some (.int .i64 a) ∧ (w.alloc (.cells #[.int .i64 a,.int .u8 x,.bool t] 115)).cell? ⟨e,o + 1,none⟩ = some (.int .i64 q.size)) :=
  ⟨by rw [World.cell?_alloc_at _ _ _ _ rfl];rfl,(B1.out.cell (p:=⟨e,o + 1,none⟩) h.c1.lt).trans h.c1.1⟩
 clear h
 go_enter Tryz.func53,Tryz.ntmps53
 go_wp2_with fail
 generalize w.alloc (.cells #[.int .i64 a,.int .u8 x,.bool t] 115) = W at B1 C ⊢
 generalize w.heap.size = p at C ⊢
 obtain ⟨c0,c1⟩:=C.out
 have d0 : W.drew.cell? ⟨p,0,none⟩ = some (.int .i64 a):=c0
 have d1 : W.drew.cell? ⟨e,o + 1,none⟩ = some (.int .i64 q.size):=c1
 go_quiet (fail)
 go_wp2
 go_ret
 exact ⟨by congr 2,qbd B1.out _⟩
theorem queued_any {c : Col} {k e o : Nat} {v : Value} {q : WQ} {w : World} {X : List Int} {F : Bool} (h : Wr c k e o v q w) (hq : WOk X F q) :
  Calls Tryz.prog 25 #[.pointer (some ⟨e,o,none⟩)] w fun r w' => r = .returned (.int .i64 (queuedN q)) ∧ Below w.heap.size w w':=by
 have hn:=hq.queued
 have hlen:=hq.len
 have HC:=qhi h.cells
 by_cases h0 : q.rest = []
 ·have c0:=h.cells.c0.1
  obtain ⟨a,cc,rfl,_⟩:=h.row.slice
  rw [h0] at c0 hn
  simp only [List.length_nil] at c0
  have HN : Hid (queuedN q = 0):=by
   show _ = _
   simpa using hn
  clear h hn hq h0
  go_enter Tryz.func25,Tryz.ntmps25
  go_wp2
  go_ret
  rw [HN.out]
  exact ⟨rfl,qbr _ _⟩
 ·obtain ⟨g,cc,rfl,hg,_,_⟩:=h.row.form h0
  obtain ⟨m,hm⟩ : ∃ m,q.rest.length = m + 1:=⟨q.rest.length - 1,by have:=List.length_pos_iff.2 h0;omega⟩
  have c0:=h.cells.c0.1
  obtain ⟨l0,l1,l2,_⟩:=h.row.at m (by omega)
  have hlast : q.rest.getLastD default = q.rest[m]:=by
   rw [List.getLastD_eq_getLast?,List.getLast?_eq_getElem?];simp [hm]
  rw [hlast] at hn
  obtain ⟨⟨la,lx,lt⟩,hla⟩ : ∃ y,q.rest[m] = y:=⟨_,rfl⟩
  rw [hla] at hn l0 l1 l2
  simp only at hn l0 l1 l2
  rw [hm] at c0 hlen hn
  have HN : Hid (queuedN q = if la = q.size then m else m + 1):=by
   show _ = _
   rw [hn]
   by_cases e : la = q.size
   ·rw [if_pos e,if_pos ⟨by omega,e⟩];omega
   ·rw [if_neg e,if_neg (fun k => e k.2)]
  have HE:=qhi (fun W (hW : WrC e o (.slice (some ⟨g,0,none⟩) q.rest.length cc) q W) => isEnd_any (w:=W) hW la lx lt)
  have i1 : (0 : Int) ≤ (m : Int):=by omega
  have i2 : (m : Int) < (m : Int) + 1:=by omega
  clear h hn hq h0 hlast hla hm
  cases e1 : decide (la = q.size)
  all_goals
   go_enter Tryz.func25,Tryz.ntmps25
   go_wp2_with (go_at_call 53;refine (HE.out _ HC.out).mono ?_;rintro r w2 ⟨rfl,hb2⟩)
   go_ret
   rw [HN.out]
   first
    | (rw [if_pos (of_decide_eq_true e1)];exact ⟨rfl,hb2⟩)
    | (rw [if_neg (of_decide_eq_false e1)];exact ⟨rfl,hb2⟩)
structure FindIs (l : List Lt) (x : Int) (k : Nat) : Prop where
 le : k ≤ l.length
 lo : ∀ i,i < k → ∀ h : i < l.length,l[i].at_ < x
 hi : ∀ i,k ≤ i → ∀ h : i < l.length,x ≤ l[i].at_
theorem FindIs.mono {l : List Lt} {x y : Int} {k m : Nat} (h : FindIs l x k) (h' : FindIs l y m) (hxy : x ≤ y) : k ≤ m:=by
 rcases Nat.lt_or_ge m k with h1 | h1
 ·have hm : m < l.length:=by have:=h.le;omega
  have:=h.lo m h1 hm
  have:=h'.hi m (qlr m) hm
  omega
 ·exact h1
theorem findcl_any (i : Nat) (x a : Int) (bp bx e o g n c : Nat) (W : World) (h0 : W.cell? ⟨bp,0,none⟩ = some (.pointer (some ⟨e,o,none⟩))) (h1 : W.cell? ⟨bx,0,none⟩ = some (.int .i64 x))
  (h2 : W.cell? ⟨e,o,none⟩ = some (.slice (some ⟨g,0,none⟩) n c)) (hi : i < n) (h3 : W.cell? ⟨g,i * 3,none⟩ = some (.int .i64 a)) :
  Calls Tryz.prog 192 (#[.int .i64 i] ++ #[.pointer (some ⟨bp,0,none⟩),.pointer (some ⟨bx,0,none⟩)]) W fun r w' => r = .returned (.bool (decide (x ≤ a))) ∧ Below W.heap.size W w':=by
 have i1 : (0 : Int) ≤ (i : Int):=by omega
 have i2 : (i : Int) < (n : Int):=by omega
 have e1 : decide (a ≥ x) = decide (x ≤ a):=rfl
 have d0 : W.drew.cell? ⟨bp,0,none⟩ = some (.pointer (some ⟨e,o,none⟩)):=h0
 have d1 : W.drew.cell? ⟨bx,0,none⟩ = some (.int .i64 x):=h1
 have d2 : W.drew.cell? ⟨e,o,none⟩ = some (.slice (some ⟨g,0,none⟩) n c):=h2
 have d3 : W.drew.cell? ⟨g,i * 3,none⟩ = some (.int .i64 a):=h3
 go_enter Tryz.func192,Tryz.ntmps192
 go_wp2_with fail
 go_quiet (fail)
 go_wp2
 go_ret
 exact ⟨by congr 2,qbd (qbr _ _) _⟩
theorem find_any {c : Col} {k e o : Nat} {v : Value} {q : WQ} {w : World} {X : List Int} {F : Bool} (h : Wr c k e o v q w) (hq : WOk X F q) (x : Int) :
  Calls Tryz.prog 141 #[.pointer (some ⟨e,o,none⟩),.int .i64 x] w fun r w' => ∃ m : Nat,r = .returned (.int .i64 m) ∧ FindIs q.rest x m ∧ Below w.heap.size w w':=by
 have hlen:=hq.len
 obtain ⟨w1,hw1⟩ : ∃ w1,w1 = (w.alloc (.cells #[.pointer (some ⟨e,o,none⟩)] 112)).alloc (.cells #[.int .i64 x] 3):=⟨_,rfl⟩
 have BA : Below w.heap.size w w1:=by subst hw1;exact ((qbr _ w).alloc (qlr _) _).alloc (by simp) _
 have hz : w1.heap.size = w.heap.size + 2:=by subst hw1;simp
 have cp : w1.cell? ⟨w.heap.size,0,none⟩ = some (.pointer (some ⟨e,o,none⟩)):=by
  subst hw1
  exact (Below.cell ((qbr (w.heap.size + 1) (w.alloc (.cells #[.pointer (some ⟨e,o,none⟩)] 112))).alloc (by simp) _) (p:=⟨w.heap.size,0,none⟩) (by simp)).trans (by rw [World.cell?_alloc_at _ _ _ _ rfl];rfl)
 have cx : w1.cell? ⟨w.heap.size + 1,0,none⟩ = some (.int .i64 x):=by subst hw1;rw [World.cell?_alloc_at _ _ _ _ (by simp)];rfl
 obtain ⟨va,vc,hv,hvc,_⟩:=h.row.slice
 have c0:=(h.cells.below BA).c0.1
 have hs:=search_any 192 #[.pointer (some ⟨w.heap.size,0,none⟩),.pointer (some ⟨w.heap.size + 1,0,none⟩)] q.rest.length (fun i => decide (x ≤ (q.rest.getD i default).at_)) w1 (enters_of Tryz.func192 (by kernel_rfl) rfl) (by omega)
  (fun W i hi hbW => by
   obtain ⟨g,cc,hv2,_⟩:=h.row.form (by intro e0;rw [e0] at hi;simp at hi)
   have hB:=BA.trans (hbW.mono BA.size)
   subst hv2
   obtain ⟨l0,_⟩:=(h.row.below hB).at i hi
   have:=findcl_any i x q.rest[i].at_ w.heap.size (w.heap.size + 1) e o g q.rest.length cc W ((hbW.cell (p:=⟨w.heap.size,0,none⟩) (by rw [hz];simp)).trans cp) ((hbW.cell (p:=⟨w.heap.size + 1,0,none⟩) (by rw [hz];simp)).trans cx) (h.cells.below hB).c0.1 hi l0
   rw [show q.rest.getD i default = q.rest[i] by simp [List.getD,hi]]
   exact this)
  (fun a b hab hbl hp => by
   rcases Nat.lt_or_eq_of_le hab with h1 | rfl
   ·have:=hq.lt hbl h1
    rw [show q.rest.getD a default = q.rest[a] by simp [List.getD,show a < q.rest.length by omega]] at hp
    rw [show q.rest.getD b default = q.rest[b] by simp [List.getD,hbl]]
    simp only [decide_eq_true_eq] at hp ⊢;omega
   ·exact hp)
 have HS:=qhi hs
 have HB:=qhi BA
 subst hv
 rw [hw1] at c0
 clear hs h hq BA hz cp cx
 go_enter Tryz.func141,Tryz.ntmps141
 go_wp2_with (go_at_call 122;subst hw1;refine HS.out.mono ?_;rintro r w2 ⟨m,rfl,h1,h2,h3,hb2⟩)
 go_ret
 refine ⟨m,rfl,⟨h1,fun i hi hl => ?_,fun i hi hl => ?_⟩,HB.out.trans (hb2.mono HB.out.size)⟩
 ·have:=h2 i hi
  simpa [List.getD,hl] using this
 ·have:=h3 i hi hl
  simpa [List.getD,hl] using this
structure Pt where
 s : Int
 f : Int
 t : Int
 l : Int
theorem within_any {c : Col} {k e o : Nat} {v : Value} {q : WQ} {w : World} {X : List Int} {F : Bool} (h : Wr c k e o v q w) (hq : WOk X F q) (p : Pt) :
  Calls Tryz.prog 93 #[.pointer (some ⟨e,o,none⟩),.agg #[.int .i64 p.s,.int .i64 p.f,.int .i64 p.t,.int .i64 p.l]] w fun r w' => ∃ i j : Nat,r = .returned (.tuple #[.int .i64 i,.int .i64 j]) ∧ FindIs q.rest p.f i ∧ FindIs q.rest p.t j ∧ Below w.heap.size w w':=by
 obtain ⟨w1,hw1⟩ : ∃ w1,w1 = w.alloc (.cells #[.int .i64 p.s,.int .i64 p.f,.int .i64 p.t,.int .i64 p.l] 122):=⟨_,rfl⟩
 have BA : Below w.heap.size w w1:=by subst hw1;exact (qbr _ w).alloc (qlr _) _
 have cf : w1.cell? ⟨w.heap.size,1,none⟩ = some (.int .i64 p.f):=by subst hw1;rw [World.cell?_alloc_at _ _ _ _ rfl];rfl
 have ct : w1.cell? ⟨w.heap.size,2,none⟩ = some (.int .i64 p.t):=by subst hw1;rw [World.cell?_alloc_at _ _ _ _ rfl];rfl
 have hlt : w.heap.size < w1.heap.size:=by subst hw1;simp
 have HF:=qhi (fun W x (hW : Below w1.heap.size w1 W) => find_any (h.below (BA.trans (hW.mono BA.size))) hq x)
 have HL : Hid (∀ W,Below w1.heap.size w1 W → W.cell? ⟨w.heap.size,1,none⟩ = some (.int .i64 p.f) ∧ W.cell? ⟨w.heap.size,2,none⟩ = some (.int .i64 p.t) ∧ Below w1.heap.size w1 W) :=
  fun W hW => ⟨(hW.cell (p:=⟨w.heap.size,1,none⟩) hlt).trans cf,(hW.cell (p:=⟨w.heap.size,2,none⟩) hlt).trans ct,hW⟩
 have HB:=qhi BA
 have tok1 : True:=trivial
 clear h hq BA cf ct hlt
 go_enter Tryz.func93,Tryz.ntmps93
 go_wp2_with fail
 rw [← hw1]
 clear hw1
 generalize hp0 : w.heap.size = p0 at HL HB ⊢
 go_region_held3 (fun W => W.cell? ⟨p0,1,none⟩ = some (.int .i64 p.f) ∧ W.cell? ⟨p0,2,none⟩ = some (.int .i64 p.t) ∧ Below w1.heap.size w1 W)
  (first
   | (exact HL.out _ (qbd (qbr _ _) 1))
   | (exact HL.out _ B2)
   | (exact HL.out _ B1))
  (first
   | (go_at_call 141;have _t:=tok1;refine (HF.out _ _ (qbd (qbr _ _) 1)).mono ?_;rintro r w2 ⟨i,rfl,hF1,hb2⟩;have B1 : Below w1.heap.size w1 w2:=(qbd (qbr _ _) 1).trans hb2;clear tok1)
   | (go_at_call 141;refine (HF.out _ _ B1).mono ?_;rintro r w3 ⟨j,rfl,hF2,hb3⟩;have B2 : Below w1.heap.size w1 w3:=B1.trans (hb3.mono B1.size)))
 all_goals
  go_wp2
  go_ret2
  subst hp0
  exact ⟨i,j,rfl,hF1,hF2,HB.out.trans (B2.mono HB.out.size)⟩
def HeldG (G : Nat) (n cnt room : Int) (bv pv : Value) (W : World) : Prop:=W.heap[G]? = some (.cells #[.int .i64 n,bv,.int .i64 cnt,.int .i64 room,pv] 93 (0,0))
theorem HeldG.lt {G : Nat} {n cnt room : Int} {bv pv : Value} {W : World} (H : HeldG G n cnt room bv pv W) : G < W.heap.size:=(qgs H).1
theorem HeldG.below {G B : Nat} {n cnt room : Int} {bv pv : Value} {W W' : World} (H : HeldG G n cnt room bv pv W) (hb : Below B W W') (hG : G < B) : HeldG G n cnt room bv pv W':=(hb.block G hG).trans H
theorem HeldG.kept {G : Nat} {n cnt room : Int} {bv pv : Value} {W W' : World} {row : Option Nat} (H : HeldG G n cnt room bv pv W) (hg : W.grownBy W' row) (hr : row ≠ some G) : HeldG G n cnt room bv pv W':=(hg.block G H.lt (fun e => hr e.symm)).trans H
theorem HeldG.drew {G : Nat} {n cnt room : Int} {bv pv : Value} {W : World} (H : HeldG G n cnt room bv pv W) : HeldG G n cnt room bv pv W.drew:=H
theorem HeldG.facts {G : Nat} {n cnt room : Int} {bv pv : Value} {W : World} (H : HeldG G n cnt room bv pv W) :
  W.cell? ⟨G,0,none⟩ = some (.int .i64 n) ∧ W.cell? ⟨G,1,none⟩ = some bv ∧ W.cell? ⟨G,2,none⟩ = some (.int .i64 cnt) ∧ W.cell? ⟨G,3,none⟩ = some (.int .i64 room) ∧ W.cell? ⟨G,4,none⟩ = some pv:=by
 unfold HeldG at H
 simp [World.cell?,H]
theorem HeldG.free {G : Nat} {n cnt room : Int} {bv pv : Value} {W : World} (H : HeldG G n cnt room bv pv W) (j : Nat) : W.frozen? ⟨G,j,none⟩ = false:=by
 unfold HeldG at H
 simp [World.frozen?,H]
theorem HeldG.set1 {G : Nat} {n cnt room : Int} {bv pv : Value} {W : World} (H : HeldG G n cnt room bv pv W) (x : Value) : HeldG G n cnt room x pv (W.setCell ⟨G,1,none⟩ x):=by
 unfold HeldG at *;simp [World.setCell,Array.getElem?_modify,H]
theorem HeldG.set2 {G : Nat} {n cnt room : Int} {bv pv : Value} {W : World} (H : HeldG G n cnt room bv pv W) (x : Int) : HeldG G n x room bv pv (W.setCell ⟨G,2,none⟩ (.int .i64 x)):=by
 unfold HeldG at *;simp [World.setCell,Array.getElem?_modify,H]
theorem HeldG.set3 {G : Nat} {n cnt room : Int} {bv pv : Value} {W : World} (H : HeldG G n cnt room bv pv W) (x : Int) : HeldG G n cnt x bv pv (W.setCell ⟨G,3,none⟩ (.int .i64 x)):=by
 unfold HeldG at *;simp [World.setCell,Array.getElem?_modify,H]
theorem HeldG.set4 {G : Nat} {n cnt room : Int} {bv pv : Value} {W : World} (H : HeldG G n cnt room bv pv W) (x : Value) : HeldG G n cnt room bv x (W.setCell ⟨G,4,none⟩ x):=by
 unfold HeldG at *;simp [World.setCell,Array.getElem?_modify,H]
theorem owns_type {B e m n j : Nat} {v : Value} {fl : List Value} {w : World} (h : w.ownsRow B e m v n fl) (hj : v.ownBlock = some j) : ∃ cur,w.heap[j]? = some (.cells cur e (0,0)):=by
 obtain ⟨_,⟨rfl,_⟩ | ⟨g,cap,cur,rfl,_,a3,_⟩⟩:=h
 ·cases hj
 ·cases hj;exact ⟨cur,a3⟩
theorem owns_apart {B e m n j : Nat} {v : Value} {fl : List Value} {w : World} {cs : Array Value} {T : TypeId} {z : Nat × Nat} (h : w.ownsRow B e m v n fl) (hj : w.heap[j]? = some (.cells cs T z)) (hne : e ≠ T) : v.ownBlock ≠ some j:=by
 intro hv
 obtain ⟨cur,hc⟩:=owns_type h hv
 rw [hj] at hc
 simp only [Option.some.injEq,Obj.cells.injEq] at hc
 exact hne hc.2.1.symm
def ptCell (p : Pt) : List Value:=[.int .i64 p.s,.int .i64 p.f,.int .i64 p.t,.int .i64 p.l]
def ptC (l : List Pt) : List Value:=l.flatMap ptCell
theorem ptC_append (a b : List Pt) : ptC (a ++ b) = ptC a ++ ptC b:=by simp [ptC]
theorem ptC_one (l : List Pt) : ∀ u ∈ ptC l,u.oneCell' = true:=by
 intro u hu
 simp only [ptC,List.mem_flatMap,ptCell,List.mem_cons,List.not_mem_nil,or_false] at hu
 obtain ⟨s,_,rfl | rfl | rfl | rfl⟩:=hu <;> rfl
def Gm (B G : Nat) (n : Int) (bs : List Int) (cnt : Nat) (room : Int) (ps : List Pt) (w : World) : Prop :=
 ∃ bv pv,B ≤ G ∧ HeldG G n cnt room bv pv w ∧ Own .u8 5 w B bv bs ∧ w.ownsRow B 122 4 pv ps.length (ptC ps)
theorem Gm.drew {B G : Nat} {n : Int} {bs : List Int} {cnt : Nat} {room : Int} {ps : List Pt} {w : World} (h : Gm B G n bs cnt room ps w) : Gm B G n bs cnt room ps w.drew:=h
theorem gsize_any {B G : Nat} {n : Int} {bs : List Int} {cnt : Nat} {room : Int} {ps : List Pt} {w : World} (h : Gm B G n bs cnt room ps w) (hl : bs.length ≤ 4096) :
  Calls Tryz.prog 63 #[.pointer (some ⟨G,0,none⟩)] w fun e w' => e = .returned (.int .i64 (bs.length + 8)) ∧ w' = w:=by
 obtain ⟨bv,pv,hB,H,o,_⟩:=h
 obtain ⟨c0,c1,c2,c3,c4⟩:=H.facts
 obtain ⟨a,c,rfl⟩:=o.len
 clear o H
 go_enter Tryz.func63,Tryz.ntmps63
 go_wp2
 go_ret
 exact ⟨rfl,rfl⟩
theorem keyOf_any (key r : Int) (w : World) (h : r = 0 ∨ r = 1) :
  Calls Tryz.prog 39 #[.int .u64 key,.int .i64 r] w fun e w' => e = .returned (.int .u64 (bits .xor .u64 key (r + 1))) ∧ w = w':=by
 rcases h with rfl | rfl
 all_goals
  go_enter Tryz.func39,Tryz.ntmps39
  go_wp2
  go_ret
  exact ⟨rfl,rfl⟩
theorem owns_keptG {w w' : World} {B e m n G : Nat} {v : Value} {fl : List Value} {cs : Array Value} {T : TypeId} {z : Nat × Nat} (h : w.ownsRow B e m v n fl) (hG : w.heap[G]? = some (.cells cs T z)) (hne : e ≠ T) (hg : w.grownBy w' (some G)) : w'.ownsRow B e m v n fl:=by
 have ha:=owns_apart h hG hne
 refine World.ownsRow.kept h hg ?_
 cases hv : v.ownBlock with
 | none => exact .inl rfl
 | some j => exact .inr fun e => ha (hv.trans e)
theorem Gm.wrote {B G : Nat} {n n' : Int} {bs : List Int} {cnt : Nat} {room room' : Int} {ps : List Pt} {w w' : World} {bv pv : Value} (hB : B ≤ G) (H : HeldG G n cnt room bv pv w) (o : Own .u8 5 w B bv bs) (hp : w.ownsRow B 122 4 pv ps.length (ptC ps))
  {cnt' : Nat} (H' : HeldG G n' cnt' room' bv pv w') (hg : w.grownBy w' (some G)) : Gm B G n' bs cnt' room' ps w' :=
 ⟨bv,pv,hB,H',owns_keptG o H (by decide) hg,owns_keptG hp H (by decide) hg⟩
theorem narrow_core {B G : Nat} {n : Int} {bs : List Int} {cnt : Nat} {room : Int} {ps : List Pt} {w : World} (h : Gm B G n bs cnt room ps w) (hl : bs.length ≤ 4096) (s : Int) (hs : 0 ≤ s ∧ s ≤ 4611686018427387903) (m : Int)
  (hm : (s - (bs.length + 8) < room ∧ m = s - (bs.length + 8)) ∨ (¬ s - (bs.length + 8) < room ∧ m = room)) :
  Calls Tryz.prog 34 #[.pointer (some ⟨G,0,none⟩),.int .i64 s] w fun e w' => e = .returned (.tuple #[]) ∧ Gm B G n bs cnt m ps w' ∧ Below B w w':=by
 have S:=qhi (gsize_any h.drew hl)
 obtain ⟨bv,pv,hB,H,o,hp⟩:=h
 obtain ⟨c0,c1,c2,c3,c4⟩:=H.drew.facts
 have f3:=H.drew.free 3
 have hsw : IntKind.i64.wrap (s - ((bs.length : Int) + 8)) = s - ((bs.length : Int) + 8):=by rw [IntKind.wrap_i64];omega
 have HG:=qhi H
 have HO:=qhi o
 have HP:=qhi hp
 clear H o hp
 rcases hm with ⟨hm,rfl⟩ | ⟨hm,rfl⟩
 all_goals
  go_enter Tryz.func34,Tryz.ntmps34
  go_wp2_with fail
  go_still_tail 12,(by kernel_rfl)
  still_call S.out
  repeat still_step
  refine wpStill_nil ?_
  change wpList _ _ _ _ _ w.drew
  go_wp2_with fail
  go_end0
  exact ⟨rfl,Gm.wrote hB HG.out.drew HO.out HP.out (HG.out.drew.set3 _) (grown_set G 3 _ _),((qbr _ _).drew).setCell hB _⟩
theorem narrow_any {B G : Nat} {n : Int} {bs : List Int} {cnt : Nat} {room : Int} {ps : List Pt} {w : World} (h : Gm B G n bs cnt room ps w) (hl : bs.length ≤ 4096) (s : Int) (hs : 0 ≤ s ∧ s ≤ 4611686018427387903) :
  Calls Tryz.prog 34 #[.pointer (some ⟨G,0,none⟩),.int .i64 s] w fun e w' => e = .returned (.tuple #[]) ∧ Gm B G n bs cnt (min room (s - (bs.length + 8))) ps w' ∧ Below B w w':=by
 by_cases hlt : s - (bs.length + 8) < room
 ·exact narrow_core h hl s hs _ (.inl ⟨hlt,by omega⟩)
 ·exact narrow_core h hl s hs _ (.inr ⟨hlt,by omega⟩)
theorem seal_gram {B G : Nat} {n : Int} {bs : List Int} {cnt : Nat} {room : Int} {ps : List Pt} {w : World} (h : Gm B G n bs cnt room ps w) (hx : Bts bs) (hl : bs.length ≤ 4096) (key : Int) :
  Calls Tryz.prog 38 #[.pointer (some ⟨G,0,none⟩),.int .u64 key] w fun e w' => ∃ u,e = .returned u ∧ Own .u8 5 w' w.heap.size u (sealL key bs) ∧ Below w.heap.size w w':=by
 obtain ⟨bv,pv,hB,H,o,_⟩:=h
 obtain ⟨c0,c1,c2,c3,c4⟩:=H.facts
 have S:=qhi (seal_any key bv bs w o.rd hx (by omega))
 clear o H
 go_enter Tryz.func38,Tryz.ntmps38
 go_wp2_with fail
 refine S.out.mono ?_
 rintro e w1 ⟨u,rfl,o1,b1⟩
 go_wp2_with fail
 go_ret
 exact ⟨u,rfl,o1,b1⟩
theorem cut_low (n : Nat) (hn : n < 1048576) (w : World) : Calls Tryz.prog 62 #[.int .i64 n,.int .i64 4] w fun e w' => e = .returned (.tuple #[.int .i64 n,.int .i64 0]) ∧ w = w':=by
 have hok : cutOk n 4:=by unfold cutOk;simp [IsNum,IsWid];omega
 have:=cut_any n 4 w
 rw [if_pos hok,if_pos hok,show (n : Int) % cnt 4 = n by simp [cnt];omega] at this
 exact this
theorem heldG_last (n cnt room : Int) (bv pv : Value) (w : World) : HeldG w.heap.size n cnt room bv pv (w.alloc (.cells #[.int .i64 n,bv,.int .i64 cnt,.int .i64 room,pv] 93)):=by
 show (w.heap.push _)[w.heap.size]? = _
 simp
theorem heldG_second (n cnt room : Int) (bv pv : Value) (w : World) (a : Obj) : HeldG (w.heap.size + 1) n cnt room bv pv ((w.alloc a).alloc (.cells #[.int .i64 n,bv,.int .i64 cnt,.int .i64 room,pv] 93)):=by
 have:=heldG_last n cnt room bv pv (w.alloc a)
 simpa using this
theorem own_next {w : World} {B n K k4 : Nat} {a : Option Addr} {x : Int} (h : Own .u8 5 w B (.slice a ((4 :: (be n 4).take K) ++ [x]).length k4) ((4 :: (be n 4).take K) ++ [x])) (hx : (be n 4).take (K + 1) = (be n 4).take K ++ [x]) (hK : K + 1 ≤ 4) :
  Own .u8 5 w B (.slice a (K + 2) k4) (4 :: (be n 4).take (K + 1)):=by
 have e : (4 : Int) :: (be n 4).take (K + 1) = (4 :: (be n 4).take K) ++ [x]:=by rw [hx];rfl
 have hl : (((4 : Int) :: (be n 4).take K) ++ [x]).length = K + 2:=by rw [List.length_append,List.length_cons,List.length_take,be_len];simp;omega
 rw [e,← hl];exact h
theorem newGram_any (n : Nat) (hn : n < 1048576) (w : World) :
  Calls Tryz.prog 32 #[.int .i64 n] w fun e w' => ∃ G,e = .returned (.pointer (some ⟨G,0,none⟩)) ∧ Gm w.heap.size G n (4 :: be n 4) 0 1187 [] w' ∧ Below w.heap.size w w':=by
 go_enter Tryz.func32,Tryz.ntmps32
 go_upto_region 2 with fail
 have h1 : HeldG (w.heap.size + 1) n 0 0 (.slice (some ⟨w.heap.size,0,none⟩) 1 1) (.slice none 0 0) ((w.alloc (.cells #[.int .u8 4] 5)).alloc (.cells #[.int .i64 n,.slice (some ⟨w.heap.size,0,none⟩) 1 1,.int .i64 0,.int .i64 0,.slice none 0 0] 93)):=heldG_second _ _ _ _ _ _ _
 have hO : Own .u8 5 ((w.alloc (.cells #[.int .u8 4] 5)).alloc (.cells #[.int .i64 n,.slice (some ⟨w.heap.size,0,none⟩) 1 1,.int .i64 0,.int .i64 0,.slice none 0 0] 93)) w.heap.size (.slice (some ⟨w.heap.size,0,none⟩) 1 1) [4]:=by
  refine Own.alloc ?_ _
  exact World.ownsRow_lit (base:=w.heap.size) (e:=5) (size:=1) w #[.int .u8 4] 1 (qlr _) (by decide) rfl
 have hb : Below w.heap.size w ((w.alloc (.cells #[.int .u8 4] 5)).alloc (.cells #[.int .i64 n,.slice (some ⟨w.heap.size,0,none⟩) 1 1,.int .i64 0,.int .i64 0,.slice none 0 0] 93)):=((qbr _ _).alloc (qlr _) _).alloc (by simp) _
 generalize (w.alloc (.cells #[.int .u8 4] 5)).alloc (.cells #[.int .i64 n,.slice (some ⟨w.heap.size,0,none⟩) 1 1,.int .i64 0,.int .i64 0,.slice none 0 0] 93) = w1 at h1 hO hb ⊢
 have H1:=qhi h1
 have HO:=qhi hO
 have HB:=qhi hb
 have hG : w.heap.size ≤ w.heap.size + 1:=by omega
 obtain ⟨G,hGe⟩ : ∃ G,G = w.heap.size + 1:=⟨_,rfl⟩
 rw [← hGe] at H1 hG ⊢
 clear h1 hO hb hGe
 go_wp2_with fail
 refine (cut_low n hn w1).mono ?_
 rintro e w2 ⟨rfl,rfl⟩
 go_wp2_with fail
 go_loopw [6] (fun i wr => ∃ (k : Nat) (j : Int) (bv : Value),k ≤ 4 ∧ j = 3 - (k : Int) ∧ i = .int .i64 j ∧ HeldG G n 0 0 bv (.slice none 0 0) wr ∧ Own .u8 5 wr w.heap.size bv (4 :: (be n 4).take k) ∧ Below w.heap.size w wr) (fun i _ => (intOf i + 1).toNat)
 case atStart => exact ⟨0,3,_,by omega,rfl,rfl,H1.out,HO.out,HB.out⟩
 case round =>
  obtain ⟨k,j,bv,hk,hj,rfl,hH,ho,hb⟩:=hrel
  by_cases hk4 : k = 4
  ·subst hk4
   obtain rfl : j = -1:=by omega
   have ho' : Own .u8 5 wr w.heap.size bv (4 :: be n 4):=by
    have:=ho
    rwa [be_all] at this
   have HGm : Hid (Gm w.heap.size G n (4 :: be n 4) 0 0 [] wr):=⟨bv,_,hG,hH,ho',World.ownsRow_nil wr w.heap.size _ 4⟩
   have SZ:=qhi (gsize_any HGm.out (by rw [List.length_cons,be_len];omega))
   have H:=qhi hH
   obtain ⟨c0,c1,c2,c3,c4⟩:=hH.facts
   have f3:=hH.free 3
   have hl5 : ((4 : Int) :: be n 4).length = 5:=by rw [List.length_cons,be_len]
   rw [hl5] at SZ
   clear ho hH
   go_wp2_with (refine SZ.out.mono ?_;rintro e w5 ⟨rfl,rfl⟩)
   go_ret
   exact ⟨G,rfl,Gm.wrote hG H.out ho' (World.ownsRow_nil _ w.heap.size _ 4) (H.out.set3 _) (grown_set G 3 _ _),hb.setCell hG _⟩
  ·have hk3 : k = 0 ∨ k = 1 ∨ k = 2 ∨ k = 3:=by omega
   obtain ⟨x,hx⟩ : ∃ x : Int,x = ((n / 256 ^ (3 - k) % 256 : Nat) : Int):=⟨_,rfl⟩
   have htk : (be n 4).take (k + 1) = (be n 4).take k ++ [x]:=by rw [be_take n 4 k (by omega),hx]
   have hxs : (n : Int) / ((256 ^ (3 - k) : Nat) : Int) % 256 = x:=by rw [hx];simp
   have HTK:=qhi htk
   have hlen : ((4 : Int) :: (be n 4).take k).length = k + 1:=by rw [List.length_cons,List.length_take,be_len];omega
   have HLN:=qhi hlen
   have H:=qhi hH
   have O:=qhi ho
   have hbz:=hb.size
   obtain ⟨c0,c1,c2,c3,c4⟩:=hH.drew.facts
   clear htk hx hlen ho hH
   have hkj : (k = 0 ∧ j = 3) ∨ (k = 1 ∧ j = 2) ∨ (k = 2 ∧ j = 1) ∨ (k = 3 ∧ j = 0):=by omega
   clear hj hk3 hk hk4
   rcases hkj with ⟨rfl,rfl⟩ | ⟨rfl,rfl⟩ | ⟨rfl,rfl⟩ | ⟨rfl,rfl⟩
   all_goals
    simp only [Nat.reduceSub,Nat.reducePow,Int.cast_ofNat_Int,Int.natCast_one,Int.ediv_one] at hxs
    go_wp2_with fail
    have hxw : IntKind.u8.wrap _ = x:=(IntKind.wrap_u8 _).trans hxs
    have w24 : IntKind.i64.wrap 24 = 24:=by decide
    have w16 : IntKind.i64.wrap 16 = 16:=by decide
    have w8 : IntKind.i64.wrap 8 = 8:=by decide
    have w0 : IntKind.i64.wrap 0 = 0:=by decide
    have cA : ∀ o,(wr.alloc o).drew.cell? ⟨G,1,none⟩ = some bv:=fun o => ((H.out.below ((qbr wr.heap.size wr).alloc (qlr _) o) H.out.lt).drew.facts).2.1
    go_region_law (refine step_append_rd rfl (.tmp 24) (.tmp 30) 29 rfl elemU8 Tryz.underlying29 w.heap.size bv _ rfl (Own.alloc O.out.drew _) (.slice (some ⟨wr.heap.size,0,none⟩) 1 1) [_] rfl (Rd.one .u8 5 wr.drew _) ?_ ?_ ?_ ?_;(rw [HLN.out];simp);(rw [HLN.out];simp [maxLen]);(simp;omega);intro v4 w4 o4 g4;obtain ⟨a4,k4,hv4⟩:=o4.len;subst hv4;have H4:=qhi ((((H.out.drew).below ((qbr wr.heap.size wr.drew).alloc (qlr _) _) H.out.lt)).kept g4 (owns_apart O.out H.out (by decide)));obtain ⟨e0,e1,e2,e3,e4⟩:=H4.out.facts;have f1:=H4.out.free 1;have O4:=qhi o4;have B4:=qhi ((hb.drew.alloc hbz _).grown g4 (Nat.le_trans hbz (by simp)) O.out.blk);clear o4 g4)
   all_goals
    have O5:=qhi (own_next O4.out HTK.out (by decide))
    clear O4
    go_wp2_with fail
    go_roundw
    case rel =>
     first
      | exact ⟨1,2,_,by decide,by decide,rfl,H4.out.set1 _,owns_keptG O5.out H4.out (by decide) (grown_set G 1 _ _),B4.out.setCell hG _⟩
      | exact ⟨2,1,_,by decide,by decide,rfl,H4.out.set1 _,owns_keptG O5.out H4.out (by decide) (grown_set G 1 _ _),B4.out.setCell hG _⟩
      | exact ⟨3,0,_,by decide,by decide,rfl,H4.out.set1 _,owns_keptG O5.out H4.out (by decide) (grown_set G 1 _ _),B4.out.setCell hG _⟩
      | exact ⟨4,-1,_,by decide,by decide,rfl,H4.out.set1 _,owns_keptG O5.out H4.out (by decide) (grown_set G 1 _ _),B4.out.setCell hG _⟩
    case measure => simp [intOf]
end Go.Proofs.YtmcomdmcmnbhlaaGreatDoor
