import Derived.Test.YtmcomdmcmnbhlaaGreatDoorKLRow0
set_option maxRecDepth 100000
set_option maxHeartbeats 25600000
set_option linter.unusedSimpArgs false
set_option linter.unusedVariables false
set_option linter.unnecessarySimpa false
namespace Go.Proofs.YtmcomdmcmnbhlaaGreatDoor
open Go.RowKit
def spCell (s : Int × Int) : List Value:=[.int .i64 s.1,.int .i64 s.2]
def spC (l : List (Int × Int)) : List Value:=l.flatMap spCell
theorem spC_len (l : List (Int × Int)) : (spC l).length = l.length * 2:=flat_len spCell 2 (fun _ => rfl) l
theorem spC_append (a b : List (Int × Int)) : spC (a ++ b) = spC a ++ spC b:=by simp [spC]
theorem spC_get0 (l : List (Int × Int)) (i : Nat) (hi : i < l.length) : (spC l)[i * 2]? = some (.int .i64 (l.getD i (0,0)).1):=by
 have:=flat_get spCell 2 (fun _ => rfl) l i 0 hi (by omega)
 simp only [Nat.add_zero] at this
 rw [spC,this];simp [spCell,List.getD,hi]
theorem spC_get1 (l : List (Int × Int)) (i : Nat) (hi : i < l.length) : (spC l)[i * 2 + 1]? = some (.int .i64 (l.getD i (0,0)).2):=by
 have:=flat_get spCell 2 (fun _ => rfl) l i 1 hi (by omega)
 rw [spC,this];simp [spCell,List.getD,hi]
theorem spC_one (l : List (Int × Int)) : ∀ u ∈ spC l,u.oneCell' = true:=by
 intro u hu
 obtain ⟨s,_,hs⟩:=List.mem_flatMap.1 hu
 simp only [spCell,List.mem_cons,List.not_mem_nil,or_false] at hs
 rcases hs with rfl | rfl <;> rfl
theorem spC_set (l : List (Int × Int)) (i : Nat) (s : Int × Int) : spC (l.set i s) = ((spC l).set (i * 2) (.int .i64 s.1)).set (i * 2 + 1) (.int .i64 s.2):=by
 induction l generalizing i with
 | nil => simp [spC]
 | cons x l ih =>
   cases i with
   | zero => simp [spC,spCell]
   | succ i =>
     have h:=ih i
     simp only [spC,List.set_cons_succ,List.flatMap_cons,spCell] at h ⊢
     rw [h,show (i + 1) * 2 = i * 2 + 1 + 1 by omega]
     simp
def RdS (w : World) (v : Value) (l : List (Int × Int)) : Prop:=RdC 2 w v l.length (spC l)
def OwnS (w : World) (B : Nat) (v : Value) (l : List (Int × Int)) : Prop:=w.ownsRow B 151 2 v l.length (spC l)
theorem RdS.nil (w : World) : RdS w (.slice none 0 0) []:=RdC.nil 2 w
theorem OwnS.nil (w : World) (B : Nat) : OwnS w B (.slice none 0 0) []:=World.ownsRow_nil w B _ 2
theorem OwnS.rd {w : World} {B : Nat} {v : Value} {l : List (Int × Int)} (h : OwnS w B v l) : RdS w v l:=RdC.of_owns h
theorem OwnS.kept {w w' : World} {B : Nat} {v : Value} {l : List (Int × Int)} {row : Option Nat} (h : OwnS w B v l) (hg : w.grownBy w' row) (hne : ∀ j,v.ownBlock = some j → row ≠ some j) : OwnS w' B v l:=by
 refine World.ownsRow.kept h hg ?_
 cases hv : v.ownBlock with
 | none => exact .inl rfl
 | some j => exact .inr fun e => hne j hv e.symm
theorem OwnS.mono {w : World} {B B' : Nat} {v : Value} {l : List (Int × Int)} (h : OwnS w B v l) (hb : B' ≤ B) : OwnS w B' v l:=by
 obtain ⟨h1,h2⟩:=h
 refine ⟨h1,?_⟩
 rcases h2 with h2 | ⟨g,cap,cur,a1,a2,a3⟩
 ·exact .inl h2
 ·exact .inr ⟨g,cap,cur,a1,Nat.le_trans hb a2,a3⟩
theorem OwnS.blk {w : World} {B : Nat} {v : Value} {l : List (Int × Int)} (h : OwnS w B v l) : ∀ j,v.ownBlock = some j → B ≤ j:=fun j hj => (World.ownsRow.lt h j hj).1
theorem OwnS.blt {w : World} {B : Nat} {v : Value} {l : List (Int × Int)} (h : OwnS w B v l) : ∀ j,v.ownBlock = some j → j < w.heap.size:=fun j hj => (World.ownsRow.lt h j hj).2
theorem OwnS.len {w : World} {B g n c : Nat} {l : List (Int × Int)} (h : OwnS w B (.slice (some ⟨g,0,none⟩) n c) l) : n = l.length:=by
 rcases h.2 with ⟨q,_⟩ | ⟨g',cap',cur,q,_⟩
 ·cases q
 ·simp only [Value.slice.injEq] at q;exact q.2.1
theorem OwnS.at0 {w : World} {B g n c : Nat} {l : List (Int × Int)} (h : OwnS w B (.slice (some ⟨g,0,none⟩) n c) l) (i : Nat) (hi : i < l.length) : w.cell? ⟨g,i * 2,none⟩ = some (.int .i64 (l.getD i (0,0)).1):=by
 obtain rfl:=h.len
 rw [World.ownsRow.cellAt h (i * 2) (by omega)]
 exact spC_get0 l i hi
theorem OwnS.at1 {w : World} {B g n c : Nat} {l : List (Int × Int)} (h : OwnS w B (.slice (some ⟨g,0,none⟩) n c) l) (i : Nat) (hi : i < l.length) : w.cell? ⟨g,i * 2 + 1,none⟩ = some (.int .i64 (l.getD i (0,0)).2):=by
 obtain rfl:=h.len
 rw [World.ownsRow.cellAt h (i * 2 + 1) (by omega)]
 exact spC_get1 l i hi
theorem OwnS.fz {w : World} {B g n c : Nat} {l : List (Int × Int)} (h : OwnS w B (.slice (some ⟨g,0,none⟩) n c) l) (j : Nat) : w.frozen? ⟨g,j,none⟩ = false:=by
 obtain rfl:=h.len
 exact World.ownsRow.frozenAt h j
theorem OwnS.set {w : World} {B g n c : Nat} {l : List (Int × Int)} (h : OwnS w B (.slice (some ⟨g,0,none⟩) n c) l) (i : Nat) (x y : Int) :
  OwnS ((w.setCell ⟨g,i * 2,none⟩ (.int .i64 x)).setCell ⟨g,i * 2 + 1,none⟩ (.int .i64 y)) B (.slice (some ⟨g,0,none⟩) n c) (l.set i (x,y)):=by
 obtain rfl:=h.len
 have h1:=(World.ownsRow.stored h (i * 2) (.int .i64 x)).1
 have h2:=(World.ownsRow.stored h1 (i * 2 + 1) (.int .i64 y)).1
 unfold OwnS
 rw [List.length_set,spC_set]
 exact h2
theorem zero_set (k : Nat) (s : Int × Int) (l : List (Int × Int)) : (List.replicate (k + 1) ((0,0) : Int × Int) ++ l).set k s = List.replicate k (0,0) ++ s :: l:=by
 induction k with
 | zero => rfl
 | succ k ih => rw [List.replicate_succ,List.cons_append,List.set_cons_succ,ih];rfl
theorem madeCells_zero (k : IntKind) (n : Nat) : (madeCells #[Value.int k 0,.int k 0] n).toList = List.replicate n (.int k 0):=by
 apply List.ext_getElem
 ·simp [madeCells]
 ·intro i h1 h2
  have : i % 2 = 0 ∨ i % 2 = 1:=by omega
  rcases this with e | e <;> simp [madeCells,e]
theorem spC_zero (n : Nat) : spC (List.replicate n (0,0)) = List.replicate (n * 2) (.int .i64 0):=by
 induction n with
 | zero => rfl
 | succ n ih =>
   rw [List.replicate_succ,spC,List.flatMap_cons,← spC,ih]
   show List.replicate 2 (Value.int .i64 0) ++ _ = _
   rw [List.replicate_append_replicate]
   congr 1;omega
end Go.Proofs.YtmcomdmcmnbhlaaGreatDoor
