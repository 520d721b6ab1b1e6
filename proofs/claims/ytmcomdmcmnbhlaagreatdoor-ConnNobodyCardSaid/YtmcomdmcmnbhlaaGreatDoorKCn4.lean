import Derived.Test.YtmcomdmcmnbhlaaGreatDoorKCn3
import Derived.Test.YtmcomdmcmnbhlaaGreatDoorKLBe0
import Derived.LoopTactic
import Derived.Lib.SmallJoins
set_option maxRecDepth 100000
set_option maxHeartbeats 25600000
set_option linter.unusedSimpArgs false
set_option linter.unusedVariables false
set_option linter.unnecessarySimpa false
namespace Go.Proofs.YtmcomdmcmnbhlaaGreatDoor
open Go.RowKit
theorem row_off {w : World} {B e n m : Nat} {v : Value} {fl : List Value} {g : Nat} {cs : Array Value} {e' : Nat} {z : Nat × Nat} (h : w.ownsRow B e m v n fl) (hg : w.heap[g]? = some (.cells cs e' z)) (hne : e ≠ e') : v.ownBlock ≠ some g:=by
 intro hv
 rcases h.2 with ⟨rfl,_⟩ | ⟨g',cap,cur',rfl,_,h2,_⟩
 ·cases hv
 ·simp only [Value.ownBlock,Option.some.injEq] at hv
  subst hv
  rw [hg] at h2
  simp only [Option.some.injEq,Obj.cells.injEq] at h2
  exact hne h2.2.1.symm
theorem heap_set {w : World} {g j : Nat} {cs : Array Value} {e : Nat} {u : Value} (h : w.heap[g]? = some (.cells cs e (0,0))) : (w.setCell ⟨g,j,none⟩ u).heap[g]? = some (.cells (cs.set! j u) e (0,0)):=by
 simp [World.setCell,Array.getElem?_modify,h]
theorem heap_other {w : World} {g b j : Nat} {o : Obj} {u : Value} (h : w.heap[g]? = some o) (hb : g ≠ b) : (w.setCell ⟨b,j,none⟩ u).heap[g]? = some o:=(Below.heap_setCell _ _ _ _ hb).trans h
theorem heap_alloc {w : World} {g : Nat} {o : Obj} (h : w.heap[g]? = some o) (o' : Obj) : (w.alloc o').heap[g]? = some o:=(Below.heap_alloc _ _ _ (qgs h).1).trans h
theorem heap_grown {w w' : World} {row : Option Nat} {g : Nat} {o : Obj} (h : w.heap[g]? = some o) (hg : w.grownBy w' row) (hn : row ≠ some g) : w'.heap[g]? = some o:=(hg.block g (qgs h).1 (fun e => hn e.symm)).trans h
theorem heap_below {w w' : World} {g : Nat} {o : Obj} (h : w.heap[g]? = some o) (hb : Below w.heap.size w w') : w'.heap[g]? = some o:=(hb.block g (qgs h).1).trans h
theorem keep_grown {S : List Nat} {a b c : World} {row : Option Nat} (h : Keep S a b) (g : b.grownBy c row) (hr : ∀ j,row = some j → j ∈ S ∨ a.heap.size ≤ j) : Keep S a c :=
 ⟨g.os.trans h.os,g.tape.trans h.tape,g.output.trans h.output,Nat.le_trans h.size g.size,fun i hi hn => (g.block i (Nat.lt_of_lt_of_le hi h.size) fun e => by
  rcases hr i e.symm with h1 | h1
  ·exact hn h1
  ·omega).trans (h.block i hi hn)⟩
theorem two_made {w w2 : World} {X Y : Obj} (hb : Below ((w.alloc X).alloc Y).heap.size ((w.alloc X).alloc Y) w2) : w2.heap[w.heap.size]? = some X ∧ w2.heap[w.heap.size + 1]? = some Y:=by
 refine ⟨heap_below (heap_alloc (alloc_at w X) Y) hb,?_⟩
 have:=alloc_at (w.alloc X) Y
 simp only [World.size_alloc] at this
 exact heap_below this hb
theorem heap_lt {w : World} {g : Nat} {o : Obj} (h : w.heap[g]? = some o) : g < w.heap.size:=(qgs h).1
structure TS (w0 : World) (e o g cc : Nat) (q : WQ) (i : Nat) (st a : Int) (FB PB : Nat) (n : Nat) (dv : Value) (wr : World) : Prop where
 row : OwnT wr (.slice (some ⟨g,0,none⟩) q.rest.length cc) (mark true q.rest i n)
 cells : WrC e o (.slice (some ⟨g,0,none⟩) q.rest.length cc) q wr
 fb : wr.heap[FB]? = some (.cells #[.int .i64 8,.int .i64 st,.int .i64 a,.int .i64 0,.int .i64 0,.bool (finOf q.size ((q.rest.drop i).take n)),dv,.slice none 0 0] 102 (0,0))
 pb : wr.heap[PB]? = some (.cells #[.int .i64 st,.int .i64 a,.int .i64 (a + n),.int .i64 0] 122 (0,0))
 data : Own .u8 5 wr w0.heap.size dv (dataOf q.size ((q.rest.drop i).take n))
 keep : Keep [g] w0 wr
 ne : g < w0.heap.size ∧ e ≠ g ∧ w0.heap.size + 2 ≤ FB ∧ w0.heap.size + 2 ≤ PB ∧ FB ≠ PB ∧ e < w0.heap.size
 r6 : wr.heap[w0.heap.size]? = some (.cells #[.int .i64 0,.int .i64 0,.int .i64 0,.int .i64 0,.int .i64 0,.bool false,.slice none 0 0,.slice none 0 0] 102 (0,0))
 r7 : wr.heap[w0.heap.size + 1]? = some (.cells #[.int .i64 0,.int .i64 0,.int .i64 0,.int .i64 0] 122 (0,0))
 le : i + n ≤ q.rest.length
theorem TS.facts {w0 : World} {e o g cc : Nat} {q : WQ} {i : Nat} {st a : Int} {FB PB n : Nat} {dv : Value} {wr : World} (h : TS w0 e o g cc q i st a FB PB n dv wr) (hn : i + n < q.rest.length) :
  wr.cell? ⟨g,i * 3 + n * 3,none⟩ = some (.int .i64 q.rest[i + n].at_) ∧ wr.cell? ⟨g,i * 3 + n * 3 + 1,none⟩ = some (.int .u8 q.rest[i + n].v) ∧ wr.cell? ⟨g,i * 3 + n * 3 + 2,none⟩ = some (.bool q.rest[i + n].told) ∧ wr.frozen? ⟨g,i * 3 + n * 3 + 2,none⟩ = false:=by
 have:=h.row.at (i + n) (by rw [mark_len];exact hn)
 rw [mark_get true q.rest i n (i + n) hn h.le,if_neg (by omega),Nat.add_mul] at this
 exact this
theorem row_facts {W : World} {g cc i n : Nat} {q : WQ} (h : OwnT W (.slice (some ⟨g,0,none⟩) q.rest.length cc) (mark true q.rest i n)) (hn : i + n < q.rest.length) :
  W.cell? ⟨g,i * 3 + n * 3,none⟩ = some (.int .i64 q.rest[i + n].at_) ∧ W.cell? ⟨g,i * 3 + n * 3 + 1,none⟩ = some (.int .u8 q.rest[i + n].v) ∧ W.cell? ⟨g,i * 3 + n * 3 + 2,none⟩ = some (.bool q.rest[i + n].told) ∧ W.frozen? ⟨g,i * 3 + n * 3 + 2,none⟩ = false:=by
 have:=h.at (i + n) (by rw [mark_len];exact hn)
 rw [mark_get true q.rest i n (i + n) hn (by omega),if_neg (by omega),Nat.add_mul] at this
 exact this
theorem TS.alloc {w0 : World} {e o g cc : Nat} {q : WQ} {i : Nat} {st a : Int} {FB PB n : Nat} {dv : Value} {wr : World} (h : TS w0 e o g cc q i st a FB PB n dv wr) (ob : Obj) : TS w0 e o g cc q i st a FB PB n dv (wr.alloc ob) :=
 have hb : Below wr.heap.size wr (wr.alloc ob):=(qbr _ _).alloc (qlr _) _
 ⟨h.row.below hb,h.cells.below hb,heap_alloc h.fb ob,heap_alloc h.pb ob,Own.alloc h.data ob,h.keep.then_below hb,h.ne,heap_alloc h.r6 ob,heap_alloc h.r7 ob,h.le⟩
theorem TS.below {w0 : World} {e o g cc : Nat} {q : WQ} {i : Nat} {st a : Int} {FB PB n : Nat} {dv : Value} {wr W : World} (h : TS w0 e o g cc q i st a FB PB n dv wr) (hb : Below wr.heap.size wr W) : TS w0 e o g cc q i st a FB PB n dv W :=
 ⟨h.row.below hb,h.cells.below hb,heap_below h.fb hb,heap_below h.pb hb,Own.below h.data hb,h.keep.then_below hb,h.ne,heap_below h.r6 hb,heap_below h.r7 hb,h.le⟩
theorem take_lastL {q : WQ} {i n : Nat} (hn : i + n < q.rest.length) : (q.rest.drop i).take (n + 1) = (q.rest.drop i).take n ++ [q.rest[i + n]]:=by
 rw [List.take_succ_eq_append_getElem (by simp;omega)]
 simp
theorem data_more {q : WQ} {i n : Nat} (hn : i + n < q.rest.length) (he : q.rest[i + n].at_ ≠ q.size) :
  dataOf q.size ((q.rest.drop i).take (n + 1)) = dataOf q.size ((q.rest.drop i).take n) ++ [q.rest[i + n].v] ∧ finOf q.size ((q.rest.drop i).take (n + 1)) = finOf q.size ((q.rest.drop i).take n):=by
 rw [take_lastL hn]
 exact ⟨by simp [dataOf,he],by simp [finOf,he]⟩
theorem data_end {q : WQ} {i n : Nat} (hn : i + n < q.rest.length) (he : q.rest[i + n].at_ = q.size) :
  dataOf q.size ((q.rest.drop i).take (n + 1)) = dataOf q.size ((q.rest.drop i).take n) ∧ finOf q.size ((q.rest.drop i).take (n + 1)) = true:=by
 rw [take_lastL hn]
 exact ⟨by simp [dataOf,he],by simp [finOf,he]⟩
theorem TS.mark {w0 : World} {e o g cc : Nat} {q : WQ} {i : Nat} {st a : Int} {FB PB n : Nat} {dv dv' : Value} {wr W : World} (h : TS w0 e o g cc q i st a FB PB n dv wr) (hn : i + n < q.rest.length)
  (row : OwnT W (.slice (some ⟨g,0,none⟩) q.rest.length cc) (Go.Proofs.YtmcomdmcmnbhlaaGreatDoor.mark true q.rest i n)) (cells : WrC e o (.slice (some ⟨g,0,none⟩) q.rest.length cc) q W)
  (fb : W.heap[FB]? = some (.cells #[.int .i64 8,.int .i64 st,.int .i64 a,.int .i64 0,.int .i64 0,.bool (finOf q.size ((q.rest.drop i).take (n + 1))),dv',.slice none 0 0] 102 (0,0)))
  (pb : W.heap[PB]? = some (.cells #[.int .i64 st,.int .i64 a,.int .i64 (a + n),.int .i64 0] 122 (0,0)))
  (data : Own .u8 5 W w0.heap.size dv' (dataOf q.size ((q.rest.drop i).take (n + 1)))) (keep : Keep [g] w0 W)
  (r6 : W.heap[w0.heap.size]? = some (.cells #[.int .i64 0,.int .i64 0,.int .i64 0,.int .i64 0,.int .i64 0,.bool false,.slice none 0 0,.slice none 0 0] 102 (0,0)))
  (r7 : W.heap[w0.heap.size + 1]? = some (.cells #[.int .i64 0,.int .i64 0,.int .i64 0,.int .i64 0] 122 (0,0))) :
  TS w0 e o g cc q i st a FB PB (n + 1) dv' ((W.setCell ⟨g,i * 3 + n * 3 + 2,none⟩ (.bool true)).setCell ⟨PB,2,none⟩ (.int .i64 (a + n + 1))):=by
 obtain ⟨n1,n2,n3,n4,n5,n6⟩:=h.ne
 have hgF : g ≠ FB:=by omega
 have hgP : g ≠ PB:=by omega
 have hr:=row.set (i + n) (by rw [mark_len];exact hn) true
 rw [mark_get true q.rest i n (i + n) hn h.le,if_neg (by omega),mark_set true q.rest i n hn] at hr
 rw [Nat.add_mul] at hr
 refine ⟨?_,?_,?_,?_,?_,?_,h.ne,heap_other (heap_other r6 (by omega)) (by omega),heap_other (heap_other r7 (by omega)) (by omega),by omega⟩
 ·exact hr.block fun j hj => by
   simp only [Value.ownBlock,Option.some.injEq] at hj;subst hj
   exact Below.heap_setCell _ _ _ _ hgP
 ·refine (cells.block ?_)
  exact (Below.heap_setCell _ _ _ _ (show e ≠ PB by omega)).trans (Below.heap_setCell _ _ _ _ n2)
 ·exact heap_other (heap_other fb (Ne.symm hgF)) n5
 ·have:=heap_set (j:=2) (u:=.int .i64 (a + n + 1)) (heap_other (u:=.bool true) (j:=i * 3 + n * 3 + 2) pb (Ne.symm hgP))
  rw [this]
  simp [Int.add_assoc]
 ·refine ownsRow_block data fun j hj => ?_
  have hb1:=data.blk j hj
  have hp : dv'.ownBlock ≠ some PB:=row_off data pb (by decide)
  exact (Below.heap_setCell _ _ _ _ (fun x => hp (by rw [hj,x]))).trans (Below.heap_setCell _ _ _ _ (show j ≠ g by omega))
 ·exact (keep.trans (keep_set g _ _ _) (fun x hx => .inl hx)).trans (keep_set PB _ _ _) (fun x hx => .inr (by simp at hx;omega))
theorem Tab.block {w w' : World} (h : Tab w) (hb : w'.heap[0]? = w.heap[0]?) : Tab w' :=
 ⟨(World.cell?_of_block (w:=w) hb).trans h.c0,(World.cell?_of_block (w:=w) hb).trans h.c1,(World.cell?_of_block (w:=w) hb).trans h.c2,(World.cell?_of_block (w:=w) hb).trans h.c3⟩
theorem Tab.keep {S : List Nat} {w w' : World} (h : Tab w) (k : Keep S w w') (hn : 0 ∉ S) : Tab w':=h.block (k.block _ h.pos hn)
theorem tell_results {W : World} {tmps : Array Value} {A B : Nat} {v0 v1 v2 v3 v4 v5 v6 v7 u0 u1 u2 u3 : Value} (h6 : tmps[6]?.getD undef = .pointer (some ⟨A,0,none⟩)) (h7 : tmps[7]?.getD undef = .pointer (some ⟨B,0,none⟩))
  (c0 : W.cell? ⟨A,0,none⟩ = some v0) (c1 : W.cell? ⟨A,1,none⟩ = some v1) (c2 : W.cell? ⟨A,2,none⟩ = some v2) (c3 : W.cell? ⟨A,3,none⟩ = some v3) (c4 : W.cell? ⟨A,4,none⟩ = some v4) (c5 : W.cell? ⟨A,5,none⟩ = some v5) (c6 : W.cell? ⟨A,6,none⟩ = some v6) (c7 : W.cell? ⟨A,7,none⟩ = some v7)
  (d0 : W.cell? ⟨B,0,none⟩ = some u0) (d1 : W.cell? ⟨B,1,none⟩ = some u1) (d2 : W.cell? ⟨B,2,none⟩ = some u2) (d3 : W.cell? ⟨B,3,none⟩ = some u3) :
  (results Tryz.f70 tmps).run Tryz.prog W = .ok (.tuple #[.agg #[v0,v1,v2,v3,v4,v5,v6,v7],.agg #[u0,u1,u2,u3]]) W:=by
 have hr : Tryz.f70.results = #[.cell 6 102,.cell 7 122]:=rfl
 simp only [results,hr]
 go_simp
def wOut0 (w : World) (A : Nat) (v0 v1 v2 v3 v4 v5 v6 v7 u0 u1 u2 u3 : Value) : World :=
 ((((((((((((w.setCell ⟨A,0,none⟩ v0).setCell ⟨A,1,none⟩ v1).setCell ⟨A,2,none⟩ v2).setCell ⟨A,3,none⟩ v3).setCell ⟨A,4,none⟩ v4).setCell ⟨A,5,none⟩ v5).setCell ⟨A,6,none⟩ v6).setCell ⟨A,7,none⟩ v7).setCell ⟨A + 1,0,none⟩ u0).setCell ⟨A + 1,1,none⟩ u1).setCell ⟨A + 1,2,none⟩ u2).setCell ⟨A + 1,3,none⟩ u3)
def wOut (w : World) (A : Nat) (v0 v1 v2 v3 v4 v5 v6 v7 u0 u1 u2 u3 : Value) : World:=(wOut0 w A v0 v1 v2 v3 v4 v5 v6 v7 u0 u1 u2 u3).drew
theorem wOut0_is {w : World} {A T T' : Nat} {x0 x1 x2 x3 x4 x5 x6 x7 y0 y1 y2 y3 : Value} (h : w.heap[A]? = some (.cells #[x0,x1,x2,x3,x4,x5,x6,x7] T (0,0))) (h' : w.heap[A + 1]? = some (.cells #[y0,y1,y2,y3] T' (0,0))) (v0 v1 v2 v3 v4 v5 v6 v7 u0 u1 u2 u3 : Value) :
  (wOut0 w A v0 v1 v2 v3 v4 v5 v6 v7 u0 u1 u2 u3).heap[A]? = some (.cells #[v0,v1,v2,v3,v4,v5,v6,v7] T (0,0)) ∧ (wOut0 w A v0 v1 v2 v3 v4 v5 v6 v7 u0 u1 u2 u3).heap[A + 1]? = some (.cells #[u0,u1,u2,u3] T' (0,0)) ∧ Keep [A,A + 1] w (wOut0 w A v0 v1 v2 v3 v4 v5 v6 v7 u0 u1 u2 u3):=by
 have h8:=heap_set (j:=7) (u:=v7) (heap_set (j:=6) (u:=v6) (heap_set (j:=5) (u:=v5) (heap_set (j:=4) (u:=v4) (heap_set (j:=3) (u:=v3) (heap_set (j:=2) (u:=v2) (heap_set (j:=1) (u:=v1) (heap_set (j:=0) (u:=v0) h)))))))
 have k : ∀ (w : World) (b o : Nat) (v : Value),b = A ∨ b = A + 1 → Keep [A,A + 1] w (w.setCell ⟨b,o,none⟩ v):=fun w b o v hb => (Keep.refl [A,A + 1] w).trans (keep_set b o w v) (fun i hi => .inl (by simp at hi;subst hi;simpa using hb))
 simp only [Array.set!_eq_setIfInBounds,List.setIfInBounds_toArray,List.set_cons_zero,List.set_cons_succ] at h8
 have hne : A + 1 ≠ A:=by omega
 have g7:=heap_other (u:=v7) (j:=7) (heap_other (u:=v6) (j:=6) (heap_other (u:=v5) (j:=5) (heap_other (u:=v4) (j:=4) (heap_other (u:=v3) (j:=3) (heap_other (u:=v2) (j:=2) (heap_other (u:=v1) (j:=1) (heap_other (u:=v0) (j:=0) h' hne) hne) hne) hne) hne) hne) hne) hne
 have g11:=heap_set (j:=3) (u:=u3) (heap_set (j:=2) (u:=u2) (heap_set (j:=1) (u:=u1) (heap_set (j:=0) (u:=u0) g7)))
 simp only [Array.set!_eq_setIfInBounds,List.setIfInBounds_toArray,List.set_cons_zero,List.set_cons_succ] at g11
 refine ⟨?_,?_,?_⟩
 ·unfold wOut0
  exact heap_other (heap_other (heap_other (heap_other h8 hne.symm) hne.symm) hne.symm) hne.symm
 ·unfold wOut0
  exact g11
 ·have tr : ∀ {a b c : World},Keep [A,A + 1] a b → Keep [A,A + 1] b c → Keep [A,A + 1] a c:=fun x y => x.trans y (fun i hi => .inl hi)
  exact tr (tr (tr (tr (tr (tr (tr (tr (tr (tr (tr (k _ _ _ _ (.inl rfl)) (k _ _ _ _ (.inl rfl))) (k _ _ _ _ (.inl rfl))) (k _ _ _ _ (.inl rfl))) (k _ _ _ _ (.inl rfl))) (k _ _ _ _ (.inl rfl))) (k _ _ _ _ (.inl rfl))) (k _ _ _ _ (.inl rfl))) (k _ _ _ _ (.inr rfl))) (k _ _ _ _ (.inr rfl))) (k _ _ _ _ (.inr rfl))) (k _ _ _ _ (.inr rfl))
theorem wOut_is {w : World} {A T T' : Nat} {x0 x1 x2 x3 x4 x5 x6 x7 y0 y1 y2 y3 : Value} (h : w.heap[A]? = some (.cells #[x0,x1,x2,x3,x4,x5,x6,x7] T (0,0))) (h' : w.heap[A + 1]? = some (.cells #[y0,y1,y2,y3] T' (0,0))) (v0 v1 v2 v3 v4 v5 v6 v7 u0 u1 u2 u3 : Value) :
  (wOut w A v0 v1 v2 v3 v4 v5 v6 v7 u0 u1 u2 u3).heap[A]? = some (.cells #[v0,v1,v2,v3,v4,v5,v6,v7] T (0,0)) ∧ (wOut w A v0 v1 v2 v3 v4 v5 v6 v7 u0 u1 u2 u3).heap[A + 1]? = some (.cells #[u0,u1,u2,u3] T' (0,0)) ∧ Keep [A,A + 1] w (wOut w A v0 v1 v2 v3 v4 v5 v6 v7 u0 u1 u2 u3):=by
 obtain ⟨h1,h2,h3⟩:=wOut0_is h h' v0 v1 v2 v3 v4 v5 v6 v7 u0 u1 u2 u3
 have hd : ∀ x : World,x.drew.heap = x.heap:=fun _ => rfl
 unfold wOut
 rw [hd]
 exact ⟨h1,h2,h3.drew⟩
structure Told (q : WQ) (limit room : Int) (st : Int) (i n : Nat) : Prop where
 le : i + n ≤ q.rest.length
 most : ∀ j,j < n → ∀ h : i + j < q.rest.length,∀ h0 : i < q.rest.length,(j : Int) < min (holdI st q.rest[i].at_ room) (limit - q.rest[i].at_) ∨ ((j : Int) = min (holdI st q.rest[i].at_ room) (limit - q.rest[i].at_) ∧ q.rest[i + j].at_ = q.size)
def FullT (q : WQ) (limit room st : Int) (i N n : Nat) : Prop:=n < N → ∀ h0 : i < q.rest.length,∀ h : i + n < q.rest.length,min (holdI st q.rest[i].at_ room) (limit - q.rest[i].at_) < (n : Int) ∨ ((n : Int) = min (holdI st q.rest[i].at_ room) (limit - q.rest[i].at_) ∧ q.rest[i + n].at_ ≠ q.size)
theorem tell_loop {c : Col} {k e o g cc : Nat} {q : WQ} {w : World} {X : List Int} {F : Bool} (h : Wr c k e o (.slice (some ⟨g,0,none⟩) q.rest.length cc) q w) (hq : WOk X F q) (hX : (X.length : Int) ≤ 4398046511104) (ht : Tab w) (hg0 : g ≠ 0)
  (st room : Int) (hst : 0 ≤ st ∧ st < 4) (hroom : -100000 ≤ room ∧ room ≤ 1200) (i N : Nat) (uc : Nat) (hW : WaitR q i N) (hi : i < q.rest.length)
  (HWt : ∀ W,Below w.heap.size w W → Calls Tryz.prog 111 #[.pointer (some ⟨e,o,none⟩)] W fun r w' => r = .returned (.slice (some ⟨g,i * 3,none⟩) N uc) ∧ Below W.heap.size W w') :
  Calls Tryz.prog 70 #[.pointer (some ⟨e,o,none⟩),.int .i64 st,.int .i64 room] w fun r w' => ∃ (n : Nat) (dv : Value),
   r = .returned (.tuple #[.agg #[.int .i64 8,.int .i64 st,.int .i64 q.rest[i].at_,.int .i64 0,.int .i64 0,.bool (finOf q.size ((q.rest.drop i).take n)),dv,.slice none 0 0],.agg #[.int .i64 st,.int .i64 q.rest[i].at_,.int .i64 (q.rest[i].at_ + n),.int .i64 0]]) ∧
   (n ≤ N ∧ FullT q q.limit room st i N n) ∧ Told q q.limit room st i n ∧ Own .u8 5 w' w.heap.size dv (dataOf q.size ((q.rest.drop i).take n)) ∧ OwnT w' (.slice (some ⟨g,0,none⟩) q.rest.length cc) (mark true q.rest i n) ∧ Keep [g] w w':=by
 have hi0:=hq.at hi
 obtain ⟨⟨la,lx,lt⟩,hla⟩ : ∃ y,q.rest[i] = y:=⟨_,rfl⟩
 rw [hla] at hi0
 simp only at hi0
 obtain ⟨l0,l1,l2,_⟩:=h.row.at i hi
 rw [hla] at l0 l1 l2
 simp only at l0 l1 l2
 have hlt:=h.cells.c0.lt
 have hgl:=(World.ownsRow.lt h.row g rfl).2
 have hne:=h.ne
 have HWt:=qhi HWt
 have HW:=qhi (fun W (hW : Below w.heap.size w W) => h.below hW)
 have HQ:=qhi hq
 have HT:=qhi ht
 have hl3:=h.cells.c3.1
 have i1 : (0 : Int) < (N : Int):=by have:=hW.pos;omega
 have i2 : ((N : Int) == 0) = false:=by simp;omega
 have hNl : i + N ≤ q.rest.length:=hW.run.le
 go_enter Tryz.func70,Tryz.ntmps70
 go_upto_region 7 with (go_at_call 111;refine (HWt.out _ (((qbr _ w).alloc (qlr _) _).alloc (by simp) _)).mono ?_;rintro r w2 ⟨rfl,hb2⟩;have R2:=qhi (two_made hb2);have Z2 : Hid (w.heap.size + 2 ≤ w2.heap.size):=(by have:=hb2.size;simp at this;omega : w.heap.size + 2 ≤ w2.heap.size);have HB2 : Hid (Below w.heap.size w w2):=(((qbr _ w).alloc (qlr _) _).alloc (by simp) _).trans (hb2.mono (by simp;omega));obtain ⟨m0,m1,m2,_⟩:=(HW.out w2 HB2.out).row.at i hi;rw [hla] at m0;simp only at m0)
 have TS0 : TS w e o g cc q i st la w2.heap.size (w2.heap.size + 1) 0 (.slice none 0 0) ((w2.alloc (.cells #[.int .i64 8,.int .i64 st,.int .i64 la,.int .i64 0,.int .i64 0,.bool false,.slice none 0 0,.slice none 0 0] 102)).alloc (.cells #[.int .i64 st,.int .i64 la,.int .i64 la,.int .i64 0] 122)):=by
  have hB : Below w.heap.size w ((w2.alloc (.cells #[.int .i64 8,.int .i64 st,.int .i64 la,.int .i64 0,.int .i64 0,.bool false,.slice none 0 0,.slice none 0 0] 102)).alloc (.cells #[.int .i64 st,.int .i64 la,.int .i64 la,.int .i64 0] 122)):=(HB2.out.alloc HB2.out.size _).alloc (by have:=HB2.out.size;simp;omega) _
  have hz:=Z2.out
  refine ⟨by rw [mark_zero];exact (HW.out _ hB).row,(HW.out _ hB).cells,?_,?_,Own.nil _ _ _ _,Keep.of_below hB,⟨hgl,fun x => hne (by rw [x];rfl),by omega,by omega,by omega,hlt⟩,heap_alloc (heap_alloc R2.out.1 _) _,heap_alloc (heap_alloc R2.out.2 _) _,by omega⟩
  ·have:=heap_alloc (alloc_at w2 (.cells #[.int .i64 8,.int .i64 st,.int .i64 la,.int .i64 0,.int .i64 0,.bool false,.slice none 0 0,.slice none 0 0] 102)) (.cells #[.int .i64 st,.int .i64 la,.int .i64 la,.int .i64 0] 122)
   rw [this]
   simp [finOf]
  ·have:=alloc_at (w2.alloc (.cells #[.int .i64 8,.int .i64 st,.int .i64 la,.int .i64 0,.int .i64 0,.bool false,.slice none 0 0,.slice none 0 0] 102)) (.cells #[.int .i64 st,.int .i64 la,.int .i64 la,.int .i64 0] 122)
   simp only [World.size_alloc] at this
   rw [this]
   simp
 have hz3 : ((w2.alloc (.cells #[.int .i64 8,.int .i64 st,.int .i64 la,.int .i64 0,.int .i64 0,.bool false,.slice none 0 0,.slice none 0 0] 102)).alloc (.cells #[.int .i64 st,.int .i64 la,.int .i64 la,.int .i64 0] 122)).heap.size = w2.heap.size + 2:=by simp
 generalize (w2.alloc (.cells #[.int .i64 8,.int .i64 st,.int .i64 la,.int .i64 0,.int .i64 0,.bool false,.slice none 0 0,.slice none 0 0] 102)).alloc (.cells #[.int .i64 st,.int .i64 la,.int .i64 la,.int .i64 0] 122) = w3 at TS0 hz3 ⊢
 have HTS:=qhi TS0
 have hT3 : Tab w3:=ht.keep TS0.keep (by simp;exact fun x => hg0 x.symm)
 have HH:=qhi (fun W (hW : Below w3.heap.size w3 W) => hold_any 8 st la 0 0 false (.slice none 0 0) (.slice none 0 0) room W (hT3.below hW hT3.pos) rfl rfl (by omega))
 have hb3:=qcb TS0.fb
 have HL : Hid (∀ W,Below w3.heap.size w3 W → (W.cell? ⟨w2.heap.size,0,none⟩ = some (.int .i64 8) ∧ W.cell? ⟨w2.heap.size,1,none⟩ = some (.int .i64 st) ∧ W.cell? ⟨w2.heap.size,2,none⟩ = some (.int .i64 la) ∧ W.cell? ⟨w2.heap.size,3,none⟩ = some (.int .i64 0) ∧ W.cell? ⟨w2.heap.size,4,none⟩ = some (.int .i64 0) ∧ W.cell? ⟨w2.heap.size,5,none⟩ = some (.bool false) ∧ W.cell? ⟨w2.heap.size,6,none⟩ = some (.slice none 0 0) ∧ W.cell? ⟨w2.heap.size,7,none⟩ = some (.slice none 0 0)) ∧ W.cell? ⟨e,o + 3,none⟩ = some (.int .i64 q.limit) ∧ Below w3.heap.size w3 W):=fun W hW => by
  have hf:=qcb (HTS.out.below hW).fb
  exact ⟨⟨hf 0,hf 1,hf 2,hf 3,hf 4,hf 5,hf 6,hf 7⟩,(HTS.out.below hW).cells.c3.1,hW⟩
 obtain ⟨M,hM⟩ : ∃ M,M = min (holdI st la room) (q.limit - la):=⟨_,rfl⟩
 have hlim:=hq.limit
 have hwl : IntKind.i64.wrap (q.limit - la) = q.limit - la:=by rw [IntKind.wrap_i64];omega
 have HM:=qhi hM
 clear hM h hq ht hb3 TS0 hT3
 go_upto_region 8 with fail
 go_cut [12] from 33 to 42 (fun v wc => v = .int .i64 M ∧ Below w3.heap.size w3 wc)
 case first =>
  go_region_held3 (fun W => (W.cell? ⟨w2.heap.size,0,none⟩ = some (.int .i64 8) ∧ W.cell? ⟨w2.heap.size,1,none⟩ = some (.int .i64 st) ∧ W.cell? ⟨w2.heap.size,2,none⟩ = some (.int .i64 la) ∧ W.cell? ⟨w2.heap.size,3,none⟩ = some (.int .i64 0) ∧ W.cell? ⟨w2.heap.size,4,none⟩ = some (.int .i64 0) ∧ W.cell? ⟨w2.heap.size,5,none⟩ = some (.bool false) ∧ W.cell? ⟨w2.heap.size,6,none⟩ = some (.slice none 0 0) ∧ W.cell? ⟨w2.heap.size,7,none⟩ = some (.slice none 0 0)) ∧ W.cell? ⟨e,o + 3,none⟩ = some (.int .i64 q.limit) ∧ Below w3.heap.size w3 W)
   (first
    | (exact HL.out _ (qbd (qbr _ _) 1))
    | (exact HL.out _ B1))
   (first
    | (go_at_call 112;refine (HH.out _ (qbd (qbr _ _) 1)).mono ?_;rintro r w4 ⟨rfl,hb4⟩;have B1 : Below w3.heap.size w3 w4:=(qbd (qbr _ _) 1).trans hb4))
  all_goals go_wp2_with fail
  all_goals
   go_meet
   refine ⟨?_,B1⟩
   have hh:=HM.out
   congr 1
   first | omega | (split <;> omega)
 case rest =>
  obtain ⟨rfl,hB⟩:=hcut
  have HTS:=qhi (HTS.out.below hB)
  clear hB hl3 l0 l1 l2 m0 m1 m2
  have hWl : N ≤ q.rest.length:=by omega
  go_wp2_with fail
  go_loopw [45] (fun s wr => ∃ (n : Nat) (dv : Value),s = .int .i64 n ∧ n ≤ N ∧ TS w e o g cc q i st la w2.heap.size (w2.heap.size + 1) n dv wr ∧ Hid (∀ j,j < n → ∀ h : i + j < q.rest.length,(j : Int) < M ∨ ((j : Int) = M ∧ q.rest[i + j].at_ = q.size))) (fun s _ => N - (intOf s).toNat)
  case atStart => exact ⟨0,_,rfl,Nat.zero_le _,HTS.out,(fun j hj => absurd hj (Nat.not_lt_zero _) : ∀ j,j < 0 → ∀ h : i + j < q.rest.length,(j : Int) < M ∨ ((j : Int) = M ∧ q.rest[i + j].at_ = q.size))⟩
  case round =>
   obtain ⟨n,dv,rfl,hn,T,I⟩:=hrel
   obtain ⟨da,dc,rfl⟩:=T.data.len
   have HTr:=qhi T
   rcases Nat.lt_or_ge n N with hlt | hge
   ·have i3 : (n : Int) < (N : Int):=by omega
    have i4 : (0 : Int) ≤ (n : Int):=by omega
    have hnl : i + n < q.rest.length:=by omega
    obtain ⟨k0,k1,k2,kf⟩:=T.facts hnl
    obtain ⟨⟨a',x',t'⟩,hk⟩ : ∃ y,q.rest[i + n] = y:=⟨_,rfl⟩
    rw [hk] at k0 k1 k2
    simp only at k0 k1 k2
    have HK:=qhi hk
    have HE:=qhi (fun W (hW : WrC e o (.slice (some ⟨g,0,none⟩) q.rest.length cc) q W) => isEnd_any (w:=W) hW a' x' t')
    obtain ⟨n1,n2,n3,n4,n5,n6⟩:=T.ne
    have hz1:=heap_lt T.r7
    have hz2:=heap_lt T.fb
    have hz3:=heap_lt T.pb
    have hlen9:=HQ.out.len
    have hr63 : IntKind.i64.wrap (la + (n : Int) + 1) = la + (n : Int) + 1:=by rw [IntKind.wrap_i64];omega
    clear T hk
    generalize w2.heap.size = FB at *
    have TA:=HTr.out.alloc (.cells #[.int .i64 a',.int .u8 x',.bool t'] 115)
    have HTA:=qhi TA
    have TL:=alloc_at wr (.cells #[.int .i64 a',.int .u8 x',.bool t'] 115)
    have HTL:=qhi TL
    clear TA TL
    have HDL : Hid ((dataOf q.size ((q.rest.drop i).take n)).length ≤ 4096):=by
     show _ ≤ _
     have h1 : (dataOf q.size ((q.rest.drop i).take n)).length ≤ n:=by
      unfold dataOf
      rw [List.length_map]
      refine Nat.le_trans (List.length_filter_le _ _) ?_
      rw [List.length_take];omega
     have:=HQ.out.len
     omega
    have tok1 : True:=trivial
    by_cases hA : (n : Int) > M
    ·have HGT : Hid (M < (n : Int)):=hA
     have e1 : decide ((n : Int) > M) = true:=qdt hA
     go_wp2_with fail
     have T9:=HTA.out
     have s6:=qub T9.r6
     have t6:=qcb T9.r6
     have t7:=qcb T9.r7
     have t60:=t6 0;have t61:=t6 1;have t62:=t6 2;have t63:=t6 3;have t64:=t6 4;have t65:=t6 5;have t66:=t6 6;have t67:=t6 7
     have t70:=t7 0;have t71:=t7 1;have t72:=t7 2;have t73:=t7 3
     simp only [List.getElem?_toArray,List.getElem?_cons_zero,List.getElem?_cons_succ] at t60 t61 t62 t63 t64 t65 t66 t67 t70 t71 t72 t73
     have s7:=qub T9.r7
     clear t6 t7
     have fb:=qcb T9.fb
     have pb:=qcb T9.pb
     have b0:=fb 0;have b1:=fb 1;have b2:=fb 2;have b3:=fb 3;have b4:=fb 4;have b5:=fb 5;have b6:=fb 6;have b7:=fb 7
     have p0:=pb 0;have p1:=pb 1;have p2:=pb 2;have p3:=pb 3
     simp only [List.getElem?_toArray,List.getElem?_cons_zero,List.getElem?_cons_succ] at b0 b1 b2 b3 b4 b5 b6 b7 p0 p1 p2 p3
     clear fb pb
     have HT9:=qhi T9
     clear T9
     generalize (wr.alloc (.cells #[.int .i64 a',.int .u8 x',.bool t'] 115)) = W9 at *
     go_region
     all_goals
      go_wp2_with fail
     refine bodyPost_ret (tell_results rfl rfl (qcb (wOut_is HT9.out.r6 HT9.out.r7 _ _ _ _ _ _ _ _ _ _ _ _).1 0) (qcb (wOut_is HT9.out.r6 HT9.out.r7 _ _ _ _ _ _ _ _ _ _ _ _).1 1) (qcb (wOut_is HT9.out.r6 HT9.out.r7 _ _ _ _ _ _ _ _ _ _ _ _).1 2) (qcb (wOut_is HT9.out.r6 HT9.out.r7 _ _ _ _ _ _ _ _ _ _ _ _).1 3) (qcb (wOut_is HT9.out.r6 HT9.out.r7 _ _ _ _ _ _ _ _ _ _ _ _).1 4) (qcb (wOut_is HT9.out.r6 HT9.out.r7 _ _ _ _ _ _ _ _ _ _ _ _).1 5) (qcb (wOut_is HT9.out.r6 HT9.out.r7 _ _ _ _ _ _ _ _ _ _ _ _).1 6) (qcb (wOut_is HT9.out.r6 HT9.out.r7 _ _ _ _ _ _ _ _ _ _ _ _).1 7) (qcb (wOut_is HT9.out.r6 HT9.out.r7 _ _ _ _ _ _ _ _ _ _ _ _).2.1 0) (qcb (wOut_is HT9.out.r6 HT9.out.r7 _ _ _ _ _ _ _ _ _ _ _ _).2.1 1) (qcb (wOut_is HT9.out.r6 HT9.out.r7 _ _ _ _ _ _ _ _ _ _ _ _).2.1 2) (qcb (wOut_is HT9.out.r6 HT9.out.r7 _ _ _ _ _ _ _ _ _ _ _ _).2.1 3)) rfl ?_
     have K9:=(wOut_is HT9.out.r6 HT9.out.r7 (.int .i64 8) (.int .i64 st) (.int .i64 la) (.int .i64 0) (.int .i64 0) (.bool (finOf q.size ((q.rest.drop i).take n))) (.slice da (dataOf q.size ((q.rest.drop i).take n)).length dc) (.slice none 0 0) (.int .i64 st) (.int .i64 la) (.int .i64 (la + n)) (.int .i64 0)).2.2
     have hs6:=row_off HT9.out.data HT9.out.r7 (by decide)
     refine ⟨n,.slice da (dataOf q.size ((q.rest.drop i).take n)).length dc,(by simp only [hla];rfl),⟨hn,fun _ _ _ => .inl (by simp only [hla];rw [← HM.out];exact HGT.out)⟩,⟨by omega,fun j hj h1 h2 => ?_⟩,?_,?_,?_⟩
     ·have hh:=I.out j hj h1
      rw [HM.out] at hh
      simp only [hla]
      exact hh
     ·refine ownsRow_block HT9.out.data fun j hj => K9.block j (World.ownsRow.lt HT9.out.data j hj).2 ?_
      have hb1:=HT9.out.data.blk j hj
      have hb6:=row_off HT9.out.data HT9.out.r6 (by decide)
      have hb7:=row_off HT9.out.data HT9.out.r7 (by decide)
      simp only [List.mem_cons,List.not_mem_nil,or_false,not_or]
      exact ⟨fun x => hb6 (by rw [hj,x]),fun x => hb7 (by rw [hj,x])⟩
     ·refine HT9.out.row.block fun j hj => K9.block j (World.ownsRow.lt HT9.out.row j hj).2 ?_
      simp only [Value.ownBlock,Option.some.injEq] at hj
      subst hj
      simp
      omega
     ·exact HT9.out.keep.trans K9 (fun j hj => .inr (by simp at hj;omega))
    have e1 : decide ((n : Int) > M) = false:=qdf hA
    by_cases hB : (n : Int) = M
    ·have e2 : ((n : Int) == M) = true:=by simpa using hB
     have HBM:=qhi hB
     clear hA hB
     cases e3 : decide (a' = q.size)
     ·have HEq:=qhi e3
      go_wp2_with (first
       | (go_at_call 53;refine (HE.out _ HTA.out.cells).mono ?_;rintro r w5 ⟨rfl,hbw5⟩;have HTw5:=qhi (HTA.out.below hbw5);have HLw5:=qhi (heap_below HTL.out hbw5);clear hbw5
          skip))
      have T9:=HTw5.out
      have s6:=qub T9.r6
      have t6:=qcb T9.r6
      have t7:=qcb T9.r7
      have t60:=t6 0;have t61:=t6 1;have t62:=t6 2;have t63:=t6 3;have t64:=t6 4;have t65:=t6 5;have t66:=t6 6;have t67:=t6 7
      have t70:=t7 0;have t71:=t7 1;have t72:=t7 2;have t73:=t7 3
      simp only [List.getElem?_toArray,List.getElem?_cons_zero,List.getElem?_cons_succ] at t60 t61 t62 t63 t64 t65 t66 t67 t70 t71 t72 t73
      have s7:=qub T9.r7
      clear t6 t7
      have fb:=qcb T9.fb
      have pb:=qcb T9.pb
      have b0:=fb 0;have b1:=fb 1;have b2:=fb 2;have b3:=fb 3;have b4:=fb 4;have b5:=fb 5;have b6:=fb 6;have b7:=fb 7
      have p0:=pb 0;have p1:=pb 1;have p2:=pb 2;have p3:=pb 3
      simp only [List.getElem?_toArray,List.getElem?_cons_zero,List.getElem?_cons_succ] at b0 b1 b2 b3 b4 b5 b6 b7 p0 p1 p2 p3
      clear fb pb
      have HT9:=qhi T9
      clear T9
      go_region
      all_goals
       go_wp2_with fail
      refine bodyPost_ret (tell_results rfl rfl (qcb (wOut_is HT9.out.r6 HT9.out.r7 _ _ _ _ _ _ _ _ _ _ _ _).1 0) (qcb (wOut_is HT9.out.r6 HT9.out.r7 _ _ _ _ _ _ _ _ _ _ _ _).1 1) (qcb (wOut_is HT9.out.r6 HT9.out.r7 _ _ _ _ _ _ _ _ _ _ _ _).1 2) (qcb (wOut_is HT9.out.r6 HT9.out.r7 _ _ _ _ _ _ _ _ _ _ _ _).1 3) (qcb (wOut_is HT9.out.r6 HT9.out.r7 _ _ _ _ _ _ _ _ _ _ _ _).1 4) (qcb (wOut_is HT9.out.r6 HT9.out.r7 _ _ _ _ _ _ _ _ _ _ _ _).1 5) (qcb (wOut_is HT9.out.r6 HT9.out.r7 _ _ _ _ _ _ _ _ _ _ _ _).1 6) (qcb (wOut_is HT9.out.r6 HT9.out.r7 _ _ _ _ _ _ _ _ _ _ _ _).1 7) (qcb (wOut_is HT9.out.r6 HT9.out.r7 _ _ _ _ _ _ _ _ _ _ _ _).2.1 0) (qcb (wOut_is HT9.out.r6 HT9.out.r7 _ _ _ _ _ _ _ _ _ _ _ _).2.1 1) (qcb (wOut_is HT9.out.r6 HT9.out.r7 _ _ _ _ _ _ _ _ _ _ _ _).2.1 2) (qcb (wOut_is HT9.out.r6 HT9.out.r7 _ _ _ _ _ _ _ _ _ _ _ _).2.1 3)) rfl ?_
      have K9:=(wOut_is HT9.out.r6 HT9.out.r7 (.int .i64 8) (.int .i64 st) (.int .i64 la) (.int .i64 0) (.int .i64 0) (.bool (finOf q.size ((q.rest.drop i).take n))) (.slice da (dataOf q.size ((q.rest.drop i).take n)).length dc) (.slice none 0 0) (.int .i64 st) (.int .i64 la) (.int .i64 (la + n)) (.int .i64 0)).2.2
      have hs6:=row_off HT9.out.data HT9.out.r7 (by decide)
      refine ⟨n,.slice da (dataOf q.size ((q.rest.drop i).take n)).length dc,(by simp only [hla];rfl),⟨hn,fun _ _ _ => .inr ⟨by simp only [hla];rw [← HM.out];exact HBM.out,by rw [HK.out];exact of_decide_eq_false HEq.out⟩⟩,⟨by omega,fun j hj h1 h2 => ?_⟩,?_,?_,?_⟩
      ·have hh:=I.out j hj h1
       rw [HM.out] at hh
       simp only [hla]
       exact hh
      ·refine ownsRow_block HT9.out.data fun j hj => K9.block j (World.ownsRow.lt HT9.out.data j hj).2 ?_
       have hb1:=HT9.out.data.blk j hj
       have hb6:=row_off HT9.out.data HT9.out.r6 (by decide)
       have hb7:=row_off HT9.out.data HT9.out.r7 (by decide)
       simp only [List.mem_cons,List.not_mem_nil,or_false,not_or]
       exact ⟨fun x => hb6 (by rw [hj,x]),fun x => hb7 (by rw [hj,x])⟩
      ·refine HT9.out.row.block fun j hj => K9.block j (World.ownsRow.lt HT9.out.row j hj).2 ?_
       simp only [Value.ownBlock,Option.some.injEq] at hj
       subst hj
       simp
       omega
      ·exact HT9.out.keep.trans K9 (fun j hj => .inr (by simp at hj;omega))
     ·have HEq:=qhi e3
      go_wp2_with (first
       | (go_at_call 53;have _t:=tok1;refine (HE.out _ HTA.out.cells).mono ?_;rintro r w5 ⟨rfl,hbw5⟩;have HTw5:=qhi (HTA.out.below hbw5);have HLw5:=qhi (heap_below HTL.out hbw5);clear hbw5;clear tok1
          have lc:=qcb HLw5.out
          have lc0:=lc 0;have lc1:=lc 1;have lc2:=lc 2
          simp only [List.getElem?_toArray,List.getElem?_cons_zero,List.getElem?_cons_succ] at lc0 lc1 lc2
          clear lc)
       | (go_at_call 53;refine (HE.out _ HTw5.out.cells).mono ?_;rintro r w6 ⟨rfl,hbw6⟩;have HTw6:=qhi (HTw5.out.below hbw6);have HLw6:=qhi (heap_below HLw5.out hbw6);clear hbw6
          have lc:=qcb HLw6.out
          have lc0:=lc 0;have lc1:=lc 1;have lc2:=lc 2
          simp only [List.getElem?_toArray,List.getElem?_cons_zero,List.getElem?_cons_succ] at lc0 lc1 lc2
          clear lc
          obtain ⟨j0,j1,j2,jf⟩:=HTw6.out.facts hnl
          rw [HK.out] at j0 j1 j2
          simp only at j0 j1 j2
          have gf:=qub HTw6.out.fb
          have gp:=qub HTw6.out.pb
          have hs:=heap_lt HTw6.out.pb
          have fb:=qcb HTw6.out.fb
          have pb:=qcb HTw6.out.pb
          have b0:=fb 0;have b1:=fb 1;have b2:=fb 2;have b3:=fb 3;have b4:=fb 4;have b5:=fb 5;have b6:=fb 6;have b7:=fb 7
          have p0:=pb 0;have p1:=pb 1;have p2:=pb 2;have p3:=pb 3
          simp only [List.getElem?_toArray,List.getElem?_cons_zero,List.getElem?_cons_succ] at b0 b1 b2 b3 b4 b5 b6 b7 p0 p1 p2 p3
          clear fb pb))
      have TW:=HTw6.out
      obtain ⟨d1,d2⟩:=data_end hnl (by rw [HK.out];exact of_decide_eq_true HEq.out)
      have hF:=heap_set (j:=5) (u:=.bool true) TW.fb
      simp only [Array.set!_eq_setIfInBounds,List.setIfInBounds_toArray,List.set_cons_zero,List.set_cons_succ] at hF
      refine ⟨⟨n + 1,.slice da (dataOf q.size ((q.rest.drop i).take n)).length dc,by simp,hlt,TW.mark hnl (TW.row.block fun j hj => Below.heap_setCell _ _ _ _ ?_) (TW.cells.block (Below.heap_setCell _ _ _ _ ?_)) ?_ (heap_other TW.pb ?_) ?_ (TW.keep.trans (keep_set _ _ _ _) (fun x hx => .inr ?_)) (heap_other TW.r6 ?_) (heap_other TW.r7 ?_),?_⟩,by simp [intOf];omega⟩
      ·simp only [Value.ownBlock,Option.some.injEq] at hj;subst hj;show _ ≠ FB;omega
      ·show e ≠ FB;omega
      ·rw [d2];exact hF
      ·omega
      ·rw [d1]
       refine ownsRow_block TW.data fun j hj => Below.heap_setCell _ _ _ _ (show j ≠ FB from fun x => row_off TW.data TW.fb (by decide) (by rw [hj,x]))
      ·simp only [List.mem_singleton] at hx;omega
      ·omega
      ·omega
      ·intro j hj h1
       rcases Nat.lt_or_eq_of_le (Nat.lt_succ_iff.1 hj) with h2 | rfl
       ·exact I.out j h2 h1
       ·exact .inr ⟨HBM.out,by rw [HK.out];exact of_decide_eq_true HEq.out⟩
    ·have e2 : ((n : Int) == M) = false:=by simpa using hB
     have HBM : Hid ((n : Int) < M):=(by omega : (n : Int) < M)
     clear hA hB
     cases e3 : decide (a' = q.size)
     ·have HEq:=qhi e3
      go_wp2_with (first
       | (go_at_call 53;refine (HE.out _ HTA.out.cells).mono ?_;rintro r w5 ⟨rfl,hbw5⟩;have HTw5:=qhi (HTA.out.below hbw5);have HLw5:=qhi (heap_below HTL.out hbw5);clear hbw5
          have lc:=qcb HLw5.out
          have lc0:=lc 0;have lc1:=lc 1;have lc2:=lc 2
          simp only [List.getElem?_toArray,List.getElem?_cons_zero,List.getElem?_cons_succ] at lc0 lc1 lc2
          clear lc
          obtain ⟨j0,j1,j2,jf⟩:=HTw5.out.facts hnl
          rw [HK.out] at j0 j1 j2
          simp only at j0 j1 j2
          have gf:=qub HTw5.out.fb
          have gp:=qub HTw5.out.pb
          have hs:=heap_lt HTw5.out.pb
          have fb:=qcb HTw5.out.fb
          have pb:=qcb HTw5.out.pb
          have b0:=fb 0;have b1:=fb 1;have b2:=fb 2;have b3:=fb 3;have b4:=fb 4;have b5:=fb 5;have b6:=fb 6;have b7:=fb 7
          have p0:=pb 0;have p1:=pb 1;have p2:=pb 2;have p3:=pb 3
          simp only [List.getElem?_toArray,List.getElem?_cons_zero,List.getElem?_cons_succ] at b0 b1 b2 b3 b4 b5 b6 b7 p0 p1 p2 p3
          clear fb pb)
       | (at_builtin;((with_reducible refine wpList_append_rd _ ?_ (.tmp 69) (.tmp 72) 29 ?_ elemU8 Tryz.underlying29 w.heap.size (.slice da (dataOf q.size ((q.rest.drop i).take n)).length dc) (dataOf q.size ((q.rest.drop i).take n)) ?_ (Own.alloc HTw5.out.data _) _ [x'] ?_ (Rd.one _ _ _ _) ?_ ?_ ?_ ?_));rfl;rfl;rfl;rfl;(have:=HDL.out;simp;omega);(have:=HDL.out;simp;unfold maxLen;omega);(have:=HTw5.out.keep.size;simp;omega);intro v7 w7 hO7 hG7
          have HO7:=qhi hO7
          have HG7:=qhi hG7
          obtain ⟨da7,dc7,hv7⟩:=hO7.len
          simp only [List.length_append,List.length_cons,List.length_nil,Nat.zero_add] at hv7
          subst hv7
          have hoF : Value.ownBlock (.slice da (dataOf q.size ((q.rest.drop i).take n)).length dc) ≠ some FB:=row_off HTw5.out.data HTw5.out.fb (by decide)
          have hoP : Value.ownBlock (.slice da (dataOf q.size ((q.rest.drop i).take n)).length dc) ≠ some (FB + 1):=row_off HTw5.out.data HTw5.out.pb (by decide)
          have hob : ∀ j,Value.ownBlock (.slice da (dataOf q.size ((q.rest.drop i).take n)).length dc) = some j → w.heap.size ≤ j:=HTw5.out.data.blk
          have hF7:=heap_grown (heap_alloc HTw5.out.fb (.cells #[.int .u8 x'] 5)) hG7 hoF
          have hP7:=heap_grown (heap_alloc HTw5.out.pb (.cells #[.int .u8 x'] 5)) hG7 hoP
          have hR7:=(HTw5.out.alloc (.cells #[.int .u8 x'] 5)).row.grown hG7 (fun j hj x => by
           simp only [Value.ownBlock,Option.some.injEq] at hj
           subst hj
           have:=hob _ x
           omega)
          obtain ⟨y0,y1,y2,yf⟩:=row_facts hR7 hnl
          rw [HK.out] at y0 y1 y2
          simp only at y0 y1 y2
          have gf7:=qub hF7
          have gp7:=qub hP7
          have cf:=qcb hF7
          have cp:=qcb hP7
          have x5:=cf 5;have x6:=cf 6
          have z0:=cp 0;have z1:=cp 1;have z2:=cp 2;have z3:=cp 3
          simp only [List.getElem?_toArray,List.getElem?_cons_zero,List.getElem?_cons_succ] at x5 x6 z0 z1 z2 z3
          have hs7:=heap_lt hP7
          clear hO7 hG7 hoF hoP hob hF7 hP7 hR7 cf cp))
      have TW:=HTw5.out
      obtain ⟨d1,d2⟩:=data_more hnl (by rw [HK.out];exact of_decide_eq_false HEq.out)
      rw [HK.out] at d1
      have G7:=HG7.out
      have hoF : Value.ownBlock (.slice da (dataOf q.size ((q.rest.drop i).take n)).length dc) ≠ some FB:=row_off TW.data TW.fb (by decide)
      have hoP : Value.ownBlock (.slice da (dataOf q.size ((q.rest.drop i).take n)).length dc) ≠ some (FB + 1):=row_off TW.data TW.pb (by decide)
      have ho6 : Value.ownBlock (.slice da (dataOf q.size ((q.rest.drop i).take n)).length dc) ≠ some w.heap.size:=row_off TW.data TW.r6 (by decide)
      have ho7 : Value.ownBlock (.slice da (dataOf q.size ((q.rest.drop i).take n)).length dc) ≠ some (w.heap.size + 1):=row_off TW.data TW.r7 (by decide)
      have hob : ∀ j,Value.ownBlock (.slice da (dataOf q.size ((q.rest.drop i).take n)).length dc) = some j → w.heap.size ≤ j:=TW.data.blk
      have hF:=heap_set (j:=6) (u:=(.slice da7 ((dataOf q.size ((q.rest.drop i).take n)).length + 1) dc7)) (heap_grown (heap_alloc TW.fb _) G7 hoF)
      simp only [Array.set!_eq_setIfInBounds,List.setIfInBounds_toArray,List.set_cons_zero,List.set_cons_succ] at hF
      have hgo : ∀ j,some g = some j → Value.ownBlock (.slice da (dataOf q.size ((q.rest.drop i).take n)).length dc) ≠ some j:=fun j hj x => by have:=hob j x;cases hj;omega
      have r7q:=(TW.alloc (.cells #[.int .u8 x'] 5)).row.grown G7 hgo
      have heo : Value.ownBlock (.slice da (dataOf q.size ((q.rest.drop i).take n)).length dc) ≠ some e:=fun x => by have:=hob e x;omega
      have c7q:=(TW.alloc (.cells #[.int .u8 x'] 5)).cells
      have o7:=HO7.out
      refine ⟨⟨n + 1,(.slice da7 ((dataOf q.size ((q.rest.drop i).take n)).length + 1) dc7),by simp,hlt,TW.mark hnl (r7q.block fun j hj => Below.heap_setCell _ _ _ _ ?_) ((c7q.block (G7.block e c7q.c0.lt (fun x => heo x.symm))).block (Below.heap_setCell _ _ _ _ ?_)) ?_ (heap_other (heap_grown (heap_alloc TW.pb _) G7 hoP) ?_) ?_ ((keep_grown (TW.alloc (.cells #[.int .u8 x'] 5)).keep G7 (fun j hj => .inr (hob j hj))).trans (keep_set _ _ _ _) (fun x hx => .inr ?_)) (heap_other (heap_grown (heap_alloc TW.r6 _) G7 ho6) ?_) (heap_other (heap_grown (heap_alloc TW.r7 _) G7 ho7) ?_),?_⟩,by simp [intOf];omega⟩
      ·simp only [Value.ownBlock,Option.some.injEq] at hj;subst hj;show _ ≠ FB;omega
      ·show e ≠ FB;omega
      ·rw [d2];exact hF
      ·omega
      ·rw [d1]
       refine ownsRow_block o7 fun j hj => Below.heap_setCell _ _ _ _ (show j ≠ FB from fun x => row_off o7 (heap_grown (heap_alloc TW.fb _) G7 hoF) (by decide) (by rw [hj,x]))
      ·simp only [List.mem_singleton] at hx;omega
      ·omega
      ·omega
      ·intro j hj h1
       rcases Nat.lt_or_eq_of_le (Nat.lt_succ_iff.1 hj) with h2 | rfl
       ·exact I.out j h2 h1
       ·exact .inl HBM.out
     ·have HEq:=qhi e3
      go_wp2_with (first
       | (go_at_call 53;refine (HE.out _ HTA.out.cells).mono ?_;rintro r w6 ⟨rfl,hbw6⟩;have HTw6:=qhi (HTA.out.below hbw6);have HLw6:=qhi (heap_below HTL.out hbw6);clear hbw6
          have lc:=qcb HLw6.out
          have lc0:=lc 0;have lc1:=lc 1;have lc2:=lc 2
          simp only [List.getElem?_toArray,List.getElem?_cons_zero,List.getElem?_cons_succ] at lc0 lc1 lc2
          clear lc
          obtain ⟨j0,j1,j2,jf⟩:=HTw6.out.facts hnl
          rw [HK.out] at j0 j1 j2
          simp only at j0 j1 j2
          have gf:=qub HTw6.out.fb
          have gp:=qub HTw6.out.pb
          have hs:=heap_lt HTw6.out.pb
          have fb:=qcb HTw6.out.fb
          have pb:=qcb HTw6.out.pb
          have b0:=fb 0;have b1:=fb 1;have b2:=fb 2;have b3:=fb 3;have b4:=fb 4;have b5:=fb 5;have b6:=fb 6;have b7:=fb 7
          have p0:=pb 0;have p1:=pb 1;have p2:=pb 2;have p3:=pb 3
          simp only [List.getElem?_toArray,List.getElem?_cons_zero,List.getElem?_cons_succ] at b0 b1 b2 b3 b4 b5 b6 b7 p0 p1 p2 p3
          clear fb pb))
      have TW:=HTw6.out
      obtain ⟨d1,d2⟩:=data_end hnl (by rw [HK.out];exact of_decide_eq_true HEq.out)
      have hF:=heap_set (j:=5) (u:=.bool true) TW.fb
      simp only [Array.set!_eq_setIfInBounds,List.setIfInBounds_toArray,List.set_cons_zero,List.set_cons_succ] at hF
      refine ⟨⟨n + 1,.slice da (dataOf q.size ((q.rest.drop i).take n)).length dc,by simp,hlt,TW.mark hnl (TW.row.block fun j hj => Below.heap_setCell _ _ _ _ ?_) (TW.cells.block (Below.heap_setCell _ _ _ _ ?_)) ?_ (heap_other TW.pb ?_) ?_ (TW.keep.trans (keep_set _ _ _ _) (fun x hx => .inr ?_)) (heap_other TW.r6 ?_) (heap_other TW.r7 ?_),?_⟩,by simp [intOf];omega⟩
      ·simp only [Value.ownBlock,Option.some.injEq] at hj;subst hj;show _ ≠ FB;omega
      ·show e ≠ FB;omega
      ·rw [d2];exact hF
      ·omega
      ·rw [d1]
       refine ownsRow_block TW.data fun j hj => Below.heap_setCell _ _ _ _ (show j ≠ FB from fun x => row_off TW.data TW.fb (by decide) (by rw [hj,x]))
      ·simp only [List.mem_singleton] at hx;omega
      ·omega
      ·omega
      ·intro j hj h1
       rcases Nat.lt_or_eq_of_le (Nat.lt_succ_iff.1 hj) with h2 | rfl
       ·exact I.out j h2 h1
       ·exact .inl HBM.out
   ·have i3 : ¬ (n : Int) < (N : Int):=by omega
    have HT9:=qhi T
    obtain ⟨n1,n2,n3,n4,n5,n6⟩:=T.ne
    have s6:=qub T.r6
    have t6:=qcb T.r6
    have t7:=qcb T.r7
    have t60:=t6 0;have t61:=t6 1;have t62:=t6 2;have t63:=t6 3;have t64:=t6 4;have t65:=t6 5;have t66:=t6 6;have t67:=t6 7
    have t70:=t7 0;have t71:=t7 1;have t72:=t7 2;have t73:=t7 3
    simp only [List.getElem?_toArray,List.getElem?_cons_zero,List.getElem?_cons_succ] at t60 t61 t62 t63 t64 t65 t66 t67 t70 t71 t72 t73
    have s7:=qub T.r7
    clear t6 t7
    have fb:=qcb T.fb
    have pb:=qcb T.pb
    have b0:=fb 0;have b1:=fb 1;have b2:=fb 2;have b3:=fb 3;have b4:=fb 4;have b5:=fb 5;have b6:=fb 6;have b7:=fb 7
    have p0:=pb 0;have p1:=pb 1;have p2:=pb 2;have p3:=pb 3
    simp only [List.getElem?_toArray,List.getElem?_cons_zero,List.getElem?_cons_succ] at b0 b1 b2 b3 b4 b5 b6 b7 p0 p1 p2 p3
    clear fb pb
    have hz1:=heap_lt T.r7
    have hz2:=heap_lt T.fb
    have hz3:=heap_lt T.pb
    clear T
    generalize w2.heap.size = FB at *
    go_wp2_with fail
    go_region
    all_goals
     go_wp2_with fail
    refine bodyPost_ret (tell_results rfl rfl (qcb (wOut_is HT9.out.r6 HT9.out.r7 _ _ _ _ _ _ _ _ _ _ _ _).1 0) (qcb (wOut_is HT9.out.r6 HT9.out.r7 _ _ _ _ _ _ _ _ _ _ _ _).1 1) (qcb (wOut_is HT9.out.r6 HT9.out.r7 _ _ _ _ _ _ _ _ _ _ _ _).1 2) (qcb (wOut_is HT9.out.r6 HT9.out.r7 _ _ _ _ _ _ _ _ _ _ _ _).1 3) (qcb (wOut_is HT9.out.r6 HT9.out.r7 _ _ _ _ _ _ _ _ _ _ _ _).1 4) (qcb (wOut_is HT9.out.r6 HT9.out.r7 _ _ _ _ _ _ _ _ _ _ _ _).1 5) (qcb (wOut_is HT9.out.r6 HT9.out.r7 _ _ _ _ _ _ _ _ _ _ _ _).1 6) (qcb (wOut_is HT9.out.r6 HT9.out.r7 _ _ _ _ _ _ _ _ _ _ _ _).1 7) (qcb (wOut_is HT9.out.r6 HT9.out.r7 _ _ _ _ _ _ _ _ _ _ _ _).2.1 0) (qcb (wOut_is HT9.out.r6 HT9.out.r7 _ _ _ _ _ _ _ _ _ _ _ _).2.1 1) (qcb (wOut_is HT9.out.r6 HT9.out.r7 _ _ _ _ _ _ _ _ _ _ _ _).2.1 2) (qcb (wOut_is HT9.out.r6 HT9.out.r7 _ _ _ _ _ _ _ _ _ _ _ _).2.1 3)) rfl ?_
    have K9:=(wOut_is HT9.out.r6 HT9.out.r7 (.int .i64 8) (.int .i64 st) (.int .i64 la) (.int .i64 0) (.int .i64 0) (.bool (finOf q.size ((q.rest.drop i).take n))) (.slice da (dataOf q.size ((q.rest.drop i).take n)).length dc) (.slice none 0 0) (.int .i64 st) (.int .i64 la) (.int .i64 (la + n)) (.int .i64 0)).2.2
    have hs6:=row_off HT9.out.data HT9.out.r7 (by decide)
    refine ⟨n,.slice da (dataOf q.size ((q.rest.drop i).take n)).length dc,(by simp only [hla];rfl),⟨hn,fun h => absurd h (by omega)⟩,⟨by omega,fun j hj h1 h2 => ?_⟩,?_,?_,?_⟩
    ·have hh:=I.out j hj h1
     rw [HM.out] at hh
     simp only [hla]
     exact hh
    ·refine ownsRow_block HT9.out.data fun j hj => K9.block j (World.ownsRow.lt HT9.out.data j hj).2 ?_
     have hb1:=HT9.out.data.blk j hj
     have hb6:=row_off HT9.out.data HT9.out.r6 (by decide)
     have hb7:=row_off HT9.out.data HT9.out.r7 (by decide)
     simp only [List.mem_cons,List.not_mem_nil,or_false,not_or]
     exact ⟨fun x => hb6 (by rw [hj,x]),fun x => hb7 (by rw [hj,x])⟩
    ·refine HT9.out.row.block fun j hj => K9.block j (World.ownsRow.lt HT9.out.row j hj).2 ?_
     simp only [Value.ownBlock,Option.some.injEq] at hj
     subst hj
     simp
     omega
    ·exact HT9.out.keep.trans K9 (fun j hj => .inr (by simp at hj;omega))
end Go.Proofs.YtmcomdmcmnbhlaaGreatDoor
