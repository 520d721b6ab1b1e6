import Derived.Test.YtmcomdmcmnbhlaaGreatDoorKNu0
import Derived.Test.YtmcomdmcmnbhlaaGreatDoorKLRow0
import Derived.StillTailTactics
import Derived.Deep.RegionWith
import Derived.Laws.Rows
import Derived.WalkLawsBesides
import Derived.Lib.SmallJoins
import Derived.Deep.RegionHeld3
import Derived.Deep.AppendLies
import Derived.Test.YtmcomdmcmnbhlaaGreatDoorKLSpan0
set_option maxRecDepth 100000
set_option maxHeartbeats 25600000
set_option linter.unusedSimpArgs false
set_option linter.unusedVariables false
set_option linter.unnecessarySimpa false
namespace Go.Proofs.YtmcomdmcmnbhlaaGreatDoor
open Go.RowKit
def faultP (why at_ : Int) : List PanicEntry:=[{ v:=.iface 147 (.agg #[.int .i64 why,.int .i64 at_]),recovered:=false }]
theorem breakOff_any (p : Value) (why at_ : Int) (w : World) :
  Calls Tryz.prog 120 #[p,.int .i64 why,.int .i64 at_] w fun e w' => e = .panicked (faultP why at_) ∧ w = w':=by
 go_enter Tryz.func120,Tryz.ntmps120
 go_wp2
 exact ⟨rfl,rfl,rfl⟩
structure At (w : World) (p : Nat) (v : Value) (a : Int) : Prop where
 is : w.heap[p]? = some (.cells #[v,.int .i64 a] 198 (0,0))
theorem At.c0 {w : World} {p : Nat} {v : Value} {a : Int} (h : At w p v a) : w.cell? ⟨p,0,none⟩ = some v:=(qcb h.is 0).trans rfl
theorem At.c1 {w : World} {p : Nat} {v : Value} {a : Int} (h : At w p v a) : w.cell? ⟨p,1,none⟩ = some (.int .i64 a):=(qcb h.is 1).trans rfl
theorem At.lt {w : World} {p : Nat} {v : Value} {a : Int} (h : At w p v a) : p < w.heap.size:=(qgs h.is).1
theorem At.fz {w : World} {p : Nat} {v : Value} {a : Int} (h : At w p v a) (j : Nat) : w.frozen? ⟨p,j,none⟩ = false:=qub h.is j
theorem At.set {w : World} {p : Nat} {v : Value} {a : Int} (h : At w p v a) (x : Int) : At (w.setCell ⟨p,1,none⟩ (.int .i64 x)) p v x:=⟨heap_setCell_same w p 1 _ _ (.int .i64 x) h.is⟩
theorem At.set' {w : World} {p : Nat} {v : Value} {a x y : Int} (h : At w p v a) (e : y = x) : At (w.setCell ⟨p,1,none⟩ (.int .i64 y)) p v x:=by subst e;exact h.set y
theorem At.alloc {w : World} {p : Nat} {v : Value} {a : Int} (h : At w p v a) (o : Obj) : At (w.alloc o) p v a:=⟨(Below.heap_alloc w o p h.lt).trans h.is⟩
theorem At.other {w : World} {p : Nat} {v : Value} {a : Int} (h : At w p v a) {q : Addr} (hq : p ≠ q.block) (x : Value) : At (w.setCell q x) p v a:=⟨(Below.heap_setCell _ _ _ _ hq).trans h.is⟩
theorem At.kept {w w' : World} {p : Nat} {v : Value} {a : Int} (h : At w p v a) (hb : Below w.heap.size w w') : At w' p v a:=⟨(hb.block p h.lt).trans h.is⟩
def num (xs : List Int) (i : Nat) : Except (Int × Int) (Int × Nat):=match getS xs i with
 | some (n,W) => .ok (n,i + W)
 | none => .error (3,xs.length)
def StepIs {α : Type} (V : α → World → Value → Prop) (w : World) (p : Nat) (v : Value) (r : Except (Int × Int) (α × Nat)) (e : Ending) (w' : World) : Prop :=
 w.grownBy w' (some p) ∧ match r with
 | .ok (x,i) => (∃ u,e = .returned u ∧ V x w' u) ∧ At w' p v i
 | .error (why,at_) => e = .panicked (faultP why at_)
def intV (n : Int) (_ : World) (u : Value) : Prop:=u = .int .i64 n
theorem held_at4 {w V : World} {p : Nat} {v : Value} {a : Int} (h : Hid (At w p v a)) (hB : Below w.heap.size w V) : V.cell? ⟨p,0,none⟩ = some v ∧ V.cell? ⟨p,1,none⟩ = some (.int .i64 a) ∧ Below w.heap.size w V :=
 ⟨(h.out.kept hB).c0,(h.out.kept hB).c1,hB⟩
theorem below_of0 {w w1 : World} (b : Below w.drew.heap.size w.drew w1) : Below w.heap.size w w1:=⟨b.os,b.tape,b.output,b.size,b.block⟩
theorem below_of' {w w1 : World} {o : Obj} (b : Below (w.alloc o).drew.heap.size (w.alloc o).drew w1) : Below w.heap.size w w1 :=
 (qbd ((qbr _ _).alloc (qlr _) _) 1).trans (b.mono (by simp [World.drew]))
theorem new_block {w w1 : World} {o : Obj} (b : Below (w.alloc o).drew.heap.size (w.alloc o).drew w1) : w1.heap[w.heap.size]? = some o :=
 (b.block w.heap.size (by simp [World.drew])).trans (by show (w.heap.push o)[w.heap.size]? = _;simp)
theorem Rd.heap {k : IntKind} {w W : World} {v : Value} {xs : List Int} (h : Rd k w v xs) (e : W.heap = w.heap) : Rd k W v xs:=by
 rcases h with h | ⟨h1,b,o,c,rfl,h2,h3,h4,h5⟩
 ·exact .inl h
 ·exact .inr ⟨h1,b,o,c,rfl,h2,h3,by rw [e];exact h4,fun i hi => (World.cell?_of_block (w:=w) (by rw [e])).trans (h5 i hi)⟩
theorem Tab.heap {w W : World} (h : Tab w) (e : W.heap = w.heap) : Tab W:=by
 obtain ⟨c0,c1,c2,c3⟩:=h
 exact ⟨(World.cell?_of_block (w:=w) (by rw [e])).trans c0,(World.cell?_of_block (w:=w) (by rw [e])).trans c1,(World.cell?_of_block (w:=w) (by rw [e])).trans c2,(World.cell?_of_block (w:=w) (by rw [e])).trans c3⟩
theorem number_any (p : Nat) (v : Value) (xs : List Int) (a : Nat) (w : World) (ht : Tab w) (hA : At w p v a) (hr : Rd .u8 w v xs) (hx : Bts xs) (ha : a ≤ xs.length) :
  Calls Tryz.prog 160 #[.pointer (some ⟨p,0,none⟩)] w (StepIs intV w p v (num xs a)):=by
 have c0:=hA.c0
 have c1:=hA.c1
 have hlt:=hA.lt
 have hne0 : p ≠ w.heap.size:=by omega
 have HA:=qhi hA
 have HG : Hid (∀ V : World,Below w.heap.size w V → Calls Tryz.prog 203 #[v,.int .i64 a] V (GetAt V xs a)):=fun V e => get_at v xs a V (ht.below e ht.pos) (hr.below e) hx ha
 clear hA hr ht
 cases hs : getS xs a with
 | some y =>
   obtain ⟨n,W⟩:=y
   have HG1 : Hid (∀ V : World,Below w.heap.size w V → Calls Tryz.prog 203 #[v,.int .i64 a] V (GetIs V n (a + W : Nat) 0 0)):=fun V e => (HG.out V e).mono fun e w' h => by
    rcases h with ⟨n',W',h1,_,_,h2⟩ | ⟨h1,_⟩
    ·rw [hs] at h1;cases h1;exact h2
    ·rw [hs] at h1;cases h1
   have HN : Hid (num xs a = .ok (n,a + W)):=by show _ = _;unfold num;rw [hs]
   clear HG hs
   go_enter Tryz.func160,Tryz.ntmps160
   go_wp2_with fail
   go_region_held3 (fun w' => w'.cell? ⟨p,0,none⟩ = some v ∧ w'.cell? ⟨p,1,none⟩ = some (.int .i64 a) ∧ Below w.heap.size w w')
    (first
     | (exact held_at4 HA (qbd (qbr _ _) 1))
     | (exact held_at4 HA (qbd ((qbr _ _).alloc (qlr _) _) 1))
     | (exact held_at4 HA B1)
     | (exact held_at4 HA (B1.alloc B1.size _))
     | (exact held_at4 HA (((B1.alloc B1.size _).setCell B1.size _).setCell B1.size _))
     | (exact held_at4 HA ((B1.setCell (qlr _) _).setCell (qlr _) _))
     | fail)
    (first
     | (go_at_call 203;refine (HG1.out _ ?_).mono ?_;(first | exact qbd (qbr _ _) 1 | exact qbd ((qbr _ _).alloc (qlr _) _) 1);rintro e w1 ⟨rfl,b1⟩;(first | (have B1:=below_of' b1) | (have B1:=below_of0 b1));try (have q:=new_block b1;have q0:=qcb q 0;have q1:=qcb q 1;have qf:=qub q;simp only [List.getElem?_toArray,List.getElem?_cons_zero,List.getElem?_cons_succ] at q0 q1)))
   all_goals
    have hA1 : At w1 p v a:=HA.out.kept B1
    have c1':=hA1.c1
    have f1':=hA1.fz 1
    have hlt':=hA1.lt
    have z1:=B1.size
    go_wp2
    go_ret
    rw [HN.out]
    refine ⟨?_,⟨_,rfl,rfl⟩,?_⟩
    ·(repeat' (first | exact grownBy_of_below B1 | (refine grownBy_alloc' ?_ _) | (refine grownBy_set ?_ _ _ ?_) | exact Or.inl rfl | (exact Or.inr (qlr _)) | (exact Or.inr z1)))
    ·first
      | exact (hA1.set' rfl).alloc _
      | exact ((hA1.other (q:=⟨w.heap.size,0,none⟩) hne0 _).other (q:=⟨w.heap.size,1,none⟩) hne0 _).set' rfl
 | none =>
   have HG1 : Hid (∀ V : World,Below w.heap.size w V → Calls Tryz.prog 203 #[v,.int .i64 a] V (GetIs V 0 0 3 xs.length)):=fun V e => (HG.out V e).mono fun e w' h => by
    rcases h with ⟨n',W',h1,_,_,h2⟩ | ⟨h1,h2⟩
    ·rw [hs] at h1;cases h1
    ·exact h2
   have HN : Hid (num xs a = .error (3,xs.length)):=by show _ = _;unfold num;rw [hs]
   clear HG hs
   go_enter Tryz.func160,Tryz.ntmps160
   go_wp2_with fail
   go_region_held3 (fun w' => w'.cell? ⟨p,0,none⟩ = some v ∧ w'.cell? ⟨p,1,none⟩ = some (.int .i64 a) ∧ Below w.heap.size w w')
    (first
     | (exact held_at4 HA (qbd (qbr _ _) 1))
     | (exact held_at4 HA (qbd ((qbr _ _).alloc (qlr _) _) 1))
     | (exact held_at4 HA B1)
     | (exact held_at4 HA (B1.alloc B1.size _))
     | (exact held_at4 HA (((B1.alloc B1.size _).setCell B1.size _).setCell B1.size _))
     | (exact held_at4 HA ((B1.setCell (qlr _) _).setCell (qlr _) _))
     | fail)
    (first
     | (go_at_call 203;refine (HG1.out _ ?_).mono ?_;(first | exact qbd (qbr _ _) 1 | exact qbd ((qbr _ _).alloc (qlr _) _) 1);rintro e w1 ⟨rfl,b1⟩;(first | (have B1:=below_of' b1) | (have B1:=below_of0 b1));try (have q:=new_block b1;have q0:=qcb q 0;have q1:=qcb q 1;have qf:=qub q;simp only [List.getElem?_toArray,List.getElem?_cons_zero,List.getElem?_cons_succ] at q0 q1)))
   all_goals
    have hA1 : At w1 p v a:=HA.out.kept B1
    have c1':=hA1.c1
    have f1':=hA1.fz 1
    have hlt':=hA1.lt
    have z1:=B1.size
    go_wp2_with (go_at_call 120;refine (breakOff_any _ _ _ _).mono ?_;rintro e w' ⟨rfl,rfl⟩)
    refine ⟨rfl,?_⟩
    rw [HN.out]
    refine ⟨?_,rfl⟩
    (repeat' (first | exact grownBy_of_below B1 | (refine grownBy_alloc' ?_ _) | (refine grownBy_set ?_ _ _ ?_) | exact Or.inl rfl | (exact Or.inr (qlr _)) | (exact Or.inr z1)))
theorem StepIs.err {α : Type} {V : α → World → Value → Prop} {w w' : World} {p : Nat} {v : Value} {r : Except (Int × Int) (α × Nat)} {e : Ending} {y z : Int} (h : StepIs V w p v r e w') (hr : r = .error (y,z)) : w.grownBy w' (some p) ∧ e = .panicked (faultP y z):=by subst hr;exact h
theorem StepIs.ok {α : Type} {V : α → World → Value → Prop} {w w' : World} {p : Nat} {v : Value} {r : Except (Int × Int) (α × Nat)} {e : Ending} {x : α} {i : Nat} (h : StepIs V w p v r e w') (hr : r = .ok (x,i)) : w.grownBy w' (some p) ∧ (∃ u,e = .returned u ∧ V x w' u) ∧ At w' p v i:=by subst hr;exact h
theorem alloc_at4 (w : World) (o : Obj) : (w.alloc o).heap[w.heap.size]? = some o:=by show (w.heap.push o)[w.heap.size]? = _;simp
theorem acc_top {xs : List Int} (hx : Bts xs) (i : Nat) : 0 ≤ acc xs i (widN (xs.getD i 0) - 1) ∧ acc xs i (widN (xs.getD i 0) - 1) ≤ 4611686018427387903:=by
 refine ⟨acc_lo hx _ _,?_⟩
 have h:=acc_hi hx i (widN (xs.getD i 0) - 1)
 have : widN (xs.getD i 0) - 1 = 0 ∨ widN (xs.getD i 0) - 1 = 1 ∨ widN (xs.getD i 0) - 1 = 3 ∨ widN (xs.getD i 0) - 1 = 7:=by unfold widN;split <;> (try split) <;> (try split) <;> simp
 rcases this with e | e | e | e <;> rw [e] at h ⊢ <;> simp only [Int.reducePow,Int.reduceMul] at h <;> omega
theorem num_ok {xs : List Int} (hx : Bts xs) {i j : Nat} {n : Int} (h : num xs i = .ok (n,j)) : 0 ≤ n ∧ n ≤ 4611686018427387903 ∧ i < j ∧ j ≤ xs.length:=by
 unfold num getS at h
 have h2:=wid_pos (xs.getD i 0)
 have h3:=acc_top hx i
 split at h
 ·rename_i n' W hg
  split at hg
  ·simp only [Option.some.injEq,Prod.mk.injEq] at hg
   obtain ⟨rfl,rfl⟩:=hg
   simp only [Except.ok.injEq,Prod.mk.injEq] at h
   obtain ⟨rfl,rfl⟩:=h
   omega
  ·cases hg
 ·cases h
def atMostR (xs : List Int) (i : Nat) (most why : Int) : Except (Int × Int) (Int × Nat):=match num xs i with
 | .ok (n,j) => if most < n then .error (why,i) else .ok (n,j)
 | .error e => .error e
theorem atMost_any (p : Nat) (v : Value) (xs : List Int) (a : Nat) (most why : Int) (w : World) (ht : Tab w) (hA : At w p v a) (hr : Rd .u8 w v xs) (hx : Bts xs) (ha : a ≤ xs.length) :
  Calls Tryz.prog 204 #[.pointer (some ⟨p,0,none⟩),.int .i64 most,.int .i64 why] w (StepIs intV w p v (atMostR xs a most why)):=by
 have c1:=hA.c1
 have HN:=qhi (number_any p v xs a w ht hA hr hx ha)
 clear hA hr ht
 cases hn : num xs a with
 | error e =>
   obtain ⟨y,z⟩:=e
   have HM : Hid (atMostR xs a most why = .error (y,z)):=by show _ = _;unfold atMostR;rw [hn]
   have HE : Hid (num xs a = .error (y,z)):=hn
   clear hn
   go_enter Tryz.func204,Tryz.ntmps204
   go_wp2_with (go_at_call 160;refine HN.out.mono ?_;rintro e w1 h1;obtain ⟨g1,rfl⟩:=h1.err HE.out)
   refine ⟨rfl,?_⟩
   rw [HM.out]
   exact ⟨g1,rfl⟩
 | ok y =>
   obtain ⟨n,j⟩:=y
   have HE : Hid (num xs a = .ok (n,j)):=hn
   by_cases hm : most < n
   ·have HM : Hid (atMostR xs a most why = .error (why,a)):=by show _ = _;unfold atMostR;rw [hn];exact if_pos hm
    have t1 : decide (most < n) = true:=qdt hm
    clear hn hm
    go_enter Tryz.func204,Tryz.ntmps204
    go_wp2_with (first
     | (go_at_call 160;refine HN.out.mono ?_;rintro e w1 h1;obtain ⟨g1,⟨u,rfl,rfl⟩,A1⟩:=h1.ok HE.out)
     | (go_at_call 120;refine (breakOff_any _ _ _ _).mono ?_;rintro e w' ⟨rfl,rfl⟩))
    refine ⟨rfl,?_⟩
    rw [HM.out]
    exact ⟨g1,rfl⟩
   ·have HM : Hid (atMostR xs a most why = .ok (n,j)):=by show _ = _;unfold atMostR;rw [hn];exact if_neg hm
    have t1 : decide (most < n) = false:=qdf hm
    clear hn hm
    go_enter Tryz.func204,Tryz.ntmps204
    go_wp2_with (go_at_call 160;refine HN.out.mono ?_;rintro e w1 h1;obtain ⟨g1,⟨u,rfl,rfl⟩,A1⟩:=h1.ok HE.out)
    go_ret
    rw [HM.out]
    exact ⟨g1,⟨_,rfl,rfl⟩,A1⟩
def spanR (xs : List Int) (i : Nat) (tp : Int) : Except (Int × Int) ((Int × Int) × Nat):=match atMostR xs i tp 5 with
 | .ok (n,j) => .ok ((tp - n,tp),j)
 | .error e => .error e
def spanV (s : Int × Int) (_ : World) (u : Value) : Prop:=u = .agg #[.int .i64 s.1,.int .i64 s.2]
theorem atMost_ok {xs : List Int} (hx : Bts xs) {i j : Nat} {n most why : Int} (h : atMostR xs i most why = .ok (n,j)) : 0 ≤ n ∧ n ≤ 4611686018427387903 ∧ n ≤ most ∧ i < j ∧ j ≤ xs.length:=by
 unfold atMostR at h
 split at h
 ·rename_i n' j' hn
  have:=num_ok hx hn
  split at h
  ·cases h
  ·cases h;omega
 ·cases h
theorem span_any (p : Nat) (v : Value) (xs : List Int) (a : Nat) (tp : Int) (w : World) (ht : Tab w) (hA : At w p v a) (hr : Rd .u8 w v xs) (hx : Bts xs) (ha : a ≤ xs.length) (h0 : -9223372036854775808 ≤ tp) (h1 : tp ≤ 4611686018427387903) :
  Calls Tryz.prog 205 #[.pointer (some ⟨p,0,none⟩),.int .i64 tp] w (StepIs spanV w p v (spanR xs a tp)):=by
 have hlt:=hA.lt
 have hne : p ≠ w.heap.size:=by omega
 have HN:=qhi (atMost_any p v xs a tp 5 (w.alloc (.cells #[.int .i64 0,.int .i64 0] 151)) (ht.below ((qbr _ _).alloc (qlr _) _) ht.pos) (hA.alloc _) (hr.below ((qbr _ _).alloc (qlr _) _)) hx ha)
 clear hA hr ht
 cases hn : atMostR xs a tp 5 with
 | error e =>
   obtain ⟨y,z⟩:=e
   have HM : Hid (spanR xs a tp = .error (y,z)):=by show _ = _;unfold spanR;rw [hn]
   have HE : Hid (atMostR xs a tp 5 = .error (y,z)):=hn
   clear hn
   go_enter Tryz.func205,Tryz.ntmps205
   go_wp2_with (go_at_call 204;refine HN.out.mono ?_;rintro e w1 h1;obtain ⟨g1,rfl⟩:=h1.err HE.out)
   refine ⟨rfl,?_⟩
   rw [HM.out]
   exact ⟨grownBy_trans (World.grownBy_alloc _ _ _) g1,rfl⟩
 | ok y =>
   obtain ⟨n,j⟩:=y
   have HE : Hid (atMostR xs a tp 5 = .ok (n,j)):=hn
   have HM : Hid (spanR xs a tp = .ok ((tp - n,tp),j)):=by show _ = _;unfold spanR;rw [hn]
   obtain ⟨b0,b1,b2,_⟩:=atMost_ok hx hn
   have hw : IntKind.i64.wrap (tp - n) = tp - n:=wraps_i64'1 _ (by omega) (by omega)
   clear hn
   go_enter Tryz.func205,Tryz.ntmps205
   go_wp2_with (go_at_call 204;refine HN.out.mono ?_;rintro e w1 h1;obtain ⟨g1,⟨u,rfl,rfl⟩,A1⟩:=h1.ok HE.out;have q:=block_kept (b:=w.heap.size) (o:=.cells #[.int .i64 0,.int .i64 0] 151) (alloc_at4 _ _) g1 (by simpa using hne);have q0:=qcb q 0;have q1:=qcb q 1;have qf:=qub q)
   refine bodyPost_ret (v:=.agg #[.int .i64 (tp - n),.int .i64 tp]) (by simp [results,Tryz.results205,go_sem,q0,q1,qf]) rfl ?_
   rw [HM.out]
   refine ⟨grownBy_set (grownBy_set (grownBy_trans (World.grownBy_alloc _ _ _) g1) _ _ (.inr (qlr _))) _ _ (.inr (qlr _)),⟨_,rfl,rfl⟩,(A1.other (q:=⟨w.heap.size,0,none⟩) hne _).other (q:=⟨w.heap.size,1,none⟩) hne _⟩
theorem At.drew {w : World} {p : Nat} {v : Value} {a : Int} (h : At w p v a) : At w.drew p v a:=⟨h.is⟩
theorem At.drewN {w : World} {p : Nat} {v : Value} {a : Int} (h : At w p v a) (n : Nat) : At (w.drewN n) p v a:=⟨h.is⟩
theorem count_left (p : Nat) (v : Value) (xs : List Int) (a : Nat) (bt : Int) (w : World) (hb : bits .and .i64 bt 2 = 0) (hA : At w p v a) (hr : Rd .u8 w v xs) (ha : a ≤ xs.length) :
  Calls Tryz.prog 162 #[.pointer (some ⟨p,0,none⟩),.int .i64 bt] w (StepIs intV w p v (.ok ((xs.length : Int) - a,a))):=by
 have c0:=hA.c0
 have c1:=hA.c1
 have HA:=qhi hA
 have hl:=hr.len
 obtain ⟨va,vc,rfl⟩:=hr.isSlice
 have hw : IntKind.i64.wrap ((xs.length : Int) - a) = (xs.length : Int) - a:=wraps_i64'1 _ (by omega) (by unfold maxLen at hl;omega)
 clear hA hr
 go_enter Tryz.func162,Tryz.ntmps162
 go_wp2_with fail
 go_quiet (fail)
 go_wp2
 go_ret
 exact ⟨grownBy_drewN (World.grownBy.refl _ _) _,⟨_,rfl,rfl⟩,HA.out.drewN _⟩
theorem count_num (p : Nat) (v : Value) (xs : List Int) (a : Nat) (bt : Int) (w : World) (hb : bits .and .i64 bt 2 = 2) (ht : Tab w) (hA : At w p v a) (hr : Rd .u8 w v xs) (hx : Bts xs) (ha : a ≤ xs.length) :
  Calls Tryz.prog 162 #[.pointer (some ⟨p,0,none⟩),.int .i64 bt] w (StepIs intV w p v (num xs a)):=by
 have HN:=qhi (number_any p v xs a w ht hA hr hx ha)
 clear hA hr ht
 cases hn : num xs a with
 | error e =>
   obtain ⟨y,z⟩:=e
   have HE : Hid (num xs a = .error (y,z)):=hn
   clear hn
   go_enter Tryz.func162,Tryz.ntmps162
   go_wp2_with (go_at_call 160;refine HN.out.mono ?_;rintro e w1 h1;obtain ⟨g1,rfl⟩:=h1.err HE.out)
   exact ⟨rfl,g1,rfl⟩
 | ok y =>
   obtain ⟨n,j⟩:=y
   have HE : Hid (num xs a = .ok (n,j)):=hn
   clear hn
   go_enter Tryz.func162,Tryz.ntmps162
   go_wp2_with (go_at_call 160;refine HN.out.mono ?_;rintro e w1 h1;obtain ⟨g1,⟨u,rfl,rfl⟩,A1⟩:=h1.ok HE.out)
   go_ret
   exact ⟨g1,⟨_,rfl,rfl⟩,A1⟩
def dataR (xs : List Int) (i : Nat) (count : Int) : Except (Int × Int) (List Int × Nat):=if (xs.length : Int) - i < count then .error (3,xs.length) else .ok ((xs.drop i).take count.toNat,i + count.toNat)
def dataV (B : Nat) (ys : List Int) (w : World) (u : Value) : Prop:=Own .u8 5 w B u ys
theorem data_short (p : Nat) (v : Value) (xs : List Int) (a : Nat) (count : Int) (w : World) (hA : At w p v a) (hr : Rd .u8 w v xs) (ha : a ≤ xs.length) (hs : (xs.length : Int) - a < count) :
  Calls Tryz.prog 163 #[.pointer (some ⟨p,0,none⟩),.int .i64 count] w (StepIs (dataV w.heap.size) w p v (dataR xs a count)):=by
 have c0:=hA.c0
 have c1:=hA.c1
 have hl:=hr.len
 obtain ⟨va,vc,rfl⟩:=hr.isSlice
 have hw : IntKind.i64.wrap ((xs.length : Int) - a) = (xs.length : Int) - a:=wraps_i64'1 _ (by omega) (by unfold maxLen at hl;omega)
 have HM : Hid (dataR xs a count = .error (3,xs.length)):=if_pos hs
 have t1 : decide ((xs.length : Int) - a < count) = true:=qdt hs
 clear hA hr hs
 go_enter Tryz.func163,Tryz.ntmps163
 go_wp2_with fail
 go_quiet (fail)
 have c0' : (w.drewN nq).cell? ⟨p,0,none⟩ = some (.slice va xs.length vc):=c0
 go_wp2_with (go_at_call 120;refine (breakOff_any _ _ _ _).mono ?_;rintro e w' ⟨rfl,rfl⟩)
 refine ⟨rfl,?_⟩
 rw [HM.out]
 exact ⟨grownBy_drewN (World.grownBy.refl _ _) _,rfl⟩
theorem data_long (p b o c n : Nat) (xs : List Int) (a m : Nat) (w : World) (hA : At w p (.slice (some ⟨b,o,none⟩) n c) a) (hr : Rd .u8 w (.slice (some ⟨b,o,none⟩) n c) xs) (hn : n = xs.length) (ha : a ≤ n) (hs : a + m ≤ n) (hbig : n ≤ 1048576) (hbp : b ≠ p) :
  Calls Tryz.prog 163 #[.pointer (some ⟨p,0,none⟩),.int .i64 m] w (StepIs (dataV w.heap.size) w p (.slice (some ⟨b,o,none⟩) n c) (.ok ((xs.drop a).take m,a + m))):=by
 have c0:=hA.c0
 have c1:=hA.c1
 have f1:=hA.fz 1
 have HA:=qhi hA
 have HR:=qhi hr
 have HNL:=qhi hn
 have hcap : n ≤ c:=by
  rcases hr with ⟨h0,_⟩ | ⟨h0,b',o',c',q,h2,h3,h4,h5⟩
  ·rw [h0] at hn;simp at hn;omega
  ·simp only [Value.slice.injEq] at q;obtain ⟨_,q1,rfl⟩:=q;omega
 have hw : IntKind.i64.wrap ((n : Int) - a) = (n : Int) - a:=wraps_i64'1 _ (by omega) (by omega)
 have hw2 : IntKind.i64.wrap ((a : Int) + m) = (a : Int) + m:=wraps_i64'1 _ (by omega) (by omega)
 have t1 : decide ((n : Int) - a < m) = false:=qdf (by omega)
 have hi1 : (a : Int) ≤ (a : Int) + m:=by omega
 have hi2 : (a : Int) + m ≤ (c : Int):=by omega
 have hi3 : (0 : Int) ≤ (a : Int):=by omega
 clear hA hr hn
 go_enter Tryz.func163,Tryz.ntmps163
 go_wp2_with fail
 go_quiet (fail)
 have c0' : (w.drewN nq).cell? ⟨p,0,none⟩ = some (.slice (some ⟨b,o,none⟩) n c):=c0
 have c1' : (w.drewN nq).cell? ⟨p,1,none⟩ = some (.int .i64 a):=c1
 have f1' : (w.drewN nq).frozen? ⟨p,1,none⟩ = false:=f1
 go_wp2_with fail
 have AV : At ((w.drewN nq).setCell ⟨p,1,none⟩ (.int .i64 ((a : Int) + m))) p (.slice (some ⟨b,o,none⟩) n c) ((a + m : Nat) : Int):=(HA.out.drewN _).set' rfl
 have GV : w.grownBy ((w.drewN nq).setCell ⟨p,1,none⟩ (.int .i64 ((a : Int) + m))) (some p):=grownBy_set (grownBy_drewN (World.grownBy.refl _ _) _) _ _ (.inl rfl)
 generalize ((w.drewN nq).setCell ⟨p,1,none⟩ (.int .i64 ((a : Int) + m))) = V at AV GV ⊢
 have RV:=qhi ((HR.out.kept GV (fun j hj => by simp only [Value.ownBlock,Option.some.injEq] at hj;subst hj;exact fun e => hbp (by cases e;rfl))))
 have d0 : V.drew.cell? ⟨p,0,none⟩ = some (.slice (some ⟨b,o,none⟩) n c):=AV.c0
 have d1 : V.drew.cell? ⟨p,1,none⟩ = some (.int .i64 ((a : Int) + m)):=AV.c1
 have RC : Hid (Rd .u8 V.drew (.slice (if c = a then some ⟨b,o,none⟩ else some ⟨b,o + a,none⟩) (((a : Int) + m).toNat - a) (c - a)) ((xs.drop a).take m)):=by
  rw [show ((a : Int) + m).toNat - a = m by omega]
  refine Rd.heap (w:=V) (Rd.cut RV.out a m hs _ ?_ ?_) rfl
  ·intro h;rw [if_neg h]
  ·split <;> simp
 have lm : Hid (([] : List Int).length + ((xs.drop a).take m).length ≤ 1048576):=by show _ ≤ _;rw [List.length_take];simp;omega
 go_region_law (refine step_append_rd rfl (.const (.slice none 0 0)) (.tmp 46) 29 rfl elemU81 Tryz.underlying29 V.heap.size (.slice none 0 0) [] rfl (Own.nil _ _ _ _) (.slice (if c = a then some ⟨b,o,none⟩ else some ⟨b,o + a,none⟩) (((a : Int) + m).toNat - a) (c - a)) _ ?_ RC.out ?_ ?_ ?_ ?_;(rfl);(have:=lm.out;omega);(have:=lm.out;unfold maxLen;omega);(exact qlr _);intro u w2 o2 g2)
 all_goals go_wp2
 all_goals
  try subst h
  go_ret
  refine ⟨grownBy_trans GV (grownBy_none ⟨g2.os,g2.tape,g2.output,g2.size,g2.block⟩),⟨_,rfl,?_⟩,?_⟩
  ·exact (o2.mono GV.size)
  ·exact ⟨(g2.block p AV.lt (by simp [Value.ownBlock])).trans AV.is⟩
theorem data_any4 (p b o c : Nat) (xs : List Int) (a : Nat) (count : Int) (w : World) (hA : At w p (.slice (some ⟨b,o,none⟩) xs.length c) a) (hr : Rd .u8 w (.slice (some ⟨b,o,none⟩) xs.length c) xs) (ha : a ≤ xs.length) (h0 : 0 ≤ count) (hbig : xs.length ≤ 1048576) (hbp : b ≠ p) :
  Calls Tryz.prog 163 #[.pointer (some ⟨p,0,none⟩),.int .i64 count] w (StepIs (dataV w.heap.size) w p (.slice (some ⟨b,o,none⟩) xs.length c) (dataR xs a count)):=by
 by_cases hs : (xs.length : Int) - a < count
 ·exact data_short p _ xs a count w hA hr ha hs
 ·obtain ⟨m,rfl⟩:=Int.eq_ofNat_of_zero_le h0
  have e : dataR xs a m = .ok ((xs.drop a).take m,a + m):=if_neg hs
  rw [e]
  exact data_long p b o c xs.length xs a m w hA hr rfl ha (by omega) hbig hbp
def hStream (k : Int) : Bool:=decide (k = 4 ∨ k = 5 ∨ k = 8 ∨ k = 17)
def hCode (k : Int) : Bool:=decide (k = 4 ∨ k = 5 ∨ k = 28)
def hOffset (k : Int) : Bool:=decide (k = 4 ∨ k = 8)
def hN (k : Int) : Bool:=decide (k = 16 ∨ k = 17 ∨ k = 18 ∨ k = 2)
def hSpans (k : Int) : Bool:=decide (k = 2)
def hData (k : Int) : Bool:=decide (k = 8 ∨ k = 28)
def hFin (k : Int) : Bool:=decide (k = 8)
def knownK (k : Int) : Prop:=k = 4 ∨ k = 5 ∨ k = 8 ∨ k = 17 ∨ k = 16 ∨ k = 18 ∨ k = 2 ∨ k = 28 ∨ k = 0 ∨ k = 1 ∨ k = 30
instance (k : Int) : Decidable (knownK k):=by unfold knownK;infer_instance
def partsV (k : Int) : Value:=.agg #[.bool (hStream k),.bool (hCode k),.bool (hOffset k),.bool (hN k),.bool (hSpans k),.bool (hData k),.bool (hFin k)]
theorem partsOf_any (k : Int) (w : World) :
  Calls Tryz.prog 159 #[.int .i64 k] w fun e w' => e = .returned (.tuple #[partsV k,.bool (decide (knownK k))]) ∧ Below w.heap.size w w':=by
 by_cases hk : knownK k
 ·unfold knownK at hk
  rcases hk with rfl | rfl | rfl | rfl | rfl | rfl | rfl | rfl | rfl | rfl | rfl
  all_goals
   go_enter Tryz.func159,Tryz.ntmps159
   go_wp2
   refine bodyPost_ret (v:=.tuple #[partsV _,.bool true]) (by simp [results,Tryz.results159,go_sem,partsV,hStream,hCode,hOffset,hN,hSpans,hData,hFin];try rfl) rfl ⟨rfl,?_⟩
   go_grown
 ·have hf : decide (knownK k) = false:=qdf hk
  rw [hf]
  have hp : partsV k = .agg #[.bool false,.bool false,.bool false,.bool false,.bool false,.bool false,.bool false]:=by
   unfold knownK at hk
   simp only [partsV,hStream,hCode,hOffset,hN,hSpans,hData,hFin]
   simp only [Value.agg.injEq,Array.mk.injEq,List.cons.injEq,Value.bool.injEq,decide_eq_false_iff_not,and_true]
   omega
  rw [hp]
  unfold knownK at hk
  have e4 : (k == 4) = false:=by simp;omega
  have e5 : (k == 5) = false:=by simp;omega
  have e8 : (k == 8) = false:=by simp;omega
  have e17 : (k == 17) = false:=by simp;omega
  have e16 : (k == 16) = false:=by simp;omega
  have e18 : (k == 18) = false:=by simp;omega
  have e2 : (k == 2) = false:=by simp;omega
  have e28 : (k == 28) = false:=by simp;omega
  have e0 : (k == 0) = false:=by simp;omega
  have e1 : (k == 1) = false:=by simp;omega
  have e30 : (k == 30) = false:=by simp;omega
  clear hk hf hp
  go_enter Tryz.func159,Tryz.ntmps159
  go_wp2
  refine bodyPost_ret (v:=.tuple #[.agg #[.bool false,.bool false,.bool false,.bool false,.bool false,.bool false,.bool false],.bool false]) (by simp [results,Tryz.results159,go_sem]) rfl ⟨rfl,?_⟩
  go_grown
theorem bytes_all (p : Int → Prop) [DecidablePred p] (h : ∀ c : Fin 256,p ((c.val : Nat) : Int)) (c : Int) (h0 : 0 ≤ c) (h1 : c < 256) : p c:=by
 have:=h ⟨c.toNat,by omega⟩
 rwa [show (((⟨c.toNat,by omega⟩ : Fin 256).val : Nat) : Int) = c by simp;omega] at this
theorem andNot7 (c : Int) (h0 : 0 ≤ c) (h1 : c < 256) : bits .andNot .i64 c 7 = c - c % 8 :=
 bytes_all (fun c => bits .andNot .i64 c 7 = c - c % 8) (by decide +kernel) c h0 h1
theorem and7 (c : Int) (h0 : 0 ≤ c) (h1 : c < 256) : bits .and .i64 c 7 = c % 8 :=
 bytes_all (fun c => bits .and .i64 c 7 = c % 8) (by decide +kernel) c h0 h1
def isStream (c : Int) : Prop:=8 ≤ c ∧ c ≤ 15
instance (c : Int) : Decidable (isStream c):=by unfold isStream;infer_instance
def kindR (xs : List Int) (i : Nat) : Except (Int × Int) ((Int × Int) × Nat) :=
 if isStream (xs.getD i 0) then .ok ((8,xs.getD i 0 - 8),i + 1) else if knownK (xs.getD i 0) then .ok ((xs.getD i 0,7),i + 1) else .error (5,i)
def kindV (x : Int × Int) (_ : World) (u : Value) : Prop:=u = .tuple #[.int .i64 x.1,.int .i64 x.2]
theorem kind_any (p b o n cp : Nat) (xs : List Int) (a : Nat) (w : World) (hA : At w p (.slice (some ⟨b,o,none⟩) n cp) a) (hr : Rd .u8 w (.slice (some ⟨b,o,none⟩) n cp) xs) (hn : n = xs.length) (hx : Bts xs) (ha : a < n) (hbig : n ≤ 1048576) :
  Calls Tryz.prog 158 #[.pointer (some ⟨p,0,none⟩)] w (StepIs kindV w p (.slice (some ⟨b,o,none⟩) n cp) (kindR xs a)):=by
 have c0:=hA.c0
 have c1:=hA.c1
 have f1:=hA.fz 1
 have hlt:=hA.lt
 have HA:=qhi hA
 obtain ⟨c,hcc⟩ : ∃ c,c = xs.getD a 0:=⟨_,rfl⟩
 have hcell : w.cell? ⟨b,o + a,none⟩ = some (.int .u8 c):=by
  rcases hr with ⟨h0,_⟩ | ⟨h0,b',o',c',q,h2,h3,h4,h5⟩
  ·rw [h0] at hn;simp at hn;omega
  ·simp only [Value.slice.injEq,Option.some.injEq,Addr.mk.injEq,and_true] at q
   obtain ⟨⟨rfl,rfl⟩,q1,rfl⟩:=q
   rw [h5 a (by omega),hcc]
 have hcb : 0 ≤ c ∧ c < 256:=by rw [hcc];exact getD_bts hx a
 obtain ⟨hc0,hc1⟩:=hcb
 have hi : (a : Int) < (n : Int):=by omega
 have hw2 : IntKind.i64.wrap ((a : Int) + 1) = (a : Int) + 1:=wraps_i64'1 _ (by omega) (by omega)
 have hw3 : IntKind.i64.wrap c = c:=wraps_i64'1 _ (by omega) (by omega)
 have hd0 : w.drew.cell? ⟨b,o + a,none⟩ = some (.int .u8 c):=hcell
 have hd1 : w.drew.cell? ⟨p,0,none⟩ = some (.slice (some ⟨b,o,none⟩) n cp):=c0
 have hd2 : w.drew.cell? ⟨p,1,none⟩ = some (.int .i64 a):=c1
 have hand:=and7 c hc0 hc1
 have hnot:=andNot7 c hc0 hc1
 have HP0 : ∀ k q,decide (knownK k) = q → ∃ p1 p2 p3 p4 p5 p6 p7 : Bool,∀ V : World,Calls Tryz.prog 159 #[.int .i64 k] V fun e w' => e = .returned (.tuple #[.agg #[.bool p1,.bool p2,.bool p3,.bool p4,.bool p5,.bool p6,.bool p7],.bool q]) ∧ Below V.heap.size V w' :=
  fun k q hq => ⟨_,_,_,_,_,_,_,fun V => by have:=partsOf_any k V;rw [hq] at this;exact this⟩
 have HN:=qhi hn
 by_cases hs : isStream c
 ·have HM : Hid (kindR xs a = .ok ((8,c - 8),a + 1)):=by show _ = _;unfold kindR;rw [← hcc];exact if_pos hs
  obtain ⟨p1,p2,p3,p4,p5,p6,p7,hP⟩:=HP0 8 true (by decide)
  have HP:=qhi hP
  unfold isStream at hs
  have e1 : (c - c % 8 == 8) = true:=by simp;omega
  have e2 : c % 8 = c - 8:=by omega
  rw [e2] at hand e1 hnot
  clear hA hr hcc hP HP0 hn
  go_enter Tryz.func158,Tryz.ntmps158
  go_wp2_with fail
  go_quiet (fail)
  go_wp2_with fail
  refine (HP.out _).mono ?_
  rintro e w1 ⟨rfl,b1⟩
  have A1 : At w1 p (.slice (some ⟨b,o,none⟩) n cp) a:=(HA.out.drewN _).kept b1
  have B1 : w.grownBy w1 (some p):=grownBy_trans (grownBy_drewN (World.grownBy.refl _ _) nq) (grownBy_of_below b1)
  have c1':=A1.c1
  have f1':=A1.fz 1
  have hlt':=A1.lt
  go_wp2_with fail
  go_ret2
  rw [HM.out]
  exact ⟨grownBy_alloc' (grownBy_set B1 _ _ (.inl rfl)) _,⟨_,rfl,rfl⟩,(A1.set' rfl).alloc _⟩
 have hne : ¬ (c - c % 8 = 8):=by unfold isStream at hs;omega
 have e1 : (c - c % 8 == 8) = false:=by simp;omega
 by_cases hk : knownK c
 ·have HM : Hid (kindR xs a = .ok ((c,7),a + 1)):=by show _ = _;unfold kindR;rw [← hcc,if_neg hs];exact if_pos hk
  obtain ⟨p1,p2,p3,p4,p5,p6,p7,hP⟩:=HP0 c true (qdt hk)
  have HP:=qhi hP
  clear hA hr hcc hP HP0 hs hk hn hne
  go_enter Tryz.func158,Tryz.ntmps158
  go_wp2_with fail
  go_quiet (fail)
  go_wp2_with fail
  refine (HP.out _).mono ?_
  rintro e w1 ⟨rfl,b1⟩
  have A1 : At w1 p (.slice (some ⟨b,o,none⟩) n cp) a:=(HA.out.drewN _).kept b1
  have B1 : w.grownBy w1 (some p):=grownBy_trans (grownBy_drewN (World.grownBy.refl _ _) nq) (grownBy_of_below b1)
  have c1':=A1.c1
  have f1':=A1.fz 1
  have hlt':=A1.lt
  go_wp2_with fail
  go_ret2
  rw [HM.out]
  exact ⟨grownBy_alloc' (grownBy_set B1 _ _ (.inl rfl)) _,⟨_,rfl,rfl⟩,(A1.set' rfl).alloc _⟩
 ·have HM : Hid (kindR xs a = .error (5,a)):=by show _ = _;unfold kindR;rw [← hcc,if_neg hs];exact if_neg hk
  obtain ⟨p1,p2,p3,p4,p5,p6,p7,hP⟩:=HP0 c false (qdf hk)
  have HP:=qhi hP
  clear hA hr hcc hP HP0 hs hk hn hne
  go_enter Tryz.func158,Tryz.ntmps158
  go_wp2_with fail
  go_quiet (fail)
  go_wp2_with fail
  refine (HP.out _).mono ?_
  rintro e w1 ⟨rfl,b1⟩
  have A1 : At w1 p (.slice (some ⟨b,o,none⟩) n cp) a:=(HA.out.drewN _).kept b1
  have B1 : w.grownBy w1 (some p):=grownBy_trans (grownBy_drewN (World.grownBy.refl _ _) nq) (grownBy_of_below b1)
  have c1':=A1.c1
  have f1':=A1.fz 1
  have hlt':=A1.lt
  go_wp2_with (go_at_call 120;refine (breakOff_any _ _ _ _).mono ?_;rintro e w' ⟨rfl,rfl⟩)
  refine ⟨rfl,?_⟩
  rw [HM.out]
  exact ⟨grownBy_alloc' B1 _,rfl⟩
theorem elemSpan : ElemC Tryz.prog 151 2 16 (.agg #[.int .i64 0,.int .i64 0]):=⟨info_parts (by kernel_rfl),rfl,by decide⟩
theorem Tab.kept {w w' : World} {p : Nat} (h : Tab w) (hg : w.grownBy w' (some p)) (hp : 0 < p) : Tab w':=by
 obtain ⟨c0,c1,c2,c3⟩:=h
 have hne : ∀ o,some (⟨0,o,none⟩ : Addr).block ≠ some p:=fun o e => by simp only [Option.some.injEq] at e;omega
 exact ⟨hg.cell c0 (hne 0),hg.cell c1 (hne 1),hg.cell c2 (hne 2),hg.cell c3 (hne 3)⟩
def moreR (xs : List Int) : Nat → Int → Nat → List (Int × Int) → Except (Int × Int) (List (Int × Int) × Nat)
 | 0,_,i,l => .ok (l,i)
 | k + 1,low,i,l => match atMostR xs i (low - 2) 5 with
   | .error e => .error e
   | .ok (g,j) => match spanR xs j (low - 2 - g) with
     | .error e => .error e
     | .ok (s,j') => moreR xs k s.1 j' (s :: l)
def spansR (xs : List Int) (i : Nat) (greatest : Int) : Except (Int × Int) (List (Int × Int) × Nat):=match atMostR xs i 31 6 with
 | .error e => .error e
 | .ok (last,j) => match spanR xs j greatest with
   | .error e => .error e
   | .ok (s,j') => moreR xs last.toNat s.1 j' [s]
def spansV (B : Nat) (l : List (Int × Int)) (w : World) (u : Value) : Prop:=OwnS w B u l
theorem span_ok {xs : List Int} (hx : Bts xs) {i j : Nat} {tp : Int} {s : Int × Int} (h : spanR xs i tp = .ok (s,j)) : 0 ≤ s.1 ∧ s.1 ≤ tp ∧ s.2 = tp ∧ i < j ∧ j ≤ xs.length:=by
 unfold spanR at h
 split at h
 ·rename_i n j' hn
  obtain ⟨h1,h2,h3,h4,h5⟩:=atMost_ok hx hn
  cases h
  refine ⟨?_,?_,rfl,h4,h5⟩
  ·show 0 ≤ tp - n;omega
  ·show tp - n ≤ tp;omega
 ·cases h
structure Rounds (xs : List Int) (p : Nat) (v : Value) (w W : World) (g n : Nat) (tot : Except (Int × Int) (List (Int × Int) × Nat)) (k : Nat) (low : Int) (j : Nat) (l : List (Int × Int)) : Prop where
 is : moreR xs k low j l = tot
 lo : 0 ≤ low
 hi : low ≤ 4611686018427387903
 pl : j ≤ xs.length
 len : l.length + k = n
 hd : ∃ s r,l = s :: r ∧ s.1 = low
 at_ : At W p v j
 own : OwnS W w.heap.size (.slice (some ⟨g,0,none⟩) n n) (List.replicate k (0,0) ++ l)
 gr : w.grownBy W (some p)
theorem spans_any (p : Nat) (v : Value) (xs : List Int) (a : Nat) (tp : Int) (w : World) (ht : Tab w) (hA : At w p v a) (hr : Rd .u8 w v xs) (hx : Bts xs) (ha : a ≤ xs.length) (h0 : 0 ≤ tp) (htp : tp ≤ 4611686018427387903) (hfree : ∀ j,v.ownBlock = some j → some p ≠ some j) (hp0 : 0 < p) :
  Calls Tryz.prog 161 #[.pointer (some ⟨p,0,none⟩),.int .i64 tp] w (StepIs (spansV w.heap.size) w p v (spansR xs a tp)):=by
 have hlt:=hA.lt
 have HA:=qhi hA
 have HT:=qhi ht
 have HR:=qhi hr
 have HX:=qhi hx
 have HF:=qhi hfree
 have HN:=qhi (atMost_any p v xs a 31 6 w ht hA hr hx ha)
 clear hA hr ht hfree
 cases hn : atMostR xs a 31 6 with
 | error e =>
   obtain ⟨y,z⟩:=e
   have HM : Hid (spansR xs a tp = .error (y,z)):=by show _ = _;unfold spansR;rw [hn]
   have HE : Hid (atMostR xs a 31 6 = .error (y,z)):=hn
   clear hn
   go_enter Tryz.func161,Tryz.ntmps161
   go_wp2_with (go_at_call 204;refine HN.out.mono ?_;rintro e w1 h1;obtain ⟨g1,rfl⟩:=h1.err HE.out)
   refine ⟨rfl,?_⟩
   rw [HM.out]
   exact ⟨g1,rfl⟩
 | ok y =>
   obtain ⟨last,j⟩:=y
   have HE : Hid (atMostR xs a 31 6 = .ok (last,j)):=hn
   obtain ⟨b0,b1,b2,b3,b4⟩:=atMost_ok hx hn
   obtain ⟨k,rfl⟩:=Int.eq_ofNat_of_zero_le b0
   have hw1 : IntKind.i64.wrap ((k : Int) + 1) = (k : Int) + 1:=wraps_i64'1 _ (by omega) (by omega)
   have hw2 : IntKind.i64.wrap ((k : Int) - 1) = (k : Int) - 1:=by rw [IntKind.wrap_i64];omega
   have HK : Hid (k ≤ 31):=by show _ ≤ _;omega
   clear hn b0 b1 b2
   go_enter Tryz.func161,Tryz.ntmps161
   go_wp2_with (first
    | (go_at_call 204;refine HN.out.mono ?_;rintro e w1 h1;obtain ⟨g1,⟨u,rfl,rfl⟩,A1⟩:=h1.ok HE.out)
    | (at_make;refine wpList_make_full _ rfl _ _ 63 rfl w.heap.size 151 _ _ 2 Tryz.underlying63 elemSpan.info.choose_spec.1 elemSpan.info.choose_spec.2.1 elemSpan.info.choose_spec.2.2.1 .i64 .i64 _ _ (k + 1) rfl rfl (by simp) (by simp) (by rw [elemSpan.info.choose_spec.2.2.2];have:=HK.out;omega) (by have:=HK.out;unfold maxLen;omega) g1.size ?_;intro w2 o2 g2))
   have G2 : w.grownBy w2 (some p):=grownBy_trans g1 (grownBy_none g2)
   have A2 : At w2 p v j:=⟨(g2.block p A1.lt (by simp)).trans A1.is⟩
   have O2 : OwnS w2 w.heap.size (.slice (some ⟨w1.heap.size,0,none⟩) (k + 1) (k + 1)) (List.replicate (k + 1) (0,0)):=by
    unfold OwnS
    rw [List.length_replicate,spC_zero,← madeCells_zero]
    exact o2
   have z12 : w.heap.size ≤ w1.heap.size:=g1.size
   have hpg : p ≠ w1.heap.size:=by omega
   have T2 : Tab w2:=HT.out.kept G2 hp0
   have R2 : Rd .u8 w2 v xs:=HR.out.kept G2 HF.out
   have S2:=qhi (span_any p v xs j tp w2 T2 A2 R2 HX.out b4 (by omega) htp)
   cases hs : spanR xs j tp with
   | error e =>
     obtain ⟨y,z⟩:=e
     have HE2 : Hid (spanR xs j tp = .error (y,z)):=hs
     have HM : Hid (spansR xs a tp = .error (y,z)):=by show _ = _;unfold spansR;rw [HE.out];show (match spanR xs j tp with | .error e => _ | .ok (s,j') => _) = _;rw [hs]
     clear hs o2 g2 A2 O2 T2 R2
     go_wp2_with (go_at_call 205;refine S2.out.mono ?_;rintro e w3 h3;obtain ⟨g3,rfl⟩:=h3.err HE2.out)
     refine ⟨rfl,?_⟩
     rw [HM.out]
     exact ⟨grownBy_trans G2 g3,rfl⟩
   | ok y =>
     obtain ⟨⟨lo,hi⟩,j'⟩:=y
     obtain ⟨s1,s2,s3,s4,s5⟩:=span_ok HX.out hs
     simp only at s1 s2 s3
     subst s3
     have HE2 : Hid (spanR xs j hi = .ok ((lo,hi),j')):=hs
     have HM : Hid (moreR xs k lo j' [(lo,hi)] = spansR xs a hi):=by show _ = _;unfold spansR;rw [HE.out];show _ = (match spanR xs j hi with | .error e => _ | .ok (s,j') => _);rw [hs];rfl
     have hi1 : (k : Int) < (k : Int) + 1:=by omega
     have hi2 : (k : Int) < ((k + 1 : Nat) : Int):=by omega
     clear hs o2 g2 A2 T2 R2
     go_wp2_with (go_at_call 205;refine S2.out.mono ?_;rintro e w3 h3;obtain ⟨g3,⟨u,rfl,rfl⟩,A3⟩:=h3.ok HE2.out;have O3:=O2.kept g3 (fun jj hj => by simp only [Value.ownBlock,Option.some.injEq] at hj;subst hj;exact fun e => hpg (by cases e;rfl));have q0:=O3.at0 k (by simp);have q1:=O3.at1 k (by simp);have qf:=O3.fz)
     have G3 : w.grownBy w3 (some p):=grownBy_trans G2 g3
     have ST : Hid (Rounds xs p v w ((w3.setCell ⟨w1.heap.size,k * 2,none⟩ (.int .i64 lo)).setCell ⟨w1.heap.size,k * 2 + 1,none⟩ (.int .i64 hi)) w1.heap.size (k + 1) (spansR xs a hi) k lo j' [(lo,hi)]) :=
      ⟨HM.out,s1,by omega,s5,by simp;omega,⟨_,[],rfl,rfl⟩,(A3.other (q:=⟨w1.heap.size,k * 2,none⟩) hpg _).other (q:=⟨w1.heap.size,k * 2 + 1,none⟩) hpg _,by
       have:=O3.set k lo hi
       rw [show List.replicate (k + 1) ((0,0) : Int × Int) = List.replicate (k + 1) (0,0) ++ [] by simp,zero_set] at this
       exact this,grownBy_set (grownBy_set G3 _ _ (.inr z12)) _ _ (.inr z12)⟩
     generalize ((w3.setCell ⟨w1.heap.size,k * 2,none⟩ (.int .i64 lo)).setCell ⟨w1.heap.size,k * 2 + 1,none⟩ (.int .i64 hi)) = w4 at ST ⊢
     clear A3 O3 q0 q1 qf g3 G3 O2
     go_loopw [7] (fun i wr => ∃ (r : Nat) (low : Int) (jj : Nat) (l : List (Int × Int)),i = .int .i64 ((r : Int) - 1) ∧ Rounds xs p v w wr w1.heap.size (k + 1) (spansR xs a hi) r low jj l) (fun i _ => (intOf i + 1).toNat)
     case atStart => exact ⟨k,lo,j',[(lo,hi)],rfl,ST.out⟩
     case round =>
      obtain ⟨r,low,jj,l,rfl,RD⟩:=hrel
      have RH:=qhi RD
      clear RD
      cases r with
      | zero =>
        go_wp2
        go_ret
        rw [← RH.out.is]
        exact ⟨RH.out.gr,⟨_,rfl,by have:=RH.out.own;have e:=RH.out.len;simp only [Nat.add_zero] at e;unfold spansV;rw [List.replicate_zero,List.nil_append] at this;exact this⟩,RH.out.at_⟩
      | succ r =>
        obtain ⟨s0,l0,hl,hs0⟩:=RH.out.hd
        have q2 : wr.cell? ⟨w1.heap.size,(r + 1) * 2,none⟩ = some (.int .i64 low):=by
         have hh:=RH.out.own.at0 (r + 1) (by rw [hl];simp)
         rw [hh,hl]
         simp [List.getD,hs0]
        have hrk : r + 1 < k + 1:=by have:=RH.out.len;rw [hl] at this;simp at this;omega
        have hlo:=RH.out.lo
        have hhi:=RH.out.hi
        have hk31:=HK.out
        have e0 : (((r + 1 : Nat) : Int) - 1) = (r : Int):=by omega
        rw [e0]
        have hw4 : IntKind.i64.wrap ((r : Int) + 1) = (r : Int) + 1:=wraps_i64'1 _ (by omega) (by omega)
        have hw5 : IntKind.i64.wrap (low - 2) = low - 2:=by rw [IntKind.wrap_i64];omega
        have hi3 : (r : Int) + 1 < (k : Int) + 1:=by omega
        have hi4 : (r : Int) < (k : Int) + 1:=by omega
        have hi5 : (0 : Int) ≤ (r : Int) + 1:=by omega
        have hi6 : (0 : Int) ≤ (r : Int):=by omega
        have TW : Tab wr:=HT.out.kept RH.out.gr hp0
        have RW : Rd .u8 wr v xs:=HR.out.kept RH.out.gr HF.out
        have M1:=qhi (atMost_any p v xs jj (low - 2) 5 wr TW RH.out.at_ RW HX.out RH.out.pl)
        clear TW RW
        cases hm : atMostR xs jj (low - 2) 5 with
        | error e =>
          obtain ⟨y,z⟩:=e
          have HE3 : Hid (atMostR xs jj (low - 2) 5 = .error (y,z)):=hm
          have HM3 : Hid (spansR xs a hi = .error (y,z)):=by show _ = _;rw [← RH.out.is];unfold moreR;rw [hm]
          clear hm hl hs0
          go_wp2_with (go_at_call 204;refine M1.out.mono ?_;rintro e w5 h5;obtain ⟨g5,rfl⟩:=h5.err HE3.out)
          refine ⟨rfl,?_⟩
          rw [HM3.out]
          exact ⟨grownBy_trans RH.out.gr g5,rfl⟩
        | ok y =>
          obtain ⟨gap,j2⟩:=y
          have HE3 : Hid (atMostR xs jj (low - 2) 5 = .ok (gap,j2)):=hm
          obtain ⟨a0,a1,a2,a3,a4⟩:=atMost_ok HX.out hm
          have hw6 : IntKind.i64.wrap (low - 2 - gap) = low - 2 - gap:=by rw [IntKind.wrap_i64];omega
          cases hsp : spanR xs j2 (low - 2 - gap) with
          | error e =>
            obtain ⟨y,z⟩:=e
            have HE4 : Hid (spanR xs j2 (low - 2 - gap) = .error (y,z)):=hsp
            have HM3 : Hid (spansR xs a hi = .error (y,z)):=by show _ = _;rw [← RH.out.is];unfold moreR;rw [hm];show (match spanR xs j2 (low - 2 - gap) with | .error e => _ | .ok (s,j') => _) = _;rw [hsp]
            clear hm hl hs0 hsp
            go_wp2_with (first
             | (go_at_call 204;refine M1.out.mono ?_;rintro e w5 h5;obtain ⟨g5,⟨u,rfl,rfl⟩,A5⟩:=h5.ok HE3.out;have G5:=grownBy_trans RH.out.gr g5;have T5:=HT.out.kept G5 hp0;have R5:=HR.out.kept G5 HF.out)
             | (go_at_call 205;refine (span_any p v xs j2 _ _ T5 A5 R5 HX.out a4 (by omega) (by omega)).mono ?_;rintro e w6 h6;obtain ⟨g6,rfl⟩:=h6.err HE4.out))
            refine ⟨rfl,?_⟩
            rw [HM3.out]
            exact ⟨grownBy_trans G5 g6,rfl⟩
          | ok y =>
            obtain ⟨⟨lo6,hi6'⟩,j6⟩:=y
            obtain ⟨s1,s2,s3,s4,s5⟩:=span_ok HX.out hsp
            simp only at s1 s2 s3
            subst s3
            have HE4 : Hid (spanR xs j2 (low - 2 - gap) = .ok ((lo6,low - 2 - gap),j6)):=hsp
            have HM3 : Hid (moreR xs r lo6 j6 ((lo6,low - 2 - gap) :: l) = spansR xs a hi):=by
             show _ = _
             rw [← RH.out.is,moreR,hm]
             show _ = (match spanR xs j2 (low - 2 - gap) with | .error e => _ | .ok (s,j') => _)
             rw [hsp]
            have hrl : r < (List.replicate (r + 1) ((0,0) : Int × Int) ++ l).length:=by simp;omega
            clear hm hl hs0 hsp
            go_wp2_with (first
             | (go_at_call 204;refine M1.out.mono ?_;rintro e w5 h5;obtain ⟨g5,⟨u,rfl,rfl⟩,A5⟩:=h5.ok HE3.out;have G5:=grownBy_trans RH.out.gr g5;have T5:=HT.out.kept G5 hp0;have R5:=HR.out.kept G5 HF.out;have O5:=RH.out.own.kept g5 (fun jj hj => by simp only [Value.ownBlock,Option.some.injEq] at hj;subst hj;exact fun e => hpg (by cases e;rfl)))
             | (go_at_call 205;refine (span_any p v xs j2 _ _ T5 A5 R5 HX.out a4 (by omega) (by omega)).mono ?_;rintro e w6 h6;obtain ⟨g6,⟨u,rfl,rfl⟩,A6⟩:=h6.ok HE4.out;have O6:=O5.kept g6 (fun jj hj => by simp only [Value.ownBlock,Option.some.injEq] at hj;subst hj;exact fun e => hpg (by cases e;rfl));have q0:=O6.at0 r hrl;have q1:=O6.at1 r hrl;have qf:=O6.fz))
            refine ⟨⟨r,lo6,j6,(lo6,low - 2 - gap) :: l,rfl,⟨HM3.out,s1,by omega,s5,by have:=RH.out.len;simp only [List.length_cons];omega,⟨_,l,rfl,rfl⟩,(A6.other (q:=⟨w1.heap.size,r * 2,none⟩) hpg _).other (q:=⟨w1.heap.size,r * 2 + 1,none⟩) hpg _,?_,grownBy_set (grownBy_set (grownBy_trans G5 g6) _ _ (.inr z12)) _ _ (.inr z12)⟩⟩,by simp [intOf]⟩
            have:=O6.set r lo6 (low - 2 - gap)
            rw [zero_set] at this
            exact this
end Go.Proofs.YtmcomdmcmnbhlaaGreatDoor
namespace Go.Proofs.YtmcomdmcmnbhlaaGreatDoor
open Go.RowKit
structure Fr where
 kind : Int
 stream : Int
 offset : Int
 n : Int
 code : Int
 fin : Bool
 data : List Int
 spans : List (Int × Int)
def thn {α β : Type} (r : Except (Int × Int) (α × Nat)) (k : α → Nat → Except (Int × Int) (β × Nat)) : Except (Int × Int) (β × Nat):=match r with
 | .ok (x,j) => k x j
 | .error e => .error e
theorem thn_ok {α β : Type} {r : Except (Int × Int) (α × Nat)} {k : α → Nat → Except (Int × Int) (β × Nat)} {x : α} {j : Nat} (h : r = .ok (x,j)) : thn r k = k x j:=by subst h;rfl
theorem thn_err {α β : Type} {r : Except (Int × Int) (α × Nat)} {k : α → Nat → Except (Int × Int) (β × Nat)} {e : Int × Int} (h : r = .error e) : thn r k = .error e:=by subst h;rfl
def bareFr (k : Int) : Fr:=⟨k,0,0,0,0,false,[],[]⟩
def tailR (xs : List Int) (i : Nat) (off : Int) (count : Int) (j : Nat) : Except (Int × Int) (List Int × Nat):=if 4611686018427387903 - off < count then .error (7,i) else dataR xs j count
def countR (xs : List Int) (bt : Int) (j : Nat) : Except (Int × Int) (Int × Nat):=if bt / 2 % 2 = 0 then .ok ((xs.length : Int) - j,j) else num xs j
def offR (xs : List Int) (bt : Int) (j : Nat) : Except (Int × Int) (Int × Nat):=if bt / 4 % 2 = 0 then .ok (0,j) else num xs j
def restR (xs : List Int) (i : Nat) (k bt : Int) (j : Nat) : Except (Int × Int) (Fr × Nat) :=
 if k = 2 then thn (num xs j) fun great j => thn (num xs j) fun n j => thn (spansR xs j great) fun l j => .ok (⟨2,0,0,n,0,false,[],l⟩,j)
 else if k = 4 then thn (num xs j) fun s j => thn (num xs j) fun c j => thn (num xs j) fun o j => .ok (⟨4,s,o,0,c,false,[],[]⟩,j)
 else if k = 5 then thn (num xs j) fun s j => thn (num xs j) fun c j => .ok (⟨5,s,0,0,c,false,[],[]⟩,j)
 else if k = 8 then thn (num xs j) fun s j => thn (offR xs bt j) fun o j => thn (countR xs bt j) fun c j => thn (tailR xs i o c j) fun d j => .ok (⟨8,s,o,0,0,(bt % 2 != 0),d,[]⟩,j)
 else if k = 16 ∨ k = 18 then thn (num xs j) fun n j => .ok (⟨k,0,0,n,0,false,[],[]⟩,j)
 else if k = 17 then thn (num xs j) fun s j => thn (num xs j) fun n j => .ok (⟨17,s,0,n,0,false,[],[]⟩,j)
 else if k = 28 then thn (num xs j) fun c j => thn (num xs j) fun m j => thn (dataR xs j m) fun d j => .ok (⟨28,0,0,0,c,false,d,[]⟩,j)
 else .ok (bareFr k,j)
def frameR (xs : List Int) (i : Nat) : Except (Int × Int) (Fr × Nat):=match kindR xs i with
 | .ok ((k,bt),j) => restR xs i k bt j
 | .error e => .error e
def frV (B : Nat) (f : Fr) (w : World) (u : Value) : Prop:=∃ dv sv,u = .agg #[.int .i64 f.kind,.int .i64 f.stream,.int .i64 f.offset,.int .i64 f.n,.int .i64 f.code,.bool f.fin,dv,sv] ∧ Own .u8 5 w B dv f.data ∧ OwnS w B sv f.spans
structure FS (w0 W : World) (p : Nat) (v : Value) (xs : List Int) (R P F : Nat) (ps cs : Array Value) (j : Nat) : Prop where
 at_ : At W p v j
 gr : w0.grownBy W (some p)
 tab : Tab W
 rd : Rd .u8 W v xs
 res : W.heap[R]? = some (.cells #[.int .i64 0,.int .i64 0,.int .i64 0,.int .i64 0,.int .i64 0,.bool false,.slice none 0 0,.slice none 0 0] 102 (0,0))
 par : W.heap[P]? = some (.cells ps 227 (0,0))
 frm : W.heap[F]? = some (.cells cs 102 (0,0))
 pR : p < R
 RP : R < P
 PF : P < F
 hR : w0.heap.size ≤ R
 p0 : 0 < p
 free : ∀ j,v.ownBlock = some j → some p ≠ some j
 old : ∀ j,v.ownBlock = some j → j < w0.heap.size
section
variable {w0 W W' : World} {p : Nat} {v : Value} {xs : List Int} {R P F : Nat} {ps cs : Array Value} {j j' : Nat}
theorem FS.step (h : FS w0 W p v xs R P F ps cs j) (hg : W.grownBy W' (some p)) (hA : At W' p v j') : FS w0 W' p v xs R P F ps cs j':=by
 have a:=h.pR;have b:=h.RP;have c:=h.PF
 exact ⟨hA,grownBy_trans h.gr hg,h.tab.kept hg h.p0,h.rd.kept hg h.free,block_kept h.res hg (by simp;omega),block_kept h.par hg (by simp;omega),block_kept h.frm hg (by simp;omega),h.pR,h.RP,h.PF,h.hR,h.p0,h.free,h.old⟩
theorem FS.put (h : FS w0 W p v xs R P F ps cs j) (i : Nat) (x : Value) : FS w0 (W.setCell ⟨F,i,none⟩ x) p v xs R P F ps (cs.setIfInBounds i x) j:=by
 have a:=h.pR;have b:=h.RP;have c:=h.PF;have d:=h.hR
 have hg : W.grownBy (W.setCell ⟨F,i,none⟩ x) (some F):=grownBy_set (World.grownBy.refl _ _) _ _ (.inl rfl)
 refine ⟨h.at_.other (q:=⟨F,i,none⟩) (by show p ≠ F;omega) _,grownBy_set h.gr _ _ (.inr (by show w0.heap.size ≤ F;omega)),h.tab.kept hg (by omega),h.rd.kept hg (fun j hj => ?_),block_kept h.res hg (by simp;omega),block_kept h.par hg (by simp;omega),Joins.block_setCell h.frm x,h.pR,h.RP,h.PF,h.hR,h.p0,h.free,h.old⟩
 have:=h.old j hj
 simp;omega
theorem FS.start {Z : World} (hA : At Z p v j) (hg : w0.grownBy Z (some p)) (ht : Tab Z) (hr : Rd .u8 Z v xs) (hres : Z.heap[R]? = some (.cells #[.int .i64 0,.int .i64 0,.int .i64 0,.int .i64 0,.int .i64 0,.bool false,.slice none 0 0,.slice none 0 0] 102 (0,0)))
  (hpR : p < R) (hR : w0.heap.size ≤ R) (hp : 0 < p) (hfree : ∀ j,v.ownBlock = some j → some p ≠ some j) (hold : ∀ j,v.ownBlock = some j → j < w0.heap.size) :
  FS w0 ((Z.alloc (.cells ps 227)).alloc (.cells cs 102)) p v xs R Z.heap.size (Z.heap.size + 1) ps cs j:=by
 have hb : Below Z.heap.size Z ((Z.alloc (.cells ps 227)).alloc (.cells cs 102)):=((qbr _ _).alloc (qlr _) _).alloc (by simp) _
 have hRl : R < Z.heap.size:=(qgs hres).1
 refine ⟨hA.kept hb,grownBy_trans hg (grownBy_of_below hb),ht.below hb ht.pos,hr.below hb,(hb.block R hRl).trans hres,?_,?_,hpR,hRl,by omega,hR,hp,hfree,hold⟩
 ·exact (Below.heap_alloc _ _ _ (by simp)).trans (alloc_at4 _ _)
 ·have:=alloc_at4 (Z.alloc (.cells ps 227)) (.cells cs 102)
  simp only [World.size_alloc] at this
  exact this
theorem set8 (W : World) (R : Nat) (x0 x1 x2 x3 x4 x5 x6 x7 : Value) :
  W.grownBy ((((((((W.setCell ⟨R,0,none⟩ x0).setCell ⟨R,1,none⟩ x1).setCell ⟨R,2,none⟩ x2).setCell ⟨R,3,none⟩ x3).setCell ⟨R,4,none⟩ x4).setCell ⟨R,5,none⟩ x5).setCell ⟨R,6,none⟩ x6).setCell ⟨R,7,none⟩ x7) (some R):=by
 repeat (refine grownBy_set ?_ _ _ (.inl rfl))
 exact World.grownBy.refl _ _
theorem At.keptG {w w' : World} {p : Nat} {v : Value} {a : Int} {row : Option Nat} (h : At w p v a) (hg : w.grownBy w' row) (hne : row ≠ some p) : At w' p v a:=⟨block_kept h.is hg hne⟩
theorem grownBy_trans_new {a b c : World} {row : Option Nat} {g : Nat} (h : a.grownBy b row) (k : b.grownBy c (some g)) (hg : a.heap.size ≤ g) : a.grownBy c row :=
 ⟨k.os.trans h.os,k.tape.trans h.tape,k.output.trans h.output,Nat.le_trans h.size k.size,fun j hj hne => (k.block j (Nat.lt_of_lt_of_le hj h.size) (fun e => by cases e;omega)).trans (h.block j hj hne)⟩
theorem FS.done (h : FS w0 W p v xs R P F ps cs j) (hg : W.grownBy W' (some R)) : w0.grownBy W' (some p) ∧ At W' p v j :=
 ⟨grownBy_trans_new h.gr hg h.hR,h.at_.keptG hg (by have:=h.pR;simp;omega)⟩
end
end Go.Proofs.YtmcomdmcmnbhlaaGreatDoor
