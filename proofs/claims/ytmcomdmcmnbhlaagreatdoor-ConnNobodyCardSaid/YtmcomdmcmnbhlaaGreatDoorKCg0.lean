import Derived.Test.YtmcomdmcmnbhlaaGreatDoorKLGen0
import Derived.Shelf.Abstract
import Derived.Deep.RegionHeld3
set_option maxRecDepth 100000
set_option maxHeartbeats 25600000
set_option linter.unusedSimpArgs false
set_option linter.unusedVariables false
set_option linter.unnecessarySimpa false
namespace Go.Proofs.YtmcomdmcmnbhlaaGreatDoor
open Go.RowKit
def inB7 (n a b : Int) : Bool:=decide (a ≤ n) && decide (n ≤ b)
theorem in_iff {n a b : Int} : inB7 n a b = true ↔ a ≤ n ∧ n ≤ b:=by simp [inB7]
def gramB (n : Int) : Bool:=inB7 n 1 1200
def timeB (n : Int) : Bool:=inB7 n 0 1099511627776
structure St7 where
 z : Int
 t : Int
 f : Int
 s : Int
 p : Int
def nul7 : St7:=⟨0,0,0,0,0⟩
def rightB7 (q : St7) : Bool:=inB7 q.z 2400 1073741824 && ((decide (q.t = 0) || inB7 q.t 2400 1073741824) && (inB7 q.f 0 1099511627776 && (inB7 q.s (-1) 1099511627776 && inB7 q.p 0 (q.z - 1))))
theorem right_iff {q : St7} : rightB7 q = true ↔ (2400 ≤ q.z ∧ q.z ≤ 1073741824) ∧ (q.t = 0 ∨ 2400 ≤ q.t ∧ q.t ≤ 1073741824) ∧ (0 ≤ q.f ∧ q.f ≤ 1099511627776) ∧ (-1 ≤ q.s ∧ q.s ≤ 1099511627776) ∧ (0 ≤ q.p ∧ q.p < q.z):=by
 unfold rightB7
 simp only [Bool.and_eq_true,Bool.or_eq_true,decide_eq_true_eq,in_iff]
 constructor
 ·rintro ⟨h1,h2,h3,h4,h5⟩;exact ⟨h1,h2,h3,h4,by omega⟩
 ·rintro ⟨h1,h2,h3,h4,h5⟩;exact ⟨h1,h2,h3,h4,by omega⟩
def roomI (q : St7) : Int:=if rightB7 q = true then (if q.f < q.z then q.z - q.f else 0) else 0
def halfI (a : Int) : Int:=if a.tdiv 2 < 2400 then 2400 else a.tdiv 2
def nextI (a : Int) : Int:=if 1099511627776 < a + 1 then 1099511627776 else a + 1
def moreQ (q : St7) (n : Int) : St7:=⟨q.z,q.t,q.f + n,q.s,q.p⟩
def lessQ (q : St7) (n : Int) : St7:=⟨q.z,q.t,q.f - n,q.s,q.p⟩
def fallenQ (q : St7) (now : Int) : St7:=⟨halfI q.z,halfI q.z,q.f,nextI now,0⟩
def lostQ (q : St7) (n a now : Int) : St7:=if a < q.s then lessQ q n else fallenQ (lessQ q n) now
def sentE7 (q : St7) (n : Int) : St7 × Int:=if (rightB7 q && gramB n) = true then (if roomI q < n then (nul7,7) else (moreQ q n,0)) else (nul7,1)
def goneE (q : St7) (n : Int) : St7 × Int:=if (rightB7 q && gramB n) = true then (if q.f < n then (nul7,7) else (lessQ q n,0)) else (nul7,1)
def lostE (q : St7) (n a now : Int) : St7 × Int:=if (rightB7 q && gramB n) = true then (if (timeB a && timeB now) = true then (if q.f < n then (nul7,7) else (lostQ q n a now,0)) else (nul7,1)) else (nul7,1)
theorem less_right {q : St7} {n : Int} (hr : rightB7 q = true) (h1 : 1 ≤ n) (hn : n ≤ q.f) : rightB7 (lessQ q n) = true:=by
 obtain ⟨hz,ht,hf,hs,hp⟩:=right_iff.1 hr
 exact right_iff.2 ⟨hz,ht,by simp only [lessQ];omega,hs,hp⟩
theorem wraps_i64'7 (n : Int) (h₀ : -9223372036854775808 ≤ n) (h₁ : n < 9223372036854775808) : IntKind.i64.wrap n = n:=by rw [IntKind.wrap_i64];omega
theorem within_any7 (n a b : Int) (w : World) :
  Calls Tryz.prog 154 #[.int .i64 n,.int .i64 a,.int .i64 b] w fun e w' => e = .returned (.bool (inB7 n a b)) ∧ w' = w:=by
 by_cases h1 : a ≤ n
 ·have e1 : decide (a ≤ n) = true:=qdt h1
  have e3 : inB7 n a b = decide (n ≤ b):=by simp [inB7,h1]
  rw [e3]
  clear e3
  go_enter Tryz.func154,Tryz.ntmps154
  go_wp2
  go_ret
  exact ⟨rfl,rfl⟩
 ·have e1 : decide (a ≤ n) = false:=qdf h1
  have e3 : inB7 n a b = false:=by simp [inB7,h1]
  rw [e3]
  clear h1 e3
  go_enter Tryz.func154,Tryz.ntmps154
  go_wp2
  go_ret
  exact ⟨rfl,rfl⟩
theorem within_b7 (n a b : Int) (r : Bool) (hr : inB7 n a b = r) (w : World) : Calls Tryz.prog 154 #[.int .i64 n,.int .i64 a,.int .i64 b] w fun e w' => e = .returned (.bool r) ∧ w' = w:=hr ▸ within_any7 n a b w
def Held7 (b : Nat) (z t f s p : Int) (W : World) : Prop:=∃ T,W.heap[b]? = some (.cells #[.int .i64 z,.int .i64 t,.int .i64 f,.int .i64 s,.int .i64 p] T (0,0))
theorem held_last7 (z t f s p : Int) (T : TypeId) (w : World) : Held7 w.heap.size z t f s p (w.alloc (.cells #[.int .i64 z,.int .i64 t,.int .i64 f,.int .i64 s,.int .i64 p] T)) :=
 ⟨T,by show (w.heap.push _)[w.heap.size]? = _;simp⟩
theorem Held7.lt {b : Nat} {z t f s p : Int} {W : World} (H : Held7 b z t f s p W) : b < W.heap.size:=by
 obtain ⟨T,e⟩:=H
 exact (qgs e).1
theorem Held7.below {b : Nat} {z t f s p : Int} {W W' : World} (H : Held7 b z t f s p W) (hb : Below W.heap.size W W') : Held7 b z t f s p W':=by
 have k:=H.lt
 obtain ⟨T,e⟩:=H
 exact ⟨T,by rw [hb.block b k];exact e⟩
theorem Held7.alloc {b : Nat} {z t f s p : Int} {W : World} (H : Held7 b z t f s p W) (o : Obj) : Held7 b z t f s p (W.alloc o):=H.below ((qbr _ _).alloc (qlr _) _)
theorem held_first7 (z t f s p : Int) (T : TypeId) (w : World) (o : Obj) : Held7 w.heap.size z t f s p ((w.alloc (.cells #[.int .i64 z,.int .i64 t,.int .i64 f,.int .i64 s,.int .i64 p] T)).alloc o):=(held_last7 z t f s p T w).alloc o
theorem held_second7 (z t f s p : Int) (T : TypeId) (w : World) (a : Obj) : Held7 (w.heap.size + 1) z t f s p ((w.alloc a).alloc (.cells #[.int .i64 z,.int .i64 t,.int .i64 f,.int .i64 s,.int .i64 p] T)):=by
 have:=held_last7 z t f s p T (w.alloc a)
 simpa using this
theorem Held7.facts {b : Nat} {z t f s p : Int} {W : World} (H : Held7 b z t f s p W) :
  W.cell? ⟨b,0,none⟩ = some (.int .i64 z) ∧ W.cell? ⟨b,1,none⟩ = some (.int .i64 t) ∧ W.cell? ⟨b,2,none⟩ = some (.int .i64 f) ∧ W.cell? ⟨b,3,none⟩ = some (.int .i64 s) ∧ W.cell? ⟨b,4,none⟩ = some (.int .i64 p):=by
 obtain ⟨T,e⟩:=H
 simp [World.cell?,e]
theorem Held7.free {b : Nat} {z t f s p : Int} {W : World} (H : Held7 b z t f s p W) :
  W.frozen? ⟨b,0,none⟩ = false ∧ W.frozen? ⟨b,1,none⟩ = false ∧ W.frozen? ⟨b,2,none⟩ = false ∧ W.frozen? ⟨b,3,none⟩ = false ∧ W.frozen? ⟨b,4,none⟩ = false:=by
 obtain ⟨T,e⟩:=H
 simp [World.frozen?,e]
theorem Held7.other {b : Nat} {z t f s p : Int} {W : World} (H : Held7 b z t f s p W) {a : Addr} (hp : a.block ≠ b) (u : Value) : Held7 b z t f s p (W.setCell a u):=by
 obtain ⟨T,e⟩:=H
 exact ⟨T,by simp [World.setCell,Array.getElem?_modify,hp,e]⟩
theorem Held7.others {b : Nat} {z t f s p : Int} {W : World} (H : Held7 b z t f s p W) (c : Nat) (hc : c ≠ b) (v0 v1 v2 v3 v4 : Value) :
  Held7 b z t f s p (((((W.setCell ⟨c,0,none⟩ v0).setCell ⟨c,1,none⟩ v1).setCell ⟨c,2,none⟩ v2).setCell ⟨c,3,none⟩ v3).setCell ⟨c,4,none⟩ v4) :=
 ((((H.other hc v0).other hc v1).other hc v2).other hc v3).other hc v4
theorem below_five7 {B : Nat} {w w' : World} (h : Below B w w') (b : Nat) (hb : B ≤ b) (v0 v1 v2 v3 v4 : Value) : Below B w (((((w'.setCell ⟨b,0,none⟩ v0).setCell ⟨b,1,none⟩ v1).setCell ⟨b,2,none⟩ v2).setCell ⟨b,3,none⟩ v3).setCell ⟨b,4,none⟩ v4) :=
 ((((h.setCell hb _).setCell hb _).setCell hb _).setCell hb _).setCell hb _
theorem below_one7 (w : World) (a : Obj) : Below w.heap.size w (w.alloc a):=(qbr _ _).alloc (qlr _) _
theorem below_two7 (w : World) (a b : Obj) : Below w.heap.size w ((w.alloc a).alloc b):=((qbr _ _).alloc (qlr _) _).alloc (by simp) _
theorem below_more {B : Nat} {w w' : World} (h : Below B w w') (hB : B ≤ w.heap.size) (a : Obj) : Below B w (w'.alloc a):=h.alloc (Nat.le_trans hB h.size) _
theorem right_1 (z t f s p : Int) (w : World) (hz : inB7 z 2400 1073741824 = false) :
  Calls Tryz.prog 110 #[.agg #[.int .i64 z,.int .i64 t,.int .i64 f,.int .i64 s,.int .i64 p]] w fun e w' => e = .returned (.bool false) ∧ Below w.heap.size w w':=by
 have HB:=qhi (below_one7 w (.cells #[.int .i64 z,.int .i64 t,.int .i64 f,.int .i64 s,.int .i64 p] 58))
 have Tz:=qhi (fun W => within_b7 z 2400 1073741824 false hz W)
 clear hz
 go_enter Tryz.func110,Tryz.ntmps110
 go_wp2_with fail
 refine (Tz.out _).mono ?_
 rintro e w2 ⟨rfl,rfl⟩
 go_wp2
 go_ret
 exact ⟨rfl,HB.out⟩
theorem right_2 (z t f s p : Int) (w : World) (hz : inB7 z 2400 1073741824 = true) (h0 : (t == 0) = false) (ht : inB7 t 2400 1073741824 = false) :
  Calls Tryz.prog 110 #[.agg #[.int .i64 z,.int .i64 t,.int .i64 f,.int .i64 s,.int .i64 p]] w fun e w' => e = .returned (.bool false) ∧ Below w.heap.size w w':=by
 have HB:=qhi (below_one7 w (.cells #[.int .i64 z,.int .i64 t,.int .i64 f,.int .i64 s,.int .i64 p] 58))
 have Tz:=qhi (fun W => within_b7 z 2400 1073741824 true hz W)
 have Tt:=qhi (fun W => within_b7 t 2400 1073741824 false ht W)
 clear hz
 clear ht
 go_enter Tryz.func110,Tryz.ntmps110
 go_wp2_with fail
 refine (Tz.out _).mono ?_
 rintro e w2 ⟨rfl,rfl⟩
 go_wp2_with fail
 refine (Tt.out _).mono ?_
 rintro e w2 ⟨rfl,rfl⟩
 go_wp2
 go_ret
 exact ⟨rfl,HB.out⟩
theorem right_3a (z f s p : Int) (w : World) (hz : inB7 z 2400 1073741824 = true) (hf : inB7 f 0 1099511627776 = false) :
  Calls Tryz.prog 110 #[.agg #[.int .i64 z,.int .i64 0,.int .i64 f,.int .i64 s,.int .i64 p]] w fun e w' => e = .returned (.bool false) ∧ Below w.heap.size w w':=by
 have HB:=qhi (below_one7 w (.cells #[.int .i64 z,.int .i64 0,.int .i64 f,.int .i64 s,.int .i64 p] 58))
 have Tz:=qhi (fun W => within_b7 z 2400 1073741824 true hz W)
 have Tf:=qhi (fun W => within_b7 f 0 1099511627776 false hf W)
 clear hz
 clear hf
 go_enter Tryz.func110,Tryz.ntmps110
 go_wp2_with fail
 refine (Tz.out _).mono ?_
 rintro e w2 ⟨rfl,rfl⟩
 go_wp2_with fail
 refine (Tf.out _).mono ?_
 rintro e w2 ⟨rfl,rfl⟩
 go_wp2
 go_ret
 exact ⟨rfl,HB.out⟩
theorem right_4a (z f s p : Int) (w : World) (hz : inB7 z 2400 1073741824 = true) (hf : inB7 f 0 1099511627776 = true) (hs : inB7 s (-1) 1099511627776 = false) :
  Calls Tryz.prog 110 #[.agg #[.int .i64 z,.int .i64 0,.int .i64 f,.int .i64 s,.int .i64 p]] w fun e w' => e = .returned (.bool false) ∧ Below w.heap.size w w':=by
 have HB:=qhi (below_one7 w (.cells #[.int .i64 z,.int .i64 0,.int .i64 f,.int .i64 s,.int .i64 p] 58))
 have Tz:=qhi (fun W => within_b7 z 2400 1073741824 true hz W)
 have Tf:=qhi (fun W => within_b7 f 0 1099511627776 true hf W)
 have Ts:=qhi (fun W => within_b7 s (-1) 1099511627776 false hs W)
 clear hz
 clear hf
 clear hs
 go_enter Tryz.func110,Tryz.ntmps110
 go_wp2_with fail
 refine (Tz.out _).mono ?_
 rintro e w2 ⟨rfl,rfl⟩
 go_wp2_with fail
 refine (Tf.out _).mono ?_
 rintro e w2 ⟨rfl,rfl⟩
 go_wp2_with fail
 refine (Ts.out _).mono ?_
 rintro e w2 ⟨rfl,rfl⟩
 go_wp2
 go_ret
 exact ⟨rfl,HB.out⟩
theorem right_5a (z f s p : Int) (w : World) (hz : inB7 z 2400 1073741824 = true) (hf : inB7 f 0 1099511627776 = true) (hs : inB7 s (-1) 1099511627776 = true) :
  Calls Tryz.prog 110 #[.agg #[.int .i64 z,.int .i64 0,.int .i64 f,.int .i64 s,.int .i64 p]] w fun e w' => e = .returned (.bool (inB7 p 0 (z - 1))) ∧ Below w.heap.size w w':=by
 have HB:=qhi (below_one7 w (.cells #[.int .i64 z,.int .i64 0,.int .i64 f,.int .i64 s,.int .i64 p] 58))
 have Tz:=qhi (fun W => within_b7 z 2400 1073741824 true hz W)
 have Tf:=qhi (fun W => within_b7 f 0 1099511627776 true hf W)
 have Ts:=qhi (fun W => within_b7 s (-1) 1099511627776 true hs W)
 have Tp:=qhi (fun W => within_any7 p 0 (z - 1) W)
 have W1 : IntKind.i64.wrap (z - 1) = z - 1:=by obtain ⟨h1,h2⟩:=in_iff.1 hz;exact wraps_i64'7 _ (by omega) (by omega)
 clear hz
 clear hf
 clear hs
 go_enter Tryz.func110,Tryz.ntmps110
 go_wp2_with fail
 refine (Tz.out _).mono ?_
 rintro e w2 ⟨rfl,rfl⟩
 go_wp2_with fail
 refine (Tf.out _).mono ?_
 rintro e w2 ⟨rfl,rfl⟩
 go_wp2_with fail
 refine (Ts.out _).mono ?_
 rintro e w2 ⟨rfl,rfl⟩
 go_wp2_with fail
 refine (Tp.out _).mono ?_
 rintro e w2 ⟨rfl,rfl⟩
 go_wp2
 go_ret
 exact ⟨rfl,HB.out⟩
theorem right_3b (z t f s p : Int) (w : World) (hz : inB7 z 2400 1073741824 = true) (h0 : (t == 0) = false) (ht : inB7 t 2400 1073741824 = true) (hf : inB7 f 0 1099511627776 = false) :
  Calls Tryz.prog 110 #[.agg #[.int .i64 z,.int .i64 t,.int .i64 f,.int .i64 s,.int .i64 p]] w fun e w' => e = .returned (.bool false) ∧ Below w.heap.size w w':=by
 have HB:=qhi (below_one7 w (.cells #[.int .i64 z,.int .i64 t,.int .i64 f,.int .i64 s,.int .i64 p] 58))
 have Tz:=qhi (fun W => within_b7 z 2400 1073741824 true hz W)
 have Tt:=qhi (fun W => within_b7 t 2400 1073741824 true ht W)
 have Tf:=qhi (fun W => within_b7 f 0 1099511627776 false hf W)
 clear hz
 clear ht
 clear hf
 go_enter Tryz.func110,Tryz.ntmps110
 go_wp2_with fail
 refine (Tz.out _).mono ?_
 rintro e w2 ⟨rfl,rfl⟩
 go_wp2_with fail
 refine (Tt.out _).mono ?_
 rintro e w2 ⟨rfl,rfl⟩
 go_wp2_with fail
 refine (Tf.out _).mono ?_
 rintro e w2 ⟨rfl,rfl⟩
 go_wp2
 go_ret
 exact ⟨rfl,HB.out⟩
theorem right_4b (z t f s p : Int) (w : World) (hz : inB7 z 2400 1073741824 = true) (h0 : (t == 0) = false) (ht : inB7 t 2400 1073741824 = true) (hf : inB7 f 0 1099511627776 = true) (hs : inB7 s (-1) 1099511627776 = false) :
  Calls Tryz.prog 110 #[.agg #[.int .i64 z,.int .i64 t,.int .i64 f,.int .i64 s,.int .i64 p]] w fun e w' => e = .returned (.bool false) ∧ Below w.heap.size w w':=by
 have HB:=qhi (below_one7 w (.cells #[.int .i64 z,.int .i64 t,.int .i64 f,.int .i64 s,.int .i64 p] 58))
 have Tz:=qhi (fun W => within_b7 z 2400 1073741824 true hz W)
 have Tt:=qhi (fun W => within_b7 t 2400 1073741824 true ht W)
 have Tf:=qhi (fun W => within_b7 f 0 1099511627776 true hf W)
 have Ts:=qhi (fun W => within_b7 s (-1) 1099511627776 false hs W)
 clear hz
 clear ht
 clear hf
 clear hs
 go_enter Tryz.func110,Tryz.ntmps110
 go_wp2_with fail
 refine (Tz.out _).mono ?_
 rintro e w2 ⟨rfl,rfl⟩
 go_wp2_with fail
 refine (Tt.out _).mono ?_
 rintro e w2 ⟨rfl,rfl⟩
 go_wp2_with fail
 refine (Tf.out _).mono ?_
 rintro e w2 ⟨rfl,rfl⟩
 go_wp2_with fail
 refine (Ts.out _).mono ?_
 rintro e w2 ⟨rfl,rfl⟩
 go_wp2
 go_ret
 exact ⟨rfl,HB.out⟩
theorem right_5b (z t f s p : Int) (w : World) (hz : inB7 z 2400 1073741824 = true) (h0 : (t == 0) = false) (ht : inB7 t 2400 1073741824 = true) (hf : inB7 f 0 1099511627776 = true) (hs : inB7 s (-1) 1099511627776 = true) :
  Calls Tryz.prog 110 #[.agg #[.int .i64 z,.int .i64 t,.int .i64 f,.int .i64 s,.int .i64 p]] w fun e w' => e = .returned (.bool (inB7 p 0 (z - 1))) ∧ Below w.heap.size w w':=by
 have HB:=qhi (below_one7 w (.cells #[.int .i64 z,.int .i64 t,.int .i64 f,.int .i64 s,.int .i64 p] 58))
 have Tz:=qhi (fun W => within_b7 z 2400 1073741824 true hz W)
 have Tt:=qhi (fun W => within_b7 t 2400 1073741824 true ht W)
 have Tf:=qhi (fun W => within_b7 f 0 1099511627776 true hf W)
 have Ts:=qhi (fun W => within_b7 s (-1) 1099511627776 true hs W)
 have Tp:=qhi (fun W => within_any7 p 0 (z - 1) W)
 have W1 : IntKind.i64.wrap (z - 1) = z - 1:=by obtain ⟨h1,h2⟩:=in_iff.1 hz;exact wraps_i64'7 _ (by omega) (by omega)
 clear hz
 clear ht
 clear hf
 clear hs
 go_enter Tryz.func110,Tryz.ntmps110
 go_wp2_with fail
 refine (Tz.out _).mono ?_
 rintro e w2 ⟨rfl,rfl⟩
 go_wp2_with fail
 refine (Tt.out _).mono ?_
 rintro e w2 ⟨rfl,rfl⟩
 go_wp2_with fail
 refine (Tf.out _).mono ?_
 rintro e w2 ⟨rfl,rfl⟩
 go_wp2_with fail
 refine (Ts.out _).mono ?_
 rintro e w2 ⟨rfl,rfl⟩
 go_wp2_with fail
 refine (Tp.out _).mono ?_
 rintro e w2 ⟨rfl,rfl⟩
 go_wp2
 go_ret
 exact ⟨rfl,HB.out⟩
theorem right_any7 (z t f s p : Int) (w : World) :
  Calls Tryz.prog 110 #[.agg #[.int .i64 z,.int .i64 t,.int .i64 f,.int .i64 s,.int .i64 p]] w fun e w' => e = .returned (.bool (rightB7 ⟨z,t,f,s,p⟩)) ∧ Below w.heap.size w w':=by
 unfold rightB7
 dsimp only
 cases h1 : inB7 z 2400 1073741824
 ·exact right_1 z t f s p w h1
 have e0 : decide (t = 0) = (t == 0):=rfl
 rw [e0]
 cases h0 : t == 0
 ·cases h2 : inB7 t 2400 1073741824
  ·exact right_2 z t f s p w h1 h0 h2
  cases h3 : inB7 f 0 1099511627776
  ·exact right_3b z t f s p w h1 h0 h2 h3
  cases h4 : inB7 s (-1) 1099511627776
  ·exact right_4b z t f s p w h1 h0 h2 h3 h4
  exact right_5b z t f s p w h1 h0 h2 h3 h4
 ·obtain rfl : t = 0:=by simpa using h0
  cases h3 : inB7 f 0 1099511627776
  ·exact right_3a z f s p w h1 h3
  cases h4 : inB7 s (-1) 1099511627776
  ·exact right_4a z f s p w h1 h3 h4
  exact right_5a z f s p w h1 h3 h4
theorem right_b7 (z t f s p : Int) (r : Bool) (hr : rightB7 ⟨z,t,f,s,p⟩ = r) (w : World) :
  Calls Tryz.prog 110 #[.agg #[.int .i64 z,.int .i64 t,.int .i64 f,.int .i64 s,.int .i64 p]] w fun e w' => e = .returned (.bool r) ∧ Below w.heap.size w w':=hr ▸ right_any7 z t f s p w
theorem new_any7 (w : World) : Calls Tryz.prog 87 #[] w fun e w' => e = .returned (.agg #[.int .i64 12000,.int .i64 0,.int .i64 0,.int .i64 (-1),.int .i64 0]) ∧ Below w.heap.size w w':=by
 go_enter Tryz.func87,Tryz.ntmps87
 go_wp2
 exact bodyPost_ret (v:=.agg #[.int .i64 12000,.int .i64 0,.int .i64 0,.int .i64 (-1),.int .i64 0]) (by simp [results,Tryz.results87,go_sem]) rfl ⟨rfl,below_one7 _ _⟩
theorem room_no (z t f s p : Int) (w : World) (hr : rightB7 ⟨z,t,f,s,p⟩ = false) :
  Calls Tryz.prog 67 #[.agg #[.int .i64 z,.int .i64 t,.int .i64 f,.int .i64 s,.int .i64 p]] w fun e w' => e = .returned (.int .i64 0) ∧ Below w.heap.size w w':=by
 have HB:=qhi (below_one7 w (.cells #[.int .i64 z,.int .i64 t,.int .i64 f,.int .i64 s,.int .i64 p] 58))
 have RT:=qhi (fun w => right_b7 z t f s p _ hr w)
 clear hr
 go_enter Tryz.func67,Tryz.ntmps67
 go_wp2_with fail
 refine (RT.out _).mono ?_
 rintro e w2 ⟨rfl,bn⟩
 have BB:=qhi (HB.out.trans (bn.mono HB.out.size))
 clear bn RT HB
 go_wp2
 go_ret
 exact ⟨rfl,BB.out⟩
theorem room_a (z t f s p : Int) (w : World) (hr : rightB7 ⟨z,t,f,s,p⟩ = true) (hc : 0 < z - f) :
  Calls Tryz.prog 67 #[.agg #[.int .i64 z,.int .i64 t,.int .i64 f,.int .i64 s,.int .i64 p]] w fun e w' => e = .returned (.int .i64 (z - f)) ∧ Below w.heap.size w w':=by
 have HB:=qhi (below_one7 w (.cells #[.int .i64 z,.int .i64 t,.int .i64 f,.int .i64 s,.int .i64 p] 58))
 have HH:=qhi (held_last7 z t f s p 58 w)
 have RT:=qhi (fun w => right_b7 z t f s p _ hr w)
 have W0 : IntKind.i64.wrap (z - f) = z - f:=by
  obtain ⟨h1,_,h2,_⟩:=right_iff.1 hr
  dsimp only at h1 h2
  exact wraps_i64'7 _ (by omega) (by omega)
 clear hr
 go_enter Tryz.func67,Tryz.ntmps67
 go_wp2_with fail
 refine (RT.out _).mono ?_
 rintro e w2 ⟨rfl,bn⟩
 have BB:=qhi (HB.out.trans (bn.mono HB.out.size))
 obtain ⟨c0,c1,c2,c3,c4⟩:=(HH.out.below bn).facts
 clear bn RT HB HH
 go_wp2
 go_ret
 exact ⟨rfl,BB.out⟩
theorem room_b (z t f s p : Int) (w : World) (hr : rightB7 ⟨z,t,f,s,p⟩ = true) (hc : ¬ 0 < z - f) :
  Calls Tryz.prog 67 #[.agg #[.int .i64 z,.int .i64 t,.int .i64 f,.int .i64 s,.int .i64 p]] w fun e w' => e = .returned (.int .i64 0) ∧ Below w.heap.size w w':=by
 have HB:=qhi (below_one7 w (.cells #[.int .i64 z,.int .i64 t,.int .i64 f,.int .i64 s,.int .i64 p] 58))
 have HH:=qhi (held_last7 z t f s p 58 w)
 have RT:=qhi (fun w => right_b7 z t f s p _ hr w)
 have W0 : IntKind.i64.wrap (z - f) = z - f:=by
  obtain ⟨h1,_,h2,_⟩:=right_iff.1 hr
  dsimp only at h1 h2
  exact wraps_i64'7 _ (by omega) (by omega)
 clear hr
 go_enter Tryz.func67,Tryz.ntmps67
 go_wp2_with fail
 refine (RT.out _).mono ?_
 rintro e w2 ⟨rfl,bn⟩
 have BB:=qhi (HB.out.trans (bn.mono HB.out.size))
 obtain ⟨c0,c1,c2,c3,c4⟩:=(HH.out.below bn).facts
 clear bn RT HB HH
 go_wp2
 go_ret
 exact ⟨rfl,BB.out⟩
theorem room_any (z t f s p : Int) (w : World) :
  Calls Tryz.prog 67 #[.agg #[.int .i64 z,.int .i64 t,.int .i64 f,.int .i64 s,.int .i64 p]] w fun e w' => e = .returned (.int .i64 (roomI ⟨z,t,f,s,p⟩)) ∧ Below w.heap.size w w':=by
 unfold roomI
 cases hr : rightB7 ⟨z,t,f,s,p⟩
 ·rw [if_neg (by simp)];exact room_no z t f s p w hr
 ·rw [if_pos rfl]
  dsimp only
  by_cases h : f < z
  ·rw [if_pos h];exact room_a z t f s p w hr (by omega)
  ·rw [if_neg h];exact room_b z t f s p w hr (by omega)
theorem room_b' (z t f s p r : Int) (h : roomI ⟨z,t,f,s,p⟩ = r) (w : World) :
  Calls Tryz.prog 67 #[.agg #[.int .i64 z,.int .i64 t,.int .i64 f,.int .i64 s,.int .i64 p]] w fun e w' => e = .returned (.int .i64 r) ∧ Below w.heap.size w w':=h ▸ room_any z t f s p w
theorem counts_b (z t f s p a : Int) (r : Bool) (hr : decide (a ≥ s) = r) (w : World) :
  Calls Tryz.prog 144 #[.agg #[.int .i64 z,.int .i64 t,.int .i64 f,.int .i64 s,.int .i64 p],.int .i64 a] w fun e w' => e = .returned (.bool r) ∧ Below w.heap.size w w':=by
 have HB:=qhi (below_one7 w (.cells #[.int .i64 z,.int .i64 t,.int .i64 f,.int .i64 s,.int .i64 p] 58))
 subst hr
 go_enter Tryz.func144,Tryz.ntmps144
 go_wp2
 go_ret
 exact ⟨rfl,HB.out⟩
theorem fallen_00 (z t f s p n : Int) (w : World) (hz : 2400 ≤ z) (hz' : z ≤ 1073741824) (hn : 0 ≤ n) (hn' : n ≤ 1099511627776) (ha : z.tdiv 2 < 2400) (hb : 1099511627776 < n + 1) :
  Calls Tryz.prog 145 #[.agg #[.int .i64 z,.int .i64 t,.int .i64 f,.int .i64 s,.int .i64 p],.int .i64 n] w fun e w' => e = .returned (.agg #[.int .i64 2400,.int .i64 2400,.int .i64 f,.int .i64 1099511627776,.int .i64 0]) ∧ Below w.heap.size w w':=by
 have W0 : IntKind.i64.wrap (z.tdiv 2) = z.tdiv 2:=wraps_i64'7 _ (by rw [Int.tdiv_eq_ediv_of_nonneg (by omega)];omega) (by rw [Int.tdiv_eq_ediv_of_nonneg (by omega)];omega)
 have W1 : IntKind.i64.wrap (n + 1) = n + 1:=wraps_i64'7 _ (by omega) (by omega)
 go_enter Tryz.func145,Tryz.ntmps145
 go_wp2
 exact bodyPost_ret (v:=.agg #[.int .i64 2400,.int .i64 2400,.int .i64 f,.int .i64 1099511627776,.int .i64 0]) (by simp [results,Tryz.results145,go_sem]) rfl ⟨rfl,below_two7 _ _ _⟩
theorem fallen_01 (z t f s p n : Int) (w : World) (hz : 2400 ≤ z) (hz' : z ≤ 1073741824) (hn : 0 ≤ n) (hn' : n ≤ 1099511627776) (ha : z.tdiv 2 < 2400) (hb : ¬ 1099511627776 < n + 1) :
  Calls Tryz.prog 145 #[.agg #[.int .i64 z,.int .i64 t,.int .i64 f,.int .i64 s,.int .i64 p],.int .i64 n] w fun e w' => e = .returned (.agg #[.int .i64 2400,.int .i64 2400,.int .i64 f,.int .i64 (n + 1),.int .i64 0]) ∧ Below w.heap.size w w':=by
 have W0 : IntKind.i64.wrap (z.tdiv 2) = z.tdiv 2:=wraps_i64'7 _ (by rw [Int.tdiv_eq_ediv_of_nonneg (by omega)];omega) (by rw [Int.tdiv_eq_ediv_of_nonneg (by omega)];omega)
 have W1 : IntKind.i64.wrap (n + 1) = n + 1:=wraps_i64'7 _ (by omega) (by omega)
 go_enter Tryz.func145,Tryz.ntmps145
 go_wp2
 exact bodyPost_ret (v:=.agg #[.int .i64 2400,.int .i64 2400,.int .i64 f,.int .i64 (n + 1),.int .i64 0]) (by simp [results,Tryz.results145,go_sem]) rfl ⟨rfl,below_two7 _ _ _⟩
theorem fallen_10 (z t f s p n : Int) (w : World) (hz : 2400 ≤ z) (hz' : z ≤ 1073741824) (hn : 0 ≤ n) (hn' : n ≤ 1099511627776) (ha : ¬ z.tdiv 2 < 2400) (hb : 1099511627776 < n + 1) :
  Calls Tryz.prog 145 #[.agg #[.int .i64 z,.int .i64 t,.int .i64 f,.int .i64 s,.int .i64 p],.int .i64 n] w fun e w' => e = .returned (.agg #[.int .i64 (z.tdiv 2),.int .i64 (z.tdiv 2),.int .i64 f,.int .i64 1099511627776,.int .i64 0]) ∧ Below w.heap.size w w':=by
 have W0 : IntKind.i64.wrap (z.tdiv 2) = z.tdiv 2:=wraps_i64'7 _ (by rw [Int.tdiv_eq_ediv_of_nonneg (by omega)];omega) (by rw [Int.tdiv_eq_ediv_of_nonneg (by omega)];omega)
 have W1 : IntKind.i64.wrap (n + 1) = n + 1:=wraps_i64'7 _ (by omega) (by omega)
 go_enter Tryz.func145,Tryz.ntmps145
 go_wp2
 exact bodyPost_ret (v:=.agg #[.int .i64 (z.tdiv 2),.int .i64 (z.tdiv 2),.int .i64 f,.int .i64 1099511627776,.int .i64 0]) (by simp [results,Tryz.results145,go_sem]) rfl ⟨rfl,below_two7 _ _ _⟩
theorem fallen_11 (z t f s p n : Int) (w : World) (hz : 2400 ≤ z) (hz' : z ≤ 1073741824) (hn : 0 ≤ n) (hn' : n ≤ 1099511627776) (ha : ¬ z.tdiv 2 < 2400) (hb : ¬ 1099511627776 < n + 1) :
  Calls Tryz.prog 145 #[.agg #[.int .i64 z,.int .i64 t,.int .i64 f,.int .i64 s,.int .i64 p],.int .i64 n] w fun e w' => e = .returned (.agg #[.int .i64 (z.tdiv 2),.int .i64 (z.tdiv 2),.int .i64 f,.int .i64 (n + 1),.int .i64 0]) ∧ Below w.heap.size w w':=by
 have W0 : IntKind.i64.wrap (z.tdiv 2) = z.tdiv 2:=wraps_i64'7 _ (by rw [Int.tdiv_eq_ediv_of_nonneg (by omega)];omega) (by rw [Int.tdiv_eq_ediv_of_nonneg (by omega)];omega)
 have W1 : IntKind.i64.wrap (n + 1) = n + 1:=wraps_i64'7 _ (by omega) (by omega)
 go_enter Tryz.func145,Tryz.ntmps145
 go_wp2
 exact bodyPost_ret (v:=.agg #[.int .i64 (z.tdiv 2),.int .i64 (z.tdiv 2),.int .i64 f,.int .i64 (n + 1),.int .i64 0]) (by simp [results,Tryz.results145,go_sem]) rfl ⟨rfl,below_two7 _ _ _⟩
theorem fallen_any (z t f s p n : Int) (w : World) (hr : rightB7 ⟨z,t,f,s,p⟩ = true) (hg : timeB n = true) :
  Calls Tryz.prog 145 #[.agg #[.int .i64 z,.int .i64 t,.int .i64 f,.int .i64 s,.int .i64 p],.int .i64 n] w fun e w' => e = .returned (.agg #[.int .i64 (fallenQ ⟨z,t,f,s,p⟩ n).z,.int .i64 (fallenQ ⟨z,t,f,s,p⟩ n).t,.int .i64 (fallenQ ⟨z,t,f,s,p⟩ n).f,.int .i64 (fallenQ ⟨z,t,f,s,p⟩ n).s,.int .i64 (fallenQ ⟨z,t,f,s,p⟩ n).p]) ∧ Below w.heap.size w w':=by
 obtain ⟨⟨hz,hz'⟩,_⟩:=right_iff.1 hr
 obtain ⟨hn,hn'⟩:=in_iff.1 hg
 clear hr hg
 dsimp only at hz hz'
 unfold fallenQ halfI nextI
 dsimp only
 by_cases ha : z.tdiv 2 < 2400
 ·rw [if_pos ha]
  by_cases hb : 1099511627776 < n + 1
  ·rw [if_pos hb];exact fallen_00 z t f s p n w hz hz' hn hn' ha hb
  ·rw [if_neg hb];exact fallen_01 z t f s p n w hz hz' hn hn' ha hb
 ·rw [if_neg ha]
  by_cases hb : 1099511627776 < n + 1
  ·rw [if_pos hb];exact fallen_10 z t f s p n w hz hz' hn hn' ha hb
  ·rw [if_neg hb];exact fallen_11 z t f s p n w hz hz' hn hn' ha hb
theorem far {w w' : World} {b : Nat} {u : Value} (hb : b < w.heap.size) (h : w.cell? ⟨b,0,none⟩ = some u) (k : Below w.heap.size w w') : w'.cell? ⟨b,0,none⟩ = some u:=(k.cell (p:=⟨b,0,none⟩) hb).trans h
theorem sentcl_any (z t f s p n : Int) (bn : Nat) (w : World) (hf : 0 ≤ f) (hf' : f ≤ 1099511627776) (h1 : 1 ≤ n) (h2 : n ≤ 1200) (hb : bn < w.heap.size) (hn : w.cell? ⟨bn,0,none⟩ = some (.int .i64 n)) :
  Calls Tryz.prog 117 #[.agg #[.int .i64 z,.int .i64 t,.int .i64 f,.int .i64 s,.int .i64 p],.pointer (some ⟨bn,0,none⟩)] w fun e w' => e = .returned (.agg #[.int .i64 z,.int .i64 t,.int .i64 (f + n),.int .i64 s,.int .i64 p]) ∧ Below w.heap.size w w':=by
 have W0 : IntKind.i64.wrap (f + n) = f + n:=wraps_i64'7 _ (by omega) (by omega)
 have hn':=far hb hn (below_two7 w (.cells #[.int .i64 z,.int .i64 t,.int .i64 f,.int .i64 s,.int .i64 p] 58) (.cells #[.int .i64 0,.int .i64 0,.int .i64 0,.int .i64 0,.int .i64 0] 58))
 clear hn h1 h2
 go_enter Tryz.func117,Tryz.ntmps117
 go_wp2
 exact bodyPost_ret (v:=.agg #[.int .i64 z,.int .i64 t,.int .i64 (f + n),.int .i64 s,.int .i64 p]) (by simp [results,Tryz.results117,go_sem]) rfl ⟨rfl,below_two7 _ _ _⟩
theorem gonecl_any (z t f s p n : Int) (bn : Nat) (w : World) (hf : 0 ≤ f) (hf' : f ≤ 1099511627776) (h1 : 1 ≤ n) (h2 : n ≤ 1200) (hb : bn < w.heap.size) (hn : w.cell? ⟨bn,0,none⟩ = some (.int .i64 n)) :
  Calls Tryz.prog 147 #[.agg #[.int .i64 z,.int .i64 t,.int .i64 f,.int .i64 s,.int .i64 p],.pointer (some ⟨bn,0,none⟩)] w fun e w' => e = .returned (.agg #[.int .i64 z,.int .i64 t,.int .i64 (f - n),.int .i64 s,.int .i64 p]) ∧ Below w.heap.size w w':=by
 have W0 : IntKind.i64.wrap (f - n) = f - n:=wraps_i64'7 _ (by omega) (by omega)
 have hn':=far hb hn (below_two7 w (.cells #[.int .i64 z,.int .i64 t,.int .i64 f,.int .i64 s,.int .i64 p] 58) (.cells #[.int .i64 0,.int .i64 0,.int .i64 0,.int .i64 0,.int .i64 0] 58))
 clear hn h1 h2
 go_enter Tryz.func147,Tryz.ntmps147
 go_wp2
 exact bodyPost_ret (v:=.agg #[.int .i64 z,.int .i64 t,.int .i64 (f - n),.int .i64 s,.int .i64 p]) (by simp [results,Tryz.results147,go_sem]) rfl ⟨rfl,below_two7 _ _ _⟩
theorem lostcl_a (z t f s p n a now : Int) (bn ba bw : Nat) (w : World) (hf : 0 ≤ f) (hf' : f ≤ 1099511627776) (h1 : 1 ≤ n) (h2 : n ≤ 1200) (hb : bn < w.heap.size) (hn : w.cell? ⟨bn,0,none⟩ = some (.int .i64 n)) (hba : ba < w.heap.size) (ha : w.cell? ⟨ba,0,none⟩ = some (.int .i64 a)) (hbw : bw < w.heap.size) (hw : w.cell? ⟨bw,0,none⟩ = some (.int .i64 now)) (hc : decide (a ≥ s) = false) :
  Calls Tryz.prog 143 #[.agg #[.int .i64 z,.int .i64 t,.int .i64 f,.int .i64 s,.int .i64 p],.pointer (some ⟨bn,0,none⟩),.pointer (some ⟨ba,0,none⟩),.pointer (some ⟨bw,0,none⟩)] w fun e w' => e = .returned (.agg #[.int .i64 z,.int .i64 t,.int .i64 (f - n),.int .i64 s,.int .i64 p]) ∧ Below w.heap.size w w':=by
 have W0 : IntKind.i64.wrap (f - n) = f - n:=wraps_i64'7 _ (by omega) (by omega)
 have B2:=qhi (below_two7 w (.cells #[.int .i64 z,.int .i64 t,.int .i64 (f - n),.int .i64 s,.int .i64 p] 58) (.cells #[.int .i64 0,.int .i64 0,.int .i64 0,.int .i64 0,.int .i64 0] 58))
 have hn0:=far hb hn (below_two7 w (.cells #[.int .i64 z,.int .i64 t,.int .i64 f,.int .i64 s,.int .i64 p] 58) (.cells #[.int .i64 0,.int .i64 0,.int .i64 0,.int .i64 0,.int .i64 0] 58))
 have hn':=far hb hn B2.out
 have ha':=far hba ha B2.out
 have hw':=far hbw hw B2.out
 have HP:=qhi (held_first7 z t (f - n) s p 58 w (.cells #[.int .i64 0,.int .i64 0,.int .i64 0,.int .i64 0,.int .i64 0] 58))
 have HR:=qhi (held_second7 0 0 0 0 0 58 w (.cells #[.int .i64 z,.int .i64 t,.int .i64 (f - n),.int .i64 s,.int .i64 p] 58))
 have hbz : Hid (bn < ((w.alloc (.cells #[.int .i64 z,.int .i64 t,.int .i64 (f - n),.int .i64 s,.int .i64 p] 58)).alloc (.cells #[.int .i64 0,.int .i64 0,.int .i64 0,.int .i64 0,.int .i64 0] 58)).heap.size):=Nat.lt_of_lt_of_le hb B2.out.size
 have hwz : Hid (bw < ((w.alloc (.cells #[.int .i64 z,.int .i64 t,.int .i64 (f - n),.int .i64 s,.int .i64 p] 58)).alloc (.cells #[.int .i64 0,.int .i64 0,.int .i64 0,.int .i64 0,.int .i64 0] 58)).heap.size):=Nat.lt_of_lt_of_le hbw B2.out.size
 have K:=qhi (fun w => counts_b z t (f - n) s p a _ hc w)
 clear hc
 have HN:=qhi hn'
 have HW:=qhi hw'
 have hne1 : w.heap.size ≠ w.heap.size + 1:=by omega
 have hne2 : w.heap.size + 1 ≠ w.heap.size:=by omega
 clear hn ha hw hn' hw' h1 h2 hf hf'
 go_enter Tryz.func143,Tryz.ntmps143
 go_wp2_with fail
 refine (K.out _).mono ?_
 rintro e w2 ⟨rfl,bn⟩
 have hn2:=far hbz.out HN.out bn
 have hw2:=far hwz.out HW.out bn
 have HP:=qhi (HP.out.below bn)
 have HR:=qhi (HR.out.below bn)
 have BB:=qhi (B2.out.trans (bn.mono B2.out.size))
 clear bn K B2 HN hn0 ha' hbz HW hwz
 obtain ⟨p0,p1,p2,p3,p4⟩:=HP.out.facts
 obtain ⟨r0,r1,r2,r3,r4⟩:=HR.out.facts
 obtain ⟨f0,f1,f2,f3,f4⟩:=HR.out.free
 go_wp2
 exact bodyPost_ret (v:=.agg #[.int .i64 z,.int .i64 t,.int .i64 (f - n),.int .i64 s,.int .i64 p]) (by simp [results,Tryz.results143,go_sem,r0,r1,r2,r3,r4]) rfl ⟨rfl,below_five7 BB.out _ (Nat.le_succ _) _ _ _ _ _⟩
theorem lostcl_b (z t f s p n a now z' t' f' s' p' : Int) (bn ba bw : Nat) (w : World) (hf : 0 ≤ f) (hf' : f ≤ 1099511627776) (h1 : 1 ≤ n) (h2 : n ≤ 1200) (hb : bn < w.heap.size) (hn : w.cell? ⟨bn,0,none⟩ = some (.int .i64 n)) (hba : ba < w.heap.size) (ha : w.cell? ⟨ba,0,none⟩ = some (.int .i64 a)) (hbw : bw < w.heap.size) (hw : w.cell? ⟨bw,0,none⟩ = some (.int .i64 now)) (hc : decide (a ≥ s) = true)
  (hg : ∀ w,Calls Tryz.prog 145 #[.agg #[.int .i64 z,.int .i64 t,.int .i64 (f - n),.int .i64 s,.int .i64 p],.int .i64 now] w fun e w' => e = .returned (.agg #[.int .i64 z',.int .i64 t',.int .i64 f',.int .i64 s',.int .i64 p']) ∧ Below w.heap.size w w') :
  Calls Tryz.prog 143 #[.agg #[.int .i64 z,.int .i64 t,.int .i64 f,.int .i64 s,.int .i64 p],.pointer (some ⟨bn,0,none⟩),.pointer (some ⟨ba,0,none⟩),.pointer (some ⟨bw,0,none⟩)] w fun e w' => e = .returned (.agg #[.int .i64 z',.int .i64 t',.int .i64 f',.int .i64 s',.int .i64 p']) ∧ Below w.heap.size w w':=by
 have W0 : IntKind.i64.wrap (f - n) = f - n:=wraps_i64'7 _ (by omega) (by omega)
 have B2:=qhi (below_two7 w (.cells #[.int .i64 z,.int .i64 t,.int .i64 (f - n),.int .i64 s,.int .i64 p] 58) (.cells #[.int .i64 0,.int .i64 0,.int .i64 0,.int .i64 0,.int .i64 0] 58))
 have hn0:=far hb hn (below_two7 w (.cells #[.int .i64 z,.int .i64 t,.int .i64 f,.int .i64 s,.int .i64 p] 58) (.cells #[.int .i64 0,.int .i64 0,.int .i64 0,.int .i64 0,.int .i64 0] 58))
 have hn':=far hb hn B2.out
 have ha':=far hba ha B2.out
 have hw':=far hbw hw B2.out
 have HP:=qhi (held_first7 z t (f - n) s p 58 w (.cells #[.int .i64 0,.int .i64 0,.int .i64 0,.int .i64 0,.int .i64 0] 58))
 have HR:=qhi (held_second7 0 0 0 0 0 58 w (.cells #[.int .i64 z,.int .i64 t,.int .i64 (f - n),.int .i64 s,.int .i64 p] 58))
 have hbz : Hid (bn < ((w.alloc (.cells #[.int .i64 z,.int .i64 t,.int .i64 (f - n),.int .i64 s,.int .i64 p] 58)).alloc (.cells #[.int .i64 0,.int .i64 0,.int .i64 0,.int .i64 0,.int .i64 0] 58)).heap.size):=Nat.lt_of_lt_of_le hb B2.out.size
 have hwz : Hid (bw < ((w.alloc (.cells #[.int .i64 z,.int .i64 t,.int .i64 (f - n),.int .i64 s,.int .i64 p] 58)).alloc (.cells #[.int .i64 0,.int .i64 0,.int .i64 0,.int .i64 0,.int .i64 0] 58)).heap.size):=Nat.lt_of_lt_of_le hbw B2.out.size
 have K:=qhi (fun w => counts_b z t (f - n) s p a _ hc w)
 have G:=qhi hg
 clear hc hg
 have HN:=qhi hn'
 have HW:=qhi hw'
 have hne1 : w.heap.size ≠ w.heap.size + 1:=by omega
 have hne2 : w.heap.size + 1 ≠ w.heap.size:=by omega
 clear hn ha hw hn' hw' h1 h2 hf hf'
 go_enter Tryz.func143,Tryz.ntmps143
 go_wp2_with fail
 refine (K.out _).mono ?_
 rintro e w2 ⟨rfl,bn⟩
 have hn2:=far hbz.out HN.out bn
 have hw2:=far hwz.out HW.out bn
 have HP:=qhi (HP.out.below bn)
 have HR:=qhi (HR.out.below bn)
 have BB:=qhi (B2.out.trans (bn.mono B2.out.size))
 clear bn K B2 HN hn0 ha' hbz HW hwz
 obtain ⟨p0,p1,p2,p3,p4⟩:=HP.out.facts
 obtain ⟨r0,r1,r2,r3,r4⟩:=HR.out.facts
 obtain ⟨f0,f1,f2,f3,f4⟩:=HR.out.free
 go_wp2_with fail
 refine (G.out _).mono ?_
 rintro e w3 ⟨rfl,bn⟩
 have HR:=qhi (HR.out.below bn)
 have BB:=qhi (BB.out.trans (bn.mono BB.out.size))
 clear bn G p0 p1 p2 p3 p4
 obtain ⟨r0,r1,r2,r3,r4⟩:=HR.out.facts
 obtain ⟨f0,f1,f2,f3,f4⟩:=HR.out.free
 go_wp2
 exact bodyPost_ret (v:=.agg #[.int .i64 z',.int .i64 t',.int .i64 f',.int .i64 s',.int .i64 p']) (by simp [results,Tryz.results143,go_sem,r0,r1,r2,r3,r4]) rfl ⟨rfl,below_five7 BB.out _ (Nat.le_succ _) _ _ _ _ _⟩
def Gives7 (w : World) (r : St7 × Int) (e : Ending) (w' : World) : Prop:=e = .returned (.tuple #[.agg #[.int .i64 r.1.z,.int .i64 r.1.t,.int .i64 r.1.f,.int .i64 r.1.s,.int .i64 r.1.p],.int .i64 r.2]) ∧ Below w.heap.size w w'
def askE (xs : List Int) (n l : Int) (o : St7) : St7 × Int:=if xs.all timeB = true then (if l < n then (nul7,7) else (o,0)) else (nul7,1)
theorem ask_right (z t f s p n l : Int) (v : Value) (g : Nat) (cb : Array Value) (w : World) (hr : rightB7 ⟨z,t,f,s,p⟩ = false) :
  Calls Tryz.prog 116 #[.agg #[.int .i64 z,.int .i64 t,.int .i64 f,.int .i64 s,.int .i64 p],.int .i64 n,.int .i64 l,.func (.func g) #[] cb,v] w (Gives7 w (nul7,1)):=by
 have B2:=qhi (below_two7 w (.cells #[.int .i64 z,.int .i64 t,.int .i64 f,.int .i64 s,.int .i64 p] 58) (.cells #[.int .i64 0,.int .i64 0,.int .i64 0,.int .i64 0,.int .i64 0] 58))
 have HP:=qhi (held_first7 z t f s p 58 w (.cells #[.int .i64 0,.int .i64 0,.int .i64 0,.int .i64 0,.int .i64 0] 58))
 have HR:=qhi (held_second7 0 0 0 0 0 58 w (.cells #[.int .i64 z,.int .i64 t,.int .i64 f,.int .i64 s,.int .i64 p] 58))
 have RT:=qhi (fun w => right_b7 z t f s p _ hr w)
 clear hr
 go_enter Tryz.func116,Tryz.ntmps116
 go_wp2_with fail
 refine (RT.out _).mono ?_
 rintro e w2 ⟨rfl,bn⟩
 have HP:=qhi (HP.out.below bn)
 have HR:=qhi (HR.out.below bn)
 have BB:=qhi (B2.out.trans (bn.mono B2.out.size))
 clear bn RT B2
 obtain ⟨r0,r1,r2,r3,r4⟩:=HR.out.facts
 obtain ⟨f0,f1,f2,f3,f4⟩:=HR.out.free
 go_wp2
 exact bodyPost_ret (v:=.tuple #[.agg #[.int .i64 0,.int .i64 0,.int .i64 0,.int .i64 0,.int .i64 0],.int .i64 1]) (by simp [results,Tryz.results116,go_sem,r0,r1,r2,r3,r4]) rfl ⟨rfl,below_five7 BB.out _ (Nat.le_succ _) _ _ _ _ _⟩
theorem ask_bytes (z t f s p n l : Int) (v : Value) (g : Nat) (cb : Array Value) (w : World) (hr : rightB7 ⟨z,t,f,s,p⟩ = true) (hg : gramB n = false) :
  Calls Tryz.prog 116 #[.agg #[.int .i64 z,.int .i64 t,.int .i64 f,.int .i64 s,.int .i64 p],.int .i64 n,.int .i64 l,.func (.func g) #[] cb,v] w (Gives7 w (nul7,1)):=by
 have B2:=qhi (below_two7 w (.cells #[.int .i64 z,.int .i64 t,.int .i64 f,.int .i64 s,.int .i64 p] 58) (.cells #[.int .i64 0,.int .i64 0,.int .i64 0,.int .i64 0,.int .i64 0] 58))
 have HP:=qhi (held_first7 z t f s p 58 w (.cells #[.int .i64 0,.int .i64 0,.int .i64 0,.int .i64 0,.int .i64 0] 58))
 have HR:=qhi (held_second7 0 0 0 0 0 58 w (.cells #[.int .i64 z,.int .i64 t,.int .i64 f,.int .i64 s,.int .i64 p] 58))
 have RT:=qhi (fun w => right_b7 z t f s p _ hr w)
 have GT:=qhi (fun w => within_b7 n 1 1200 _ hg w)
 clear hg
 clear hr
 go_enter Tryz.func116,Tryz.ntmps116
 go_wp2_with fail
 refine (RT.out _).mono ?_
 rintro e w2 ⟨rfl,bn⟩
 have HP:=qhi (HP.out.below bn)
 have HR:=qhi (HR.out.below bn)
 have BB:=qhi (B2.out.trans (bn.mono B2.out.size))
 clear bn RT B2
 obtain ⟨r0,r1,r2,r3,r4⟩:=HR.out.facts
 obtain ⟨f0,f1,f2,f3,f4⟩:=HR.out.free
 go_wp2_with fail
 refine (GT.out _).mono ?_
 rintro e w3 ⟨rfl,rfl⟩
 go_wp2
 exact bodyPost_ret (v:=.tuple #[.agg #[.int .i64 0,.int .i64 0,.int .i64 0,.int .i64 0,.int .i64 0],.int .i64 1]) (by simp [results,Tryz.results116,go_sem,r0,r1,r2,r3,r4]) rfl ⟨rfl,below_five7 BB.out _ (Nat.le_succ _) _ _ _ _ _⟩
theorem ask_none (z t f s p n l z' t' f' s' p' : Int) (g : Nat) (cb : Array Value) (w : World) (eg : ∀ args w,(callFunc g args).run Tryz.prog w = .ok (.enter g args) w) (hr : rightB7 ⟨z,t,f,s,p⟩ = true) (hg : gramB n = true)
  (hc : ([] : List Int).all timeB = true → ¬ l < n → ∀ W : World,Below w.heap.size w W → Calls Tryz.prog g (#[.agg #[.int .i64 z,.int .i64 t,.int .i64 f,.int .i64 s,.int .i64 p]] ++ cb) W fun e w' => e = .returned (.agg #[.int .i64 z',.int .i64 t',.int .i64 f',.int .i64 s',.int .i64 p']) ∧ Below W.heap.size W w') :
  Calls Tryz.prog 116 #[.agg #[.int .i64 z,.int .i64 t,.int .i64 f,.int .i64 s,.int .i64 p],.int .i64 n,.int .i64 l,.func (.func g) #[] cb,.slice none 0 0] w (Gives7 w (askE [] n l ⟨z',t',f',s',p'⟩)):=by
 have B2:=qhi (below_two7 w (.cells #[.int .i64 z,.int .i64 t,.int .i64 f,.int .i64 s,.int .i64 p] 58) (.cells #[.int .i64 0,.int .i64 0,.int .i64 0,.int .i64 0,.int .i64 0] 58))
 have HP:=qhi (held_first7 z t f s p 58 w (.cells #[.int .i64 0,.int .i64 0,.int .i64 0,.int .i64 0,.int .i64 0] 58))
 have HR:=qhi (held_second7 0 0 0 0 0 58 w (.cells #[.int .i64 z,.int .i64 t,.int .i64 f,.int .i64 s,.int .i64 p] 58))
 obtain ⟨r,hE⟩ : ∃ r,askE [] n l ⟨z',t',f',s',p'⟩ = r:=⟨_,rfl⟩
 rw [hE]
 have HE:=qhi hE
 clear hE
 have RT:=qhi (fun w => right_b7 z t f s p _ hr w)
 have GT:=qhi (fun w => within_b7 n 1 1200 _ hg w)
 have HC:=qhi hc
 clear hr hg hc
 go_enter Tryz.func116,Tryz.ntmps116
 go_wp2_with fail
 refine (RT.out _).mono ?_
 rintro e w2 ⟨rfl,bn⟩
 have HP:=qhi (HP.out.below bn)
 have HR:=qhi (HR.out.below bn)
 have BB:=qhi (B2.out.trans (bn.mono B2.out.size))
 clear bn RT B2
 obtain ⟨r0,r1,r2,r3,r4⟩:=HR.out.facts
 obtain ⟨f0,f1,f2,f3,f4⟩:=HR.out.free
 obtain ⟨p0,p1,p2,p3,p4⟩:=HP.out.facts
 have hz : w.heap.size + 1 < w2.heap.size:=HR.out.lt
 go_wp2_with fail
 refine (GT.out _).mono ?_
 rintro e w3 ⟨rfl,rfl⟩
 go_wp2_with fail
 refine wp_loop_rounds 1 ?_
 rw [rounds_succ]
 by_cases hlt : l < n
 ·have d1 : decide (n > l) = true:=qdt hlt
  have HQ : Hid (r = (nul7,7)):=by
   show _ = _
   rw [← HE.out,askE,if_pos (by rfl),if_pos hlt]
  go_wp2
  rw [HQ.out]
  exact bodyPost_ret (v:=.tuple #[.agg #[.int .i64 0,.int .i64 0,.int .i64 0,.int .i64 0,.int .i64 0],.int .i64 7]) (by simp [results,Tryz.results116,go_sem,r0,r1,r2,r3,r4]) rfl ⟨rfl,below_five7 BB.out _ (Nat.le_succ _) _ _ _ _ _⟩
 ·have d1 : decide (n > l) = false:=qdf hlt
  have HQ : Hid (r = (⟨z',t',f',s',p'⟩,0)):=by
   show _ = _
   rw [← HE.out,askE,if_pos (by rfl),if_neg hlt]
  have HC:=qhi (HC.out rfl (by omega) _ BB.out)
  clear hlt
  go_wp2_with (go_at_fn g;refine HC.out.mono ?_;rintro e w3 ⟨rfl,bn⟩;have HR:=qhi (HR.out.below bn);have BB:=qhi (BB.out.trans (bn.mono BB.out.size));clear bn;obtain ⟨r0,r1,r2,r3,r4⟩:=HR.out.facts;obtain ⟨f0,f1,f2,f3,f4⟩:=HR.out.free)
  rw [HQ.out]
  exact bodyPost_ret (v:=.tuple #[.agg #[.int .i64 z',.int .i64 t',.int .i64 f',.int .i64 s',.int .i64 p'],.int .i64 0]) (by simp [results,Tryz.results116,go_sem,r0,r1,r2,r3,r4]) rfl ⟨rfl,below_five7 BB.out _ (Nat.le_succ _) _ _ _ _ _⟩
theorem ask_some (z t f s p n l z' t' f' s' p' : Int) (b o c : Nat) (xs : List Int) (g : Nat) (cb : Array Value) (w : World) (eg : ∀ args w,(callFunc g args).run Tryz.prog w = .ok (.enter g args) w) (hr : rightB7 ⟨z,t,f,s,p⟩ = true) (hg : gramB n = true)
  (hb : b < w.heap.size) (hx : xs.length ≤ c) (hm : c ≤ maxLen) (hcell : ∀ i,i < xs.length → w.cell? ⟨b,o + i,none⟩ = some (.int .i64 (xs.getD i 0)))
  (hc : xs.all timeB = true → ¬ l < n → ∀ W : World,Below w.heap.size w W → Calls Tryz.prog g (#[.agg #[.int .i64 z,.int .i64 t,.int .i64 f,.int .i64 s,.int .i64 p]] ++ cb) W fun e w' => e = .returned (.agg #[.int .i64 z',.int .i64 t',.int .i64 f',.int .i64 s',.int .i64 p']) ∧ Below W.heap.size W w') :
  Calls Tryz.prog 116 #[.agg #[.int .i64 z,.int .i64 t,.int .i64 f,.int .i64 s,.int .i64 p],.int .i64 n,.int .i64 l,.func (.func g) #[] cb,.slice (some ⟨b,o,none⟩) xs.length c] w (Gives7 w (askE xs n l ⟨z',t',f',s',p'⟩)):=by
 unfold maxLen at hm
 have B2:=qhi (below_two7 w (.cells #[.int .i64 z,.int .i64 t,.int .i64 f,.int .i64 s,.int .i64 p] 58) (.cells #[.int .i64 0,.int .i64 0,.int .i64 0,.int .i64 0,.int .i64 0] 58))
 have HP:=qhi (held_first7 z t f s p 58 w (.cells #[.int .i64 0,.int .i64 0,.int .i64 0,.int .i64 0,.int .i64 0] 58))
 have HR:=qhi (held_second7 0 0 0 0 0 58 w (.cells #[.int .i64 z,.int .i64 t,.int .i64 f,.int .i64 s,.int .i64 p] 58))
 obtain ⟨r,hE⟩ : ∃ r,askE xs n l ⟨z',t',f',s',p'⟩ = r:=⟨_,rfl⟩
 rw [hE]
 have HE:=qhi hE
 clear hE
 have RT:=qhi (fun w => right_b7 z t f s p _ hr w)
 have GT:=qhi (fun w => within_b7 n 1 1200 _ hg w)
 have HC:=qhi hc
 clear hr hg hc
 have HX:=qhi hcell
 clear hcell
 go_enter Tryz.func116,Tryz.ntmps116
 go_wp2_with fail
 refine (RT.out _).mono ?_
 rintro e w2 ⟨rfl,bn⟩
 have HP:=qhi (HP.out.below bn)
 have HR:=qhi (HR.out.below bn)
 have BB:=qhi (B2.out.trans (bn.mono B2.out.size))
 clear bn RT B2
 obtain ⟨r0,r1,r2,r3,r4⟩:=HR.out.facts
 obtain ⟨f0,f1,f2,f3,f4⟩:=HR.out.free
 obtain ⟨p0,p1,p2,p3,p4⟩:=HP.out.facts
 have hz : w.heap.size + 1 < w2.heap.size:=HR.out.lt
 have HX : Hid (∀ i,i < xs.length → w2.cell? ⟨b,o + i,none⟩ = some (.int .i64 (xs.getD i 0))):=fun i hi => (BB.out.cell (p:=⟨b,o + i,none⟩) hb).trans (HX.out i hi)
 go_wp2_with fail
 refine (GT.out _).mono ?_
 rintro e w3 ⟨rfl,rfl⟩
 go_wp2_with fail
 go_loop [25] (fun i => ∃ (k : Nat),i = .int .i64 k ∧ k ≤ xs.length ∧ (xs.drop k).all timeB = xs.all timeB) (fun i => xs.length - (intOf i).toNat)
 case atStart => exact ⟨0,rfl,Nat.zero_le _,by simp⟩
 case round =>
  obtain ⟨k,rfl,hk,hall⟩:=hrel
  have HA:=qhi hall
  clear hall
  by_cases hlt : k < xs.length
  ·have hd : xs.drop k = xs.getD k 0 :: xs.drop (k + 1):=by rw [List.drop_eq_getElem_cons hlt];simp [List.getD,hlt]
   have q0:=HX.out k hlt
   generalize xs.getD k 0 = x at hd q0
   have hi1 : (k : Int) < (xs.length : Int):=by omega
   have hw1 : IntKind.i64.wrap ((k : Int) + 1) = (k : Int) + 1:=wraps_i64'7 _ (by omega) (by omega)
   have HD:=qhi hd
   clear hd
   cases h1 : timeB x
   ·have HQ : Hid (r = (nul7,1)):=by
     have e1 : xs.all timeB = false:=by rw [← HA.out,HD.out,List.all_cons,h1];rfl
     show _ = _
     rw [← HE.out,askE,if_neg (by rw [e1];simp)]
    have WT:=qhi (fun w => within_b7 x 0 1099511627776 _ h1 w)
    clear h1
    go_wp2_with fail
    refine (WT.out _).mono ?_
    rintro e w3 ⟨rfl,rfl⟩
    go_wp2
    rw [HQ.out]
    exact bodyPost_ret (v:=.tuple #[.agg #[.int .i64 0,.int .i64 0,.int .i64 0,.int .i64 0,.int .i64 0],.int .i64 1]) (by simp [results,Tryz.results116,go_sem,r0,r1,r2,r3,r4]) rfl ⟨rfl,below_five7 BB.out _ (Nat.le_succ _) _ _ _ _ _⟩
   ·have HF : Hid ((xs.drop (k + 1)).all timeB = xs.all timeB):=by
     show _ = _;rw [← HA.out,HD.out,List.all_cons,h1,Bool.true_and]
    have WT:=qhi (fun w => within_b7 x 0 1099511627776 _ h1 w)
    clear h1
    go_wp2_with fail
    refine (WT.out _).mono ?_
    rintro e w3 ⟨rfl,rfl⟩
    go_wp2
    go_round
    case rel => exact ⟨k + 1,by go_num,by omega,HF.out⟩
    case measure => simp [intOf,hw1];omega
  ·have hk2 : k = xs.length:=by omega
   have HA : Hid (xs.all timeB = true):=by
    show _ = _;rw [← HA.out,hk2,List.drop_length];rfl
   clear hk2
   by_cases hlt : l < n
   ·have d1 : decide (n > l) = true:=qdt hlt
    have HQ : Hid (r = (nul7,7)):=by
     show _ = _
     rw [← HE.out,askE,if_pos HA.out,if_pos hlt]
    go_wp2
    rw [HQ.out]
    exact bodyPost_ret (v:=.tuple #[.agg #[.int .i64 0,.int .i64 0,.int .i64 0,.int .i64 0,.int .i64 0],.int .i64 7]) (by simp [results,Tryz.results116,go_sem,r0,r1,r2,r3,r4]) rfl ⟨rfl,below_five7 BB.out _ (Nat.le_succ _) _ _ _ _ _⟩
   ·have d1 : decide (n > l) = false:=qdf hlt
    have HQ : Hid (r = (⟨z',t',f',s',p'⟩,0)):=by
     show _ = _
     rw [← HE.out,askE,if_pos HA.out,if_neg hlt]
    have HC:=qhi (HC.out HA.out (by omega) _ BB.out)
    clear hlt
    go_wp2_with (go_at_fn g;refine HC.out.mono ?_;rintro e w3 ⟨rfl,bn⟩;have HR:=qhi (HR.out.below bn);have BB:=qhi (BB.out.trans (bn.mono BB.out.size));clear bn;obtain ⟨r0,r1,r2,r3,r4⟩:=HR.out.facts;obtain ⟨f0,f1,f2,f3,f4⟩:=HR.out.free)
    rw [HQ.out]
    exact bodyPost_ret (v:=.tuple #[.agg #[.int .i64 z',.int .i64 t',.int .i64 f',.int .i64 s',.int .i64 p'],.int .i64 0]) (by simp [results,Tryz.results116,go_sem,r0,r1,r2,r3,r4]) rfl ⟨rfl,below_five7 BB.out _ (Nat.le_succ _) _ _ _ _ _⟩
def HeldI (b : Nat) (x : Int) (W : World) : Prop:=∃ T,W.heap[b]? = some (.cells #[.int .i64 x] T (0,0))
theorem heldI_last (x : Int) (T : TypeId) (w : World) : HeldI w.heap.size x (w.alloc (.cells #[.int .i64 x] T)):=⟨T,by show (w.heap.push _)[w.heap.size]? = _;simp⟩
theorem HeldI.lt {b : Nat} {x : Int} {W : World} (H : HeldI b x W) : b < W.heap.size:=by
 obtain ⟨T,e⟩:=H
 exact (qgs e).1
theorem HeldI.below {b : Nat} {x : Int} {W W' : World} (H : HeldI b x W) (hb : Below W.heap.size W W') : HeldI b x W':=by
 have k:=H.lt
 obtain ⟨T,e⟩:=H
 exact ⟨T,by rw [hb.block b k];exact e⟩
theorem HeldI.alloc {b : Nat} {x : Int} {W : World} (H : HeldI b x W) (o : Obj) : HeldI b x (W.alloc o):=H.below ((qbr _ _).alloc (qlr _) _)
theorem HeldI.cell {b : Nat} {x : Int} {W : World} (H : HeldI b x W) : W.cell? ⟨b,0,none⟩ = some (.int .i64 x):=by
 obtain ⟨T,e⟩:=H
 simp [World.cell?,e]
theorem HeldI.other {b : Nat} {x : Int} {W : World} (H : HeldI b x W) {a : Addr} (hp : a.block ≠ b) (u : Value) : HeldI b x (W.setCell a u):=by
 obtain ⟨T,e⟩:=H
 exact ⟨T,by simp [World.setCell,Array.getElem?_modify,hp,e]⟩
theorem HeldI.others {b : Nat} {x : Int} {W : World} (H : HeldI b x W) (c : Nat) (hc : c ≠ b) (v0 v1 v2 v3 v4 : Value) :
  HeldI b x (((((W.setCell ⟨c,0,none⟩ v0).setCell ⟨c,1,none⟩ v1).setCell ⟨c,2,none⟩ v2).setCell ⟨c,3,none⟩ v3).setCell ⟨c,4,none⟩ v4) :=
 ((((H.other hc v0).other hc v1).other hc v2).other hc v3).other hc v4
theorem heldI_at {b : Nat} (x : Int) (T : TypeId) (w : World) (hb : b = w.heap.size) : HeldI b x (w.alloc (.cells #[.int .i64 x] T)):=hb ▸ heldI_last x T w
theorem held_at7 {b : Nat} (z t f s p : Int) (T : TypeId) (w : World) (hb : b = w.heap.size) : Held7 b z t f s p (w.alloc (.cells #[.int .i64 z,.int .i64 t,.int .i64 f,.int .i64 s,.int .i64 p] T)):=hb ▸ held_last7 z t f s p T w
theorem bad {q : St7} {n : Int} (h : ¬ (rightB7 q && gramB n) = true) : (rightB7 q = false) ∨ (rightB7 q = true ∧ gramB n = false):=by
 cases h1 : rightB7 q <;> cases h2 : gramB n <;> simp_all
theorem ask_gone (z t f s p n : Int) (b : Nat) (W : World) (hb : HeldI b n W) :
  Calls Tryz.prog 116 #[.agg #[.int .i64 z,.int .i64 t,.int .i64 f,.int .i64 s,.int .i64 p],.int .i64 n,.int .i64 f,.func (.func 147) #[] #[.pointer (some ⟨b,0,none⟩)],.slice none 0 0] W (Gives7 W (goneE ⟨z,t,f,s,p⟩ n)):=by
 by_cases hg : (rightB7 ⟨z,t,f,s,p⟩ && gramB n) = true
 rotate_left
 ·rw [goneE,if_neg hg]
  rcases bad hg with h | ⟨h1,h2⟩
  ·exact ask_right z t f s p n _ _ _ _ W h
  ·exact ask_bytes z t f s p n _ _ _ _ W h1 h2
 rw [goneE,if_pos hg]
 simp only [Bool.and_eq_true] at hg
 obtain ⟨hr,hn⟩:=hg
 obtain ⟨_,_,⟨hf,hf'⟩,_⟩:=right_iff.1 hr
 obtain ⟨h1,h2⟩:=in_iff.1 hn
 dsimp only at hf hf'
 exact ask_none z t f s p n _ _ _ _ _ _ _ _ W (enters_of Tryz.func147 (by kernel_rfl) rfl) hr hn fun _ hlt W' bW => by
  have hb':=hb.below bW
  exact gonecl_any z t f s p n b W' hf hf' h1 h2 hb'.lt hb'.cell
theorem ask_sent (z t f s p n : Int) (m : Int) (hm : roomI ⟨z,t,f,s,p⟩ = m) (b : Nat) (W : World) (hb : HeldI b n W) :
  Calls Tryz.prog 116 #[.agg #[.int .i64 z,.int .i64 t,.int .i64 f,.int .i64 s,.int .i64 p],.int .i64 n,.int .i64 m,.func (.func 117) #[] #[.pointer (some ⟨b,0,none⟩)],.slice none 0 0] W (Gives7 W (sentE7 ⟨z,t,f,s,p⟩ n)):=by
 by_cases hg : (rightB7 ⟨z,t,f,s,p⟩ && gramB n) = true
 rotate_left
 ·rw [sentE7,if_neg hg]
  rcases bad hg with h | ⟨h1,h2⟩
  ·exact ask_right z t f s p n _ _ _ _ W h
  ·exact ask_bytes z t f s p n _ _ _ _ W h1 h2
 rw [sentE7,if_pos hg]
 simp only [Bool.and_eq_true] at hg
 obtain ⟨hr,hn⟩:=hg
 obtain ⟨_,_,⟨hf,hf'⟩,_⟩:=right_iff.1 hr
 obtain ⟨h1,h2⟩:=in_iff.1 hn
 dsimp only at hf hf'
 rw [hm]
 exact ask_none z t f s p n _ _ _ _ _ _ _ _ W (enters_of Tryz.func117 (by kernel_rfl) rfl) hr hn fun _ hlt W' bW => by
  have hb':=hb.below bW
  exact sentcl_any z t f s p n b W' hf hf' h1 h2 hb'.lt hb'.cell
theorem ask_lost (z t f s p n a now : Int) (b ba bw bs : Nat) (W : World) (hb : HeldI b n W) (ha : HeldI ba a W) (hw : HeldI bw now W) (hs : bs < W.heap.size) (hs0 : W.cell? ⟨bs,0,none⟩ = some (.int .i64 a)) (hs1 : W.cell? ⟨bs,1,none⟩ = some (.int .i64 now)) :
  Calls Tryz.prog 116 #[.agg #[.int .i64 z,.int .i64 t,.int .i64 f,.int .i64 s,.int .i64 p],.int .i64 n,.int .i64 f,.func (.func 143) #[] #[.pointer (some ⟨b,0,none⟩),.pointer (some ⟨ba,0,none⟩),.pointer (some ⟨bw,0,none⟩)],.slice (some ⟨bs,0,none⟩) 2 2] W (Gives7 W (lostE ⟨z,t,f,s,p⟩ n a now)):=by
 by_cases hg : (rightB7 ⟨z,t,f,s,p⟩ && gramB n) = true
 rotate_left
 ·rw [lostE,if_neg hg]
  rcases bad hg with h | ⟨h1,h2⟩
  ·exact ask_right z t f s p n _ _ _ _ W h
  ·exact ask_bytes z t f s p n _ _ _ _ W h1 h2
 rw [lostE,if_pos hg]
 simp only [Bool.and_eq_true] at hg
 obtain ⟨hr,hn⟩:=hg
 obtain ⟨_,_,⟨hf,hf'⟩,_⟩:=right_iff.1 hr
 obtain ⟨h1,h2⟩:=in_iff.1 hn
 dsimp only at hf hf'
 have e : (if (timeB a && timeB now) = true then (if f < n then (nul7,7) else (lostQ ⟨z,t,f,s,p⟩ n a now,0)) else (nul7,1) : St7 × Int) = askE [a,now] n f (lostQ ⟨z,t,f,s,p⟩ n a now):=by simp [askE]
 dsimp only
 rw [e]
 obtain ⟨q,hq⟩ : ∃ q,lostQ ⟨z,t,f,s,p⟩ n a now = q:=⟨_,rfl⟩
 rw [hq]
 obtain ⟨z',t',f',s',p'⟩:=q
 exact ask_some z t f s p n f z' t' f' s' p' bs 0 2 [a,now] _ _ W (enters_of Tryz.func143 (by kernel_rfl) rfl) hr hn hs (qlr _) (by decide) (fun i hi => by
   rcases (show i = 0 ∨ i = 1 by simp only [List.length_cons,List.length_nil] at hi;omega) with rfl | rfl
   ·exact hs0
   ·exact hs1) fun hall hlt W' bW => by
  have hb':=hb.below bW
  have ha':=ha.below bW
  have hw':=hw.below bW
  have hl : n ≤ f:=by omega
  have hnow : timeB now = true:=by
   simp only [List.all_cons,List.all_nil,Bool.and_true,Bool.and_eq_true] at hall
   exact hall.2
  unfold lostQ at hq
  dsimp only at hq
  by_cases hc : a < s
  ·rw [if_pos hc] at hq
   simp only [lessQ,St7.mk.injEq] at hq
   obtain ⟨rfl,rfl,rfl,rfl,rfl⟩:=hq
   exact lostcl_a z t f s p n a now b ba bw W' hf hf' h1 h2 hb'.lt hb'.cell ha'.lt ha'.cell hw'.lt hw'.cell (qdf (by omega))
  ·rw [if_neg hc] at hq
   refine lostcl_b z t f s p n a now z' t' f' s' p' b ba bw W' hf hf' h1 h2 hb'.lt hb'.cell ha'.lt ha'.cell hw'.lt hw'.cell (qdt (by omega)) fun w => ?_
   have:=fallen_any z t (f - n) s p now w (less_right hr h1 hl) hnow
   rw [show (⟨z,t,f - n,s,p⟩ : St7) = lessQ ⟨z,t,f,s,p⟩ n from rfl,hq] at this
   exact this
theorem sent_eq {z t f s p n z' t' f' s' p' e' : Int} (he : sentE7 ⟨z,t,f,s,p⟩ n = (⟨z',t',f',s',p'⟩,e')) (w : World) :
  Calls Tryz.prog 73 #[.agg #[.int .i64 z,.int .i64 t,.int .i64 f,.int .i64 s,.int .i64 p],.int .i64 n] w fun e w' => e = .returned (.tuple #[.agg #[.int .i64 z',.int .i64 t',.int .i64 f',.int .i64 s',.int .i64 p'],.int .i64 e']) ∧ Below w.heap.size w w':=by
 have BB:=qhi (below_more (below_more (below_one7 w (.cells #[.int .i64 z,.int .i64 t,.int .i64 f,.int .i64 s,.int .i64 p] 58)) (qlr _) (.cells #[.int .i64 n] 3)) (qlr _) (.cells #[.int .i64 0,.int .i64 0,.int .i64 0,.int .i64 0,.int .i64 0] 58))
 have HP:=qhi (((held_last7 z t f s p 58 w).alloc (.cells #[.int .i64 n] 3)).alloc (.cells #[.int .i64 0,.int .i64 0,.int .i64 0,.int .i64 0,.int .i64 0] 58))
 have HN:=qhi ((heldI_at (b:=w.heap.size + 1) n 3 (w.alloc (.cells #[.int .i64 z,.int .i64 t,.int .i64 f,.int .i64 s,.int .i64 p] 58)) (by simp)).alloc (.cells #[.int .i64 0,.int .i64 0,.int .i64 0,.int .i64 0,.int .i64 0] 58))
 have HR:=qhi (held_at7 (b:=w.heap.size + 2) 0 0 0 0 0 58 ((w.alloc (.cells #[.int .i64 z,.int .i64 t,.int .i64 f,.int .i64 s,.int .i64 p] 58)).alloc (.cells #[.int .i64 n] 3)) (by simp))
 obtain ⟨m,hm⟩ : ∃ m,roomI ⟨z,t,f,s,p⟩ = m:=⟨_,rfl⟩
 have RM:=qhi (fun w => room_b' z t f s p m hm w)
 have A:=qhi (ask_sent z t f s p n m hm (w.heap.size + 1))
 rw [he] at A
 clear he hm
 go_enter Tryz.func73,Tryz.ntmps73
 go_wp2_with fail
 generalize (((w.alloc (.cells #[.int .i64 z,.int .i64 t,.int .i64 f,.int .i64 s,.int .i64 p] 58)).alloc (.cells #[.int .i64 n] 3)).alloc (.cells #[.int .i64 0,.int .i64 0,.int .i64 0,.int .i64 0,.int .i64 0] 58)) = w5 at HP HN HR BB ⊢
 have HP : Hid (Held7 w.heap.size z t f s p w5.drew):=HP
 have HN : Hid (HeldI (w.heap.size + 1) n w5.drew):=HN
 have HR : Hid (Held7 (w.heap.size + 2) 0 0 0 0 0 w5.drew):=HR
 have BB:=qhi (BB.out.drew)
 obtain ⟨p0,p1,p2,p3,p4⟩:=HP.out.facts
 have n0:=HN.out.cell
 go_region_held3 (fun w' => w'.cell? ⟨w.heap.size,0,none⟩ = some (.int .i64 z) ∧ w'.cell? ⟨w.heap.size,1,none⟩ = some (.int .i64 t) ∧ w'.cell? ⟨w.heap.size,2,none⟩ = some (.int .i64 f) ∧ w'.cell? ⟨w.heap.size,3,none⟩ = some (.int .i64 s) ∧ w'.cell? ⟨w.heap.size,4,none⟩ = some (.int .i64 p) ∧ w'.cell? ⟨w.heap.size + 1,0,none⟩ = some (.int .i64 n))
  (first
   | (with_reducible exact ⟨p0,p1,p2,p3,p4,n0⟩)
   | (with_reducible exact ⟨K5.1,K5.2.1,K5.2.2.1,K5.2.2.2.1,K5.2.2.2.2,K6⟩))
  (first
   | (go_at_call 67;refine (RM.out _).mono ?_;rintro e wn ⟨rfl,bn⟩;have HP:=qhi (HP.out.below bn);have HN:=qhi (HN.out.below bn);have HR:=qhi (HR.out.below bn);have BB:=qhi (BB.out.trans (bn.mono BB.out.size));clear bn;obtain ⟨p0,p1,p2,p3,p4⟩:=HP.out.facts;have n0:=HN.out.cell;obtain ⟨r0,r1,r2,r3,r4⟩:=HR.out.facts;obtain ⟨f0,f1,f2,f3,f4⟩:=HR.out.free)
   | (go_at_call 116;refine (A.out _ HN.out).mono ?_;rintro e wn ⟨rfl,bn⟩;have HP:=qhi (HP.out.below bn);have HN:=qhi (HN.out.below bn);have HR:=qhi (HR.out.below bn);have BB:=qhi (BB.out.trans (bn.mono BB.out.size));clear bn;obtain ⟨p0,p1,p2,p3,p4⟩:=HP.out.facts;have n0:=HN.out.cell;obtain ⟨r0,r1,r2,r3,r4⟩:=HR.out.facts;obtain ⟨f0,f1,f2,f3,f4⟩:=HR.out.free;have K5:=(HP.out.others (w.heap.size + 2) (by omega) (.int .i64 z') (.int .i64 t') (.int .i64 f') (.int .i64 s') (.int .i64 p')).facts;have K6:=(HN.out.others (w.heap.size + 2) (by omega) (.int .i64 z') (.int .i64 t') (.int .i64 f') (.int .i64 s') (.int .i64 p')).cell))
 all_goals
  go_wp2
  exact bodyPost_ret (v:=.tuple #[.agg #[.int .i64 z',.int .i64 t',.int .i64 f',.int .i64 s',.int .i64 p'],.int .i64 e']) (by simp [results,Tryz.results73,go_sem,r0,r1,r2,r3,r4]) rfl ⟨rfl,below_five7 BB.out _ (by omega) _ _ _ _ _⟩
end Go.Proofs.YtmcomdmcmnbhlaaGreatDoor
