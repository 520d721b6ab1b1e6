/- Walks of layer 7: a number from one to another; blocks that hold a window. -/
import Derived.Test.YtiglhdiclfknhaaCgM
set_option linter.unusedSimpArgs false
set_option linter.unusedVariables false
namespace Go.Proofs.Ytiglhdiclfknhaa
open Go.RowKit

theorem wraps_i64' (n : Int) (h₀ : -9223372036854775808 ≤ n) (h₁ : n < 9223372036854775808) : IntKind.i64.wrap n = n := by rw [IntKind.wrap_i64]; omega

theorem within_any (n a b : Int) (w : World) :
    Calls Try.prog 27 #[.int .i64 n, .int .i64 a, .int .i64 b] w fun e w' => e = .returned (.bool (inB n a b)) ∧ w' = w := by
  by_cases h1 : a ≤ n
  · have e1 : decide (a ≤ n) = true := decide_eq_true h1
    have e3 : inB n a b = decide (n ≤ b) := by simp [inB, h1]
    rw [e3]
    clear e3
    go_enter Try.func27, Try.ntmps27
    go_wp2
    go_ret
    exact ⟨rfl, rfl⟩
  · have e1 : decide (a ≤ n) = false := decide_eq_false h1
    have e3 : inB n a b = false := by simp [inB, h1]
    rw [e3]
    clear h1 e3
    go_enter Try.func27, Try.ntmps27
    go_wp2
    go_ret
    exact ⟨rfl, rfl⟩
theorem within_b (n a b : Int) (r : Bool) (hr : inB n a b = r) (w : World) : Calls Try.prog 27 #[.int .i64 n, .int .i64 a, .int .i64 b] w fun e w' => e = .returned (.bool r) ∧ w' = w := hr ▸ within_any n a b w

theorem bytes_any (n : Int) (w : World) :
    Calls Try.prog 30 #[.int .i64 n] w fun e w' => e = .returned (.bool (gramB n)) ∧ w' = w := by
  by_cases h1 : 1 ≤ n
  · have e1 : decide (n ≥ 1) = true := decide_eq_true h1
    have e3 : gramB n = decide (n ≤ 1200) := by simp [gramB, inB, h1]
    rw [e3]
    clear e3
    go_enter Try.func30, Try.ntmps30
    go_wp2
    go_ret
    exact ⟨rfl, rfl⟩
  · have e1 : decide (n ≥ 1) = false := decide_eq_false h1
    have e3 : gramB n = false := by simp [gramB, inB, h1]
    rw [e3]
    clear h1 e3
    go_enter Try.func30, Try.ntmps30
    go_wp2
    go_ret
    exact ⟨rfl, rfl⟩
theorem bytes_b (n : Int) (r : Bool) (hr : gramB n = r) (w : World) : Calls Try.prog 30 #[.int .i64 n] w fun e w' => e = .returned (.bool r) ∧ w' = w := hr ▸ bytes_any n w

theorem time_any (n : Int) (w : World) :
    Calls Try.prog 35 #[.int .i64 n] w fun e w' => e = .returned (.bool (timeB n)) ∧ w' = w := by
  by_cases h1 : 0 ≤ n
  · have e1 : decide (n ≥ 0) = true := decide_eq_true h1
    have e3 : timeB n = decide (n ≤ 1099511627776) := by simp [timeB, inB, h1]
    rw [e3]
    clear e3
    go_enter Try.func35, Try.ntmps35
    go_wp2
    go_ret
    exact ⟨rfl, rfl⟩
  · have e1 : decide (n ≥ 0) = false := decide_eq_false h1
    have e3 : timeB n = false := by simp [timeB, inB, h1]
    rw [e3]
    clear h1 e3
    go_enter Try.func35, Try.ntmps35
    go_wp2
    go_ret
    exact ⟨rfl, rfl⟩
theorem time_b (n : Int) (r : Bool) (hr : timeB n = r) (w : World) : Calls Try.prog 35 #[.int .i64 n] w fun e w' => e = .returned (.bool r) ∧ w' = w := hr ▸ time_any n w

/-- a block that holds a window -/
def Held (b : Nat) (z t f s p : Int) (W : World) : Prop := ∃ T, W.heap[b]? = some (.cells #[.int .i64 z, .int .i64 t, .int .i64 f, .int .i64 s, .int .i64 p] T (0, 0))
theorem held_last (z t f s p : Int) (T : TypeId) (w : World) : Held w.heap.size z t f s p (w.alloc (.cells #[.int .i64 z, .int .i64 t, .int .i64 f, .int .i64 s, .int .i64 p] T)) :=
  ⟨T, by show (w.heap.push _)[w.heap.size]? = _; simp⟩
theorem Held.lt {b : Nat} {z t f s p : Int} {W : World} (H : Held b z t f s p W) : b < W.heap.size := by
  obtain ⟨T, e⟩ := H
  exact (Array.getElem?_eq_some_iff.1 e).1
theorem Held.below {b : Nat} {z t f s p : Int} {W W' : World} (H : Held b z t f s p W) (hb : Below W.heap.size W W') : Held b z t f s p W' := by
  have k := H.lt
  obtain ⟨T, e⟩ := H
  exact ⟨T, by rw [hb.block b k]; exact e⟩
theorem Held.alloc {b : Nat} {z t f s p : Int} {W : World} (H : Held b z t f s p W) (o : Obj) : Held b z t f s p (W.alloc o) := H.below ((Below.refl _ _).alloc (Nat.le_refl _) _)
theorem held_first (z t f s p : Int) (T : TypeId) (w : World) (o : Obj) : Held w.heap.size z t f s p ((w.alloc (.cells #[.int .i64 z, .int .i64 t, .int .i64 f, .int .i64 s, .int .i64 p] T)).alloc o) := (held_last z t f s p T w).alloc o
theorem held_second (z t f s p : Int) (T : TypeId) (w : World) (a : Obj) : Held (w.heap.size + 1) z t f s p ((w.alloc a).alloc (.cells #[.int .i64 z, .int .i64 t, .int .i64 f, .int .i64 s, .int .i64 p] T)) := by
  have := held_last z t f s p T (w.alloc a)
  simpa using this
theorem Held.facts {b : Nat} {z t f s p : Int} {W : World} (H : Held b z t f s p W) :
    W.cell? ⟨b, 0, none⟩ = some (.int .i64 z) ∧ W.cell? ⟨b, 1, none⟩ = some (.int .i64 t) ∧ W.cell? ⟨b, 2, none⟩ = some (.int .i64 f) ∧ W.cell? ⟨b, 3, none⟩ = some (.int .i64 s) ∧ W.cell? ⟨b, 4, none⟩ = some (.int .i64 p) := by
  obtain ⟨T, e⟩ := H
  simp [World.cell?, e]
theorem Held.free {b : Nat} {z t f s p : Int} {W : World} (H : Held b z t f s p W) :
    W.frozen? ⟨b, 0, none⟩ = false ∧ W.frozen? ⟨b, 1, none⟩ = false ∧ W.frozen? ⟨b, 2, none⟩ = false ∧ W.frozen? ⟨b, 3, none⟩ = false ∧ W.frozen? ⟨b, 4, none⟩ = false := by
  obtain ⟨T, e⟩ := H
  simp [World.frozen?, e]
theorem Held.other {b : Nat} {z t f s p : Int} {W : World} (H : Held b z t f s p W) {a : Addr} (hp : a.block ≠ b) (u : Value) : Held b z t f s p (W.setCell a u) := by
  obtain ⟨T, e⟩ := H
  exact ⟨T, by simp [World.setCell, Array.getElem?_modify, hp, e]⟩
theorem Held.others {b : Nat} {z t f s p : Int} {W : World} (H : Held b z t f s p W) (c : Nat) (hc : c ≠ b) (v0 v1 v2 v3 v4 : Value) :
    Held b z t f s p (((((W.setCell ⟨c, 0, none⟩ v0).setCell ⟨c, 1, none⟩ v1).setCell ⟨c, 2, none⟩ v2).setCell ⟨c, 3, none⟩ v3).setCell ⟨c, 4, none⟩ v4) :=
  ((((H.other hc v0).other hc v1).other hc v2).other hc v3).other hc v4
/-- all of a block is written over -/
theorem Held.set {b : Nat} {z t f s p : Int} {W : World} (H : Held b z t f s p W) (z' t' f' s' p' : Int) :
    Held b z' t' f' s' p' (((((W.setCell ⟨b, 0, none⟩ (.int .i64 z')).setCell ⟨b, 1, none⟩ (.int .i64 t')).setCell ⟨b, 2, none⟩ (.int .i64 f')).setCell ⟨b, 3, none⟩ (.int .i64 s')).setCell ⟨b, 4, none⟩ (.int .i64 p')) := by
  obtain ⟨T, e⟩ := H
  exact ⟨T, by simp [World.setCell, Array.getElem?_modify, e]⟩
theorem Held.set0 {b : Nat} {z t f s p : Int} {W : World} (H : Held b z t f s p W) (x : Int) : Held b x t f s p (W.setCell ⟨b, 0, none⟩ (.int .i64 x)) := by
  obtain ⟨T, e⟩ := H
  exact ⟨T, by simp [World.setCell, Array.getElem?_modify, e]⟩
theorem Held.set2 {b : Nat} {z t f s p : Int} {W : World} (H : Held b z t f s p W) (x : Int) : Held b z t x s p (W.setCell ⟨b, 2, none⟩ (.int .i64 x)) := by
  obtain ⟨T, e⟩ := H
  exact ⟨T, by simp [World.setCell, Array.getElem?_modify, e]⟩
theorem Held.set4 {b : Nat} {z t f s p : Int} {W : World} (H : Held b z t f s p W) (x : Int) : Held b z t f s x (W.setCell ⟨b, 4, none⟩ (.int .i64 x)) := by
  obtain ⟨T, e⟩ := H
  exact ⟨T, by simp [World.setCell, Array.getElem?_modify, e]⟩
theorem Held.drew {b : Nat} {z t f s p : Int} {W : World} (H : Held b z t f s p W) : Held b z t f s p W.drew := H
/-- five cells of one block are written over -/
theorem below_five {B : Nat} {w w' : World} (h : Below B w w') (b : Nat) (hb : B ≤ b) (v0 v1 v2 v3 v4 : Value) : Below B w (((((w'.setCell ⟨b, 0, none⟩ v0).setCell ⟨b, 1, none⟩ v1).setCell ⟨b, 2, none⟩ v2).setCell ⟨b, 3, none⟩ v3).setCell ⟨b, 4, none⟩ v4) :=
  ((((h.setCell hb _).setCell hb _).setCell hb _).setCell hb _).setCell hb _
theorem below_one (w : World) (a : Obj) : Below w.heap.size w (w.alloc a) := (Below.refl _ _).alloc (Nat.le_refl _) _
theorem below_two (w : World) (a b : Obj) : Below w.heap.size w ((w.alloc a).alloc b) := ((Below.refl _ _).alloc (Nat.le_refl _) _).alloc (by simp) _
theorem below_more {B : Nat} {w w' : World} (h : Below B w w') (hB : B ≤ w.heap.size) (a : Obj) : Below B w (w'.alloc a) := h.alloc (Nat.le_trans hB h.size) _
end Go.Proofs.Ytiglhdiclfknhaa
