/- Walks of layer 4: the reader's small steps. -/
import Derived.Test.YtfkkimaebhjneaaDoorNum
import Derived.Test.YtfkkimaebhjneaaDoorRow
import Derived.StillTailTactics
import Derived.Deep.RegionWith
import Derived.Laws.Rows
import Derived.WalkLawsBesides
import Derived.Lib.SmallJoins
import Derived.Deep.RegionHeld3
set_option linter.unusedSimpArgs false
set_option linter.unusedVariables false
namespace Go.Proofs.YtfkkimaebhjneaaDoor
open Go.RowKit

/-- a fault, as a panic bears it -/
def faultP (why at_ : Int) : List PanicEntry := [{ v := .iface 37 (.agg #[.int .i64 why, .int .i64 at_]), recovered := false }]

theorem breakOff_any (p : Value) (why at_ : Int) (w : World) :
    Calls Tryd.prog 34 #[p, .int .i64 why, .int .i64 at_] w fun e w' => e = .panicked (faultP why at_) ∧ w = w' := by
  go_enter Tryd.func34, Tryd.ntmps34
  go_wp2
  exact ⟨rfl, rfl, rfl⟩

/-- THE READER AT BLOCK p STANDS AT a IN THE BYTES v -/
structure At (w : World) (p : Nat) (v : Value) (a : Int) : Prop where
  is : w.heap[p]? = some (.cells #[v, .int .i64 a] 63 (0, 0))
theorem At.c0 {w : World} {p : Nat} {v : Value} {a : Int} (h : At w p v a) : w.cell? ⟨p, 0, none⟩ = some v := (Joins.cell_of_block h.is 0).trans rfl
theorem At.c1 {w : World} {p : Nat} {v : Value} {a : Int} (h : At w p v a) : w.cell? ⟨p, 1, none⟩ = some (.int .i64 a) := (Joins.cell_of_block h.is 1).trans rfl
theorem At.lt {w : World} {p : Nat} {v : Value} {a : Int} (h : At w p v a) : p < w.heap.size := (Array.getElem?_eq_some_iff.1 h.is).1
theorem At.fz {w : World} {p : Nat} {v : Value} {a : Int} (h : At w p v a) (j : Nat) : w.frozen? ⟨p, j, none⟩ = false := Joins.unfrozen_of_block h.is j
theorem At.set {w : World} {p : Nat} {v : Value} {a : Int} (h : At w p v a) (x : Int) : At (w.setCell ⟨p, 1, none⟩ (.int .i64 x)) p v x := ⟨heap_setCell_same w p 1 _ _ (.int .i64 x) h.is⟩
theorem At.set' {w : World} {p : Nat} {v : Value} {a x y : Int} (h : At w p v a) (e : y = x) : At (w.setCell ⟨p, 1, none⟩ (.int .i64 y)) p v x := by subst e; exact h.set y
theorem At.alloc {w : World} {p : Nat} {v : Value} {a : Int} (h : At w p v a) (o : Obj) : At (w.alloc o) p v a := ⟨(Below.heap_alloc w o p h.lt).trans h.is⟩
theorem At.other {w : World} {p : Nat} {v : Value} {a : Int} (h : At w p v a) {q : Addr} (hq : p ≠ q.block) (x : Value) : At (w.setCell q x) p v a := ⟨(Below.heap_setCell _ _ _ _ hq).trans h.is⟩
theorem At.kept {w w' : World} {p : Nat} {v : Value} {a : Int} (h : At w p v a) (hb : Below w.heap.size w w') : At w' p v a := ⟨(hb.block p h.lt).trans h.is⟩

/-- the number at place i and the place behind it, or what is wrong -/
def num (xs : List Int) (i : Nat) : Except (Int × Int) (Int × Nat) := match getS xs i with
  | some (n, W) => .ok (n, i + W)
  | none => .error (3, xs.length)

/-- WHAT A STEP OF THE READER COMES TO: V: the value of what was read -/
def StepIs {α : Type} (V : α → World → Value → Prop) (w : World) (p : Nat) (v : Value) (r : Except (Int × Int) (α × Nat)) (e : Ending) (w' : World) : Prop :=
  w.grownBy w' (some p) ∧ match r with
  | .ok (x, i) => (∃ u, e = .returned u ∧ V x w' u) ∧ At w' p v i
  | .error (why, at_) => e = .panicked (faultP why at_)
def intV (n : Int) (_ : World) (u : Value) : Prop := u = .int .i64 n

theorem held_at {w V : World} {p : Nat} {v : Value} {a : Int} (h : Hid (At w p v a)) (hB : Below w.heap.size w V) : V.cell? ⟨p, 0, none⟩ = some v ∧ V.cell? ⟨p, 1, none⟩ = some (.int .i64 a) ∧ Below w.heap.size w V :=
  ⟨(h.out.kept hB).c0, (h.out.kept hB).c1, hB⟩
theorem below_of0 {w w1 : World} (b : Below w.drew.heap.size w.drew w1) : Below w.heap.size w w1 := ⟨b.os, b.tape, b.output, b.size, b.block⟩
theorem below_of' {w w1 : World} {o : Obj} (b : Below (w.alloc o).drew.heap.size (w.alloc o).drew w1) : Below w.heap.size w w1 :=
  (below_drewN ((Below.refl _ _).alloc (Nat.le_refl _) _) 1).trans (b.mono (by simp [World.drew]))
theorem new_block {w w1 : World} {o : Obj} (b : Below (w.alloc o).drew.heap.size (w.alloc o).drew w1) : w1.heap[w.heap.size]? = some o :=
  (b.block w.heap.size (by simp [World.drew])).trans (by show (w.heap.push o)[w.heap.size]? = _; simp)
theorem Rd.heap {k : IntKind} {w W : World} {v : Value} {xs : List Int} (h : Rd k w v xs) (e : W.heap = w.heap) : Rd k W v xs := by
  rcases h with h | ⟨h1, b, o, c, rfl, h2, h3, h4, h5⟩
  · exact .inl h
  · exact .inr ⟨h1, b, o, c, rfl, h2, h3, by rw [e]; exact h4, fun i hi => (World.cell?_of_block (w := w) (by rw [e])).trans (h5 i hi)⟩
theorem Tab.heap {w W : World} (h : Tab w) (e : W.heap = w.heap) : Tab W := by
  obtain ⟨c0, c1, c2, c3⟩ := h
  exact ⟨(World.cell?_of_block (w := w) (by rw [e])).trans c0, (World.cell?_of_block (w := w) (by rw [e])).trans c1, (World.cell?_of_block (w := w) (by rw [e])).trans c2, (World.cell?_of_block (w := w) (by rw [e])).trans c3⟩

set_option maxHeartbeats 800000 in
theorem number_any (p : Nat) (v : Value) (xs : List Int) (a : Nat) (w : World) (ht : Tab w) (hA : At w p v a) (hr : Rd .u8 w v xs) (hx : Bts xs) (ha : a ≤ xs.length) :
    Calls Tryd.prog 47 #[.pointer (some ⟨p, 0, none⟩)] w (StepIs intV w p v (num xs a)) := by
  have c0 := hA.c0
  have c1 := hA.c1
  have hlt := hA.lt
  have hne0 : p ≠ w.heap.size := by omega
  have HA := Lib.hid hA
  have HG : Hid (∀ V : World, Below w.heap.size w V → Calls Tryd.prog 57 #[v, .int .i64 a] V (GetAt V xs a)) := fun V e => get_at v xs a V (ht.below e ht.pos) (hr.below e) hx ha
  clear hA hr ht
  cases hs : getS xs a with
  | some y =>
    obtain ⟨n, W⟩ := y
    have HG1 : Hid (∀ V : World, Below w.heap.size w V → Calls Tryd.prog 57 #[v, .int .i64 a] V (GetIs V n (a + W : Nat) 0 0)) := fun V e => (HG.out V e).mono fun e w' h => by
      rcases h with ⟨n', W', h1, _, _, h2⟩ | ⟨h1, _⟩
      · rw [hs] at h1; cases h1; exact h2
      · rw [hs] at h1; cases h1
    have HN : Hid (num xs a = .ok (n, a + W)) := by show _ = _; unfold num; rw [hs]
    clear HG hs
    go_enter Tryd.func47, Tryd.ntmps47
    go_wp2_with fail
    go_region_held3 (fun w' => w'.cell? ⟨p, 0, none⟩ = some v ∧ w'.cell? ⟨p, 1, none⟩ = some (.int .i64 a) ∧ Below w.heap.size w w')
      (first
        | (exact held_at HA (below_drewN (Below.refl _ _) 1))
        | (exact held_at HA (below_drewN ((Below.refl _ _).alloc (Nat.le_refl _) _) 1))
        | (exact held_at HA B1)
        | (exact held_at HA (B1.alloc B1.size _))
        | (exact held_at HA (((B1.alloc B1.size _).setCell B1.size _).setCell B1.size _))
        | (exact held_at HA ((B1.setCell (Nat.le_refl _) _).setCell (Nat.le_refl _) _))
        | fail)
      (first
        | (go_at_call 57; refine (HG1.out _ ?_).mono ?_; (first | exact below_drewN (Below.refl _ _) 1 | exact below_drewN ((Below.refl _ _).alloc (Nat.le_refl _) _) 1); rintro e w1 ⟨rfl, b1⟩; (first | (have B1 := below_of' b1) | (have B1 := below_of0 b1)); try (have q := new_block b1; have q0 := Joins.cell_of_block q 0; have q1 := Joins.cell_of_block q 1; have qf := Joins.unfrozen_of_block q; simp only [List.getElem?_toArray, List.getElem?_cons_zero, List.getElem?_cons_succ] at q0 q1)))
    all_goals
      have hA1 : At w1 p v a := HA.out.kept B1
      have c1' := hA1.c1
      have f1' := hA1.fz 1
      have hlt' := hA1.lt
      have z1 := B1.size
      go_wp2
      go_ret
      rw [HN.out]
      refine ⟨?_, ⟨_, rfl, rfl⟩, ?_⟩
      · (repeat' (first | exact grownBy_of_below B1 | (refine grownBy_alloc' ?_ _) | (refine grownBy_set ?_ _ _ ?_) | exact Or.inl rfl | (exact Or.inr (Nat.le_refl _)) | (exact Or.inr z1)))
      · first
          | exact (hA1.set' rfl).alloc _
          | exact ((hA1.other (q := ⟨w.heap.size, 0, none⟩) hne0 _).other (q := ⟨w.heap.size, 1, none⟩) hne0 _).set' rfl
  | none =>
    have HG1 : Hid (∀ V : World, Below w.heap.size w V → Calls Tryd.prog 57 #[v, .int .i64 a] V (GetIs V 0 0 3 xs.length)) := fun V e => (HG.out V e).mono fun e w' h => by
      rcases h with ⟨n', W', h1, _, _, h2⟩ | ⟨h1, h2⟩
      · rw [hs] at h1; cases h1
      · exact h2
    have HN : Hid (num xs a = .error (3, xs.length)) := by show _ = _; unfold num; rw [hs]
    clear HG hs
    go_enter Tryd.func47, Tryd.ntmps47
    go_wp2_with fail
    go_region_held3 (fun w' => w'.cell? ⟨p, 0, none⟩ = some v ∧ w'.cell? ⟨p, 1, none⟩ = some (.int .i64 a) ∧ Below w.heap.size w w')
      (first
        | (exact held_at HA (below_drewN (Below.refl _ _) 1))
        | (exact held_at HA (below_drewN ((Below.refl _ _).alloc (Nat.le_refl _) _) 1))
        | (exact held_at HA B1)
        | (exact held_at HA (B1.alloc B1.size _))
        | (exact held_at HA (((B1.alloc B1.size _).setCell B1.size _).setCell B1.size _))
        | (exact held_at HA ((B1.setCell (Nat.le_refl _) _).setCell (Nat.le_refl _) _))
        | fail)
      (first
        | (go_at_call 57; refine (HG1.out _ ?_).mono ?_; (first | exact below_drewN (Below.refl _ _) 1 | exact below_drewN ((Below.refl _ _).alloc (Nat.le_refl _) _) 1); rintro e w1 ⟨rfl, b1⟩; (first | (have B1 := below_of' b1) | (have B1 := below_of0 b1)); try (have q := new_block b1; have q0 := Joins.cell_of_block q 0; have q1 := Joins.cell_of_block q 1; have qf := Joins.unfrozen_of_block q; simp only [List.getElem?_toArray, List.getElem?_cons_zero, List.getElem?_cons_succ] at q0 q1)))
    all_goals
      have hA1 : At w1 p v a := HA.out.kept B1
      have c1' := hA1.c1
      have f1' := hA1.fz 1
      have hlt' := hA1.lt
      have z1 := B1.size
      go_wp2_with (go_at_call 34; refine (breakOff_any _ _ _ _).mono ?_; rintro e w' ⟨rfl, rfl⟩)
      refine ⟨rfl, ?_⟩
      rw [HN.out]
      refine ⟨?_, rfl⟩
      (repeat' (first | exact grownBy_of_below B1 | (refine grownBy_alloc' ?_ _) | (refine grownBy_set ?_ _ _ ?_) | exact Or.inl rfl | (exact Or.inr (Nat.le_refl _)) | (exact Or.inr z1)))
end Go.Proofs.YtfkkimaebhjneaaDoor
