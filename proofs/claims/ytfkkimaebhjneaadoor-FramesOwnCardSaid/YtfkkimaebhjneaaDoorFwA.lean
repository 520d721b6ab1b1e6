/- Walks of layer 4: the reference's reader, its small steps. -/
import Derived.Test.YtfkkimaebhjneaaDoorFuD
set_option linter.unusedSimpArgs false
set_option linter.unusedVariables false
namespace Go.Proofs.YtfkkimaebhjneaaDoor
open Go.RowKit

/-- THE REFERENCE's READER AT BLOCK p STANDS AT a, with the fault (y, z) -/
structure RA (w : World) (p : Nat) (v : Value) (a : Nat) (y z : Int) : Prop where
  is : w.heap[p]? = some (.cells #[v, .int .i64 a, .int .i64 y, .int .i64 z] 67 (0, 0))
theorem RA.c0 {w : World} {p : Nat} {v : Value} {a : Nat} {y z : Int} (h : RA w p v a y z) : w.cell? ⟨p, 0, none⟩ = some v := (Joins.cell_of_block h.is 0).trans rfl
theorem RA.c1 {w : World} {p : Nat} {v : Value} {a : Nat} {y z : Int} (h : RA w p v a y z) : w.cell? ⟨p, 1, none⟩ = some (.int .i64 a) := (Joins.cell_of_block h.is 1).trans rfl
theorem RA.c2 {w : World} {p : Nat} {v : Value} {a : Nat} {y z : Int} (h : RA w p v a y z) : w.cell? ⟨p, 2, none⟩ = some (.int .i64 y) := (Joins.cell_of_block h.is 2).trans rfl
theorem RA.c3 {w : World} {p : Nat} {v : Value} {a : Nat} {y z : Int} (h : RA w p v a y z) : w.cell? ⟨p, 3, none⟩ = some (.int .i64 z) := (Joins.cell_of_block h.is 3).trans rfl
theorem RA.lt {w : World} {p : Nat} {v : Value} {a : Nat} {y z : Int} (h : RA w p v a y z) : p < w.heap.size := (Array.getElem?_eq_some_iff.1 h.is).1
theorem RA.fz {w : World} {p : Nat} {v : Value} {a : Nat} {y z : Int} (h : RA w p v a y z) (j : Nat) : w.frozen? ⟨p, j, none⟩ = false := Joins.unfrozen_of_block h.is j
theorem RA.kept {w w' : World} {p : Nat} {v : Value} {a : Nat} {y z : Int} (h : RA w p v a y z) (hb : Below w.heap.size w w') : RA w' p v a y z := ⟨(hb.block p h.lt).trans h.is⟩
theorem RA.heap {w W : World} {p : Nat} {v : Value} {a : Nat} {y z : Int} (h : RA w p v a y z) (e : W.heap = w.heap) : RA W p v a y z := ⟨by rw [e]; exact h.is⟩
theorem RA.alloc {w : World} {p : Nat} {v : Value} {a : Nat} {y z : Int} (h : RA w p v a y z) (o : Obj) : RA (w.alloc o) p v a y z := ⟨(Below.heap_alloc w o p h.lt).trans h.is⟩
theorem RA.other {w : World} {p : Nat} {v : Value} {a : Nat} {y z : Int} (h : RA w p v a y z) {q : Addr} (hq : p ≠ q.block) (x : Value) : RA (w.setCell q x) p v a y z := ⟨(Below.heap_setCell _ _ _ _ hq).trans h.is⟩
theorem RA.at' {w : World} {p : Nat} {v : Value} {a : Nat} {y z : Int} (h : RA w p v a y z) (x : Int) (b : Nat) (e : x = b) : RA (w.setCell ⟨p, 1, none⟩ (.int .i64 x)) p v b y z := by subst e; exact ⟨heap_setCell_same w p 1 _ _ (.int .i64 (b : Int)) h.is⟩
theorem RA.fault {w : World} {p : Nat} {v : Value} {a : Nat} {y z : Int} (h : RA w p v a y z) (y' z' : Int) : RA ((w.setCell ⟨p, 2, none⟩ (.int .i64 y')).setCell ⟨p, 3, none⟩ (.int .i64 z')) p v a y' z' :=
  ⟨heap_setCell_same _ p 3 _ _ (.int .i64 z') (heap_setCell_same w p 2 _ _ (.int .i64 y') h.is)⟩

/-- WHERE THE READER STANDS: a place, or a fault -/
def RS (w : World) (p : Nat) (v : Value) (L : Nat) (s : Except (Int × Int) Nat) : Prop := ∃ a y z, a ≤ L ∧ RA w p v a y z ∧ ((s = .ok a ∧ y = 0 ∧ z = 0) ∨ (s = .error (y, z) ∧ y ≠ 0))
theorem RS.kept {w w' : World} {p : Nat} {v : Value} {L : Nat} {s : Except (Int × Int) Nat} (h : RS w p v L s) (hb : Below w.heap.size w w') : RS w' p v L s := by
  obtain ⟨a, y, z, h1, h2, h3⟩ := h
  exact ⟨a, y, z, h1, h2.kept hb, h3⟩
theorem RS.lt {w : World} {p : Nat} {v : Value} {L : Nat} {s : Except (Int × Int) Nat} (h : RS w p v L s) : p < w.heap.size := by
  obtain ⟨a, y, z, h1, h2, h3⟩ := h
  exact h2.lt
theorem RS.ok' {w : World} {p : Nat} {v : Value} {L j : Nat} {s : Except (Int × Int) Nat} (h : RS w p v L s) (hs : s = .ok j) : j ≤ L ∧ RA w p v j 0 0 := by
  obtain ⟨a, y, z, h1, h2, ⟨h3, rfl, rfl⟩ | ⟨h3, _⟩⟩ := h
  · rw [hs] at h3; cases h3; exact ⟨h1, h2⟩
  · rw [hs] at h3; cases h3
theorem RS.err' {w : World} {p : Nat} {v : Value} {L : Nat} {y z : Int} {s : Except (Int × Int) Nat} (h : RS w p v L s) (hs : s = .error (y, z)) : y ≠ 0 ∧ ∃ a, a ≤ L ∧ RA w p v a y z := by
  obtain ⟨a, y', z', h1, h2, ⟨h3, rfl, rfl⟩ | ⟨h3, h4⟩⟩ := h
  · rw [hs] at h3; cases h3
  · rw [hs] at h3; cases h3; exact ⟨h4, a, h1, h2⟩

/-- a step from where the reader stands -/
def bnd {α : Type} (s : Except (Int × Int) Nat) (f : Nat → Except (Int × Int) (α × Nat)) : Except (Int × Int) (α × Nat) := match s with
  | .ok j => f j
  | .error e => .error e
def stE {α : Type} (r : Except (Int × Int) (α × Nat)) : Except (Int × Int) Nat := match r with
  | .ok (_, j) => .ok j
  | .error e => .error e

theorem rok_any (p : Nat) (v : Value) (a : Nat) (y z : Int) (w : World) (h : RA w p v a y z) :
    Calls Tryd.prog 38 #[.pointer (some ⟨p, 0, none⟩)] w fun e w' => e = .returned (.bool (y == 0)) ∧ w = w' := by
  have c2 := h.c2
  clear h
  go_enter Tryd.func38, Tryd.ntmps38
  go_wp2
  go_ret
  exact ⟨rfl, rfl⟩

/-- a fault, if there is none yet -/
def failE (s : Except (Int × Int) Nat) (y z : Int) : Except (Int × Int) Nat := match s with
  | .ok _ => .error (y, z)
  | .error e => .error e
theorem rfails_any (p : Nat) (v : Value) (L : Nat) (s : Except (Int × Int) Nat) (y z : Int) (w : World) (h : RS w p v L s) (hy : y ≠ 0) :
    Calls Tryd.prog 36 #[.pointer (some ⟨p, 0, none⟩), .int .i64 y, .int .i64 z] w fun e w' => e = .returned (.tuple #[]) ∧ w.grownBy w' (some p) ∧ RS w' p v L (failE s y z) := by
  obtain ⟨a, y0, z0, h1, h2, ⟨rfl, rfl, rfl⟩ | ⟨rfl, h3⟩⟩ := h
  · have RO := Lib.hid (rok_any p v a 0 0 w h2)
    have H2 := Lib.hid h2
    have c2 := h2.c2
    have c3 := h2.c3
    have f2 := h2.fz 2
    have f3 := h2.fz 3
    clear h2
    go_enter Tryd.func36, Tryd.ntmps36
    go_wp2_with (go_at_call 38; refine RO.out.mono ?_; rintro e w' ⟨rfl, rfl⟩)
    go_end0
    exact ⟨rfl, grownBy_set (grownBy_set (World.grownBy.refl _ _) _ _ (.inl rfl)) _ _ (.inl rfl), a, y, z, h1, H2.out.fault y z, .inr ⟨rfl, hy⟩⟩
  · have RO := Lib.hid (rok_any p v a y0 z0 w h2)
    have e0 : (y0 == 0) = false := by simpa using h3
    rw [e0] at RO
    have H2 := Lib.hid h2
    clear h2 e0
    go_enter Tryd.func36, Tryd.ntmps36
    go_wp2_with (go_at_call 38; refine RO.out.mono ?_; rintro e w' ⟨rfl, rfl⟩)
    go_end0
    exact ⟨rfl, World.grownBy.refl _ _, a, y0, z0, h1, H2.out, .inr ⟨rfl, h3⟩⟩

/-- WHAT number COMES TO -/
def NumIs (w : World) (p : Nat) (v : Value) (L : Nat) (r : Except (Int × Int) (Int × Nat)) (e : Ending) (w' : World) : Prop :=
  ∃ n, e = .returned (.int .i64 n) ∧ w.grownBy w' (some p) ∧ RS w' p v L (stE r) ∧ (∀ x j, r = .ok (x, j) → x = n) ∧ (∀ x, r = .error x → n = 0)

theorem held_ra {w V : World} {p : Nat} {v : Value} {a : Nat} {y z : Int} (h : Hid (RA w p v a y z)) (hB : Below w.heap.size w V) : V.cell? ⟨p, 0, none⟩ = some v ∧ V.cell? ⟨p, 1, none⟩ = some (.int .i64 a) ∧ Below w.heap.size w V :=
  ⟨(h.out.kept hB).c0, (h.out.kept hB).c1, hB⟩

set_option maxHeartbeats 1600000 in
theorem rnum_ok (p : Nat) (v : Value) (xs : List Int) (a : Nat) (w : World) (hA : RA w p v a 0 0) (hr : Rd .u8 w v xs) (hx : Bts xs) (ha : a ≤ xs.length) :
    Calls Tryd.prog 52 #[.pointer (some ⟨p, 0, none⟩)] w (NumIs w p v xs.length (num xs a)) := by
  have RO := Lib.hid (rok_any p v a 0 0 w hA)
  have hlt := hA.lt
  have hne0 : p ≠ w.heap.size := by omega
  have HA := Lib.hid hA
  have HG : Hid (∀ V : World, Below w.heap.size w V → Calls Tryd.prog 60 #[v, .int .i64 a] V (GetAt V xs a)) := fun V e => rget_at v xs a V (hr.below e) hx ha
  clear hA hr
  cases hs : getS xs a with
  | some y =>
    obtain ⟨n, W⟩ := y
    have hle : a + W ≤ xs.length := by
      unfold getS at hs
      split at hs
      · cases hs; rename_i h; exact h.2
      · cases hs
    have HG1 : Hid (∀ V : World, Below w.heap.size w V → Calls Tryd.prog 60 #[v, .int .i64 a] V (GetIs V n (a + W : Nat) 0 0)) := fun V e => (HG.out V e).mono fun e w' h => by
      rcases h with ⟨n', W', h1, _, _, h2⟩ | ⟨h1, _⟩
      · rw [hs] at h1; cases h1; exact h2
      · rw [hs] at h1; cases h1
    have HN : Hid (num xs a = .ok (n, a + W)) := by show _ = _; unfold num; rw [hs]
    clear HG hs
    go_enter Tryd.func52, Tryd.ntmps52
    go_wp2_with (go_at_call 38; refine RO.out.mono ?_; rintro e w' ⟨rfl, rfl⟩)
    go_region_held3 (fun w' => w'.cell? ⟨p, 0, none⟩ = some v ∧ w'.cell? ⟨p, 1, none⟩ = some (.int .i64 a) ∧ Below w.heap.size w w')
      (first
        | (exact held_ra HA (below_drewN (Below.refl _ _) 1))
        | (exact held_ra HA (below_drewN ((Below.refl _ _).alloc (Nat.le_refl _) _) 1))
        | (exact held_ra HA B1)
        | (exact held_ra HA (B1.alloc B1.size _))
        | (exact held_ra HA (((B1.alloc B1.size _).setCell B1.size _).setCell B1.size _))
        | (exact held_ra HA ((B1.setCell (Nat.le_refl _) _).setCell (Nat.le_refl _) _))
        | fail)
      (first
        | (go_at_call 60; refine (HG1.out _ ?_).mono ?_; (first | exact below_drewN (Below.refl _ _) 1 | exact below_drewN ((Below.refl _ _).alloc (Nat.le_refl _) _) 1); rintro e w1 ⟨rfl, b1⟩; (first | (have B1 := below_of' b1) | (have B1 := below_of0 b1)); try (have q := new_block b1; have q0 := Joins.cell_of_block q 0; have q1 := Joins.cell_of_block q 1; have qf := Joins.unfrozen_of_block q; simp only [List.getElem?_toArray, List.getElem?_cons_zero, List.getElem?_cons_succ] at q0 q1)))
    all_goals
      have hA1 : RA w1 p v a 0 0 := HA.out.kept B1
      have c1' := hA1.c1
      have f1' := hA1.fz 1
      have hlt' := hA1.lt
      have z1 := B1.size
      go_wp2
      go_ret
      rw [HN.out]
      refine ⟨n, rfl, ?_, ⟨a + W, 0, 0, hle, ?_, .inl ⟨rfl, rfl, rfl⟩⟩, (fun x j h => by cases h; rfl), (fun x h => by cases h)⟩
      · (repeat' (first | exact grownBy_of_below B1 | (refine grownBy_alloc' ?_ _) | (refine grownBy_set ?_ _ _ ?_) | exact Or.inl rfl | (exact Or.inr (Nat.le_refl _)) | (exact Or.inr z1)))
      · first
          | with_reducible exact (hA1.at' ((a : Int) + W) (a + W) (by simp)).alloc _
          | with_reducible exact ((hA1.other (q := ⟨w.heap.size, 0, none⟩) hne0 _).other (q := ⟨w.heap.size, 1, none⟩) hne0 _).at' ((a : Int) + W) (a + W) (by simp)
  | none =>
    have HG1 : Hid (∀ V : World, Below w.heap.size w V → Calls Tryd.prog 60 #[v, .int .i64 a] V (GetIs V 0 0 3 xs.length)) := fun V e => (HG.out V e).mono fun e w' h => by
      rcases h with ⟨n', W', h1, _, _, h2⟩ | ⟨h1, h2⟩
      · rw [hs] at h1; cases h1
      · exact h2
    have HN : Hid (num xs a = .error (3, xs.length)) := by show _ = _; unfold num; rw [hs]
    clear HG hs
    go_enter Tryd.func52, Tryd.ntmps52
    go_wp2_with (go_at_call 38; refine RO.out.mono ?_; rintro e w' ⟨rfl, rfl⟩)
    go_region_held3 (fun w' => w'.cell? ⟨p, 0, none⟩ = some v ∧ w'.cell? ⟨p, 1, none⟩ = some (.int .i64 a) ∧ Below w.heap.size w w')
      (first
        | (exact held_ra HA (below_drewN (Below.refl _ _) 1))
        | (exact held_ra HA (below_drewN ((Below.refl _ _).alloc (Nat.le_refl _) _) 1))
        | (exact held_ra HA B1)
        | (exact held_ra HA (B1.alloc B1.size _))
        | (exact held_ra HA (((B1.alloc B1.size _).setCell B1.size _).setCell B1.size _))
        | (exact held_ra HA ((B1.setCell (Nat.le_refl _) _).setCell (Nat.le_refl _) _))
        | fail)
      (first
        | (go_at_call 60; refine (HG1.out _ ?_).mono ?_; (first | exact below_drewN (Below.refl _ _) 1 | exact below_drewN ((Below.refl _ _).alloc (Nat.le_refl _) _) 1); rintro e w1 ⟨rfl, b1⟩; (first | (have B1 := below_of' b1) | (have B1 := below_of0 b1)); try (have q := new_block b1; have q0 := Joins.cell_of_block q 0; have q1 := Joins.cell_of_block q 1; have qf := Joins.unfrozen_of_block q; simp only [List.getElem?_toArray, List.getElem?_cons_zero, List.getElem?_cons_succ] at q0 q1)))
    all_goals
      have hA1 : RA w1 p v a 0 0 := HA.out.kept B1
      have c1' := hA1.c1
      have f2' := hA1.fz 2
      have f3' := hA1.fz 3
      have c2' := hA1.c2
      have c3' := hA1.c3
      have hlt' := hA1.lt
      have z1 := B1.size
      go_wp2
      go_ret
      rw [HN.out]
      refine ⟨0, rfl, ?_, ⟨a, 3, xs.length, ha, ?_, .inr ⟨rfl, by omega⟩⟩, (fun x j h => by cases h), (fun x h => rfl)⟩
      · (repeat' (first | exact grownBy_of_below B1 | (refine grownBy_alloc' ?_ _) | (refine grownBy_set ?_ _ _ ?_) | exact Or.inl rfl | (exact Or.inr (Nat.le_refl _)) | (exact Or.inr z1)))
      · first
          | with_reducible exact (hA1.fault _ _).alloc _
          | with_reducible exact ((hA1.other (q := ⟨w.heap.size, 0, none⟩) hne0 _).other (q := ⟨w.heap.size, 1, none⟩) hne0 _).fault _ _

theorem rnumber_s (p : Nat) (v : Value) (xs : List Int) (s : Except (Int × Int) Nat) (w : World) (hA : RS w p v xs.length s) (hr : Rd .u8 w v xs) (hx : Bts xs) :
    Calls Tryd.prog 52 #[.pointer (some ⟨p, 0, none⟩)] w (NumIs w p v xs.length (bnd s (num xs))) := by
  obtain ⟨a, y0, z0, h1, h2, ⟨rfl, rfl, rfl⟩ | ⟨rfl, h3⟩⟩ := hA
  · exact rnum_ok p v xs a w h2 hr hx h1
  · have RO := Lib.hid (rok_any p v a y0 z0 w h2)
    have e0 : (y0 == 0) = false := by simpa using h3
    rw [e0] at RO
    have H2 := Lib.hid h2
    clear h2 e0 hr
    go_enter Tryd.func52, Tryd.ntmps52
    go_wp2_with (go_at_call 38; refine RO.out.mono ?_; rintro e w' ⟨rfl, rfl⟩)
    go_ret
    exact ⟨0, rfl, World.grownBy.refl _ _, ⟨a, y0, z0, h1, H2.out, .inr ⟨rfl, h3⟩⟩, (fun x j h => by cases h), (fun x h => rfl)⟩

theorem rc_len {w : World} {a : Option Addr} {n c : Nat} {ys : List Int} (h : Rd .u8 w (.slice a n c) ys) : ys.length = n := by
  obtain ⟨a', c', e⟩ := h.isSlice
  simp only [Value.slice.injEq] at e
  exact e.2.1.symm
/-- WHAT take COMES TO -/
def TakeIs (w : World) (p : Nat) (v : Value) (L : Nat) (r : Except (Int × Int) (List Int × Nat)) (e : Ending) (w' : World) : Prop :=
  ∃ ua un uc, e = .returned (.slice ua un uc) ∧ w.grownBy w' (some p) ∧ RS w' p v L (stE r) ∧ (∀ ys j, r = .ok (ys, j) → Own .u8 5 w' w.heap.size (.slice ua un uc) ys)

set_option maxHeartbeats 1600000 in
theorem rtake_ok (p b o c : Nat) (xs : List Int) (a m : Nat) (w : World) (hA : RA w p (.slice (some ⟨b, o, none⟩) xs.length c) a 0 0) (hr : Rd .u8 w (.slice (some ⟨b, o, none⟩) xs.length c) xs) (hbig : xs.length ≤ 1048576) (hbp : b ≠ p) (hs : a + m ≤ xs.length) :
    Calls Tryd.prog 54 #[.pointer (some ⟨p, 0, none⟩), .int .i64 m] w (TakeIs w p (.slice (some ⟨b, o, none⟩) xs.length c) xs.length (dataR xs a m)) := by
  have e : dataR xs a m = .ok ((xs.drop a).take m, a + m) := by
    unfold dataR
    rw [if_neg (by omega)]
    simp
  rw [e]
  have RO := Lib.hid (rok_any p _ a 0 0 w hA)
  have hlt := hA.lt
  have c0 := hA.c0
  have c1 := hA.c1
  have f1 := hA.fz 1
  have HA := Lib.hid hA
  have HR := Lib.hid hr
  have hcap : xs.length ≤ c := by
    rcases hr with ⟨h0, _, _, hq, _⟩ | ⟨h0, b', o', c', q, h2, h3, h4, h5⟩
    · simp only [Value.slice.injEq] at hq; omega
    · simp only [Value.slice.injEq] at q; obtain ⟨_, q1, rfl⟩ := q; omega
  have hw : IntKind.i64.wrap ((xs.length : Int) - a) = (xs.length : Int) - a := wraps_i64' _ (by omega) (by omega)
  have hw2 : IntKind.i64.wrap ((a : Int) + m) = (a : Int) + m := wraps_i64' _ (by omega) (by omega)
  have t1 : decide ((xs.length : Int) - a < m) = false := decide_eq_false (by omega)
  have hi1 : (a : Int) ≤ (a : Int) + m := by omega
  have hi2 : (a : Int) + m ≤ (c : Int) := by omega
  have hi3 : (0 : Int) ≤ (a : Int) := by omega
  clear hA e
  have RC0 : Rd .u8 w (.slice (if a = c then some ⟨b, o, none⟩ else some ⟨b, o + a, none⟩) (((a : Int) + m).toNat - a) (c - a)) ((xs.drop a).take m) := by
    rw [show ((a : Int) + m).toNat - a = m by omega]
    refine Rd.cut hr a m hs _ ?_ ?_
    · intro h; rw [if_neg (fun e => h e.symm)]
    · split <;> simp
  have lm0 : ([] : List Int).length + ((xs.drop a).take m).length ≤ 1048576 := by rw [List.length_take]; simp; omega
  generalize (xs.drop a).take m = ys at RC0 lm0 ⊢
  have lm := Lib.hid lm0
  clear hr lm0
  by_cases hca : a = c
  · subst hca
    have HY : Hid (ys = []) := by
      show _ = _
      have hn := rc_len RC0
      exact List.eq_nil_of_length_eq_zero (by omega)
    clear RC0
    go_enter Tryd.func54, Tryd.ntmps54
    go_wp2_with (go_at_call 38; refine RO.out.mono ?_; rintro e w' ⟨rfl, rfl⟩)
    go_quiet (fail)
    have d0 : (w.drewN nq).drew.cell? ⟨p, 0, none⟩ = some (.slice (some ⟨b, o, none⟩) xs.length a) := c0
    have d1 : (w.drewN nq).drew.cell? ⟨p, 1, none⟩ = some (.int .i64 a) := c1
    have f1' : (w.drewN nq).drew.frozen? ⟨p, 1, none⟩ = false := f1
    go_wp2_with fail
    go_region_law (fail)
    all_goals
      go_wp2
      go_ret
      have hA2 : RA (w.drewN nq).drew p _ a 0 0 := HA.out.heap rfl
      refine ⟨none, 0, 0, rfl, grownBy_set (grownBy_drewN (grownBy_drewN (World.grownBy.refl _ _) nq) 1) _ _ (.inl rfl), ⟨a + m, 0, 0, hs, hA2.at' ((a : Int) + m) (a + m) (by simp), .inl ⟨rfl, rfl, rfl⟩⟩, fun ys' j h => ?_⟩
      cases h
      rw [HY.out]
      exact Own.nil _ _ _ _
  · rw [if_neg hca] at RC0
    have hca' : ¬ c = a := fun h => hca h.symm
    have RC := Lib.hid RC0
    clear RC0

    go_enter Tryd.func54, Tryd.ntmps54
    go_wp2_with (go_at_call 38; refine RO.out.mono ?_; rintro e w' ⟨rfl, rfl⟩)
    go_quiet (fail)
    have d0 : (w.drewN nq).drew.cell? ⟨p, 0, none⟩ = some (.slice (some ⟨b, o, none⟩) xs.length c) := c0
    have d1 : (w.drewN nq).drew.cell? ⟨p, 1, none⟩ = some (.int .i64 a) := c1
    have RD : Hid (Rd .u8 (w.drewN nq).drew (.slice (some ⟨b, o + a, none⟩) (((a : Int) + m).toNat - a) (c - a)) ys) := RC.out.heap rfl
    go_wp2_with fail
    go_region_law (refine step_append_rd rfl (.const (.slice none 0 0)) (.tmp 42) 23 rfl elemU8 Tryd.underlying23 w.heap.size (.slice none 0 0) [] rfl (Own.nil _ _ _ _) (.slice (some ⟨b, o + a, none⟩) (((a : Int) + m).toNat - a) (c - a)) ys ?_ RD.out ?_ ?_ ?_ ?_; (rfl); (have := lm.out; omega); (have := lm.out; unfold maxLen; omega); (exact Nat.le_refl _); intro u w2 o2 g2)
    all_goals
      have B2 : Below w.heap.size w w2 := ⟨g2.os, g2.tape, g2.output, g2.size, fun j hj => g2.block j hj (by simp [Value.ownBlock])⟩
      have hA2 : RA w2 p _ a 0 0 := HA.out.kept B2
      have c1' := hA2.c1
      have f1' := hA2.fz 1
      rw [List.nil_append] at o2
      obtain ⟨ua, uc, rfl⟩ := o2.len
      go_wp2
      go_ret
      refine ⟨ua, _, uc, rfl, grownBy_set (grownBy_of_below B2) _ _ (.inl rfl), ⟨a + m, 0, 0, hs, hA2.at' ((a : Int) + m) (a + m) (by simp), .inl ⟨rfl, rfl, rfl⟩⟩, fun ys j h => ?_⟩
      cases h
      exact Own.kept o2 (grownBy_set (World.grownBy.refl _ _) _ _ (.inl rfl)) (fun j hj e => by have := o2.blk j hj; have e' := Option.some.inj e; simp only at e'; omega)

set_option maxHeartbeats 1600000 in
theorem rtake_short (p b o c : Nat) (xs : List Int) (a : Nat) (m : Int) (w : World) (hA : RA w p (.slice (some ⟨b, o, none⟩) xs.length c) a 0 0) (hbig : xs.length ≤ 1048576) (ha : a ≤ xs.length) (hs : (xs.length : Int) - a < m) :
    Calls Tryd.prog 54 #[.pointer (some ⟨p, 0, none⟩), .int .i64 m] w (TakeIs w p (.slice (some ⟨b, o, none⟩) xs.length c) xs.length (dataR xs a m)) := by
  have e : dataR xs a m = .error (3, xs.length) := by
    unfold dataR
    rw [if_pos hs]
  rw [e]
  have RO := Lib.hid (rok_any p _ a 0 0 w hA)
  have c0 := hA.c0
  have c1 := hA.c1
  have HA := Lib.hid hA
  have hw : IntKind.i64.wrap ((xs.length : Int) - a) = (xs.length : Int) - a := wraps_i64' _ (by omega) (by omega)
  have t1 : decide ((xs.length : Int) - a < m) = true := decide_eq_true (by omega)
  clear hA e hs
  go_enter Tryd.func54, Tryd.ntmps54
  go_wp2_with (go_at_call 38; refine RO.out.mono ?_; rintro e w' ⟨rfl, rfl⟩)
  go_quiet (fail)
  have d0 : (w.drewN nq).cell? ⟨p, 0, none⟩ = some (.slice (some ⟨b, o, none⟩) xs.length c) := c0
  have hD : RA (w.drewN nq) p (.slice (some ⟨b, o, none⟩) xs.length c) a 0 0 := HA.out.heap rfl
  have FA := Lib.hid (rfails_any p (.slice (some ⟨b, o, none⟩) xs.length c) xs.length (.ok a) 3 xs.length (w.drewN nq) ⟨a, 0, 0, ha, hD, .inl ⟨rfl, rfl, rfl⟩⟩ (by omega))
  clear hD
  go_wp2_with (go_at_call 36; refine FA.out.mono ?_; rintro e w2 ⟨rfl, g2, s2⟩)
  go_ret
  exact ⟨none, 0, 0, rfl, grownBy_trans (grownBy_drewN (World.grownBy.refl _ _) nq) g2, s2, fun ys j h => by cases h⟩

theorem rtake_s (p b o c : Nat) (xs : List Int) (s : Except (Int × Int) Nat) (m : Int) (w : World) (hA : RS w p (.slice (some ⟨b, o, none⟩) xs.length c) xs.length s) (hr : Rd .u8 w (.slice (some ⟨b, o, none⟩) xs.length c) xs) (hbig : xs.length ≤ 1048576) (hbp : b ≠ p) (hm : ∀ j, s = .ok j → 0 ≤ m) :
    Calls Tryd.prog 54 #[.pointer (some ⟨p, 0, none⟩), .int .i64 m] w (TakeIs w p (.slice (some ⟨b, o, none⟩) xs.length c) xs.length (bnd s fun j => dataR xs j m)) := by
  obtain ⟨a, y0, z0, h1, h2, ⟨rfl, rfl, rfl⟩ | ⟨rfl, h3⟩⟩ := hA
  · have h0 := hm a rfl
    by_cases hs : (xs.length : Int) - a < m
    · exact rtake_short p b o c xs a m w h2 hbig h1 hs
    · obtain ⟨k, rfl⟩ := Int.eq_ofNat_of_zero_le h0
      exact rtake_ok p b o c xs a k w h2 hr hbig hbp (by omega)
  · have RO := Lib.hid (rok_any p _ a y0 z0 w h2)
    have e0 : (y0 == 0) = false := by simpa using h3
    rw [e0] at RO
    have H2 := Lib.hid h2
    clear h2 e0 hr hm
    go_enter Tryd.func54, Tryd.ntmps54
    go_wp2_with (go_at_call 38; refine RO.out.mono ?_; rintro e w' ⟨rfl, rfl⟩)
    go_ret
    exact ⟨none, 0, 0, rfl, World.grownBy.refl _ _, ⟨a, y0, z0, h1, H2.out, .inr ⟨rfl, h3⟩⟩, fun ys j h => by cases h⟩
end Go.Proofs.YtfkkimaebhjneaaDoor
