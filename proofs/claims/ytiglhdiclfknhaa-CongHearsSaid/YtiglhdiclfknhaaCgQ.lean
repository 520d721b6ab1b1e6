/- The law Hears. -/
import Derived.Test.YtiglhdiclfknhaaCgP
import Derived.Deep.DeepCutAuto
set_option linter.unusedSimpArgs false
set_option linter.unusedVariables false
namespace Go.Proofs.Ytiglhdiclfknhaa
open Go.RowKit
/-- a block that holds two numbers -/
def HeldP (b : Nat) (x y : Int) (W : World) : Prop := ∃ T, W.heap[b]? = some (.cells #[.int .i64 x, .int .i64 y] T (0, 0))
theorem heldP_at {b : Nat} (x y : Int) (T : TypeId) (w : World) (hb : b = w.heap.size) : HeldP b x y (w.alloc (.cells #[.int .i64 x, .int .i64 y] T)) := by
  subst hb
  exact ⟨T, by show (w.heap.push _)[w.heap.size]? = _; simp⟩
theorem HeldP.lt {b : Nat} {x y : Int} {W : World} (H : HeldP b x y W) : b < W.heap.size := by
  obtain ⟨T, e⟩ := H
  exact (Array.getElem?_eq_some_iff.1 e).1
theorem HeldP.below {b : Nat} {x y : Int} {W W' : World} (H : HeldP b x y W) (hb : Below W.heap.size W W') : HeldP b x y W' := by
  have k := H.lt
  obtain ⟨T, e⟩ := H
  exact ⟨T, by rw [hb.block b k]; exact e⟩
theorem HeldP.alloc {b : Nat} {x y : Int} {W : World} (H : HeldP b x y W) (o : Obj) : HeldP b x y (W.alloc o) := H.below ((Below.refl _ _).alloc (Nat.le_refl _) _)
theorem HeldP.drew {b : Nat} {x y : Int} {W : World} (H : HeldP b x y W) : HeldP b x y W.drew := H
theorem HeldP.facts {b : Nat} {x y : Int} {W : World} (H : HeldP b x y W) : W.cell? ⟨b, 0, none⟩ = some (.int .i64 x) ∧ W.cell? ⟨b, 1, none⟩ = some (.int .i64 y) := by
  obtain ⟨T, e⟩ := H
  simp [World.cell?, e]
theorem HeldP.other {b : Nat} {x y : Int} {W : World} (H : HeldP b x y W) {a : Addr} (hp : a.block ≠ b) (u : Value) : HeldP b x y (W.setCell a u) := by
  obtain ⟨T, e⟩ := H
  exact ⟨T, by simp [World.setCell, Array.getElem?_modify, hp, e]⟩
theorem HeldP.others {b : Nat} {x y : Int} {W : World} (H : HeldP b x y W) (c : Nat) (hc : c ≠ b) (v0 v1 v2 v3 v4 : Value) :
    HeldP b x y (((((W.setCell ⟨c, 0, none⟩ v0).setCell ⟨c, 1, none⟩ v1).setCell ⟨c, 2, none⟩ v2).setCell ⟨c, 3, none⟩ v3).setCell ⟨c, 4, none⟩ v4) :=
  ((((H.other hc v0).other hc v1).other hc v2).other hc v3).other hc v4
set_option maxHeartbeats 3200000 in
/-- P7.3, P7.4 -/
theorem congHears_walk (z t f s p n a b : Int) (w : World) : Calls Try.prog 5 #[.agg #[.int .i64 z, .int .i64 t, .int .i64 f, .int .i64 s, .int .i64 p], .int .i64 n, .agg #[.int .i64 a, .int .i64 b]] w (Yes w) := by
  obtain ⟨⟨⟨z1, t1, f1, s1, p1⟩, e1⟩, hp⟩ : ∃ r, ackedE ⟨z, t, f, s, p⟩ n a = r := ⟨_, rfl⟩
  obtain ⟨⟨⟨z2, t2, f2, s2, p2⟩, e2⟩, hq⟩ : ∃ r, lostE ⟨z, t, f, s, p⟩ n a b = r := ⟨_, rfl⟩
  have hw1 : IntKind.i64.wrap e1 = e1 := err_wrap (by have := ackedE_err ⟨z, t, f, s, p⟩ n a; rw [hp] at this; exact this)
  have hw2 : IntKind.i64.wrap e2 = e2 := err_wrap (by have := lostE_err ⟨z, t, f, s, p⟩ n a b; rw [hq] at this; exact this)
  have P1 := Lib.hid (fun w => acked_eq hp w)
  have P2 := Lib.hid (fun w => racked_eq hp w)
  have P3 := Lib.hid (fun w => lost_eq hq w)
  have P4 := Lib.hid (fun w => rlost_eq hq w)
  have hg := rguard_not
  have q23 := fun w => reql_self z1 t1 f1 s1 p1 w
  have q23' := fun w => reql_self z2 t2 f2 s2 p2 w
  have HA := Lib.hid ((held_last z t f s p 23 w).alloc (.cells #[.int .i64 a, .int .i64 b] 40))
  have HI := Lib.hid (heldP_at (b := w.heap.size + 1) a b 40 (w.alloc (.cells #[.int .i64 z, .int .i64 t, .int .i64 f, .int .i64 s, .int .i64 p] 23)) (by simp))
  have BB := Lib.hid (below_two w (.cells #[.int .i64 z, .int .i64 t, .int .i64 f, .int .i64 s, .int .i64 p] 23) (.cells #[.int .i64 a, .int .i64 b] 40))
  clear hp hq
  go_enter Try.func5, Try.ntmps5
  go_upto_region 1 with fail
  generalize (w.alloc (.cells #[.int .i64 z, .int .i64 t, .int .i64 f, .int .i64 s, .int .i64 p] 23)).alloc (.cells #[.int .i64 a, .int .i64 b] 40) = w5 at HA HI BB ⊢
  go_cut [7, 8] (fun u v wx => ∃ q : Nat, u = .pointer (some ⟨q, 0, none⟩) ∧ v = .int .i64 e1 ∧ Held q z1 t1 f1 s1 p1 wx ∧ Held w.heap.size z t f s p wx ∧ HeldP (w.heap.size + 1) a b wx ∧ Below w.heap.size w wx)
  case first =>
    have SX : Hid (∀ W, Below w5.heap.size w5.drew W → (W.cell? ⟨w.heap.size, 0, none⟩ = some (.int .i64 z) ∧ W.cell? ⟨w.heap.size, 1, none⟩ = some (.int .i64 t) ∧ W.cell? ⟨w.heap.size, 2, none⟩ = some (.int .i64 f) ∧ W.cell? ⟨w.heap.size, 3, none⟩ = some (.int .i64 s) ∧ W.cell? ⟨w.heap.size, 4, none⟩ = some (.int .i64 p) ∧ W.cell? ⟨w.heap.size + 1, 0, none⟩ = some (.int .i64 a) ∧ W.cell? ⟨w.heap.size + 1, 1, none⟩ = some (.int .i64 b))) := Lib.hid (fun W hW => by (obtain ⟨A0, A1, A2, A3, A4⟩ := (Held.below (W := w5.drew) HA.out hW).facts); (obtain ⟨I0, I1⟩ := (HeldP.below (W := w5.drew) HI.out hW).facts); exact ⟨A0, A1, A2, A3, A4, I0, I1⟩)
    have B0 := BB
    have BB : Hid (Below w5.heap.size w5.drew w5.drew) := Lib.hid (Below.refl _ _)
    have S0 := SX.out _ BB.out
    have K3 := SX.out (w5.alloc (.cells #[.int .i64 0, .int .i64 0, .int .i64 0, .int .i64 0, .int .i64 0] 25)).drew (show Below w5.heap.size w5.drew (w5.drew.alloc (.cells #[.int .i64 0, .int .i64 0, .int .i64 0, .int .i64 0, .int .i64 0] 25)) from below_more BB.out (Nat.le_refl _) (.cells #[.int .i64 0, .int .i64 0, .int .i64 0, .int .i64 0, .int .i64 0] 25))
    go_region_held3 (fun w' => w'.cell? ⟨w.heap.size, 0, none⟩ = some (.int .i64 z) ∧ w'.cell? ⟨w.heap.size, 1, none⟩ = some (.int .i64 t) ∧ w'.cell? ⟨w.heap.size, 2, none⟩ = some (.int .i64 f) ∧ w'.cell? ⟨w.heap.size, 3, none⟩ = some (.int .i64 s) ∧ w'.cell? ⟨w.heap.size, 4, none⟩ = some (.int .i64 p) ∧ w'.cell? ⟨w.heap.size + 1, 0, none⟩ = some (.int .i64 a) ∧ w'.cell? ⟨w.heap.size + 1, 1, none⟩ = some (.int .i64 b))
      (first
        | (with_reducible exact S0)
        | (with_reducible exact K3)
        | (with_reducible exact K5)
        | (with_reducible exact SX.out _ BB.out))
      (first
        | (go_at_call 10; refine (theirs_any _ _ _ _ _ _).mono ?_; rintro e wm ⟨rfl, bn⟩; have BB := Lib.hid (BB.out.trans (bn.mono BB.out.size)); clear bn; have LM : Hid (w5.heap.size ≤ wm.heap.size) := Lib.hid BB.out.size; have K3 := SX.out _ (below_more BB.out (Nat.le_refl _) (.cells #[.int .i64 0, .int .i64 0, .int .i64 0, .int .i64 0, .int .i64 0] 25)))
        | (go_at_call 10; refine (theirs_any _ _ _ _ _ _).mono ?_; rintro e wm ⟨rfl, bn⟩; have HN := Lib.hid (Held.below (held_last 0 0 0 0 0 25 w5.drew) bn); have BB := Lib.hid (below_more BB.out (Nat.le_refl _) (.cells #[.int .i64 0, .int .i64 0, .int .i64 0, .int .i64 0, .int .i64 0] 25)); have BB := Lib.hid (BB.out.trans (bn.mono BB.out.size)); clear bn; have HN : Hid (Held w5.heap.size 0 0 0 0 0 wm) := HN; obtain ⟨y0, y1, y2, y3, y4⟩ := HN.out.free; obtain ⟨x0, x1, x2, x3, x4⟩ := HN.out.facts)
        | (go_at_call 22; refine (P1.out _).mono ?_; rintro e wk ⟨rfl, bn⟩; have HN := Lib.hid (HN.out.below bn); have BB := Lib.hid (BB.out.trans (bn.mono BB.out.size)); clear bn; obtain ⟨y0, y1, y2, y3, y4⟩ := HN.out.free; obtain ⟨x0, x1, x2, x3, x4⟩ := HN.out.facts; have BF := Lib.hid (below_five BB.out w5.heap.size (Nat.le_refl _) (.int .i64 z1) (.int .i64 t1) (.int .i64 f1) (.int .i64 s1) (.int .i64 p1)); have K5 := SX.out _ BF.out; have HF := Lib.hid (HN.out.set z1 t1 f1 s1 p1))
        | (go_at_call 22; refine (P1.out _).mono ?_; rintro e wk ⟨rfl, bn⟩; have HN := Lib.hid (Held.below (held_last 0 0 0 0 0 25 wm) bn); have BB := Lib.hid (below_more BB.out (Nat.le_refl _) (.cells #[.int .i64 0, .int .i64 0, .int .i64 0, .int .i64 0, .int .i64 0] 25)); have BB := Lib.hid (BB.out.trans (bn.mono BB.out.size)); clear bn; obtain ⟨y0, y1, y2, y3, y4⟩ := HN.out.free; obtain ⟨x0, x1, x2, x3, x4⟩ := HN.out.facts; have BF := Lib.hid (below_five BB.out wm.heap.size LM.out (.int .i64 z1) (.int .i64 t1) (.int .i64 f1) (.int .i64 s1) (.int .i64 p1)); have K5 := SX.out _ BF.out; have HF := Lib.hid (HN.out.set z1 t1 f1 s1 p1))
        | (go_at_call 22; refine (P1.out _).mono ?_; rintro e wk ⟨rfl, bn⟩; have BB := Lib.hid (BB.out.trans (bn.mono BB.out.size)); clear bn; obtain ⟨y0, y1, y2, y3, y4⟩ := (held_last 0 0 0 0 0 25 wk).free; have K3 := SX.out _ (below_more BB.out (Nat.le_refl _) (.cells #[.int .i64 0, .int .i64 0, .int .i64 0, .int .i64 0, .int .i64 0] 25)); have BF := Lib.hid (below_more BB.out (Nat.le_refl _) (.cells #[.int .i64 z1, .int .i64 t1, .int .i64 f1, .int .i64 s1, .int .i64 p1] 25)); have K5 := SX.out _ BF.out; have HF := Lib.hid (held_last z1 t1 f1 s1 p1 25 wk)))
    all_goals
      go_wp2_with fail
      go_meet
      exact ⟨_, rfl, rfl, HF.out, Held.below (W := w5.drew) HA.out BF.out, HeldP.below (W := w5.drew) HI.out BF.out, (B0.out.drew).trans (Below.mono BF.out B0.out.size)⟩
  obtain ⟨qB, rfl, rfl, HB, HA, HI, BB⟩ := hcut
  have HB := Lib.hid HB
  have HA := Lib.hid HA
  have HI := Lib.hid HI
  have BB := Lib.hid BB
  obtain ⟨A0, A1, A2, A3, A4⟩ := HA.out.facts
  obtain ⟨B0, B1, B2, B3, B4⟩ := HB.out.facts
  obtain ⟨I0, I1⟩ := HI.out.facts
  go_wp2_with fail
  refine (P2.out _).mono ?_
  rintro e wk1 ⟨rfl, bn⟩
  have HA := Lib.hid (HA.out.below bn)
  have HI := Lib.hid (HI.out.below bn)
  have HB := Lib.hid (HB.out.below bn)
  have BB := Lib.hid (BB.out.trans (bn.mono BB.out.size))
  clear bn
  obtain ⟨A0, A1, A2, A3, A4⟩ := HA.out.facts
  obtain ⟨B0, B1, B2, B3, B4⟩ := HB.out.facts
  obtain ⟨I0, I1⟩ := HI.out.facts
  have b3 := below_one wk1 (.cells #[.int .i64 z1, .int .i64 t1, .int .i64 f1, .int .i64 s1, .int .i64 p1] 23)
  have HA := Lib.hid (HA.out.below b3)
  have HI := Lib.hid (HI.out.below b3)
  have HB := Lib.hid (HB.out.below b3)
  have HC := Lib.hid (held_last z1 t1 f1 s1 p1 23 wk1)
  have BB := Lib.hid (BB.out.trans (b3.mono BB.out.size))
  clear b3
  obtain ⟨A0, A1, A2, A3, A4⟩ := HA.out.facts
  obtain ⟨B0, B1, B2, B3, B4⟩ := HB.out.facts
  obtain ⟨C0, C1, C2, C3, C4⟩ := HC.out.facts
  obtain ⟨I0, I1⟩ := HI.out.facts
  go_upto_region 3 with fail
  generalize wk1.alloc (.cells #[.int .i64 z1, .int .i64 t1, .int .i64 f1, .int .i64 s1, .int .i64 p1] 23) = ws1 at HA HI HB HC BB ⊢
  generalize wk1.heap.size = qC at HC ⊢
  go_cut [11, 12] (fun u v wx => ∃ q : Nat, u = .pointer (some ⟨q, 0, none⟩) ∧ v = .int .i64 e2 ∧ Held q z2 t2 f2 s2 p2 wx ∧ Held w.heap.size z t f s p wx ∧ HeldP (w.heap.size + 1) a b wx ∧ Held qB z1 t1 f1 s1 p1 wx ∧ Held qC z1 t1 f1 s1 p1 wx ∧ Below w.heap.size w wx)
  case first =>
    have SX : Hid (∀ W, Below ws1.heap.size ws1.drew W → (W.cell? ⟨w.heap.size, 0, none⟩ = some (.int .i64 z) ∧ W.cell? ⟨w.heap.size, 1, none⟩ = some (.int .i64 t) ∧ W.cell? ⟨w.heap.size, 2, none⟩ = some (.int .i64 f) ∧ W.cell? ⟨w.heap.size, 3, none⟩ = some (.int .i64 s) ∧ W.cell? ⟨w.heap.size, 4, none⟩ = some (.int .i64 p) ∧ W.cell? ⟨w.heap.size + 1, 0, none⟩ = some (.int .i64 a) ∧ W.cell? ⟨w.heap.size + 1, 1, none⟩ = some (.int .i64 b))) := Lib.hid (fun W hW => by (obtain ⟨A0, A1, A2, A3, A4⟩ := (Held.below (W := ws1.drew) HA.out hW).facts); (obtain ⟨I0, I1⟩ := (HeldP.below (W := ws1.drew) HI.out hW).facts); exact ⟨A0, A1, A2, A3, A4, I0, I1⟩)
    have B0 := BB
    have BB : Hid (Below ws1.heap.size ws1.drew ws1.drew) := Lib.hid (Below.refl _ _)
    have S0 := SX.out _ BB.out
    have K3 := SX.out (ws1.alloc (.cells #[.int .i64 0, .int .i64 0, .int .i64 0, .int .i64 0, .int .i64 0] 25)).drew (show Below ws1.heap.size ws1.drew (ws1.drew.alloc (.cells #[.int .i64 0, .int .i64 0, .int .i64 0, .int .i64 0, .int .i64 0] 25)) from below_more BB.out (Nat.le_refl _) (.cells #[.int .i64 0, .int .i64 0, .int .i64 0, .int .i64 0, .int .i64 0] 25))
    go_region_held3 (fun w' => w'.cell? ⟨w.heap.size, 0, none⟩ = some (.int .i64 z) ∧ w'.cell? ⟨w.heap.size, 1, none⟩ = some (.int .i64 t) ∧ w'.cell? ⟨w.heap.size, 2, none⟩ = some (.int .i64 f) ∧ w'.cell? ⟨w.heap.size, 3, none⟩ = some (.int .i64 s) ∧ w'.cell? ⟨w.heap.size, 4, none⟩ = some (.int .i64 p) ∧ w'.cell? ⟨w.heap.size + 1, 0, none⟩ = some (.int .i64 a) ∧ w'.cell? ⟨w.heap.size + 1, 1, none⟩ = some (.int .i64 b))
      (first
        | (with_reducible exact S0)
        | (with_reducible exact K3)
        | (with_reducible exact K5)
        | (with_reducible exact SX.out _ BB.out))
      (first
        | (go_at_call 10; refine (theirs_any _ _ _ _ _ _).mono ?_; rintro e wm ⟨rfl, bn⟩; have BB := Lib.hid (BB.out.trans (bn.mono BB.out.size)); clear bn; have LM : Hid (ws1.heap.size ≤ wm.heap.size) := Lib.hid BB.out.size; have K3 := SX.out _ (below_more BB.out (Nat.le_refl _) (.cells #[.int .i64 0, .int .i64 0, .int .i64 0, .int .i64 0, .int .i64 0] 25)))
        | (go_at_call 10; refine (theirs_any _ _ _ _ _ _).mono ?_; rintro e wm ⟨rfl, bn⟩; have HN := Lib.hid (Held.below (held_last 0 0 0 0 0 25 ws1.drew) bn); have BB := Lib.hid (below_more BB.out (Nat.le_refl _) (.cells #[.int .i64 0, .int .i64 0, .int .i64 0, .int .i64 0, .int .i64 0] 25)); have BB := Lib.hid (BB.out.trans (bn.mono BB.out.size)); clear bn; have HN : Hid (Held ws1.heap.size 0 0 0 0 0 wm) := HN; obtain ⟨y0, y1, y2, y3, y4⟩ := HN.out.free; obtain ⟨x0, x1, x2, x3, x4⟩ := HN.out.facts)
        | (go_at_call 24; refine (P3.out _).mono ?_; rintro e wk ⟨rfl, bn⟩; have HN := Lib.hid (HN.out.below bn); have BB := Lib.hid (BB.out.trans (bn.mono BB.out.size)); clear bn; obtain ⟨y0, y1, y2, y3, y4⟩ := HN.out.free; obtain ⟨x0, x1, x2, x3, x4⟩ := HN.out.facts; have BF := Lib.hid (below_five BB.out ws1.heap.size (Nat.le_refl _) (.int .i64 z2) (.int .i64 t2) (.int .i64 f2) (.int .i64 s2) (.int .i64 p2)); have K5 := SX.out _ BF.out; have HF := Lib.hid (HN.out.set z2 t2 f2 s2 p2))
        | (go_at_call 24; refine (P3.out _).mono ?_; rintro e wk ⟨rfl, bn⟩; have HN := Lib.hid (Held.below (held_last 0 0 0 0 0 25 wm) bn); have BB := Lib.hid (below_more BB.out (Nat.le_refl _) (.cells #[.int .i64 0, .int .i64 0, .int .i64 0, .int .i64 0, .int .i64 0] 25)); have BB := Lib.hid (BB.out.trans (bn.mono BB.out.size)); clear bn; obtain ⟨y0, y1, y2, y3, y4⟩ := HN.out.free; obtain ⟨x0, x1, x2, x3, x4⟩ := HN.out.facts; have BF := Lib.hid (below_five BB.out wm.heap.size LM.out (.int .i64 z2) (.int .i64 t2) (.int .i64 f2) (.int .i64 s2) (.int .i64 p2)); have K5 := SX.out _ BF.out; have HF := Lib.hid (HN.out.set z2 t2 f2 s2 p2))
        | (go_at_call 24; refine (P3.out _).mono ?_; rintro e wk ⟨rfl, bn⟩; have BB := Lib.hid (BB.out.trans (bn.mono BB.out.size)); clear bn; obtain ⟨y0, y1, y2, y3, y4⟩ := (held_last 0 0 0 0 0 25 wk).free; have K3 := SX.out _ (below_more BB.out (Nat.le_refl _) (.cells #[.int .i64 0, .int .i64 0, .int .i64 0, .int .i64 0, .int .i64 0] 25)); have BF := Lib.hid (below_more BB.out (Nat.le_refl _) (.cells #[.int .i64 z2, .int .i64 t2, .int .i64 f2, .int .i64 s2, .int .i64 p2] 25)); have K5 := SX.out _ BF.out; have HF := Lib.hid (held_last z2 t2 f2 s2 p2 25 wk)))
    all_goals
      go_wp2_with fail
      go_meet
      exact ⟨_, rfl, rfl, HF.out, Held.below (W := ws1.drew) HA.out BF.out, HeldP.below (W := ws1.drew) HI.out BF.out, Held.below (W := ws1.drew) HB.out BF.out, Held.below (W := ws1.drew) HC.out BF.out, (B0.out.drew).trans (Below.mono BF.out B0.out.size)⟩
  obtain ⟨qD, rfl, rfl, HD, HA, HI, HB, HC, BB⟩ := hcut
  have HD := Lib.hid HD
  have HA := Lib.hid HA
  have HI := Lib.hid HI
  have HB := Lib.hid HB
  have HC := Lib.hid HC
  have BB := Lib.hid BB
  obtain ⟨A0, A1, A2, A3, A4⟩ := HA.out.facts
  obtain ⟨B0, B1, B2, B3, B4⟩ := HB.out.facts
  obtain ⟨C0, C1, C2, C3, C4⟩ := HC.out.facts
  obtain ⟨D0, D1, D2, D3, D4⟩ := HD.out.facts
  obtain ⟨I0, I1⟩ := HI.out.facts
  go_wp2_with fail
  refine (P4.out _).mono ?_
  rintro e wk2 ⟨rfl, bn⟩
  have HA := Lib.hid (HA.out.below bn)
  have HI := Lib.hid (HI.out.below bn)
  have HB := Lib.hid (HB.out.below bn)
  have HC := Lib.hid (HC.out.below bn)
  have HD := Lib.hid (HD.out.below bn)
  have BB := Lib.hid (BB.out.trans (bn.mono BB.out.size))
  clear bn
  obtain ⟨A0, A1, A2, A3, A4⟩ := HA.out.facts
  obtain ⟨B0, B1, B2, B3, B4⟩ := HB.out.facts
  obtain ⟨C0, C1, C2, C3, C4⟩ := HC.out.facts
  obtain ⟨D0, D1, D2, D3, D4⟩ := HD.out.facts
  obtain ⟨I0, I1⟩ := HI.out.facts
  have b3 := below_one wk2 (.cells #[.int .i64 z2, .int .i64 t2, .int .i64 f2, .int .i64 s2, .int .i64 p2] 23)
  have HA := Lib.hid (HA.out.below b3)
  have HI := Lib.hid (HI.out.below b3)
  have HB := Lib.hid (HB.out.below b3)
  have HC := Lib.hid (HC.out.below b3)
  have HD := Lib.hid (HD.out.below b3)
  have HE := Lib.hid (held_last z2 t2 f2 s2 p2 23 wk2)
  have BB := Lib.hid (BB.out.trans (b3.mono BB.out.size))
  clear b3
  obtain ⟨A0, A1, A2, A3, A4⟩ := HA.out.facts
  obtain ⟨B0, B1, B2, B3, B4⟩ := HB.out.facts
  obtain ⟨C0, C1, C2, C3, C4⟩ := HC.out.facts
  obtain ⟨D0, D1, D2, D3, D4⟩ := HD.out.facts
  obtain ⟨E0, E1, E2, E3, E4⟩ := HE.out.facts
  obtain ⟨I0, I1⟩ := HI.out.facts
  go_wp2_with fail
  generalize wk2.alloc (.cells #[.int .i64 z2, .int .i64 t2, .int .i64 f2, .int .i64 s2, .int .i64 p2] 23) = ws2 at HA HI HB HC HD HE BB ⊢
  generalize wk2.heap.size = qE at HE ⊢
  have HB : Hid (Held qB z1 t1 f1 s1 p1 ws2.drew) := HB
  have HC : Hid (Held qC z1 t1 f1 s1 p1 ws2.drew) := HC
  have HD : Hid (Held qD z2 t2 f2 s2 p2 ws2.drew) := HD
  have HE : Hid (Held qE z2 t2 f2 s2 p2 ws2.drew) := HE
  have BB := Lib.hid (BB.out.drew)
  obtain ⟨B0, B1, B2, B3, B4⟩ := HB.out.facts
  obtain ⟨C0, C1, C2, C3, C4⟩ := HC.out.facts
  obtain ⟨D0, D1, D2, D3, D4⟩ := HD.out.facts
  obtain ⟨E0, E1, E2, E3, E4⟩ := HE.out.facts
  go_region_held3 (fun w' => w'.cell? ⟨qB, 0, none⟩ = some (.int .i64 z1) ∧ w'.cell? ⟨qB, 1, none⟩ = some (.int .i64 t1) ∧ w'.cell? ⟨qB, 2, none⟩ = some (.int .i64 f1) ∧ w'.cell? ⟨qB, 3, none⟩ = some (.int .i64 s1) ∧ w'.cell? ⟨qB, 4, none⟩ = some (.int .i64 p1) ∧ w'.cell? ⟨qC, 0, none⟩ = some (.int .i64 z1) ∧ w'.cell? ⟨qC, 1, none⟩ = some (.int .i64 t1) ∧ w'.cell? ⟨qC, 2, none⟩ = some (.int .i64 f1) ∧ w'.cell? ⟨qC, 3, none⟩ = some (.int .i64 s1) ∧ w'.cell? ⟨qC, 4, none⟩ = some (.int .i64 p1) ∧ w'.cell? ⟨qD, 0, none⟩ = some (.int .i64 z2) ∧ w'.cell? ⟨qD, 1, none⟩ = some (.int .i64 t2) ∧ w'.cell? ⟨qD, 2, none⟩ = some (.int .i64 f2) ∧ w'.cell? ⟨qD, 3, none⟩ = some (.int .i64 s2) ∧ w'.cell? ⟨qD, 4, none⟩ = some (.int .i64 p2) ∧ w'.cell? ⟨qE, 0, none⟩ = some (.int .i64 z2) ∧ w'.cell? ⟨qE, 1, none⟩ = some (.int .i64 t2) ∧ w'.cell? ⟨qE, 2, none⟩ = some (.int .i64 f2) ∧ w'.cell? ⟨qE, 3, none⟩ = some (.int .i64 s2) ∧ w'.cell? ⟨qE, 4, none⟩ = some (.int .i64 p2))
      (first
        | (with_reducible exact ⟨B0, B1, B2, B3, B4, C0, C1, C2, C3, C4, D0, D1, D2, D3, D4, E0, E1, E2, E3, E4⟩))
      (first
        | (go_at_call 14; refine (ours_any _ _ _ _ _ _).mono ?_; rintro e wn ⟨rfl, bn⟩; have HB := Lib.hid (HB.out.below bn); have HC := Lib.hid (HC.out.below bn); have HD := Lib.hid (HD.out.below bn); have HE := Lib.hid (HE.out.below bn); have BB := Lib.hid (BB.out.trans (bn.mono BB.out.size)); clear bn; obtain ⟨B0, B1, B2, B3, B4⟩ := HB.out.facts; obtain ⟨C0, C1, C2, C3, C4⟩ := HC.out.facts; obtain ⟨D0, D1, D2, D3, D4⟩ := HD.out.facts; obtain ⟨E0, E1, E2, E3, E4⟩ := HE.out.facts)
        | (go_at_call 17; refine (alive_any _).mono ?_; rintro e wn ⟨rfl, bn⟩; have HB := Lib.hid (HB.out.below bn); have HC := Lib.hid (HC.out.below bn); have HD := Lib.hid (HD.out.below bn); have HE := Lib.hid (HE.out.below bn); have BB := Lib.hid (BB.out.trans (bn.mono BB.out.size)); clear bn; obtain ⟨B0, B1, B2, B3, B4⟩ := HB.out.facts; obtain ⟨C0, C1, C2, C3, C4⟩ := HC.out.facts; obtain ⟨D0, D1, D2, D3, D4⟩ := HD.out.facts; obtain ⟨E0, E1, E2, E3, E4⟩ := HE.out.facts))
  all_goals
    go_wp2
    go_ret
    exact ⟨rfl, BB.out⟩
end Go.Proofs.Ytiglhdiclfknhaa
