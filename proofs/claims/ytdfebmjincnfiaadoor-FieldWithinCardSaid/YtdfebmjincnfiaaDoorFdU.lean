/- Layer 17: Directives, whole, at the law's own example. -/
import Derived.Test.YtdfebmjincnfiaaDoorFdR
set_option maxRecDepth 100000
set_option linter.unusedSimpArgs false
set_option linter.unusedVariables false
namespace Go.Proofs.YtdfebmjincnfiaaDoor
open Go.RowKit

def ctlZ : List Value := [.bool false, .bool false, .bool false, .bool false, .bool false, .bool false, .int .i64 0, .int .i64 0, .int .i64 0, .int .i64 0, .int .i64 0, .int .i64 0]
theorem load_ctl {U : World} {g : Nat} (h : Cs U g ctl2) : (loadVar 41 ⟨g, 0, none⟩).run Tryd.prog U = .ok (.agg ctl2.toArray) U := by
  obtain ⟨T, hT⟩ := h
  exact run_loadVar_row (P := Tryd.prog) U g T 41 ctl2.toArray (0, 0) _ hT Tryd.underlying41 rfl (by kernel_rfl)
/-- between two elements -/
def JC (g : Nat) (v : Value) (W0 : World) (pre : List (List UInt8)) (W : World) : Prop :=
  ((pre = [] ∧ Cs W g ctl0) ∨ (pre = [el1] ∧ Cs W g ctl1) ∨ (pre = [el1, el2] ∧ Cs W g ctl2)) ∧ RdT W v [ccV] ∧ W0.grownBy W (some g)
theorem RdT.grown {w w' : World} {v : Value} {ts : List (List UInt8)} {row : Option Nat} (h : RdT w v ts) (hg : w.grownBy w' row) (hne : ∀ j, v.ownBlock = some j → row ≠ some j) : RdT w' v ts := RdC.kept h hg hne
theorem prefix_cases {pre : List (List UInt8)} {x : List UInt8} (h : (pre ++ [x]) <+: [el1, el2]) : (pre = [] ∧ x = el1) ∨ (pre = [el1] ∧ x = el2) := by
  match pre, h with
  | [], h =>
    left
    obtain ⟨t, ht⟩ := h
    simp only [List.nil_append, List.cons_append, List.cons.injEq] at ht
    exact ⟨rfl, ht.1⟩
  | [a], h =>
    right
    obtain ⟨t, ht⟩ := h
    simp only [List.nil_append, List.cons_append, List.cons.injEq] at ht
    exact ⟨by rw [ht.1], ht.2.1⟩
  | a :: b :: r, h =>
    have := h.length_le
    simp at this
theorem els_any (g : Nat) (v : Value) (w : World) (hv : RdT w v [ccV]) (hne : ∀ j, v.ownBlock = some j → (some g : Option Nat) ≠ some j) (hc : Cs w g ctl0) :
    Calls Tryd.prog 12 #[v, .func (.func 24) #[] #[.pointer (some ⟨g, 0, none⟩)]] w fun e w' => e = .returned (.bool false) ∧ Cs w' g ctl2 ∧ w.grownBy w' (some g) := by
  have A := any_any 24 #[.pointer (some ⟨g, 0, none⟩)] (enters_of Tryd.func24 (by kernel_rfl) rfl) [ccV] v w hv (fun t ht => (List.mem_singleton.1 ht) ▸ (by decide))
    (JC g v w) (fun _ _ => False) ⟨.inl ⟨rfl, hc⟩, hv, World.grownBy.refl _ _⟩
    (fun pre W W' h hb => by
      obtain ⟨h1, h2, h3⟩ := h
      refine ⟨?_, h2.below hb, grownBy_trans h3 (grownBy_of_below hb)⟩
      rcases h1 with ⟨e, h⟩ | ⟨e, h⟩ | ⟨e, h⟩
      · exact .inl ⟨e, h.below hb⟩
      · exact .inr (.inl ⟨e, h.below hb⟩)
      · exact .inr (.inr ⟨e, h.below hb⟩))
    (fun pre W h => h.2.1)
    (fun pre x W h hp => by
      rw [ccV_els] at hp
      obtain ⟨h1, h2, h3⟩ := h
      rcases prefix_cases hp with ⟨rfl, rfl⟩ | ⟨rfl, rfl⟩
      · rcases h1 with ⟨_, h⟩ | ⟨e, h⟩ | ⟨e, h⟩
        · refine (dcl_one g W h).mono ?_
          rintro e W' ⟨rfl, hc', hg⟩
          exact ⟨false, rfl, fun _ => ⟨.inr (.inl ⟨rfl, hc'⟩), h2.grown hg hne, grownBy_trans h3 hg⟩, fun h => by cases h⟩
        · cases e
        · cases e
      · rcases h1 with ⟨e, h⟩ | ⟨_, h⟩ | ⟨e, h⟩
        · cases e
        · refine (dcl_two g W h).mono ?_
          rintro e W' ⟨rfl, hc', hg⟩
          exact ⟨false, rfl, fun _ => ⟨.inr (.inr ⟨rfl, hc'⟩), h2.grown hg hne, grownBy_trans h3 hg⟩, fun h => by cases h⟩
        · simp at e)
  refine A.mono fun e w' h => ?_
  rcases h with ⟨rfl, h1, _, h3⟩ | ⟨_, _, _, h⟩
  · rw [ccV_els] at h1
    refine ⟨rfl, ?_, h3⟩
    rcases h1 with ⟨e, _⟩ | ⟨e, _⟩ | ⟨_, h⟩
    · cases e
    · simp at e
    · exact h
  · exact h.elim
set_option maxHeartbeats 6400000 in
theorem directives_one (b : Nat) (w : World) (c0 : w.cell? ⟨b, 0, none⟩ = some (.string (txt ccN))) (c1 : w.cell? ⟨b, 1, none⟩ = some (.string (txt ccV))) :
    Calls Tryd.prog 14 #[.slice (some ⟨b, 0, none⟩) 1 1] w fun e w' => e = .returned (.agg ctl2.toArray) ∧ Below w.heap.size w w' := by
  have hb := cell_lt c0
  have Z1 : Hid (Below w.heap.size w ((w.alloc (.cells ctlZ.toArray 41)).alloc (.cells ctl0.toArray 41))) := ((Below.refl _ _).alloc (Nat.le_refl _) _).alloc (by simp) _
  have R1 : Hid (Cs ((w.alloc (.cells ctlZ.toArray 41)).alloc (.cells ctl0.toArray 41)) w.heap.size ctlZ) := (Cs.made w _ _).below ((Below.refl _ _).alloc (Nat.le_refl _) _)
  have S1 : Hid (Cs ((w.alloc (.cells ctlZ.toArray 41)).alloc (.cells ctl0.toArray 41)) (w.heap.size + 1) ctl0) := by
    have := Cs.made (w.alloc (.cells ctlZ.toArray 41)) ctl0.toArray 41
    rwa [World.size_alloc] at this
  have hsz : Hid (((w.alloc (.cells ctlZ.toArray 41)).alloc (.cells ctl0.toArray 41)).heap.size = w.heap.size + 2) := by show _ = _; simp
  have k0 := (Z1.out.cell (p := ⟨b, 0, none⟩) hb).trans c0
  have k1 := (Z1.out.cell (p := ⟨b, 1, none⟩) hb).trans c1
  clear c0 c1
  obtain ⟨W, hW⟩ : ∃ W, W = (w.alloc (.cells ctlZ.toArray 41)).alloc (.cells ctl0.toArray 41) := ⟨_, rfl⟩
  rw [← hW] at Z1 R1 S1 k0 k1 hsz
  go_enter Tryd.func14, Tryd.ntmps14
  go_upto_region 2 with fail
  change Code.wp _ _ _ _ ((w.alloc (.cells ctlZ.toArray 41)).alloc (.cells ctl0.toArray 41))
  rw [← hW]
  have AO := Lib.hid (all_one ccN ccV b W k0 k1)
  clear hW k0 k1
  go_upto_region 3 with (first
    | (go_at_call 23; refine AO.out.mono ?_; rintro e w3 ⟨u, rfl, hr, hb3, hj⟩; obtain ⟨ua, uc, rfl, _, _⟩ := RdC.isSlice hr; have E3 := Lib.hid (els_any (w.heap.size + 1) _ w3 hr (fun j h => by have := hj j h; have := hsz.out; simp only [ne_eq, Option.some.injEq]; omega) (S1.out.below hb3)); have R3 := Lib.hid (R1.out.below hb3); have Z3 := Lib.hid (Z1.out.trans (hb3.mono Z1.out.size)); clear hr hb3 hj)
    | (go_at_call 12; refine E3.out.mono ?_; rintro e w4 ⟨rfl, hc4, hg4⟩; have S4 := Lib.hid hc4; have R4 := Lib.hid (R3.out.grown hg4 (by simp)); have Z4 := Lib.hid (Z3.out.grown hg4 Z3.out.size (fun j hj => by simp only [Option.some.injEq] at hj; omega)); clear hc4 hg4))
  have c0 := S4.out.get 0 _ rfl
  have r0 := R4.out.get 0 _ rfl
  have z0 := R4.out.free 0
  have c1 := S4.out.get 1 _ rfl
  have r1 := R4.out.get 1 _ rfl
  have z1 := R4.out.free 1
  have c2 := S4.out.get 2 _ rfl
  have r2 := R4.out.get 2 _ rfl
  have z2 := R4.out.free 2
  have c3 := S4.out.get 3 _ rfl
  have r3 := R4.out.get 3 _ rfl
  have z3 := R4.out.free 3
  have c4 := S4.out.get 4 _ rfl
  have r4 := R4.out.get 4 _ rfl
  have z4 := R4.out.free 4
  have c5 := S4.out.get 5 _ rfl
  have r5 := R4.out.get 5 _ rfl
  have z5 := R4.out.free 5
  have c6 := S4.out.get 6 _ rfl
  have r6 := R4.out.get 6 _ rfl
  have z6 := R4.out.free 6
  have c7 := S4.out.get 7 _ rfl
  have r7 := R4.out.get 7 _ rfl
  have z7 := R4.out.free 7
  have c8 := S4.out.get 8 _ rfl
  have r8 := R4.out.get 8 _ rfl
  have z8 := R4.out.free 8
  have c9 := S4.out.get 9 _ rfl
  have r9 := R4.out.get 9 _ rfl
  have z9 := R4.out.free 9
  have c10 := S4.out.get 10 _ rfl
  have r10 := R4.out.get 10 _ rfl
  have z10 := R4.out.free 10
  have c11 := S4.out.get 11 _ rfl
  have r11 := R4.out.get 11 _ rfl
  have z11 := R4.out.free 11
  go_wp2
  have R5 : Cs _ w.heap.size ctl2 := ((((((((((((R4.out.set 0 (.bool true)).set 1 (.bool false)).set 2 (.bool false)).set 3 (.bool false)).set 4 (.bool false)).set 5 (.bool false)).set 6 (.int .i64 60)).set 7 (.int .i64 (-1))).set 8 (.int .i64 (-1))).set 9 (.int .i64 (-1))).set 10 (.int .i64 (-1))).set 11 (.int .i64 (-1)))
  have Z5 := ((((((((((((Z4.out.setCell (p := ⟨w.heap.size, 0, none⟩) (Nat.le_refl _) (.bool true)).setCell (p := ⟨w.heap.size, 1, none⟩) (Nat.le_refl _) (.bool false)).setCell (p := ⟨w.heap.size, 2, none⟩) (Nat.le_refl _) (.bool false)).setCell (p := ⟨w.heap.size, 3, none⟩) (Nat.le_refl _) (.bool false)).setCell (p := ⟨w.heap.size, 4, none⟩) (Nat.le_refl _) (.bool false)).setCell (p := ⟨w.heap.size, 5, none⟩) (Nat.le_refl _) (.bool false)).setCell (p := ⟨w.heap.size, 6, none⟩) (Nat.le_refl _) (.int .i64 60)).setCell (p := ⟨w.heap.size, 7, none⟩) (Nat.le_refl _) (.int .i64 (-1))).setCell (p := ⟨w.heap.size, 8, none⟩) (Nat.le_refl _) (.int .i64 (-1))).setCell (p := ⟨w.heap.size, 9, none⟩) (Nat.le_refl _) (.int .i64 (-1))).setCell (p := ⟨w.heap.size, 10, none⟩) (Nat.le_refl _) (.int .i64 (-1))).setCell (p := ⟨w.heap.size, 11, none⟩) (Nat.le_refl _) (.int .i64 (-1)))
  have hlv := load_ctl R5
  refine bodyPost_ret (v := .agg ctl2.toArray) ?_ rfl ⟨rfl, Z5⟩
  simp [results, Tryd.results14, asAddr, hlv]
end Go.Proofs.YtdfebmjincnfiaaDoor
