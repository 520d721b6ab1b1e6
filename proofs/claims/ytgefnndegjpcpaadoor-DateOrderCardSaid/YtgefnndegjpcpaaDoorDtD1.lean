/- Walks of layer 16: which dates there are. -/
import Derived.Test.YtgefnndegjpcpaaDoorDtD0
set_option maxRecDepth 100000
set_option linter.unusedSimpArgs false
set_option linter.unusedVariables false
namespace Go.Proofs.YtgefnndegjpcpaaDoor
open Go.RowKit

set_option maxHeartbeats 4000000 in
theorem isDate_1 (y m d h i s D : Int) (w : World)  (h1 : ¬ y ≥ 0) :
    Calls Tryd.prog 22 #[.agg #[.int .i64 y, .int .i64 m, .int .i64 d, .int .i64 h, .int .i64 i, .int .i64 s]] w fun e w' => e = .returned (.bool false) ∧ Below w.heap.size w w' := by

  have d1 : decide (y ≥ 0) = false := decide_eq_false h1
  have BB := Lib.hid (Below.refl w.heap.size w |>.alloc (Nat.le_refl _) (.cells #[.int .i64 y, .int .i64 m, .int .i64 d, .int .i64 h, .int .i64 i, .int .i64 s] 27) |>.drew)
  have CC := Lib.hid (Cs.made w #[.int .i64 y, .int .i64 m, .int .i64 d, .int .i64 h, .int .i64 i, .int .i64 s] 27).drew
  clear h1
  go_enter Tryd.func22, Tryd.ntmps22
  go_wp2_with fail
  refine region_named dateOps (by kernel_rfl) ?_
  refine wp_region_held_drew (S := SixB w.heap.size y m d h i s) (by kernel_rfl) CC.out.six (fun hHeld => ?_)
  refine take_wanted 0 3 (.pointer (some ⟨w.heap.size, 0, none⟩)) (by kernel_rfl) (by kernel_rfl) (fun _ _ _ h => h) (fun W _ => by kernel_rfl) hHeld ?_
  refine take_wanted 1 4 (.int .i64 y) (by kernel_rfl) (by kernel_rfl) (fun _ _ _ h => h) (fun W hS => run_load 3 (.tmp 3) (by kernel_rfl) Tryd.isAgg3 ⟨w.heap.size, 0, none⟩ (.int .i64 y) (by kernel_rfl) hS.1) hHeld ?_
  refine take_wanted 2 5 (.bool false) (by kernel_rfl) (by kernel_rfl) (fun _ _ _ h => h) (fun W _ => Eq.trans (b := .ok (.value (.bool (decide (y ≥ 0)))) W) (by kernel_rfl) (by rw [d1])) hHeld ?_
  refine take_wanted 3 6 (.bool false) (by kernel_rfl) (by kernel_rfl) (fun _ _ _ h => h) (fun W _ => by kernel_rfl) hHeld ?_
  refine take_not 4 7 (by kernel_rfl) (by kernel_rfl) (fun _ _ _ h => h) hHeld ?_
  refine take_not 5 8 (by kernel_rfl) (by kernel_rfl) (fun _ _ _ h => h) hHeld ?_
  refine take_not 6 9 (by kernel_rfl) (by kernel_rfl) (fun _ _ _ h => h) hHeld ?_
  refine take_wanted 7 10 (.bool false) (by kernel_rfl) (by kernel_rfl) (fun _ _ _ h => h) (fun W _ => by kernel_rfl) hHeld ?_
  refine take_wanted 8 11 (.bool false) (by kernel_rfl) (by kernel_rfl) (fun _ _ _ h => h) (fun W _ => by kernel_rfl) hHeld ?_
  refine take_not 9 12 (by kernel_rfl) (by kernel_rfl) (fun _ _ _ h => h) hHeld ?_
  refine take_not 10 13 (by kernel_rfl) (by kernel_rfl) (fun _ _ _ h => h) hHeld ?_
  refine take_not 11 14 (by kernel_rfl) (by kernel_rfl) (fun _ _ _ h => h) hHeld ?_
  refine take_wanted 12 15 (.bool false) (by kernel_rfl) (by kernel_rfl) (fun _ _ _ h => h) (fun W _ => by kernel_rfl) hHeld ?_
  refine take_wanted 13 16 (.bool false) (by kernel_rfl) (by kernel_rfl) (fun _ _ _ h => h) (fun W _ => by kernel_rfl) hHeld ?_
  refine take_not 14 17 (by kernel_rfl) (by kernel_rfl) (fun _ _ _ h => h) hHeld ?_
  refine take_not 15 18 (by kernel_rfl) (by kernel_rfl) (fun _ _ _ h => h) hHeld ?_
  refine take_not 16 19 (by kernel_rfl) (by kernel_rfl) (fun _ _ _ h => h) hHeld ?_
  refine take_wanted 17 20 (.bool false) (by kernel_rfl) (by kernel_rfl) (fun _ _ _ h => h) (fun W _ => by kernel_rfl) hHeld ?_
  refine take_wanted 18 21 (.bool false) (by kernel_rfl) (by kernel_rfl) (fun _ _ _ h => h) (fun W _ => by kernel_rfl) hHeld ?_
  refine take_not 19 22 (by kernel_rfl) (by kernel_rfl) (fun _ _ _ h => h) hHeld ?_
  refine take_not 20 23 (by kernel_rfl) (by kernel_rfl) (fun _ _ _ h => h) hHeld ?_
  refine take_not 21 24 (by kernel_rfl) (by kernel_rfl) (fun _ _ _ h => h) hHeld ?_
  refine take_wanted 22 25 (.bool false) (by kernel_rfl) (by kernel_rfl) (fun _ _ _ h => h) (fun W _ => by kernel_rfl) hHeld ?_
  refine take_wanted 23 26 (.bool false) (by kernel_rfl) (by kernel_rfl) (fun _ _ _ h => h) (fun W _ => by kernel_rfl) hHeld ?_
  refine take_not 24 27 (by kernel_rfl) (by kernel_rfl) (fun _ _ _ h => h) hHeld ?_
  refine take_not 25 28 (by kernel_rfl) (by kernel_rfl) (fun _ _ _ h => h) hHeld ?_
  refine take_not 26 29 (by kernel_rfl) (by kernel_rfl) (fun _ _ _ h => h) hHeld ?_
  refine take_not 27 30 (by kernel_rfl) (by kernel_rfl) (fun _ _ _ h => h) hHeld ?_
  refine take_not 28 31 (by kernel_rfl) (by kernel_rfl) (fun _ _ _ h => h) hHeld ?_
  refine take_not 29 32 (by kernel_rfl) (by kernel_rfl) (fun _ _ _ h => h) hHeld ?_
  refine take_not 30 33 (by kernel_rfl) (by kernel_rfl) (fun _ _ _ h => h) hHeld ?_
  refine take_not 31 34 (by kernel_rfl) (by kernel_rfl) (fun _ _ _ h => h) hHeld ?_
  refine take_wanted 32 35 (.bool false) (by kernel_rfl) (by kernel_rfl) (fun _ _ _ h => h) (fun W _ => by kernel_rfl) hHeld ?_
  refine take_wanted 33 36 (.bool false) (by kernel_rfl) (by kernel_rfl) (fun _ _ _ h => h) (fun W _ => by kernel_rfl) hHeld ?_
  refine take_not 34 37 (by kernel_rfl) (by kernel_rfl) (fun _ _ _ h => h) hHeld ?_
  refine take_not 35 38 (by kernel_rfl) (by kernel_rfl) (fun _ _ _ h => h) hHeld ?_
  refine take_not 36 39 (by kernel_rfl) (by kernel_rfl) (fun _ _ _ h => h) hHeld ?_
  refine take_wanted 37 40 (.bool false) (by kernel_rfl) (by kernel_rfl) (fun _ _ _ h => h) (fun W _ => by kernel_rfl) hHeld ?_
  refine take_wanted 38 41 (.bool false) (by kernel_rfl) (by kernel_rfl) (fun _ _ _ h => h) (fun W _ => by kernel_rfl) hHeld ?_
  refine take_not 39 42 (by kernel_rfl) (by kernel_rfl) (fun _ _ _ h => h) hHeld ?_
  refine take_not 40 43 (by kernel_rfl) (by kernel_rfl) (fun _ _ _ h => h) hHeld ?_
  refine take_not 41 44 (by kernel_rfl) (by kernel_rfl) (fun _ _ _ h => h) hHeld ?_
  refine take_wanted 42 45 (.bool false) (by kernel_rfl) (by kernel_rfl) (fun _ _ _ h => h) (fun W _ => by kernel_rfl) hHeld ?_
  refine take_wanted 43 46 (.bool false) (by kernel_rfl) (by kernel_rfl) (fun _ _ _ h => h) (fun W _ => by kernel_rfl) hHeld ?_
  refine take_not 44 47 (by kernel_rfl) (by kernel_rfl) (fun _ _ _ h => h) hHeld ?_
  refine take_not 45 48 (by kernel_rfl) (by kernel_rfl) (fun _ _ _ h => h) hHeld ?_
  refine take_not 46 49 (by kernel_rfl) (by kernel_rfl) (fun _ _ _ h => h) hHeld ?_
  refine take_wanted 47 50 (.bool false) (by kernel_rfl) (by kernel_rfl) (fun _ _ _ h => h) (fun W _ => by kernel_rfl) hHeld ?_
  refine take_wanted 48 51 (.bool false) (by kernel_rfl) (by kernel_rfl) (fun _ _ _ h => h) (fun W _ => by kernel_rfl) hHeld ?_
  refine take_not 49 52 (by kernel_rfl) (by kernel_rfl) (fun _ _ _ h => h) hHeld ?_
  refine take_not 50 53 (by kernel_rfl) (by kernel_rfl) (fun _ _ _ h => h) hHeld ?_
  refine take_not 51 54 (by kernel_rfl) (by kernel_rfl) (fun _ _ _ h => h) hHeld ?_
  refine take_wanted 52 55 (.bool false) (by kernel_rfl) (by kernel_rfl) (fun _ _ _ h => h) (fun W _ => by kernel_rfl) hHeld ?_
  refine take_wanted 53 56 (.bool false) (by kernel_rfl) (by kernel_rfl) (fun _ _ _ h => h) (fun W _ => by kernel_rfl) hHeld ?_
  refine take_not 54 57 (by kernel_rfl) (by kernel_rfl) (fun _ _ _ h => h) hHeld ?_
  refine take_not 55 58 (by kernel_rfl) (by kernel_rfl) (fun _ _ _ h => h) hHeld ?_
  refine take_not 56 59 (by kernel_rfl) (by kernel_rfl) (fun _ _ _ h => h) hHeld ?_
  refine take_wanted 57 60 (.bool false) (by kernel_rfl) (by kernel_rfl) (fun _ _ _ h => h) (fun W _ => by kernel_rfl) hHeld ?_
  refine take_wanted 58 61 (.bool false) (by kernel_rfl) (by kernel_rfl) (fun _ _ _ h => h) (fun W _ => by kernel_rfl) hHeld ?_
  refine take_not 59 62 (by kernel_rfl) (by kernel_rfl) (fun _ _ _ h => h) hHeld ?_
  refine take_not 60 63 (by kernel_rfl) (by kernel_rfl) (fun _ _ _ h => h) hHeld ?_
  refine take_not 61 64 (by kernel_rfl) (by kernel_rfl) (fun _ _ _ h => h) hHeld ?_
  refine take_wanted 62 65 (.bool false) (by kernel_rfl) (by kernel_rfl) (fun _ _ _ h => h) (fun W _ => by kernel_rfl) hHeld ?_
  refine take_wanted 63 2 (.bool false) (by kernel_rfl) (by kernel_rfl) (fun _ _ _ h => h) (fun W _ => by kernel_rfl) hHeld ?_
  refine wpAnyH_done (by kernel_rfl) ?_ _
  simp only [Act.put, List.setIfInBounds_toArray, List.set_cons_zero, List.set_cons_succ]
  go_wp2
  go_ret
  exact ⟨rfl, BB.out⟩

set_option maxHeartbeats 4000000 in
theorem isDate_2 (y m d h i s D : Int) (w : World) (h1 : y ≥ 0) (h2 : ¬ y ≤ 9999) :
    Calls Tryd.prog 22 #[.agg #[.int .i64 y, .int .i64 m, .int .i64 d, .int .i64 h, .int .i64 i, .int .i64 s]] w fun e w' => e = .returned (.bool false) ∧ Below w.heap.size w w' := by
  have d1 : decide (y ≥ 0) = true := decide_eq_true h1
  have d2 : decide (y ≤ 9999) = false := decide_eq_false h2
  have BB := Lib.hid (Below.refl w.heap.size w |>.alloc (Nat.le_refl _) (.cells #[.int .i64 y, .int .i64 m, .int .i64 d, .int .i64 h, .int .i64 i, .int .i64 s] 27) |>.drew)
  have CC := Lib.hid (Cs.made w #[.int .i64 y, .int .i64 m, .int .i64 d, .int .i64 h, .int .i64 i, .int .i64 s] 27).drew
  clear h1 h2
  go_enter Tryd.func22, Tryd.ntmps22
  go_wp2_with fail
  refine region_named dateOps (by kernel_rfl) ?_
  refine wp_region_held_drew (S := SixB w.heap.size y m d h i s) (by kernel_rfl) CC.out.six (fun hHeld => ?_)
  refine take_wanted 0 3 (.pointer (some ⟨w.heap.size, 0, none⟩)) (by kernel_rfl) (by kernel_rfl) (fun _ _ _ h => h) (fun W _ => by kernel_rfl) hHeld ?_
  refine take_wanted 1 4 (.int .i64 y) (by kernel_rfl) (by kernel_rfl) (fun _ _ _ h => h) (fun W hS => run_load 3 (.tmp 3) (by kernel_rfl) Tryd.isAgg3 ⟨w.heap.size, 0, none⟩ (.int .i64 y) (by kernel_rfl) hS.1) hHeld ?_
  refine take_wanted 2 5 (.bool true) (by kernel_rfl) (by kernel_rfl) (fun _ _ _ h => h) (fun W _ => Eq.trans (b := .ok (.value (.bool (decide (y ≥ 0)))) W) (by kernel_rfl) (by rw [d1])) hHeld ?_
  refine take_wanted 3 6 (.bool true) (by kernel_rfl) (by kernel_rfl) (fun _ _ _ h => h) (fun W _ => by kernel_rfl) hHeld ?_
  refine take_wanted 4 7 (.pointer (some ⟨w.heap.size, 0, none⟩)) (by kernel_rfl) (by kernel_rfl) (fun _ _ _ h => h) (fun W _ => by kernel_rfl) hHeld ?_
  refine take_wanted 5 8 (.int .i64 y) (by kernel_rfl) (by kernel_rfl) (fun _ _ _ h => h) (fun W hS => run_load 3 (.tmp 7) (by kernel_rfl) Tryd.isAgg3 ⟨w.heap.size, 0, none⟩ (.int .i64 y) (by kernel_rfl) hS.1) hHeld ?_
  refine take_wanted 6 9 (.bool false) (by kernel_rfl) (by kernel_rfl) (fun _ _ _ h => h) (fun W _ => Eq.trans (b := .ok (.value (.bool (decide (y ≤ 9999)))) W) (by kernel_rfl) (by rw [d2])) hHeld ?_
  refine take_wanted 7 10 (.bool false) (by kernel_rfl) (by kernel_rfl) (fun _ _ _ h => h) (fun W _ => by kernel_rfl) hHeld ?_
  refine take_wanted 8 11 (.bool false) (by kernel_rfl) (by kernel_rfl) (fun _ _ _ h => h) (fun W _ => by kernel_rfl) hHeld ?_
  refine take_not 9 12 (by kernel_rfl) (by kernel_rfl) (fun _ _ _ h => h) hHeld ?_
  refine take_not 10 13 (by kernel_rfl) (by kernel_rfl) (fun _ _ _ h => h) hHeld ?_
  refine take_not 11 14 (by kernel_rfl) (by kernel_rfl) (fun _ _ _ h => h) hHeld ?_
  refine take_wanted 12 15 (.bool false) (by kernel_rfl) (by kernel_rfl) (fun _ _ _ h => h) (fun W _ => by kernel_rfl) hHeld ?_
  refine take_wanted 13 16 (.bool false) (by kernel_rfl) (by kernel_rfl) (fun _ _ _ h => h) (fun W _ => by kernel_rfl) hHeld ?_
  refine take_not 14 17 (by kernel_rfl) (by kernel_rfl) (fun _ _ _ h => h) hHeld ?_
  refine take_not 15 18 (by kernel_rfl) (by kernel_rfl) (fun _ _ _ h => h) hHeld ?_
  refine take_not 16 19 (by kernel_rfl) (by kernel_rfl) (fun _ _ _ h => h) hHeld ?_
  refine take_wanted 17 20 (.bool false) (by kernel_rfl) (by kernel_rfl) (fun _ _ _ h => h) (fun W _ => by kernel_rfl) hHeld ?_
  refine take_wanted 18 21 (.bool false) (by kernel_rfl) (by kernel_rfl) (fun _ _ _ h => h) (fun W _ => by kernel_rfl) hHeld ?_
  refine take_not 19 22 (by kernel_rfl) (by kernel_rfl) (fun _ _ _ h => h) hHeld ?_
  refine take_not 20 23 (by kernel_rfl) (by kernel_rfl) (fun _ _ _ h => h) hHeld ?_
  refine take_not 21 24 (by kernel_rfl) (by kernel_rfl) (fun _ _ _ h => h) hHeld ?_
  refine take_wanted 22 25 (.bool false) (by kernel_rfl) (by kernel_rfl) (fun _ _ _ h => h) (fun W _ => by kernel_rfl) hHeld ?_
  refine take_wanted 23 26 (.bool false) (by kernel_rfl) (by kernel_rfl) (fun _ _ _ h => h) (fun W _ => by kernel_rfl) hHeld ?_
  refine take_not 24 27 (by kernel_rfl) (by kernel_rfl) (fun _ _ _ h => h) hHeld ?_
  refine take_not 25 28 (by kernel_rfl) (by kernel_rfl) (fun _ _ _ h => h) hHeld ?_
  refine take_not 26 29 (by kernel_rfl) (by kernel_rfl) (fun _ _ _ h => h) hHeld ?_
  refine take_not 27 30 (by kernel_rfl) (by kernel_rfl) (fun _ _ _ h => h) hHeld ?_
  refine take_not 28 31 (by kernel_rfl) (by kernel_rfl) (fun _ _ _ h => h) hHeld ?_
  refine take_not 29 32 (by kernel_rfl) (by kernel_rfl) (fun _ _ _ h => h) hHeld ?_
  refine take_not 30 33 (by kernel_rfl) (by kernel_rfl) (fun _ _ _ h => h) hHeld ?_
  refine take_not 31 34 (by kernel_rfl) (by kernel_rfl) (fun _ _ _ h => h) hHeld ?_
  refine take_wanted 32 35 (.bool false) (by kernel_rfl) (by kernel_rfl) (fun _ _ _ h => h) (fun W _ => by kernel_rfl) hHeld ?_
  refine take_wanted 33 36 (.bool false) (by kernel_rfl) (by kernel_rfl) (fun _ _ _ h => h) (fun W _ => by kernel_rfl) hHeld ?_
  refine take_not 34 37 (by kernel_rfl) (by kernel_rfl) (fun _ _ _ h => h) hHeld ?_
  refine take_not 35 38 (by kernel_rfl) (by kernel_rfl) (fun _ _ _ h => h) hHeld ?_
  refine take_not 36 39 (by kernel_rfl) (by kernel_rfl) (fun _ _ _ h => h) hHeld ?_
  refine take_wanted 37 40 (.bool false) (by kernel_rfl) (by kernel_rfl) (fun _ _ _ h => h) (fun W _ => by kernel_rfl) hHeld ?_
  refine take_wanted 38 41 (.bool false) (by kernel_rfl) (by kernel_rfl) (fun _ _ _ h => h) (fun W _ => by kernel_rfl) hHeld ?_
  refine take_not 39 42 (by kernel_rfl) (by kernel_rfl) (fun _ _ _ h => h) hHeld ?_
  refine take_not 40 43 (by kernel_rfl) (by kernel_rfl) (fun _ _ _ h => h) hHeld ?_
  refine take_not 41 44 (by kernel_rfl) (by kernel_rfl) (fun _ _ _ h => h) hHeld ?_
  refine take_wanted 42 45 (.bool false) (by kernel_rfl) (by kernel_rfl) (fun _ _ _ h => h) (fun W _ => by kernel_rfl) hHeld ?_
  refine take_wanted 43 46 (.bool false) (by kernel_rfl) (by kernel_rfl) (fun _ _ _ h => h) (fun W _ => by kernel_rfl) hHeld ?_
  refine take_not 44 47 (by kernel_rfl) (by kernel_rfl) (fun _ _ _ h => h) hHeld ?_
  refine take_not 45 48 (by kernel_rfl) (by kernel_rfl) (fun _ _ _ h => h) hHeld ?_
  refine take_not 46 49 (by kernel_rfl) (by kernel_rfl) (fun _ _ _ h => h) hHeld ?_
  refine take_wanted 47 50 (.bool false) (by kernel_rfl) (by kernel_rfl) (fun _ _ _ h => h) (fun W _ => by kernel_rfl) hHeld ?_
  refine take_wanted 48 51 (.bool false) (by kernel_rfl) (by kernel_rfl) (fun _ _ _ h => h) (fun W _ => by kernel_rfl) hHeld ?_
  refine take_not 49 52 (by kernel_rfl) (by kernel_rfl) (fun _ _ _ h => h) hHeld ?_
  refine take_not 50 53 (by kernel_rfl) (by kernel_rfl) (fun _ _ _ h => h) hHeld ?_
  refine take_not 51 54 (by kernel_rfl) (by kernel_rfl) (fun _ _ _ h => h) hHeld ?_
  refine take_wanted 52 55 (.bool false) (by kernel_rfl) (by kernel_rfl) (fun _ _ _ h => h) (fun W _ => by kernel_rfl) hHeld ?_
  refine take_wanted 53 56 (.bool false) (by kernel_rfl) (by kernel_rfl) (fun _ _ _ h => h) (fun W _ => by kernel_rfl) hHeld ?_
  refine take_not 54 57 (by kernel_rfl) (by kernel_rfl) (fun _ _ _ h => h) hHeld ?_
  refine take_not 55 58 (by kernel_rfl) (by kernel_rfl) (fun _ _ _ h => h) hHeld ?_
  refine take_not 56 59 (by kernel_rfl) (by kernel_rfl) (fun _ _ _ h => h) hHeld ?_
  refine take_wanted 57 60 (.bool false) (by kernel_rfl) (by kernel_rfl) (fun _ _ _ h => h) (fun W _ => by kernel_rfl) hHeld ?_
  refine take_wanted 58 61 (.bool false) (by kernel_rfl) (by kernel_rfl) (fun _ _ _ h => h) (fun W _ => by kernel_rfl) hHeld ?_
  refine take_not 59 62 (by kernel_rfl) (by kernel_rfl) (fun _ _ _ h => h) hHeld ?_
  refine take_not 60 63 (by kernel_rfl) (by kernel_rfl) (fun _ _ _ h => h) hHeld ?_
  refine take_not 61 64 (by kernel_rfl) (by kernel_rfl) (fun _ _ _ h => h) hHeld ?_
  refine take_wanted 62 65 (.bool false) (by kernel_rfl) (by kernel_rfl) (fun _ _ _ h => h) (fun W _ => by kernel_rfl) hHeld ?_
  refine take_wanted 63 2 (.bool false) (by kernel_rfl) (by kernel_rfl) (fun _ _ _ h => h) (fun W _ => by kernel_rfl) hHeld ?_
  refine wpAnyH_done (by kernel_rfl) ?_ _
  simp only [Act.put, List.setIfInBounds_toArray, List.set_cons_zero, List.set_cons_succ]
  go_wp2
  go_ret
  exact ⟨rfl, BB.out⟩

set_option maxHeartbeats 4000000 in
theorem isDate_3 (y m d h i s D : Int) (w : World) (h1 : y ≥ 0) (h2 : y ≤ 9999) (h3 : ¬ m ≥ 1) :
    Calls Tryd.prog 22 #[.agg #[.int .i64 y, .int .i64 m, .int .i64 d, .int .i64 h, .int .i64 i, .int .i64 s]] w fun e w' => e = .returned (.bool false) ∧ Below w.heap.size w w' := by
  have d1 : decide (y ≥ 0) = true := decide_eq_true h1
  have d2 : decide (y ≤ 9999) = true := decide_eq_true h2
  have d3 : decide (m ≥ 1) = false := decide_eq_false h3
  have BB := Lib.hid (Below.refl w.heap.size w |>.alloc (Nat.le_refl _) (.cells #[.int .i64 y, .int .i64 m, .int .i64 d, .int .i64 h, .int .i64 i, .int .i64 s] 27) |>.drew)
  have CC := Lib.hid (Cs.made w #[.int .i64 y, .int .i64 m, .int .i64 d, .int .i64 h, .int .i64 i, .int .i64 s] 27).drew
  clear h1 h2 h3
  go_enter Tryd.func22, Tryd.ntmps22
  go_wp2_with fail
  refine region_named dateOps (by kernel_rfl) ?_
  refine wp_region_held_drew (S := SixB w.heap.size y m d h i s) (by kernel_rfl) CC.out.six (fun hHeld => ?_)
  refine take_wanted 0 3 (.pointer (some ⟨w.heap.size, 0, none⟩)) (by kernel_rfl) (by kernel_rfl) (fun _ _ _ h => h) (fun W _ => by kernel_rfl) hHeld ?_
  refine take_wanted 1 4 (.int .i64 y) (by kernel_rfl) (by kernel_rfl) (fun _ _ _ h => h) (fun W hS => run_load 3 (.tmp 3) (by kernel_rfl) Tryd.isAgg3 ⟨w.heap.size, 0, none⟩ (.int .i64 y) (by kernel_rfl) hS.1) hHeld ?_
  refine take_wanted 2 5 (.bool true) (by kernel_rfl) (by kernel_rfl) (fun _ _ _ h => h) (fun W _ => Eq.trans (b := .ok (.value (.bool (decide (y ≥ 0)))) W) (by kernel_rfl) (by rw [d1])) hHeld ?_
  refine take_wanted 3 6 (.bool true) (by kernel_rfl) (by kernel_rfl) (fun _ _ _ h => h) (fun W _ => by kernel_rfl) hHeld ?_
  refine take_wanted 4 7 (.pointer (some ⟨w.heap.size, 0, none⟩)) (by kernel_rfl) (by kernel_rfl) (fun _ _ _ h => h) (fun W _ => by kernel_rfl) hHeld ?_
  refine take_wanted 5 8 (.int .i64 y) (by kernel_rfl) (by kernel_rfl) (fun _ _ _ h => h) (fun W hS => run_load 3 (.tmp 7) (by kernel_rfl) Tryd.isAgg3 ⟨w.heap.size, 0, none⟩ (.int .i64 y) (by kernel_rfl) hS.1) hHeld ?_
  refine take_wanted 6 9 (.bool true) (by kernel_rfl) (by kernel_rfl) (fun _ _ _ h => h) (fun W _ => Eq.trans (b := .ok (.value (.bool (decide (y ≤ 9999)))) W) (by kernel_rfl) (by rw [d2])) hHeld ?_
  refine take_wanted 7 10 (.bool true) (by kernel_rfl) (by kernel_rfl) (fun _ _ _ h => h) (fun W _ => by kernel_rfl) hHeld ?_
  refine take_wanted 8 11 (.bool true) (by kernel_rfl) (by kernel_rfl) (fun _ _ _ h => h) (fun W _ => by kernel_rfl) hHeld ?_
  refine take_wanted 9 12 (.pointer (some ⟨w.heap.size, 1, none⟩)) (by kernel_rfl) (by kernel_rfl) (fun _ _ _ h => h) (fun W _ => by kernel_rfl) hHeld ?_
  refine take_wanted 10 13 (.int .i64 m) (by kernel_rfl) (by kernel_rfl) (fun _ _ _ h => h) (fun W hS => run_load 3 (.tmp 12) (by kernel_rfl) Tryd.isAgg3 ⟨w.heap.size, 1, none⟩ (.int .i64 m) (by kernel_rfl) hS.2.1) hHeld ?_
  refine take_wanted 11 14 (.bool false) (by kernel_rfl) (by kernel_rfl) (fun _ _ _ h => h) (fun W _ => Eq.trans (b := .ok (.value (.bool (decide (m ≥ 1)))) W) (by kernel_rfl) (by rw [d3])) hHeld ?_
  refine take_wanted 12 15 (.bool false) (by kernel_rfl) (by kernel_rfl) (fun _ _ _ h => h) (fun W _ => by kernel_rfl) hHeld ?_
  refine take_wanted 13 16 (.bool false) (by kernel_rfl) (by kernel_rfl) (fun _ _ _ h => h) (fun W _ => by kernel_rfl) hHeld ?_
  refine take_not 14 17 (by kernel_rfl) (by kernel_rfl) (fun _ _ _ h => h) hHeld ?_
  refine take_not 15 18 (by kernel_rfl) (by kernel_rfl) (fun _ _ _ h => h) hHeld ?_
  refine take_not 16 19 (by kernel_rfl) (by kernel_rfl) (fun _ _ _ h => h) hHeld ?_
  refine take_wanted 17 20 (.bool false) (by kernel_rfl) (by kernel_rfl) (fun _ _ _ h => h) (fun W _ => by kernel_rfl) hHeld ?_
  refine take_wanted 18 21 (.bool false) (by kernel_rfl) (by kernel_rfl) (fun _ _ _ h => h) (fun W _ => by kernel_rfl) hHeld ?_
  refine take_not 19 22 (by kernel_rfl) (by kernel_rfl) (fun _ _ _ h => h) hHeld ?_
  refine take_not 20 23 (by kernel_rfl) (by kernel_rfl) (fun _ _ _ h => h) hHeld ?_
  refine take_not 21 24 (by kernel_rfl) (by kernel_rfl) (fun _ _ _ h => h) hHeld ?_
  refine take_wanted 22 25 (.bool false) (by kernel_rfl) (by kernel_rfl) (fun _ _ _ h => h) (fun W _ => by kernel_rfl) hHeld ?_
  refine take_wanted 23 26 (.bool false) (by kernel_rfl) (by kernel_rfl) (fun _ _ _ h => h) (fun W _ => by kernel_rfl) hHeld ?_
  refine take_not 24 27 (by kernel_rfl) (by kernel_rfl) (fun _ _ _ h => h) hHeld ?_
  refine take_not 25 28 (by kernel_rfl) (by kernel_rfl) (fun _ _ _ h => h) hHeld ?_
  refine take_not 26 29 (by kernel_rfl) (by kernel_rfl) (fun _ _ _ h => h) hHeld ?_
  refine take_not 27 30 (by kernel_rfl) (by kernel_rfl) (fun _ _ _ h => h) hHeld ?_
  refine take_not 28 31 (by kernel_rfl) (by kernel_rfl) (fun _ _ _ h => h) hHeld ?_
  refine take_not 29 32 (by kernel_rfl) (by kernel_rfl) (fun _ _ _ h => h) hHeld ?_
  refine take_not 30 33 (by kernel_rfl) (by kernel_rfl) (fun _ _ _ h => h) hHeld ?_
  refine take_not 31 34 (by kernel_rfl) (by kernel_rfl) (fun _ _ _ h => h) hHeld ?_
  refine take_wanted 32 35 (.bool false) (by kernel_rfl) (by kernel_rfl) (fun _ _ _ h => h) (fun W _ => by kernel_rfl) hHeld ?_
  refine take_wanted 33 36 (.bool false) (by kernel_rfl) (by kernel_rfl) (fun _ _ _ h => h) (fun W _ => by kernel_rfl) hHeld ?_
  refine take_not 34 37 (by kernel_rfl) (by kernel_rfl) (fun _ _ _ h => h) hHeld ?_
  refine take_not 35 38 (by kernel_rfl) (by kernel_rfl) (fun _ _ _ h => h) hHeld ?_
  refine take_not 36 39 (by kernel_rfl) (by kernel_rfl) (fun _ _ _ h => h) hHeld ?_
  refine take_wanted 37 40 (.bool false) (by kernel_rfl) (by kernel_rfl) (fun _ _ _ h => h) (fun W _ => by kernel_rfl) hHeld ?_
  refine take_wanted 38 41 (.bool false) (by kernel_rfl) (by kernel_rfl) (fun _ _ _ h => h) (fun W _ => by kernel_rfl) hHeld ?_
  refine take_not 39 42 (by kernel_rfl) (by kernel_rfl) (fun _ _ _ h => h) hHeld ?_
  refine take_not 40 43 (by kernel_rfl) (by kernel_rfl) (fun _ _ _ h => h) hHeld ?_
  refine take_not 41 44 (by kernel_rfl) (by kernel_rfl) (fun _ _ _ h => h) hHeld ?_
  refine take_wanted 42 45 (.bool false) (by kernel_rfl) (by kernel_rfl) (fun _ _ _ h => h) (fun W _ => by kernel_rfl) hHeld ?_
  refine take_wanted 43 46 (.bool false) (by kernel_rfl) (by kernel_rfl) (fun _ _ _ h => h) (fun W _ => by kernel_rfl) hHeld ?_
  refine take_not 44 47 (by kernel_rfl) (by kernel_rfl) (fun _ _ _ h => h) hHeld ?_
  refine take_not 45 48 (by kernel_rfl) (by kernel_rfl) (fun _ _ _ h => h) hHeld ?_
  refine take_not 46 49 (by kernel_rfl) (by kernel_rfl) (fun _ _ _ h => h) hHeld ?_
  refine take_wanted 47 50 (.bool false) (by kernel_rfl) (by kernel_rfl) (fun _ _ _ h => h) (fun W _ => by kernel_rfl) hHeld ?_
  refine take_wanted 48 51 (.bool false) (by kernel_rfl) (by kernel_rfl) (fun _ _ _ h => h) (fun W _ => by kernel_rfl) hHeld ?_
  refine take_not 49 52 (by kernel_rfl) (by kernel_rfl) (fun _ _ _ h => h) hHeld ?_
  refine take_not 50 53 (by kernel_rfl) (by kernel_rfl) (fun _ _ _ h => h) hHeld ?_
  refine take_not 51 54 (by kernel_rfl) (by kernel_rfl) (fun _ _ _ h => h) hHeld ?_
  refine take_wanted 52 55 (.bool false) (by kernel_rfl) (by kernel_rfl) (fun _ _ _ h => h) (fun W _ => by kernel_rfl) hHeld ?_
  refine take_wanted 53 56 (.bool false) (by kernel_rfl) (by kernel_rfl) (fun _ _ _ h => h) (fun W _ => by kernel_rfl) hHeld ?_
  refine take_not 54 57 (by kernel_rfl) (by kernel_rfl) (fun _ _ _ h => h) hHeld ?_
  refine take_not 55 58 (by kernel_rfl) (by kernel_rfl) (fun _ _ _ h => h) hHeld ?_
  refine take_not 56 59 (by kernel_rfl) (by kernel_rfl) (fun _ _ _ h => h) hHeld ?_
  refine take_wanted 57 60 (.bool false) (by kernel_rfl) (by kernel_rfl) (fun _ _ _ h => h) (fun W _ => by kernel_rfl) hHeld ?_
  refine take_wanted 58 61 (.bool false) (by kernel_rfl) (by kernel_rfl) (fun _ _ _ h => h) (fun W _ => by kernel_rfl) hHeld ?_
  refine take_not 59 62 (by kernel_rfl) (by kernel_rfl) (fun _ _ _ h => h) hHeld ?_
  refine take_not 60 63 (by kernel_rfl) (by kernel_rfl) (fun _ _ _ h => h) hHeld ?_
  refine take_not 61 64 (by kernel_rfl) (by kernel_rfl) (fun _ _ _ h => h) hHeld ?_
  refine take_wanted 62 65 (.bool false) (by kernel_rfl) (by kernel_rfl) (fun _ _ _ h => h) (fun W _ => by kernel_rfl) hHeld ?_
  refine take_wanted 63 2 (.bool false) (by kernel_rfl) (by kernel_rfl) (fun _ _ _ h => h) (fun W _ => by kernel_rfl) hHeld ?_
  refine wpAnyH_done (by kernel_rfl) ?_ _
  simp only [Act.put, List.setIfInBounds_toArray, List.set_cons_zero, List.set_cons_succ]
  go_wp2
  go_ret
  exact ⟨rfl, BB.out⟩

set_option maxHeartbeats 4000000 in
theorem isDate_4 (y m d h i s D : Int) (w : World) (h1 : y ≥ 0) (h2 : y ≤ 9999) (h3 : m ≥ 1) (h4 : ¬ m ≤ 12) :
    Calls Tryd.prog 22 #[.agg #[.int .i64 y, .int .i64 m, .int .i64 d, .int .i64 h, .int .i64 i, .int .i64 s]] w fun e w' => e = .returned (.bool false) ∧ Below w.heap.size w w' := by
  have d1 : decide (y ≥ 0) = true := decide_eq_true h1
  have d2 : decide (y ≤ 9999) = true := decide_eq_true h2
  have d3 : decide (m ≥ 1) = true := decide_eq_true h3
  have d4 : decide (m ≤ 12) = false := decide_eq_false h4
  have BB := Lib.hid (Below.refl w.heap.size w |>.alloc (Nat.le_refl _) (.cells #[.int .i64 y, .int .i64 m, .int .i64 d, .int .i64 h, .int .i64 i, .int .i64 s] 27) |>.drew)
  have CC := Lib.hid (Cs.made w #[.int .i64 y, .int .i64 m, .int .i64 d, .int .i64 h, .int .i64 i, .int .i64 s] 27).drew
  clear h1 h2 h3 h4
  go_enter Tryd.func22, Tryd.ntmps22
  go_wp2_with fail
  refine region_named dateOps (by kernel_rfl) ?_
  refine wp_region_held_drew (S := SixB w.heap.size y m d h i s) (by kernel_rfl) CC.out.six (fun hHeld => ?_)
  refine take_wanted 0 3 (.pointer (some ⟨w.heap.size, 0, none⟩)) (by kernel_rfl) (by kernel_rfl) (fun _ _ _ h => h) (fun W _ => by kernel_rfl) hHeld ?_
  refine take_wanted 1 4 (.int .i64 y) (by kernel_rfl) (by kernel_rfl) (fun _ _ _ h => h) (fun W hS => run_load 3 (.tmp 3) (by kernel_rfl) Tryd.isAgg3 ⟨w.heap.size, 0, none⟩ (.int .i64 y) (by kernel_rfl) hS.1) hHeld ?_
  refine take_wanted 2 5 (.bool true) (by kernel_rfl) (by kernel_rfl) (fun _ _ _ h => h) (fun W _ => Eq.trans (b := .ok (.value (.bool (decide (y ≥ 0)))) W) (by kernel_rfl) (by rw [d1])) hHeld ?_
  refine take_wanted 3 6 (.bool true) (by kernel_rfl) (by kernel_rfl) (fun _ _ _ h => h) (fun W _ => by kernel_rfl) hHeld ?_
  refine take_wanted 4 7 (.pointer (some ⟨w.heap.size, 0, none⟩)) (by kernel_rfl) (by kernel_rfl) (fun _ _ _ h => h) (fun W _ => by kernel_rfl) hHeld ?_
  refine take_wanted 5 8 (.int .i64 y) (by kernel_rfl) (by kernel_rfl) (fun _ _ _ h => h) (fun W hS => run_load 3 (.tmp 7) (by kernel_rfl) Tryd.isAgg3 ⟨w.heap.size, 0, none⟩ (.int .i64 y) (by kernel_rfl) hS.1) hHeld ?_
  refine take_wanted 6 9 (.bool true) (by kernel_rfl) (by kernel_rfl) (fun _ _ _ h => h) (fun W _ => Eq.trans (b := .ok (.value (.bool (decide (y ≤ 9999)))) W) (by kernel_rfl) (by rw [d2])) hHeld ?_
  refine take_wanted 7 10 (.bool true) (by kernel_rfl) (by kernel_rfl) (fun _ _ _ h => h) (fun W _ => by kernel_rfl) hHeld ?_
  refine take_wanted 8 11 (.bool true) (by kernel_rfl) (by kernel_rfl) (fun _ _ _ h => h) (fun W _ => by kernel_rfl) hHeld ?_
  refine take_wanted 9 12 (.pointer (some ⟨w.heap.size, 1, none⟩)) (by kernel_rfl) (by kernel_rfl) (fun _ _ _ h => h) (fun W _ => by kernel_rfl) hHeld ?_
  refine take_wanted 10 13 (.int .i64 m) (by kernel_rfl) (by kernel_rfl) (fun _ _ _ h => h) (fun W hS => run_load 3 (.tmp 12) (by kernel_rfl) Tryd.isAgg3 ⟨w.heap.size, 1, none⟩ (.int .i64 m) (by kernel_rfl) hS.2.1) hHeld ?_
  refine take_wanted 11 14 (.bool true) (by kernel_rfl) (by kernel_rfl) (fun _ _ _ h => h) (fun W _ => Eq.trans (b := .ok (.value (.bool (decide (m ≥ 1)))) W) (by kernel_rfl) (by rw [d3])) hHeld ?_
  refine take_wanted 12 15 (.bool true) (by kernel_rfl) (by kernel_rfl) (fun _ _ _ h => h) (fun W _ => by kernel_rfl) hHeld ?_
  refine take_wanted 13 16 (.bool true) (by kernel_rfl) (by kernel_rfl) (fun _ _ _ h => h) (fun W _ => by kernel_rfl) hHeld ?_
  refine take_wanted 14 17 (.pointer (some ⟨w.heap.size, 1, none⟩)) (by kernel_rfl) (by kernel_rfl) (fun _ _ _ h => h) (fun W _ => by kernel_rfl) hHeld ?_
  refine take_wanted 15 18 (.int .i64 m) (by kernel_rfl) (by kernel_rfl) (fun _ _ _ h => h) (fun W hS => run_load 3 (.tmp 17) (by kernel_rfl) Tryd.isAgg3 ⟨w.heap.size, 1, none⟩ (.int .i64 m) (by kernel_rfl) hS.2.1) hHeld ?_
  refine take_wanted 16 19 (.bool false) (by kernel_rfl) (by kernel_rfl) (fun _ _ _ h => h) (fun W _ => Eq.trans (b := .ok (.value (.bool (decide (m ≤ 12)))) W) (by kernel_rfl) (by rw [d4])) hHeld ?_
  refine take_wanted 17 20 (.bool false) (by kernel_rfl) (by kernel_rfl) (fun _ _ _ h => h) (fun W _ => by kernel_rfl) hHeld ?_
  refine take_wanted 18 21 (.bool false) (by kernel_rfl) (by kernel_rfl) (fun _ _ _ h => h) (fun W _ => by kernel_rfl) hHeld ?_
  refine take_not 19 22 (by kernel_rfl) (by kernel_rfl) (fun _ _ _ h => h) hHeld ?_
  refine take_not 20 23 (by kernel_rfl) (by kernel_rfl) (fun _ _ _ h => h) hHeld ?_
  refine take_not 21 24 (by kernel_rfl) (by kernel_rfl) (fun _ _ _ h => h) hHeld ?_
  refine take_wanted 22 25 (.bool false) (by kernel_rfl) (by kernel_rfl) (fun _ _ _ h => h) (fun W _ => by kernel_rfl) hHeld ?_
  refine take_wanted 23 26 (.bool false) (by kernel_rfl) (by kernel_rfl) (fun _ _ _ h => h) (fun W _ => by kernel_rfl) hHeld ?_
  refine take_not 24 27 (by kernel_rfl) (by kernel_rfl) (fun _ _ _ h => h) hHeld ?_
  refine take_not 25 28 (by kernel_rfl) (by kernel_rfl) (fun _ _ _ h => h) hHeld ?_
  refine take_not 26 29 (by kernel_rfl) (by kernel_rfl) (fun _ _ _ h => h) hHeld ?_
  refine take_not 27 30 (by kernel_rfl) (by kernel_rfl) (fun _ _ _ h => h) hHeld ?_
  refine take_not 28 31 (by kernel_rfl) (by kernel_rfl) (fun _ _ _ h => h) hHeld ?_
  refine take_not 29 32 (by kernel_rfl) (by kernel_rfl) (fun _ _ _ h => h) hHeld ?_
  refine take_not 30 33 (by kernel_rfl) (by kernel_rfl) (fun _ _ _ h => h) hHeld ?_
  refine take_not 31 34 (by kernel_rfl) (by kernel_rfl) (fun _ _ _ h => h) hHeld ?_
  refine take_wanted 32 35 (.bool false) (by kernel_rfl) (by kernel_rfl) (fun _ _ _ h => h) (fun W _ => by kernel_rfl) hHeld ?_
  refine take_wanted 33 36 (.bool false) (by kernel_rfl) (by kernel_rfl) (fun _ _ _ h => h) (fun W _ => by kernel_rfl) hHeld ?_
  refine take_not 34 37 (by kernel_rfl) (by kernel_rfl) (fun _ _ _ h => h) hHeld ?_
  refine take_not 35 38 (by kernel_rfl) (by kernel_rfl) (fun _ _ _ h => h) hHeld ?_
  refine take_not 36 39 (by kernel_rfl) (by kernel_rfl) (fun _ _ _ h => h) hHeld ?_
  refine take_wanted 37 40 (.bool false) (by kernel_rfl) (by kernel_rfl) (fun _ _ _ h => h) (fun W _ => by kernel_rfl) hHeld ?_
  refine take_wanted 38 41 (.bool false) (by kernel_rfl) (by kernel_rfl) (fun _ _ _ h => h) (fun W _ => by kernel_rfl) hHeld ?_
  refine take_not 39 42 (by kernel_rfl) (by kernel_rfl) (fun _ _ _ h => h) hHeld ?_
  refine take_not 40 43 (by kernel_rfl) (by kernel_rfl) (fun _ _ _ h => h) hHeld ?_
  refine take_not 41 44 (by kernel_rfl) (by kernel_rfl) (fun _ _ _ h => h) hHeld ?_
  refine take_wanted 42 45 (.bool false) (by kernel_rfl) (by kernel_rfl) (fun _ _ _ h => h) (fun W _ => by kernel_rfl) hHeld ?_
  refine take_wanted 43 46 (.bool false) (by kernel_rfl) (by kernel_rfl) (fun _ _ _ h => h) (fun W _ => by kernel_rfl) hHeld ?_
  refine take_not 44 47 (by kernel_rfl) (by kernel_rfl) (fun _ _ _ h => h) hHeld ?_
  refine take_not 45 48 (by kernel_rfl) (by kernel_rfl) (fun _ _ _ h => h) hHeld ?_
  refine take_not 46 49 (by kernel_rfl) (by kernel_rfl) (fun _ _ _ h => h) hHeld ?_
  refine take_wanted 47 50 (.bool false) (by kernel_rfl) (by kernel_rfl) (fun _ _ _ h => h) (fun W _ => by kernel_rfl) hHeld ?_
  refine take_wanted 48 51 (.bool false) (by kernel_rfl) (by kernel_rfl) (fun _ _ _ h => h) (fun W _ => by kernel_rfl) hHeld ?_
  refine take_not 49 52 (by kernel_rfl) (by kernel_rfl) (fun _ _ _ h => h) hHeld ?_
  refine take_not 50 53 (by kernel_rfl) (by kernel_rfl) (fun _ _ _ h => h) hHeld ?_
  refine take_not 51 54 (by kernel_rfl) (by kernel_rfl) (fun _ _ _ h => h) hHeld ?_
  refine take_wanted 52 55 (.bool false) (by kernel_rfl) (by kernel_rfl) (fun _ _ _ h => h) (fun W _ => by kernel_rfl) hHeld ?_
  refine take_wanted 53 56 (.bool false) (by kernel_rfl) (by kernel_rfl) (fun _ _ _ h => h) (fun W _ => by kernel_rfl) hHeld ?_
  refine take_not 54 57 (by kernel_rfl) (by kernel_rfl) (fun _ _ _ h => h) hHeld ?_
  refine take_not 55 58 (by kernel_rfl) (by kernel_rfl) (fun _ _ _ h => h) hHeld ?_
  refine take_not 56 59 (by kernel_rfl) (by kernel_rfl) (fun _ _ _ h => h) hHeld ?_
  refine take_wanted 57 60 (.bool false) (by kernel_rfl) (by kernel_rfl) (fun _ _ _ h => h) (fun W _ => by kernel_rfl) hHeld ?_
  refine take_wanted 58 61 (.bool false) (by kernel_rfl) (by kernel_rfl) (fun _ _ _ h => h) (fun W _ => by kernel_rfl) hHeld ?_
  refine take_not 59 62 (by kernel_rfl) (by kernel_rfl) (fun _ _ _ h => h) hHeld ?_
  refine take_not 60 63 (by kernel_rfl) (by kernel_rfl) (fun _ _ _ h => h) hHeld ?_
  refine take_not 61 64 (by kernel_rfl) (by kernel_rfl) (fun _ _ _ h => h) hHeld ?_
  refine take_wanted 62 65 (.bool false) (by kernel_rfl) (by kernel_rfl) (fun _ _ _ h => h) (fun W _ => by kernel_rfl) hHeld ?_
  refine take_wanted 63 2 (.bool false) (by kernel_rfl) (by kernel_rfl) (fun _ _ _ h => h) (fun W _ => by kernel_rfl) hHeld ?_
  refine wpAnyH_done (by kernel_rfl) ?_ _
  simp only [Act.put, List.setIfInBounds_toArray, List.set_cons_zero, List.set_cons_succ]
  go_wp2
  go_ret
  exact ⟨rfl, BB.out⟩
end Go.Proofs.YtgefnndegjpcpaaDoor
