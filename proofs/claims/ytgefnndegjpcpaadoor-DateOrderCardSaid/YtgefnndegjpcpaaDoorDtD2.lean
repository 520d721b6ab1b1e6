/- Walks of layer 16: which dates there are. -/
import Derived.Test.YtgefnndegjpcpaaDoorDtD0
set_option maxRecDepth 100000
set_option linter.unusedSimpArgs false
set_option linter.unusedVariables false
namespace Go.Proofs.YtgefnndegjpcpaaDoor
open Go.RowKit

set_option maxHeartbeats 4000000 in
theorem isDate_5 (y m d h i s D : Int) (w : World) (h1 : y ≥ 0) (h2 : y ≤ 9999) (h3 : m ≥ 1) (h4 : m ≤ 12) (h5 : ¬ d ≥ 1) :
    Calls Tryd.prog 22 #[.agg #[.int .i64 y, .int .i64 m, .int .i64 d, .int .i64 h, .int .i64 i, .int .i64 s]] w fun e w' => e = .returned (.bool false) ∧ Below w.heap.size w w' := by
  have d1 : decide (y ≥ 0) = true := decide_eq_true h1
  have d2 : decide (y ≤ 9999) = true := decide_eq_true h2
  have d3 : decide (m ≥ 1) = true := decide_eq_true h3
  have d4 : decide (m ≤ 12) = true := decide_eq_true h4
  have d5 : decide (d ≥ 1) = false := decide_eq_false h5
  have BB := Lib.hid (Below.refl w.heap.size w |>.alloc (Nat.le_refl _) (.cells #[.int .i64 y, .int .i64 m, .int .i64 d, .int .i64 h, .int .i64 i, .int .i64 s] 27) |>.drew)
  have CC := Lib.hid (Cs.made w #[.int .i64 y, .int .i64 m, .int .i64 d, .int .i64 h, .int .i64 i, .int .i64 s] 27).drew
  clear h1 h2 h3 h4 h5
  go_enter Tryd.func22, Tryd.ntmps22
  go_wp2_with fail
  refine region_named dateOps (by kernel_rfl) ?_
  refine wp_region_held_drew (S := SixB w.heap.size y m d h i s) (by kernel_rfl) CC.out.six (fun hHeld => ?_)
  refine take_wanted 0 3 (.pointer (some ⟨w.heap.size, 0, none⟩)) (by kernel_rfl) (by kernel_rfl) (fun _ _ _ h => h) (fun W _ => by kernel_rfl) hHeld ?_
  refine take_wanted 1 4 (.int .i64 y) (by kernel_rfl) (by kernel_rfl) (fun _ _ _ h => h) (fun W hS => run_load 3 (.tmp 3) (by kernel_rfl) Tryd.isAgg3 ⟨w.heap.size, 0, none⟩ (.int .i64 y) (by kernel_rfl) hS.1) hHeld ?_
  refine take_wanted 2 5 (.bool true) (by kernel_rfl) (by kernel_rfl) (fun _ _ _ h => h) (fun W _ => Eq.trans (b := .ok (.value (.bool (decide (y ≥ 0)))) W) (by kernel_rfl) (by rw [d1])) hHeld ?_
  refine take_wanted 3 6 (.bool true) (by kernel_rfl) (by kernel_rfl) (fun _ _ _ h => h) (fun W _ => by kernel_rfl) hHeld ?_
  refine take_wanted 4 7 (.pointer (some ⟨w.heap.size, 0, none⟩)) (by kernel_rfl) (by kernel_rfl) (fun _ _ _ h => h) (fun W _ => by kernel_rfl) hHeld ?_
  refine take_wanted 5 8 (.int .i64 y) (by kernel_rfl) (by kernel_rfl) (fun _ _ _ h => h) (fun W hS => run_load 3 (.tmp 7) (by kernel_rfl) Tryd.isAgg3 ⟨w.heap.size, 0, none⟩ (.int .i64 y) (by kernel_rfl) hS.1) hHeld ?_
  refine take_wanted 6 9 (.bool true) (by kernel_rfl) (by kernel_rfl) (fun _ _ _ h => h) (fun W _ => Eq.trans (b := .ok (.value (.bool (decide (y ≤ 9999)))) W) (by kernel_rfl) (by rw [d2])) hHeld ?_
  refine take_wanted 7 10 (.bool true) (by kernel_rfl) (by kernel_rfl) (fun _ _ _ h => h) (fun W _ => by kernel_rfl) hHeld ?_
  refine take_wanted 8 11 (.bool true) (by kernel_rfl) (by kernel_rfl) (fun _ _ _ h => h) (fun W _ => by kernel_rfl) hHeld ?_
  refine take_wanted 9 12 (.pointer (some ⟨w.heap.size, 1, none⟩)) (by kernel_rfl) (by kernel_rfl) (fun _ _ _ h => h) (fun W _ => by kernel_rfl) hHeld ?_
  refine take_wanted 10 13 (.int .i64 m) (by kernel_rfl) (by kernel_rfl) (fun _ _ _ h => h) (fun W hS => run_load 3 (.tmp 12) (by kernel_rfl) Tryd.isAgg3 ⟨w.heap.size, 1, none⟩ (.int .i64 m) (by kernel_rfl) hS.2.1) hHeld ?_
  refine take_wanted 11 14 (.bool true) (by kernel_rfl) (by kernel_rfl) (fun _ _ _ h => h) (fun W _ => Eq.trans (b := .ok (.value (.bool (decide (m ≥ 1)))) W) (by kernel_rfl) (by rw [d3])) hHeld ?_
  refine take_wanted 12 15 (.bool true) (by kernel_rfl) (by kernel_rfl) (fun _ _ _ h => h) (fun W _ => by kernel_rfl) hHeld ?_
  refine take_wanted 13 16 (.bool true) (by kernel_rfl) (by kernel_rfl) (fun _ _ _ h => h) (fun W _ => by kernel_rfl) hHeld ?_
  refine take_wanted 14 17 (.pointer (some ⟨w.heap.size, 1, none⟩)) (by kernel_rfl) (by kernel_rfl) (fun _ _ _ h => h) (fun W _ => by kernel_rfl) hHeld ?_
  refine take_wanted 15 18 (.int .i64 m) (by kernel_rfl) (by kernel_rfl) (fun _ _ _ h => h) (fun W hS => run_load 3 (.tmp 17) (by kernel_rfl) Tryd.isAgg3 ⟨w.heap.size, 1, none⟩ (.int .i64 m) (by kernel_rfl) hS.2.1) hHeld ?_
  refine take_wanted 16 19 (.bool true) (by kernel_rfl) (by kernel_rfl) (fun _ _ _ h => h) (fun W _ => Eq.trans (b := .ok (.value (.bool (decide (m ≤ 12)))) W) (by kernel_rfl) (by rw [d4])) hHeld ?_
  refine take_wanted 17 20 (.bool true) (by kernel_rfl) (by kernel_rfl) (fun _ _ _ h => h) (fun W _ => by kernel_rfl) hHeld ?_
  refine take_wanted 18 21 (.bool true) (by kernel_rfl) (by kernel_rfl) (fun _ _ _ h => h) (fun W _ => by kernel_rfl) hHeld ?_
  refine take_wanted 19 22 (.pointer (some ⟨w.heap.size, 2, none⟩)) (by kernel_rfl) (by kernel_rfl) (fun _ _ _ h => h) (fun W _ => by kernel_rfl) hHeld ?_
  refine take_wanted 20 23 (.int .i64 d) (by kernel_rfl) (by kernel_rfl) (fun _ _ _ h => h) (fun W hS => run_load 3 (.tmp 22) (by kernel_rfl) Tryd.isAgg3 ⟨w.heap.size, 2, none⟩ (.int .i64 d) (by kernel_rfl) hS.2.2.1) hHeld ?_
  refine take_wanted 21 24 (.bool false) (by kernel_rfl) (by kernel_rfl) (fun _ _ _ h => h) (fun W _ => Eq.trans (b := .ok (.value (.bool (decide (d ≥ 1)))) W) (by kernel_rfl) (by rw [d5])) hHeld ?_
  refine take_wanted 22 25 (.bool false) (by kernel_rfl) (by kernel_rfl) (fun _ _ _ h => h) (fun W _ => by kernel_rfl) hHeld ?_
  refine take_wanted 23 26 (.bool false) (by kernel_rfl) (by kernel_rfl) (fun _ _ _ h => h) (fun W _ => by kernel_rfl) hHeld ?_
  refine take_not 24 27 (by kernel_rfl) (by kernel_rfl) (fun _ _ _ h => h) hHeld ?_
  refine take_not 25 28 (by kernel_rfl) (by kernel_rfl) (fun _ _ _ h => h) hHeld ?_
  refine take_not 26 29 (by kernel_rfl) (by kernel_rfl) (fun _ _ _ h => h) hHeld ?_
  refine take_not 27 30 (by kernel_rfl) (by kernel_rfl) (fun _ _ _ h => h) hHeld ?_
  refine take_not 28 31 (by kernel_rfl) (by kernel_rfl) (fun _ _ _ h => h) hHeld ?_
  refine take_not 29 32 (by kernel_rfl) (by kernel_rfl) (fun _ _ _ h => h) hHeld ?_
  refine take_not 30 33 (by kernel_rfl) (by kernel_rfl) (fun _ _ _ h => h) hHeld ?_
  refine take_not 31 34 (by kernel_rfl) (by kernel_rfl) (fun _ _ _ h => h) hHeld ?_
  refine take_wanted 32 35 (.bool false) (by kernel_rfl) (by kernel_rfl) (fun _ _ _ h => h) (fun W _ => by kernel_rfl) hHeld ?_
  refine take_wanted 33 36 (.bool false) (by kernel_rfl) (by kernel_rfl) (fun _ _ _ h => h) (fun W _ => by kernel_rfl) hHeld ?_
  refine take_not 34 37 (by kernel_rfl) (by kernel_rfl) (fun _ _ _ h => h) hHeld ?_
  refine take_not 35 38 (by kernel_rfl) (by kernel_rfl) (fun _ _ _ h => h) hHeld ?_
  refine take_not 36 39 (by kernel_rfl) (by kernel_rfl) (fun _ _ _ h => h) hHeld ?_
  refine take_wanted 37 40 (.bool false) (by kernel_rfl) (by kernel_rfl) (fun _ _ _ h => h) (fun W _ => by kernel_rfl) hHeld ?_
  refine take_wanted 38 41 (.bool false) (by kernel_rfl) (by kernel_rfl) (fun _ _ _ h => h) (fun W _ => by kernel_rfl) hHeld ?_
  refine take_not 39 42 (by kernel_rfl) (by kernel_rfl) (fun _ _ _ h => h) hHeld ?_
  refine take_not 40 43 (by kernel_rfl) (by kernel_rfl) (fun _ _ _ h => h) hHeld ?_
  refine take_not 41 44 (by kernel_rfl) (by kernel_rfl) (fun _ _ _ h => h) hHeld ?_
  refine take_wanted 42 45 (.bool false) (by kernel_rfl) (by kernel_rfl) (fun _ _ _ h => h) (fun W _ => by kernel_rfl) hHeld ?_
  refine take_wanted 43 46 (.bool false) (by kernel_rfl) (by kernel_rfl) (fun _ _ _ h => h) (fun W _ => by kernel_rfl) hHeld ?_
  refine take_not 44 47 (by kernel_rfl) (by kernel_rfl) (fun _ _ _ h => h) hHeld ?_
  refine take_not 45 48 (by kernel_rfl) (by kernel_rfl) (fun _ _ _ h => h) hHeld ?_
  refine take_not 46 49 (by kernel_rfl) (by kernel_rfl) (fun _ _ _ h => h) hHeld ?_
  refine take_wanted 47 50 (.bool false) (by kernel_rfl) (by kernel_rfl) (fun _ _ _ h => h) (fun W _ => by kernel_rfl) hHeld ?_
  refine take_wanted 48 51 (.bool false) (by kernel_rfl) (by kernel_rfl) (fun _ _ _ h => h) (fun W _ => by kernel_rfl) hHeld ?_
  refine take_not 49 52 (by kernel_rfl) (by kernel_rfl) (fun _ _ _ h => h) hHeld ?_
  refine take_not 50 53 (by kernel_rfl) (by kernel_rfl) (fun _ _ _ h => h) hHeld ?_
  refine take_not 51 54 (by kernel_rfl) (by kernel_rfl) (fun _ _ _ h => h) hHeld ?_
  refine take_wanted 52 55 (.bool false) (by kernel_rfl) (by kernel_rfl) (fun _ _ _ h => h) (fun W _ => by kernel_rfl) hHeld ?_
  refine take_wanted 53 56 (.bool false) (by kernel_rfl) (by kernel_rfl) (fun _ _ _ h => h) (fun W _ => by kernel_rfl) hHeld ?_
  refine take_not 54 57 (by kernel_rfl) (by kernel_rfl) (fun _ _ _ h => h) hHeld ?_
  refine take_not 55 58 (by kernel_rfl) (by kernel_rfl) (fun _ _ _ h => h) hHeld ?_
  refine take_not 56 59 (by kernel_rfl) (by kernel_rfl) (fun _ _ _ h => h) hHeld ?_
  refine take_wanted 57 60 (.bool false) (by kernel_rfl) (by kernel_rfl) (fun _ _ _ h => h) (fun W _ => by kernel_rfl) hHeld ?_
  refine take_wanted 58 61 (.bool false) (by kernel_rfl) (by kernel_rfl) (fun _ _ _ h => h) (fun W _ => by kernel_rfl) hHeld ?_
  refine take_not 59 62 (by kernel_rfl) (by kernel_rfl) (fun _ _ _ h => h) hHeld ?_
  refine take_not 60 63 (by kernel_rfl) (by kernel_rfl) (fun _ _ _ h => h) hHeld ?_
  refine take_not 61 64 (by kernel_rfl) (by kernel_rfl) (fun _ _ _ h => h) hHeld ?_
  refine take_wanted 62 65 (.bool false) (by kernel_rfl) (by kernel_rfl) (fun _ _ _ h => h) (fun W _ => by kernel_rfl) hHeld ?_
  refine take_wanted 63 2 (.bool false) (by kernel_rfl) (by kernel_rfl) (fun _ _ _ h => h) (fun W _ => by kernel_rfl) hHeld ?_
  refine wpAnyH_done (by kernel_rfl) ?_ _
  simp only [Act.put, List.setIfInBounds_toArray, List.set_cons_zero, List.set_cons_succ]
  go_wp2
  go_ret
  exact ⟨rfl, BB.out⟩

set_option maxHeartbeats 4000000 in
theorem isDate_6 (y m d h i s D : Int) (w : World) (hD : dim y m = D) (h1 : y ≥ 0) (h2 : y ≤ 9999) (h3 : m ≥ 1) (h4 : m ≤ 12) (h5 : d ≥ 1) (h6 : ¬ d ≤ D) :
    Calls Tryd.prog 22 #[.agg #[.int .i64 y, .int .i64 m, .int .i64 d, .int .i64 h, .int .i64 i, .int .i64 s]] w fun e w' => e = .returned (.bool false) ∧ Below w.heap.size w w' := by
  have d1 : decide (y ≥ 0) = true := decide_eq_true h1
  have d2 : decide (y ≤ 9999) = true := decide_eq_true h2
  have d3 : decide (m ≥ 1) = true := decide_eq_true h3
  have d4 : decide (m ≤ 12) = true := decide_eq_true h4
  have d5 : decide (d ≥ 1) = true := decide_eq_true h5
  have d6 : decide (d ≤ D) = false := decide_eq_false h6
  have BB := Lib.hid (Below.refl w.heap.size w |>.alloc (Nat.le_refl _) (.cells #[.int .i64 y, .int .i64 m, .int .i64 d, .int .i64 h, .int .i64 i, .int .i64 s] 27) |>.drew)
  have CC := Lib.hid (Cs.made w #[.int .i64 y, .int .i64 m, .int .i64 d, .int .i64 h, .int .i64 i, .int .i64 s] 27).drew
  have DM := Lib.hid (fun W => dim_any y m W h1 h2 h3 h4)
  rw [hD] at DM
  clear h1 h2 h3 h4 h5 h6 hD
  go_enter Tryd.func22, Tryd.ntmps22
  go_wp2_with fail
  refine region_named dateOps (by kernel_rfl) ?_
  refine wp_region_held_drew (S := SixB w.heap.size y m d h i s) (by kernel_rfl) CC.out.six (fun hHeld => ?_)
  refine take_wanted 0 3 (.pointer (some ⟨w.heap.size, 0, none⟩)) (by kernel_rfl) (by kernel_rfl) (fun _ _ _ h => h) (fun W _ => by kernel_rfl) hHeld ?_
  refine take_wanted 1 4 (.int .i64 y) (by kernel_rfl) (by kernel_rfl) (fun _ _ _ h => h) (fun W hS => run_load 3 (.tmp 3) (by kernel_rfl) Tryd.isAgg3 ⟨w.heap.size, 0, none⟩ (.int .i64 y) (by kernel_rfl) hS.1) hHeld ?_
  refine take_wanted 2 5 (.bool true) (by kernel_rfl) (by kernel_rfl) (fun _ _ _ h => h) (fun W _ => Eq.trans (b := .ok (.value (.bool (decide (y ≥ 0)))) W) (by kernel_rfl) (by rw [d1])) hHeld ?_
  refine take_wanted 3 6 (.bool true) (by kernel_rfl) (by kernel_rfl) (fun _ _ _ h => h) (fun W _ => by kernel_rfl) hHeld ?_
  refine take_wanted 4 7 (.pointer (some ⟨w.heap.size, 0, none⟩)) (by kernel_rfl) (by kernel_rfl) (fun _ _ _ h => h) (fun W _ => by kernel_rfl) hHeld ?_
  refine take_wanted 5 8 (.int .i64 y) (by kernel_rfl) (by kernel_rfl) (fun _ _ _ h => h) (fun W hS => run_load 3 (.tmp 7) (by kernel_rfl) Tryd.isAgg3 ⟨w.heap.size, 0, none⟩ (.int .i64 y) (by kernel_rfl) hS.1) hHeld ?_
  refine take_wanted 6 9 (.bool true) (by kernel_rfl) (by kernel_rfl) (fun _ _ _ h => h) (fun W _ => Eq.trans (b := .ok (.value (.bool (decide (y ≤ 9999)))) W) (by kernel_rfl) (by rw [d2])) hHeld ?_
  refine take_wanted 7 10 (.bool true) (by kernel_rfl) (by kernel_rfl) (fun _ _ _ h => h) (fun W _ => by kernel_rfl) hHeld ?_
  refine take_wanted 8 11 (.bool true) (by kernel_rfl) (by kernel_rfl) (fun _ _ _ h => h) (fun W _ => by kernel_rfl) hHeld ?_
  refine take_wanted 9 12 (.pointer (some ⟨w.heap.size, 1, none⟩)) (by kernel_rfl) (by kernel_rfl) (fun _ _ _ h => h) (fun W _ => by kernel_rfl) hHeld ?_
  refine take_wanted 10 13 (.int .i64 m) (by kernel_rfl) (by kernel_rfl) (fun _ _ _ h => h) (fun W hS => run_load 3 (.tmp 12) (by kernel_rfl) Tryd.isAgg3 ⟨w.heap.size, 1, none⟩ (.int .i64 m) (by kernel_rfl) hS.2.1) hHeld ?_
  refine take_wanted 11 14 (.bool true) (by kernel_rfl) (by kernel_rfl) (fun _ _ _ h => h) (fun W _ => Eq.trans (b := .ok (.value (.bool (decide (m ≥ 1)))) W) (by kernel_rfl) (by rw [d3])) hHeld ?_
  refine take_wanted 12 15 (.bool true) (by kernel_rfl) (by kernel_rfl) (fun _ _ _ h => h) (fun W _ => by kernel_rfl) hHeld ?_
  refine take_wanted 13 16 (.bool true) (by kernel_rfl) (by kernel_rfl) (fun _ _ _ h => h) (fun W _ => by kernel_rfl) hHeld ?_
  refine take_wanted 14 17 (.pointer (some ⟨w.heap.size, 1, none⟩)) (by kernel_rfl) (by kernel_rfl) (fun _ _ _ h => h) (fun W _ => by kernel_rfl) hHeld ?_
  refine take_wanted 15 18 (.int .i64 m) (by kernel_rfl) (by kernel_rfl) (fun _ _ _ h => h) (fun W hS => run_load 3 (.tmp 17) (by kernel_rfl) Tryd.isAgg3 ⟨w.heap.size, 1, none⟩ (.int .i64 m) (by kernel_rfl) hS.2.1) hHeld ?_
  refine take_wanted 16 19 (.bool true) (by kernel_rfl) (by kernel_rfl) (fun _ _ _ h => h) (fun W _ => Eq.trans (b := .ok (.value (.bool (decide (m ≤ 12)))) W) (by kernel_rfl) (by rw [d4])) hHeld ?_
  refine take_wanted 17 20 (.bool true) (by kernel_rfl) (by kernel_rfl) (fun _ _ _ h => h) (fun W _ => by kernel_rfl) hHeld ?_
  refine take_wanted 18 21 (.bool true) (by kernel_rfl) (by kernel_rfl) (fun _ _ _ h => h) (fun W _ => by kernel_rfl) hHeld ?_
  refine take_wanted 19 22 (.pointer (some ⟨w.heap.size, 2, none⟩)) (by kernel_rfl) (by kernel_rfl) (fun _ _ _ h => h) (fun W _ => by kernel_rfl) hHeld ?_
  refine take_wanted 20 23 (.int .i64 d) (by kernel_rfl) (by kernel_rfl) (fun _ _ _ h => h) (fun W hS => run_load 3 (.tmp 22) (by kernel_rfl) Tryd.isAgg3 ⟨w.heap.size, 2, none⟩ (.int .i64 d) (by kernel_rfl) hS.2.2.1) hHeld ?_
  refine take_wanted 21 24 (.bool true) (by kernel_rfl) (by kernel_rfl) (fun _ _ _ h => h) (fun W _ => Eq.trans (b := .ok (.value (.bool (decide (d ≥ 1)))) W) (by kernel_rfl) (by rw [d5])) hHeld ?_
  refine take_wanted 22 25 (.bool true) (by kernel_rfl) (by kernel_rfl) (fun _ _ _ h => h) (fun W _ => by kernel_rfl) hHeld ?_
  refine take_wanted 23 26 (.bool true) (by kernel_rfl) (by kernel_rfl) (fun _ _ _ h => h) (fun W _ => by kernel_rfl) hHeld ?_
  refine take_wanted 24 27 (.pointer (some ⟨w.heap.size, 2, none⟩)) (by kernel_rfl) (by kernel_rfl) (fun _ _ _ h => h) (fun W _ => by kernel_rfl) hHeld ?_
  refine take_wanted 25 28 (.int .i64 d) (by kernel_rfl) (by kernel_rfl) (fun _ _ _ h => h) (fun W hS => run_load 3 (.tmp 27) (by kernel_rfl) Tryd.isAgg3 ⟨w.heap.size, 2, none⟩ (.int .i64 d) (by kernel_rfl) hS.2.2.1) hHeld ?_
  refine take_wanted 26 29 (.pointer (some ⟨w.heap.size, 0, none⟩)) (by kernel_rfl) (by kernel_rfl) (fun _ _ _ h => h) (fun W _ => by kernel_rfl) hHeld ?_
  refine take_wanted 27 30 (.int .i64 y) (by kernel_rfl) (by kernel_rfl) (fun _ _ _ h => h) (fun W hS => run_load 3 (.tmp 29) (by kernel_rfl) Tryd.isAgg3 ⟨w.heap.size, 0, none⟩ (.int .i64 y) (by kernel_rfl) hS.1) hHeld ?_
  refine take_wanted 28 31 (.pointer (some ⟨w.heap.size, 1, none⟩)) (by kernel_rfl) (by kernel_rfl) (fun _ _ _ h => h) (fun W _ => by kernel_rfl) hHeld ?_
  refine take_wanted 29 32 (.int .i64 m) (by kernel_rfl) (by kernel_rfl) (fun _ _ _ h => h) (fun W hS => run_load 3 (.tmp 31) (by kernel_rfl) Tryd.isAgg3 ⟨w.heap.size, 1, none⟩ (.int .i64 m) (by kernel_rfl) hS.2.1) hHeld ?_
  refine take_call 30 33 38 #[.int .i64 y, .int .i64 m] (by kernel_rfl) (by kernel_rfl) (by kernel_rfl) (by kernel_rfl) (by kernel_rfl) ?_
  refine (DM.out _).mono ?_
  rintro e wn ⟨rfl, bn⟩
  have CC := Lib.hid (CC.out.below bn)
  have BB := Lib.hid (BB.out.trans (bn.mono BB.out.size))
  clear bn
  have hHeld := CC.out.six
  refine ⟨_, rfl, hHeld, ?_⟩
  refine take_wanted 31 34 (.bool false) (by kernel_rfl) (by kernel_rfl) (fun _ _ _ h => h) (fun W _ => Eq.trans (b := .ok (.value (.bool (decide (d ≤ D)))) W) (by kernel_rfl) (by rw [d6])) hHeld ?_
  refine take_wanted 32 35 (.bool false) (by kernel_rfl) (by kernel_rfl) (fun _ _ _ h => h) (fun W _ => by kernel_rfl) hHeld ?_
  refine take_wanted 33 36 (.bool false) (by kernel_rfl) (by kernel_rfl) (fun _ _ _ h => h) (fun W _ => by kernel_rfl) hHeld ?_
  refine take_not 34 37 (by kernel_rfl) (by kernel_rfl) (fun _ _ _ h => h) hHeld ?_
  refine take_not 35 38 (by kernel_rfl) (by kernel_rfl) (fun _ _ _ h => h) hHeld ?_
  refine take_not 36 39 (by kernel_rfl) (by kernel_rfl) (fun _ _ _ h => h) hHeld ?_
  refine take_wanted 37 40 (.bool false) (by kernel_rfl) (by kernel_rfl) (fun _ _ _ h => h) (fun W _ => by kernel_rfl) hHeld ?_
  refine take_wanted 38 41 (.bool false) (by kernel_rfl) (by kernel_rfl) (fun _ _ _ h => h) (fun W _ => by kernel_rfl) hHeld ?_
  refine take_not 39 42 (by kernel_rfl) (by kernel_rfl) (fun _ _ _ h => h) hHeld ?_
  refine take_not 40 43 (by kernel_rfl) (by kernel_rfl) (fun _ _ _ h => h) hHeld ?_
  refine take_not 41 44 (by kernel_rfl) (by kernel_rfl) (fun _ _ _ h => h) hHeld ?_
  refine take_wanted 42 45 (.bool false) (by kernel_rfl) (by kernel_rfl) (fun _ _ _ h => h) (fun W _ => by kernel_rfl) hHeld ?_
  refine take_wanted 43 46 (.bool false) (by kernel_rfl) (by kernel_rfl) (fun _ _ _ h => h) (fun W _ => by kernel_rfl) hHeld ?_
  refine take_not 44 47 (by kernel_rfl) (by kernel_rfl) (fun _ _ _ h => h) hHeld ?_
  refine take_not 45 48 (by kernel_rfl) (by kernel_rfl) (fun _ _ _ h => h) hHeld ?_
  refine take_not 46 49 (by kernel_rfl) (by kernel_rfl) (fun _ _ _ h => h) hHeld ?_
  refine take_wanted 47 50 (.bool false) (by kernel_rfl) (by kernel_rfl) (fun _ _ _ h => h) (fun W _ => by kernel_rfl) hHeld ?_
  refine take_wanted 48 51 (.bool false) (by kernel_rfl) (by kernel_rfl) (fun _ _ _ h => h) (fun W _ => by kernel_rfl) hHeld ?_
  refine take_not 49 52 (by kernel_rfl) (by kernel_rfl) (fun _ _ _ h => h) hHeld ?_
  refine take_not 50 53 (by kernel_rfl) (by kernel_rfl) (fun _ _ _ h => h) hHeld ?_
  refine take_not 51 54 (by kernel_rfl) (by kernel_rfl) (fun _ _ _ h => h) hHeld ?_
  refine take_wanted 52 55 (.bool false) (by kernel_rfl) (by kernel_rfl) (fun _ _ _ h => h) (fun W _ => by kernel_rfl) hHeld ?_
  refine take_wanted 53 56 (.bool false) (by kernel_rfl) (by kernel_rfl) (fun _ _ _ h => h) (fun W _ => by kernel_rfl) hHeld ?_
  refine take_not 54 57 (by kernel_rfl) (by kernel_rfl) (fun _ _ _ h => h) hHeld ?_
  refine take_not 55 58 (by kernel_rfl) (by kernel_rfl) (fun _ _ _ h => h) hHeld ?_
  refine take_not 56 59 (by kernel_rfl) (by kernel_rfl) (fun _ _ _ h => h) hHeld ?_
  refine take_wanted 57 60 (.bool false) (by kernel_rfl) (by kernel_rfl) (fun _ _ _ h => h) (fun W _ => by kernel_rfl) hHeld ?_
  refine take_wanted 58 61 (.bool false) (by kernel_rfl) (by kernel_rfl) (fun _ _ _ h => h) (fun W _ => by kernel_rfl) hHeld ?_
  refine take_not 59 62 (by kernel_rfl) (by kernel_rfl) (fun _ _ _ h => h) hHeld ?_
  refine take_not 60 63 (by kernel_rfl) (by kernel_rfl) (fun _ _ _ h => h) hHeld ?_
  refine take_not 61 64 (by kernel_rfl) (by kernel_rfl) (fun _ _ _ h => h) hHeld ?_
  refine take_wanted 62 65 (.bool false) (by kernel_rfl) (by kernel_rfl) (fun _ _ _ h => h) (fun W _ => by kernel_rfl) hHeld ?_
  refine take_wanted 63 2 (.bool false) (by kernel_rfl) (by kernel_rfl) (fun _ _ _ h => h) (fun W _ => by kernel_rfl) hHeld ?_
  refine wpAnyH_done (by kernel_rfl) ?_ _
  simp only [Act.put, List.setIfInBounds_toArray, List.set_cons_zero, List.set_cons_succ]
  go_wp2
  go_ret
  exact ⟨rfl, BB.out⟩

set_option maxHeartbeats 4000000 in
theorem isDate_7 (y m d h i s D : Int) (w : World) (hD : dim y m = D) (h1 : y ≥ 0) (h2 : y ≤ 9999) (h3 : m ≥ 1) (h4 : m ≤ 12) (h5 : d ≥ 1) (h6 : d ≤ D) (h7 : ¬ h ≥ 0) :
    Calls Tryd.prog 22 #[.agg #[.int .i64 y, .int .i64 m, .int .i64 d, .int .i64 h, .int .i64 i, .int .i64 s]] w fun e w' => e = .returned (.bool false) ∧ Below w.heap.size w w' := by
  have d1 : decide (y ≥ 0) = true := decide_eq_true h1
  have d2 : decide (y ≤ 9999) = true := decide_eq_true h2
  have d3 : decide (m ≥ 1) = true := decide_eq_true h3
  have d4 : decide (m ≤ 12) = true := decide_eq_true h4
  have d5 : decide (d ≥ 1) = true := decide_eq_true h5
  have d6 : decide (d ≤ D) = true := decide_eq_true h6
  have d7 : decide (h ≥ 0) = false := decide_eq_false h7
  have BB := Lib.hid (Below.refl w.heap.size w |>.alloc (Nat.le_refl _) (.cells #[.int .i64 y, .int .i64 m, .int .i64 d, .int .i64 h, .int .i64 i, .int .i64 s] 27) |>.drew)
  have CC := Lib.hid (Cs.made w #[.int .i64 y, .int .i64 m, .int .i64 d, .int .i64 h, .int .i64 i, .int .i64 s] 27).drew
  have DM := Lib.hid (fun W => dim_any y m W h1 h2 h3 h4)
  rw [hD] at DM
  clear h1 h2 h3 h4 h5 h6 h7 hD
  go_enter Tryd.func22, Tryd.ntmps22
  go_wp2_with fail
  refine region_named dateOps (by kernel_rfl) ?_
  refine wp_region_held_drew (S := SixB w.heap.size y m d h i s) (by kernel_rfl) CC.out.six (fun hHeld => ?_)
  refine take_wanted 0 3 (.pointer (some ⟨w.heap.size, 0, none⟩)) (by kernel_rfl) (by kernel_rfl) (fun _ _ _ h => h) (fun W _ => by kernel_rfl) hHeld ?_
  refine take_wanted 1 4 (.int .i64 y) (by kernel_rfl) (by kernel_rfl) (fun _ _ _ h => h) (fun W hS => run_load 3 (.tmp 3) (by kernel_rfl) Tryd.isAgg3 ⟨w.heap.size, 0, none⟩ (.int .i64 y) (by kernel_rfl) hS.1) hHeld ?_
  refine take_wanted 2 5 (.bool true) (by kernel_rfl) (by kernel_rfl) (fun _ _ _ h => h) (fun W _ => Eq.trans (b := .ok (.value (.bool (decide (y ≥ 0)))) W) (by kernel_rfl) (by rw [d1])) hHeld ?_
  refine take_wanted 3 6 (.bool true) (by kernel_rfl) (by kernel_rfl) (fun _ _ _ h => h) (fun W _ => by kernel_rfl) hHeld ?_
  refine take_wanted 4 7 (.pointer (some ⟨w.heap.size, 0, none⟩)) (by kernel_rfl) (by kernel_rfl) (fun _ _ _ h => h) (fun W _ => by kernel_rfl) hHeld ?_
  refine take_wanted 5 8 (.int .i64 y) (by kernel_rfl) (by kernel_rfl) (fun _ _ _ h => h) (fun W hS => run_load 3 (.tmp 7) (by kernel_rfl) Tryd.isAgg3 ⟨w.heap.size, 0, none⟩ (.int .i64 y) (by kernel_rfl) hS.1) hHeld ?_
  refine take_wanted 6 9 (.bool true) (by kernel_rfl) (by kernel_rfl) (fun _ _ _ h => h) (fun W _ => Eq.trans (b := .ok (.value (.bool (decide (y ≤ 9999)))) W) (by kernel_rfl) (by rw [d2])) hHeld ?_
  refine take_wanted 7 10 (.bool true) (by kernel_rfl) (by kernel_rfl) (fun _ _ _ h => h) (fun W _ => by kernel_rfl) hHeld ?_
  refine take_wanted 8 11 (.bool true) (by kernel_rfl) (by kernel_rfl) (fun _ _ _ h => h) (fun W _ => by kernel_rfl) hHeld ?_
  refine take_wanted 9 12 (.pointer (some ⟨w.heap.size, 1, none⟩)) (by kernel_rfl) (by kernel_rfl) (fun _ _ _ h => h) (fun W _ => by kernel_rfl) hHeld ?_
  refine take_wanted 10 13 (.int .i64 m) (by kernel_rfl) (by kernel_rfl) (fun _ _ _ h => h) (fun W hS => run_load 3 (.tmp 12) (by kernel_rfl) Tryd.isAgg3 ⟨w.heap.size, 1, none⟩ (.int .i64 m) (by kernel_rfl) hS.2.1) hHeld ?_
  refine take_wanted 11 14 (.bool true) (by kernel_rfl) (by kernel_rfl) (fun _ _ _ h => h) (fun W _ => Eq.trans (b := .ok (.value (.bool (decide (m ≥ 1)))) W) (by kernel_rfl) (by rw [d3])) hHeld ?_
  refine take_wanted 12 15 (.bool true) (by kernel_rfl) (by kernel_rfl) (fun _ _ _ h => h) (fun W _ => by kernel_rfl) hHeld ?_
  refine take_wanted 13 16 (.bool true) (by kernel_rfl) (by kernel_rfl) (fun _ _ _ h => h) (fun W _ => by kernel_rfl) hHeld ?_
  refine take_wanted 14 17 (.pointer (some ⟨w.heap.size, 1, none⟩)) (by kernel_rfl) (by kernel_rfl) (fun _ _ _ h => h) (fun W _ => by kernel_rfl) hHeld ?_
  refine take_wanted 15 18 (.int .i64 m) (by kernel_rfl) (by kernel_rfl) (fun _ _ _ h => h) (fun W hS => run_load 3 (.tmp 17) (by kernel_rfl) Tryd.isAgg3 ⟨w.heap.size, 1, none⟩ (.int .i64 m) (by kernel_rfl) hS.2.1) hHeld ?_
  refine take_wanted 16 19 (.bool true) (by kernel_rfl) (by kernel_rfl) (fun _ _ _ h => h) (fun W _ => Eq.trans (b := .ok (.value (.bool (decide (m ≤ 12)))) W) (by kernel_rfl) (by rw [d4])) hHeld ?_
  refine take_wanted 17 20 (.bool true) (by kernel_rfl) (by kernel_rfl) (fun _ _ _ h => h) (fun W _ => by kernel_rfl) hHeld ?_
  refine take_wanted 18 21 (.bool true) (by kernel_rfl) (by kernel_rfl) (fun _ _ _ h => h) (fun W _ => by kernel_rfl) hHeld ?_
  refine take_wanted 19 22 (.pointer (some ⟨w.heap.size, 2, none⟩)) (by kernel_rfl) (by kernel_rfl) (fun _ _ _ h => h) (fun W _ => by kernel_rfl) hHeld ?_
  refine take_wanted 20 23 (.int .i64 d) (by kernel_rfl) (by kernel_rfl) (fun _ _ _ h => h) (fun W hS => run_load 3 (.tmp 22) (by kernel_rfl) Tryd.isAgg3 ⟨w.heap.size, 2, none⟩ (.int .i64 d) (by kernel_rfl) hS.2.2.1) hHeld ?_
  refine take_wanted 21 24 (.bool true) (by kernel_rfl) (by kernel_rfl) (fun _ _ _ h => h) (fun W _ => Eq.trans (b := .ok (.value (.bool (decide (d ≥ 1)))) W) (by kernel_rfl) (by rw [d5])) hHeld ?_
  refine take_wanted 22 25 (.bool true) (by kernel_rfl) (by kernel_rfl) (fun _ _ _ h => h) (fun W _ => by kernel_rfl) hHeld ?_
  refine take_wanted 23 26 (.bool true) (by kernel_rfl) (by kernel_rfl) (fun _ _ _ h => h) (fun W _ => by kernel_rfl) hHeld ?_
  refine take_wanted 24 27 (.pointer (some ⟨w.heap.size, 2, none⟩)) (by kernel_rfl) (by kernel_rfl) (fun _ _ _ h => h) (fun W _ => by kernel_rfl) hHeld ?_
  refine take_wanted 25 28 (.int .i64 d) (by kernel_rfl) (by kernel_rfl) (fun _ _ _ h => h) (fun W hS => run_load 3 (.tmp 27) (by kernel_rfl) Tryd.isAgg3 ⟨w.heap.size, 2, none⟩ (.int .i64 d) (by kernel_rfl) hS.2.2.1) hHeld ?_
  refine take_wanted 26 29 (.pointer (some ⟨w.heap.size, 0, none⟩)) (by kernel_rfl) (by kernel_rfl) (fun _ _ _ h => h) (fun W _ => by kernel_rfl) hHeld ?_
  refine take_wanted 27 30 (.int .i64 y) (by kernel_rfl) (by kernel_rfl) (fun _ _ _ h => h) (fun W hS => run_load 3 (.tmp 29) (by kernel_rfl) Tryd.isAgg3 ⟨w.heap.size, 0, none⟩ (.int .i64 y) (by kernel_rfl) hS.1) hHeld ?_
  refine take_wanted 28 31 (.pointer (some ⟨w.heap.size, 1, none⟩)) (by kernel_rfl) (by kernel_rfl) (fun _ _ _ h => h) (fun W _ => by kernel_rfl) hHeld ?_
  refine take_wanted 29 32 (.int .i64 m) (by kernel_rfl) (by kernel_rfl) (fun _ _ _ h => h) (fun W hS => run_load 3 (.tmp 31) (by kernel_rfl) Tryd.isAgg3 ⟨w.heap.size, 1, none⟩ (.int .i64 m) (by kernel_rfl) hS.2.1) hHeld ?_
  refine take_call 30 33 38 #[.int .i64 y, .int .i64 m] (by kernel_rfl) (by kernel_rfl) (by kernel_rfl) (by kernel_rfl) (by kernel_rfl) ?_
  refine (DM.out _).mono ?_
  rintro e wn ⟨rfl, bn⟩
  have CC := Lib.hid (CC.out.below bn)
  have BB := Lib.hid (BB.out.trans (bn.mono BB.out.size))
  clear bn
  have hHeld := CC.out.six
  refine ⟨_, rfl, hHeld, ?_⟩
  refine take_wanted 31 34 (.bool true) (by kernel_rfl) (by kernel_rfl) (fun _ _ _ h => h) (fun W _ => Eq.trans (b := .ok (.value (.bool (decide (d ≤ D)))) W) (by kernel_rfl) (by rw [d6])) hHeld ?_
  refine take_wanted 32 35 (.bool true) (by kernel_rfl) (by kernel_rfl) (fun _ _ _ h => h) (fun W _ => by kernel_rfl) hHeld ?_
  refine take_wanted 33 36 (.bool true) (by kernel_rfl) (by kernel_rfl) (fun _ _ _ h => h) (fun W _ => by kernel_rfl) hHeld ?_
  refine take_wanted 34 37 (.pointer (some ⟨w.heap.size, 3, none⟩)) (by kernel_rfl) (by kernel_rfl) (fun _ _ _ h => h) (fun W _ => by kernel_rfl) hHeld ?_
  refine take_wanted 35 38 (.int .i64 h) (by kernel_rfl) (by kernel_rfl) (fun _ _ _ h => h) (fun W hS => run_load 3 (.tmp 37) (by kernel_rfl) Tryd.isAgg3 ⟨w.heap.size, 3, none⟩ (.int .i64 h) (by kernel_rfl) hS.2.2.2.1) hHeld ?_
  refine take_wanted 36 39 (.bool false) (by kernel_rfl) (by kernel_rfl) (fun _ _ _ h => h) (fun W _ => Eq.trans (b := .ok (.value (.bool (decide (h ≥ 0)))) W) (by kernel_rfl) (by rw [d7])) hHeld ?_
  refine take_wanted 37 40 (.bool false) (by kernel_rfl) (by kernel_rfl) (fun _ _ _ h => h) (fun W _ => by kernel_rfl) hHeld ?_
  refine take_wanted 38 41 (.bool false) (by kernel_rfl) (by kernel_rfl) (fun _ _ _ h => h) (fun W _ => by kernel_rfl) hHeld ?_
  refine take_not 39 42 (by kernel_rfl) (by kernel_rfl) (fun _ _ _ h => h) hHeld ?_
  refine take_not 40 43 (by kernel_rfl) (by kernel_rfl) (fun _ _ _ h => h) hHeld ?_
  refine take_not 41 44 (by kernel_rfl) (by kernel_rfl) (fun _ _ _ h => h) hHeld ?_
  refine take_wanted 42 45 (.bool false) (by kernel_rfl) (by kernel_rfl) (fun _ _ _ h => h) (fun W _ => by kernel_rfl) hHeld ?_
  refine take_wanted 43 46 (.bool false) (by kernel_rfl) (by kernel_rfl) (fun _ _ _ h => h) (fun W _ => by kernel_rfl) hHeld ?_
  refine take_not 44 47 (by kernel_rfl) (by kernel_rfl) (fun _ _ _ h => h) hHeld ?_
  refine take_not 45 48 (by kernel_rfl) (by kernel_rfl) (fun _ _ _ h => h) hHeld ?_
  refine take_not 46 49 (by kernel_rfl) (by kernel_rfl) (fun _ _ _ h => h) hHeld ?_
  refine take_wanted 47 50 (.bool false) (by kernel_rfl) (by kernel_rfl) (fun _ _ _ h => h) (fun W _ => by kernel_rfl) hHeld ?_
  refine take_wanted 48 51 (.bool false) (by kernel_rfl) (by kernel_rfl) (fun _ _ _ h => h) (fun W _ => by kernel_rfl) hHeld ?_
  refine take_not 49 52 (by kernel_rfl) (by kernel_rfl) (fun _ _ _ h => h) hHeld ?_
  refine take_not 50 53 (by kernel_rfl) (by kernel_rfl) (fun _ _ _ h => h) hHeld ?_
  refine take_not 51 54 (by kernel_rfl) (by kernel_rfl) (fun _ _ _ h => h) hHeld ?_
  refine take_wanted 52 55 (.bool false) (by kernel_rfl) (by kernel_rfl) (fun _ _ _ h => h) (fun W _ => by kernel_rfl) hHeld ?_
  refine take_wanted 53 56 (.bool false) (by kernel_rfl) (by kernel_rfl) (fun _ _ _ h => h) (fun W _ => by kernel_rfl) hHeld ?_
  refine take_not 54 57 (by kernel_rfl) (by kernel_rfl) (fun _ _ _ h => h) hHeld ?_
  refine take_not 55 58 (by kernel_rfl) (by kernel_rfl) (fun _ _ _ h => h) hHeld ?_
  refine take_not 56 59 (by kernel_rfl) (by kernel_rfl) (fun _ _ _ h => h) hHeld ?_
  refine take_wanted 57 60 (.bool false) (by kernel_rfl) (by kernel_rfl) (fun _ _ _ h => h) (fun W _ => by kernel_rfl) hHeld ?_
  refine take_wanted 58 61 (.bool false) (by kernel_rfl) (by kernel_rfl) (fun _ _ _ h => h) (fun W _ => by kernel_rfl) hHeld ?_
  refine take_not 59 62 (by kernel_rfl) (by kernel_rfl) (fun _ _ _ h => h) hHeld ?_
  refine take_not 60 63 (by kernel_rfl) (by kernel_rfl) (fun _ _ _ h => h) hHeld ?_
  refine take_not 61 64 (by kernel_rfl) (by kernel_rfl) (fun _ _ _ h => h) hHeld ?_
  refine take_wanted 62 65 (.bool false) (by kernel_rfl) (by kernel_rfl) (fun _ _ _ h => h) (fun W _ => by kernel_rfl) hHeld ?_
  refine take_wanted 63 2 (.bool false) (by kernel_rfl) (by kernel_rfl) (fun _ _ _ h => h) (fun W _ => by kernel_rfl) hHeld ?_
  refine wpAnyH_done (by kernel_rfl) ?_ _
  simp only [Act.put, List.setIfInBounds_toArray, List.set_cons_zero, List.set_cons_succ]
  go_wp2
  go_ret
  exact ⟨rfl, BB.out⟩
end Go.Proofs.YtgefnndegjpcpaaDoor
