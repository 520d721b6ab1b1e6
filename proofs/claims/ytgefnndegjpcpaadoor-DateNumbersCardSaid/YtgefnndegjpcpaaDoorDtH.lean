/- Walks of layer 16: which dates there are, by the document. -/
import Derived.Test.YtgefnndegjpcpaaDoorDtG
import Derived.BigQuiet
import Derived.Deep.QuietTactic
set_option maxRecDepth 100000
set_option linter.unusedSimpArgs false
set_option linter.unusedVariables false
namespace Go.Proofs.YtgefnndegjpcpaaDoor
open Go.RowKit

theorem Cs.six' {w : World} {g : Nat} {a b c d e f : Value} (h : Cs w g [a, b, c, d, e, f]) : w.cell? ⟨g, 0, none⟩ = some a ∧ w.cell? ⟨g, 1, none⟩ = some b ∧ w.cell? ⟨g, 2, none⟩ = some c ∧ w.cell? ⟨g, 3, none⟩ = some d ∧ w.cell? ⟨g, 4, none⟩ = some e ∧ w.cell? ⟨g, 5, none⟩ = some f :=
  ⟨h.get 0 _ rfl, h.get 1 _ rfl, h.get 2 _ rfl, h.get 3 _ rfl, h.get 4 _ rfl, h.get 5 _ rfl⟩

set_option maxHeartbeats 1600000 in
theorem rright_1 (y m d h i s D : Int) (w : World)  (h1 : y < 0) :
    Calls Tryd.prog 25 #[.agg #[.int .i64 y, .int .i64 m, .int .i64 d, .int .i64 h, .int .i64 i, .int .i64 s]] w fun e w' => e = .returned (.bool (false)) ∧ Below w.heap.size w w' := by

  have d1 : decide (y < 0) = true := decide_eq_true h1
  have BB := Lib.hid (Below.refl w.heap.size w |>.alloc (Nat.le_refl _) (.cells #[.int .i64 y, .int .i64 m, .int .i64 d, .int .i64 h, .int .i64 i, .int .i64 s] 23))
  have CC := Lib.hid (Cs.made w #[.int .i64 y, .int .i64 m, .int .i64 d, .int .i64 h, .int .i64 i, .int .i64 s] 23)
  clear h1
  go_enter Tryd.func25, Tryd.ntmps25
  go_wp2_with fail
  have c0 : ∀ n, (w.alloc (.cells #[.int .i64 y, .int .i64 m, .int .i64 d, .int .i64 h, .int .i64 i, .int .i64 s] 23)).drewN n = (w.alloc (.cells #[.int .i64 y, .int .i64 m, .int .i64 d, .int .i64 h, .int .i64 i, .int .i64 s] 23)).drewN n := fun _ => rfl
  clear c0
  obtain ⟨c0, c1, c2, c3, c4, c5⟩ := CC.out.six'
  go_quiet (fail)
  go_wp2
  go_ret
  exact ⟨rfl, below_drewN BB.out _⟩

set_option maxHeartbeats 1600000 in
theorem rright_2 (y m d h i s D : Int) (w : World) (h1 : ¬ y < 0) (h2 : y > 9999) :
    Calls Tryd.prog 25 #[.agg #[.int .i64 y, .int .i64 m, .int .i64 d, .int .i64 h, .int .i64 i, .int .i64 s]] w fun e w' => e = .returned (.bool (false)) ∧ Below w.heap.size w w' := by
  have d1 : decide (y < 0) = false := decide_eq_false h1
  have d2 : decide (y > 9999) = true := decide_eq_true h2
  have BB := Lib.hid (Below.refl w.heap.size w |>.alloc (Nat.le_refl _) (.cells #[.int .i64 y, .int .i64 m, .int .i64 d, .int .i64 h, .int .i64 i, .int .i64 s] 23))
  have CC := Lib.hid (Cs.made w #[.int .i64 y, .int .i64 m, .int .i64 d, .int .i64 h, .int .i64 i, .int .i64 s] 23)
  clear h1 h2
  go_enter Tryd.func25, Tryd.ntmps25
  go_wp2_with fail
  have c0 : ∀ n, (w.alloc (.cells #[.int .i64 y, .int .i64 m, .int .i64 d, .int .i64 h, .int .i64 i, .int .i64 s] 23)).drewN n = (w.alloc (.cells #[.int .i64 y, .int .i64 m, .int .i64 d, .int .i64 h, .int .i64 i, .int .i64 s] 23)).drewN n := fun _ => rfl
  clear c0
  obtain ⟨c0, c1, c2, c3, c4, c5⟩ := CC.out.six'
  go_quiet (fail)
  go_wp2
  go_ret
  exact ⟨rfl, below_drewN BB.out _⟩

set_option maxHeartbeats 1600000 in
theorem rright_3 (y m d h i s D : Int) (w : World) (h1 : ¬ y < 0) (h2 : ¬ y > 9999) (h3 : m < 1) :
    Calls Tryd.prog 25 #[.agg #[.int .i64 y, .int .i64 m, .int .i64 d, .int .i64 h, .int .i64 i, .int .i64 s]] w fun e w' => e = .returned (.bool (false)) ∧ Below w.heap.size w w' := by
  have d1 : decide (y < 0) = false := decide_eq_false h1
  have d2 : decide (y > 9999) = false := decide_eq_false h2
  have d3 : decide (m < 1) = true := decide_eq_true h3
  have BB := Lib.hid (Below.refl w.heap.size w |>.alloc (Nat.le_refl _) (.cells #[.int .i64 y, .int .i64 m, .int .i64 d, .int .i64 h, .int .i64 i, .int .i64 s] 23))
  have CC := Lib.hid (Cs.made w #[.int .i64 y, .int .i64 m, .int .i64 d, .int .i64 h, .int .i64 i, .int .i64 s] 23)
  clear h1 h2 h3
  go_enter Tryd.func25, Tryd.ntmps25
  go_wp2_with fail
  have c0 : ∀ n, (w.alloc (.cells #[.int .i64 y, .int .i64 m, .int .i64 d, .int .i64 h, .int .i64 i, .int .i64 s] 23)).drewN n = (w.alloc (.cells #[.int .i64 y, .int .i64 m, .int .i64 d, .int .i64 h, .int .i64 i, .int .i64 s] 23)).drewN n := fun _ => rfl
  clear c0
  obtain ⟨c0, c1, c2, c3, c4, c5⟩ := CC.out.six'
  go_quiet (fail)
  go_wp2
  go_ret
  exact ⟨rfl, below_drewN BB.out _⟩

set_option maxHeartbeats 1600000 in
theorem rright_4 (y m d h i s D : Int) (w : World) (h1 : ¬ y < 0) (h2 : ¬ y > 9999) (h3 : ¬ m < 1) (h4 : m > 12) :
    Calls Tryd.prog 25 #[.agg #[.int .i64 y, .int .i64 m, .int .i64 d, .int .i64 h, .int .i64 i, .int .i64 s]] w fun e w' => e = .returned (.bool (false)) ∧ Below w.heap.size w w' := by
  have d1 : decide (y < 0) = false := decide_eq_false h1
  have d2 : decide (y > 9999) = false := decide_eq_false h2
  have d3 : decide (m < 1) = false := decide_eq_false h3
  have d4 : decide (m > 12) = true := decide_eq_true h4
  have BB := Lib.hid (Below.refl w.heap.size w |>.alloc (Nat.le_refl _) (.cells #[.int .i64 y, .int .i64 m, .int .i64 d, .int .i64 h, .int .i64 i, .int .i64 s] 23))
  have CC := Lib.hid (Cs.made w #[.int .i64 y, .int .i64 m, .int .i64 d, .int .i64 h, .int .i64 i, .int .i64 s] 23)
  clear h1 h2 h3 h4
  go_enter Tryd.func25, Tryd.ntmps25
  go_wp2_with fail
  have c0 : ∀ n, (w.alloc (.cells #[.int .i64 y, .int .i64 m, .int .i64 d, .int .i64 h, .int .i64 i, .int .i64 s] 23)).drewN n = (w.alloc (.cells #[.int .i64 y, .int .i64 m, .int .i64 d, .int .i64 h, .int .i64 i, .int .i64 s] 23)).drewN n := fun _ => rfl
  clear c0
  obtain ⟨c0, c1, c2, c3, c4, c5⟩ := CC.out.six'
  go_quiet (fail)
  go_wp2
  go_ret
  exact ⟨rfl, below_drewN BB.out _⟩

set_option maxHeartbeats 1600000 in
theorem rright_5 (y m d h i s D : Int) (w : World) (h1 : ¬ y < 0) (h2 : ¬ y > 9999) (h3 : ¬ m < 1) (h4 : ¬ m > 12) (h5 : d < 1) :
    Calls Tryd.prog 25 #[.agg #[.int .i64 y, .int .i64 m, .int .i64 d, .int .i64 h, .int .i64 i, .int .i64 s]] w fun e w' => e = .returned (.bool (false)) ∧ Below w.heap.size w w' := by
  have d1 : decide (y < 0) = false := decide_eq_false h1
  have d2 : decide (y > 9999) = false := decide_eq_false h2
  have d3 : decide (m < 1) = false := decide_eq_false h3
  have d4 : decide (m > 12) = false := decide_eq_false h4
  have d5 : decide (d < 1) = true := decide_eq_true h5
  have BB := Lib.hid (Below.refl w.heap.size w |>.alloc (Nat.le_refl _) (.cells #[.int .i64 y, .int .i64 m, .int .i64 d, .int .i64 h, .int .i64 i, .int .i64 s] 23))
  have CC := Lib.hid (Cs.made w #[.int .i64 y, .int .i64 m, .int .i64 d, .int .i64 h, .int .i64 i, .int .i64 s] 23)
  clear h1 h2 h3 h4 h5
  go_enter Tryd.func25, Tryd.ntmps25
  go_wp2_with fail
  have c0 : ∀ n, (w.alloc (.cells #[.int .i64 y, .int .i64 m, .int .i64 d, .int .i64 h, .int .i64 i, .int .i64 s] 23)).drewN n = (w.alloc (.cells #[.int .i64 y, .int .i64 m, .int .i64 d, .int .i64 h, .int .i64 i, .int .i64 s] 23)).drewN n := fun _ => rfl
  clear c0
  obtain ⟨c0, c1, c2, c3, c4, c5⟩ := CC.out.six'
  go_quiet (fail)
  go_wp2
  go_ret
  exact ⟨rfl, below_drewN BB.out _⟩

set_option maxHeartbeats 1600000 in
theorem rright_6 (y m d h i s D : Int) (w : World) (hD : dim y m = D) (h1 : ¬ y < 0) (h2 : ¬ y > 9999) (h3 : ¬ m < 1) (h4 : ¬ m > 12) (h5 : ¬ d < 1) (h6 : d > D) :
    Calls Tryd.prog 25 #[.agg #[.int .i64 y, .int .i64 m, .int .i64 d, .int .i64 h, .int .i64 i, .int .i64 s]] w fun e w' => e = .returned (.bool (false)) ∧ Below w.heap.size w w' := by
  have d1 : decide (y < 0) = false := decide_eq_false h1
  have d2 : decide (y > 9999) = false := decide_eq_false h2
  have d3 : decide (m < 1) = false := decide_eq_false h3
  have d4 : decide (m > 12) = false := decide_eq_false h4
  have d5 : decide (d < 1) = false := decide_eq_false h5
  have d6 : decide (d > D) = true := decide_eq_true h6
  have BB := Lib.hid (Below.refl w.heap.size w |>.alloc (Nat.le_refl _) (.cells #[.int .i64 y, .int .i64 m, .int .i64 d, .int .i64 h, .int .i64 i, .int .i64 s] 23))
  have CC := Lib.hid (Cs.made w #[.int .i64 y, .int .i64 m, .int .i64 d, .int .i64 h, .int .i64 i, .int .i64 s] 23)
  have DM := Lib.hid (fun W => rdays_any y m W (by omega) (by omega))
  rw [hD] at DM
  clear h1 h2 h3 h4 h5 h6 hD
  go_enter Tryd.func25, Tryd.ntmps25
  go_wp2_with fail
  have c0 : ∀ n, (w.alloc (.cells #[.int .i64 y, .int .i64 m, .int .i64 d, .int .i64 h, .int .i64 i, .int .i64 s] 23)).drewN n = (w.alloc (.cells #[.int .i64 y, .int .i64 m, .int .i64 d, .int .i64 h, .int .i64 i, .int .i64 s] 23)).drewN n := fun _ => rfl
  clear c0
  obtain ⟨c0, c1, c2, c3, c4, c5⟩ := CC.out.six'
  go_quiet (first | (go_at_call 27; refine Calls.quiet_of_same (DM.out _)))
  go_wp2
  go_ret
  exact ⟨rfl, below_drewN BB.out _⟩

set_option maxHeartbeats 1600000 in
theorem rright_7 (y m d h i s D : Int) (w : World) (hD : dim y m = D) (h1 : ¬ y < 0) (h2 : ¬ y > 9999) (h3 : ¬ m < 1) (h4 : ¬ m > 12) (h5 : ¬ d < 1) (h6 : ¬ d > D) :
    Calls Tryd.prog 25 #[.agg #[.int .i64 y, .int .i64 m, .int .i64 d, .int .i64 h, .int .i64 i, .int .i64 s]] w fun e w' => e = .returned (.bool (clockB ⟨y, m, d, h, i, s⟩)) ∧ Below w.heap.size w w' := by
  have d1 : decide (y < 0) = false := decide_eq_false h1
  have d2 : decide (y > 9999) = false := decide_eq_false h2
  have d3 : decide (m < 1) = false := decide_eq_false h3
  have d4 : decide (m > 12) = false := decide_eq_false h4
  have d5 : decide (d < 1) = false := decide_eq_false h5
  have d6 : decide (d > D) = false := decide_eq_false h6
  have BB := Lib.hid (Below.refl w.heap.size w |>.alloc (Nat.le_refl _) (.cells #[.int .i64 y, .int .i64 m, .int .i64 d, .int .i64 h, .int .i64 i, .int .i64 s] 23))
  have CC := Lib.hid (Cs.made w #[.int .i64 y, .int .i64 m, .int .i64 d, .int .i64 h, .int .i64 i, .int .i64 s] 23)
  have DM := Lib.hid (fun W => rdays_any y m W (by omega) (by omega))
  rw [hD] at DM
  clear h1 h2 h3 h4 h5 h6 hD
  go_enter Tryd.func25, Tryd.ntmps25
  go_wp2_with fail
  have c0 : ∀ n, (w.alloc (.cells #[.int .i64 y, .int .i64 m, .int .i64 d, .int .i64 h, .int .i64 i, .int .i64 s] 23)).drewN n = (w.alloc (.cells #[.int .i64 y, .int .i64 m, .int .i64 d, .int .i64 h, .int .i64 i, .int .i64 s] 23)).drewN n := fun _ => rfl
  clear c0
  obtain ⟨c0, c1, c2, c3, c4, c5⟩ := CC.out.six'
  go_quiet (first | (go_at_call 27; refine Calls.quiet_of_same (DM.out _)))
  go_wp2
  all_goals
    go_ret
    refine ⟨ret_bool ?_, below_drewN BB.out _⟩
    simp only [clockB]
    first
      | exact decide_eq_decide.2 (by omega)
      | exact (decide_eq_false (by omega)).symm
      | exact (decide_eq_true (by omega)).symm

theorem rright_any (t : Dt) (w : World) :
    Calls Tryd.prog 25 #[.agg #[.int .i64 t.y, .int .i64 t.m, .int .i64 t.d, .int .i64 t.h, .int .i64 t.i, .int .i64 t.s]] w fun e w' => e = .returned (.bool (rightB t)) ∧ Below w.heap.size w w' := by
  have no : ∀ {p : Prop}, (rightB t = true → ¬ p) → p → rightB t = false := fun f h => by
    cases e : rightB t
    · rfl
    · exact absurd h (f e)
  by_cases h1 : t.y < 0
  · rw [no (fun e => (show ¬ t.y < 0 by have := right_iff.1 e; omega)) h1]
    exact rright_1 _ _ _ _ _ _ 0 w h1
  by_cases h2 : t.y > 9999
  · rw [no (fun e => (show ¬ t.y > 9999 by have := right_iff.1 e; omega)) h2]
    exact rright_2 _ _ _ _ _ _ 0 w h1 h2
  by_cases h3 : t.m < 1
  · rw [no (fun e => (show ¬ t.m < 1 by have := right_iff.1 e; omega)) h3]
    exact rright_3 _ _ _ _ _ _ 0 w h1 h2 h3
  by_cases h4 : t.m > 12
  · rw [no (fun e => (show ¬ t.m > 12 by have := right_iff.1 e; omega)) h4]
    exact rright_4 _ _ _ _ _ _ 0 w h1 h2 h3 h4
  by_cases h5 : t.d < 1
  · rw [no (fun e => (show ¬ t.d < 1 by have := right_iff.1 e; omega)) h5]
    exact rright_5 _ _ _ _ _ _ 0 w h1 h2 h3 h4 h5
  by_cases h6 : t.d > dim t.y t.m
  · rw [no (fun e => (show ¬ t.d > dim t.y t.m by have := right_iff.1 e; omega)) h6]
    exact rright_6 _ _ _ _ _ _ _ w rfl h1 h2 h3 h4 h5 h6
  have hd : dayB t = true := by
    simp only [dayB, decide_eq_true_eq]
    omega
  rw [show rightB t = clockB t by rw [rightB, hd, Bool.true_and]]
  exact rright_7 _ _ _ _ _ _ _ w rfl h1 h2 h3 h4 h5 h6
end Go.Proofs.YtgefnndegjpcpaaDoor
