/- Walks of layer 16: which dates there are. -/
import Derived.Test.YtgefnndegjpcpaaDoorDtD1
import Derived.Test.YtgefnndegjpcpaaDoorDtD2
import Derived.Test.YtgefnndegjpcpaaDoorDtD3
import Derived.Test.YtgefnndegjpcpaaDoorDtD4
set_option maxRecDepth 100000
set_option linter.unusedSimpArgs false
set_option linter.unusedVariables false
namespace Go.Proofs.YtgefnndegjpcpaaDoor
open Go.RowKit

/-- which dates there are -/
theorem isDate_any (t : Dt) (w : World) :
    Calls Tryd.prog 22 #[.agg #[.int .i64 t.y, .int .i64 t.m, .int .i64 t.d, .int .i64 t.h, .int .i64 t.i, .int .i64 t.s]] w fun e w' => e = .returned (.bool (rightB t)) ∧ Below w.heap.size w w' := by
  have no : ∀ {p : Prop}, (rightB t = true → p) → ¬ p → rightB t = false := fun f h => by
    cases e : rightB t
    · rfl
    · exact absurd (f e) h
  by_cases h1 : t.y ≥ 0
  rotate_left
  · rw [no (fun e => (show t.y ≥ 0 by have := right_iff.1 e; omega)) h1]
    exact isDate_1 _ _ _ _ _ _ 0 w h1
  by_cases h2 : t.y ≤ 9999
  rotate_left
  · rw [no (fun e => (show t.y ≤ 9999 by have := right_iff.1 e; omega)) h2]
    exact isDate_2 _ _ _ _ _ _ 0 w h1 h2
  by_cases h3 : t.m ≥ 1
  rotate_left
  · rw [no (fun e => (show t.m ≥ 1 by have := right_iff.1 e; omega)) h3]
    exact isDate_3 _ _ _ _ _ _ 0 w h1 h2 h3
  by_cases h4 : t.m ≤ 12
  rotate_left
  · rw [no (fun e => (show t.m ≤ 12 by have := right_iff.1 e; omega)) h4]
    exact isDate_4 _ _ _ _ _ _ 0 w h1 h2 h3 h4
  by_cases h5 : t.d ≥ 1
  rotate_left
  · rw [no (fun e => (show t.d ≥ 1 by have := right_iff.1 e; omega)) h5]
    exact isDate_5 _ _ _ _ _ _ 0 w h1 h2 h3 h4 h5
  by_cases h6 : t.d ≤ dim t.y t.m
  rotate_left
  · rw [no (fun e => (show t.d ≤ dim t.y t.m by have := right_iff.1 e; omega)) h6]
    exact isDate_6 _ _ _ _ _ _ _ w rfl h1 h2 h3 h4 h5 h6
  by_cases h7 : t.h ≥ 0
  rotate_left
  · rw [no (fun e => (show t.h ≥ 0 by have := right_iff.1 e; omega)) h7]
    exact isDate_7 _ _ _ _ _ _ _ w rfl h1 h2 h3 h4 h5 h6 h7
  by_cases h8 : t.h < 24
  rotate_left
  · rw [no (fun e => (show t.h < 24 by have := right_iff.1 e; omega)) h8]
    exact isDate_8 _ _ _ _ _ _ _ w rfl h1 h2 h3 h4 h5 h6 h7 h8
  by_cases h9 : t.i ≥ 0
  rotate_left
  · rw [no (fun e => (show t.i ≥ 0 by have := right_iff.1 e; omega)) h9]
    exact isDate_9 _ _ _ _ _ _ _ w rfl h1 h2 h3 h4 h5 h6 h7 h8 h9
  by_cases h10 : t.i < 60
  rotate_left
  · rw [no (fun e => (show t.i < 60 by have := right_iff.1 e; omega)) h10]
    exact isDate_10 _ _ _ _ _ _ _ w rfl h1 h2 h3 h4 h5 h6 h7 h8 h9 h10
  by_cases h11 : t.s ≥ 0
  rotate_left
  · rw [no (fun e => (show t.s ≥ 0 by have := right_iff.1 e; omega)) h11]
    exact isDate_11 _ _ _ _ _ _ _ w rfl h1 h2 h3 h4 h5 h6 h7 h8 h9 h10 h11
  by_cases h12 : t.s < 60
  rotate_left
  · rw [no (fun e => (show t.s < 60 by have := right_iff.1 e; omega)) h12]
    exact isDate_12 _ _ _ _ _ _ _ w rfl h1 h2 h3 h4 h5 h6 h7 h8 h9 h10 h11 h12
  rw [show rightB t = true from right_iff.2 (by omega)]
  exact isDate_13 _ _ _ _ _ _ _ w rfl h1 h2 h3 h4 h5 h6 h7 h8 h9 h10 h11 h12
end Go.Proofs.YtgefnndegjpcpaaDoor
