/- Walks of layer 7: which windows may be, in the document. -/
import Derived.Test.YtiglhdiclfknhaaCgA
set_option linter.unusedSimpArgs false
set_option linter.unusedVariables false
namespace Go.Proofs.Ytiglhdiclfknhaa
open Go.RowKit
set_option maxHeartbeats 400000 in
theorem rright_1 (z t f s p : Int) (w : World) (h1 : decide (z < 2400) = true) :
    Calls Try.prog 11 #[.agg #[.int .i64 z, .int .i64 t, .int .i64 f, .int .i64 s, .int .i64 p]] w fun e w' => e = .returned (.bool false) ∧ Below w.heap.size w w' := by
  have HB := Lib.hid (below_one w (.cells #[.int .i64 z, .int .i64 t, .int .i64 f, .int .i64 s, .int .i64 p] 23))
  go_enter Try.func11, Try.ntmps11
  go_wp2
  go_ret
  exact ⟨rfl, HB.out⟩
set_option maxHeartbeats 400000 in
theorem rright_2 (z t f s p : Int) (w : World) (h1 : decide (z < 2400) = false) (h2 : decide (z > 1073741824) = true) :
    Calls Try.prog 11 #[.agg #[.int .i64 z, .int .i64 t, .int .i64 f, .int .i64 s, .int .i64 p]] w fun e w' => e = .returned (.bool false) ∧ Below w.heap.size w w' := by
  have HB := Lib.hid (below_one w (.cells #[.int .i64 z, .int .i64 t, .int .i64 f, .int .i64 s, .int .i64 p] 23))
  go_enter Try.func11, Try.ntmps11
  go_wp2
  go_ret
  exact ⟨rfl, HB.out⟩
set_option maxHeartbeats 400000 in
theorem rright_3 (z t f s p : Int) (w : World) (h1 : decide (z < 2400) = false) (h2 : decide (z > 1073741824) = false) (h3 : (t == 0) = false) (h3' : (t != 0) = true) (h4 : decide (t < 2400) = true) :
    Calls Try.prog 11 #[.agg #[.int .i64 z, .int .i64 t, .int .i64 f, .int .i64 s, .int .i64 p]] w fun e w' => e = .returned (.bool false) ∧ Below w.heap.size w w' := by
  have HB := Lib.hid (below_one w (.cells #[.int .i64 z, .int .i64 t, .int .i64 f, .int .i64 s, .int .i64 p] 23))
  go_enter Try.func11, Try.ntmps11
  go_wp2
  go_ret
  exact ⟨rfl, HB.out⟩
set_option maxHeartbeats 400000 in
theorem rright_4 (z t f s p : Int) (w : World) (h1 : decide (z < 2400) = false) (h2 : decide (z > 1073741824) = false) (h3 : (t == 0) = false) (h3' : (t != 0) = true) (h4 : decide (t < 2400) = false) (h5 : decide (t > 1073741824) = true) :
    Calls Try.prog 11 #[.agg #[.int .i64 z, .int .i64 t, .int .i64 f, .int .i64 s, .int .i64 p]] w fun e w' => e = .returned (.bool false) ∧ Below w.heap.size w w' := by
  have HB := Lib.hid (below_one w (.cells #[.int .i64 z, .int .i64 t, .int .i64 f, .int .i64 s, .int .i64 p] 23))
  go_enter Try.func11, Try.ntmps11
  go_wp2
  go_ret
  exact ⟨rfl, HB.out⟩
set_option maxHeartbeats 400000 in
theorem rright_5a (z f s p : Int) (w : World) (h1 : decide (z < 2400) = false) (h2 : decide (z > 1073741824) = false) (h6 : decide (f ≥ 0) = false) :
    Calls Try.prog 11 #[.agg #[.int .i64 z, .int .i64 0, .int .i64 f, .int .i64 s, .int .i64 p]] w fun e w' => e = .returned (.bool false) ∧ Below w.heap.size w w' := by
  have HB := Lib.hid (below_one w (.cells #[.int .i64 z, .int .i64 0, .int .i64 f, .int .i64 s, .int .i64 p] 23))
  go_enter Try.func11, Try.ntmps11
  go_wp2
  go_ret
  exact ⟨rfl, HB.out⟩
set_option maxHeartbeats 400000 in
theorem rright_6a (z f s p : Int) (w : World) (h1 : decide (z < 2400) = false) (h2 : decide (z > 1073741824) = false) (h6 : decide (f ≥ 0) = true) (h7 : decide (f ≤ 1099511627776) = false) :
    Calls Try.prog 11 #[.agg #[.int .i64 z, .int .i64 0, .int .i64 f, .int .i64 s, .int .i64 p]] w fun e w' => e = .returned (.bool false) ∧ Below w.heap.size w w' := by
  have HB := Lib.hid (below_one w (.cells #[.int .i64 z, .int .i64 0, .int .i64 f, .int .i64 s, .int .i64 p] 23))
  go_enter Try.func11, Try.ntmps11
  go_wp2
  go_ret
  exact ⟨rfl, HB.out⟩
set_option maxHeartbeats 400000 in
theorem rright_7a (z f s p : Int) (w : World) (h1 : decide (z < 2400) = false) (h2 : decide (z > 1073741824) = false) (h6 : decide (f ≥ 0) = true) (h7 : decide (f ≤ 1099511627776) = true) (h8 : decide (s ≥ -1) = false) :
    Calls Try.prog 11 #[.agg #[.int .i64 z, .int .i64 0, .int .i64 f, .int .i64 s, .int .i64 p]] w fun e w' => e = .returned (.bool false) ∧ Below w.heap.size w w' := by
  have HB := Lib.hid (below_one w (.cells #[.int .i64 z, .int .i64 0, .int .i64 f, .int .i64 s, .int .i64 p] 23))
  go_enter Try.func11, Try.ntmps11
  go_wp2
  go_ret
  exact ⟨rfl, HB.out⟩
set_option maxHeartbeats 400000 in
theorem rright_8a (z f s p : Int) (w : World) (h1 : decide (z < 2400) = false) (h2 : decide (z > 1073741824) = false) (h6 : decide (f ≥ 0) = true) (h7 : decide (f ≤ 1099511627776) = true) (h8 : decide (s ≥ -1) = true) (h9 : decide (s ≤ 1099511627776) = false) :
    Calls Try.prog 11 #[.agg #[.int .i64 z, .int .i64 0, .int .i64 f, .int .i64 s, .int .i64 p]] w fun e w' => e = .returned (.bool false) ∧ Below w.heap.size w w' := by
  have HB := Lib.hid (below_one w (.cells #[.int .i64 z, .int .i64 0, .int .i64 f, .int .i64 s, .int .i64 p] 23))
  go_enter Try.func11, Try.ntmps11
  go_wp2
  go_ret
  exact ⟨rfl, HB.out⟩
set_option maxHeartbeats 400000 in
theorem rright_9a (z f s p : Int) (w : World) (h1 : decide (z < 2400) = false) (h2 : decide (z > 1073741824) = false) (h6 : decide (f ≥ 0) = true) (h7 : decide (f ≤ 1099511627776) = true) (h8 : decide (s ≥ -1) = true) (h9 : decide (s ≤ 1099511627776) = true) (h10 : decide (p ≥ 0) = false) :
    Calls Try.prog 11 #[.agg #[.int .i64 z, .int .i64 0, .int .i64 f, .int .i64 s, .int .i64 p]] w fun e w' => e = .returned (.bool false) ∧ Below w.heap.size w w' := by
  have HB := Lib.hid (below_one w (.cells #[.int .i64 z, .int .i64 0, .int .i64 f, .int .i64 s, .int .i64 p] 23))
  go_enter Try.func11, Try.ntmps11
  go_wp2
  go_ret
  exact ⟨rfl, HB.out⟩
set_option maxHeartbeats 400000 in
theorem rright_10a (z f s p : Int) (w : World) (h1 : decide (z < 2400) = false) (h2 : decide (z > 1073741824) = false) (h6 : decide (f ≥ 0) = true) (h7 : decide (f ≤ 1099511627776) = true) (h8 : decide (s ≥ -1) = true) (h9 : decide (s ≤ 1099511627776) = true) (h10 : decide (p ≥ 0) = true) :
    Calls Try.prog 11 #[.agg #[.int .i64 z, .int .i64 0, .int .i64 f, .int .i64 s, .int .i64 p]] w fun e w' => e = .returned (.bool (decide (p < z))) ∧ Below w.heap.size w w' := by
  have HB := Lib.hid (below_one w (.cells #[.int .i64 z, .int .i64 0, .int .i64 f, .int .i64 s, .int .i64 p] 23))
  go_enter Try.func11, Try.ntmps11
  go_wp2
  go_ret
  exact ⟨rfl, HB.out⟩
set_option maxHeartbeats 400000 in
theorem rright_5b (z t f s p : Int) (w : World) (h1 : decide (z < 2400) = false) (h2 : decide (z > 1073741824) = false) (h3 : (t == 0) = false) (h3' : (t != 0) = true) (h4 : decide (t < 2400) = false) (h5 : decide (t > 1073741824) = false) (h6 : decide (f ≥ 0) = false) :
    Calls Try.prog 11 #[.agg #[.int .i64 z, .int .i64 t, .int .i64 f, .int .i64 s, .int .i64 p]] w fun e w' => e = .returned (.bool false) ∧ Below w.heap.size w w' := by
  have HB := Lib.hid (below_one w (.cells #[.int .i64 z, .int .i64 t, .int .i64 f, .int .i64 s, .int .i64 p] 23))
  go_enter Try.func11, Try.ntmps11
  go_wp2
  go_ret
  exact ⟨rfl, HB.out⟩
set_option maxHeartbeats 400000 in
theorem rright_6b (z t f s p : Int) (w : World) (h1 : decide (z < 2400) = false) (h2 : decide (z > 1073741824) = false) (h3 : (t == 0) = false) (h3' : (t != 0) = true) (h4 : decide (t < 2400) = false) (h5 : decide (t > 1073741824) = false) (h6 : decide (f ≥ 0) = true) (h7 : decide (f ≤ 1099511627776) = false) :
    Calls Try.prog 11 #[.agg #[.int .i64 z, .int .i64 t, .int .i64 f, .int .i64 s, .int .i64 p]] w fun e w' => e = .returned (.bool false) ∧ Below w.heap.size w w' := by
  have HB := Lib.hid (below_one w (.cells #[.int .i64 z, .int .i64 t, .int .i64 f, .int .i64 s, .int .i64 p] 23))
  go_enter Try.func11, Try.ntmps11
  go_wp2
  go_ret
  exact ⟨rfl, HB.out⟩
set_option maxHeartbeats 400000 in
theorem rright_7b (z t f s p : Int) (w : World) (h1 : decide (z < 2400) = false) (h2 : decide (z > 1073741824) = false) (h3 : (t == 0) = false) (h3' : (t != 0) = true) (h4 : decide (t < 2400) = false) (h5 : decide (t > 1073741824) = false) (h6 : decide (f ≥ 0) = true) (h7 : decide (f ≤ 1099511627776) = true) (h8 : decide (s ≥ -1) = false) :
    Calls Try.prog 11 #[.agg #[.int .i64 z, .int .i64 t, .int .i64 f, .int .i64 s, .int .i64 p]] w fun e w' => e = .returned (.bool false) ∧ Below w.heap.size w w' := by
  have HB := Lib.hid (below_one w (.cells #[.int .i64 z, .int .i64 t, .int .i64 f, .int .i64 s, .int .i64 p] 23))
  go_enter Try.func11, Try.ntmps11
  go_wp2
  go_ret
  exact ⟨rfl, HB.out⟩
set_option maxHeartbeats 400000 in
theorem rright_8b (z t f s p : Int) (w : World) (h1 : decide (z < 2400) = false) (h2 : decide (z > 1073741824) = false) (h3 : (t == 0) = false) (h3' : (t != 0) = true) (h4 : decide (t < 2400) = false) (h5 : decide (t > 1073741824) = false) (h6 : decide (f ≥ 0) = true) (h7 : decide (f ≤ 1099511627776) = true) (h8 : decide (s ≥ -1) = true) (h9 : decide (s ≤ 1099511627776) = false) :
    Calls Try.prog 11 #[.agg #[.int .i64 z, .int .i64 t, .int .i64 f, .int .i64 s, .int .i64 p]] w fun e w' => e = .returned (.bool false) ∧ Below w.heap.size w w' := by
  have HB := Lib.hid (below_one w (.cells #[.int .i64 z, .int .i64 t, .int .i64 f, .int .i64 s, .int .i64 p] 23))
  go_enter Try.func11, Try.ntmps11
  go_wp2
  go_ret
  exact ⟨rfl, HB.out⟩
set_option maxHeartbeats 400000 in
theorem rright_9b (z t f s p : Int) (w : World) (h1 : decide (z < 2400) = false) (h2 : decide (z > 1073741824) = false) (h3 : (t == 0) = false) (h3' : (t != 0) = true) (h4 : decide (t < 2400) = false) (h5 : decide (t > 1073741824) = false) (h6 : decide (f ≥ 0) = true) (h7 : decide (f ≤ 1099511627776) = true) (h8 : decide (s ≥ -1) = true) (h9 : decide (s ≤ 1099511627776) = true) (h10 : decide (p ≥ 0) = false) :
    Calls Try.prog 11 #[.agg #[.int .i64 z, .int .i64 t, .int .i64 f, .int .i64 s, .int .i64 p]] w fun e w' => e = .returned (.bool false) ∧ Below w.heap.size w w' := by
  have HB := Lib.hid (below_one w (.cells #[.int .i64 z, .int .i64 t, .int .i64 f, .int .i64 s, .int .i64 p] 23))
  go_enter Try.func11, Try.ntmps11
  go_wp2
  go_ret
  exact ⟨rfl, HB.out⟩
set_option maxHeartbeats 400000 in
theorem rright_10b (z t f s p : Int) (w : World) (h1 : decide (z < 2400) = false) (h2 : decide (z > 1073741824) = false) (h3 : (t == 0) = false) (h3' : (t != 0) = true) (h4 : decide (t < 2400) = false) (h5 : decide (t > 1073741824) = false) (h6 : decide (f ≥ 0) = true) (h7 : decide (f ≤ 1099511627776) = true) (h8 : decide (s ≥ -1) = true) (h9 : decide (s ≤ 1099511627776) = true) (h10 : decide (p ≥ 0) = true) :
    Calls Try.prog 11 #[.agg #[.int .i64 z, .int .i64 t, .int .i64 f, .int .i64 s, .int .i64 p]] w fun e w' => e = .returned (.bool (decide (p < z))) ∧ Below w.heap.size w w' := by
  have HB := Lib.hid (below_one w (.cells #[.int .i64 z, .int .i64 t, .int .i64 f, .int .i64 s, .int .i64 p] 23))
  go_enter Try.func11, Try.ntmps11
  go_wp2
  go_ret
  exact ⟨rfl, HB.out⟩
theorem rright_any (z t f s p : Int) (w : World) :
    Calls Try.prog 11 #[.agg #[.int .i64 z, .int .i64 t, .int .i64 f, .int .i64 s, .int .i64 p]] w fun e w' => e = .returned (.bool (rightB ⟨z, t, f, s, p⟩)) ∧ Below w.heap.size w w' := by
  have no (h : ¬ ((2400 ≤ z ∧ z ≤ 1073741824) ∧ (t = 0 ∨ 2400 ≤ t ∧ t ≤ 1073741824) ∧ (0 ≤ f ∧ f ≤ 1099511627776) ∧ (-1 ≤ s ∧ s ≤ 1099511627776) ∧ (0 ≤ p ∧ p < z))) : rightB ⟨z, t, f, s, p⟩ = false := by
    cases e : rightB ⟨z, t, f, s, p⟩
    · rfl
    · exact absurd (right_iff.1 e) h
  by_cases h1 : z < 2400
  · rw [no (by omega)]; exact rright_1 z t f s p w (decide_eq_true h1)
  by_cases h2 : z > 1073741824
  · rw [no (by omega)]; exact rright_2 z t f s p w (decide_eq_false h1) (decide_eq_true h2)
  have d1 := decide_eq_false h1
  have d2 := decide_eq_false h2
  by_cases h0 : t = 0
  · subst h0
    by_cases h6 : f ≥ 0
    rotate_left
    · rw [no (by omega)]; exact rright_5a z f s p w d1 d2  (decide_eq_false h6)
    by_cases h7 : f ≤ 1099511627776
    rotate_left
    · rw [no (by omega)]; exact rright_6a z f s p w d1 d2 (decide_eq_true h6) (decide_eq_false h7)
    by_cases h8 : s ≥ -1
    rotate_left
    · rw [no (by omega)]; exact rright_7a z f s p w d1 d2 (decide_eq_true h6) (decide_eq_true h7) (decide_eq_false h8)
    by_cases h9 : s ≤ 1099511627776
    rotate_left
    · rw [no (by omega)]; exact rright_8a z f s p w d1 d2 (decide_eq_true h6) (decide_eq_true h7) (decide_eq_true h8) (decide_eq_false h9)
    by_cases h10 : p ≥ 0
    rotate_left
    · rw [no (by omega)]; exact rright_9a z f s p w d1 d2 (decide_eq_true h6) (decide_eq_true h7) (decide_eq_true h8) (decide_eq_true h9) (decide_eq_false h10)
    have hz : rightB ⟨z, 0, f, s, p⟩ = decide (p < z) := by
      by_cases hp : p < z
      · rw [decide_eq_true hp]; exact right_iff.2 (by dsimp only; omega)
      · rw [decide_eq_false hp]; exact no (by omega)
    rw [hz]; exact rright_10a z f s p w d1 d2 (decide_eq_true h6) (decide_eq_true h7) (decide_eq_true h8) (decide_eq_true h9) (decide_eq_true h10)
  have d3 : (t == 0) = false := by simpa using h0
  have d3' : (t != 0) = true := by simpa using h0
  by_cases h4 : t < 2400
  · rw [no (by omega)]; exact rright_3 z t f s p w d1 d2 d3 d3' (decide_eq_true h4)
  by_cases h5 : t > 1073741824
  · rw [no (by omega)]; exact rright_4 z t f s p w d1 d2 d3 d3' (decide_eq_false h4) (decide_eq_true h5)
  have d4 := decide_eq_false h4
  have d5 := decide_eq_false h5
  by_cases h6 : f ≥ 0
  rotate_left
  · rw [no (by omega)]; exact rright_5b z t f s p w d1 d2 d3 d3' d4 d5  (decide_eq_false h6)
  by_cases h7 : f ≤ 1099511627776
  rotate_left
  · rw [no (by omega)]; exact rright_6b z t f s p w d1 d2 d3 d3' d4 d5 (decide_eq_true h6) (decide_eq_false h7)
  by_cases h8 : s ≥ -1
  rotate_left
  · rw [no (by omega)]; exact rright_7b z t f s p w d1 d2 d3 d3' d4 d5 (decide_eq_true h6) (decide_eq_true h7) (decide_eq_false h8)
  by_cases h9 : s ≤ 1099511627776
  rotate_left
  · rw [no (by omega)]; exact rright_8b z t f s p w d1 d2 d3 d3' d4 d5 (decide_eq_true h6) (decide_eq_true h7) (decide_eq_true h8) (decide_eq_false h9)
  by_cases h10 : p ≥ 0
  rotate_left
  · rw [no (by omega)]; exact rright_9b z t f s p w d1 d2 d3 d3' d4 d5 (decide_eq_true h6) (decide_eq_true h7) (decide_eq_true h8) (decide_eq_true h9) (decide_eq_false h10)
  have hz : rightB ⟨z, t, f, s, p⟩ = decide (p < z) := by
    by_cases hp : p < z
    · rw [decide_eq_true hp]; exact right_iff.2 (by dsimp only; omega)
    · rw [decide_eq_false hp]; exact no (by omega)
  rw [hz]; exact rright_10b z t f s p w d1 d2 d3 d3' d4 d5 (decide_eq_true h6) (decide_eq_true h7) (decide_eq_true h8) (decide_eq_true h9) (decide_eq_true h10)
theorem rright_b (z t f s p : Int) (r : Bool) (hr : rightB ⟨z, t, f, s, p⟩ = r) (w : World) :
    Calls Try.prog 11 #[.agg #[.int .i64 z, .int .i64 t, .int .i64 f, .int .i64 s, .int .i64 p]] w fun e w' => e = .returned (.bool r) ∧ Below w.heap.size w w' := hr ▸ rright_any z t f s p w
end Go.Proofs.Ytiglhdiclfknhaa
