/- Walks of layer 11: the reference's Put and Size. -/
import Derived.Test.YtnjgnbdloeadgaaPiF
set_option maxRecDepth 100000
namespace Go.Proofs.Ytnjgnbdloeadgaa
open Go.RowKit

theorem IsW.both {k F : Int} (h : IsW k) (hF : F = fullI k) : (k = 1 ∧ F = 1) ∨ (k = 2 ∧ F = 3) ∨ (k = 3 ∧ F = 7) ∨ (k = 4 ∧ F = 15) ∨ (k = 5 ∧ F = 31) ∨ (k = 6 ∧ F = 63) ∨ (k = 7 ∧ F = 127) ∨ (k = 8 ∧ F = 255) := by
  rcases h.cases with rfl | rfl | rfl | rfl | rfl | rfl | rfl | rfl <;> (subst hF; decide)
def NoIs (w : World) (e : Ending) (w' : World) : Prop := e = .returned (.tuple #[.slice none 0 0, .int .i64 1]) ∧ w = w'

theorem rput_1 (v : Value) (f k n : Int) (w : World) (hk : ¬ IsW k) : Calls Try.prog 9 #[v, .int .i64 f, .int .i64 k, .int .i64 n] w (NoIs w) := by
  have dk : decide (IsW k) = false := decide_eq_false hk
  go_enter Try.func9, Try.ntmps9
  go_wp2_with (go_at_call 18; refine (rwidth_any k _).mono ?_; rintro e w' ⟨rfl, rfl⟩; rw [dk])
  go_ret2
  exact ⟨rfl, rfl⟩
theorem rput_2 (v : Value) (f k n : Int) (w : World) (hk : IsW k) (h : f < 0) : Calls Try.prog 9 #[v, .int .i64 f, .int .i64 k, .int .i64 n] w (NoIs w) := by
  have dk : decide (IsW k) = true := decide_eq_true hk
  have d1 : decide (f < 0) = true := decide_eq_true h
  clear h
  go_enter Try.func9, Try.ntmps9
  go_wp2_with (go_at_call 18; refine (rwidth_any k _).mono ?_; rintro e w' ⟨rfl, rfl⟩; rw [dk])
  go_ret2
  exact ⟨rfl, rfl⟩
theorem rput_3 (v : Value) (f k n : Int) (w : World) (hk : IsW k) (h : 255 < f) : Calls Try.prog 9 #[v, .int .i64 f, .int .i64 k, .int .i64 n] w (NoIs w) := by
  have dk : decide (IsW k) = true := decide_eq_true hk
  have d1 : decide (f < 0) = false := decide_eq_false (by omega)
  have d2 : decide (f > 255) = true := decide_eq_true h
  clear h
  go_enter Try.func9, Try.ntmps9
  go_wp2_with (go_at_call 18; refine (rwidth_any k _).mono ?_; rintro e w' ⟨rfl, rfl⟩; rw [dk])
  go_ret2
  exact ⟨rfl, rfl⟩
set_option maxHeartbeats 2000000 in
theorem rput_4 (v : Value) (f k n : Int) (w : World) (hk : IsW k) (h0 : 0 ≤ f) (h1 : f ≤ 255) (h : f % (fullI k + 1) ≠ 0) : Calls Try.prog 9 #[v, .int .i64 f, .int .i64 k, .int .i64 n] w (NoIs w) := by
  have dk : decide (IsW k) = true := decide_eq_true hk
  have d1 : decide (f < 0) = false := decide_eq_false (by omega)
  have d2 : decide (f > 255) = false := decide_eq_false (by omega)
  have dm : (f % (fullI k + 1) != 0) = true := by simp [h]
  have dt : f.tmod (fullI k + 1) = f % (fullI k + 1) := Int.tmod_eq_emod_of_nonneg h0
  clear h h1
  rcases hk.cases with rfl | rfl | rfl | rfl | rfl | rfl | rfl | rfl
  all_goals
    simp only [fullI] at dm dt
    simp only [Int.reduceAdd, Int.reduceEq, ↓reduceIte] at dm dt
    go_enter Try.func9, Try.ntmps9
    go_wp2_with (go_at_call 18; refine (rwidth_any _ _).mono ?_; rintro e w' ⟨rfl, rfl⟩; rw [dk])
    go_ret2
    exact ⟨rfl, rfl⟩

set_option maxHeartbeats 2000000 in
theorem rput_5 (v : Value) (f k n : Int) (w : World) (hk : IsW k) (hf : OkF f k) (h : n < 0) : Calls Try.prog 9 #[v, .int .i64 f, .int .i64 k, .int .i64 n] w (NoIs w) := by
  obtain ⟨h0, h1, h2⟩ := hf
  have dk : decide (IsW k) = true := decide_eq_true hk
  have d1 : decide (f < 0) = false := decide_eq_false (by omega)
  have d2 : decide (f > 255) = false := decide_eq_false (by omega)
  have dm : f % (fullI k + 1) = 0 := h2
  have dt : f.tmod (fullI k + 1) = 0 := by rw [Int.tmod_eq_emod_of_nonneg h0]; exact h2
  have d3 : decide (n < 0) = true := decide_eq_true h
  clear h h1 h2
  rcases hk.cases with rfl | rfl | rfl | rfl | rfl | rfl | rfl | rfl
  all_goals
    simp only [fullI] at dm dt
    simp only [Int.reduceAdd, Int.reduceEq, ↓reduceIte] at dm dt
    go_enter Try.func9, Try.ntmps9
    go_wp2_with (go_at_call 18; refine (rwidth_any _ _).mono ?_; rintro e w' ⟨rfl, rfl⟩; rw [dk])
    go_ret2
    exact ⟨rfl, rfl⟩

set_option maxHeartbeats 2000000 in
theorem rput_6 (v : Value) (f k n : Int) (w : World) (hk : IsW k) (hf : OkF f k) (h : 4611686018427387903 < n) : Calls Try.prog 9 #[v, .int .i64 f, .int .i64 k, .int .i64 n] w (NoIs w) := by
  obtain ⟨h0, h1, h2⟩ := hf
  have dk : decide (IsW k) = true := decide_eq_true hk
  have d1 : decide (f < 0) = false := decide_eq_false (by omega)
  have d2 : decide (f > 255) = false := decide_eq_false (by omega)
  have dm : f % (fullI k + 1) = 0 := h2
  have dt : f.tmod (fullI k + 1) = 0 := by rw [Int.tmod_eq_emod_of_nonneg h0]; exact h2
  have d3 : decide (n < 0) = false := decide_eq_false (by omega)
  have d4 : decide (n > 4611686018427387903) = true := decide_eq_true h
  clear h h1 h2
  rcases hk.cases with rfl | rfl | rfl | rfl | rfl | rfl | rfl | rfl
  all_goals
    simp only [fullI] at dm dt
    simp only [Int.reduceAdd, Int.reduceEq, ↓reduceIte] at dm dt
    go_enter Try.func9, Try.ntmps9
    go_wp2_with (go_at_call 18; refine (rwidth_any _ _).mono ?_; rintro e w' ⟨rfl, rfl⟩; rw [dk])
    go_ret2
    exact ⟨rfl, rfl⟩

end Go.Proofs.Ytnjgnbdloeadgaa
