/- Walks of layer 7: whether a datagram counts; the window grown, and fallen. -/
import Derived.Test.YtiglhdiclfknhaaCgA
set_option linter.unusedSimpArgs false
set_option linter.unusedVariables false
namespace Go.Proofs.Ytiglhdiclfknhaa
open Go.RowKit
theorem counts_b (z t f s p a : Int) (r : Bool) (hr : decide (a ≥ s) = r) (w : World) :
    Calls Try.prog 33 #[.agg #[.int .i64 z, .int .i64 t, .int .i64 f, .int .i64 s, .int .i64 p], .int .i64 a] w fun e w' => e = .returned (.bool r) ∧ Below w.heap.size w w' := by
  have HB := Lib.hid (below_one w (.cells #[.int .i64 z, .int .i64 t, .int .i64 f, .int .i64 s, .int .i64 p] 25))
  subst hr
  go_enter Try.func33, Try.ntmps33
  go_wp2
  go_ret
  exact ⟨rfl, HB.out⟩
set_option maxHeartbeats 800000 in
theorem grown_1a (z f s p n : Int) (w : World) (hz : 2400 ≤ z) (hz' : z ≤ 1073741824) (hp : 0 ≤ p) (hp' : p < z) (hn : 1 ≤ n) (hn' : n ≤ 1200) (hc : 1073741824 < z + n) :
    Calls Try.prog 34 #[.agg #[.int .i64 z, .int .i64 0, .int .i64 f, .int .i64 s, .int .i64 p], .int .i64 n] w fun e w' => e = .returned (.agg #[.int .i64 1073741824, .int .i64 0, .int .i64 f, .int .i64 s, .int .i64 0]) ∧ Below w.heap.size w w' := by
  have W0 : IntKind.i64.wrap (z + n) = z + n := wraps_i64' _ (by omega) (by omega)
  go_enter Try.func34, Try.ntmps34
  go_wp2
  exact bodyPost_ret (v := .agg #[.int .i64 1073741824, .int .i64 0, .int .i64 f, .int .i64 s, .int .i64 0]) (by simp [results, Try.results34, go_sem]) rfl ⟨rfl, below_two _ _ _⟩
set_option maxHeartbeats 800000 in
theorem grown_2a (z f s p n : Int) (w : World) (hz : 2400 ≤ z) (hz' : z ≤ 1073741824) (hp : 0 ≤ p) (hp' : p < z) (hn : 1 ≤ n) (hn' : n ≤ 1200) (hc : ¬ 1073741824 < z + n) :
    Calls Try.prog 34 #[.agg #[.int .i64 z, .int .i64 0, .int .i64 f, .int .i64 s, .int .i64 p], .int .i64 n] w fun e w' => e = .returned (.agg #[.int .i64 (z + n), .int .i64 0, .int .i64 f, .int .i64 s, .int .i64 0]) ∧ Below w.heap.size w w' := by
  have W0 : IntKind.i64.wrap (z + n) = z + n := wraps_i64' _ (by omega) (by omega)
  go_enter Try.func34, Try.ntmps34
  go_wp2
  exact bodyPost_ret (v := .agg #[.int .i64 (z + n), .int .i64 0, .int .i64 f, .int .i64 s, .int .i64 0]) (by simp [results, Try.results34, go_sem]) rfl ⟨rfl, below_two _ _ _⟩
set_option maxHeartbeats 800000 in
theorem grown_1b (z t f s p n : Int) (w : World) (hz : 2400 ≤ z) (hz' : z ≤ 1073741824) (hp : 0 ≤ p) (hp' : p < z) (hn : 1 ≤ n) (hn' : n ≤ 1200) (h0 : (t == 0) = false) (h1 : decide (z < t) = true) (hc : 1073741824 < z + n) :
    Calls Try.prog 34 #[.agg #[.int .i64 z, .int .i64 t, .int .i64 f, .int .i64 s, .int .i64 p], .int .i64 n] w fun e w' => e = .returned (.agg #[.int .i64 1073741824, .int .i64 t, .int .i64 f, .int .i64 s, .int .i64 0]) ∧ Below w.heap.size w w' := by
  have W0 : IntKind.i64.wrap (z + n) = z + n := wraps_i64' _ (by omega) (by omega)
  go_enter Try.func34, Try.ntmps34
  go_wp2
  exact bodyPost_ret (v := .agg #[.int .i64 1073741824, .int .i64 t, .int .i64 f, .int .i64 s, .int .i64 0]) (by simp [results, Try.results34, go_sem]) rfl ⟨rfl, below_two _ _ _⟩
set_option maxHeartbeats 800000 in
theorem grown_2b (z t f s p n : Int) (w : World) (hz : 2400 ≤ z) (hz' : z ≤ 1073741824) (hp : 0 ≤ p) (hp' : p < z) (hn : 1 ≤ n) (hn' : n ≤ 1200) (h0 : (t == 0) = false) (h1 : decide (z < t) = true) (hc : ¬ 1073741824 < z + n) :
    Calls Try.prog 34 #[.agg #[.int .i64 z, .int .i64 t, .int .i64 f, .int .i64 s, .int .i64 p], .int .i64 n] w fun e w' => e = .returned (.agg #[.int .i64 (z + n), .int .i64 t, .int .i64 f, .int .i64 s, .int .i64 0]) ∧ Below w.heap.size w w' := by
  have W0 : IntKind.i64.wrap (z + n) = z + n := wraps_i64' _ (by omega) (by omega)
  go_enter Try.func34, Try.ntmps34
  go_wp2
  exact bodyPost_ret (v := .agg #[.int .i64 (z + n), .int .i64 t, .int .i64 f, .int .i64 s, .int .i64 0]) (by simp [results, Try.results34, go_sem]) rfl ⟨rfl, below_two _ _ _⟩
set_option maxHeartbeats 800000 in
theorem grown_3 (z t f s p n : Int) (w : World) (hz : 2400 ≤ z) (hz' : z ≤ 1073741824) (hp : 0 ≤ p) (hp' : p < z) (hn : 1 ≤ n) (hn' : n ≤ 1200) (h0 : (t == 0) = false) (h1 : decide (z < t) = false) (h2 : decide (p + n ≥ z) = true) (hc : 1073741824 < z + 1200) :
    Calls Try.prog 34 #[.agg #[.int .i64 z, .int .i64 t, .int .i64 f, .int .i64 s, .int .i64 p], .int .i64 n] w fun e w' => e = .returned (.agg #[.int .i64 1073741824, .int .i64 t, .int .i64 f, .int .i64 s, .int .i64 (p + n - z)]) ∧ Below w.heap.size w w' := by
  have W0 : IntKind.i64.wrap (p + n) = p + n := wraps_i64' _ (by omega) (by omega)
  have W1 : IntKind.i64.wrap (p + n - z) = p + n - z := wraps_i64' _ (by omega) (by omega)
  have W2 : IntKind.i64.wrap (z + 1200) = z + 1200 := wraps_i64' _ (by omega) (by omega)
  go_enter Try.func34, Try.ntmps34
  go_wp2
  exact bodyPost_ret (v := .agg #[.int .i64 1073741824, .int .i64 t, .int .i64 f, .int .i64 s, .int .i64 (p + n - z)]) (by simp [results, Try.results34, go_sem]) rfl ⟨rfl, below_two _ _ _⟩
set_option maxHeartbeats 800000 in
theorem grown_4 (z t f s p n : Int) (w : World) (hz : 2400 ≤ z) (hz' : z ≤ 1073741824) (hp : 0 ≤ p) (hp' : p < z) (hn : 1 ≤ n) (hn' : n ≤ 1200) (h0 : (t == 0) = false) (h1 : decide (z < t) = false) (h2 : decide (p + n ≥ z) = true) (hc : ¬ 1073741824 < z + 1200) :
    Calls Try.prog 34 #[.agg #[.int .i64 z, .int .i64 t, .int .i64 f, .int .i64 s, .int .i64 p], .int .i64 n] w fun e w' => e = .returned (.agg #[.int .i64 (z + 1200), .int .i64 t, .int .i64 f, .int .i64 s, .int .i64 (p + n - z)]) ∧ Below w.heap.size w w' := by
  have W0 : IntKind.i64.wrap (p + n) = p + n := wraps_i64' _ (by omega) (by omega)
  have W1 : IntKind.i64.wrap (p + n - z) = p + n - z := wraps_i64' _ (by omega) (by omega)
  have W2 : IntKind.i64.wrap (z + 1200) = z + 1200 := wraps_i64' _ (by omega) (by omega)
  go_enter Try.func34, Try.ntmps34
  go_wp2
  exact bodyPost_ret (v := .agg #[.int .i64 (z + 1200), .int .i64 t, .int .i64 f, .int .i64 s, .int .i64 (p + n - z)]) (by simp [results, Try.results34, go_sem]) rfl ⟨rfl, below_two _ _ _⟩
set_option maxHeartbeats 800000 in
theorem grown_5 (z t f s p n : Int) (w : World) (hz : 2400 ≤ z) (hz' : z ≤ 1073741824) (hp : 0 ≤ p) (hp' : p < z) (hn : 1 ≤ n) (hn' : n ≤ 1200) (h0 : (t == 0) = false) (h1 : decide (z < t) = false) (h2 : decide (p + n ≥ z) = false) :
    Calls Try.prog 34 #[.agg #[.int .i64 z, .int .i64 t, .int .i64 f, .int .i64 s, .int .i64 p], .int .i64 n] w fun e w' => e = .returned (.agg #[.int .i64 z, .int .i64 t, .int .i64 f, .int .i64 s, .int .i64 (p + n)]) ∧ Below w.heap.size w w' := by
  have W0 : IntKind.i64.wrap (p + n) = p + n := wraps_i64' _ (by omega) (by omega)
  go_enter Try.func34, Try.ntmps34
  go_wp2
  exact bodyPost_ret (v := .agg #[.int .i64 z, .int .i64 t, .int .i64 f, .int .i64 s, .int .i64 (p + n)]) (by simp [results, Try.results34, go_sem]) rfl ⟨rfl, below_two _ _ _⟩
theorem grown_any (z t f s p n : Int) (w : World) (hr : rightB ⟨z, t, f, s, p⟩ = true) (hg : gramB n = true) :
    Calls Try.prog 34 #[.agg #[.int .i64 z, .int .i64 t, .int .i64 f, .int .i64 s, .int .i64 p], .int .i64 n] w fun e w' => e = .returned (.agg #[.int .i64 (grownQ ⟨z, t, f, s, p⟩ n).z, .int .i64 (grownQ ⟨z, t, f, s, p⟩ n).t, .int .i64 (grownQ ⟨z, t, f, s, p⟩ n).f, .int .i64 (grownQ ⟨z, t, f, s, p⟩ n).s, .int .i64 (grownQ ⟨z, t, f, s, p⟩ n).p]) ∧ Below w.heap.size w w' := by
  obtain ⟨⟨hz, hz'⟩, _, _, _, ⟨hp, hp'⟩⟩ := right_iff.1 hr
  obtain ⟨hn, hn'⟩ := in_iff.1 hg
  clear hr hg
  dsimp only at hz hz' hp hp'
  unfold grownQ capI
  dsimp only
  by_cases h0 : t = 0
  · subst h0
    rw [if_pos (.inl rfl)]
    by_cases hc : 1073741824 < z + n
    · rw [if_pos hc]; exact grown_1a z f s p n w hz hz' hp hp' hn hn' hc
    · rw [if_neg hc]; exact grown_2a z f s p n w hz hz' hp hp' hn hn' hc
  have d0 : (t == 0) = false := by simpa using h0
  by_cases h1 : z < t
  · rw [if_pos (.inr h1)]
    by_cases hc : 1073741824 < z + n
    · rw [if_pos hc]; exact grown_1b z t f s p n w hz hz' hp hp' hn hn' d0 (decide_eq_true h1) hc
    · rw [if_neg hc]; exact grown_2b z t f s p n w hz hz' hp hp' hn hn' d0 (decide_eq_true h1) hc
  rw [if_neg (by omega)]
  by_cases h2 : z ≤ p + n
  · rw [if_pos h2]
    by_cases hc : 1073741824 < z + 1200
    · rw [if_pos hc]; exact grown_3 z t f s p n w hz hz' hp hp' hn hn' d0 (decide_eq_false h1) (decide_eq_true h2) hc
    · rw [if_neg hc]; exact grown_4 z t f s p n w hz hz' hp hp' hn hn' d0 (decide_eq_false h1) (decide_eq_true h2) hc
  · rw [if_neg h2]; exact grown_5 z t f s p n w hz hz' hp hp' hn hn' d0 (decide_eq_false h1) (decide_eq_false h2)
set_option maxHeartbeats 800000 in
theorem fallen_00 (z t f s p n : Int) (w : World) (hz : 2400 ≤ z) (hz' : z ≤ 1073741824) (hn : 0 ≤ n) (hn' : n ≤ 1099511627776) (ha : z.tdiv 2 < 2400) (hb : 1099511627776 < n + 1) :
    Calls Try.prog 37 #[.agg #[.int .i64 z, .int .i64 t, .int .i64 f, .int .i64 s, .int .i64 p], .int .i64 n] w fun e w' => e = .returned (.agg #[.int .i64 2400, .int .i64 2400, .int .i64 f, .int .i64 1099511627776, .int .i64 0]) ∧ Below w.heap.size w w' := by
  have W0 : IntKind.i64.wrap (z.tdiv 2) = z.tdiv 2 := wraps_i64' _ (by rw [Int.tdiv_eq_ediv_of_nonneg (by omega)]; omega) (by rw [Int.tdiv_eq_ediv_of_nonneg (by omega)]; omega)
  have W1 : IntKind.i64.wrap (n + 1) = n + 1 := wraps_i64' _ (by omega) (by omega)
  go_enter Try.func37, Try.ntmps37
  go_wp2
  exact bodyPost_ret (v := .agg #[.int .i64 2400, .int .i64 2400, .int .i64 f, .int .i64 1099511627776, .int .i64 0]) (by simp [results, Try.results37, go_sem]) rfl ⟨rfl, below_two _ _ _⟩
set_option maxHeartbeats 800000 in
theorem fallen_01 (z t f s p n : Int) (w : World) (hz : 2400 ≤ z) (hz' : z ≤ 1073741824) (hn : 0 ≤ n) (hn' : n ≤ 1099511627776) (ha : z.tdiv 2 < 2400) (hb : ¬ 1099511627776 < n + 1) :
    Calls Try.prog 37 #[.agg #[.int .i64 z, .int .i64 t, .int .i64 f, .int .i64 s, .int .i64 p], .int .i64 n] w fun e w' => e = .returned (.agg #[.int .i64 2400, .int .i64 2400, .int .i64 f, .int .i64 (n + 1), .int .i64 0]) ∧ Below w.heap.size w w' := by
  have W0 : IntKind.i64.wrap (z.tdiv 2) = z.tdiv 2 := wraps_i64' _ (by rw [Int.tdiv_eq_ediv_of_nonneg (by omega)]; omega) (by rw [Int.tdiv_eq_ediv_of_nonneg (by omega)]; omega)
  have W1 : IntKind.i64.wrap (n + 1) = n + 1 := wraps_i64' _ (by omega) (by omega)
  go_enter Try.func37, Try.ntmps37
  go_wp2
  exact bodyPost_ret (v := .agg #[.int .i64 2400, .int .i64 2400, .int .i64 f, .int .i64 (n + 1), .int .i64 0]) (by simp [results, Try.results37, go_sem]) rfl ⟨rfl, below_two _ _ _⟩
set_option maxHeartbeats 800000 in
theorem fallen_10 (z t f s p n : Int) (w : World) (hz : 2400 ≤ z) (hz' : z ≤ 1073741824) (hn : 0 ≤ n) (hn' : n ≤ 1099511627776) (ha : ¬ z.tdiv 2 < 2400) (hb : 1099511627776 < n + 1) :
    Calls Try.prog 37 #[.agg #[.int .i64 z, .int .i64 t, .int .i64 f, .int .i64 s, .int .i64 p], .int .i64 n] w fun e w' => e = .returned (.agg #[.int .i64 (z.tdiv 2), .int .i64 (z.tdiv 2), .int .i64 f, .int .i64 1099511627776, .int .i64 0]) ∧ Below w.heap.size w w' := by
  have W0 : IntKind.i64.wrap (z.tdiv 2) = z.tdiv 2 := wraps_i64' _ (by rw [Int.tdiv_eq_ediv_of_nonneg (by omega)]; omega) (by rw [Int.tdiv_eq_ediv_of_nonneg (by omega)]; omega)
  have W1 : IntKind.i64.wrap (n + 1) = n + 1 := wraps_i64' _ (by omega) (by omega)
  go_enter Try.func37, Try.ntmps37
  go_wp2
  exact bodyPost_ret (v := .agg #[.int .i64 (z.tdiv 2), .int .i64 (z.tdiv 2), .int .i64 f, .int .i64 1099511627776, .int .i64 0]) (by simp [results, Try.results37, go_sem]) rfl ⟨rfl, below_two _ _ _⟩
set_option maxHeartbeats 800000 in
theorem fallen_11 (z t f s p n : Int) (w : World) (hz : 2400 ≤ z) (hz' : z ≤ 1073741824) (hn : 0 ≤ n) (hn' : n ≤ 1099511627776) (ha : ¬ z.tdiv 2 < 2400) (hb : ¬ 1099511627776 < n + 1) :
    Calls Try.prog 37 #[.agg #[.int .i64 z, .int .i64 t, .int .i64 f, .int .i64 s, .int .i64 p], .int .i64 n] w fun e w' => e = .returned (.agg #[.int .i64 (z.tdiv 2), .int .i64 (z.tdiv 2), .int .i64 f, .int .i64 (n + 1), .int .i64 0]) ∧ Below w.heap.size w w' := by
  have W0 : IntKind.i64.wrap (z.tdiv 2) = z.tdiv 2 := wraps_i64' _ (by rw [Int.tdiv_eq_ediv_of_nonneg (by omega)]; omega) (by rw [Int.tdiv_eq_ediv_of_nonneg (by omega)]; omega)
  have W1 : IntKind.i64.wrap (n + 1) = n + 1 := wraps_i64' _ (by omega) (by omega)
  go_enter Try.func37, Try.ntmps37
  go_wp2
  exact bodyPost_ret (v := .agg #[.int .i64 (z.tdiv 2), .int .i64 (z.tdiv 2), .int .i64 f, .int .i64 (n + 1), .int .i64 0]) (by simp [results, Try.results37, go_sem]) rfl ⟨rfl, below_two _ _ _⟩
theorem fallen_any (z t f s p n : Int) (w : World) (hr : rightB ⟨z, t, f, s, p⟩ = true) (hg : timeB n = true) :
    Calls Try.prog 37 #[.agg #[.int .i64 z, .int .i64 t, .int .i64 f, .int .i64 s, .int .i64 p], .int .i64 n] w fun e w' => e = .returned (.agg #[.int .i64 (fallenQ ⟨z, t, f, s, p⟩ n).z, .int .i64 (fallenQ ⟨z, t, f, s, p⟩ n).t, .int .i64 (fallenQ ⟨z, t, f, s, p⟩ n).f, .int .i64 (fallenQ ⟨z, t, f, s, p⟩ n).s, .int .i64 (fallenQ ⟨z, t, f, s, p⟩ n).p]) ∧ Below w.heap.size w w' := by
  obtain ⟨⟨hz, hz'⟩, _⟩ := right_iff.1 hr
  obtain ⟨hn, hn'⟩ := in_iff.1 hg
  clear hr hg
  dsimp only at hz hz'
  unfold fallenQ halfI nextI
  dsimp only
  by_cases ha : z.tdiv 2 < 2400
  · rw [if_pos ha]
    by_cases hb : 1099511627776 < n + 1
    · rw [if_pos hb]; exact fallen_00 z t f s p n w hz hz' hn hn' ha hb
    · rw [if_neg hb]; exact fallen_01 z t f s p n w hz hz' hn hn' ha hb
  · rw [if_neg ha]
    by_cases hb : 1099511627776 < n + 1
    · rw [if_pos hb]; exact fallen_10 z t f s p n w hz hz' hn hn' ha hb
    · rw [if_neg hb]; exact fallen_11 z t f s p n w hz hz' hn hn' ha hb
end Go.Proofs.Ytiglhdiclfknhaa
