/- Walks of layer 7: the room that is left; the window at first; windows handed over. -/
import Derived.Test.YtiglhdiclfknhaaCgB
import Derived.Test.YtiglhdiclfknhaaCgC
set_option linter.unusedSimpArgs false
set_option linter.unusedVariables false
namespace Go.Proofs.Ytiglhdiclfknhaa
open Go.RowKit
set_option maxHeartbeats 400000 in
theorem theirs_any (z t f s p : Int) (w : World) :
    Calls Try.prog 10 #[.agg #[.int .i64 z, .int .i64 t, .int .i64 f, .int .i64 s, .int .i64 p]] w fun e w' => e = .returned (.agg #[.int .i64 z, .int .i64 t, .int .i64 f, .int .i64 s, .int .i64 p]) ∧ Below w.heap.size w w' := by
  go_enter Try.func10, Try.ntmps10
  go_wp2
  exact bodyPost_ret (v := .agg #[.int .i64 z, .int .i64 t, .int .i64 f, .int .i64 s, .int .i64 p]) (by simp [results, Try.results10, go_sem]) rfl ⟨rfl, below_two _ _ _⟩
set_option maxHeartbeats 400000 in
theorem ours_any (z t f s p : Int) (w : World) :
    Calls Try.prog 14 #[.agg #[.int .i64 z, .int .i64 t, .int .i64 f, .int .i64 s, .int .i64 p]] w fun e w' => e = .returned (.agg #[.int .i64 z, .int .i64 t, .int .i64 f, .int .i64 s, .int .i64 p]) ∧ Below w.heap.size w w' := by
  go_enter Try.func14, Try.ntmps14
  go_wp2
  exact bodyPost_ret (v := .agg #[.int .i64 z, .int .i64 t, .int .i64 f, .int .i64 s, .int .i64 p]) (by simp [results, Try.results14, go_sem]) rfl ⟨rfl, below_two _ _ _⟩
theorem new_any (w : World) : Calls Try.prog 15 #[] w fun e w' => e = .returned (.agg #[.int .i64 12000, .int .i64 0, .int .i64 0, .int .i64 (-1), .int .i64 0]) ∧ Below w.heap.size w w' := by
  go_enter Try.func15, Try.ntmps15
  go_wp2
  exact bodyPost_ret (v := .agg #[.int .i64 12000, .int .i64 0, .int .i64 0, .int .i64 (-1), .int .i64 0]) (by simp [results, Try.results15, go_sem]) rfl ⟨rfl, below_one _ _⟩
theorem rnew_any (w : World) : Calls Try.prog 16 #[] w fun e w' => e = .returned (.agg #[.int .i64 12000, .int .i64 0, .int .i64 0, .int .i64 (-1), .int .i64 0]) ∧ Below w.heap.size w w' := by
  go_enter Try.func16, Try.ntmps16
  go_wp2
  exact bodyPost_ret (v := .agg #[.int .i64 12000, .int .i64 0, .int .i64 0, .int .i64 (-1), .int .i64 0]) (by simp [results, Try.results16, go_sem]) rfl ⟨rfl, below_one _ _⟩
set_option maxHeartbeats 400000 in
theorem room_no (z t f s p : Int) (w : World) (hr : rightB ⟨z, t, f, s, p⟩ = false) :
    Calls Try.prog 12 #[.agg #[.int .i64 z, .int .i64 t, .int .i64 f, .int .i64 s, .int .i64 p]] w fun e w' => e = .returned (.int .i64 0) ∧ Below w.heap.size w w' := by
  have HB := Lib.hid (below_one w (.cells #[.int .i64 z, .int .i64 t, .int .i64 f, .int .i64 s, .int .i64 p] 25))
  have RT := Lib.hid (fun w => right_b z t f s p _ hr w)
  clear hr
  go_enter Try.func12, Try.ntmps12
  go_wp2_with fail
  refine (RT.out _).mono ?_
  rintro e w2 ⟨rfl, bn⟩
  have BB := Lib.hid (HB.out.trans (bn.mono HB.out.size))
  clear bn RT HB
  go_wp2
  go_ret
  exact ⟨rfl, BB.out⟩
set_option maxHeartbeats 400000 in
theorem room_a (z t f s p : Int) (w : World) (hr : rightB ⟨z, t, f, s, p⟩ = true) (hc : 0 < z - f) :
    Calls Try.prog 12 #[.agg #[.int .i64 z, .int .i64 t, .int .i64 f, .int .i64 s, .int .i64 p]] w fun e w' => e = .returned (.int .i64 (z - f)) ∧ Below w.heap.size w w' := by
  have HB := Lib.hid (below_one w (.cells #[.int .i64 z, .int .i64 t, .int .i64 f, .int .i64 s, .int .i64 p] 25))
  have HH := Lib.hid (held_last z t f s p 25 w)
  have RT := Lib.hid (fun w => right_b z t f s p _ hr w)
  have W0 : IntKind.i64.wrap (z - f) = z - f := by
    obtain ⟨h1, _, h2, _⟩ := right_iff.1 hr
    dsimp only at h1 h2
    exact wraps_i64' _ (by omega) (by omega)
  clear hr
  go_enter Try.func12, Try.ntmps12
  go_wp2_with fail
  refine (RT.out _).mono ?_
  rintro e w2 ⟨rfl, bn⟩
  have BB := Lib.hid (HB.out.trans (bn.mono HB.out.size))
  obtain ⟨c0, c1, c2, c3, c4⟩ := (HH.out.below bn).facts
  clear bn RT HB HH
  go_wp2
  go_ret
  exact ⟨rfl, BB.out⟩
set_option maxHeartbeats 400000 in
theorem room_b (z t f s p : Int) (w : World) (hr : rightB ⟨z, t, f, s, p⟩ = true) (hc : ¬ 0 < z - f) :
    Calls Try.prog 12 #[.agg #[.int .i64 z, .int .i64 t, .int .i64 f, .int .i64 s, .int .i64 p]] w fun e w' => e = .returned (.int .i64 0) ∧ Below w.heap.size w w' := by
  have HB := Lib.hid (below_one w (.cells #[.int .i64 z, .int .i64 t, .int .i64 f, .int .i64 s, .int .i64 p] 25))
  have HH := Lib.hid (held_last z t f s p 25 w)
  have RT := Lib.hid (fun w => right_b z t f s p _ hr w)
  have W0 : IntKind.i64.wrap (z - f) = z - f := by
    obtain ⟨h1, _, h2, _⟩ := right_iff.1 hr
    dsimp only at h1 h2
    exact wraps_i64' _ (by omega) (by omega)
  clear hr
  go_enter Try.func12, Try.ntmps12
  go_wp2_with fail
  refine (RT.out _).mono ?_
  rintro e w2 ⟨rfl, bn⟩
  have BB := Lib.hid (HB.out.trans (bn.mono HB.out.size))
  obtain ⟨c0, c1, c2, c3, c4⟩ := (HH.out.below bn).facts
  clear bn RT HB HH
  go_wp2
  go_ret
  exact ⟨rfl, BB.out⟩
theorem room_any (z t f s p : Int) (w : World) :
    Calls Try.prog 12 #[.agg #[.int .i64 z, .int .i64 t, .int .i64 f, .int .i64 s, .int .i64 p]] w fun e w' => e = .returned (.int .i64 (roomI ⟨z, t, f, s, p⟩)) ∧ Below w.heap.size w w' := by
  unfold roomI
  cases hr : rightB ⟨z, t, f, s, p⟩
  · rw [if_neg (by simp)]; exact room_no z t f s p w hr
  · rw [if_pos rfl]
    dsimp only
    by_cases h : f < z
    · rw [if_pos h]; exact room_a z t f s p w hr (by omega)
    · rw [if_neg h]; exact room_b z t f s p w hr (by omega)
theorem room_b' (z t f s p r : Int) (h : roomI ⟨z, t, f, s, p⟩ = r) (w : World) :
    Calls Try.prog 12 #[.agg #[.int .i64 z, .int .i64 t, .int .i64 f, .int .i64 s, .int .i64 p]] w fun e w' => e = .returned (.int .i64 r) ∧ Below w.heap.size w w' := h ▸ room_any z t f s p w
set_option maxHeartbeats 400000 in
theorem rroom_no (z t f s p : Int) (w : World) (hr : rightB ⟨z, t, f, s, p⟩ = false) :
    Calls Try.prog 13 #[.agg #[.int .i64 z, .int .i64 t, .int .i64 f, .int .i64 s, .int .i64 p]] w fun e w' => e = .returned (.int .i64 0) ∧ Below w.heap.size w w' := by
  have HB := Lib.hid (below_one w (.cells #[.int .i64 z, .int .i64 t, .int .i64 f, .int .i64 s, .int .i64 p] 23))
  have RT := Lib.hid (fun w => rright_b z t f s p _ hr w)
  clear hr
  go_enter Try.func13, Try.ntmps13
  go_wp2_with fail
  refine (RT.out _).mono ?_
  rintro e w2 ⟨rfl, bn⟩
  have BB := Lib.hid (HB.out.trans (bn.mono HB.out.size))
  clear bn RT HB
  go_wp2
  go_ret
  exact ⟨rfl, BB.out⟩
set_option maxHeartbeats 400000 in
theorem rroom_a (z t f s p : Int) (w : World) (hr : rightB ⟨z, t, f, s, p⟩ = true) (hc : ¬ z - f < 0) :
    Calls Try.prog 13 #[.agg #[.int .i64 z, .int .i64 t, .int .i64 f, .int .i64 s, .int .i64 p]] w fun e w' => e = .returned (.int .i64 (z - f)) ∧ Below w.heap.size w w' := by
  have HB := Lib.hid (below_one w (.cells #[.int .i64 z, .int .i64 t, .int .i64 f, .int .i64 s, .int .i64 p] 23))
  have HH := Lib.hid (held_last z t f s p 23 w)
  have RT := Lib.hid (fun w => rright_b z t f s p _ hr w)
  have W0 : IntKind.i64.wrap (z - f) = z - f := by
    obtain ⟨h1, _, h2, _⟩ := right_iff.1 hr
    dsimp only at h1 h2
    exact wraps_i64' _ (by omega) (by omega)
  clear hr
  go_enter Try.func13, Try.ntmps13
  go_wp2_with fail
  refine (RT.out _).mono ?_
  rintro e w2 ⟨rfl, bn⟩
  have BB := Lib.hid (HB.out.trans (bn.mono HB.out.size))
  obtain ⟨c0, c1, c2, c3, c4⟩ := (HH.out.below bn).facts
  clear bn RT HB HH
  go_wp2
  go_ret
  exact ⟨rfl, BB.out⟩
set_option maxHeartbeats 400000 in
theorem rroom_b (z t f s p : Int) (w : World) (hr : rightB ⟨z, t, f, s, p⟩ = true) (hc : z - f < 0) :
    Calls Try.prog 13 #[.agg #[.int .i64 z, .int .i64 t, .int .i64 f, .int .i64 s, .int .i64 p]] w fun e w' => e = .returned (.int .i64 0) ∧ Below w.heap.size w w' := by
  have HB := Lib.hid (below_one w (.cells #[.int .i64 z, .int .i64 t, .int .i64 f, .int .i64 s, .int .i64 p] 23))
  have HH := Lib.hid (held_last z t f s p 23 w)
  have RT := Lib.hid (fun w => rright_b z t f s p _ hr w)
  have W0 : IntKind.i64.wrap (z - f) = z - f := by
    obtain ⟨h1, _, h2, _⟩ := right_iff.1 hr
    dsimp only at h1 h2
    exact wraps_i64' _ (by omega) (by omega)
  clear hr
  go_enter Try.func13, Try.ntmps13
  go_wp2_with fail
  refine (RT.out _).mono ?_
  rintro e w2 ⟨rfl, bn⟩
  have BB := Lib.hid (HB.out.trans (bn.mono HB.out.size))
  obtain ⟨c0, c1, c2, c3, c4⟩ := (HH.out.below bn).facts
  clear bn RT HB HH
  go_wp2
  go_ret
  exact ⟨rfl, BB.out⟩
theorem rroom_any (z t f s p : Int) (w : World) :
    Calls Try.prog 13 #[.agg #[.int .i64 z, .int .i64 t, .int .i64 f, .int .i64 s, .int .i64 p]] w fun e w' => e = .returned (.int .i64 (roomI ⟨z, t, f, s, p⟩)) ∧ Below w.heap.size w w' := by
  unfold roomI
  cases hr : rightB ⟨z, t, f, s, p⟩
  · rw [if_neg (by simp)]; exact rroom_no z t f s p w hr
  · rw [if_pos rfl]
    dsimp only
    by_cases h : f < z
    · rw [if_pos h]; exact rroom_a z t f s p w hr (by omega)
    · rw [if_neg h]
      by_cases h' : z - f < 0
      · exact rroom_b z t f s p w hr h'
      · have e : (0 : Int) = z - f := by omega
        rw [e]; exact rroom_a z t f s p w hr h'
theorem rroom_b' (z t f s p r : Int) (h : roomI ⟨z, t, f, s, p⟩ = r) (w : World) :
    Calls Try.prog 13 #[.agg #[.int .i64 z, .int .i64 t, .int .i64 f, .int .i64 s, .int .i64 p]] w fun e w' => e = .returned (.int .i64 r) ∧ Below w.heap.size w w' := h ▸ rroom_any z t f s p w
end Go.Proofs.Ytiglhdiclfknhaa
