/- The laws Tells, Sends and Hears. -/
import Derived.Test.YtiglhdiclfknhaaCgN
import Derived.Test.YtiglhdiclfknhaaCgL
import Derived.Test.YtiglhdiclfknhaaCgL2
import Derived.Deep.RegionHeld3
set_option linter.unusedSimpArgs false
set_option linter.unusedVariables false
namespace Go.Proofs.Ytiglhdiclfknhaa
open Go.RowKit
/-- two windows of the document compared as they are -/
theorem reql_any (a b c d g a' b' c' d' g' : Int) (w : World) :
    (Op.equalIn 10000 23 (.agg #[.int .i64 a, .int .i64 b, .int .i64 c, .int .i64 d, .int .i64 g]) (.agg #[.int .i64 a', .int .i64 b', .int .i64 c', .int .i64 d', .int .i64 g'])).run Try.prog w = .ok (sameB ⟨a, b, c, d, g⟩ ⟨a', b', c', d', g'⟩) w := by
  have u3 := Try.underlying3
  have a3 := Try.isAgg3
  have z3 := Try.sizeOf3
  have hS : Try.prog.underlying 23 = some (.struct (Try.prog.fieldsOf 23)) := by kernel_rfl
  have hp : Try.prog.stoodInHeld 23 = false := by kernel_rfl
  rw [show (10000 : Nat) = 9999 + 1 from rfl, run_equalIn_agg w 9999 23 _ _ hS hp]
  simp only [Program.fieldsOf, Try.underlying23]
  go_simp
  unfold sameB
  by_cases h1 : a = a' <;> by_cases h2 : b = b' <;> by_cases h3 : c = c' <;> by_cases h4 : d = d' <;> by_cases h5 : g = g' <;> simp [h1, h2, h3, h4, h5]
theorem reql_self (a b c d g : Int) (w : World) :
    (Op.equalIn 10000 23 (.agg #[.int .i64 a, .int .i64 b, .int .i64 c, .int .i64 d, .int .i64 g]) (.agg #[.int .i64 a, .int .i64 b, .int .i64 c, .int .i64 d, .int .i64 g])).run Try.prog w = .ok true w := by
  rw [reql_any, same_self]
theorem rguard_not : Try.prog.eqGuardType Try.prog.depth 23 = false := by kernel_rfl
set_option maxHeartbeats 3200000 in
theorem tells_false (z t f s p : Int) (w : World) (hr : rightB ⟨z, t, f, s, p⟩ = false) :
    Calls Try.prog 3 #[.agg #[.int .i64 z, .int .i64 t, .int .i64 f, .int .i64 s, .int .i64 p]] w (Yes w) := by
  obtain ⟨m, hm⟩ : ∃ m, roomI ⟨z, t, f, s, p⟩ = m := ⟨_, rfl⟩
  have R1 := Lib.hid (fun w => right_b z t f s p _ hr w)
  have R2 := Lib.hid (fun w => rright_b z t f s p _ hr w)
  have M1 := Lib.hid (fun w => room_b' z t f s p m hm w)
  have M2 := Lib.hid (fun w => rroom_b' z t f s p m hm w)
  have hg := rguard_not
  have q23 := fun w => reql_self 12000 0 0 (-1) 0 w
  have HA := Lib.hid (held_last z t f s p 23 w)
  have BB := Lib.hid (below_one w (.cells #[.int .i64 z, .int .i64 t, .int .i64 f, .int .i64 s, .int .i64 p] 23))
  clear hr hm
  go_enter Try.func3, Try.ntmps3
  go_wp2_with fail
  generalize w.alloc (.cells #[.int .i64 z, .int .i64 t, .int .i64 f, .int .i64 s, .int .i64 p] 23) = w5 at HA BB ⊢
  have HA : Hid (Held w.heap.size z t f s p w5.drew) := HA
  have BB := Lib.hid (BB.out.drew)
  obtain ⟨A0, A1, A2, A3, A4⟩ := HA.out.facts
  go_region_held3 (fun w' => w'.cell? ⟨w.heap.size, 0, none⟩ = some (.int .i64 z) ∧ w'.cell? ⟨w.heap.size, 1, none⟩ = some (.int .i64 t) ∧ w'.cell? ⟨w.heap.size, 2, none⟩ = some (.int .i64 f) ∧ w'.cell? ⟨w.heap.size, 3, none⟩ = some (.int .i64 s) ∧ w'.cell? ⟨w.heap.size, 4, none⟩ = some (.int .i64 p))
      (first
        | (with_reducible exact ⟨A0, A1, A2, A3, A4⟩))
      (first
        | (go_at_call 10; refine (theirs_any z t f s p _).mono ?_; rintro e wn ⟨rfl, bn⟩; have HA := Lib.hid (HA.out.below bn); have BB := Lib.hid (BB.out.trans (bn.mono BB.out.size)); clear bn; obtain ⟨A0, A1, A2, A3, A4⟩ := HA.out.facts)
        | (go_at_call 14; refine (ours_any _ _ _ _ _ _).mono ?_; rintro e wn ⟨rfl, bn⟩; have HA := Lib.hid (HA.out.below bn); have BB := Lib.hid (BB.out.trans (bn.mono BB.out.size)); clear bn; obtain ⟨A0, A1, A2, A3, A4⟩ := HA.out.facts)
        | (go_at_call 9; refine (R1.out _).mono ?_; rintro e wn ⟨rfl, bn⟩; have HA := Lib.hid (HA.out.below bn); have BB := Lib.hid (BB.out.trans (bn.mono BB.out.size)); clear bn; obtain ⟨A0, A1, A2, A3, A4⟩ := HA.out.facts)
        | (go_at_call 11; refine (R2.out _).mono ?_; rintro e wn ⟨rfl, bn⟩; have HA := Lib.hid (HA.out.below bn); have BB := Lib.hid (BB.out.trans (bn.mono BB.out.size)); clear bn; obtain ⟨A0, A1, A2, A3, A4⟩ := HA.out.facts)
        | (go_at_call 12; refine (M1.out _).mono ?_; rintro e wn ⟨rfl, bn⟩; have HA := Lib.hid (HA.out.below bn); have BB := Lib.hid (BB.out.trans (bn.mono BB.out.size)); clear bn; obtain ⟨A0, A1, A2, A3, A4⟩ := HA.out.facts)
        | (go_at_call 13; refine (M2.out _).mono ?_; rintro e wn ⟨rfl, bn⟩; have HA := Lib.hid (HA.out.below bn); have BB := Lib.hid (BB.out.trans (bn.mono BB.out.size)); clear bn; obtain ⟨A0, A1, A2, A3, A4⟩ := HA.out.facts)
        | (go_at_call 15; refine (new_any _).mono ?_; rintro e wn ⟨rfl, bn⟩; have HA := Lib.hid (HA.out.below bn); have BB := Lib.hid (BB.out.trans (bn.mono BB.out.size)); clear bn; obtain ⟨A0, A1, A2, A3, A4⟩ := HA.out.facts)
        | (go_at_call 16; refine (rnew_any _).mono ?_; rintro e wn ⟨rfl, bn⟩; have HA := Lib.hid (HA.out.below bn); have BB := Lib.hid (BB.out.trans (bn.mono BB.out.size)); clear bn; obtain ⟨A0, A1, A2, A3, A4⟩ := HA.out.facts)
        | (go_at_call 17; refine (alive_any _).mono ?_; rintro e wn ⟨rfl, bn⟩; have HA := Lib.hid (HA.out.below bn); have BB := Lib.hid (BB.out.trans (bn.mono BB.out.size)); clear bn; obtain ⟨A0, A1, A2, A3, A4⟩ := HA.out.facts))
  all_goals
    go_wp2
    go_ret
    exact ⟨rfl, BB.out⟩
set_option maxHeartbeats 3200000 in
theorem tells_true (z t f s p : Int) (w : World) (hr : rightB ⟨z, t, f, s, p⟩ = true) :
    Calls Try.prog 3 #[.agg #[.int .i64 z, .int .i64 t, .int .i64 f, .int .i64 s, .int .i64 p]] w (Yes w) := by
  obtain ⟨m, hm⟩ : ∃ m, roomI ⟨z, t, f, s, p⟩ = m := ⟨_, rfl⟩
  have R1 := Lib.hid (fun w => right_b z t f s p _ hr w)
  have R2 := Lib.hid (fun w => rright_b z t f s p _ hr w)
  have M1 := Lib.hid (fun w => room_b' z t f s p m hm w)
  have M2 := Lib.hid (fun w => rroom_b' z t f s p m hm w)
  have hg := rguard_not
  have q23 := fun w => reql_self 12000 0 0 (-1) 0 w
  have HA := Lib.hid (held_last z t f s p 23 w)
  have BB := Lib.hid (below_one w (.cells #[.int .i64 z, .int .i64 t, .int .i64 f, .int .i64 s, .int .i64 p] 23))
  clear hr hm
  go_enter Try.func3, Try.ntmps3
  go_wp2_with fail
  generalize w.alloc (.cells #[.int .i64 z, .int .i64 t, .int .i64 f, .int .i64 s, .int .i64 p] 23) = w5 at HA BB ⊢
  have HA : Hid (Held w.heap.size z t f s p w5.drew) := HA
  have BB := Lib.hid (BB.out.drew)
  obtain ⟨A0, A1, A2, A3, A4⟩ := HA.out.facts
  go_region_held3 (fun w' => w'.cell? ⟨w.heap.size, 0, none⟩ = some (.int .i64 z) ∧ w'.cell? ⟨w.heap.size, 1, none⟩ = some (.int .i64 t) ∧ w'.cell? ⟨w.heap.size, 2, none⟩ = some (.int .i64 f) ∧ w'.cell? ⟨w.heap.size, 3, none⟩ = some (.int .i64 s) ∧ w'.cell? ⟨w.heap.size, 4, none⟩ = some (.int .i64 p))
      (first
        | (with_reducible exact ⟨A0, A1, A2, A3, A4⟩))
      (first
        | (go_at_call 10; refine (theirs_any z t f s p _).mono ?_; rintro e wn ⟨rfl, bn⟩; have HA := Lib.hid (HA.out.below bn); have BB := Lib.hid (BB.out.trans (bn.mono BB.out.size)); clear bn; obtain ⟨A0, A1, A2, A3, A4⟩ := HA.out.facts)
        | (go_at_call 14; refine (ours_any _ _ _ _ _ _).mono ?_; rintro e wn ⟨rfl, bn⟩; have HA := Lib.hid (HA.out.below bn); have BB := Lib.hid (BB.out.trans (bn.mono BB.out.size)); clear bn; obtain ⟨A0, A1, A2, A3, A4⟩ := HA.out.facts)
        | (go_at_call 9; refine (R1.out _).mono ?_; rintro e wn ⟨rfl, bn⟩; have HA := Lib.hid (HA.out.below bn); have BB := Lib.hid (BB.out.trans (bn.mono BB.out.size)); clear bn; obtain ⟨A0, A1, A2, A3, A4⟩ := HA.out.facts)
        | (go_at_call 11; refine (R2.out _).mono ?_; rintro e wn ⟨rfl, bn⟩; have HA := Lib.hid (HA.out.below bn); have BB := Lib.hid (BB.out.trans (bn.mono BB.out.size)); clear bn; obtain ⟨A0, A1, A2, A3, A4⟩ := HA.out.facts)
        | (go_at_call 12; refine (M1.out _).mono ?_; rintro e wn ⟨rfl, bn⟩; have HA := Lib.hid (HA.out.below bn); have BB := Lib.hid (BB.out.trans (bn.mono BB.out.size)); clear bn; obtain ⟨A0, A1, A2, A3, A4⟩ := HA.out.facts)
        | (go_at_call 13; refine (M2.out _).mono ?_; rintro e wn ⟨rfl, bn⟩; have HA := Lib.hid (HA.out.below bn); have BB := Lib.hid (BB.out.trans (bn.mono BB.out.size)); clear bn; obtain ⟨A0, A1, A2, A3, A4⟩ := HA.out.facts)
        | (go_at_call 15; refine (new_any _).mono ?_; rintro e wn ⟨rfl, bn⟩; have HA := Lib.hid (HA.out.below bn); have BB := Lib.hid (BB.out.trans (bn.mono BB.out.size)); clear bn; obtain ⟨A0, A1, A2, A3, A4⟩ := HA.out.facts)
        | (go_at_call 16; refine (rnew_any _).mono ?_; rintro e wn ⟨rfl, bn⟩; have HA := Lib.hid (HA.out.below bn); have BB := Lib.hid (BB.out.trans (bn.mono BB.out.size)); clear bn; obtain ⟨A0, A1, A2, A3, A4⟩ := HA.out.facts)
        | (go_at_call 17; refine (alive_any _).mono ?_; rintro e wn ⟨rfl, bn⟩; have HA := Lib.hid (HA.out.below bn); have BB := Lib.hid (BB.out.trans (bn.mono BB.out.size)); clear bn; obtain ⟨A0, A1, A2, A3, A4⟩ := HA.out.facts))
  all_goals
    go_wp2
    go_ret
    exact ⟨rfl, BB.out⟩
/-- P7.1 -/
theorem congTells_walk (z t f s p : Int) (w : World) : Calls Try.prog 3 #[.agg #[.int .i64 z, .int .i64 t, .int .i64 f, .int .i64 s, .int .i64 p]] w (Yes w) := by
  cases hr : rightB ⟨z, t, f, s, p⟩
  · exact tells_false z t f s p w hr
  · exact tells_true z t f s p w hr
end Go.Proofs.Ytiglhdiclfknhaa
