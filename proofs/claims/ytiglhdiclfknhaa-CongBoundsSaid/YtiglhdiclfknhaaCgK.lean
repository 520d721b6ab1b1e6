/- Walks of layer 7: the document's Sent, Gone, Acked, Lost. -/
import Derived.Test.YtiglhdiclfknhaaCgE
set_option linter.unusedSimpArgs false
set_option linter.unusedVariables false
namespace Go.Proofs.Ytiglhdiclfknhaa
open Go.RowKit
set_option maxHeartbeats 800000 in
theorem rsent_1 (z t f s p n : Int) (w : World) (hr : rightB ⟨z, t, f, s, p⟩ = false) :
    Calls Try.prog 19 #[.agg #[.int .i64 z, .int .i64 t, .int .i64 f, .int .i64 s, .int .i64 p], .int .i64 n] w fun e w' => e = .returned (.tuple #[.agg #[.int .i64 0, .int .i64 0, .int .i64 0, .int .i64 0, .int .i64 0], .int .i64 1]) ∧ Below w.heap.size w w' := by
  have B2 := Lib.hid (below_two w (.cells #[.int .i64 z, .int .i64 t, .int .i64 f, .int .i64 s, .int .i64 p] 23) (.cells #[.int .i64 0, .int .i64 0, .int .i64 0, .int .i64 0, .int .i64 0] 23))
  have HP := Lib.hid (held_first z t f s p 23 w (.cells #[.int .i64 0, .int .i64 0, .int .i64 0, .int .i64 0, .int .i64 0] 23))
  have HR := Lib.hid (held_second 0 0 0 0 0 23 w (.cells #[.int .i64 z, .int .i64 t, .int .i64 f, .int .i64 s, .int .i64 p] 23))
  have hne1 : w.heap.size ≠ w.heap.size + 1 := by omega
  have hne2 : w.heap.size + 1 ≠ w.heap.size := by omega
  have RT := Lib.hid (fun w => rright_b z t f s p _ hr w)
  clear hr
  go_enter Try.func19, Try.ntmps19
  go_wp2_with fail
  refine (RT.out _).mono ?_
  rintro e w2 ⟨rfl, bn⟩
  have HP := Lib.hid (HP.out.below bn)
  have HR := Lib.hid (HR.out.below bn)
  have BB := Lib.hid (B2.out.trans (bn.mono B2.out.size))
  clear bn RT B2
  obtain ⟨p0, p1, p2, p3, p4⟩ := HP.out.facts
  obtain ⟨g0, g1, g2, g3, g4⟩ := HP.out.free
  obtain ⟨r0, r1, r2, r3, r4⟩ := HR.out.facts
  obtain ⟨f0, f1, f2, f3, f4⟩ := HR.out.free
  go_wp2
  exact bodyPost_ret (v := .tuple #[.agg #[.int .i64 0, .int .i64 0, .int .i64 0, .int .i64 0, .int .i64 0], .int .i64 1]) (by simp [results, Try.results19, go_sem, r0, r1, r2, r3, r4]) rfl ⟨rfl, (by (repeat (with_reducible refine Below.setCell ?_ (by first | exact Nat.le_refl _ | exact Nat.le_succ _) _)); exact BB.out)⟩
set_option maxHeartbeats 800000 in
theorem rsent_2 (z t f s p n : Int) (w : World) (hr : rightB ⟨z, t, f, s, p⟩ = true) (hg : gramB n = false) :
    Calls Try.prog 19 #[.agg #[.int .i64 z, .int .i64 t, .int .i64 f, .int .i64 s, .int .i64 p], .int .i64 n] w fun e w' => e = .returned (.tuple #[.agg #[.int .i64 0, .int .i64 0, .int .i64 0, .int .i64 0, .int .i64 0], .int .i64 1]) ∧ Below w.heap.size w w' := by
  have B2 := Lib.hid (below_two w (.cells #[.int .i64 z, .int .i64 t, .int .i64 f, .int .i64 s, .int .i64 p] 23) (.cells #[.int .i64 0, .int .i64 0, .int .i64 0, .int .i64 0, .int .i64 0] 23))
  have HP := Lib.hid (held_first z t f s p 23 w (.cells #[.int .i64 0, .int .i64 0, .int .i64 0, .int .i64 0, .int .i64 0] 23))
  have HR := Lib.hid (held_second 0 0 0 0 0 23 w (.cells #[.int .i64 z, .int .i64 t, .int .i64 f, .int .i64 s, .int .i64 p] 23))
  have hne1 : w.heap.size ≠ w.heap.size + 1 := by omega
  have hne2 : w.heap.size + 1 ≠ w.heap.size := by omega
  have RT := Lib.hid (fun w => rright_b z t f s p _ hr w)
  have GT := Lib.hid (fun w => bytes_b n _ hg w)
  clear hg
  clear hr
  go_enter Try.func19, Try.ntmps19
  go_wp2_with fail
  refine (RT.out _).mono ?_
  rintro e w2 ⟨rfl, bn⟩
  have HP := Lib.hid (HP.out.below bn)
  have HR := Lib.hid (HR.out.below bn)
  have BB := Lib.hid (B2.out.trans (bn.mono B2.out.size))
  clear bn RT B2
  obtain ⟨p0, p1, p2, p3, p4⟩ := HP.out.facts
  obtain ⟨g0, g1, g2, g3, g4⟩ := HP.out.free
  obtain ⟨r0, r1, r2, r3, r4⟩ := HR.out.facts
  obtain ⟨f0, f1, f2, f3, f4⟩ := HR.out.free
  go_wp2_with fail
  refine (GT.out _).mono ?_
  rintro e w3 ⟨rfl, rfl⟩
  go_wp2
  exact bodyPost_ret (v := .tuple #[.agg #[.int .i64 0, .int .i64 0, .int .i64 0, .int .i64 0, .int .i64 0], .int .i64 1]) (by simp [results, Try.results19, go_sem, r0, r1, r2, r3, r4]) rfl ⟨rfl, (by (repeat (with_reducible refine Below.setCell ?_ (by first | exact Nat.le_refl _ | exact Nat.le_succ _) _)); exact BB.out)⟩
set_option maxHeartbeats 800000 in
theorem rsent_3 (z t f s p n m : Int) (w : World) (hr : rightB ⟨z, t, f, s, p⟩ = true) (hg : gramB n = true) (hm : roomI ⟨z, t, f, s, p⟩ = m) (hl : decide (m < n) = true) :
    Calls Try.prog 19 #[.agg #[.int .i64 z, .int .i64 t, .int .i64 f, .int .i64 s, .int .i64 p], .int .i64 n] w fun e w' => e = .returned (.tuple #[.agg #[.int .i64 0, .int .i64 0, .int .i64 0, .int .i64 0, .int .i64 0], .int .i64 7]) ∧ Below w.heap.size w w' := by
  have B2 := Lib.hid (below_two w (.cells #[.int .i64 z, .int .i64 t, .int .i64 f, .int .i64 s, .int .i64 p] 23) (.cells #[.int .i64 0, .int .i64 0, .int .i64 0, .int .i64 0, .int .i64 0] 23))
  have HP := Lib.hid (held_first z t f s p 23 w (.cells #[.int .i64 0, .int .i64 0, .int .i64 0, .int .i64 0, .int .i64 0] 23))
  have HR := Lib.hid (held_second 0 0 0 0 0 23 w (.cells #[.int .i64 z, .int .i64 t, .int .i64 f, .int .i64 s, .int .i64 p] 23))
  have hne1 : w.heap.size ≠ w.heap.size + 1 := by omega
  have hne2 : w.heap.size + 1 ≠ w.heap.size := by omega
  have RT := Lib.hid (fun w => rright_b z t f s p _ hr w)
  have GT := Lib.hid (fun w => bytes_b n _ hg w)
  clear hg
  have MT := Lib.hid (fun w => rroom_b' z t f s p m hm w)
  clear hm
  clear hr
  go_enter Try.func19, Try.ntmps19
  go_wp2_with fail
  refine (RT.out _).mono ?_
  rintro e w2 ⟨rfl, bn⟩
  have HP := Lib.hid (HP.out.below bn)
  have HR := Lib.hid (HR.out.below bn)
  have BB := Lib.hid (B2.out.trans (bn.mono B2.out.size))
  clear bn RT B2
  obtain ⟨p0, p1, p2, p3, p4⟩ := HP.out.facts
  obtain ⟨g0, g1, g2, g3, g4⟩ := HP.out.free
  obtain ⟨r0, r1, r2, r3, r4⟩ := HR.out.facts
  obtain ⟨f0, f1, f2, f3, f4⟩ := HR.out.free
  go_wp2_with fail
  refine (GT.out _).mono ?_
  rintro e w3 ⟨rfl, rfl⟩
  go_wp2_with fail
  refine (MT.out _).mono ?_
  rintro e w2 ⟨rfl, bn⟩
  have HP := Lib.hid (HP.out.below bn)
  have HR := Lib.hid (HR.out.below bn)
  have BB := Lib.hid (BB.out.trans (bn.mono BB.out.size))
  clear bn MT
  obtain ⟨p0, p1, p2, p3, p4⟩ := HP.out.facts
  obtain ⟨g0, g1, g2, g3, g4⟩ := HP.out.free
  obtain ⟨r0, r1, r2, r3, r4⟩ := HR.out.facts
  obtain ⟨f0, f1, f2, f3, f4⟩ := HR.out.free
  go_wp2
  exact bodyPost_ret (v := .tuple #[.agg #[.int .i64 0, .int .i64 0, .int .i64 0, .int .i64 0, .int .i64 0], .int .i64 7]) (by simp [results, Try.results19, go_sem, r0, r1, r2, r3, r4]) rfl ⟨rfl, (by (repeat (with_reducible refine Below.setCell ?_ (by first | exact Nat.le_refl _ | exact Nat.le_succ _) _)); exact BB.out)⟩
set_option maxHeartbeats 800000 in
theorem rsent_4 (z t f s p n m : Int) (w : World) (hr : rightB ⟨z, t, f, s, p⟩ = true) (hg : gramB n = true) (hm : roomI ⟨z, t, f, s, p⟩ = m) (hl : decide (m < n) = false) :
    Calls Try.prog 19 #[.agg #[.int .i64 z, .int .i64 t, .int .i64 f, .int .i64 s, .int .i64 p], .int .i64 n] w fun e w' => e = .returned (.tuple #[.agg #[.int .i64 z, .int .i64 t, .int .i64 (f + n), .int .i64 s, .int .i64 p], .int .i64 0]) ∧ Below w.heap.size w w' := by
  have B2 := Lib.hid (below_two w (.cells #[.int .i64 z, .int .i64 t, .int .i64 f, .int .i64 s, .int .i64 p] 23) (.cells #[.int .i64 0, .int .i64 0, .int .i64 0, .int .i64 0, .int .i64 0] 23))
  have HP := Lib.hid (held_first z t f s p 23 w (.cells #[.int .i64 0, .int .i64 0, .int .i64 0, .int .i64 0, .int .i64 0] 23))
  have HR := Lib.hid (held_second 0 0 0 0 0 23 w (.cells #[.int .i64 z, .int .i64 t, .int .i64 f, .int .i64 s, .int .i64 p] 23))
  have hne1 : w.heap.size ≠ w.heap.size + 1 := by omega
  have hne2 : w.heap.size + 1 ≠ w.heap.size := by omega
  have W0 : IntKind.i64.wrap (f + n) = f + n := by
    obtain ⟨_, _, h2, _⟩ := right_iff.1 hr
    obtain ⟨h3, h4⟩ := in_iff.1 hg
    dsimp only at h2
    exact wraps_i64' _ (by omega) (by omega)
  have RT := Lib.hid (fun w => rright_b z t f s p _ hr w)
  have GT := Lib.hid (fun w => bytes_b n _ hg w)
  clear hg
  have MT := Lib.hid (fun w => rroom_b' z t f s p m hm w)
  clear hm
  clear hr
  go_enter Try.func19, Try.ntmps19
  go_wp2_with fail
  refine (RT.out _).mono ?_
  rintro e w2 ⟨rfl, bn⟩
  have HP := Lib.hid (HP.out.below bn)
  have HR := Lib.hid (HR.out.below bn)
  have BB := Lib.hid (B2.out.trans (bn.mono B2.out.size))
  clear bn RT B2
  obtain ⟨p0, p1, p2, p3, p4⟩ := HP.out.facts
  obtain ⟨g0, g1, g2, g3, g4⟩ := HP.out.free
  obtain ⟨r0, r1, r2, r3, r4⟩ := HR.out.facts
  obtain ⟨f0, f1, f2, f3, f4⟩ := HR.out.free
  go_wp2_with fail
  refine (GT.out _).mono ?_
  rintro e w3 ⟨rfl, rfl⟩
  go_wp2_with fail
  refine (MT.out _).mono ?_
  rintro e w2 ⟨rfl, bn⟩
  have HP := Lib.hid (HP.out.below bn)
  have HR := Lib.hid (HR.out.below bn)
  have BB := Lib.hid (BB.out.trans (bn.mono BB.out.size))
  clear bn MT
  obtain ⟨p0, p1, p2, p3, p4⟩ := HP.out.facts
  obtain ⟨g0, g1, g2, g3, g4⟩ := HP.out.free
  obtain ⟨r0, r1, r2, r3, r4⟩ := HR.out.facts
  obtain ⟨f0, f1, f2, f3, f4⟩ := HR.out.free
  go_wp2
  exact bodyPost_ret (v := .tuple #[.agg #[.int .i64 z, .int .i64 t, .int .i64 (f + n), .int .i64 s, .int .i64 p], .int .i64 0]) (by simp [results, Try.results19, go_sem, r0, r1, r2, r3, r4]) rfl ⟨rfl, (by (repeat (with_reducible refine Below.setCell ?_ (by first | exact Nat.le_refl _ | exact Nat.le_succ _) _)); exact BB.out)⟩
theorem rsent_eq {z t f s p n z' t' f' s' p' e' : Int} (he : sentE ⟨z, t, f, s, p⟩ n = (⟨z', t', f', s', p'⟩, e')) (w : World) :
    Calls Try.prog 19 #[.agg #[.int .i64 z, .int .i64 t, .int .i64 f, .int .i64 s, .int .i64 p], .int .i64 n] w fun e w' => e = .returned (.tuple #[.agg #[.int .i64 z', .int .i64 t', .int .i64 f', .int .i64 s', .int .i64 p'], .int .i64 e']) ∧ Below w.heap.size w w' := by
  cases hr : rightB ⟨z, t, f, s, p⟩
  · rw [sentE, if_neg (by simp [hr])] at he
    simp only [nul, Prod.mk.injEq, St.mk.injEq] at he
    obtain ⟨⟨rfl, rfl, rfl, rfl, rfl⟩, rfl⟩ := he
    exact rsent_1 z t f s p n w hr
  cases hg : gramB n
  · rw [sentE, if_neg (by simp [hg])] at he
    simp only [nul, Prod.mk.injEq, St.mk.injEq] at he
    obtain ⟨⟨rfl, rfl, rfl, rfl, rfl⟩, rfl⟩ := he
    exact rsent_2 z t f s p n w hr hg
  rw [sentE, if_pos (by rw [hr, hg]; rfl)] at he
  by_cases hl : roomI ⟨z, t, f, s, p⟩ < n
  · rw [if_pos hl] at he
    simp only [nul, Prod.mk.injEq, St.mk.injEq] at he
    obtain ⟨⟨rfl, rfl, rfl, rfl, rfl⟩, rfl⟩ := he
    exact rsent_3 z t f s p n _ w hr hg rfl (decide_eq_true hl)
  · rw [if_neg hl] at he
    simp only [moreQ, lessQ, Prod.mk.injEq, St.mk.injEq] at he
    obtain ⟨⟨rfl, rfl, rfl, rfl, rfl⟩, rfl⟩ := he
    exact rsent_4 z t f s p n _ w hr hg rfl (decide_eq_false hl)
set_option maxHeartbeats 800000 in
theorem rgone_1 (z t f s p n : Int) (w : World) (hr : rightB ⟨z, t, f, s, p⟩ = false) :
    Calls Try.prog 21 #[.agg #[.int .i64 z, .int .i64 t, .int .i64 f, .int .i64 s, .int .i64 p], .int .i64 n] w fun e w' => e = .returned (.tuple #[.agg #[.int .i64 0, .int .i64 0, .int .i64 0, .int .i64 0, .int .i64 0], .int .i64 1]) ∧ Below w.heap.size w w' := by
  have B2 := Lib.hid (below_two w (.cells #[.int .i64 z, .int .i64 t, .int .i64 f, .int .i64 s, .int .i64 p] 23) (.cells #[.int .i64 0, .int .i64 0, .int .i64 0, .int .i64 0, .int .i64 0] 23))
  have HP := Lib.hid (held_first z t f s p 23 w (.cells #[.int .i64 0, .int .i64 0, .int .i64 0, .int .i64 0, .int .i64 0] 23))
  have HR := Lib.hid (held_second 0 0 0 0 0 23 w (.cells #[.int .i64 z, .int .i64 t, .int .i64 f, .int .i64 s, .int .i64 p] 23))
  have hne1 : w.heap.size ≠ w.heap.size + 1 := by omega
  have hne2 : w.heap.size + 1 ≠ w.heap.size := by omega
  have RT := Lib.hid (fun w => rright_b z t f s p _ hr w)
  clear hr
  go_enter Try.func21, Try.ntmps21
  go_wp2_with fail
  refine (RT.out _).mono ?_
  rintro e w2 ⟨rfl, bn⟩
  have HP := Lib.hid (HP.out.below bn)
  have HR := Lib.hid (HR.out.below bn)
  have BB := Lib.hid (B2.out.trans (bn.mono B2.out.size))
  clear bn RT B2
  obtain ⟨p0, p1, p2, p3, p4⟩ := HP.out.facts
  obtain ⟨g0, g1, g2, g3, g4⟩ := HP.out.free
  obtain ⟨r0, r1, r2, r3, r4⟩ := HR.out.facts
  obtain ⟨f0, f1, f2, f3, f4⟩ := HR.out.free
  go_wp2
  exact bodyPost_ret (v := .tuple #[.agg #[.int .i64 0, .int .i64 0, .int .i64 0, .int .i64 0, .int .i64 0], .int .i64 1]) (by simp [results, Try.results21, go_sem, r0, r1, r2, r3, r4]) rfl ⟨rfl, (by (repeat (with_reducible refine Below.setCell ?_ (by first | exact Nat.le_refl _ | exact Nat.le_succ _) _)); exact BB.out)⟩
set_option maxHeartbeats 800000 in
theorem rgone_2 (z t f s p n : Int) (w : World) (hr : rightB ⟨z, t, f, s, p⟩ = true) (hg : gramB n = false) :
    Calls Try.prog 21 #[.agg #[.int .i64 z, .int .i64 t, .int .i64 f, .int .i64 s, .int .i64 p], .int .i64 n] w fun e w' => e = .returned (.tuple #[.agg #[.int .i64 0, .int .i64 0, .int .i64 0, .int .i64 0, .int .i64 0], .int .i64 1]) ∧ Below w.heap.size w w' := by
  have B2 := Lib.hid (below_two w (.cells #[.int .i64 z, .int .i64 t, .int .i64 f, .int .i64 s, .int .i64 p] 23) (.cells #[.int .i64 0, .int .i64 0, .int .i64 0, .int .i64 0, .int .i64 0] 23))
  have HP := Lib.hid (held_first z t f s p 23 w (.cells #[.int .i64 0, .int .i64 0, .int .i64 0, .int .i64 0, .int .i64 0] 23))
  have HR := Lib.hid (held_second 0 0 0 0 0 23 w (.cells #[.int .i64 z, .int .i64 t, .int .i64 f, .int .i64 s, .int .i64 p] 23))
  have hne1 : w.heap.size ≠ w.heap.size + 1 := by omega
  have hne2 : w.heap.size + 1 ≠ w.heap.size := by omega
  have RT := Lib.hid (fun w => rright_b z t f s p _ hr w)
  have GT := Lib.hid (fun w => bytes_b n _ hg w)
  clear hg
  clear hr
  go_enter Try.func21, Try.ntmps21
  go_wp2_with fail
  refine (RT.out _).mono ?_
  rintro e w2 ⟨rfl, bn⟩
  have HP := Lib.hid (HP.out.below bn)
  have HR := Lib.hid (HR.out.below bn)
  have BB := Lib.hid (B2.out.trans (bn.mono B2.out.size))
  clear bn RT B2
  obtain ⟨p0, p1, p2, p3, p4⟩ := HP.out.facts
  obtain ⟨g0, g1, g2, g3, g4⟩ := HP.out.free
  obtain ⟨r0, r1, r2, r3, r4⟩ := HR.out.facts
  obtain ⟨f0, f1, f2, f3, f4⟩ := HR.out.free
  go_wp2_with fail
  refine (GT.out _).mono ?_
  rintro e w3 ⟨rfl, rfl⟩
  go_wp2
  exact bodyPost_ret (v := .tuple #[.agg #[.int .i64 0, .int .i64 0, .int .i64 0, .int .i64 0, .int .i64 0], .int .i64 1]) (by simp [results, Try.results21, go_sem, r0, r1, r2, r3, r4]) rfl ⟨rfl, (by (repeat (with_reducible refine Below.setCell ?_ (by first | exact Nat.le_refl _ | exact Nat.le_succ _) _)); exact BB.out)⟩
set_option maxHeartbeats 800000 in
theorem rgone_3 (z t f s p n : Int) (w : World) (hr : rightB ⟨z, t, f, s, p⟩ = true) (hg : gramB n = true) (hl : decide (n > f) = true) :
    Calls Try.prog 21 #[.agg #[.int .i64 z, .int .i64 t, .int .i64 f, .int .i64 s, .int .i64 p], .int .i64 n] w fun e w' => e = .returned (.tuple #[.agg #[.int .i64 0, .int .i64 0, .int .i64 0, .int .i64 0, .int .i64 0], .int .i64 7]) ∧ Below w.heap.size w w' := by
  have B2 := Lib.hid (below_two w (.cells #[.int .i64 z, .int .i64 t, .int .i64 f, .int .i64 s, .int .i64 p] 23) (.cells #[.int .i64 0, .int .i64 0, .int .i64 0, .int .i64 0, .int .i64 0] 23))
  have HP := Lib.hid (held_first z t f s p 23 w (.cells #[.int .i64 0, .int .i64 0, .int .i64 0, .int .i64 0, .int .i64 0] 23))
  have HR := Lib.hid (held_second 0 0 0 0 0 23 w (.cells #[.int .i64 z, .int .i64 t, .int .i64 f, .int .i64 s, .int .i64 p] 23))
  have hne1 : w.heap.size ≠ w.heap.size + 1 := by omega
  have hne2 : w.heap.size + 1 ≠ w.heap.size := by omega
  have RT := Lib.hid (fun w => rright_b z t f s p _ hr w)
  have GT := Lib.hid (fun w => bytes_b n _ hg w)
  clear hg
  clear hr
  go_enter Try.func21, Try.ntmps21
  go_wp2_with fail
  refine (RT.out _).mono ?_
  rintro e w2 ⟨rfl, bn⟩
  have HP := Lib.hid (HP.out.below bn)
  have HR := Lib.hid (HR.out.below bn)
  have BB := Lib.hid (B2.out.trans (bn.mono B2.out.size))
  clear bn RT B2
  obtain ⟨p0, p1, p2, p3, p4⟩ := HP.out.facts
  obtain ⟨g0, g1, g2, g3, g4⟩ := HP.out.free
  obtain ⟨r0, r1, r2, r3, r4⟩ := HR.out.facts
  obtain ⟨f0, f1, f2, f3, f4⟩ := HR.out.free
  go_wp2_with fail
  refine (GT.out _).mono ?_
  rintro e w3 ⟨rfl, rfl⟩
  go_wp2
  exact bodyPost_ret (v := .tuple #[.agg #[.int .i64 0, .int .i64 0, .int .i64 0, .int .i64 0, .int .i64 0], .int .i64 7]) (by simp [results, Try.results21, go_sem, r0, r1, r2, r3, r4]) rfl ⟨rfl, (by (repeat (with_reducible refine Below.setCell ?_ (by first | exact Nat.le_refl _ | exact Nat.le_succ _) _)); exact BB.out)⟩
set_option maxHeartbeats 800000 in
theorem rgone_4 (z t f s p n : Int) (w : World) (hr : rightB ⟨z, t, f, s, p⟩ = true) (hg : gramB n = true) (hl : decide (n > f) = false) :
    Calls Try.prog 21 #[.agg #[.int .i64 z, .int .i64 t, .int .i64 f, .int .i64 s, .int .i64 p], .int .i64 n] w fun e w' => e = .returned (.tuple #[.agg #[.int .i64 z, .int .i64 t, .int .i64 (f - n), .int .i64 s, .int .i64 p], .int .i64 0]) ∧ Below w.heap.size w w' := by
  have B2 := Lib.hid (below_two w (.cells #[.int .i64 z, .int .i64 t, .int .i64 f, .int .i64 s, .int .i64 p] 23) (.cells #[.int .i64 0, .int .i64 0, .int .i64 0, .int .i64 0, .int .i64 0] 23))
  have HP := Lib.hid (held_first z t f s p 23 w (.cells #[.int .i64 0, .int .i64 0, .int .i64 0, .int .i64 0, .int .i64 0] 23))
  have HR := Lib.hid (held_second 0 0 0 0 0 23 w (.cells #[.int .i64 z, .int .i64 t, .int .i64 f, .int .i64 s, .int .i64 p] 23))
  have hne1 : w.heap.size ≠ w.heap.size + 1 := by omega
  have hne2 : w.heap.size + 1 ≠ w.heap.size := by omega
  have W0 : IntKind.i64.wrap (f - n) = f - n := by
    obtain ⟨_, _, h2, _⟩ := right_iff.1 hr
    obtain ⟨h3, h4⟩ := in_iff.1 hg
    dsimp only at h2
    exact wraps_i64' _ (by omega) (by omega)
  have RT := Lib.hid (fun w => rright_b z t f s p _ hr w)
  have GT := Lib.hid (fun w => bytes_b n _ hg w)
  clear hg
  clear hr
  go_enter Try.func21, Try.ntmps21
  go_wp2_with fail
  refine (RT.out _).mono ?_
  rintro e w2 ⟨rfl, bn⟩
  have HP := Lib.hid (HP.out.below bn)
  have HR := Lib.hid (HR.out.below bn)
  have BB := Lib.hid (B2.out.trans (bn.mono B2.out.size))
  clear bn RT B2
  obtain ⟨p0, p1, p2, p3, p4⟩ := HP.out.facts
  obtain ⟨g0, g1, g2, g3, g4⟩ := HP.out.free
  obtain ⟨r0, r1, r2, r3, r4⟩ := HR.out.facts
  obtain ⟨f0, f1, f2, f3, f4⟩ := HR.out.free
  go_wp2_with fail
  refine (GT.out _).mono ?_
  rintro e w3 ⟨rfl, rfl⟩
  go_wp2
  exact bodyPost_ret (v := .tuple #[.agg #[.int .i64 z, .int .i64 t, .int .i64 (f - n), .int .i64 s, .int .i64 p], .int .i64 0]) (by simp [results, Try.results21, go_sem, r0, r1, r2, r3, r4]) rfl ⟨rfl, (by (repeat (with_reducible refine Below.setCell ?_ (by first | exact Nat.le_refl _ | exact Nat.le_succ _) _)); exact BB.out)⟩
theorem rgone_eq {z t f s p n z' t' f' s' p' e' : Int} (he : goneE ⟨z, t, f, s, p⟩ n = (⟨z', t', f', s', p'⟩, e')) (w : World) :
    Calls Try.prog 21 #[.agg #[.int .i64 z, .int .i64 t, .int .i64 f, .int .i64 s, .int .i64 p], .int .i64 n] w fun e w' => e = .returned (.tuple #[.agg #[.int .i64 z', .int .i64 t', .int .i64 f', .int .i64 s', .int .i64 p'], .int .i64 e']) ∧ Below w.heap.size w w' := by
  cases hr : rightB ⟨z, t, f, s, p⟩
  · rw [goneE, if_neg (by simp [hr])] at he
    simp only [nul, Prod.mk.injEq, St.mk.injEq] at he
    obtain ⟨⟨rfl, rfl, rfl, rfl, rfl⟩, rfl⟩ := he
    exact rgone_1 z t f s p n w hr
  cases hg : gramB n
  · rw [goneE, if_neg (by simp [hg])] at he
    simp only [nul, Prod.mk.injEq, St.mk.injEq] at he
    obtain ⟨⟨rfl, rfl, rfl, rfl, rfl⟩, rfl⟩ := he
    exact rgone_2 z t f s p n w hr hg
  rw [goneE, if_pos (by rw [hr, hg]; rfl)] at he
  dsimp only at he
  by_cases hl : f < n
  · rw [if_pos hl] at he
    simp only [nul, Prod.mk.injEq, St.mk.injEq] at he
    obtain ⟨⟨rfl, rfl, rfl, rfl, rfl⟩, rfl⟩ := he
    exact rgone_3 z t f s p n w hr hg (decide_eq_true hl)
  · rw [if_neg hl] at he
    simp only [moreQ, lessQ, Prod.mk.injEq, St.mk.injEq] at he
    obtain ⟨⟨rfl, rfl, rfl, rfl, rfl⟩, rfl⟩ := he
    exact rgone_4 z t f s p n w hr hg (decide_eq_false hl)
end Go.Proofs.Ytiglhdiclfknhaa
