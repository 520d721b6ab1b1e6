/- Walks of layer 7: the document's Lost. -/
import Derived.Test.YtiglhdiclfknhaaCgK
set_option linter.unusedSimpArgs false
set_option linter.unusedVariables false
namespace Go.Proofs.Ytiglhdiclfknhaa
open Go.RowKit
set_option maxHeartbeats 1600000 in
theorem rlost_a (z t f s p n a now : Int) (w : World) (ha : timeB a = false) :
    Calls Try.prog 25 #[.agg #[.int .i64 z, .int .i64 t, .int .i64 f, .int .i64 s, .int .i64 p], .int .i64 n, .int .i64 a, .int .i64 now] w fun e w' => e = .returned (.tuple #[.agg #[.int .i64 0, .int .i64 0, .int .i64 0, .int .i64 0, .int .i64 0], .int .i64 1]) ∧ Below w.heap.size w w' := by
  have B2 := Lib.hid (below_two w (.cells #[.int .i64 z, .int .i64 t, .int .i64 f, .int .i64 s, .int .i64 p] 23) (.cells #[.int .i64 0, .int .i64 0, .int .i64 0, .int .i64 0, .int .i64 0] 23))
  have HP := Lib.hid (held_first z t f s p 23 w (.cells #[.int .i64 0, .int .i64 0, .int .i64 0, .int .i64 0, .int .i64 0] 23))
  have HR := Lib.hid (held_second 0 0 0 0 0 23 w (.cells #[.int .i64 z, .int .i64 t, .int .i64 f, .int .i64 s, .int .i64 p] 23))
  have hne1 : w.heap.size ≠ w.heap.size + 1 := by omega
  have hne2 : w.heap.size + 1 ≠ w.heap.size := by omega
  have Ta := Lib.hid (fun w => time_b a _ ha w)
  clear ha
  go_enter Try.func25, Try.ntmps25
  go_wp2_with fail
  refine (Ta.out _).mono ?_
  rintro e w3 ⟨rfl, rfl⟩
  go_wp2
  exact bodyPost_ret (v := .tuple #[.agg #[.int .i64 0, .int .i64 0, .int .i64 0, .int .i64 0, .int .i64 0], .int .i64 1]) (by simp [results, Try.results25, go_sem]) rfl ⟨rfl, B2.out⟩
set_option maxHeartbeats 1600000 in
theorem rlost_a2 (z t f s p n a now : Int) (w : World) (ha : timeB a = true) (hnow : timeB now = false) :
    Calls Try.prog 25 #[.agg #[.int .i64 z, .int .i64 t, .int .i64 f, .int .i64 s, .int .i64 p], .int .i64 n, .int .i64 a, .int .i64 now] w fun e w' => e = .returned (.tuple #[.agg #[.int .i64 0, .int .i64 0, .int .i64 0, .int .i64 0, .int .i64 0], .int .i64 1]) ∧ Below w.heap.size w w' := by
  have B2 := Lib.hid (below_two w (.cells #[.int .i64 z, .int .i64 t, .int .i64 f, .int .i64 s, .int .i64 p] 23) (.cells #[.int .i64 0, .int .i64 0, .int .i64 0, .int .i64 0, .int .i64 0] 23))
  have HP := Lib.hid (held_first z t f s p 23 w (.cells #[.int .i64 0, .int .i64 0, .int .i64 0, .int .i64 0, .int .i64 0] 23))
  have HR := Lib.hid (held_second 0 0 0 0 0 23 w (.cells #[.int .i64 z, .int .i64 t, .int .i64 f, .int .i64 s, .int .i64 p] 23))
  have hne1 : w.heap.size ≠ w.heap.size + 1 := by omega
  have hne2 : w.heap.size + 1 ≠ w.heap.size := by omega
  have Ta := Lib.hid (fun w => time_b a _ ha w)
  clear ha
  have Tnow := Lib.hid (fun w => time_b now _ hnow w)
  clear hnow
  go_enter Try.func25, Try.ntmps25
  go_wp2_with fail
  refine (Ta.out _).mono ?_
  rintro e w3 ⟨rfl, rfl⟩
  go_wp2_with fail
  refine (Tnow.out _).mono ?_
  rintro e w3 ⟨rfl, rfl⟩
  go_wp2
  exact bodyPost_ret (v := .tuple #[.agg #[.int .i64 0, .int .i64 0, .int .i64 0, .int .i64 0, .int .i64 0], .int .i64 1]) (by simp [results, Try.results25, go_sem]) rfl ⟨rfl, B2.out⟩
set_option maxHeartbeats 1600000 in
theorem rlost_b (z t f s p n a now z' t' f' s' p' e' : Int) (w : World) (ha : timeB a = true) (hnow : timeB now = true) (hgone : goneE ⟨z, t, f, s, p⟩ n = (⟨z', t', f', s', p'⟩, e')) (hne : (e' != 0) = true) (hne' : (e' == 0) = false) :
    Calls Try.prog 25 #[.agg #[.int .i64 z, .int .i64 t, .int .i64 f, .int .i64 s, .int .i64 p], .int .i64 n, .int .i64 a, .int .i64 now] w fun e w' => e = .returned (.tuple #[.agg #[.int .i64 z', .int .i64 t', .int .i64 f', .int .i64 s', .int .i64 p'], .int .i64 e']) ∧ Below w.heap.size w w' := by
  have B2 := Lib.hid (below_two w (.cells #[.int .i64 z, .int .i64 t, .int .i64 f, .int .i64 s, .int .i64 p] 23) (.cells #[.int .i64 0, .int .i64 0, .int .i64 0, .int .i64 0, .int .i64 0] 23))
  have HP := Lib.hid (held_first z t f s p 23 w (.cells #[.int .i64 0, .int .i64 0, .int .i64 0, .int .i64 0, .int .i64 0] 23))
  have HR := Lib.hid (held_second 0 0 0 0 0 23 w (.cells #[.int .i64 z, .int .i64 t, .int .i64 f, .int .i64 s, .int .i64 p] 23))
  have hne1 : w.heap.size ≠ w.heap.size + 1 := by omega
  have hne2 : w.heap.size + 1 ≠ w.heap.size := by omega
  have Ta := Lib.hid (fun w => time_b a _ ha w)
  clear ha
  have Tnow := Lib.hid (fun w => time_b now _ hnow w)
  clear hnow
  have GT := Lib.hid (fun w => rgone_eq hgone w)
  clear hgone
  go_enter Try.func25, Try.ntmps25
  go_wp2_with fail
  refine (Ta.out _).mono ?_
  rintro e w3 ⟨rfl, rfl⟩
  go_wp2_with fail
  refine (Tnow.out _).mono ?_
  rintro e w3 ⟨rfl, rfl⟩
  go_wp2_with fail
  refine (GT.out _).mono ?_
  rintro e w2 ⟨rfl, bn⟩
  have HP := Lib.hid (HP.out.below bn)
  have HR := Lib.hid (HR.out.below bn)
  have BB := Lib.hid (B2.out.trans (bn.mono B2.out.size))
  clear bn GT B2
  obtain ⟨p0, p1, p2, p3, p4⟩ := HP.out.facts
  obtain ⟨g0, g1, g2, g3, g4⟩ := HP.out.free
  obtain ⟨r0, r1, r2, r3, r4⟩ := HR.out.facts
  obtain ⟨f0, f1, f2, f3, f4⟩ := HR.out.free
  have HP := Lib.hid (HP.out.set z' t' f' s' p')
  have HR := Lib.hid (HR.out.others w.heap.size hne1 (.int .i64 z') (.int .i64 t') (.int .i64 f') (.int .i64 s') (.int .i64 p'))
  have BB := Lib.hid (below_five BB.out w.heap.size (Nat.le_refl _) (.int .i64 z') (.int .i64 t') (.int .i64 f') (.int .i64 s') (.int .i64 p'))
  go_upto_region 4 with fail
  generalize (((((w2.setCell ⟨w.heap.size, 0, none⟩ (.int .i64 z')).setCell ⟨w.heap.size, 1, none⟩ (.int .i64 t')).setCell ⟨w.heap.size, 2, none⟩ (.int .i64 f')).setCell ⟨w.heap.size, 3, none⟩ (.int .i64 s')).setCell ⟨w.heap.size, 4, none⟩ (.int .i64 p')) = w5 at HP HR BB ⊢
  clear p0 p1 p2 p3 p4 g0 g1 g2 g3 g4 r0 r1 r2 r3 r4 f0 f1 f2 f3 f4
  obtain ⟨p0, p1, p2, p3, p4⟩ := HP.out.facts
  obtain ⟨g0, g1, g2, g3, g4⟩ := HP.out.free
  obtain ⟨r0, r1, r2, r3, r4⟩ := HR.out.facts
  obtain ⟨f0, f1, f2, f3, f4⟩ := HR.out.free
  go_wp2
  exact bodyPost_ret (v := .tuple #[.agg #[.int .i64 z', .int .i64 t', .int .i64 f', .int .i64 s', .int .i64 p'], .int .i64 e']) (by simp [results, Try.results25, go_sem, r0, r1, r2, r3, r4]) rfl ⟨rfl, (by (repeat (with_reducible refine Below.setCell ?_ (by first | exact Nat.le_refl _ | exact Nat.le_succ _) _)); exact BB.out)⟩
set_option maxHeartbeats 1600000 in
theorem rlost_c (z t f s p n a now : Int) (w : World) (ha : timeB a = true) (hnow : timeB now = true) (hgone : goneE ⟨z, t, f, s, p⟩ n = (⟨z, t, f - n, s, p⟩, 0)) (hs : decide (s ≥ 0) = true) (hs' : decide (a < s) = true) :
    Calls Try.prog 25 #[.agg #[.int .i64 z, .int .i64 t, .int .i64 f, .int .i64 s, .int .i64 p], .int .i64 n, .int .i64 a, .int .i64 now] w fun e w' => e = .returned (.tuple #[.agg #[.int .i64 z, .int .i64 t, .int .i64 (f - n), .int .i64 s, .int .i64 p], .int .i64 0]) ∧ Below w.heap.size w w' := by
  have B2 := Lib.hid (below_two w (.cells #[.int .i64 z, .int .i64 t, .int .i64 f, .int .i64 s, .int .i64 p] 23) (.cells #[.int .i64 0, .int .i64 0, .int .i64 0, .int .i64 0, .int .i64 0] 23))
  have HP := Lib.hid (held_first z t f s p 23 w (.cells #[.int .i64 0, .int .i64 0, .int .i64 0, .int .i64 0, .int .i64 0] 23))
  have HR := Lib.hid (held_second 0 0 0 0 0 23 w (.cells #[.int .i64 z, .int .i64 t, .int .i64 f, .int .i64 s, .int .i64 p] 23))
  have hne1 : w.heap.size ≠ w.heap.size + 1 := by omega
  have hne2 : w.heap.size + 1 ≠ w.heap.size := by omega
  have Ta := Lib.hid (fun w => time_b a _ ha w)
  clear ha
  have Tnow := Lib.hid (fun w => time_b now _ hnow w)
  clear hnow
  have GT := Lib.hid (fun w => rgone_eq hgone w)
  clear hgone
  go_enter Try.func25, Try.ntmps25
  go_wp2_with fail
  refine (Ta.out _).mono ?_
  rintro e w3 ⟨rfl, rfl⟩
  go_wp2_with fail
  refine (Tnow.out _).mono ?_
  rintro e w3 ⟨rfl, rfl⟩
  go_wp2_with fail
  refine (GT.out _).mono ?_
  rintro e w2 ⟨rfl, bn⟩
  have HP := Lib.hid (HP.out.below bn)
  have HR := Lib.hid (HR.out.below bn)
  have BB := Lib.hid (B2.out.trans (bn.mono B2.out.size))
  clear bn GT B2
  obtain ⟨p0, p1, p2, p3, p4⟩ := HP.out.facts
  obtain ⟨g0, g1, g2, g3, g4⟩ := HP.out.free
  obtain ⟨r0, r1, r2, r3, r4⟩ := HR.out.facts
  obtain ⟨f0, f1, f2, f3, f4⟩ := HR.out.free
  have HP := Lib.hid (HP.out.set z t (f - n) s p)
  have HR := Lib.hid (HR.out.others w.heap.size hne1 (.int .i64 z) (.int .i64 t) (.int .i64 (f - n)) (.int .i64 s) (.int .i64 p))
  have BB := Lib.hid (below_five BB.out w.heap.size (Nat.le_refl _) (.int .i64 z) (.int .i64 t) (.int .i64 (f - n)) (.int .i64 s) (.int .i64 p))
  go_upto_region 4 with fail
  generalize (((((w2.setCell ⟨w.heap.size, 0, none⟩ (.int .i64 z)).setCell ⟨w.heap.size, 1, none⟩ (.int .i64 t)).setCell ⟨w.heap.size, 2, none⟩ (.int .i64 (f - n))).setCell ⟨w.heap.size, 3, none⟩ (.int .i64 s)).setCell ⟨w.heap.size, 4, none⟩ (.int .i64 p)) = w5 at HP HR BB ⊢
  clear p0 p1 p2 p3 p4 g0 g1 g2 g3 g4 r0 r1 r2 r3 r4 f0 f1 f2 f3 f4
  obtain ⟨p0, p1, p2, p3, p4⟩ := HP.out.facts
  obtain ⟨g0, g1, g2, g3, g4⟩ := HP.out.free
  obtain ⟨r0, r1, r2, r3, r4⟩ := HR.out.facts
  obtain ⟨f0, f1, f2, f3, f4⟩ := HR.out.free
  go_wp2
  exact bodyPost_ret (v := .tuple #[.agg #[.int .i64 z, .int .i64 t, .int .i64 (f - n), .int .i64 s, .int .i64 p], .int .i64 0]) (by simp [results, Try.results25, go_sem, r0, r1, r2, r3, r4]) rfl ⟨rfl, (by (repeat (with_reducible refine Below.setCell ?_ (by first | exact Nat.le_refl _ | exact Nat.le_succ _) _)); exact BB.out)⟩
set_option maxHeartbeats 1600000 in
theorem rlost_d000 (z t f s p n a now : Int) (w : World) (ha : timeB a = true) (hnow : timeB now = true) (hgone : goneE ⟨z, t, f, s, p⟩ n = (⟨z, t, f - n, s, p⟩, 0)) (hs : decide (s ≥ 0) = false) (hz : 2400 ≤ z) (hz' : z ≤ 1073741824) (hn : 0 ≤ now) (hn' : now ≤ 1099511627776) (hx : z.tdiv 2 < 2400) (hy : 1099511627776 < now + 1) :
    Calls Try.prog 25 #[.agg #[.int .i64 z, .int .i64 t, .int .i64 f, .int .i64 s, .int .i64 p], .int .i64 n, .int .i64 a, .int .i64 now] w fun e w' => e = .returned (.tuple #[.agg #[.int .i64 2400, .int .i64 2400, .int .i64 (f - n), .int .i64 1099511627776, .int .i64 0], .int .i64 0]) ∧ Below w.heap.size w w' := by
  have W0 : IntKind.i64.wrap (z.tdiv 2) = z.tdiv 2 := wraps_i64' _ (by rw [Int.tdiv_eq_ediv_of_nonneg (by omega)]; omega) (by rw [Int.tdiv_eq_ediv_of_nonneg (by omega)]; omega)
  have W1 : IntKind.i64.wrap (now + 1) = now + 1 := wraps_i64' _ (by omega) (by omega)
  have B2 := Lib.hid (below_two w (.cells #[.int .i64 z, .int .i64 t, .int .i64 f, .int .i64 s, .int .i64 p] 23) (.cells #[.int .i64 0, .int .i64 0, .int .i64 0, .int .i64 0, .int .i64 0] 23))
  have HP := Lib.hid (held_first z t f s p 23 w (.cells #[.int .i64 0, .int .i64 0, .int .i64 0, .int .i64 0, .int .i64 0] 23))
  have HR := Lib.hid (held_second 0 0 0 0 0 23 w (.cells #[.int .i64 z, .int .i64 t, .int .i64 f, .int .i64 s, .int .i64 p] 23))
  have hne1 : w.heap.size ≠ w.heap.size + 1 := by omega
  have hne2 : w.heap.size + 1 ≠ w.heap.size := by omega
  have Ta := Lib.hid (fun w => time_b a _ ha w)
  clear ha
  have Tnow := Lib.hid (fun w => time_b now _ hnow w)
  clear hnow
  have GT := Lib.hid (fun w => rgone_eq hgone w)
  clear hgone
  go_enter Try.func25, Try.ntmps25
  go_wp2_with fail
  refine (Ta.out _).mono ?_
  rintro e w3 ⟨rfl, rfl⟩
  go_wp2_with fail
  refine (Tnow.out _).mono ?_
  rintro e w3 ⟨rfl, rfl⟩
  go_wp2_with fail
  refine (GT.out _).mono ?_
  rintro e w2 ⟨rfl, bn⟩
  have HP := Lib.hid (HP.out.below bn)
  have HR := Lib.hid (HR.out.below bn)
  have BB := Lib.hid (B2.out.trans (bn.mono B2.out.size))
  clear bn GT B2
  obtain ⟨p0, p1, p2, p3, p4⟩ := HP.out.facts
  obtain ⟨g0, g1, g2, g3, g4⟩ := HP.out.free
  obtain ⟨r0, r1, r2, r3, r4⟩ := HR.out.facts
  obtain ⟨f0, f1, f2, f3, f4⟩ := HR.out.free
  have HP := Lib.hid (HP.out.set z t (f - n) s p)
  have HR := Lib.hid (HR.out.others w.heap.size hne1 (.int .i64 z) (.int .i64 t) (.int .i64 (f - n)) (.int .i64 s) (.int .i64 p))
  have BB := Lib.hid (below_five BB.out w.heap.size (Nat.le_refl _) (.int .i64 z) (.int .i64 t) (.int .i64 (f - n)) (.int .i64 s) (.int .i64 p))
  go_upto_region 4 with fail
  generalize (((((w2.setCell ⟨w.heap.size, 0, none⟩ (.int .i64 z)).setCell ⟨w.heap.size, 1, none⟩ (.int .i64 t)).setCell ⟨w.heap.size, 2, none⟩ (.int .i64 (f - n))).setCell ⟨w.heap.size, 3, none⟩ (.int .i64 s)).setCell ⟨w.heap.size, 4, none⟩ (.int .i64 p)) = w5 at HP HR BB ⊢
  clear p0 p1 p2 p3 p4 g0 g1 g2 g3 g4 r0 r1 r2 r3 r4 f0 f1 f2 f3 f4
  obtain ⟨p0, p1, p2, p3, p4⟩ := HP.out.facts
  obtain ⟨g0, g1, g2, g3, g4⟩ := HP.out.free
  obtain ⟨r0, r1, r2, r3, r4⟩ := HR.out.facts
  obtain ⟨f0, f1, f2, f3, f4⟩ := HR.out.free
  have HP := Lib.hid (HP.out.set0 2400)
  have HR := Lib.hid (HR.out.other (a := ⟨w.heap.size, 0, none⟩) hne1 (.int .i64 2400))
  have BB := Lib.hid (BB.out.setCell (p := ⟨w.heap.size, 0, none⟩) (Nat.le_refl _) (.int .i64 2400))
  go_upto_region 7 with fail
  generalize w5.setCell ⟨w.heap.size, 0, none⟩ (.int .i64 2400) = w5 at HP HR BB ⊢
  clear p0 p1 p2 p3 p4 g0 g1 g2 g3 g4 r0 r1 r2 r3 r4 f0 f1 f2 f3 f4
  obtain ⟨p0, p1, p2, p3, p4⟩ := HP.out.facts
  obtain ⟨g0, g1, g2, g3, g4⟩ := HP.out.free
  obtain ⟨r0, r1, r2, r3, r4⟩ := HR.out.facts
  obtain ⟨f0, f1, f2, f3, f4⟩ := HR.out.free
  go_wp2
  exact bodyPost_ret (v := .tuple #[.agg #[.int .i64 2400, .int .i64 2400, .int .i64 (f - n), .int .i64 1099511627776, .int .i64 0], .int .i64 0]) (by simp [results, Try.results25, go_sem, r0, r1, r2, r3, r4]) rfl ⟨rfl, (by (repeat (with_reducible refine Below.setCell ?_ (by first | exact Nat.le_refl _ | exact Nat.le_succ _) _)); exact BB.out)⟩
set_option maxHeartbeats 1600000 in
theorem rlost_d001 (z t f s p n a now : Int) (w : World) (ha : timeB a = true) (hnow : timeB now = true) (hgone : goneE ⟨z, t, f, s, p⟩ n = (⟨z, t, f - n, s, p⟩, 0)) (hs : decide (s ≥ 0) = false) (hz : 2400 ≤ z) (hz' : z ≤ 1073741824) (hn : 0 ≤ now) (hn' : now ≤ 1099511627776) (hx : z.tdiv 2 < 2400) (hy : ¬ 1099511627776 < now + 1) :
    Calls Try.prog 25 #[.agg #[.int .i64 z, .int .i64 t, .int .i64 f, .int .i64 s, .int .i64 p], .int .i64 n, .int .i64 a, .int .i64 now] w fun e w' => e = .returned (.tuple #[.agg #[.int .i64 2400, .int .i64 2400, .int .i64 (f - n), .int .i64 (now + 1), .int .i64 0], .int .i64 0]) ∧ Below w.heap.size w w' := by
  have W0 : IntKind.i64.wrap (z.tdiv 2) = z.tdiv 2 := wraps_i64' _ (by rw [Int.tdiv_eq_ediv_of_nonneg (by omega)]; omega) (by rw [Int.tdiv_eq_ediv_of_nonneg (by omega)]; omega)
  have W1 : IntKind.i64.wrap (now + 1) = now + 1 := wraps_i64' _ (by omega) (by omega)
  have B2 := Lib.hid (below_two w (.cells #[.int .i64 z, .int .i64 t, .int .i64 f, .int .i64 s, .int .i64 p] 23) (.cells #[.int .i64 0, .int .i64 0, .int .i64 0, .int .i64 0, .int .i64 0] 23))
  have HP := Lib.hid (held_first z t f s p 23 w (.cells #[.int .i64 0, .int .i64 0, .int .i64 0, .int .i64 0, .int .i64 0] 23))
  have HR := Lib.hid (held_second 0 0 0 0 0 23 w (.cells #[.int .i64 z, .int .i64 t, .int .i64 f, .int .i64 s, .int .i64 p] 23))
  have hne1 : w.heap.size ≠ w.heap.size + 1 := by omega
  have hne2 : w.heap.size + 1 ≠ w.heap.size := by omega
  have Ta := Lib.hid (fun w => time_b a _ ha w)
  clear ha
  have Tnow := Lib.hid (fun w => time_b now _ hnow w)
  clear hnow
  have GT := Lib.hid (fun w => rgone_eq hgone w)
  clear hgone
  go_enter Try.func25, Try.ntmps25
  go_wp2_with fail
  refine (Ta.out _).mono ?_
  rintro e w3 ⟨rfl, rfl⟩
  go_wp2_with fail
  refine (Tnow.out _).mono ?_
  rintro e w3 ⟨rfl, rfl⟩
  go_wp2_with fail
  refine (GT.out _).mono ?_
  rintro e w2 ⟨rfl, bn⟩
  have HP := Lib.hid (HP.out.below bn)
  have HR := Lib.hid (HR.out.below bn)
  have BB := Lib.hid (B2.out.trans (bn.mono B2.out.size))
  clear bn GT B2
  obtain ⟨p0, p1, p2, p3, p4⟩ := HP.out.facts
  obtain ⟨g0, g1, g2, g3, g4⟩ := HP.out.free
  obtain ⟨r0, r1, r2, r3, r4⟩ := HR.out.facts
  obtain ⟨f0, f1, f2, f3, f4⟩ := HR.out.free
  have HP := Lib.hid (HP.out.set z t (f - n) s p)
  have HR := Lib.hid (HR.out.others w.heap.size hne1 (.int .i64 z) (.int .i64 t) (.int .i64 (f - n)) (.int .i64 s) (.int .i64 p))
  have BB := Lib.hid (below_five BB.out w.heap.size (Nat.le_refl _) (.int .i64 z) (.int .i64 t) (.int .i64 (f - n)) (.int .i64 s) (.int .i64 p))
  go_upto_region 4 with fail
  generalize (((((w2.setCell ⟨w.heap.size, 0, none⟩ (.int .i64 z)).setCell ⟨w.heap.size, 1, none⟩ (.int .i64 t)).setCell ⟨w.heap.size, 2, none⟩ (.int .i64 (f - n))).setCell ⟨w.heap.size, 3, none⟩ (.int .i64 s)).setCell ⟨w.heap.size, 4, none⟩ (.int .i64 p)) = w5 at HP HR BB ⊢
  clear p0 p1 p2 p3 p4 g0 g1 g2 g3 g4 r0 r1 r2 r3 r4 f0 f1 f2 f3 f4
  obtain ⟨p0, p1, p2, p3, p4⟩ := HP.out.facts
  obtain ⟨g0, g1, g2, g3, g4⟩ := HP.out.free
  obtain ⟨r0, r1, r2, r3, r4⟩ := HR.out.facts
  obtain ⟨f0, f1, f2, f3, f4⟩ := HR.out.free
  have HP := Lib.hid (HP.out.set0 2400)
  have HR := Lib.hid (HR.out.other (a := ⟨w.heap.size, 0, none⟩) hne1 (.int .i64 2400))
  have BB := Lib.hid (BB.out.setCell (p := ⟨w.heap.size, 0, none⟩) (Nat.le_refl _) (.int .i64 2400))
  go_upto_region 7 with fail
  generalize w5.setCell ⟨w.heap.size, 0, none⟩ (.int .i64 2400) = w5 at HP HR BB ⊢
  clear p0 p1 p2 p3 p4 g0 g1 g2 g3 g4 r0 r1 r2 r3 r4 f0 f1 f2 f3 f4
  obtain ⟨p0, p1, p2, p3, p4⟩ := HP.out.facts
  obtain ⟨g0, g1, g2, g3, g4⟩ := HP.out.free
  obtain ⟨r0, r1, r2, r3, r4⟩ := HR.out.facts
  obtain ⟨f0, f1, f2, f3, f4⟩ := HR.out.free
  go_wp2
  exact bodyPost_ret (v := .tuple #[.agg #[.int .i64 2400, .int .i64 2400, .int .i64 (f - n), .int .i64 (now + 1), .int .i64 0], .int .i64 0]) (by simp [results, Try.results25, go_sem, r0, r1, r2, r3, r4]) rfl ⟨rfl, (by (repeat (with_reducible refine Below.setCell ?_ (by first | exact Nat.le_refl _ | exact Nat.le_succ _) _)); exact BB.out)⟩
set_option maxHeartbeats 1600000 in
theorem rlost_d010 (z t f s p n a now : Int) (w : World) (ha : timeB a = true) (hnow : timeB now = true) (hgone : goneE ⟨z, t, f, s, p⟩ n = (⟨z, t, f - n, s, p⟩, 0)) (hs : decide (s ≥ 0) = false) (hz : 2400 ≤ z) (hz' : z ≤ 1073741824) (hn : 0 ≤ now) (hn' : now ≤ 1099511627776) (hx : ¬ z.tdiv 2 < 2400) (hy : 1099511627776 < now + 1) :
    Calls Try.prog 25 #[.agg #[.int .i64 z, .int .i64 t, .int .i64 f, .int .i64 s, .int .i64 p], .int .i64 n, .int .i64 a, .int .i64 now] w fun e w' => e = .returned (.tuple #[.agg #[.int .i64 (z.tdiv 2), .int .i64 (z.tdiv 2), .int .i64 (f - n), .int .i64 1099511627776, .int .i64 0], .int .i64 0]) ∧ Below w.heap.size w w' := by
  have W0 : IntKind.i64.wrap (z.tdiv 2) = z.tdiv 2 := wraps_i64' _ (by rw [Int.tdiv_eq_ediv_of_nonneg (by omega)]; omega) (by rw [Int.tdiv_eq_ediv_of_nonneg (by omega)]; omega)
  have W1 : IntKind.i64.wrap (now + 1) = now + 1 := wraps_i64' _ (by omega) (by omega)
  have B2 := Lib.hid (below_two w (.cells #[.int .i64 z, .int .i64 t, .int .i64 f, .int .i64 s, .int .i64 p] 23) (.cells #[.int .i64 0, .int .i64 0, .int .i64 0, .int .i64 0, .int .i64 0] 23))
  have HP := Lib.hid (held_first z t f s p 23 w (.cells #[.int .i64 0, .int .i64 0, .int .i64 0, .int .i64 0, .int .i64 0] 23))
  have HR := Lib.hid (held_second 0 0 0 0 0 23 w (.cells #[.int .i64 z, .int .i64 t, .int .i64 f, .int .i64 s, .int .i64 p] 23))
  have hne1 : w.heap.size ≠ w.heap.size + 1 := by omega
  have hne2 : w.heap.size + 1 ≠ w.heap.size := by omega
  have Ta := Lib.hid (fun w => time_b a _ ha w)
  clear ha
  have Tnow := Lib.hid (fun w => time_b now _ hnow w)
  clear hnow
  have GT := Lib.hid (fun w => rgone_eq hgone w)
  clear hgone
  go_enter Try.func25, Try.ntmps25
  go_wp2_with fail
  refine (Ta.out _).mono ?_
  rintro e w3 ⟨rfl, rfl⟩
  go_wp2_with fail
  refine (Tnow.out _).mono ?_
  rintro e w3 ⟨rfl, rfl⟩
  go_wp2_with fail
  refine (GT.out _).mono ?_
  rintro e w2 ⟨rfl, bn⟩
  have HP := Lib.hid (HP.out.below bn)
  have HR := Lib.hid (HR.out.below bn)
  have BB := Lib.hid (B2.out.trans (bn.mono B2.out.size))
  clear bn GT B2
  obtain ⟨p0, p1, p2, p3, p4⟩ := HP.out.facts
  obtain ⟨g0, g1, g2, g3, g4⟩ := HP.out.free
  obtain ⟨r0, r1, r2, r3, r4⟩ := HR.out.facts
  obtain ⟨f0, f1, f2, f3, f4⟩ := HR.out.free
  have HP := Lib.hid (HP.out.set z t (f - n) s p)
  have HR := Lib.hid (HR.out.others w.heap.size hne1 (.int .i64 z) (.int .i64 t) (.int .i64 (f - n)) (.int .i64 s) (.int .i64 p))
  have BB := Lib.hid (below_five BB.out w.heap.size (Nat.le_refl _) (.int .i64 z) (.int .i64 t) (.int .i64 (f - n)) (.int .i64 s) (.int .i64 p))
  go_upto_region 4 with fail
  generalize (((((w2.setCell ⟨w.heap.size, 0, none⟩ (.int .i64 z)).setCell ⟨w.heap.size, 1, none⟩ (.int .i64 t)).setCell ⟨w.heap.size, 2, none⟩ (.int .i64 (f - n))).setCell ⟨w.heap.size, 3, none⟩ (.int .i64 s)).setCell ⟨w.heap.size, 4, none⟩ (.int .i64 p)) = w5 at HP HR BB ⊢
  clear p0 p1 p2 p3 p4 g0 g1 g2 g3 g4 r0 r1 r2 r3 r4 f0 f1 f2 f3 f4
  obtain ⟨p0, p1, p2, p3, p4⟩ := HP.out.facts
  obtain ⟨g0, g1, g2, g3, g4⟩ := HP.out.free
  obtain ⟨r0, r1, r2, r3, r4⟩ := HR.out.facts
  obtain ⟨f0, f1, f2, f3, f4⟩ := HR.out.free
  have HP := Lib.hid (HP.out.set0 (z.tdiv 2))
  have HR := Lib.hid (HR.out.other (a := ⟨w.heap.size, 0, none⟩) hne1 (.int .i64 (z.tdiv 2)))
  have BB := Lib.hid (BB.out.setCell (p := ⟨w.heap.size, 0, none⟩) (Nat.le_refl _) (.int .i64 (z.tdiv 2)))
  go_upto_region 7 with fail
  generalize w5.setCell ⟨w.heap.size, 0, none⟩ (.int .i64 (z.tdiv 2)) = w5 at HP HR BB ⊢
  clear p0 p1 p2 p3 p4 g0 g1 g2 g3 g4 r0 r1 r2 r3 r4 f0 f1 f2 f3 f4
  obtain ⟨p0, p1, p2, p3, p4⟩ := HP.out.facts
  obtain ⟨g0, g1, g2, g3, g4⟩ := HP.out.free
  obtain ⟨r0, r1, r2, r3, r4⟩ := HR.out.facts
  obtain ⟨f0, f1, f2, f3, f4⟩ := HR.out.free
  go_wp2
  exact bodyPost_ret (v := .tuple #[.agg #[.int .i64 (z.tdiv 2), .int .i64 (z.tdiv 2), .int .i64 (f - n), .int .i64 1099511627776, .int .i64 0], .int .i64 0]) (by simp [results, Try.results25, go_sem, r0, r1, r2, r3, r4]) rfl ⟨rfl, (by (repeat (with_reducible refine Below.setCell ?_ (by first | exact Nat.le_refl _ | exact Nat.le_succ _) _)); exact BB.out)⟩
set_option maxHeartbeats 1600000 in
theorem rlost_d011 (z t f s p n a now : Int) (w : World) (ha : timeB a = true) (hnow : timeB now = true) (hgone : goneE ⟨z, t, f, s, p⟩ n = (⟨z, t, f - n, s, p⟩, 0)) (hs : decide (s ≥ 0) = false) (hz : 2400 ≤ z) (hz' : z ≤ 1073741824) (hn : 0 ≤ now) (hn' : now ≤ 1099511627776) (hx : ¬ z.tdiv 2 < 2400) (hy : ¬ 1099511627776 < now + 1) :
    Calls Try.prog 25 #[.agg #[.int .i64 z, .int .i64 t, .int .i64 f, .int .i64 s, .int .i64 p], .int .i64 n, .int .i64 a, .int .i64 now] w fun e w' => e = .returned (.tuple #[.agg #[.int .i64 (z.tdiv 2), .int .i64 (z.tdiv 2), .int .i64 (f - n), .int .i64 (now + 1), .int .i64 0], .int .i64 0]) ∧ Below w.heap.size w w' := by
  have W0 : IntKind.i64.wrap (z.tdiv 2) = z.tdiv 2 := wraps_i64' _ (by rw [Int.tdiv_eq_ediv_of_nonneg (by omega)]; omega) (by rw [Int.tdiv_eq_ediv_of_nonneg (by omega)]; omega)
  have W1 : IntKind.i64.wrap (now + 1) = now + 1 := wraps_i64' _ (by omega) (by omega)
  have B2 := Lib.hid (below_two w (.cells #[.int .i64 z, .int .i64 t, .int .i64 f, .int .i64 s, .int .i64 p] 23) (.cells #[.int .i64 0, .int .i64 0, .int .i64 0, .int .i64 0, .int .i64 0] 23))
  have HP := Lib.hid (held_first z t f s p 23 w (.cells #[.int .i64 0, .int .i64 0, .int .i64 0, .int .i64 0, .int .i64 0] 23))
  have HR := Lib.hid (held_second 0 0 0 0 0 23 w (.cells #[.int .i64 z, .int .i64 t, .int .i64 f, .int .i64 s, .int .i64 p] 23))
  have hne1 : w.heap.size ≠ w.heap.size + 1 := by omega
  have hne2 : w.heap.size + 1 ≠ w.heap.size := by omega
  have Ta := Lib.hid (fun w => time_b a _ ha w)
  clear ha
  have Tnow := Lib.hid (fun w => time_b now _ hnow w)
  clear hnow
  have GT := Lib.hid (fun w => rgone_eq hgone w)
  clear hgone
  go_enter Try.func25, Try.ntmps25
  go_wp2_with fail
  refine (Ta.out _).mono ?_
  rintro e w3 ⟨rfl, rfl⟩
  go_wp2_with fail
  refine (Tnow.out _).mono ?_
  rintro e w3 ⟨rfl, rfl⟩
  go_wp2_with fail
  refine (GT.out _).mono ?_
  rintro e w2 ⟨rfl, bn⟩
  have HP := Lib.hid (HP.out.below bn)
  have HR := Lib.hid (HR.out.below bn)
  have BB := Lib.hid (B2.out.trans (bn.mono B2.out.size))
  clear bn GT B2
  obtain ⟨p0, p1, p2, p3, p4⟩ := HP.out.facts
  obtain ⟨g0, g1, g2, g3, g4⟩ := HP.out.free
  obtain ⟨r0, r1, r2, r3, r4⟩ := HR.out.facts
  obtain ⟨f0, f1, f2, f3, f4⟩ := HR.out.free
  have HP := Lib.hid (HP.out.set z t (f - n) s p)
  have HR := Lib.hid (HR.out.others w.heap.size hne1 (.int .i64 z) (.int .i64 t) (.int .i64 (f - n)) (.int .i64 s) (.int .i64 p))
  have BB := Lib.hid (below_five BB.out w.heap.size (Nat.le_refl _) (.int .i64 z) (.int .i64 t) (.int .i64 (f - n)) (.int .i64 s) (.int .i64 p))
  go_upto_region 4 with fail
  generalize (((((w2.setCell ⟨w.heap.size, 0, none⟩ (.int .i64 z)).setCell ⟨w.heap.size, 1, none⟩ (.int .i64 t)).setCell ⟨w.heap.size, 2, none⟩ (.int .i64 (f - n))).setCell ⟨w.heap.size, 3, none⟩ (.int .i64 s)).setCell ⟨w.heap.size, 4, none⟩ (.int .i64 p)) = w5 at HP HR BB ⊢
  clear p0 p1 p2 p3 p4 g0 g1 g2 g3 g4 r0 r1 r2 r3 r4 f0 f1 f2 f3 f4
  obtain ⟨p0, p1, p2, p3, p4⟩ := HP.out.facts
  obtain ⟨g0, g1, g2, g3, g4⟩ := HP.out.free
  obtain ⟨r0, r1, r2, r3, r4⟩ := HR.out.facts
  obtain ⟨f0, f1, f2, f3, f4⟩ := HR.out.free
  have HP := Lib.hid (HP.out.set0 (z.tdiv 2))
  have HR := Lib.hid (HR.out.other (a := ⟨w.heap.size, 0, none⟩) hne1 (.int .i64 (z.tdiv 2)))
  have BB := Lib.hid (BB.out.setCell (p := ⟨w.heap.size, 0, none⟩) (Nat.le_refl _) (.int .i64 (z.tdiv 2)))
  go_upto_region 7 with fail
  generalize w5.setCell ⟨w.heap.size, 0, none⟩ (.int .i64 (z.tdiv 2)) = w5 at HP HR BB ⊢
  clear p0 p1 p2 p3 p4 g0 g1 g2 g3 g4 r0 r1 r2 r3 r4 f0 f1 f2 f3 f4
  obtain ⟨p0, p1, p2, p3, p4⟩ := HP.out.facts
  obtain ⟨g0, g1, g2, g3, g4⟩ := HP.out.free
  obtain ⟨r0, r1, r2, r3, r4⟩ := HR.out.facts
  obtain ⟨f0, f1, f2, f3, f4⟩ := HR.out.free
  go_wp2
  exact bodyPost_ret (v := .tuple #[.agg #[.int .i64 (z.tdiv 2), .int .i64 (z.tdiv 2), .int .i64 (f - n), .int .i64 (now + 1), .int .i64 0], .int .i64 0]) (by simp [results, Try.results25, go_sem, r0, r1, r2, r3, r4]) rfl ⟨rfl, (by (repeat (with_reducible refine Below.setCell ?_ (by first | exact Nat.le_refl _ | exact Nat.le_succ _) _)); exact BB.out)⟩
set_option maxHeartbeats 1600000 in
theorem rlost_d100 (z t f s p n a now : Int) (w : World) (ha : timeB a = true) (hnow : timeB now = true) (hgone : goneE ⟨z, t, f, s, p⟩ n = (⟨z, t, f - n, s, p⟩, 0)) (hs : decide (s ≥ 0) = true) (hs' : decide (a < s) = false) (hz : 2400 ≤ z) (hz' : z ≤ 1073741824) (hn : 0 ≤ now) (hn' : now ≤ 1099511627776) (hx : z.tdiv 2 < 2400) (hy : 1099511627776 < now + 1) :
    Calls Try.prog 25 #[.agg #[.int .i64 z, .int .i64 t, .int .i64 f, .int .i64 s, .int .i64 p], .int .i64 n, .int .i64 a, .int .i64 now] w fun e w' => e = .returned (.tuple #[.agg #[.int .i64 2400, .int .i64 2400, .int .i64 (f - n), .int .i64 1099511627776, .int .i64 0], .int .i64 0]) ∧ Below w.heap.size w w' := by
  have W0 : IntKind.i64.wrap (z.tdiv 2) = z.tdiv 2 := wraps_i64' _ (by rw [Int.tdiv_eq_ediv_of_nonneg (by omega)]; omega) (by rw [Int.tdiv_eq_ediv_of_nonneg (by omega)]; omega)
  have W1 : IntKind.i64.wrap (now + 1) = now + 1 := wraps_i64' _ (by omega) (by omega)
  have B2 := Lib.hid (below_two w (.cells #[.int .i64 z, .int .i64 t, .int .i64 f, .int .i64 s, .int .i64 p] 23) (.cells #[.int .i64 0, .int .i64 0, .int .i64 0, .int .i64 0, .int .i64 0] 23))
  have HP := Lib.hid (held_first z t f s p 23 w (.cells #[.int .i64 0, .int .i64 0, .int .i64 0, .int .i64 0, .int .i64 0] 23))
  have HR := Lib.hid (held_second 0 0 0 0 0 23 w (.cells #[.int .i64 z, .int .i64 t, .int .i64 f, .int .i64 s, .int .i64 p] 23))
  have hne1 : w.heap.size ≠ w.heap.size + 1 := by omega
  have hne2 : w.heap.size + 1 ≠ w.heap.size := by omega
  have Ta := Lib.hid (fun w => time_b a _ ha w)
  clear ha
  have Tnow := Lib.hid (fun w => time_b now _ hnow w)
  clear hnow
  have GT := Lib.hid (fun w => rgone_eq hgone w)
  clear hgone
  go_enter Try.func25, Try.ntmps25
  go_wp2_with fail
  refine (Ta.out _).mono ?_
  rintro e w3 ⟨rfl, rfl⟩
  go_wp2_with fail
  refine (Tnow.out _).mono ?_
  rintro e w3 ⟨rfl, rfl⟩
  go_wp2_with fail
  refine (GT.out _).mono ?_
  rintro e w2 ⟨rfl, bn⟩
  have HP := Lib.hid (HP.out.below bn)
  have HR := Lib.hid (HR.out.below bn)
  have BB := Lib.hid (B2.out.trans (bn.mono B2.out.size))
  clear bn GT B2
  obtain ⟨p0, p1, p2, p3, p4⟩ := HP.out.facts
  obtain ⟨g0, g1, g2, g3, g4⟩ := HP.out.free
  obtain ⟨r0, r1, r2, r3, r4⟩ := HR.out.facts
  obtain ⟨f0, f1, f2, f3, f4⟩ := HR.out.free
  have HP := Lib.hid (HP.out.set z t (f - n) s p)
  have HR := Lib.hid (HR.out.others w.heap.size hne1 (.int .i64 z) (.int .i64 t) (.int .i64 (f - n)) (.int .i64 s) (.int .i64 p))
  have BB := Lib.hid (below_five BB.out w.heap.size (Nat.le_refl _) (.int .i64 z) (.int .i64 t) (.int .i64 (f - n)) (.int .i64 s) (.int .i64 p))
  go_upto_region 4 with fail
  generalize (((((w2.setCell ⟨w.heap.size, 0, none⟩ (.int .i64 z)).setCell ⟨w.heap.size, 1, none⟩ (.int .i64 t)).setCell ⟨w.heap.size, 2, none⟩ (.int .i64 (f - n))).setCell ⟨w.heap.size, 3, none⟩ (.int .i64 s)).setCell ⟨w.heap.size, 4, none⟩ (.int .i64 p)) = w5 at HP HR BB ⊢
  clear p0 p1 p2 p3 p4 g0 g1 g2 g3 g4 r0 r1 r2 r3 r4 f0 f1 f2 f3 f4
  obtain ⟨p0, p1, p2, p3, p4⟩ := HP.out.facts
  obtain ⟨g0, g1, g2, g3, g4⟩ := HP.out.free
  obtain ⟨r0, r1, r2, r3, r4⟩ := HR.out.facts
  obtain ⟨f0, f1, f2, f3, f4⟩ := HR.out.free
  have HP := Lib.hid (HP.out.set0 2400)
  have HR := Lib.hid (HR.out.other (a := ⟨w.heap.size, 0, none⟩) hne1 (.int .i64 2400))
  have BB := Lib.hid (BB.out.setCell (p := ⟨w.heap.size, 0, none⟩) (Nat.le_refl _) (.int .i64 2400))
  go_upto_region 7 with fail
  generalize w5.setCell ⟨w.heap.size, 0, none⟩ (.int .i64 2400) = w5 at HP HR BB ⊢
  clear p0 p1 p2 p3 p4 g0 g1 g2 g3 g4 r0 r1 r2 r3 r4 f0 f1 f2 f3 f4
  obtain ⟨p0, p1, p2, p3, p4⟩ := HP.out.facts
  obtain ⟨g0, g1, g2, g3, g4⟩ := HP.out.free
  obtain ⟨r0, r1, r2, r3, r4⟩ := HR.out.facts
  obtain ⟨f0, f1, f2, f3, f4⟩ := HR.out.free
  go_wp2
  exact bodyPost_ret (v := .tuple #[.agg #[.int .i64 2400, .int .i64 2400, .int .i64 (f - n), .int .i64 1099511627776, .int .i64 0], .int .i64 0]) (by simp [results, Try.results25, go_sem, r0, r1, r2, r3, r4]) rfl ⟨rfl, (by (repeat (with_reducible refine Below.setCell ?_ (by first | exact Nat.le_refl _ | exact Nat.le_succ _) _)); exact BB.out)⟩
set_option maxHeartbeats 1600000 in
theorem rlost_d101 (z t f s p n a now : Int) (w : World) (ha : timeB a = true) (hnow : timeB now = true) (hgone : goneE ⟨z, t, f, s, p⟩ n = (⟨z, t, f - n, s, p⟩, 0)) (hs : decide (s ≥ 0) = true) (hs' : decide (a < s) = false) (hz : 2400 ≤ z) (hz' : z ≤ 1073741824) (hn : 0 ≤ now) (hn' : now ≤ 1099511627776) (hx : z.tdiv 2 < 2400) (hy : ¬ 1099511627776 < now + 1) :
    Calls Try.prog 25 #[.agg #[.int .i64 z, .int .i64 t, .int .i64 f, .int .i64 s, .int .i64 p], .int .i64 n, .int .i64 a, .int .i64 now] w fun e w' => e = .returned (.tuple #[.agg #[.int .i64 2400, .int .i64 2400, .int .i64 (f - n), .int .i64 (now + 1), .int .i64 0], .int .i64 0]) ∧ Below w.heap.size w w' := by
  have W0 : IntKind.i64.wrap (z.tdiv 2) = z.tdiv 2 := wraps_i64' _ (by rw [Int.tdiv_eq_ediv_of_nonneg (by omega)]; omega) (by rw [Int.tdiv_eq_ediv_of_nonneg (by omega)]; omega)
  have W1 : IntKind.i64.wrap (now + 1) = now + 1 := wraps_i64' _ (by omega) (by omega)
  have B2 := Lib.hid (below_two w (.cells #[.int .i64 z, .int .i64 t, .int .i64 f, .int .i64 s, .int .i64 p] 23) (.cells #[.int .i64 0, .int .i64 0, .int .i64 0, .int .i64 0, .int .i64 0] 23))
  have HP := Lib.hid (held_first z t f s p 23 w (.cells #[.int .i64 0, .int .i64 0, .int .i64 0, .int .i64 0, .int .i64 0] 23))
  have HR := Lib.hid (held_second 0 0 0 0 0 23 w (.cells #[.int .i64 z, .int .i64 t, .int .i64 f, .int .i64 s, .int .i64 p] 23))
  have hne1 : w.heap.size ≠ w.heap.size + 1 := by omega
  have hne2 : w.heap.size + 1 ≠ w.heap.size := by omega
  have Ta := Lib.hid (fun w => time_b a _ ha w)
  clear ha
  have Tnow := Lib.hid (fun w => time_b now _ hnow w)
  clear hnow
  have GT := Lib.hid (fun w => rgone_eq hgone w)
  clear hgone
  go_enter Try.func25, Try.ntmps25
  go_wp2_with fail
  refine (Ta.out _).mono ?_
  rintro e w3 ⟨rfl, rfl⟩
  go_wp2_with fail
  refine (Tnow.out _).mono ?_
  rintro e w3 ⟨rfl, rfl⟩
  go_wp2_with fail
  refine (GT.out _).mono ?_
  rintro e w2 ⟨rfl, bn⟩
  have HP := Lib.hid (HP.out.below bn)
  have HR := Lib.hid (HR.out.below bn)
  have BB := Lib.hid (B2.out.trans (bn.mono B2.out.size))
  clear bn GT B2
  obtain ⟨p0, p1, p2, p3, p4⟩ := HP.out.facts
  obtain ⟨g0, g1, g2, g3, g4⟩ := HP.out.free
  obtain ⟨r0, r1, r2, r3, r4⟩ := HR.out.facts
  obtain ⟨f0, f1, f2, f3, f4⟩ := HR.out.free
  have HP := Lib.hid (HP.out.set z t (f - n) s p)
  have HR := Lib.hid (HR.out.others w.heap.size hne1 (.int .i64 z) (.int .i64 t) (.int .i64 (f - n)) (.int .i64 s) (.int .i64 p))
  have BB := Lib.hid (below_five BB.out w.heap.size (Nat.le_refl _) (.int .i64 z) (.int .i64 t) (.int .i64 (f - n)) (.int .i64 s) (.int .i64 p))
  go_upto_region 4 with fail
  generalize (((((w2.setCell ⟨w.heap.size, 0, none⟩ (.int .i64 z)).setCell ⟨w.heap.size, 1, none⟩ (.int .i64 t)).setCell ⟨w.heap.size, 2, none⟩ (.int .i64 (f - n))).setCell ⟨w.heap.size, 3, none⟩ (.int .i64 s)).setCell ⟨w.heap.size, 4, none⟩ (.int .i64 p)) = w5 at HP HR BB ⊢
  clear p0 p1 p2 p3 p4 g0 g1 g2 g3 g4 r0 r1 r2 r3 r4 f0 f1 f2 f3 f4
  obtain ⟨p0, p1, p2, p3, p4⟩ := HP.out.facts
  obtain ⟨g0, g1, g2, g3, g4⟩ := HP.out.free
  obtain ⟨r0, r1, r2, r3, r4⟩ := HR.out.facts
  obtain ⟨f0, f1, f2, f3, f4⟩ := HR.out.free
  have HP := Lib.hid (HP.out.set0 2400)
  have HR := Lib.hid (HR.out.other (a := ⟨w.heap.size, 0, none⟩) hne1 (.int .i64 2400))
  have BB := Lib.hid (BB.out.setCell (p := ⟨w.heap.size, 0, none⟩) (Nat.le_refl _) (.int .i64 2400))
  go_upto_region 7 with fail
  generalize w5.setCell ⟨w.heap.size, 0, none⟩ (.int .i64 2400) = w5 at HP HR BB ⊢
  clear p0 p1 p2 p3 p4 g0 g1 g2 g3 g4 r0 r1 r2 r3 r4 f0 f1 f2 f3 f4
  obtain ⟨p0, p1, p2, p3, p4⟩ := HP.out.facts
  obtain ⟨g0, g1, g2, g3, g4⟩ := HP.out.free
  obtain ⟨r0, r1, r2, r3, r4⟩ := HR.out.facts
  obtain ⟨f0, f1, f2, f3, f4⟩ := HR.out.free
  go_wp2
  exact bodyPost_ret (v := .tuple #[.agg #[.int .i64 2400, .int .i64 2400, .int .i64 (f - n), .int .i64 (now + 1), .int .i64 0], .int .i64 0]) (by simp [results, Try.results25, go_sem, r0, r1, r2, r3, r4]) rfl ⟨rfl, (by (repeat (with_reducible refine Below.setCell ?_ (by first | exact Nat.le_refl _ | exact Nat.le_succ _) _)); exact BB.out)⟩
set_option maxHeartbeats 1600000 in
theorem rlost_d110 (z t f s p n a now : Int) (w : World) (ha : timeB a = true) (hnow : timeB now = true) (hgone : goneE ⟨z, t, f, s, p⟩ n = (⟨z, t, f - n, s, p⟩, 0)) (hs : decide (s ≥ 0) = true) (hs' : decide (a < s) = false) (hz : 2400 ≤ z) (hz' : z ≤ 1073741824) (hn : 0 ≤ now) (hn' : now ≤ 1099511627776) (hx : ¬ z.tdiv 2 < 2400) (hy : 1099511627776 < now + 1) :
    Calls Try.prog 25 #[.agg #[.int .i64 z, .int .i64 t, .int .i64 f, .int .i64 s, .int .i64 p], .int .i64 n, .int .i64 a, .int .i64 now] w fun e w' => e = .returned (.tuple #[.agg #[.int .i64 (z.tdiv 2), .int .i64 (z.tdiv 2), .int .i64 (f - n), .int .i64 1099511627776, .int .i64 0], .int .i64 0]) ∧ Below w.heap.size w w' := by
  have W0 : IntKind.i64.wrap (z.tdiv 2) = z.tdiv 2 := wraps_i64' _ (by rw [Int.tdiv_eq_ediv_of_nonneg (by omega)]; omega) (by rw [Int.tdiv_eq_ediv_of_nonneg (by omega)]; omega)
  have W1 : IntKind.i64.wrap (now + 1) = now + 1 := wraps_i64' _ (by omega) (by omega)
  have B2 := Lib.hid (below_two w (.cells #[.int .i64 z, .int .i64 t, .int .i64 f, .int .i64 s, .int .i64 p] 23) (.cells #[.int .i64 0, .int .i64 0, .int .i64 0, .int .i64 0, .int .i64 0] 23))
  have HP := Lib.hid (held_first z t f s p 23 w (.cells #[.int .i64 0, .int .i64 0, .int .i64 0, .int .i64 0, .int .i64 0] 23))
  have HR := Lib.hid (held_second 0 0 0 0 0 23 w (.cells #[.int .i64 z, .int .i64 t, .int .i64 f, .int .i64 s, .int .i64 p] 23))
  have hne1 : w.heap.size ≠ w.heap.size + 1 := by omega
  have hne2 : w.heap.size + 1 ≠ w.heap.size := by omega
  have Ta := Lib.hid (fun w => time_b a _ ha w)
  clear ha
  have Tnow := Lib.hid (fun w => time_b now _ hnow w)
  clear hnow
  have GT := Lib.hid (fun w => rgone_eq hgone w)
  clear hgone
  go_enter Try.func25, Try.ntmps25
  go_wp2_with fail
  refine (Ta.out _).mono ?_
  rintro e w3 ⟨rfl, rfl⟩
  go_wp2_with fail
  refine (Tnow.out _).mono ?_
  rintro e w3 ⟨rfl, rfl⟩
  go_wp2_with fail
  refine (GT.out _).mono ?_
  rintro e w2 ⟨rfl, bn⟩
  have HP := Lib.hid (HP.out.below bn)
  have HR := Lib.hid (HR.out.below bn)
  have BB := Lib.hid (B2.out.trans (bn.mono B2.out.size))
  clear bn GT B2
  obtain ⟨p0, p1, p2, p3, p4⟩ := HP.out.facts
  obtain ⟨g0, g1, g2, g3, g4⟩ := HP.out.free
  obtain ⟨r0, r1, r2, r3, r4⟩ := HR.out.facts
  obtain ⟨f0, f1, f2, f3, f4⟩ := HR.out.free
  have HP := Lib.hid (HP.out.set z t (f - n) s p)
  have HR := Lib.hid (HR.out.others w.heap.size hne1 (.int .i64 z) (.int .i64 t) (.int .i64 (f - n)) (.int .i64 s) (.int .i64 p))
  have BB := Lib.hid (below_five BB.out w.heap.size (Nat.le_refl _) (.int .i64 z) (.int .i64 t) (.int .i64 (f - n)) (.int .i64 s) (.int .i64 p))
  go_upto_region 4 with fail
  generalize (((((w2.setCell ⟨w.heap.size, 0, none⟩ (.int .i64 z)).setCell ⟨w.heap.size, 1, none⟩ (.int .i64 t)).setCell ⟨w.heap.size, 2, none⟩ (.int .i64 (f - n))).setCell ⟨w.heap.size, 3, none⟩ (.int .i64 s)).setCell ⟨w.heap.size, 4, none⟩ (.int .i64 p)) = w5 at HP HR BB ⊢
  clear p0 p1 p2 p3 p4 g0 g1 g2 g3 g4 r0 r1 r2 r3 r4 f0 f1 f2 f3 f4
  obtain ⟨p0, p1, p2, p3, p4⟩ := HP.out.facts
  obtain ⟨g0, g1, g2, g3, g4⟩ := HP.out.free
  obtain ⟨r0, r1, r2, r3, r4⟩ := HR.out.facts
  obtain ⟨f0, f1, f2, f3, f4⟩ := HR.out.free
  have HP := Lib.hid (HP.out.set0 (z.tdiv 2))
  have HR := Lib.hid (HR.out.other (a := ⟨w.heap.size, 0, none⟩) hne1 (.int .i64 (z.tdiv 2)))
  have BB := Lib.hid (BB.out.setCell (p := ⟨w.heap.size, 0, none⟩) (Nat.le_refl _) (.int .i64 (z.tdiv 2)))
  go_upto_region 7 with fail
  generalize w5.setCell ⟨w.heap.size, 0, none⟩ (.int .i64 (z.tdiv 2)) = w5 at HP HR BB ⊢
  clear p0 p1 p2 p3 p4 g0 g1 g2 g3 g4 r0 r1 r2 r3 r4 f0 f1 f2 f3 f4
  obtain ⟨p0, p1, p2, p3, p4⟩ := HP.out.facts
  obtain ⟨g0, g1, g2, g3, g4⟩ := HP.out.free
  obtain ⟨r0, r1, r2, r3, r4⟩ := HR.out.facts
  obtain ⟨f0, f1, f2, f3, f4⟩ := HR.out.free
  go_wp2
  exact bodyPost_ret (v := .tuple #[.agg #[.int .i64 (z.tdiv 2), .int .i64 (z.tdiv 2), .int .i64 (f - n), .int .i64 1099511627776, .int .i64 0], .int .i64 0]) (by simp [results, Try.results25, go_sem, r0, r1, r2, r3, r4]) rfl ⟨rfl, (by (repeat (with_reducible refine Below.setCell ?_ (by first | exact Nat.le_refl _ | exact Nat.le_succ _) _)); exact BB.out)⟩
set_option maxHeartbeats 1600000 in
theorem rlost_d111 (z t f s p n a now : Int) (w : World) (ha : timeB a = true) (hnow : timeB now = true) (hgone : goneE ⟨z, t, f, s, p⟩ n = (⟨z, t, f - n, s, p⟩, 0)) (hs : decide (s ≥ 0) = true) (hs' : decide (a < s) = false) (hz : 2400 ≤ z) (hz' : z ≤ 1073741824) (hn : 0 ≤ now) (hn' : now ≤ 1099511627776) (hx : ¬ z.tdiv 2 < 2400) (hy : ¬ 1099511627776 < now + 1) :
    Calls Try.prog 25 #[.agg #[.int .i64 z, .int .i64 t, .int .i64 f, .int .i64 s, .int .i64 p], .int .i64 n, .int .i64 a, .int .i64 now] w fun e w' => e = .returned (.tuple #[.agg #[.int .i64 (z.tdiv 2), .int .i64 (z.tdiv 2), .int .i64 (f - n), .int .i64 (now + 1), .int .i64 0], .int .i64 0]) ∧ Below w.heap.size w w' := by
  have W0 : IntKind.i64.wrap (z.tdiv 2) = z.tdiv 2 := wraps_i64' _ (by rw [Int.tdiv_eq_ediv_of_nonneg (by omega)]; omega) (by rw [Int.tdiv_eq_ediv_of_nonneg (by omega)]; omega)
  have W1 : IntKind.i64.wrap (now + 1) = now + 1 := wraps_i64' _ (by omega) (by omega)
  have B2 := Lib.hid (below_two w (.cells #[.int .i64 z, .int .i64 t, .int .i64 f, .int .i64 s, .int .i64 p] 23) (.cells #[.int .i64 0, .int .i64 0, .int .i64 0, .int .i64 0, .int .i64 0] 23))
  have HP := Lib.hid (held_first z t f s p 23 w (.cells #[.int .i64 0, .int .i64 0, .int .i64 0, .int .i64 0, .int .i64 0] 23))
  have HR := Lib.hid (held_second 0 0 0 0 0 23 w (.cells #[.int .i64 z, .int .i64 t, .int .i64 f, .int .i64 s, .int .i64 p] 23))
  have hne1 : w.heap.size ≠ w.heap.size + 1 := by omega
  have hne2 : w.heap.size + 1 ≠ w.heap.size := by omega
  have Ta := Lib.hid (fun w => time_b a _ ha w)
  clear ha
  have Tnow := Lib.hid (fun w => time_b now _ hnow w)
  clear hnow
  have GT := Lib.hid (fun w => rgone_eq hgone w)
  clear hgone
  go_enter Try.func25, Try.ntmps25
  go_wp2_with fail
  refine (Ta.out _).mono ?_
  rintro e w3 ⟨rfl, rfl⟩
  go_wp2_with fail
  refine (Tnow.out _).mono ?_
  rintro e w3 ⟨rfl, rfl⟩
  go_wp2_with fail
  refine (GT.out _).mono ?_
  rintro e w2 ⟨rfl, bn⟩
  have HP := Lib.hid (HP.out.below bn)
  have HR := Lib.hid (HR.out.below bn)
  have BB := Lib.hid (B2.out.trans (bn.mono B2.out.size))
  clear bn GT B2
  obtain ⟨p0, p1, p2, p3, p4⟩ := HP.out.facts
  obtain ⟨g0, g1, g2, g3, g4⟩ := HP.out.free
  obtain ⟨r0, r1, r2, r3, r4⟩ := HR.out.facts
  obtain ⟨f0, f1, f2, f3, f4⟩ := HR.out.free
  have HP := Lib.hid (HP.out.set z t (f - n) s p)
  have HR := Lib.hid (HR.out.others w.heap.size hne1 (.int .i64 z) (.int .i64 t) (.int .i64 (f - n)) (.int .i64 s) (.int .i64 p))
  have BB := Lib.hid (below_five BB.out w.heap.size (Nat.le_refl _) (.int .i64 z) (.int .i64 t) (.int .i64 (f - n)) (.int .i64 s) (.int .i64 p))
  go_upto_region 4 with fail
  generalize (((((w2.setCell ⟨w.heap.size, 0, none⟩ (.int .i64 z)).setCell ⟨w.heap.size, 1, none⟩ (.int .i64 t)).setCell ⟨w.heap.size, 2, none⟩ (.int .i64 (f - n))).setCell ⟨w.heap.size, 3, none⟩ (.int .i64 s)).setCell ⟨w.heap.size, 4, none⟩ (.int .i64 p)) = w5 at HP HR BB ⊢
  clear p0 p1 p2 p3 p4 g0 g1 g2 g3 g4 r0 r1 r2 r3 r4 f0 f1 f2 f3 f4
  obtain ⟨p0, p1, p2, p3, p4⟩ := HP.out.facts
  obtain ⟨g0, g1, g2, g3, g4⟩ := HP.out.free
  obtain ⟨r0, r1, r2, r3, r4⟩ := HR.out.facts
  obtain ⟨f0, f1, f2, f3, f4⟩ := HR.out.free
  have HP := Lib.hid (HP.out.set0 (z.tdiv 2))
  have HR := Lib.hid (HR.out.other (a := ⟨w.heap.size, 0, none⟩) hne1 (.int .i64 (z.tdiv 2)))
  have BB := Lib.hid (BB.out.setCell (p := ⟨w.heap.size, 0, none⟩) (Nat.le_refl _) (.int .i64 (z.tdiv 2)))
  go_upto_region 7 with fail
  generalize w5.setCell ⟨w.heap.size, 0, none⟩ (.int .i64 (z.tdiv 2)) = w5 at HP HR BB ⊢
  clear p0 p1 p2 p3 p4 g0 g1 g2 g3 g4 r0 r1 r2 r3 r4 f0 f1 f2 f3 f4
  obtain ⟨p0, p1, p2, p3, p4⟩ := HP.out.facts
  obtain ⟨g0, g1, g2, g3, g4⟩ := HP.out.free
  obtain ⟨r0, r1, r2, r3, r4⟩ := HR.out.facts
  obtain ⟨f0, f1, f2, f3, f4⟩ := HR.out.free
  go_wp2
  exact bodyPost_ret (v := .tuple #[.agg #[.int .i64 (z.tdiv 2), .int .i64 (z.tdiv 2), .int .i64 (f - n), .int .i64 (now + 1), .int .i64 0], .int .i64 0]) (by simp [results, Try.results25, go_sem, r0, r1, r2, r3, r4]) rfl ⟨rfl, (by (repeat (with_reducible refine Below.setCell ?_ (by first | exact Nat.le_refl _ | exact Nat.le_succ _) _)); exact BB.out)⟩
theorem rlost_eq {z t f s p n a now z' t' f' s' p' e' : Int} (he : lostE ⟨z, t, f, s, p⟩ n a now = (⟨z', t', f', s', p'⟩, e')) (w : World) :
    Calls Try.prog 25 #[.agg #[.int .i64 z, .int .i64 t, .int .i64 f, .int .i64 s, .int .i64 p], .int .i64 n, .int .i64 a, .int .i64 now] w fun e w' => e = .returned (.tuple #[.agg #[.int .i64 z', .int .i64 t', .int .i64 f', .int .i64 s', .int .i64 p'], .int .i64 e']) ∧ Below w.heap.size w w' := by
  cases ha : timeB a
  · have e0 : lostE ⟨z, t, f, s, p⟩ n a now = (nul, 1) := by
      unfold lostE
      rw [ha]
      split <;> rfl
    rw [e0] at he
    simp only [nul, Prod.mk.injEq, St.mk.injEq] at he
    obtain ⟨⟨rfl, rfl, rfl, rfl, rfl⟩, rfl⟩ := he
    exact rlost_a z t f s p n a now w ha
  cases hnow : timeB now
  · have e0 : lostE ⟨z, t, f, s, p⟩ n a now = (nul, 1) := by
      unfold lostE
      rw [hnow, Bool.and_false]
      split <;> rfl
    rw [e0] at he
    simp only [nul, Prod.mk.injEq, St.mk.injEq] at he
    obtain ⟨⟨rfl, rfl, rfl, rfl, rfl⟩, rfl⟩ := he
    exact rlost_a2 z t f s p n a now w ha hnow
  by_cases hg : (rightB ⟨z, t, f, s, p⟩ && gramB n) = true
  rotate_left
  · rw [lostE, if_neg hg] at he
    have hgone : goneE ⟨z, t, f, s, p⟩ n = (nul, 1) := by rw [goneE, if_neg hg]
    simp only [nul, Prod.mk.injEq, St.mk.injEq] at he
    obtain ⟨⟨rfl, rfl, rfl, rfl, rfl⟩, rfl⟩ := he
    exact rlost_b z t f s p n a now _ _ _ _ _ _ w ha hnow hgone rfl rfl
  rw [lostE, if_pos hg, if_pos (by rw [ha, hnow]; rfl)] at he
  dsimp only at he
  by_cases hl : f < n
  · rw [if_pos hl] at he
    have hgone : goneE ⟨z, t, f, s, p⟩ n = (nul, 7) := by rw [goneE, if_pos hg]; exact if_pos hl
    simp only [nul, Prod.mk.injEq, St.mk.injEq] at he
    obtain ⟨⟨rfl, rfl, rfl, rfl, rfl⟩, rfl⟩ := he
    exact rlost_b z t f s p n a now _ _ _ _ _ _ w ha hnow hgone rfl rfl
  rw [if_neg hl] at he
  have hgone : goneE ⟨z, t, f, s, p⟩ n = (⟨z, t, f - n, s, p⟩, 0) := by rw [goneE, if_pos hg]; exact if_neg hl
  simp only [Bool.and_eq_true] at hg
  obtain ⟨⟨hz, hz'⟩, _⟩ := right_iff.1 hg.1
  obtain ⟨hn, hn'⟩ := in_iff.1 hnow
  dsimp only at hz hz'
  by_cases hs1 : a < s
  · have d1 : decide (s ≥ 0) = true := decide_eq_true (by have := (in_iff.1 ha).1; omega)
    rw [lostQ, if_pos hs1] at he
    simp only [lessQ, Prod.mk.injEq, St.mk.injEq] at he
    obtain ⟨⟨rfl, rfl, rfl, rfl, rfl⟩, rfl⟩ := he
    exact rlost_c z t f s p n a now w ha hnow hgone d1 (decide_eq_true hs1)
  rw [lostQ, if_neg hs1, show lessQ ⟨z, t, f, s, p⟩ n = (⟨z, t, f - n, s, p⟩ : St) from rfl] at he
  simp only [fallenQ, halfI, nextI, Prod.mk.injEq, St.mk.injEq] at he
  obtain ⟨⟨rfl, rfl, rfl, rfl, rfl⟩, rfl⟩ := he
  have d2 : decide (a < s) = false := decide_eq_false hs1
  by_cases hs2 : s ≥ 0
  · have d1 : decide (s ≥ 0) = true := decide_eq_true hs2
    by_cases hx : z.tdiv 2 < 2400
    · rw [if_pos hx]
      by_cases hy : 1099511627776 < now + 1
      · rw [if_pos hy]; exact rlost_d100 z t f s p n a now w ha hnow hgone d1 d2 hz hz' hn hn' hx hy
      · rw [if_neg hy]; exact rlost_d101 z t f s p n a now w ha hnow hgone d1 d2 hz hz' hn hn' hx hy
    · rw [if_neg hx]
      by_cases hy : 1099511627776 < now + 1
      · rw [if_pos hy]; exact rlost_d110 z t f s p n a now w ha hnow hgone d1 d2 hz hz' hn hn' hx hy
      · rw [if_neg hy]; exact rlost_d111 z t f s p n a now w ha hnow hgone d1 d2 hz hz' hn hn' hx hy
  · have d1 : decide (s ≥ 0) = false := decide_eq_false hs2
    by_cases hx : z.tdiv 2 < 2400
    · rw [if_pos hx]
      by_cases hy : 1099511627776 < now + 1
      · rw [if_pos hy]; exact rlost_d000 z t f s p n a now w ha hnow hgone d1 hz hz' hn hn' hx hy
      · rw [if_neg hy]; exact rlost_d001 z t f s p n a now w ha hnow hgone d1 hz hz' hn hn' hx hy
    · rw [if_neg hx]
      by_cases hy : 1099511627776 < now + 1
      · rw [if_pos hy]; exact rlost_d010 z t f s p n a now w ha hnow hgone d1 hz hz' hn hn' hx hy
      · rw [if_neg hy]; exact rlost_d011 z t f s p n a now w ha hnow hgone d1 hz hz' hn hn' hx hy
end Go.Proofs.Ytiglhdiclfknhaa
