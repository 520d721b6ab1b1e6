/- Walks of layer 7: the document's Acked and Lost. -/
import Derived.Test.YtiglhdiclfknhaaCgK
set_option linter.unusedSimpArgs false
set_option linter.unusedVariables false
namespace Go.Proofs.Ytiglhdiclfknhaa
open Go.RowKit
set_option maxHeartbeats 1600000 in
theorem racked_a (z t f s p n a : Int) (w : World) (ha : timeB a = false) :
    Calls Try.prog 23 #[.agg #[.int .i64 z, .int .i64 t, .int .i64 f, .int .i64 s, .int .i64 p], .int .i64 n, .int .i64 a] w fun e w' => e = .returned (.tuple #[.agg #[.int .i64 0, .int .i64 0, .int .i64 0, .int .i64 0, .int .i64 0], .int .i64 1]) ∧ Below w.heap.size w w' := by
  have B2 := Lib.hid (below_two w (.cells #[.int .i64 z, .int .i64 t, .int .i64 f, .int .i64 s, .int .i64 p] 23) (.cells #[.int .i64 0, .int .i64 0, .int .i64 0, .int .i64 0, .int .i64 0] 23))
  have HP := Lib.hid (held_first z t f s p 23 w (.cells #[.int .i64 0, .int .i64 0, .int .i64 0, .int .i64 0, .int .i64 0] 23))
  have HR := Lib.hid (held_second 0 0 0 0 0 23 w (.cells #[.int .i64 z, .int .i64 t, .int .i64 f, .int .i64 s, .int .i64 p] 23))
  have hne1 : w.heap.size ≠ w.heap.size + 1 := by omega
  have hne2 : w.heap.size + 1 ≠ w.heap.size := by omega
  have Ta := Lib.hid (fun w => time_b a _ ha w)
  clear ha
  go_enter Try.func23, Try.ntmps23
  go_wp2_with fail
  refine (Ta.out _).mono ?_
  rintro e w3 ⟨rfl, rfl⟩
  go_wp2
  exact bodyPost_ret (v := .tuple #[.agg #[.int .i64 0, .int .i64 0, .int .i64 0, .int .i64 0, .int .i64 0], .int .i64 1]) (by simp [results, Try.results23, go_sem]) rfl ⟨rfl, B2.out⟩
set_option maxHeartbeats 1600000 in
theorem racked_b (z t f s p n a z' t' f' s' p' e' : Int) (w : World) (ha : timeB a = true) (hgone : goneE ⟨z, t, f, s, p⟩ n = (⟨z', t', f', s', p'⟩, e')) (hne : (e' != 0) = true) (hne' : (e' == 0) = false) :
    Calls Try.prog 23 #[.agg #[.int .i64 z, .int .i64 t, .int .i64 f, .int .i64 s, .int .i64 p], .int .i64 n, .int .i64 a] w fun e w' => e = .returned (.tuple #[.agg #[.int .i64 z', .int .i64 t', .int .i64 f', .int .i64 s', .int .i64 p'], .int .i64 e']) ∧ Below w.heap.size w w' := by
  have B2 := Lib.hid (below_two w (.cells #[.int .i64 z, .int .i64 t, .int .i64 f, .int .i64 s, .int .i64 p] 23) (.cells #[.int .i64 0, .int .i64 0, .int .i64 0, .int .i64 0, .int .i64 0] 23))
  have HP := Lib.hid (held_first z t f s p 23 w (.cells #[.int .i64 0, .int .i64 0, .int .i64 0, .int .i64 0, .int .i64 0] 23))
  have HR := Lib.hid (held_second 0 0 0 0 0 23 w (.cells #[.int .i64 z, .int .i64 t, .int .i64 f, .int .i64 s, .int .i64 p] 23))
  have hne1 : w.heap.size ≠ w.heap.size + 1 := by omega
  have hne2 : w.heap.size + 1 ≠ w.heap.size := by omega
  have Ta := Lib.hid (fun w => time_b a _ ha w)
  clear ha
  have GT := Lib.hid (fun w => rgone_eq hgone w)
  clear hgone
  go_enter Try.func23, Try.ntmps23
  go_wp2_with fail
  refine (Ta.out _).mono ?_
  rintro e w3 ⟨rfl, rfl⟩
  go_wp2_with fail
  refine (GT.out _).mono ?_
  rintro e w2 ⟨rfl, bn⟩
  have HP := Lib.hid (HP.out.below bn)
  have HR := Lib.hid (HR.out.below bn)
  have BB := Lib.hid (B2.out.trans (bn.mono B2.out.size))
  clear bn GT B2
  obtain ⟨p0, p1, p2, p3, p4⟩ := HP.out.facts
  obtain ⟨g0, g1, g2, g3, g4⟩ := HP.out.free
  obtain ⟨r0, r1, r2, r3, r4⟩ := HR.out.facts
  obtain ⟨f0, f1, f2, f3, f4⟩ := HR.out.free
  have HP := Lib.hid (HP.out.set z' t' f' s' p')
  have HR := Lib.hid (HR.out.others w.heap.size hne1 (.int .i64 z') (.int .i64 t') (.int .i64 f') (.int .i64 s') (.int .i64 p'))
  have BB := Lib.hid (below_five BB.out w.heap.size (Nat.le_refl _) (.int .i64 z') (.int .i64 t') (.int .i64 f') (.int .i64 s') (.int .i64 p'))
  go_upto_region 4 with fail
  generalize (((((w2.setCell ⟨w.heap.size, 0, none⟩ (.int .i64 z')).setCell ⟨w.heap.size, 1, none⟩ (.int .i64 t')).setCell ⟨w.heap.size, 2, none⟩ (.int .i64 f')).setCell ⟨w.heap.size, 3, none⟩ (.int .i64 s')).setCell ⟨w.heap.size, 4, none⟩ (.int .i64 p')) = w5 at HP HR BB ⊢
  clear p0 p1 p2 p3 p4 g0 g1 g2 g3 g4 r0 r1 r2 r3 r4 f0 f1 f2 f3 f4
  obtain ⟨p0, p1, p2, p3, p4⟩ := HP.out.facts
  obtain ⟨g0, g1, g2, g3, g4⟩ := HP.out.free
  obtain ⟨r0, r1, r2, r3, r4⟩ := HR.out.facts
  obtain ⟨f0, f1, f2, f3, f4⟩ := HR.out.free
  go_wp2
  exact bodyPost_ret (v := .tuple #[.agg #[.int .i64 z', .int .i64 t', .int .i64 f', .int .i64 s', .int .i64 p'], .int .i64 e']) (by simp [results, Try.results23, go_sem, r0, r1, r2, r3, r4]) rfl ⟨rfl, (by (repeat (with_reducible refine Below.setCell ?_ (by first | exact Nat.le_refl _ | exact Nat.le_succ _) _)); exact BB.out)⟩
set_option maxHeartbeats 1600000 in
theorem racked_c (z t f s p n a : Int) (w : World) (ha : timeB a = true) (hgone : goneE ⟨z, t, f, s, p⟩ n = (⟨z, t, f - n, s, p⟩, 0)) (hs : decide (s ≥ 0) = true) (hs' : decide (a < s) = true) :
    Calls Try.prog 23 #[.agg #[.int .i64 z, .int .i64 t, .int .i64 f, .int .i64 s, .int .i64 p], .int .i64 n, .int .i64 a] w fun e w' => e = .returned (.tuple #[.agg #[.int .i64 z, .int .i64 t, .int .i64 (f - n), .int .i64 s, .int .i64 p], .int .i64 0]) ∧ Below w.heap.size w w' := by
  have B2 := Lib.hid (below_two w (.cells #[.int .i64 z, .int .i64 t, .int .i64 f, .int .i64 s, .int .i64 p] 23) (.cells #[.int .i64 0, .int .i64 0, .int .i64 0, .int .i64 0, .int .i64 0] 23))
  have HP := Lib.hid (held_first z t f s p 23 w (.cells #[.int .i64 0, .int .i64 0, .int .i64 0, .int .i64 0, .int .i64 0] 23))
  have HR := Lib.hid (held_second 0 0 0 0 0 23 w (.cells #[.int .i64 z, .int .i64 t, .int .i64 f, .int .i64 s, .int .i64 p] 23))
  have hne1 : w.heap.size ≠ w.heap.size + 1 := by omega
  have hne2 : w.heap.size + 1 ≠ w.heap.size := by omega
  have Ta := Lib.hid (fun w => time_b a _ ha w)
  clear ha
  have GT := Lib.hid (fun w => rgone_eq hgone w)
  clear hgone
  go_enter Try.func23, Try.ntmps23
  go_wp2_with fail
  refine (Ta.out _).mono ?_
  rintro e w3 ⟨rfl, rfl⟩
  go_wp2_with fail
  refine (GT.out _).mono ?_
  rintro e w2 ⟨rfl, bn⟩
  have HP := Lib.hid (HP.out.below bn)
  have HR := Lib.hid (HR.out.below bn)
  have BB := Lib.hid (B2.out.trans (bn.mono B2.out.size))
  clear bn GT B2
  obtain ⟨p0, p1, p2, p3, p4⟩ := HP.out.facts
  obtain ⟨g0, g1, g2, g3, g4⟩ := HP.out.free
  obtain ⟨r0, r1, r2, r3, r4⟩ := HR.out.facts
  obtain ⟨f0, f1, f2, f3, f4⟩ := HR.out.free
  have HP := Lib.hid (HP.out.set z t (f - n) s p)
  have HR := Lib.hid (HR.out.others w.heap.size hne1 (.int .i64 z) (.int .i64 t) (.int .i64 (f - n)) (.int .i64 s) (.int .i64 p))
  have BB := Lib.hid (below_five BB.out w.heap.size (Nat.le_refl _) (.int .i64 z) (.int .i64 t) (.int .i64 (f - n)) (.int .i64 s) (.int .i64 p))
  go_upto_region 4 with fail
  generalize (((((w2.setCell ⟨w.heap.size, 0, none⟩ (.int .i64 z)).setCell ⟨w.heap.size, 1, none⟩ (.int .i64 t)).setCell ⟨w.heap.size, 2, none⟩ (.int .i64 (f - n))).setCell ⟨w.heap.size, 3, none⟩ (.int .i64 s)).setCell ⟨w.heap.size, 4, none⟩ (.int .i64 p)) = w5 at HP HR BB ⊢
  clear p0 p1 p2 p3 p4 g0 g1 g2 g3 g4 r0 r1 r2 r3 r4 f0 f1 f2 f3 f4
  obtain ⟨p0, p1, p2, p3, p4⟩ := HP.out.facts
  obtain ⟨g0, g1, g2, g3, g4⟩ := HP.out.free
  obtain ⟨r0, r1, r2, r3, r4⟩ := HR.out.facts
  obtain ⟨f0, f1, f2, f3, f4⟩ := HR.out.free
  go_wp2
  exact bodyPost_ret (v := .tuple #[.agg #[.int .i64 z, .int .i64 t, .int .i64 (f - n), .int .i64 s, .int .i64 p], .int .i64 0]) (by simp [results, Try.results23, go_sem, r0, r1, r2, r3, r4]) rfl ⟨rfl, (by (repeat (with_reducible refine Below.setCell ?_ (by first | exact Nat.le_refl _ | exact Nat.le_succ _) _)); exact BB.out)⟩
set_option maxHeartbeats 1600000 in
theorem racked_d1a0 (z f s p n a : Int) (w : World) (ha : timeB a = true) (hgone : goneE ⟨z, 0, f, s, p⟩ n = (⟨z, 0, f - n, s, p⟩, 0)) (hs : decide (s ≥ 0) = false) (hz : 2400 ≤ z) (hz' : z ≤ 1073741824) (hp : 0 ≤ p) (hp' : p < z) (hn : 1 ≤ n) (hn' : n ≤ 1200) (hc : 1073741824 < z + n) :
    Calls Try.prog 23 #[.agg #[.int .i64 z, .int .i64 0, .int .i64 f, .int .i64 s, .int .i64 p], .int .i64 n, .int .i64 a] w fun e w' => e = .returned (.tuple #[.agg #[.int .i64 1073741824, .int .i64 0, .int .i64 (f - n), .int .i64 s, .int .i64 0], .int .i64 0]) ∧ Below w.heap.size w w' := by
  have W0 : IntKind.i64.wrap (z + n) = z + n := wraps_i64' _ (by omega) (by omega)
  have B2 := Lib.hid (below_two w (.cells #[.int .i64 z, .int .i64 0, .int .i64 f, .int .i64 s, .int .i64 p] 23) (.cells #[.int .i64 0, .int .i64 0, .int .i64 0, .int .i64 0, .int .i64 0] 23))
  have HP := Lib.hid (held_first z 0 f s p 23 w (.cells #[.int .i64 0, .int .i64 0, .int .i64 0, .int .i64 0, .int .i64 0] 23))
  have HR := Lib.hid (held_second 0 0 0 0 0 23 w (.cells #[.int .i64 z, .int .i64 0, .int .i64 f, .int .i64 s, .int .i64 p] 23))
  have hne1 : w.heap.size ≠ w.heap.size + 1 := by omega
  have hne2 : w.heap.size + 1 ≠ w.heap.size := by omega
  have Ta := Lib.hid (fun w => time_b a _ ha w)
  clear ha
  have GT := Lib.hid (fun w => rgone_eq hgone w)
  clear hgone
  go_enter Try.func23, Try.ntmps23
  go_wp2_with fail
  refine (Ta.out _).mono ?_
  rintro e w3 ⟨rfl, rfl⟩
  go_wp2_with fail
  refine (GT.out _).mono ?_
  rintro e w2 ⟨rfl, bn⟩
  have HP := Lib.hid (HP.out.below bn)
  have HR := Lib.hid (HR.out.below bn)
  have BB := Lib.hid (B2.out.trans (bn.mono B2.out.size))
  clear bn GT B2
  obtain ⟨p0, p1, p2, p3, p4⟩ := HP.out.facts
  obtain ⟨g0, g1, g2, g3, g4⟩ := HP.out.free
  obtain ⟨r0, r1, r2, r3, r4⟩ := HR.out.facts
  obtain ⟨f0, f1, f2, f3, f4⟩ := HR.out.free
  have HP := Lib.hid (HP.out.set z 0 (f - n) s p)
  have HR := Lib.hid (HR.out.others w.heap.size hne1 (.int .i64 z) (.int .i64 0) (.int .i64 (f - n)) (.int .i64 s) (.int .i64 p))
  have BB := Lib.hid (below_five BB.out w.heap.size (Nat.le_refl _) (.int .i64 z) (.int .i64 0) (.int .i64 (f - n)) (.int .i64 s) (.int .i64 p))
  go_upto_region 4 with fail
  generalize (((((w2.setCell ⟨w.heap.size, 0, none⟩ (.int .i64 z)).setCell ⟨w.heap.size, 1, none⟩ (.int .i64 0)).setCell ⟨w.heap.size, 2, none⟩ (.int .i64 (f - n))).setCell ⟨w.heap.size, 3, none⟩ (.int .i64 s)).setCell ⟨w.heap.size, 4, none⟩ (.int .i64 p)) = w5 at HP HR BB ⊢
  clear p0 p1 p2 p3 p4 g0 g1 g2 g3 g4 r0 r1 r2 r3 r4 f0 f1 f2 f3 f4
  obtain ⟨p0, p1, p2, p3, p4⟩ := HP.out.facts
  obtain ⟨g0, g1, g2, g3, g4⟩ := HP.out.free
  obtain ⟨r0, r1, r2, r3, r4⟩ := HR.out.facts
  obtain ⟨f0, f1, f2, f3, f4⟩ := HR.out.free
  go_wp2
  exact bodyPost_ret (v := .tuple #[.agg #[.int .i64 1073741824, .int .i64 0, .int .i64 (f - n), .int .i64 s, .int .i64 0], .int .i64 0]) (by simp [results, Try.results23, go_sem, r0, r1, r2, r3, r4]) rfl ⟨rfl, (by (repeat (with_reducible refine Below.setCell ?_ (by first | exact Nat.le_refl _ | exact Nat.le_succ _) _)); exact BB.out)⟩
set_option maxHeartbeats 1600000 in
theorem racked_d2a0 (z f s p n a : Int) (w : World) (ha : timeB a = true) (hgone : goneE ⟨z, 0, f, s, p⟩ n = (⟨z, 0, f - n, s, p⟩, 0)) (hs : decide (s ≥ 0) = false) (hz : 2400 ≤ z) (hz' : z ≤ 1073741824) (hp : 0 ≤ p) (hp' : p < z) (hn : 1 ≤ n) (hn' : n ≤ 1200) (hc : ¬ 1073741824 < z + n) :
    Calls Try.prog 23 #[.agg #[.int .i64 z, .int .i64 0, .int .i64 f, .int .i64 s, .int .i64 p], .int .i64 n, .int .i64 a] w fun e w' => e = .returned (.tuple #[.agg #[.int .i64 (z + n), .int .i64 0, .int .i64 (f - n), .int .i64 s, .int .i64 0], .int .i64 0]) ∧ Below w.heap.size w w' := by
  have W0 : IntKind.i64.wrap (z + n) = z + n := wraps_i64' _ (by omega) (by omega)
  have B2 := Lib.hid (below_two w (.cells #[.int .i64 z, .int .i64 0, .int .i64 f, .int .i64 s, .int .i64 p] 23) (.cells #[.int .i64 0, .int .i64 0, .int .i64 0, .int .i64 0, .int .i64 0] 23))
  have HP := Lib.hid (held_first z 0 f s p 23 w (.cells #[.int .i64 0, .int .i64 0, .int .i64 0, .int .i64 0, .int .i64 0] 23))
  have HR := Lib.hid (held_second 0 0 0 0 0 23 w (.cells #[.int .i64 z, .int .i64 0, .int .i64 f, .int .i64 s, .int .i64 p] 23))
  have hne1 : w.heap.size ≠ w.heap.size + 1 := by omega
  have hne2 : w.heap.size + 1 ≠ w.heap.size := by omega
  have Ta := Lib.hid (fun w => time_b a _ ha w)
  clear ha
  have GT := Lib.hid (fun w => rgone_eq hgone w)
  clear hgone
  go_enter Try.func23, Try.ntmps23
  go_wp2_with fail
  refine (Ta.out _).mono ?_
  rintro e w3 ⟨rfl, rfl⟩
  go_wp2_with fail
  refine (GT.out _).mono ?_
  rintro e w2 ⟨rfl, bn⟩
  have HP := Lib.hid (HP.out.below bn)
  have HR := Lib.hid (HR.out.below bn)
  have BB := Lib.hid (B2.out.trans (bn.mono B2.out.size))
  clear bn GT B2
  obtain ⟨p0, p1, p2, p3, p4⟩ := HP.out.facts
  obtain ⟨g0, g1, g2, g3, g4⟩ := HP.out.free
  obtain ⟨r0, r1, r2, r3, r4⟩ := HR.out.facts
  obtain ⟨f0, f1, f2, f3, f4⟩ := HR.out.free
  have HP := Lib.hid (HP.out.set z 0 (f - n) s p)
  have HR := Lib.hid (HR.out.others w.heap.size hne1 (.int .i64 z) (.int .i64 0) (.int .i64 (f - n)) (.int .i64 s) (.int .i64 p))
  have BB := Lib.hid (below_five BB.out w.heap.size (Nat.le_refl _) (.int .i64 z) (.int .i64 0) (.int .i64 (f - n)) (.int .i64 s) (.int .i64 p))
  go_upto_region 4 with fail
  generalize (((((w2.setCell ⟨w.heap.size, 0, none⟩ (.int .i64 z)).setCell ⟨w.heap.size, 1, none⟩ (.int .i64 0)).setCell ⟨w.heap.size, 2, none⟩ (.int .i64 (f - n))).setCell ⟨w.heap.size, 3, none⟩ (.int .i64 s)).setCell ⟨w.heap.size, 4, none⟩ (.int .i64 p)) = w5 at HP HR BB ⊢
  clear p0 p1 p2 p3 p4 g0 g1 g2 g3 g4 r0 r1 r2 r3 r4 f0 f1 f2 f3 f4
  obtain ⟨p0, p1, p2, p3, p4⟩ := HP.out.facts
  obtain ⟨g0, g1, g2, g3, g4⟩ := HP.out.free
  obtain ⟨r0, r1, r2, r3, r4⟩ := HR.out.facts
  obtain ⟨f0, f1, f2, f3, f4⟩ := HR.out.free
  go_wp2
  exact bodyPost_ret (v := .tuple #[.agg #[.int .i64 (z + n), .int .i64 0, .int .i64 (f - n), .int .i64 s, .int .i64 0], .int .i64 0]) (by simp [results, Try.results23, go_sem, r0, r1, r2, r3, r4]) rfl ⟨rfl, (by (repeat (with_reducible refine Below.setCell ?_ (by first | exact Nat.le_refl _ | exact Nat.le_succ _) _)); exact BB.out)⟩
set_option maxHeartbeats 1600000 in
theorem racked_d1b0 (z t f s p n a : Int) (w : World) (ha : timeB a = true) (hgone : goneE ⟨z, t, f, s, p⟩ n = (⟨z, t, f - n, s, p⟩, 0)) (hs : decide (s ≥ 0) = false) (hz : 2400 ≤ z) (hz' : z ≤ 1073741824) (hp : 0 ≤ p) (hp' : p < z) (hn : 1 ≤ n) (hn' : n ≤ 1200) (h0 : (t == 0) = false) (h1 : decide (z < t) = true) (hc : 1073741824 < z + n) :
    Calls Try.prog 23 #[.agg #[.int .i64 z, .int .i64 t, .int .i64 f, .int .i64 s, .int .i64 p], .int .i64 n, .int .i64 a] w fun e w' => e = .returned (.tuple #[.agg #[.int .i64 1073741824, .int .i64 t, .int .i64 (f - n), .int .i64 s, .int .i64 0], .int .i64 0]) ∧ Below w.heap.size w w' := by
  have W0 : IntKind.i64.wrap (z + n) = z + n := wraps_i64' _ (by omega) (by omega)
  have B2 := Lib.hid (below_two w (.cells #[.int .i64 z, .int .i64 t, .int .i64 f, .int .i64 s, .int .i64 p] 23) (.cells #[.int .i64 0, .int .i64 0, .int .i64 0, .int .i64 0, .int .i64 0] 23))
  have HP := Lib.hid (held_first z t f s p 23 w (.cells #[.int .i64 0, .int .i64 0, .int .i64 0, .int .i64 0, .int .i64 0] 23))
  have HR := Lib.hid (held_second 0 0 0 0 0 23 w (.cells #[.int .i64 z, .int .i64 t, .int .i64 f, .int .i64 s, .int .i64 p] 23))
  have hne1 : w.heap.size ≠ w.heap.size + 1 := by omega
  have hne2 : w.heap.size + 1 ≠ w.heap.size := by omega
  have Ta := Lib.hid (fun w => time_b a _ ha w)
  clear ha
  have GT := Lib.hid (fun w => rgone_eq hgone w)
  clear hgone
  go_enter Try.func23, Try.ntmps23
  go_wp2_with fail
  refine (Ta.out _).mono ?_
  rintro e w3 ⟨rfl, rfl⟩
  go_wp2_with fail
  refine (GT.out _).mono ?_
  rintro e w2 ⟨rfl, bn⟩
  have HP := Lib.hid (HP.out.below bn)
  have HR := Lib.hid (HR.out.below bn)
  have BB := Lib.hid (B2.out.trans (bn.mono B2.out.size))
  clear bn GT B2
  obtain ⟨p0, p1, p2, p3, p4⟩ := HP.out.facts
  obtain ⟨g0, g1, g2, g3, g4⟩ := HP.out.free
  obtain ⟨r0, r1, r2, r3, r4⟩ := HR.out.facts
  obtain ⟨f0, f1, f2, f3, f4⟩ := HR.out.free
  have HP := Lib.hid (HP.out.set z t (f - n) s p)
  have HR := Lib.hid (HR.out.others w.heap.size hne1 (.int .i64 z) (.int .i64 t) (.int .i64 (f - n)) (.int .i64 s) (.int .i64 p))
  have BB := Lib.hid (below_five BB.out w.heap.size (Nat.le_refl _) (.int .i64 z) (.int .i64 t) (.int .i64 (f - n)) (.int .i64 s) (.int .i64 p))
  go_upto_region 4 with fail
  generalize (((((w2.setCell ⟨w.heap.size, 0, none⟩ (.int .i64 z)).setCell ⟨w.heap.size, 1, none⟩ (.int .i64 t)).setCell ⟨w.heap.size, 2, none⟩ (.int .i64 (f - n))).setCell ⟨w.heap.size, 3, none⟩ (.int .i64 s)).setCell ⟨w.heap.size, 4, none⟩ (.int .i64 p)) = w5 at HP HR BB ⊢
  clear p0 p1 p2 p3 p4 g0 g1 g2 g3 g4 r0 r1 r2 r3 r4 f0 f1 f2 f3 f4
  obtain ⟨p0, p1, p2, p3, p4⟩ := HP.out.facts
  obtain ⟨g0, g1, g2, g3, g4⟩ := HP.out.free
  obtain ⟨r0, r1, r2, r3, r4⟩ := HR.out.facts
  obtain ⟨f0, f1, f2, f3, f4⟩ := HR.out.free
  go_wp2
  exact bodyPost_ret (v := .tuple #[.agg #[.int .i64 1073741824, .int .i64 t, .int .i64 (f - n), .int .i64 s, .int .i64 0], .int .i64 0]) (by simp [results, Try.results23, go_sem, r0, r1, r2, r3, r4]) rfl ⟨rfl, (by (repeat (with_reducible refine Below.setCell ?_ (by first | exact Nat.le_refl _ | exact Nat.le_succ _) _)); exact BB.out)⟩
set_option maxHeartbeats 1600000 in
theorem racked_d2b0 (z t f s p n a : Int) (w : World) (ha : timeB a = true) (hgone : goneE ⟨z, t, f, s, p⟩ n = (⟨z, t, f - n, s, p⟩, 0)) (hs : decide (s ≥ 0) = false) (hz : 2400 ≤ z) (hz' : z ≤ 1073741824) (hp : 0 ≤ p) (hp' : p < z) (hn : 1 ≤ n) (hn' : n ≤ 1200) (h0 : (t == 0) = false) (h1 : decide (z < t) = true) (hc : ¬ 1073741824 < z + n) :
    Calls Try.prog 23 #[.agg #[.int .i64 z, .int .i64 t, .int .i64 f, .int .i64 s, .int .i64 p], .int .i64 n, .int .i64 a] w fun e w' => e = .returned (.tuple #[.agg #[.int .i64 (z + n), .int .i64 t, .int .i64 (f - n), .int .i64 s, .int .i64 0], .int .i64 0]) ∧ Below w.heap.size w w' := by
  have W0 : IntKind.i64.wrap (z + n) = z + n := wraps_i64' _ (by omega) (by omega)
  have B2 := Lib.hid (below_two w (.cells #[.int .i64 z, .int .i64 t, .int .i64 f, .int .i64 s, .int .i64 p] 23) (.cells #[.int .i64 0, .int .i64 0, .int .i64 0, .int .i64 0, .int .i64 0] 23))
  have HP := Lib.hid (held_first z t f s p 23 w (.cells #[.int .i64 0, .int .i64 0, .int .i64 0, .int .i64 0, .int .i64 0] 23))
  have HR := Lib.hid (held_second 0 0 0 0 0 23 w (.cells #[.int .i64 z, .int .i64 t, .int .i64 f, .int .i64 s, .int .i64 p] 23))
  have hne1 : w.heap.size ≠ w.heap.size + 1 := by omega
  have hne2 : w.heap.size + 1 ≠ w.heap.size := by omega
  have Ta := Lib.hid (fun w => time_b a _ ha w)
  clear ha
  have GT := Lib.hid (fun w => rgone_eq hgone w)
  clear hgone
  go_enter Try.func23, Try.ntmps23
  go_wp2_with fail
  refine (Ta.out _).mono ?_
  rintro e w3 ⟨rfl, rfl⟩
  go_wp2_with fail
  refine (GT.out _).mono ?_
  rintro e w2 ⟨rfl, bn⟩
  have HP := Lib.hid (HP.out.below bn)
  have HR := Lib.hid (HR.out.below bn)
  have BB := Lib.hid (B2.out.trans (bn.mono B2.out.size))
  clear bn GT B2
  obtain ⟨p0, p1, p2, p3, p4⟩ := HP.out.facts
  obtain ⟨g0, g1, g2, g3, g4⟩ := HP.out.free
  obtain ⟨r0, r1, r2, r3, r4⟩ := HR.out.facts
  obtain ⟨f0, f1, f2, f3, f4⟩ := HR.out.free
  have HP := Lib.hid (HP.out.set z t (f - n) s p)
  have HR := Lib.hid (HR.out.others w.heap.size hne1 (.int .i64 z) (.int .i64 t) (.int .i64 (f - n)) (.int .i64 s) (.int .i64 p))
  have BB := Lib.hid (below_five BB.out w.heap.size (Nat.le_refl _) (.int .i64 z) (.int .i64 t) (.int .i64 (f - n)) (.int .i64 s) (.int .i64 p))
  go_upto_region 4 with fail
  generalize (((((w2.setCell ⟨w.heap.size, 0, none⟩ (.int .i64 z)).setCell ⟨w.heap.size, 1, none⟩ (.int .i64 t)).setCell ⟨w.heap.size, 2, none⟩ (.int .i64 (f - n))).setCell ⟨w.heap.size, 3, none⟩ (.int .i64 s)).setCell ⟨w.heap.size, 4, none⟩ (.int .i64 p)) = w5 at HP HR BB ⊢
  clear p0 p1 p2 p3 p4 g0 g1 g2 g3 g4 r0 r1 r2 r3 r4 f0 f1 f2 f3 f4
  obtain ⟨p0, p1, p2, p3, p4⟩ := HP.out.facts
  obtain ⟨g0, g1, g2, g3, g4⟩ := HP.out.free
  obtain ⟨r0, r1, r2, r3, r4⟩ := HR.out.facts
  obtain ⟨f0, f1, f2, f3, f4⟩ := HR.out.free
  go_wp2
  exact bodyPost_ret (v := .tuple #[.agg #[.int .i64 (z + n), .int .i64 t, .int .i64 (f - n), .int .i64 s, .int .i64 0], .int .i64 0]) (by simp [results, Try.results23, go_sem, r0, r1, r2, r3, r4]) rfl ⟨rfl, (by (repeat (with_reducible refine Below.setCell ?_ (by first | exact Nat.le_refl _ | exact Nat.le_succ _) _)); exact BB.out)⟩
set_option maxHeartbeats 1600000 in
theorem racked_d30 (z t f s p n a : Int) (w : World) (ha : timeB a = true) (hgone : goneE ⟨z, t, f, s, p⟩ n = (⟨z, t, f - n, s, p⟩, 0)) (hs : decide (s ≥ 0) = false) (hz : 2400 ≤ z) (hz' : z ≤ 1073741824) (hp : 0 ≤ p) (hp' : p < z) (hn : 1 ≤ n) (hn' : n ≤ 1200) (h0 : (t == 0) = false) (h1 : decide (z < t) = false) (h2 : decide (p + n ≥ z) = true) (hc : 1073741824 < z + 1200) (hd : ¬ 1073741823 < p + n - z) :
    Calls Try.prog 23 #[.agg #[.int .i64 z, .int .i64 t, .int .i64 f, .int .i64 s, .int .i64 p], .int .i64 n, .int .i64 a] w fun e w' => e = .returned (.tuple #[.agg #[.int .i64 1073741824, .int .i64 t, .int .i64 (f - n), .int .i64 s, .int .i64 (p + n - z)], .int .i64 0]) ∧ Below w.heap.size w w' := by
  have W0 : IntKind.i64.wrap (p + n) = p + n := wraps_i64' _ (by omega) (by omega)
  have W1 : IntKind.i64.wrap (p + n - z) = p + n - z := wraps_i64' _ (by omega) (by omega)
  have W2 : IntKind.i64.wrap (z + 1200) = z + 1200 := wraps_i64' _ (by omega) (by omega)
  have B2 := Lib.hid (below_two w (.cells #[.int .i64 z, .int .i64 t, .int .i64 f, .int .i64 s, .int .i64 p] 23) (.cells #[.int .i64 0, .int .i64 0, .int .i64 0, .int .i64 0, .int .i64 0] 23))
  have HP := Lib.hid (held_first z t f s p 23 w (.cells #[.int .i64 0, .int .i64 0, .int .i64 0, .int .i64 0, .int .i64 0] 23))
  have HR := Lib.hid (held_second 0 0 0 0 0 23 w (.cells #[.int .i64 z, .int .i64 t, .int .i64 f, .int .i64 s, .int .i64 p] 23))
  have hne1 : w.heap.size ≠ w.heap.size + 1 := by omega
  have hne2 : w.heap.size + 1 ≠ w.heap.size := by omega
  have Ta := Lib.hid (fun w => time_b a _ ha w)
  clear ha
  have GT := Lib.hid (fun w => rgone_eq hgone w)
  clear hgone
  go_enter Try.func23, Try.ntmps23
  go_wp2_with fail
  refine (Ta.out _).mono ?_
  rintro e w3 ⟨rfl, rfl⟩
  go_wp2_with fail
  refine (GT.out _).mono ?_
  rintro e w2 ⟨rfl, bn⟩
  have HP := Lib.hid (HP.out.below bn)
  have HR := Lib.hid (HR.out.below bn)
  have BB := Lib.hid (B2.out.trans (bn.mono B2.out.size))
  clear bn GT B2
  obtain ⟨p0, p1, p2, p3, p4⟩ := HP.out.facts
  obtain ⟨g0, g1, g2, g3, g4⟩ := HP.out.free
  obtain ⟨r0, r1, r2, r3, r4⟩ := HR.out.facts
  obtain ⟨f0, f1, f2, f3, f4⟩ := HR.out.free
  have HP := Lib.hid (HP.out.set z t (f - n) s p)
  have HR := Lib.hid (HR.out.others w.heap.size hne1 (.int .i64 z) (.int .i64 t) (.int .i64 (f - n)) (.int .i64 s) (.int .i64 p))
  have BB := Lib.hid (below_five BB.out w.heap.size (Nat.le_refl _) (.int .i64 z) (.int .i64 t) (.int .i64 (f - n)) (.int .i64 s) (.int .i64 p))
  go_upto_region 4 with fail
  generalize (((((w2.setCell ⟨w.heap.size, 0, none⟩ (.int .i64 z)).setCell ⟨w.heap.size, 1, none⟩ (.int .i64 t)).setCell ⟨w.heap.size, 2, none⟩ (.int .i64 (f - n))).setCell ⟨w.heap.size, 3, none⟩ (.int .i64 s)).setCell ⟨w.heap.size, 4, none⟩ (.int .i64 p)) = w5 at HP HR BB ⊢
  clear p0 p1 p2 p3 p4 g0 g1 g2 g3 g4 r0 r1 r2 r3 r4 f0 f1 f2 f3 f4
  obtain ⟨p0, p1, p2, p3, p4⟩ := HP.out.facts
  obtain ⟨g0, g1, g2, g3, g4⟩ := HP.out.free
  obtain ⟨r0, r1, r2, r3, r4⟩ := HR.out.facts
  obtain ⟨f0, f1, f2, f3, f4⟩ := HR.out.free
  have HP := Lib.hid (HP.out.set4 (p + n))
  have HR := Lib.hid (HR.out.other (a := ⟨w.heap.size, 4, none⟩) hne1 (.int .i64 (p + n)))
  have BB := Lib.hid (BB.out.setCell (p := ⟨w.heap.size, 4, none⟩) (Nat.le_refl _) (.int .i64 (p + n)))
  go_upto_region 11 with fail
  generalize w5.setCell ⟨w.heap.size, 4, none⟩ (.int .i64 (p + n)) = w5 at HP HR BB ⊢
  clear p0 p1 p2 p3 p4 g0 g1 g2 g3 g4 r0 r1 r2 r3 r4 f0 f1 f2 f3 f4
  obtain ⟨p0, p1, p2, p3, p4⟩ := HP.out.facts
  obtain ⟨g0, g1, g2, g3, g4⟩ := HP.out.free
  obtain ⟨r0, r1, r2, r3, r4⟩ := HR.out.facts
  obtain ⟨f0, f1, f2, f3, f4⟩ := HR.out.free
  have HP := Lib.hid (HP.out.set4 (p + n - z))
  have HR := Lib.hid (HR.out.other (a := ⟨w.heap.size, 4, none⟩) hne1 (.int .i64 (p + n - z)))
  have BB := Lib.hid (BB.out.setCell (p := ⟨w.heap.size, 4, none⟩) (Nat.le_refl _) (.int .i64 (p + n - z)))
  go_upto_region 13 with fail
  generalize w5.setCell ⟨w.heap.size, 4, none⟩ (.int .i64 (p + n - z)) = w5 at HP HR BB ⊢
  clear p0 p1 p2 p3 p4 g0 g1 g2 g3 g4 r0 r1 r2 r3 r4 f0 f1 f2 f3 f4
  obtain ⟨p0, p1, p2, p3, p4⟩ := HP.out.facts
  obtain ⟨g0, g1, g2, g3, g4⟩ := HP.out.free
  obtain ⟨r0, r1, r2, r3, r4⟩ := HR.out.facts
  obtain ⟨f0, f1, f2, f3, f4⟩ := HR.out.free
  have HP := Lib.hid (HP.out.set0 1073741824)
  have HR := Lib.hid (HR.out.other (a := ⟨w.heap.size, 0, none⟩) hne1 (.int .i64 1073741824))
  have BB := Lib.hid (BB.out.setCell (p := ⟨w.heap.size, 0, none⟩) (Nat.le_refl _) (.int .i64 1073741824))
  go_upto_region 14 with fail
  generalize w5.setCell ⟨w.heap.size, 0, none⟩ (.int .i64 1073741824) = w5 at HP HR BB ⊢
  clear p0 p1 p2 p3 p4 g0 g1 g2 g3 g4 r0 r1 r2 r3 r4 f0 f1 f2 f3 f4
  obtain ⟨p0, p1, p2, p3, p4⟩ := HP.out.facts
  obtain ⟨g0, g1, g2, g3, g4⟩ := HP.out.free
  obtain ⟨r0, r1, r2, r3, r4⟩ := HR.out.facts
  obtain ⟨f0, f1, f2, f3, f4⟩ := HR.out.free
  go_wp2
  exact bodyPost_ret (v := .tuple #[.agg #[.int .i64 1073741824, .int .i64 t, .int .i64 (f - n), .int .i64 s, .int .i64 (p + n - z)], .int .i64 0]) (by simp [results, Try.results23, go_sem, r0, r1, r2, r3, r4]) rfl ⟨rfl, (by (repeat (with_reducible refine Below.setCell ?_ (by first | exact Nat.le_refl _ | exact Nat.le_succ _) _)); exact BB.out)⟩
set_option maxHeartbeats 1600000 in
theorem racked_d40 (z t f s p n a : Int) (w : World) (ha : timeB a = true) (hgone : goneE ⟨z, t, f, s, p⟩ n = (⟨z, t, f - n, s, p⟩, 0)) (hs : decide (s ≥ 0) = false) (hz : 2400 ≤ z) (hz' : z ≤ 1073741824) (hp : 0 ≤ p) (hp' : p < z) (hn : 1 ≤ n) (hn' : n ≤ 1200) (h0 : (t == 0) = false) (h1 : decide (z < t) = false) (h2 : decide (p + n ≥ z) = true) (hc : ¬ 1073741824 < z + 1200) (hd : ¬ z + 1200 - 1 < p + n - z) (hd' : ¬ z + 1199 < p + n - z) :
    Calls Try.prog 23 #[.agg #[.int .i64 z, .int .i64 t, .int .i64 f, .int .i64 s, .int .i64 p], .int .i64 n, .int .i64 a] w fun e w' => e = .returned (.tuple #[.agg #[.int .i64 (z + 1200), .int .i64 t, .int .i64 (f - n), .int .i64 s, .int .i64 (p + n - z)], .int .i64 0]) ∧ Below w.heap.size w w' := by
  have W0 : IntKind.i64.wrap (p + n) = p + n := wraps_i64' _ (by omega) (by omega)
  have W1 : IntKind.i64.wrap (p + n - z) = p + n - z := wraps_i64' _ (by omega) (by omega)
  have W2 : IntKind.i64.wrap (z + 1200) = z + 1200 := wraps_i64' _ (by omega) (by omega)
  have W3 : IntKind.i64.wrap (z + 1200 - 1) = z + 1200 - 1 := wraps_i64' _ (by omega) (by omega)
  have W4 : IntKind.i64.wrap (z + 1199) = z + 1199 := wraps_i64' _ (by omega) (by omega)
  have B2 := Lib.hid (below_two w (.cells #[.int .i64 z, .int .i64 t, .int .i64 f, .int .i64 s, .int .i64 p] 23) (.cells #[.int .i64 0, .int .i64 0, .int .i64 0, .int .i64 0, .int .i64 0] 23))
  have HP := Lib.hid (held_first z t f s p 23 w (.cells #[.int .i64 0, .int .i64 0, .int .i64 0, .int .i64 0, .int .i64 0] 23))
  have HR := Lib.hid (held_second 0 0 0 0 0 23 w (.cells #[.int .i64 z, .int .i64 t, .int .i64 f, .int .i64 s, .int .i64 p] 23))
  have hne1 : w.heap.size ≠ w.heap.size + 1 := by omega
  have hne2 : w.heap.size + 1 ≠ w.heap.size := by omega
  have Ta := Lib.hid (fun w => time_b a _ ha w)
  clear ha
  have GT := Lib.hid (fun w => rgone_eq hgone w)
  clear hgone
  go_enter Try.func23, Try.ntmps23
  go_wp2_with fail
  refine (Ta.out _).mono ?_
  rintro e w3 ⟨rfl, rfl⟩
  go_wp2_with fail
  refine (GT.out _).mono ?_
  rintro e w2 ⟨rfl, bn⟩
  have HP := Lib.hid (HP.out.below bn)
  have HR := Lib.hid (HR.out.below bn)
  have BB := Lib.hid (B2.out.trans (bn.mono B2.out.size))
  clear bn GT B2
  obtain ⟨p0, p1, p2, p3, p4⟩ := HP.out.facts
  obtain ⟨g0, g1, g2, g3, g4⟩ := HP.out.free
  obtain ⟨r0, r1, r2, r3, r4⟩ := HR.out.facts
  obtain ⟨f0, f1, f2, f3, f4⟩ := HR.out.free
  have HP := Lib.hid (HP.out.set z t (f - n) s p)
  have HR := Lib.hid (HR.out.others w.heap.size hne1 (.int .i64 z) (.int .i64 t) (.int .i64 (f - n)) (.int .i64 s) (.int .i64 p))
  have BB := Lib.hid (below_five BB.out w.heap.size (Nat.le_refl _) (.int .i64 z) (.int .i64 t) (.int .i64 (f - n)) (.int .i64 s) (.int .i64 p))
  go_upto_region 4 with fail
  generalize (((((w2.setCell ⟨w.heap.size, 0, none⟩ (.int .i64 z)).setCell ⟨w.heap.size, 1, none⟩ (.int .i64 t)).setCell ⟨w.heap.size, 2, none⟩ (.int .i64 (f - n))).setCell ⟨w.heap.size, 3, none⟩ (.int .i64 s)).setCell ⟨w.heap.size, 4, none⟩ (.int .i64 p)) = w5 at HP HR BB ⊢
  clear p0 p1 p2 p3 p4 g0 g1 g2 g3 g4 r0 r1 r2 r3 r4 f0 f1 f2 f3 f4
  obtain ⟨p0, p1, p2, p3, p4⟩ := HP.out.facts
  obtain ⟨g0, g1, g2, g3, g4⟩ := HP.out.free
  obtain ⟨r0, r1, r2, r3, r4⟩ := HR.out.facts
  obtain ⟨f0, f1, f2, f3, f4⟩ := HR.out.free
  have HP := Lib.hid (HP.out.set4 (p + n))
  have HR := Lib.hid (HR.out.other (a := ⟨w.heap.size, 4, none⟩) hne1 (.int .i64 (p + n)))
  have BB := Lib.hid (BB.out.setCell (p := ⟨w.heap.size, 4, none⟩) (Nat.le_refl _) (.int .i64 (p + n)))
  go_upto_region 11 with fail
  generalize w5.setCell ⟨w.heap.size, 4, none⟩ (.int .i64 (p + n)) = w5 at HP HR BB ⊢
  clear p0 p1 p2 p3 p4 g0 g1 g2 g3 g4 r0 r1 r2 r3 r4 f0 f1 f2 f3 f4
  obtain ⟨p0, p1, p2, p3, p4⟩ := HP.out.facts
  obtain ⟨g0, g1, g2, g3, g4⟩ := HP.out.free
  obtain ⟨r0, r1, r2, r3, r4⟩ := HR.out.facts
  obtain ⟨f0, f1, f2, f3, f4⟩ := HR.out.free
  have HP := Lib.hid (HP.out.set4 (p + n - z))
  have HR := Lib.hid (HR.out.other (a := ⟨w.heap.size, 4, none⟩) hne1 (.int .i64 (p + n - z)))
  have BB := Lib.hid (BB.out.setCell (p := ⟨w.heap.size, 4, none⟩) (Nat.le_refl _) (.int .i64 (p + n - z)))
  go_upto_region 13 with fail
  generalize w5.setCell ⟨w.heap.size, 4, none⟩ (.int .i64 (p + n - z)) = w5 at HP HR BB ⊢
  clear p0 p1 p2 p3 p4 g0 g1 g2 g3 g4 r0 r1 r2 r3 r4 f0 f1 f2 f3 f4
  obtain ⟨p0, p1, p2, p3, p4⟩ := HP.out.facts
  obtain ⟨g0, g1, g2, g3, g4⟩ := HP.out.free
  obtain ⟨r0, r1, r2, r3, r4⟩ := HR.out.facts
  obtain ⟨f0, f1, f2, f3, f4⟩ := HR.out.free
  have HP := Lib.hid (HP.out.set0 (z + 1200))
  have HR := Lib.hid (HR.out.other (a := ⟨w.heap.size, 0, none⟩) hne1 (.int .i64 (z + 1200)))
  have BB := Lib.hid (BB.out.setCell (p := ⟨w.heap.size, 0, none⟩) (Nat.le_refl _) (.int .i64 (z + 1200)))
  go_upto_region 14 with fail
  generalize w5.setCell ⟨w.heap.size, 0, none⟩ (.int .i64 (z + 1200)) = w5 at HP HR BB ⊢
  clear p0 p1 p2 p3 p4 g0 g1 g2 g3 g4 r0 r1 r2 r3 r4 f0 f1 f2 f3 f4
  obtain ⟨p0, p1, p2, p3, p4⟩ := HP.out.facts
  obtain ⟨g0, g1, g2, g3, g4⟩ := HP.out.free
  obtain ⟨r0, r1, r2, r3, r4⟩ := HR.out.facts
  obtain ⟨f0, f1, f2, f3, f4⟩ := HR.out.free
  go_wp2
  exact bodyPost_ret (v := .tuple #[.agg #[.int .i64 (z + 1200), .int .i64 t, .int .i64 (f - n), .int .i64 s, .int .i64 (p + n - z)], .int .i64 0]) (by simp [results, Try.results23, go_sem, r0, r1, r2, r3, r4]) rfl ⟨rfl, (by (repeat (with_reducible refine Below.setCell ?_ (by first | exact Nat.le_refl _ | exact Nat.le_succ _) _)); exact BB.out)⟩
set_option maxHeartbeats 1600000 in
theorem racked_d50 (z t f s p n a : Int) (w : World) (ha : timeB a = true) (hgone : goneE ⟨z, t, f, s, p⟩ n = (⟨z, t, f - n, s, p⟩, 0)) (hs : decide (s ≥ 0) = false) (hz : 2400 ≤ z) (hz' : z ≤ 1073741824) (hp : 0 ≤ p) (hp' : p < z) (hn : 1 ≤ n) (hn' : n ≤ 1200) (h0 : (t == 0) = false) (h1 : decide (z < t) = false) (h2 : decide (p + n ≥ z) = false) (hd : ¬ z - 1 < p + n) :
    Calls Try.prog 23 #[.agg #[.int .i64 z, .int .i64 t, .int .i64 f, .int .i64 s, .int .i64 p], .int .i64 n, .int .i64 a] w fun e w' => e = .returned (.tuple #[.agg #[.int .i64 z, .int .i64 t, .int .i64 (f - n), .int .i64 s, .int .i64 (p + n)], .int .i64 0]) ∧ Below w.heap.size w w' := by
  have W0 : IntKind.i64.wrap (p + n) = p + n := wraps_i64' _ (by omega) (by omega)
  have W1 : IntKind.i64.wrap (z - 1) = z - 1 := wraps_i64' _ (by omega) (by omega)
  have B2 := Lib.hid (below_two w (.cells #[.int .i64 z, .int .i64 t, .int .i64 f, .int .i64 s, .int .i64 p] 23) (.cells #[.int .i64 0, .int .i64 0, .int .i64 0, .int .i64 0, .int .i64 0] 23))
  have HP := Lib.hid (held_first z t f s p 23 w (.cells #[.int .i64 0, .int .i64 0, .int .i64 0, .int .i64 0, .int .i64 0] 23))
  have HR := Lib.hid (held_second 0 0 0 0 0 23 w (.cells #[.int .i64 z, .int .i64 t, .int .i64 f, .int .i64 s, .int .i64 p] 23))
  have hne1 : w.heap.size ≠ w.heap.size + 1 := by omega
  have hne2 : w.heap.size + 1 ≠ w.heap.size := by omega
  have Ta := Lib.hid (fun w => time_b a _ ha w)
  clear ha
  have GT := Lib.hid (fun w => rgone_eq hgone w)
  clear hgone
  go_enter Try.func23, Try.ntmps23
  go_wp2_with fail
  refine (Ta.out _).mono ?_
  rintro e w3 ⟨rfl, rfl⟩
  go_wp2_with fail
  refine (GT.out _).mono ?_
  rintro e w2 ⟨rfl, bn⟩
  have HP := Lib.hid (HP.out.below bn)
  have HR := Lib.hid (HR.out.below bn)
  have BB := Lib.hid (B2.out.trans (bn.mono B2.out.size))
  clear bn GT B2
  obtain ⟨p0, p1, p2, p3, p4⟩ := HP.out.facts
  obtain ⟨g0, g1, g2, g3, g4⟩ := HP.out.free
  obtain ⟨r0, r1, r2, r3, r4⟩ := HR.out.facts
  obtain ⟨f0, f1, f2, f3, f4⟩ := HR.out.free
  have HP := Lib.hid (HP.out.set z t (f - n) s p)
  have HR := Lib.hid (HR.out.others w.heap.size hne1 (.int .i64 z) (.int .i64 t) (.int .i64 (f - n)) (.int .i64 s) (.int .i64 p))
  have BB := Lib.hid (below_five BB.out w.heap.size (Nat.le_refl _) (.int .i64 z) (.int .i64 t) (.int .i64 (f - n)) (.int .i64 s) (.int .i64 p))
  go_upto_region 4 with fail
  generalize (((((w2.setCell ⟨w.heap.size, 0, none⟩ (.int .i64 z)).setCell ⟨w.heap.size, 1, none⟩ (.int .i64 t)).setCell ⟨w.heap.size, 2, none⟩ (.int .i64 (f - n))).setCell ⟨w.heap.size, 3, none⟩ (.int .i64 s)).setCell ⟨w.heap.size, 4, none⟩ (.int .i64 p)) = w5 at HP HR BB ⊢
  clear p0 p1 p2 p3 p4 g0 g1 g2 g3 g4 r0 r1 r2 r3 r4 f0 f1 f2 f3 f4
  obtain ⟨p0, p1, p2, p3, p4⟩ := HP.out.facts
  obtain ⟨g0, g1, g2, g3, g4⟩ := HP.out.free
  obtain ⟨r0, r1, r2, r3, r4⟩ := HR.out.facts
  obtain ⟨f0, f1, f2, f3, f4⟩ := HR.out.free
  go_wp2
  exact bodyPost_ret (v := .tuple #[.agg #[.int .i64 z, .int .i64 t, .int .i64 (f - n), .int .i64 s, .int .i64 (p + n)], .int .i64 0]) (by simp [results, Try.results23, go_sem, r0, r1, r2, r3, r4]) rfl ⟨rfl, (by (repeat (with_reducible refine Below.setCell ?_ (by first | exact Nat.le_refl _ | exact Nat.le_succ _) _)); exact BB.out)⟩
set_option maxHeartbeats 1600000 in
theorem racked_d1a1 (z f s p n a : Int) (w : World) (ha : timeB a = true) (hgone : goneE ⟨z, 0, f, s, p⟩ n = (⟨z, 0, f - n, s, p⟩, 0)) (hs : decide (s ≥ 0) = true) (hs' : decide (a < s) = false) (hz : 2400 ≤ z) (hz' : z ≤ 1073741824) (hp : 0 ≤ p) (hp' : p < z) (hn : 1 ≤ n) (hn' : n ≤ 1200) (hc : 1073741824 < z + n) :
    Calls Try.prog 23 #[.agg #[.int .i64 z, .int .i64 0, .int .i64 f, .int .i64 s, .int .i64 p], .int .i64 n, .int .i64 a] w fun e w' => e = .returned (.tuple #[.agg #[.int .i64 1073741824, .int .i64 0, .int .i64 (f - n), .int .i64 s, .int .i64 0], .int .i64 0]) ∧ Below w.heap.size w w' := by
  have W0 : IntKind.i64.wrap (z + n) = z + n := wraps_i64' _ (by omega) (by omega)
  have B2 := Lib.hid (below_two w (.cells #[.int .i64 z, .int .i64 0, .int .i64 f, .int .i64 s, .int .i64 p] 23) (.cells #[.int .i64 0, .int .i64 0, .int .i64 0, .int .i64 0, .int .i64 0] 23))
  have HP := Lib.hid (held_first z 0 f s p 23 w (.cells #[.int .i64 0, .int .i64 0, .int .i64 0, .int .i64 0, .int .i64 0] 23))
  have HR := Lib.hid (held_second 0 0 0 0 0 23 w (.cells #[.int .i64 z, .int .i64 0, .int .i64 f, .int .i64 s, .int .i64 p] 23))
  have hne1 : w.heap.size ≠ w.heap.size + 1 := by omega
  have hne2 : w.heap.size + 1 ≠ w.heap.size := by omega
  have Ta := Lib.hid (fun w => time_b a _ ha w)
  clear ha
  have GT := Lib.hid (fun w => rgone_eq hgone w)
  clear hgone
  go_enter Try.func23, Try.ntmps23
  go_wp2_with fail
  refine (Ta.out _).mono ?_
  rintro e w3 ⟨rfl, rfl⟩
  go_wp2_with fail
  refine (GT.out _).mono ?_
  rintro e w2 ⟨rfl, bn⟩
  have HP := Lib.hid (HP.out.below bn)
  have HR := Lib.hid (HR.out.below bn)
  have BB := Lib.hid (B2.out.trans (bn.mono B2.out.size))
  clear bn GT B2
  obtain ⟨p0, p1, p2, p3, p4⟩ := HP.out.facts
  obtain ⟨g0, g1, g2, g3, g4⟩ := HP.out.free
  obtain ⟨r0, r1, r2, r3, r4⟩ := HR.out.facts
  obtain ⟨f0, f1, f2, f3, f4⟩ := HR.out.free
  have HP := Lib.hid (HP.out.set z 0 (f - n) s p)
  have HR := Lib.hid (HR.out.others w.heap.size hne1 (.int .i64 z) (.int .i64 0) (.int .i64 (f - n)) (.int .i64 s) (.int .i64 p))
  have BB := Lib.hid (below_five BB.out w.heap.size (Nat.le_refl _) (.int .i64 z) (.int .i64 0) (.int .i64 (f - n)) (.int .i64 s) (.int .i64 p))
  go_upto_region 4 with fail
  generalize (((((w2.setCell ⟨w.heap.size, 0, none⟩ (.int .i64 z)).setCell ⟨w.heap.size, 1, none⟩ (.int .i64 0)).setCell ⟨w.heap.size, 2, none⟩ (.int .i64 (f - n))).setCell ⟨w.heap.size, 3, none⟩ (.int .i64 s)).setCell ⟨w.heap.size, 4, none⟩ (.int .i64 p)) = w5 at HP HR BB ⊢
  clear p0 p1 p2 p3 p4 g0 g1 g2 g3 g4 r0 r1 r2 r3 r4 f0 f1 f2 f3 f4
  obtain ⟨p0, p1, p2, p3, p4⟩ := HP.out.facts
  obtain ⟨g0, g1, g2, g3, g4⟩ := HP.out.free
  obtain ⟨r0, r1, r2, r3, r4⟩ := HR.out.facts
  obtain ⟨f0, f1, f2, f3, f4⟩ := HR.out.free
  go_wp2
  exact bodyPost_ret (v := .tuple #[.agg #[.int .i64 1073741824, .int .i64 0, .int .i64 (f - n), .int .i64 s, .int .i64 0], .int .i64 0]) (by simp [results, Try.results23, go_sem, r0, r1, r2, r3, r4]) rfl ⟨rfl, (by (repeat (with_reducible refine Below.setCell ?_ (by first | exact Nat.le_refl _ | exact Nat.le_succ _) _)); exact BB.out)⟩
set_option maxHeartbeats 1600000 in
theorem racked_d2a1 (z f s p n a : Int) (w : World) (ha : timeB a = true) (hgone : goneE ⟨z, 0, f, s, p⟩ n = (⟨z, 0, f - n, s, p⟩, 0)) (hs : decide (s ≥ 0) = true) (hs' : decide (a < s) = false) (hz : 2400 ≤ z) (hz' : z ≤ 1073741824) (hp : 0 ≤ p) (hp' : p < z) (hn : 1 ≤ n) (hn' : n ≤ 1200) (hc : ¬ 1073741824 < z + n) :
    Calls Try.prog 23 #[.agg #[.int .i64 z, .int .i64 0, .int .i64 f, .int .i64 s, .int .i64 p], .int .i64 n, .int .i64 a] w fun e w' => e = .returned (.tuple #[.agg #[.int .i64 (z + n), .int .i64 0, .int .i64 (f - n), .int .i64 s, .int .i64 0], .int .i64 0]) ∧ Below w.heap.size w w' := by
  have W0 : IntKind.i64.wrap (z + n) = z + n := wraps_i64' _ (by omega) (by omega)
  have B2 := Lib.hid (below_two w (.cells #[.int .i64 z, .int .i64 0, .int .i64 f, .int .i64 s, .int .i64 p] 23) (.cells #[.int .i64 0, .int .i64 0, .int .i64 0, .int .i64 0, .int .i64 0] 23))
  have HP := Lib.hid (held_first z 0 f s p 23 w (.cells #[.int .i64 0, .int .i64 0, .int .i64 0, .int .i64 0, .int .i64 0] 23))
  have HR := Lib.hid (held_second 0 0 0 0 0 23 w (.cells #[.int .i64 z, .int .i64 0, .int .i64 f, .int .i64 s, .int .i64 p] 23))
  have hne1 : w.heap.size ≠ w.heap.size + 1 := by omega
  have hne2 : w.heap.size + 1 ≠ w.heap.size := by omega
  have Ta := Lib.hid (fun w => time_b a _ ha w)
  clear ha
  have GT := Lib.hid (fun w => rgone_eq hgone w)
  clear hgone
  go_enter Try.func23, Try.ntmps23
  go_wp2_with fail
  refine (Ta.out _).mono ?_
  rintro e w3 ⟨rfl, rfl⟩
  go_wp2_with fail
  refine (GT.out _).mono ?_
  rintro e w2 ⟨rfl, bn⟩
  have HP := Lib.hid (HP.out.below bn)
  have HR := Lib.hid (HR.out.below bn)
  have BB := Lib.hid (B2.out.trans (bn.mono B2.out.size))
  clear bn GT B2
  obtain ⟨p0, p1, p2, p3, p4⟩ := HP.out.facts
  obtain ⟨g0, g1, g2, g3, g4⟩ := HP.out.free
  obtain ⟨r0, r1, r2, r3, r4⟩ := HR.out.facts
  obtain ⟨f0, f1, f2, f3, f4⟩ := HR.out.free
  have HP := Lib.hid (HP.out.set z 0 (f - n) s p)
  have HR := Lib.hid (HR.out.others w.heap.size hne1 (.int .i64 z) (.int .i64 0) (.int .i64 (f - n)) (.int .i64 s) (.int .i64 p))
  have BB := Lib.hid (below_five BB.out w.heap.size (Nat.le_refl _) (.int .i64 z) (.int .i64 0) (.int .i64 (f - n)) (.int .i64 s) (.int .i64 p))
  go_upto_region 4 with fail
  generalize (((((w2.setCell ⟨w.heap.size, 0, none⟩ (.int .i64 z)).setCell ⟨w.heap.size, 1, none⟩ (.int .i64 0)).setCell ⟨w.heap.size, 2, none⟩ (.int .i64 (f - n))).setCell ⟨w.heap.size, 3, none⟩ (.int .i64 s)).setCell ⟨w.heap.size, 4, none⟩ (.int .i64 p)) = w5 at HP HR BB ⊢
  clear p0 p1 p2 p3 p4 g0 g1 g2 g3 g4 r0 r1 r2 r3 r4 f0 f1 f2 f3 f4
  obtain ⟨p0, p1, p2, p3, p4⟩ := HP.out.facts
  obtain ⟨g0, g1, g2, g3, g4⟩ := HP.out.free
  obtain ⟨r0, r1, r2, r3, r4⟩ := HR.out.facts
  obtain ⟨f0, f1, f2, f3, f4⟩ := HR.out.free
  go_wp2
  exact bodyPost_ret (v := .tuple #[.agg #[.int .i64 (z + n), .int .i64 0, .int .i64 (f - n), .int .i64 s, .int .i64 0], .int .i64 0]) (by simp [results, Try.results23, go_sem, r0, r1, r2, r3, r4]) rfl ⟨rfl, (by (repeat (with_reducible refine Below.setCell ?_ (by first | exact Nat.le_refl _ | exact Nat.le_succ _) _)); exact BB.out)⟩
set_option maxHeartbeats 1600000 in
theorem racked_d1b1 (z t f s p n a : Int) (w : World) (ha : timeB a = true) (hgone : goneE ⟨z, t, f, s, p⟩ n = (⟨z, t, f - n, s, p⟩, 0)) (hs : decide (s ≥ 0) = true) (hs' : decide (a < s) = false) (hz : 2400 ≤ z) (hz' : z ≤ 1073741824) (hp : 0 ≤ p) (hp' : p < z) (hn : 1 ≤ n) (hn' : n ≤ 1200) (h0 : (t == 0) = false) (h1 : decide (z < t) = true) (hc : 1073741824 < z + n) :
    Calls Try.prog 23 #[.agg #[.int .i64 z, .int .i64 t, .int .i64 f, .int .i64 s, .int .i64 p], .int .i64 n, .int .i64 a] w fun e w' => e = .returned (.tuple #[.agg #[.int .i64 1073741824, .int .i64 t, .int .i64 (f - n), .int .i64 s, .int .i64 0], .int .i64 0]) ∧ Below w.heap.size w w' := by
  have W0 : IntKind.i64.wrap (z + n) = z + n := wraps_i64' _ (by omega) (by omega)
  have B2 := Lib.hid (below_two w (.cells #[.int .i64 z, .int .i64 t, .int .i64 f, .int .i64 s, .int .i64 p] 23) (.cells #[.int .i64 0, .int .i64 0, .int .i64 0, .int .i64 0, .int .i64 0] 23))
  have HP := Lib.hid (held_first z t f s p 23 w (.cells #[.int .i64 0, .int .i64 0, .int .i64 0, .int .i64 0, .int .i64 0] 23))
  have HR := Lib.hid (held_second 0 0 0 0 0 23 w (.cells #[.int .i64 z, .int .i64 t, .int .i64 f, .int .i64 s, .int .i64 p] 23))
  have hne1 : w.heap.size ≠ w.heap.size + 1 := by omega
  have hne2 : w.heap.size + 1 ≠ w.heap.size := by omega
  have Ta := Lib.hid (fun w => time_b a _ ha w)
  clear ha
  have GT := Lib.hid (fun w => rgone_eq hgone w)
  clear hgone
  go_enter Try.func23, Try.ntmps23
  go_wp2_with fail
  refine (Ta.out _).mono ?_
  rintro e w3 ⟨rfl, rfl⟩
  go_wp2_with fail
  refine (GT.out _).mono ?_
  rintro e w2 ⟨rfl, bn⟩
  have HP := Lib.hid (HP.out.below bn)
  have HR := Lib.hid (HR.out.below bn)
  have BB := Lib.hid (B2.out.trans (bn.mono B2.out.size))
  clear bn GT B2
  obtain ⟨p0, p1, p2, p3, p4⟩ := HP.out.facts
  obtain ⟨g0, g1, g2, g3, g4⟩ := HP.out.free
  obtain ⟨r0, r1, r2, r3, r4⟩ := HR.out.facts
  obtain ⟨f0, f1, f2, f3, f4⟩ := HR.out.free
  have HP := Lib.hid (HP.out.set z t (f - n) s p)
  have HR := Lib.hid (HR.out.others w.heap.size hne1 (.int .i64 z) (.int .i64 t) (.int .i64 (f - n)) (.int .i64 s) (.int .i64 p))
  have BB := Lib.hid (below_five BB.out w.heap.size (Nat.le_refl _) (.int .i64 z) (.int .i64 t) (.int .i64 (f - n)) (.int .i64 s) (.int .i64 p))
  go_upto_region 4 with fail
  generalize (((((w2.setCell ⟨w.heap.size, 0, none⟩ (.int .i64 z)).setCell ⟨w.heap.size, 1, none⟩ (.int .i64 t)).setCell ⟨w.heap.size, 2, none⟩ (.int .i64 (f - n))).setCell ⟨w.heap.size, 3, none⟩ (.int .i64 s)).setCell ⟨w.heap.size, 4, none⟩ (.int .i64 p)) = w5 at HP HR BB ⊢
  clear p0 p1 p2 p3 p4 g0 g1 g2 g3 g4 r0 r1 r2 r3 r4 f0 f1 f2 f3 f4
  obtain ⟨p0, p1, p2, p3, p4⟩ := HP.out.facts
  obtain ⟨g0, g1, g2, g3, g4⟩ := HP.out.free
  obtain ⟨r0, r1, r2, r3, r4⟩ := HR.out.facts
  obtain ⟨f0, f1, f2, f3, f4⟩ := HR.out.free
  go_wp2
  exact bodyPost_ret (v := .tuple #[.agg #[.int .i64 1073741824, .int .i64 t, .int .i64 (f - n), .int .i64 s, .int .i64 0], .int .i64 0]) (by simp [results, Try.results23, go_sem, r0, r1, r2, r3, r4]) rfl ⟨rfl, (by (repeat (with_reducible refine Below.setCell ?_ (by first | exact Nat.le_refl _ | exact Nat.le_succ _) _)); exact BB.out)⟩
set_option maxHeartbeats 1600000 in
theorem racked_d2b1 (z t f s p n a : Int) (w : World) (ha : timeB a = true) (hgone : goneE ⟨z, t, f, s, p⟩ n = (⟨z, t, f - n, s, p⟩, 0)) (hs : decide (s ≥ 0) = true) (hs' : decide (a < s) = false) (hz : 2400 ≤ z) (hz' : z ≤ 1073741824) (hp : 0 ≤ p) (hp' : p < z) (hn : 1 ≤ n) (hn' : n ≤ 1200) (h0 : (t == 0) = false) (h1 : decide (z < t) = true) (hc : ¬ 1073741824 < z + n) :
    Calls Try.prog 23 #[.agg #[.int .i64 z, .int .i64 t, .int .i64 f, .int .i64 s, .int .i64 p], .int .i64 n, .int .i64 a] w fun e w' => e = .returned (.tuple #[.agg #[.int .i64 (z + n), .int .i64 t, .int .i64 (f - n), .int .i64 s, .int .i64 0], .int .i64 0]) ∧ Below w.heap.size w w' := by
  have W0 : IntKind.i64.wrap (z + n) = z + n := wraps_i64' _ (by omega) (by omega)
  have B2 := Lib.hid (below_two w (.cells #[.int .i64 z, .int .i64 t, .int .i64 f, .int .i64 s, .int .i64 p] 23) (.cells #[.int .i64 0, .int .i64 0, .int .i64 0, .int .i64 0, .int .i64 0] 23))
  have HP := Lib.hid (held_first z t f s p 23 w (.cells #[.int .i64 0, .int .i64 0, .int .i64 0, .int .i64 0, .int .i64 0] 23))
  have HR := Lib.hid (held_second 0 0 0 0 0 23 w (.cells #[.int .i64 z, .int .i64 t, .int .i64 f, .int .i64 s, .int .i64 p] 23))
  have hne1 : w.heap.size ≠ w.heap.size + 1 := by omega
  have hne2 : w.heap.size + 1 ≠ w.heap.size := by omega
  have Ta := Lib.hid (fun w => time_b a _ ha w)
  clear ha
  have GT := Lib.hid (fun w => rgone_eq hgone w)
  clear hgone
  go_enter Try.func23, Try.ntmps23
  go_wp2_with fail
  refine (Ta.out _).mono ?_
  rintro e w3 ⟨rfl, rfl⟩
  go_wp2_with fail
  refine (GT.out _).mono ?_
  rintro e w2 ⟨rfl, bn⟩
  have HP := Lib.hid (HP.out.below bn)
  have HR := Lib.hid (HR.out.below bn)
  have BB := Lib.hid (B2.out.trans (bn.mono B2.out.size))
  clear bn GT B2
  obtain ⟨p0, p1, p2, p3, p4⟩ := HP.out.facts
  obtain ⟨g0, g1, g2, g3, g4⟩ := HP.out.free
  obtain ⟨r0, r1, r2, r3, r4⟩ := HR.out.facts
  obtain ⟨f0, f1, f2, f3, f4⟩ := HR.out.free
  have HP := Lib.hid (HP.out.set z t (f - n) s p)
  have HR := Lib.hid (HR.out.others w.heap.size hne1 (.int .i64 z) (.int .i64 t) (.int .i64 (f - n)) (.int .i64 s) (.int .i64 p))
  have BB := Lib.hid (below_five BB.out w.heap.size (Nat.le_refl _) (.int .i64 z) (.int .i64 t) (.int .i64 (f - n)) (.int .i64 s) (.int .i64 p))
  go_upto_region 4 with fail
  generalize (((((w2.setCell ⟨w.heap.size, 0, none⟩ (.int .i64 z)).setCell ⟨w.heap.size, 1, none⟩ (.int .i64 t)).setCell ⟨w.heap.size, 2, none⟩ (.int .i64 (f - n))).setCell ⟨w.heap.size, 3, none⟩ (.int .i64 s)).setCell ⟨w.heap.size, 4, none⟩ (.int .i64 p)) = w5 at HP HR BB ⊢
  clear p0 p1 p2 p3 p4 g0 g1 g2 g3 g4 r0 r1 r2 r3 r4 f0 f1 f2 f3 f4
  obtain ⟨p0, p1, p2, p3, p4⟩ := HP.out.facts
  obtain ⟨g0, g1, g2, g3, g4⟩ := HP.out.free
  obtain ⟨r0, r1, r2, r3, r4⟩ := HR.out.facts
  obtain ⟨f0, f1, f2, f3, f4⟩ := HR.out.free
  go_wp2
  exact bodyPost_ret (v := .tuple #[.agg #[.int .i64 (z + n), .int .i64 t, .int .i64 (f - n), .int .i64 s, .int .i64 0], .int .i64 0]) (by simp [results, Try.results23, go_sem, r0, r1, r2, r3, r4]) rfl ⟨rfl, (by (repeat (with_reducible refine Below.setCell ?_ (by first | exact Nat.le_refl _ | exact Nat.le_succ _) _)); exact BB.out)⟩
set_option maxHeartbeats 1600000 in
theorem racked_d31 (z t f s p n a : Int) (w : World) (ha : timeB a = true) (hgone : goneE ⟨z, t, f, s, p⟩ n = (⟨z, t, f - n, s, p⟩, 0)) (hs : decide (s ≥ 0) = true) (hs' : decide (a < s) = false) (hz : 2400 ≤ z) (hz' : z ≤ 1073741824) (hp : 0 ≤ p) (hp' : p < z) (hn : 1 ≤ n) (hn' : n ≤ 1200) (h0 : (t == 0) = false) (h1 : decide (z < t) = false) (h2 : decide (p + n ≥ z) = true) (hc : 1073741824 < z + 1200) (hd : ¬ 1073741823 < p + n - z) :
    Calls Try.prog 23 #[.agg #[.int .i64 z, .int .i64 t, .int .i64 f, .int .i64 s, .int .i64 p], .int .i64 n, .int .i64 a] w fun e w' => e = .returned (.tuple #[.agg #[.int .i64 1073741824, .int .i64 t, .int .i64 (f - n), .int .i64 s, .int .i64 (p + n - z)], .int .i64 0]) ∧ Below w.heap.size w w' := by
  have W0 : IntKind.i64.wrap (p + n) = p + n := wraps_i64' _ (by omega) (by omega)
  have W1 : IntKind.i64.wrap (p + n - z) = p + n - z := wraps_i64' _ (by omega) (by omega)
  have W2 : IntKind.i64.wrap (z + 1200) = z + 1200 := wraps_i64' _ (by omega) (by omega)
  have B2 := Lib.hid (below_two w (.cells #[.int .i64 z, .int .i64 t, .int .i64 f, .int .i64 s, .int .i64 p] 23) (.cells #[.int .i64 0, .int .i64 0, .int .i64 0, .int .i64 0, .int .i64 0] 23))
  have HP := Lib.hid (held_first z t f s p 23 w (.cells #[.int .i64 0, .int .i64 0, .int .i64 0, .int .i64 0, .int .i64 0] 23))
  have HR := Lib.hid (held_second 0 0 0 0 0 23 w (.cells #[.int .i64 z, .int .i64 t, .int .i64 f, .int .i64 s, .int .i64 p] 23))
  have hne1 : w.heap.size ≠ w.heap.size + 1 := by omega
  have hne2 : w.heap.size + 1 ≠ w.heap.size := by omega
  have Ta := Lib.hid (fun w => time_b a _ ha w)
  clear ha
  have GT := Lib.hid (fun w => rgone_eq hgone w)
  clear hgone
  go_enter Try.func23, Try.ntmps23
  go_wp2_with fail
  refine (Ta.out _).mono ?_
  rintro e w3 ⟨rfl, rfl⟩
  go_wp2_with fail
  refine (GT.out _).mono ?_
  rintro e w2 ⟨rfl, bn⟩
  have HP := Lib.hid (HP.out.below bn)
  have HR := Lib.hid (HR.out.below bn)
  have BB := Lib.hid (B2.out.trans (bn.mono B2.out.size))
  clear bn GT B2
  obtain ⟨p0, p1, p2, p3, p4⟩ := HP.out.facts
  obtain ⟨g0, g1, g2, g3, g4⟩ := HP.out.free
  obtain ⟨r0, r1, r2, r3, r4⟩ := HR.out.facts
  obtain ⟨f0, f1, f2, f3, f4⟩ := HR.out.free
  have HP := Lib.hid (HP.out.set z t (f - n) s p)
  have HR := Lib.hid (HR.out.others w.heap.size hne1 (.int .i64 z) (.int .i64 t) (.int .i64 (f - n)) (.int .i64 s) (.int .i64 p))
  have BB := Lib.hid (below_five BB.out w.heap.size (Nat.le_refl _) (.int .i64 z) (.int .i64 t) (.int .i64 (f - n)) (.int .i64 s) (.int .i64 p))
  go_upto_region 4 with fail
  generalize (((((w2.setCell ⟨w.heap.size, 0, none⟩ (.int .i64 z)).setCell ⟨w.heap.size, 1, none⟩ (.int .i64 t)).setCell ⟨w.heap.size, 2, none⟩ (.int .i64 (f - n))).setCell ⟨w.heap.size, 3, none⟩ (.int .i64 s)).setCell ⟨w.heap.size, 4, none⟩ (.int .i64 p)) = w5 at HP HR BB ⊢
  clear p0 p1 p2 p3 p4 g0 g1 g2 g3 g4 r0 r1 r2 r3 r4 f0 f1 f2 f3 f4
  obtain ⟨p0, p1, p2, p3, p4⟩ := HP.out.facts
  obtain ⟨g0, g1, g2, g3, g4⟩ := HP.out.free
  obtain ⟨r0, r1, r2, r3, r4⟩ := HR.out.facts
  obtain ⟨f0, f1, f2, f3, f4⟩ := HR.out.free
  have HP := Lib.hid (HP.out.set4 (p + n))
  have HR := Lib.hid (HR.out.other (a := ⟨w.heap.size, 4, none⟩) hne1 (.int .i64 (p + n)))
  have BB := Lib.hid (BB.out.setCell (p := ⟨w.heap.size, 4, none⟩) (Nat.le_refl _) (.int .i64 (p + n)))
  go_upto_region 11 with fail
  generalize w5.setCell ⟨w.heap.size, 4, none⟩ (.int .i64 (p + n)) = w5 at HP HR BB ⊢
  clear p0 p1 p2 p3 p4 g0 g1 g2 g3 g4 r0 r1 r2 r3 r4 f0 f1 f2 f3 f4
  obtain ⟨p0, p1, p2, p3, p4⟩ := HP.out.facts
  obtain ⟨g0, g1, g2, g3, g4⟩ := HP.out.free
  obtain ⟨r0, r1, r2, r3, r4⟩ := HR.out.facts
  obtain ⟨f0, f1, f2, f3, f4⟩ := HR.out.free
  have HP := Lib.hid (HP.out.set4 (p + n - z))
  have HR := Lib.hid (HR.out.other (a := ⟨w.heap.size, 4, none⟩) hne1 (.int .i64 (p + n - z)))
  have BB := Lib.hid (BB.out.setCell (p := ⟨w.heap.size, 4, none⟩) (Nat.le_refl _) (.int .i64 (p + n - z)))
  go_upto_region 13 with fail
  generalize w5.setCell ⟨w.heap.size, 4, none⟩ (.int .i64 (p + n - z)) = w5 at HP HR BB ⊢
  clear p0 p1 p2 p3 p4 g0 g1 g2 g3 g4 r0 r1 r2 r3 r4 f0 f1 f2 f3 f4
  obtain ⟨p0, p1, p2, p3, p4⟩ := HP.out.facts
  obtain ⟨g0, g1, g2, g3, g4⟩ := HP.out.free
  obtain ⟨r0, r1, r2, r3, r4⟩ := HR.out.facts
  obtain ⟨f0, f1, f2, f3, f4⟩ := HR.out.free
  have HP := Lib.hid (HP.out.set0 1073741824)
  have HR := Lib.hid (HR.out.other (a := ⟨w.heap.size, 0, none⟩) hne1 (.int .i64 1073741824))
  have BB := Lib.hid (BB.out.setCell (p := ⟨w.heap.size, 0, none⟩) (Nat.le_refl _) (.int .i64 1073741824))
  go_upto_region 14 with fail
  generalize w5.setCell ⟨w.heap.size, 0, none⟩ (.int .i64 1073741824) = w5 at HP HR BB ⊢
  clear p0 p1 p2 p3 p4 g0 g1 g2 g3 g4 r0 r1 r2 r3 r4 f0 f1 f2 f3 f4
  obtain ⟨p0, p1, p2, p3, p4⟩ := HP.out.facts
  obtain ⟨g0, g1, g2, g3, g4⟩ := HP.out.free
  obtain ⟨r0, r1, r2, r3, r4⟩ := HR.out.facts
  obtain ⟨f0, f1, f2, f3, f4⟩ := HR.out.free
  go_wp2
  exact bodyPost_ret (v := .tuple #[.agg #[.int .i64 1073741824, .int .i64 t, .int .i64 (f - n), .int .i64 s, .int .i64 (p + n - z)], .int .i64 0]) (by simp [results, Try.results23, go_sem, r0, r1, r2, r3, r4]) rfl ⟨rfl, (by (repeat (with_reducible refine Below.setCell ?_ (by first | exact Nat.le_refl _ | exact Nat.le_succ _) _)); exact BB.out)⟩
set_option maxHeartbeats 1600000 in
theorem racked_d41 (z t f s p n a : Int) (w : World) (ha : timeB a = true) (hgone : goneE ⟨z, t, f, s, p⟩ n = (⟨z, t, f - n, s, p⟩, 0)) (hs : decide (s ≥ 0) = true) (hs' : decide (a < s) = false) (hz : 2400 ≤ z) (hz' : z ≤ 1073741824) (hp : 0 ≤ p) (hp' : p < z) (hn : 1 ≤ n) (hn' : n ≤ 1200) (h0 : (t == 0) = false) (h1 : decide (z < t) = false) (h2 : decide (p + n ≥ z) = true) (hc : ¬ 1073741824 < z + 1200) (hd : ¬ z + 1200 - 1 < p + n - z) (hd' : ¬ z + 1199 < p + n - z) :
    Calls Try.prog 23 #[.agg #[.int .i64 z, .int .i64 t, .int .i64 f, .int .i64 s, .int .i64 p], .int .i64 n, .int .i64 a] w fun e w' => e = .returned (.tuple #[.agg #[.int .i64 (z + 1200), .int .i64 t, .int .i64 (f - n), .int .i64 s, .int .i64 (p + n - z)], .int .i64 0]) ∧ Below w.heap.size w w' := by
  have W0 : IntKind.i64.wrap (p + n) = p + n := wraps_i64' _ (by omega) (by omega)
  have W1 : IntKind.i64.wrap (p + n - z) = p + n - z := wraps_i64' _ (by omega) (by omega)
  have W2 : IntKind.i64.wrap (z + 1200) = z + 1200 := wraps_i64' _ (by omega) (by omega)
  have W3 : IntKind.i64.wrap (z + 1200 - 1) = z + 1200 - 1 := wraps_i64' _ (by omega) (by omega)
  have W4 : IntKind.i64.wrap (z + 1199) = z + 1199 := wraps_i64' _ (by omega) (by omega)
  have B2 := Lib.hid (below_two w (.cells #[.int .i64 z, .int .i64 t, .int .i64 f, .int .i64 s, .int .i64 p] 23) (.cells #[.int .i64 0, .int .i64 0, .int .i64 0, .int .i64 0, .int .i64 0] 23))
  have HP := Lib.hid (held_first z t f s p 23 w (.cells #[.int .i64 0, .int .i64 0, .int .i64 0, .int .i64 0, .int .i64 0] 23))
  have HR := Lib.hid (held_second 0 0 0 0 0 23 w (.cells #[.int .i64 z, .int .i64 t, .int .i64 f, .int .i64 s, .int .i64 p] 23))
  have hne1 : w.heap.size ≠ w.heap.size + 1 := by omega
  have hne2 : w.heap.size + 1 ≠ w.heap.size := by omega
  have Ta := Lib.hid (fun w => time_b a _ ha w)
  clear ha
  have GT := Lib.hid (fun w => rgone_eq hgone w)
  clear hgone
  go_enter Try.func23, Try.ntmps23
  go_wp2_with fail
  refine (Ta.out _).mono ?_
  rintro e w3 ⟨rfl, rfl⟩
  go_wp2_with fail
  refine (GT.out _).mono ?_
  rintro e w2 ⟨rfl, bn⟩
  have HP := Lib.hid (HP.out.below bn)
  have HR := Lib.hid (HR.out.below bn)
  have BB := Lib.hid (B2.out.trans (bn.mono B2.out.size))
  clear bn GT B2
  obtain ⟨p0, p1, p2, p3, p4⟩ := HP.out.facts
  obtain ⟨g0, g1, g2, g3, g4⟩ := HP.out.free
  obtain ⟨r0, r1, r2, r3, r4⟩ := HR.out.facts
  obtain ⟨f0, f1, f2, f3, f4⟩ := HR.out.free
  have HP := Lib.hid (HP.out.set z t (f - n) s p)
  have HR := Lib.hid (HR.out.others w.heap.size hne1 (.int .i64 z) (.int .i64 t) (.int .i64 (f - n)) (.int .i64 s) (.int .i64 p))
  have BB := Lib.hid (below_five BB.out w.heap.size (Nat.le_refl _) (.int .i64 z) (.int .i64 t) (.int .i64 (f - n)) (.int .i64 s) (.int .i64 p))
  go_upto_region 4 with fail
  generalize (((((w2.setCell ⟨w.heap.size, 0, none⟩ (.int .i64 z)).setCell ⟨w.heap.size, 1, none⟩ (.int .i64 t)).setCell ⟨w.heap.size, 2, none⟩ (.int .i64 (f - n))).setCell ⟨w.heap.size, 3, none⟩ (.int .i64 s)).setCell ⟨w.heap.size, 4, none⟩ (.int .i64 p)) = w5 at HP HR BB ⊢
  clear p0 p1 p2 p3 p4 g0 g1 g2 g3 g4 r0 r1 r2 r3 r4 f0 f1 f2 f3 f4
  obtain ⟨p0, p1, p2, p3, p4⟩ := HP.out.facts
  obtain ⟨g0, g1, g2, g3, g4⟩ := HP.out.free
  obtain ⟨r0, r1, r2, r3, r4⟩ := HR.out.facts
  obtain ⟨f0, f1, f2, f3, f4⟩ := HR.out.free
  have HP := Lib.hid (HP.out.set4 (p + n))
  have HR := Lib.hid (HR.out.other (a := ⟨w.heap.size, 4, none⟩) hne1 (.int .i64 (p + n)))
  have BB := Lib.hid (BB.out.setCell (p := ⟨w.heap.size, 4, none⟩) (Nat.le_refl _) (.int .i64 (p + n)))
  go_upto_region 11 with fail
  generalize w5.setCell ⟨w.heap.size, 4, none⟩ (.int .i64 (p + n)) = w5 at HP HR BB ⊢
  clear p0 p1 p2 p3 p4 g0 g1 g2 g3 g4 r0 r1 r2 r3 r4 f0 f1 f2 f3 f4
  obtain ⟨p0, p1, p2, p3, p4⟩ := HP.out.facts
  obtain ⟨g0, g1, g2, g3, g4⟩ := HP.out.free
  obtain ⟨r0, r1, r2, r3, r4⟩ := HR.out.facts
  obtain ⟨f0, f1, f2, f3, f4⟩ := HR.out.free
  have HP := Lib.hid (HP.out.set4 (p + n - z))
  have HR := Lib.hid (HR.out.other (a := ⟨w.heap.size, 4, none⟩) hne1 (.int .i64 (p + n - z)))
  have BB := Lib.hid (BB.out.setCell (p := ⟨w.heap.size, 4, none⟩) (Nat.le_refl _) (.int .i64 (p + n - z)))
  go_upto_region 13 with fail
  generalize w5.setCell ⟨w.heap.size, 4, none⟩ (.int .i64 (p + n - z)) = w5 at HP HR BB ⊢
  clear p0 p1 p2 p3 p4 g0 g1 g2 g3 g4 r0 r1 r2 r3 r4 f0 f1 f2 f3 f4
  obtain ⟨p0, p1, p2, p3, p4⟩ := HP.out.facts
  obtain ⟨g0, g1, g2, g3, g4⟩ := HP.out.free
  obtain ⟨r0, r1, r2, r3, r4⟩ := HR.out.facts
  obtain ⟨f0, f1, f2, f3, f4⟩ := HR.out.free
  have HP := Lib.hid (HP.out.set0 (z + 1200))
  have HR := Lib.hid (HR.out.other (a := ⟨w.heap.size, 0, none⟩) hne1 (.int .i64 (z + 1200)))
  have BB := Lib.hid (BB.out.setCell (p := ⟨w.heap.size, 0, none⟩) (Nat.le_refl _) (.int .i64 (z + 1200)))
  go_upto_region 14 with fail
  generalize w5.setCell ⟨w.heap.size, 0, none⟩ (.int .i64 (z + 1200)) = w5 at HP HR BB ⊢
  clear p0 p1 p2 p3 p4 g0 g1 g2 g3 g4 r0 r1 r2 r3 r4 f0 f1 f2 f3 f4
  obtain ⟨p0, p1, p2, p3, p4⟩ := HP.out.facts
  obtain ⟨g0, g1, g2, g3, g4⟩ := HP.out.free
  obtain ⟨r0, r1, r2, r3, r4⟩ := HR.out.facts
  obtain ⟨f0, f1, f2, f3, f4⟩ := HR.out.free
  go_wp2
  exact bodyPost_ret (v := .tuple #[.agg #[.int .i64 (z + 1200), .int .i64 t, .int .i64 (f - n), .int .i64 s, .int .i64 (p + n - z)], .int .i64 0]) (by simp [results, Try.results23, go_sem, r0, r1, r2, r3, r4]) rfl ⟨rfl, (by (repeat (with_reducible refine Below.setCell ?_ (by first | exact Nat.le_refl _ | exact Nat.le_succ _) _)); exact BB.out)⟩
set_option maxHeartbeats 1600000 in
theorem racked_d51 (z t f s p n a : Int) (w : World) (ha : timeB a = true) (hgone : goneE ⟨z, t, f, s, p⟩ n = (⟨z, t, f - n, s, p⟩, 0)) (hs : decide (s ≥ 0) = true) (hs' : decide (a < s) = false) (hz : 2400 ≤ z) (hz' : z ≤ 1073741824) (hp : 0 ≤ p) (hp' : p < z) (hn : 1 ≤ n) (hn' : n ≤ 1200) (h0 : (t == 0) = false) (h1 : decide (z < t) = false) (h2 : decide (p + n ≥ z) = false) (hd : ¬ z - 1 < p + n) :
    Calls Try.prog 23 #[.agg #[.int .i64 z, .int .i64 t, .int .i64 f, .int .i64 s, .int .i64 p], .int .i64 n, .int .i64 a] w fun e w' => e = .returned (.tuple #[.agg #[.int .i64 z, .int .i64 t, .int .i64 (f - n), .int .i64 s, .int .i64 (p + n)], .int .i64 0]) ∧ Below w.heap.size w w' := by
  have W0 : IntKind.i64.wrap (p + n) = p + n := wraps_i64' _ (by omega) (by omega)
  have W1 : IntKind.i64.wrap (z - 1) = z - 1 := wraps_i64' _ (by omega) (by omega)
  have B2 := Lib.hid (below_two w (.cells #[.int .i64 z, .int .i64 t, .int .i64 f, .int .i64 s, .int .i64 p] 23) (.cells #[.int .i64 0, .int .i64 0, .int .i64 0, .int .i64 0, .int .i64 0] 23))
  have HP := Lib.hid (held_first z t f s p 23 w (.cells #[.int .i64 0, .int .i64 0, .int .i64 0, .int .i64 0, .int .i64 0] 23))
  have HR := Lib.hid (held_second 0 0 0 0 0 23 w (.cells #[.int .i64 z, .int .i64 t, .int .i64 f, .int .i64 s, .int .i64 p] 23))
  have hne1 : w.heap.size ≠ w.heap.size + 1 := by omega
  have hne2 : w.heap.size + 1 ≠ w.heap.size := by omega
  have Ta := Lib.hid (fun w => time_b a _ ha w)
  clear ha
  have GT := Lib.hid (fun w => rgone_eq hgone w)
  clear hgone
  go_enter Try.func23, Try.ntmps23
  go_wp2_with fail
  refine (Ta.out _).mono ?_
  rintro e w3 ⟨rfl, rfl⟩
  go_wp2_with fail
  refine (GT.out _).mono ?_
  rintro e w2 ⟨rfl, bn⟩
  have HP := Lib.hid (HP.out.below bn)
  have HR := Lib.hid (HR.out.below bn)
  have BB := Lib.hid (B2.out.trans (bn.mono B2.out.size))
  clear bn GT B2
  obtain ⟨p0, p1, p2, p3, p4⟩ := HP.out.facts
  obtain ⟨g0, g1, g2, g3, g4⟩ := HP.out.free
  obtain ⟨r0, r1, r2, r3, r4⟩ := HR.out.facts
  obtain ⟨f0, f1, f2, f3, f4⟩ := HR.out.free
  have HP := Lib.hid (HP.out.set z t (f - n) s p)
  have HR := Lib.hid (HR.out.others w.heap.size hne1 (.int .i64 z) (.int .i64 t) (.int .i64 (f - n)) (.int .i64 s) (.int .i64 p))
  have BB := Lib.hid (below_five BB.out w.heap.size (Nat.le_refl _) (.int .i64 z) (.int .i64 t) (.int .i64 (f - n)) (.int .i64 s) (.int .i64 p))
  go_upto_region 4 with fail
  generalize (((((w2.setCell ⟨w.heap.size, 0, none⟩ (.int .i64 z)).setCell ⟨w.heap.size, 1, none⟩ (.int .i64 t)).setCell ⟨w.heap.size, 2, none⟩ (.int .i64 (f - n))).setCell ⟨w.heap.size, 3, none⟩ (.int .i64 s)).setCell ⟨w.heap.size, 4, none⟩ (.int .i64 p)) = w5 at HP HR BB ⊢
  clear p0 p1 p2 p3 p4 g0 g1 g2 g3 g4 r0 r1 r2 r3 r4 f0 f1 f2 f3 f4
  obtain ⟨p0, p1, p2, p3, p4⟩ := HP.out.facts
  obtain ⟨g0, g1, g2, g3, g4⟩ := HP.out.free
  obtain ⟨r0, r1, r2, r3, r4⟩ := HR.out.facts
  obtain ⟨f0, f1, f2, f3, f4⟩ := HR.out.free
  go_wp2
  exact bodyPost_ret (v := .tuple #[.agg #[.int .i64 z, .int .i64 t, .int .i64 (f - n), .int .i64 s, .int .i64 (p + n)], .int .i64 0]) (by simp [results, Try.results23, go_sem, r0, r1, r2, r3, r4]) rfl ⟨rfl, (by (repeat (with_reducible refine Below.setCell ?_ (by first | exact Nat.le_refl _ | exact Nat.le_succ _) _)); exact BB.out)⟩
theorem racked_eq {z t f s p n a z' t' f' s' p' e' : Int} (he : ackedE ⟨z, t, f, s, p⟩ n a = (⟨z', t', f', s', p'⟩, e')) (w : World) :
    Calls Try.prog 23 #[.agg #[.int .i64 z, .int .i64 t, .int .i64 f, .int .i64 s, .int .i64 p], .int .i64 n, .int .i64 a] w fun e w' => e = .returned (.tuple #[.agg #[.int .i64 z', .int .i64 t', .int .i64 f', .int .i64 s', .int .i64 p'], .int .i64 e']) ∧ Below w.heap.size w w' := by
  cases ha : timeB a
  · have e0 : ackedE ⟨z, t, f, s, p⟩ n a = (nul, 1) := by
      unfold ackedE
      rw [ha]
      split <;> rfl
    rw [e0] at he
    simp only [nul, Prod.mk.injEq, St.mk.injEq] at he
    obtain ⟨⟨rfl, rfl, rfl, rfl, rfl⟩, rfl⟩ := he
    exact racked_a z t f s p n a w ha
  by_cases hg : (rightB ⟨z, t, f, s, p⟩ && gramB n) = true
  rotate_left
  · rw [ackedE, if_neg hg] at he
    have hgone : goneE ⟨z, t, f, s, p⟩ n = (nul, 1) := by rw [goneE, if_neg hg]
    simp only [nul, Prod.mk.injEq, St.mk.injEq] at he
    obtain ⟨⟨rfl, rfl, rfl, rfl, rfl⟩, rfl⟩ := he
    exact racked_b z t f s p n a _ _ _ _ _ _ w ha hgone rfl rfl
  rw [ackedE, if_pos hg, if_pos ha] at he
  dsimp only at he
  by_cases hl : f < n
  · rw [if_pos hl] at he
    have hgone : goneE ⟨z, t, f, s, p⟩ n = (nul, 7) := by rw [goneE, if_pos hg]; exact if_pos hl
    simp only [nul, Prod.mk.injEq, St.mk.injEq] at he
    obtain ⟨⟨rfl, rfl, rfl, rfl, rfl⟩, rfl⟩ := he
    exact racked_b z t f s p n a _ _ _ _ _ _ w ha hgone rfl rfl
  rw [if_neg hl] at he
  have hgone : goneE ⟨z, t, f, s, p⟩ n = (⟨z, t, f - n, s, p⟩, 0) := by rw [goneE, if_pos hg]; exact if_neg hl
  simp only [Bool.and_eq_true] at hg
  obtain ⟨hr, hn0⟩ := hg
  obtain ⟨⟨hz, hz'⟩, _, _, ⟨hs0, _⟩, ⟨hp, hp'⟩⟩ := right_iff.1 hr
  obtain ⟨hn, hn'⟩ := in_iff.1 hn0
  dsimp only at hz hz' hp hp' hs0
  by_cases hs1 : a < s
  · have d1 : decide (s ≥ 0) = true := decide_eq_true (by have := (in_iff.1 ha).1; omega)
    rw [heardQ, if_pos hs1] at he
    simp only [lessQ, Prod.mk.injEq, St.mk.injEq] at he
    obtain ⟨⟨rfl, rfl, rfl, rfl, rfl⟩, rfl⟩ := he
    exact racked_c z t f s p n a w ha hgone d1 (decide_eq_true hs1)
  rw [heardQ, if_neg hs1, show lessQ ⟨z, t, f, s, p⟩ n = (⟨z, t, f - n, s, p⟩ : St) from rfl] at he
  unfold grownQ capI at he
  dsimp only at he
  have d2 : decide (a < s) = false := decide_eq_false hs1
  clear hr hn0 hs0
  by_cases hs2 : s ≥ 0
  · have d1 : decide (s ≥ 0) = true := decide_eq_true hs2
    by_cases h0 : t = 0
    · subst h0
      rw [if_pos (.inl rfl)] at he
      by_cases hc : 1073741824 < z + n
      · rw [if_pos hc] at he
        simp only [Prod.mk.injEq, St.mk.injEq] at he
        obtain ⟨⟨rfl, rfl, rfl, rfl, rfl⟩, rfl⟩ := he
        exact racked_d1a1 z f s p n a w ha hgone d1 d2 hz hz' hp hp' hn hn' hc
      · rw [if_neg hc] at he
        simp only [Prod.mk.injEq, St.mk.injEq] at he
        obtain ⟨⟨rfl, rfl, rfl, rfl, rfl⟩, rfl⟩ := he
        exact racked_d2a1 z f s p n a w ha hgone d1 d2 hz hz' hp hp' hn hn' hc
    have d0 : (t == 0) = false := by simpa using h0
    by_cases h1 : z < t
    · rw [if_pos (.inr h1)] at he
      by_cases hc : 1073741824 < z + n
      · rw [if_pos hc] at he
        simp only [Prod.mk.injEq, St.mk.injEq] at he
        obtain ⟨⟨rfl, rfl, rfl, rfl, rfl⟩, rfl⟩ := he
        exact racked_d1b1 z t f s p n a w ha hgone d1 d2 hz hz' hp hp' hn hn' d0 (decide_eq_true h1) hc
      · rw [if_neg hc] at he
        simp only [Prod.mk.injEq, St.mk.injEq] at he
        obtain ⟨⟨rfl, rfl, rfl, rfl, rfl⟩, rfl⟩ := he
        exact racked_d2b1 z t f s p n a w ha hgone d1 d2 hz hz' hp hp' hn hn' d0 (decide_eq_true h1) hc
    rw [if_neg (by omega)] at he
    by_cases h2 : z ≤ p + n
    · rw [if_pos h2] at he
      by_cases hc : 1073741824 < z + 1200
      · rw [if_pos hc] at he
        simp only [Prod.mk.injEq, St.mk.injEq] at he
        obtain ⟨⟨rfl, rfl, rfl, rfl, rfl⟩, rfl⟩ := he
        exact racked_d31 z t f s p n a w ha hgone d1 d2 hz hz' hp hp' hn hn' d0 (decide_eq_false h1) (decide_eq_true h2) hc (by omega)
      · rw [if_neg hc] at he
        simp only [Prod.mk.injEq, St.mk.injEq] at he
        obtain ⟨⟨rfl, rfl, rfl, rfl, rfl⟩, rfl⟩ := he
        exact racked_d41 z t f s p n a w ha hgone d1 d2 hz hz' hp hp' hn hn' d0 (decide_eq_false h1) (decide_eq_true h2) hc (by omega) (by omega)
    · rw [if_neg h2] at he
      simp only [Prod.mk.injEq, St.mk.injEq] at he
      obtain ⟨⟨rfl, rfl, rfl, rfl, rfl⟩, rfl⟩ := he
      exact racked_d51 z t f s p n a w ha hgone d1 d2 hz hz' hp hp' hn hn' d0 (decide_eq_false h1) (decide_eq_false h2) (by omega)
  · have d1 : decide (s ≥ 0) = false := decide_eq_false hs2
    by_cases h0 : t = 0
    · subst h0
      rw [if_pos (.inl rfl)] at he
      by_cases hc : 1073741824 < z + n
      · rw [if_pos hc] at he
        simp only [Prod.mk.injEq, St.mk.injEq] at he
        obtain ⟨⟨rfl, rfl, rfl, rfl, rfl⟩, rfl⟩ := he
        exact racked_d1a0 z f s p n a w ha hgone d1 hz hz' hp hp' hn hn' hc
      · rw [if_neg hc] at he
        simp only [Prod.mk.injEq, St.mk.injEq] at he
        obtain ⟨⟨rfl, rfl, rfl, rfl, rfl⟩, rfl⟩ := he
        exact racked_d2a0 z f s p n a w ha hgone d1 hz hz' hp hp' hn hn' hc
    have d0 : (t == 0) = false := by simpa using h0
    by_cases h1 : z < t
    · rw [if_pos (.inr h1)] at he
      by_cases hc : 1073741824 < z + n
      · rw [if_pos hc] at he
        simp only [Prod.mk.injEq, St.mk.injEq] at he
        obtain ⟨⟨rfl, rfl, rfl, rfl, rfl⟩, rfl⟩ := he
        exact racked_d1b0 z t f s p n a w ha hgone d1 hz hz' hp hp' hn hn' d0 (decide_eq_true h1) hc
      · rw [if_neg hc] at he
        simp only [Prod.mk.injEq, St.mk.injEq] at he
        obtain ⟨⟨rfl, rfl, rfl, rfl, rfl⟩, rfl⟩ := he
        exact racked_d2b0 z t f s p n a w ha hgone d1 hz hz' hp hp' hn hn' d0 (decide_eq_true h1) hc
    rw [if_neg (by omega)] at he
    by_cases h2 : z ≤ p + n
    · rw [if_pos h2] at he
      by_cases hc : 1073741824 < z + 1200
      · rw [if_pos hc] at he
        simp only [Prod.mk.injEq, St.mk.injEq] at he
        obtain ⟨⟨rfl, rfl, rfl, rfl, rfl⟩, rfl⟩ := he
        exact racked_d30 z t f s p n a w ha hgone d1 hz hz' hp hp' hn hn' d0 (decide_eq_false h1) (decide_eq_true h2) hc (by omega)
      · rw [if_neg hc] at he
        simp only [Prod.mk.injEq, St.mk.injEq] at he
        obtain ⟨⟨rfl, rfl, rfl, rfl, rfl⟩, rfl⟩ := he
        exact racked_d40 z t f s p n a w ha hgone d1 hz hz' hp hp' hn hn' d0 (decide_eq_false h1) (decide_eq_true h2) hc (by omega) (by omega)
    · rw [if_neg h2] at he
      simp only [Prod.mk.injEq, St.mk.injEq] at he
      obtain ⟨⟨rfl, rfl, rfl, rfl, rfl⟩, rfl⟩ := he
      exact racked_d50 z t f s p n a w ha hgone d1 hz hz' hp hp' hn hn' d0 (decide_eq_false h1) (decide_eq_false h2) (by omega)
end Go.Proofs.Ytiglhdiclfknhaa
