/- Walks of layer 7: alive; one call of a script. -/
import Derived.Test.YtiglhdiclfknhaaCgI
import Derived.Test.YtiglhdiclfknhaaCgJ
set_option linter.unusedSimpArgs false
set_option linter.unusedVariables false
namespace Go.Proofs.Ytiglhdiclfknhaa
open Go.RowKit
theorem live_a : sentE ⟨12000, 0, 0, -1, 0⟩ 1200 = (⟨12000, 0, 1200, -1, 0⟩, 0) := by rfl
theorem live_b : ackedE ⟨12000, 0, 1200, -1, 0⟩ 1200 0 = (⟨13200, 0, 0, -1, 0⟩, 0) := by rfl
theorem live_c : lostE ⟨12000, 0, 1200, -1, 0⟩ 1200 0 5 = (⟨6000, 6000, 0, 6, 0⟩, 0) := by rfl
theorem live_d : roomI ⟨12000, 0, 1200, -1, 0⟩ = 10800 := by rfl
set_option maxHeartbeats 1600000 in
theorem alive_any (w : World) : Calls Try.prog 17 #[] w (Yes w) := by
  have S1 := Lib.hid (fun w => sent_eq live_a w)
  have S2 := Lib.hid (fun w => acked_eq live_b w)
  have S3 := Lib.hid (fun w => lost_eq live_c w)
  have S4 := Lib.hid (fun w => room_b' _ _ _ _ _ _ live_d w)
  go_enter Try.func17, Try.ntmps17
  go_wp2_with fail
  refine (new_any _).mono ?_
  rintro e wk1 ⟨rfl, bn⟩
  have BB := Lib.hid bn
  clear bn
  go_wp2_with fail
  refine (S1.out _).mono ?_
  rintro e wk2 ⟨rfl, bn⟩
  have BB := Lib.hid (BB.out.trans (bn.mono BB.out.size))
  clear bn
  have b3 := below_one wk2 (.cells #[.int .i64 12000, .int .i64 0, .int .i64 1200, .int .i64 (-1), .int .i64 0] 25)
  have Ha := Lib.hid (held_last 12000 0 1200 (-1) 0 25 wk2)
  have BB := Lib.hid (BB.out.trans (b3.mono BB.out.size))
  clear b3
  obtain ⟨a0, a1, a2, a3, a4⟩ := Ha.out.facts
  go_wp2_with fail
  refine (S2.out _).mono ?_
  generalize wk2.alloc (.cells #[.int .i64 12000, .int .i64 0, .int .i64 1200, .int .i64 (-1), .int .i64 0] 25) = ws2 at  Ha BB ⊢
  generalize wk2.heap.size = qa at Ha ⊢
  rintro e wk3 ⟨rfl, bn⟩
  have Ha := Lib.hid (Ha.out.below bn)
  have BB := Lib.hid (BB.out.trans (bn.mono BB.out.size))
  clear bn
  obtain ⟨a0, a1, a2, a3, a4⟩ := Ha.out.facts
  have b3 := below_one wk3 (.cells #[.int .i64 13200, .int .i64 0, .int .i64 0, .int .i64 (-1), .int .i64 0] 25)
  have Ha := Lib.hid (Ha.out.below b3)
  have Hb := Lib.hid (held_last 13200 0 0 (-1) 0 25 wk3)
  have BB := Lib.hid (BB.out.trans (b3.mono BB.out.size))
  clear b3
  obtain ⟨a0, a1, a2, a3, a4⟩ := Ha.out.facts
  obtain ⟨b0, b1, b2, b3, b4⟩ := Hb.out.facts
  go_wp2_with fail
  refine (S3.out _).mono ?_
  generalize wk3.alloc (.cells #[.int .i64 13200, .int .i64 0, .int .i64 0, .int .i64 (-1), .int .i64 0] 25) = ws3 at Ha Hb BB ⊢
  generalize wk3.heap.size = qb at Hb ⊢
  rintro e wk4 ⟨rfl, bn⟩
  have Ha := Lib.hid (Ha.out.below bn)
  have Hb := Lib.hid (Hb.out.below bn)
  have BB := Lib.hid (BB.out.trans (bn.mono BB.out.size))
  clear bn
  obtain ⟨a0, a1, a2, a3, a4⟩ := Ha.out.facts
  obtain ⟨b0, b1, b2, b3, b4⟩ := Hb.out.facts
  have b3 := below_one wk4 (.cells #[.int .i64 6000, .int .i64 6000, .int .i64 0, .int .i64 6, .int .i64 0] 25)
  have Ha := Lib.hid (Ha.out.below b3)
  have Hb := Lib.hid (Hb.out.below b3)
  have Hc := Lib.hid (held_last 6000 6000 0 6 0 25 wk4)
  have BB := Lib.hid (BB.out.trans (b3.mono BB.out.size))
  clear b3
  obtain ⟨a0, a1, a2, a3, a4⟩ := Ha.out.facts
  obtain ⟨b0, b1, b2, b3, b4⟩ := Hb.out.facts
  obtain ⟨c0, c1, c2, c3, c4⟩ := Hc.out.facts
  go_wp2_with fail
  refine (S4.out _).mono ?_
  generalize wk4.alloc (.cells #[.int .i64 6000, .int .i64 6000, .int .i64 0, .int .i64 6, .int .i64 0] 25) = ws4 at Ha Hb Hc BB ⊢
  generalize wk4.heap.size = qc at Hc ⊢
  rintro e wk5 ⟨rfl, bn⟩
  have Ha := Lib.hid (Ha.out.below bn)
  have Hb := Lib.hid (Hb.out.below bn)
  have Hc := Lib.hid (Hc.out.below bn)
  have BB := Lib.hid (BB.out.trans (bn.mono BB.out.size))
  clear bn
  obtain ⟨a0, a1, a2, a3, a4⟩ := Ha.out.facts
  obtain ⟨b0, b1, b2, b3, b4⟩ := Hb.out.facts
  obtain ⟨c0, c1, c2, c3, c4⟩ := Hc.out.facts
  go_wp2
  go_ret
  exact ⟨rfl, BB.out⟩
/-- a block that holds an act -/
def HeldA (b : Nat) (k n a now : Int) (W : World) : Prop := ∃ T, W.heap[b]? = some (.cells #[.int .u8 k, .int .i64 n, .int .i64 a, .int .i64 now] T (0, 0))
theorem heldA_at {b : Nat} (k n a now : Int) (T : TypeId) (w : World) (hb : b = w.heap.size) : HeldA b k n a now (w.alloc (.cells #[.int .u8 k, .int .i64 n, .int .i64 a, .int .i64 now] T)) := by
  subst hb
  exact ⟨T, by show (w.heap.push _)[w.heap.size]? = _; simp⟩
theorem HeldA.below {b : Nat} {k n a now : Int} {W W' : World} (H : HeldA b k n a now W) (hb : Below W.heap.size W W') : HeldA b k n a now W' := by
  obtain ⟨T, e⟩ := H
  exact ⟨T, by rw [hb.block b (Array.getElem?_eq_some_iff.1 e).1]; exact e⟩
theorem HeldA.alloc {b : Nat} {k n a now : Int} {W : World} (H : HeldA b k n a now W) (o : Obj) : HeldA b k n a now (W.alloc o) := H.below ((Below.refl _ _).alloc (Nat.le_refl _) _)
theorem HeldA.facts {b : Nat} {k n a now : Int} {W : World} (H : HeldA b k n a now W) :
    W.cell? ⟨b, 0, none⟩ = some (.int .u8 k) ∧ W.cell? ⟨b, 1, none⟩ = some (.int .i64 n) ∧ W.cell? ⟨b, 2, none⟩ = some (.int .i64 a) ∧ W.cell? ⟨b, 3, none⟩ = some (.int .i64 now) := by
  obtain ⟨T, e⟩ := H
  simp [World.cell?, e]
def callE (q : St) (k n a now : Int) : St × Int :=
  if k % 4 = 0 then sentE q n else if k % 4 = 1 then ackedE q n a else if k % 4 = 2 then lostE q n a now else goneE q n
def doesE (q : St) (k n a now : Int) : St × Int := if (callE q k n a now).2 = 0 then ((callE q k n a now).1, 0) else (q, (callE q k n a now).2)
set_option maxHeartbeats 1600000 in
theorem does_0a (z t f s p k n a now z' t' f' s' p' : Int) (w : World) (hk : k.tmod 4 = 0) (he : sentE ⟨z, t, f, s, p⟩ n = (⟨z', t', f', s', p'⟩, 0))  :
    Calls Try.prog 26 #[.agg #[.int .i64 z, .int .i64 t, .int .i64 f, .int .i64 s, .int .i64 p], .agg #[.int .u8 k, .int .i64 n, .int .i64 a, .int .i64 now]] w fun e w' => e = .returned (.tuple #[.agg #[.int .i64 z', .int .i64 t', .int .i64 f', .int .i64 s', .int .i64 p'], .int .i64 0]) ∧ Below w.heap.size w w' := by
  have C := Lib.hid (fun w => sent_eq he w)
  have BB := Lib.hid (below_more (below_more (below_two w (.cells #[.int .i64 z, .int .i64 t, .int .i64 f, .int .i64 s, .int .i64 p] 25) (.cells #[.int .u8 k, .int .i64 n, .int .i64 a, .int .i64 now] 48)) (Nat.le_refl _) (.cells #[.int .i64 0, .int .i64 0, .int .i64 0, .int .i64 0, .int .i64 0] 25)) (Nat.le_refl _) (.cells #[.int .i64 z, .int .i64 t, .int .i64 f, .int .i64 s, .int .i64 p] 25))
  have HP := Lib.hid ((((held_last z t f s p 25 w).alloc (.cells #[.int .u8 k, .int .i64 n, .int .i64 a, .int .i64 now] 48)).alloc (.cells #[.int .i64 0, .int .i64 0, .int .i64 0, .int .i64 0, .int .i64 0] 25)).alloc (.cells #[.int .i64 z, .int .i64 t, .int .i64 f, .int .i64 s, .int .i64 p] 25))
  have HR := Lib.hid ((held_at (b := w.heap.size + 2) 0 0 0 0 0 25 ((w.alloc (.cells #[.int .i64 z, .int .i64 t, .int .i64 f, .int .i64 s, .int .i64 p] 25)).alloc (.cells #[.int .u8 k, .int .i64 n, .int .i64 a, .int .i64 now] 48)) (by simp)).alloc (.cells #[.int .i64 z, .int .i64 t, .int .i64 f, .int .i64 s, .int .i64 p] 25))
  have HX := Lib.hid (held_at (b := w.heap.size + 3) z t f s p 25 (((w.alloc (.cells #[.int .i64 z, .int .i64 t, .int .i64 f, .int .i64 s, .int .i64 p] 25)).alloc (.cells #[.int .u8 k, .int .i64 n, .int .i64 a, .int .i64 now] 48)).alloc (.cells #[.int .i64 0, .int .i64 0, .int .i64 0, .int .i64 0, .int .i64 0] 25)) (by simp))
  have n02 : w.heap.size ≠ w.heap.size + 2 := by omega
  have n20 : w.heap.size + 2 ≠ w.heap.size := by omega
  have n03 : w.heap.size ≠ w.heap.size + 3 := by omega
  have n30 : w.heap.size + 3 ≠ w.heap.size := by omega
  have n23 : w.heap.size + 2 ≠ w.heap.size + 3 := by omega
  have n32 : w.heap.size + 3 ≠ w.heap.size + 2 := by omega
  clear he
  go_enter Try.func26, Try.ntmps26
  go_wp2_with fail
  refine (C.out _).mono ?_
  rintro e wk1 ⟨rfl, bn⟩
  have HP := Lib.hid (HP.out.below bn)
  have HR := Lib.hid (HR.out.below bn)
  have HX := Lib.hid (HX.out.below bn)
  have BB := Lib.hid (BB.out.trans (bn.mono BB.out.size))
  clear bn C
  obtain ⟨x0, x1, x2, x3, x4⟩ := HX.out.facts
  obtain ⟨g0, g1, g2, g3, g4⟩ := HX.out.free
  have HP := Lib.hid (HP.out.others (w.heap.size + 3) n30 (.int .i64 z') (.int .i64 t') (.int .i64 f') (.int .i64 s') (.int .i64 p'))
  have HR := Lib.hid (HR.out.others (w.heap.size + 3) n32 (.int .i64 z') (.int .i64 t') (.int .i64 f') (.int .i64 s') (.int .i64 p'))
  have HX := Lib.hid (HX.out.set z' t' f' s' p')
  have BB := Lib.hid (below_five BB.out (w.heap.size + 3) (by omega) (.int .i64 z') (.int .i64 t') (.int .i64 f') (.int .i64 s') (.int .i64 p'))
  go_upto_region 10 with fail
  generalize (((((wk1.setCell ⟨w.heap.size + 3, 0, none⟩ (.int .i64 z')).setCell ⟨w.heap.size + 3, 1, none⟩ (.int .i64 t')).setCell ⟨w.heap.size + 3, 2, none⟩ (.int .i64 f')).setCell ⟨w.heap.size + 3, 3, none⟩ (.int .i64 s')).setCell ⟨w.heap.size + 3, 4, none⟩ (.int .i64 p')) = w5 at HP HR HX BB ⊢
  clear x0 x1 x2 x3 x4 g0 g1 g2 g3 g4
  obtain ⟨x0, x1, x2, x3, x4⟩ := HX.out.facts
  obtain ⟨p0, p1, p2, p3, p4⟩ := HP.out.facts
  obtain ⟨r0, r1, r2, r3, r4⟩ := HR.out.facts
  obtain ⟨f0, f1, f2, f3, f4⟩ := HR.out.free
  go_wp2
  exact bodyPost_ret (v := .tuple #[.agg #[.int .i64 z', .int .i64 t', .int .i64 f', .int .i64 s', .int .i64 p'], .int .i64 0]) (by simp [results, Try.results26, go_sem, r0, r1, r2, r3, r4]) rfl ⟨rfl, below_five BB.out _ (by omega) _ _ _ _ _⟩
set_option maxHeartbeats 1600000 in
theorem does_0b (z t f s p k n a now z' t' f' s' p' e' : Int) (w : World) (hk : k.tmod 4 = 0) (he : sentE ⟨z, t, f, s, p⟩ n = (⟨z', t', f', s', p'⟩, e')) (hne : (e' != 0) = true) (hne' : (e' == 0) = false) :
    Calls Try.prog 26 #[.agg #[.int .i64 z, .int .i64 t, .int .i64 f, .int .i64 s, .int .i64 p], .agg #[.int .u8 k, .int .i64 n, .int .i64 a, .int .i64 now]] w fun e w' => e = .returned (.tuple #[.agg #[.int .i64 z, .int .i64 t, .int .i64 f, .int .i64 s, .int .i64 p], .int .i64 e']) ∧ Below w.heap.size w w' := by
  have C := Lib.hid (fun w => sent_eq he w)
  have BB := Lib.hid (below_more (below_more (below_two w (.cells #[.int .i64 z, .int .i64 t, .int .i64 f, .int .i64 s, .int .i64 p] 25) (.cells #[.int .u8 k, .int .i64 n, .int .i64 a, .int .i64 now] 48)) (Nat.le_refl _) (.cells #[.int .i64 0, .int .i64 0, .int .i64 0, .int .i64 0, .int .i64 0] 25)) (Nat.le_refl _) (.cells #[.int .i64 z, .int .i64 t, .int .i64 f, .int .i64 s, .int .i64 p] 25))
  have HP := Lib.hid ((((held_last z t f s p 25 w).alloc (.cells #[.int .u8 k, .int .i64 n, .int .i64 a, .int .i64 now] 48)).alloc (.cells #[.int .i64 0, .int .i64 0, .int .i64 0, .int .i64 0, .int .i64 0] 25)).alloc (.cells #[.int .i64 z, .int .i64 t, .int .i64 f, .int .i64 s, .int .i64 p] 25))
  have HR := Lib.hid ((held_at (b := w.heap.size + 2) 0 0 0 0 0 25 ((w.alloc (.cells #[.int .i64 z, .int .i64 t, .int .i64 f, .int .i64 s, .int .i64 p] 25)).alloc (.cells #[.int .u8 k, .int .i64 n, .int .i64 a, .int .i64 now] 48)) (by simp)).alloc (.cells #[.int .i64 z, .int .i64 t, .int .i64 f, .int .i64 s, .int .i64 p] 25))
  have HX := Lib.hid (held_at (b := w.heap.size + 3) z t f s p 25 (((w.alloc (.cells #[.int .i64 z, .int .i64 t, .int .i64 f, .int .i64 s, .int .i64 p] 25)).alloc (.cells #[.int .u8 k, .int .i64 n, .int .i64 a, .int .i64 now] 48)).alloc (.cells #[.int .i64 0, .int .i64 0, .int .i64 0, .int .i64 0, .int .i64 0] 25)) (by simp))
  have n02 : w.heap.size ≠ w.heap.size + 2 := by omega
  have n20 : w.heap.size + 2 ≠ w.heap.size := by omega
  have n03 : w.heap.size ≠ w.heap.size + 3 := by omega
  have n30 : w.heap.size + 3 ≠ w.heap.size := by omega
  have n23 : w.heap.size + 2 ≠ w.heap.size + 3 := by omega
  have n32 : w.heap.size + 3 ≠ w.heap.size + 2 := by omega
  clear he
  go_enter Try.func26, Try.ntmps26
  go_wp2_with fail
  refine (C.out _).mono ?_
  rintro e wk1 ⟨rfl, bn⟩
  have HP := Lib.hid (HP.out.below bn)
  have HR := Lib.hid (HR.out.below bn)
  have HX := Lib.hid (HX.out.below bn)
  have BB := Lib.hid (BB.out.trans (bn.mono BB.out.size))
  clear bn C
  obtain ⟨x0, x1, x2, x3, x4⟩ := HX.out.facts
  obtain ⟨g0, g1, g2, g3, g4⟩ := HX.out.free
  have HP := Lib.hid (HP.out.others (w.heap.size + 3) n30 (.int .i64 z') (.int .i64 t') (.int .i64 f') (.int .i64 s') (.int .i64 p'))
  have HR := Lib.hid (HR.out.others (w.heap.size + 3) n32 (.int .i64 z') (.int .i64 t') (.int .i64 f') (.int .i64 s') (.int .i64 p'))
  have HX := Lib.hid (HX.out.set z' t' f' s' p')
  have BB := Lib.hid (below_five BB.out (w.heap.size + 3) (by omega) (.int .i64 z') (.int .i64 t') (.int .i64 f') (.int .i64 s') (.int .i64 p'))
  go_upto_region 10 with fail
  generalize (((((wk1.setCell ⟨w.heap.size + 3, 0, none⟩ (.int .i64 z')).setCell ⟨w.heap.size + 3, 1, none⟩ (.int .i64 t')).setCell ⟨w.heap.size + 3, 2, none⟩ (.int .i64 f')).setCell ⟨w.heap.size + 3, 3, none⟩ (.int .i64 s')).setCell ⟨w.heap.size + 3, 4, none⟩ (.int .i64 p')) = w5 at HP HR HX BB ⊢
  clear x0 x1 x2 x3 x4 g0 g1 g2 g3 g4
  obtain ⟨x0, x1, x2, x3, x4⟩ := HX.out.facts
  obtain ⟨p0, p1, p2, p3, p4⟩ := HP.out.facts
  obtain ⟨r0, r1, r2, r3, r4⟩ := HR.out.facts
  obtain ⟨f0, f1, f2, f3, f4⟩ := HR.out.free
  go_wp2
  exact bodyPost_ret (v := .tuple #[.agg #[.int .i64 z, .int .i64 t, .int .i64 f, .int .i64 s, .int .i64 p], .int .i64 e']) (by simp [results, Try.results26, go_sem, r0, r1, r2, r3, r4]) rfl ⟨rfl, below_five BB.out _ (by omega) _ _ _ _ _⟩
set_option maxHeartbeats 1600000 in
theorem does_1a (z t f s p k n a now z' t' f' s' p' : Int) (w : World) (hk : k.tmod 4 = 1) (he : ackedE ⟨z, t, f, s, p⟩ n a = (⟨z', t', f', s', p'⟩, 0))  :
    Calls Try.prog 26 #[.agg #[.int .i64 z, .int .i64 t, .int .i64 f, .int .i64 s, .int .i64 p], .agg #[.int .u8 k, .int .i64 n, .int .i64 a, .int .i64 now]] w fun e w' => e = .returned (.tuple #[.agg #[.int .i64 z', .int .i64 t', .int .i64 f', .int .i64 s', .int .i64 p'], .int .i64 0]) ∧ Below w.heap.size w w' := by
  have C := Lib.hid (fun w => acked_eq he w)
  have BB := Lib.hid (below_more (below_more (below_two w (.cells #[.int .i64 z, .int .i64 t, .int .i64 f, .int .i64 s, .int .i64 p] 25) (.cells #[.int .u8 k, .int .i64 n, .int .i64 a, .int .i64 now] 48)) (Nat.le_refl _) (.cells #[.int .i64 0, .int .i64 0, .int .i64 0, .int .i64 0, .int .i64 0] 25)) (Nat.le_refl _) (.cells #[.int .i64 z, .int .i64 t, .int .i64 f, .int .i64 s, .int .i64 p] 25))
  have HP := Lib.hid ((((held_last z t f s p 25 w).alloc (.cells #[.int .u8 k, .int .i64 n, .int .i64 a, .int .i64 now] 48)).alloc (.cells #[.int .i64 0, .int .i64 0, .int .i64 0, .int .i64 0, .int .i64 0] 25)).alloc (.cells #[.int .i64 z, .int .i64 t, .int .i64 f, .int .i64 s, .int .i64 p] 25))
  have HR := Lib.hid ((held_at (b := w.heap.size + 2) 0 0 0 0 0 25 ((w.alloc (.cells #[.int .i64 z, .int .i64 t, .int .i64 f, .int .i64 s, .int .i64 p] 25)).alloc (.cells #[.int .u8 k, .int .i64 n, .int .i64 a, .int .i64 now] 48)) (by simp)).alloc (.cells #[.int .i64 z, .int .i64 t, .int .i64 f, .int .i64 s, .int .i64 p] 25))
  have HX := Lib.hid (held_at (b := w.heap.size + 3) z t f s p 25 (((w.alloc (.cells #[.int .i64 z, .int .i64 t, .int .i64 f, .int .i64 s, .int .i64 p] 25)).alloc (.cells #[.int .u8 k, .int .i64 n, .int .i64 a, .int .i64 now] 48)).alloc (.cells #[.int .i64 0, .int .i64 0, .int .i64 0, .int .i64 0, .int .i64 0] 25)) (by simp))
  have n02 : w.heap.size ≠ w.heap.size + 2 := by omega
  have n20 : w.heap.size + 2 ≠ w.heap.size := by omega
  have n03 : w.heap.size ≠ w.heap.size + 3 := by omega
  have n30 : w.heap.size + 3 ≠ w.heap.size := by omega
  have n23 : w.heap.size + 2 ≠ w.heap.size + 3 := by omega
  have n32 : w.heap.size + 3 ≠ w.heap.size + 2 := by omega
  clear he
  go_enter Try.func26, Try.ntmps26
  go_wp2_with fail
  refine (C.out _).mono ?_
  rintro e wk1 ⟨rfl, bn⟩
  have HP := Lib.hid (HP.out.below bn)
  have HR := Lib.hid (HR.out.below bn)
  have HX := Lib.hid (HX.out.below bn)
  have BB := Lib.hid (BB.out.trans (bn.mono BB.out.size))
  clear bn C
  obtain ⟨x0, x1, x2, x3, x4⟩ := HX.out.facts
  obtain ⟨g0, g1, g2, g3, g4⟩ := HX.out.free
  have HP := Lib.hid (HP.out.others (w.heap.size + 3) n30 (.int .i64 z') (.int .i64 t') (.int .i64 f') (.int .i64 s') (.int .i64 p'))
  have HR := Lib.hid (HR.out.others (w.heap.size + 3) n32 (.int .i64 z') (.int .i64 t') (.int .i64 f') (.int .i64 s') (.int .i64 p'))
  have HX := Lib.hid (HX.out.set z' t' f' s' p')
  have BB := Lib.hid (below_five BB.out (w.heap.size + 3) (by omega) (.int .i64 z') (.int .i64 t') (.int .i64 f') (.int .i64 s') (.int .i64 p'))
  go_upto_region 10 with fail
  generalize (((((wk1.setCell ⟨w.heap.size + 3, 0, none⟩ (.int .i64 z')).setCell ⟨w.heap.size + 3, 1, none⟩ (.int .i64 t')).setCell ⟨w.heap.size + 3, 2, none⟩ (.int .i64 f')).setCell ⟨w.heap.size + 3, 3, none⟩ (.int .i64 s')).setCell ⟨w.heap.size + 3, 4, none⟩ (.int .i64 p')) = w5 at HP HR HX BB ⊢
  clear x0 x1 x2 x3 x4 g0 g1 g2 g3 g4
  obtain ⟨x0, x1, x2, x3, x4⟩ := HX.out.facts
  obtain ⟨p0, p1, p2, p3, p4⟩ := HP.out.facts
  obtain ⟨r0, r1, r2, r3, r4⟩ := HR.out.facts
  obtain ⟨f0, f1, f2, f3, f4⟩ := HR.out.free
  go_wp2
  exact bodyPost_ret (v := .tuple #[.agg #[.int .i64 z', .int .i64 t', .int .i64 f', .int .i64 s', .int .i64 p'], .int .i64 0]) (by simp [results, Try.results26, go_sem, r0, r1, r2, r3, r4]) rfl ⟨rfl, below_five BB.out _ (by omega) _ _ _ _ _⟩
set_option maxHeartbeats 1600000 in
theorem does_1b (z t f s p k n a now z' t' f' s' p' e' : Int) (w : World) (hk : k.tmod 4 = 1) (he : ackedE ⟨z, t, f, s, p⟩ n a = (⟨z', t', f', s', p'⟩, e')) (hne : (e' != 0) = true) (hne' : (e' == 0) = false) :
    Calls Try.prog 26 #[.agg #[.int .i64 z, .int .i64 t, .int .i64 f, .int .i64 s, .int .i64 p], .agg #[.int .u8 k, .int .i64 n, .int .i64 a, .int .i64 now]] w fun e w' => e = .returned (.tuple #[.agg #[.int .i64 z, .int .i64 t, .int .i64 f, .int .i64 s, .int .i64 p], .int .i64 e']) ∧ Below w.heap.size w w' := by
  have C := Lib.hid (fun w => acked_eq he w)
  have BB := Lib.hid (below_more (below_more (below_two w (.cells #[.int .i64 z, .int .i64 t, .int .i64 f, .int .i64 s, .int .i64 p] 25) (.cells #[.int .u8 k, .int .i64 n, .int .i64 a, .int .i64 now] 48)) (Nat.le_refl _) (.cells #[.int .i64 0, .int .i64 0, .int .i64 0, .int .i64 0, .int .i64 0] 25)) (Nat.le_refl _) (.cells #[.int .i64 z, .int .i64 t, .int .i64 f, .int .i64 s, .int .i64 p] 25))
  have HP := Lib.hid ((((held_last z t f s p 25 w).alloc (.cells #[.int .u8 k, .int .i64 n, .int .i64 a, .int .i64 now] 48)).alloc (.cells #[.int .i64 0, .int .i64 0, .int .i64 0, .int .i64 0, .int .i64 0] 25)).alloc (.cells #[.int .i64 z, .int .i64 t, .int .i64 f, .int .i64 s, .int .i64 p] 25))
  have HR := Lib.hid ((held_at (b := w.heap.size + 2) 0 0 0 0 0 25 ((w.alloc (.cells #[.int .i64 z, .int .i64 t, .int .i64 f, .int .i64 s, .int .i64 p] 25)).alloc (.cells #[.int .u8 k, .int .i64 n, .int .i64 a, .int .i64 now] 48)) (by simp)).alloc (.cells #[.int .i64 z, .int .i64 t, .int .i64 f, .int .i64 s, .int .i64 p] 25))
  have HX := Lib.hid (held_at (b := w.heap.size + 3) z t f s p 25 (((w.alloc (.cells #[.int .i64 z, .int .i64 t, .int .i64 f, .int .i64 s, .int .i64 p] 25)).alloc (.cells #[.int .u8 k, .int .i64 n, .int .i64 a, .int .i64 now] 48)).alloc (.cells #[.int .i64 0, .int .i64 0, .int .i64 0, .int .i64 0, .int .i64 0] 25)) (by simp))
  have n02 : w.heap.size ≠ w.heap.size + 2 := by omega
  have n20 : w.heap.size + 2 ≠ w.heap.size := by omega
  have n03 : w.heap.size ≠ w.heap.size + 3 := by omega
  have n30 : w.heap.size + 3 ≠ w.heap.size := by omega
  have n23 : w.heap.size + 2 ≠ w.heap.size + 3 := by omega
  have n32 : w.heap.size + 3 ≠ w.heap.size + 2 := by omega
  clear he
  go_enter Try.func26, Try.ntmps26
  go_wp2_with fail
  refine (C.out _).mono ?_
  rintro e wk1 ⟨rfl, bn⟩
  have HP := Lib.hid (HP.out.below bn)
  have HR := Lib.hid (HR.out.below bn)
  have HX := Lib.hid (HX.out.below bn)
  have BB := Lib.hid (BB.out.trans (bn.mono BB.out.size))
  clear bn C
  obtain ⟨x0, x1, x2, x3, x4⟩ := HX.out.facts
  obtain ⟨g0, g1, g2, g3, g4⟩ := HX.out.free
  have HP := Lib.hid (HP.out.others (w.heap.size + 3) n30 (.int .i64 z') (.int .i64 t') (.int .i64 f') (.int .i64 s') (.int .i64 p'))
  have HR := Lib.hid (HR.out.others (w.heap.size + 3) n32 (.int .i64 z') (.int .i64 t') (.int .i64 f') (.int .i64 s') (.int .i64 p'))
  have HX := Lib.hid (HX.out.set z' t' f' s' p')
  have BB := Lib.hid (below_five BB.out (w.heap.size + 3) (by omega) (.int .i64 z') (.int .i64 t') (.int .i64 f') (.int .i64 s') (.int .i64 p'))
  go_upto_region 10 with fail
  generalize (((((wk1.setCell ⟨w.heap.size + 3, 0, none⟩ (.int .i64 z')).setCell ⟨w.heap.size + 3, 1, none⟩ (.int .i64 t')).setCell ⟨w.heap.size + 3, 2, none⟩ (.int .i64 f')).setCell ⟨w.heap.size + 3, 3, none⟩ (.int .i64 s')).setCell ⟨w.heap.size + 3, 4, none⟩ (.int .i64 p')) = w5 at HP HR HX BB ⊢
  clear x0 x1 x2 x3 x4 g0 g1 g2 g3 g4
  obtain ⟨x0, x1, x2, x3, x4⟩ := HX.out.facts
  obtain ⟨p0, p1, p2, p3, p4⟩ := HP.out.facts
  obtain ⟨r0, r1, r2, r3, r4⟩ := HR.out.facts
  obtain ⟨f0, f1, f2, f3, f4⟩ := HR.out.free
  go_wp2
  exact bodyPost_ret (v := .tuple #[.agg #[.int .i64 z, .int .i64 t, .int .i64 f, .int .i64 s, .int .i64 p], .int .i64 e']) (by simp [results, Try.results26, go_sem, r0, r1, r2, r3, r4]) rfl ⟨rfl, below_five BB.out _ (by omega) _ _ _ _ _⟩
set_option maxHeartbeats 1600000 in
theorem does_2a (z t f s p k n a now z' t' f' s' p' : Int) (w : World) (hk : k.tmod 4 = 2) (he : lostE ⟨z, t, f, s, p⟩ n a now = (⟨z', t', f', s', p'⟩, 0))  :
    Calls Try.prog 26 #[.agg #[.int .i64 z, .int .i64 t, .int .i64 f, .int .i64 s, .int .i64 p], .agg #[.int .u8 k, .int .i64 n, .int .i64 a, .int .i64 now]] w fun e w' => e = .returned (.tuple #[.agg #[.int .i64 z', .int .i64 t', .int .i64 f', .int .i64 s', .int .i64 p'], .int .i64 0]) ∧ Below w.heap.size w w' := by
  have C := Lib.hid (fun w => lost_eq he w)
  have BB := Lib.hid (below_more (below_more (below_two w (.cells #[.int .i64 z, .int .i64 t, .int .i64 f, .int .i64 s, .int .i64 p] 25) (.cells #[.int .u8 k, .int .i64 n, .int .i64 a, .int .i64 now] 48)) (Nat.le_refl _) (.cells #[.int .i64 0, .int .i64 0, .int .i64 0, .int .i64 0, .int .i64 0] 25)) (Nat.le_refl _) (.cells #[.int .i64 z, .int .i64 t, .int .i64 f, .int .i64 s, .int .i64 p] 25))
  have HP := Lib.hid ((((held_last z t f s p 25 w).alloc (.cells #[.int .u8 k, .int .i64 n, .int .i64 a, .int .i64 now] 48)).alloc (.cells #[.int .i64 0, .int .i64 0, .int .i64 0, .int .i64 0, .int .i64 0] 25)).alloc (.cells #[.int .i64 z, .int .i64 t, .int .i64 f, .int .i64 s, .int .i64 p] 25))
  have HR := Lib.hid ((held_at (b := w.heap.size + 2) 0 0 0 0 0 25 ((w.alloc (.cells #[.int .i64 z, .int .i64 t, .int .i64 f, .int .i64 s, .int .i64 p] 25)).alloc (.cells #[.int .u8 k, .int .i64 n, .int .i64 a, .int .i64 now] 48)) (by simp)).alloc (.cells #[.int .i64 z, .int .i64 t, .int .i64 f, .int .i64 s, .int .i64 p] 25))
  have HX := Lib.hid (held_at (b := w.heap.size + 3) z t f s p 25 (((w.alloc (.cells #[.int .i64 z, .int .i64 t, .int .i64 f, .int .i64 s, .int .i64 p] 25)).alloc (.cells #[.int .u8 k, .int .i64 n, .int .i64 a, .int .i64 now] 48)).alloc (.cells #[.int .i64 0, .int .i64 0, .int .i64 0, .int .i64 0, .int .i64 0] 25)) (by simp))
  have n02 : w.heap.size ≠ w.heap.size + 2 := by omega
  have n20 : w.heap.size + 2 ≠ w.heap.size := by omega
  have n03 : w.heap.size ≠ w.heap.size + 3 := by omega
  have n30 : w.heap.size + 3 ≠ w.heap.size := by omega
  have n23 : w.heap.size + 2 ≠ w.heap.size + 3 := by omega
  have n32 : w.heap.size + 3 ≠ w.heap.size + 2 := by omega
  clear he
  go_enter Try.func26, Try.ntmps26
  go_wp2_with fail
  refine (C.out _).mono ?_
  rintro e wk1 ⟨rfl, bn⟩
  have HP := Lib.hid (HP.out.below bn)
  have HR := Lib.hid (HR.out.below bn)
  have HX := Lib.hid (HX.out.below bn)
  have BB := Lib.hid (BB.out.trans (bn.mono BB.out.size))
  clear bn C
  obtain ⟨x0, x1, x2, x3, x4⟩ := HX.out.facts
  obtain ⟨g0, g1, g2, g3, g4⟩ := HX.out.free
  have HP := Lib.hid (HP.out.others (w.heap.size + 3) n30 (.int .i64 z') (.int .i64 t') (.int .i64 f') (.int .i64 s') (.int .i64 p'))
  have HR := Lib.hid (HR.out.others (w.heap.size + 3) n32 (.int .i64 z') (.int .i64 t') (.int .i64 f') (.int .i64 s') (.int .i64 p'))
  have HX := Lib.hid (HX.out.set z' t' f' s' p')
  have BB := Lib.hid (below_five BB.out (w.heap.size + 3) (by omega) (.int .i64 z') (.int .i64 t') (.int .i64 f') (.int .i64 s') (.int .i64 p'))
  go_upto_region 10 with fail
  generalize (((((wk1.setCell ⟨w.heap.size + 3, 0, none⟩ (.int .i64 z')).setCell ⟨w.heap.size + 3, 1, none⟩ (.int .i64 t')).setCell ⟨w.heap.size + 3, 2, none⟩ (.int .i64 f')).setCell ⟨w.heap.size + 3, 3, none⟩ (.int .i64 s')).setCell ⟨w.heap.size + 3, 4, none⟩ (.int .i64 p')) = w5 at HP HR HX BB ⊢
  clear x0 x1 x2 x3 x4 g0 g1 g2 g3 g4
  obtain ⟨x0, x1, x2, x3, x4⟩ := HX.out.facts
  obtain ⟨p0, p1, p2, p3, p4⟩ := HP.out.facts
  obtain ⟨r0, r1, r2, r3, r4⟩ := HR.out.facts
  obtain ⟨f0, f1, f2, f3, f4⟩ := HR.out.free
  go_wp2
  exact bodyPost_ret (v := .tuple #[.agg #[.int .i64 z', .int .i64 t', .int .i64 f', .int .i64 s', .int .i64 p'], .int .i64 0]) (by simp [results, Try.results26, go_sem, r0, r1, r2, r3, r4]) rfl ⟨rfl, below_five BB.out _ (by omega) _ _ _ _ _⟩
set_option maxHeartbeats 1600000 in
theorem does_2b (z t f s p k n a now z' t' f' s' p' e' : Int) (w : World) (hk : k.tmod 4 = 2) (he : lostE ⟨z, t, f, s, p⟩ n a now = (⟨z', t', f', s', p'⟩, e')) (hne : (e' != 0) = true) (hne' : (e' == 0) = false) :
    Calls Try.prog 26 #[.agg #[.int .i64 z, .int .i64 t, .int .i64 f, .int .i64 s, .int .i64 p], .agg #[.int .u8 k, .int .i64 n, .int .i64 a, .int .i64 now]] w fun e w' => e = .returned (.tuple #[.agg #[.int .i64 z, .int .i64 t, .int .i64 f, .int .i64 s, .int .i64 p], .int .i64 e']) ∧ Below w.heap.size w w' := by
  have C := Lib.hid (fun w => lost_eq he w)
  have BB := Lib.hid (below_more (below_more (below_two w (.cells #[.int .i64 z, .int .i64 t, .int .i64 f, .int .i64 s, .int .i64 p] 25) (.cells #[.int .u8 k, .int .i64 n, .int .i64 a, .int .i64 now] 48)) (Nat.le_refl _) (.cells #[.int .i64 0, .int .i64 0, .int .i64 0, .int .i64 0, .int .i64 0] 25)) (Nat.le_refl _) (.cells #[.int .i64 z, .int .i64 t, .int .i64 f, .int .i64 s, .int .i64 p] 25))
  have HP := Lib.hid ((((held_last z t f s p 25 w).alloc (.cells #[.int .u8 k, .int .i64 n, .int .i64 a, .int .i64 now] 48)).alloc (.cells #[.int .i64 0, .int .i64 0, .int .i64 0, .int .i64 0, .int .i64 0] 25)).alloc (.cells #[.int .i64 z, .int .i64 t, .int .i64 f, .int .i64 s, .int .i64 p] 25))
  have HR := Lib.hid ((held_at (b := w.heap.size + 2) 0 0 0 0 0 25 ((w.alloc (.cells #[.int .i64 z, .int .i64 t, .int .i64 f, .int .i64 s, .int .i64 p] 25)).alloc (.cells #[.int .u8 k, .int .i64 n, .int .i64 a, .int .i64 now] 48)) (by simp)).alloc (.cells #[.int .i64 z, .int .i64 t, .int .i64 f, .int .i64 s, .int .i64 p] 25))
  have HX := Lib.hid (held_at (b := w.heap.size + 3) z t f s p 25 (((w.alloc (.cells #[.int .i64 z, .int .i64 t, .int .i64 f, .int .i64 s, .int .i64 p] 25)).alloc (.cells #[.int .u8 k, .int .i64 n, .int .i64 a, .int .i64 now] 48)).alloc (.cells #[.int .i64 0, .int .i64 0, .int .i64 0, .int .i64 0, .int .i64 0] 25)) (by simp))
  have n02 : w.heap.size ≠ w.heap.size + 2 := by omega
  have n20 : w.heap.size + 2 ≠ w.heap.size := by omega
  have n03 : w.heap.size ≠ w.heap.size + 3 := by omega
  have n30 : w.heap.size + 3 ≠ w.heap.size := by omega
  have n23 : w.heap.size + 2 ≠ w.heap.size + 3 := by omega
  have n32 : w.heap.size + 3 ≠ w.heap.size + 2 := by omega
  clear he
  go_enter Try.func26, Try.ntmps26
  go_wp2_with fail
  refine (C.out _).mono ?_
  rintro e wk1 ⟨rfl, bn⟩
  have HP := Lib.hid (HP.out.below bn)
  have HR := Lib.hid (HR.out.below bn)
  have HX := Lib.hid (HX.out.below bn)
  have BB := Lib.hid (BB.out.trans (bn.mono BB.out.size))
  clear bn C
  obtain ⟨x0, x1, x2, x3, x4⟩ := HX.out.facts
  obtain ⟨g0, g1, g2, g3, g4⟩ := HX.out.free
  have HP := Lib.hid (HP.out.others (w.heap.size + 3) n30 (.int .i64 z') (.int .i64 t') (.int .i64 f') (.int .i64 s') (.int .i64 p'))
  have HR := Lib.hid (HR.out.others (w.heap.size + 3) n32 (.int .i64 z') (.int .i64 t') (.int .i64 f') (.int .i64 s') (.int .i64 p'))
  have HX := Lib.hid (HX.out.set z' t' f' s' p')
  have BB := Lib.hid (below_five BB.out (w.heap.size + 3) (by omega) (.int .i64 z') (.int .i64 t') (.int .i64 f') (.int .i64 s') (.int .i64 p'))
  go_upto_region 10 with fail
  generalize (((((wk1.setCell ⟨w.heap.size + 3, 0, none⟩ (.int .i64 z')).setCell ⟨w.heap.size + 3, 1, none⟩ (.int .i64 t')).setCell ⟨w.heap.size + 3, 2, none⟩ (.int .i64 f')).setCell ⟨w.heap.size + 3, 3, none⟩ (.int .i64 s')).setCell ⟨w.heap.size + 3, 4, none⟩ (.int .i64 p')) = w5 at HP HR HX BB ⊢
  clear x0 x1 x2 x3 x4 g0 g1 g2 g3 g4
  obtain ⟨x0, x1, x2, x3, x4⟩ := HX.out.facts
  obtain ⟨p0, p1, p2, p3, p4⟩ := HP.out.facts
  obtain ⟨r0, r1, r2, r3, r4⟩ := HR.out.facts
  obtain ⟨f0, f1, f2, f3, f4⟩ := HR.out.free
  go_wp2
  exact bodyPost_ret (v := .tuple #[.agg #[.int .i64 z, .int .i64 t, .int .i64 f, .int .i64 s, .int .i64 p], .int .i64 e']) (by simp [results, Try.results26, go_sem, r0, r1, r2, r3, r4]) rfl ⟨rfl, below_five BB.out _ (by omega) _ _ _ _ _⟩
set_option maxHeartbeats 1600000 in
theorem does_3a (z t f s p k n a now z' t' f' s' p' : Int) (w : World) (hk : k.tmod 4 = 3) (he : goneE ⟨z, t, f, s, p⟩ n = (⟨z', t', f', s', p'⟩, 0))  :
    Calls Try.prog 26 #[.agg #[.int .i64 z, .int .i64 t, .int .i64 f, .int .i64 s, .int .i64 p], .agg #[.int .u8 k, .int .i64 n, .int .i64 a, .int .i64 now]] w fun e w' => e = .returned (.tuple #[.agg #[.int .i64 z', .int .i64 t', .int .i64 f', .int .i64 s', .int .i64 p'], .int .i64 0]) ∧ Below w.heap.size w w' := by
  have C := Lib.hid (fun w => gone_eq he w)
  have BB := Lib.hid (below_more (below_more (below_two w (.cells #[.int .i64 z, .int .i64 t, .int .i64 f, .int .i64 s, .int .i64 p] 25) (.cells #[.int .u8 k, .int .i64 n, .int .i64 a, .int .i64 now] 48)) (Nat.le_refl _) (.cells #[.int .i64 0, .int .i64 0, .int .i64 0, .int .i64 0, .int .i64 0] 25)) (Nat.le_refl _) (.cells #[.int .i64 z, .int .i64 t, .int .i64 f, .int .i64 s, .int .i64 p] 25))
  have HP := Lib.hid ((((held_last z t f s p 25 w).alloc (.cells #[.int .u8 k, .int .i64 n, .int .i64 a, .int .i64 now] 48)).alloc (.cells #[.int .i64 0, .int .i64 0, .int .i64 0, .int .i64 0, .int .i64 0] 25)).alloc (.cells #[.int .i64 z, .int .i64 t, .int .i64 f, .int .i64 s, .int .i64 p] 25))
  have HR := Lib.hid ((held_at (b := w.heap.size + 2) 0 0 0 0 0 25 ((w.alloc (.cells #[.int .i64 z, .int .i64 t, .int .i64 f, .int .i64 s, .int .i64 p] 25)).alloc (.cells #[.int .u8 k, .int .i64 n, .int .i64 a, .int .i64 now] 48)) (by simp)).alloc (.cells #[.int .i64 z, .int .i64 t, .int .i64 f, .int .i64 s, .int .i64 p] 25))
  have HX := Lib.hid (held_at (b := w.heap.size + 3) z t f s p 25 (((w.alloc (.cells #[.int .i64 z, .int .i64 t, .int .i64 f, .int .i64 s, .int .i64 p] 25)).alloc (.cells #[.int .u8 k, .int .i64 n, .int .i64 a, .int .i64 now] 48)).alloc (.cells #[.int .i64 0, .int .i64 0, .int .i64 0, .int .i64 0, .int .i64 0] 25)) (by simp))
  have n02 : w.heap.size ≠ w.heap.size + 2 := by omega
  have n20 : w.heap.size + 2 ≠ w.heap.size := by omega
  have n03 : w.heap.size ≠ w.heap.size + 3 := by omega
  have n30 : w.heap.size + 3 ≠ w.heap.size := by omega
  have n23 : w.heap.size + 2 ≠ w.heap.size + 3 := by omega
  have n32 : w.heap.size + 3 ≠ w.heap.size + 2 := by omega
  clear he
  go_enter Try.func26, Try.ntmps26
  go_wp2_with fail
  refine (C.out _).mono ?_
  rintro e wk1 ⟨rfl, bn⟩
  have HP := Lib.hid (HP.out.below bn)
  have HR := Lib.hid (HR.out.below bn)
  have HX := Lib.hid (HX.out.below bn)
  have BB := Lib.hid (BB.out.trans (bn.mono BB.out.size))
  clear bn C
  obtain ⟨x0, x1, x2, x3, x4⟩ := HX.out.facts
  obtain ⟨g0, g1, g2, g3, g4⟩ := HX.out.free
  have HP := Lib.hid (HP.out.others (w.heap.size + 3) n30 (.int .i64 z') (.int .i64 t') (.int .i64 f') (.int .i64 s') (.int .i64 p'))
  have HR := Lib.hid (HR.out.others (w.heap.size + 3) n32 (.int .i64 z') (.int .i64 t') (.int .i64 f') (.int .i64 s') (.int .i64 p'))
  have HX := Lib.hid (HX.out.set z' t' f' s' p')
  have BB := Lib.hid (below_five BB.out (w.heap.size + 3) (by omega) (.int .i64 z') (.int .i64 t') (.int .i64 f') (.int .i64 s') (.int .i64 p'))
  go_upto_region 10 with fail
  generalize (((((wk1.setCell ⟨w.heap.size + 3, 0, none⟩ (.int .i64 z')).setCell ⟨w.heap.size + 3, 1, none⟩ (.int .i64 t')).setCell ⟨w.heap.size + 3, 2, none⟩ (.int .i64 f')).setCell ⟨w.heap.size + 3, 3, none⟩ (.int .i64 s')).setCell ⟨w.heap.size + 3, 4, none⟩ (.int .i64 p')) = w5 at HP HR HX BB ⊢
  clear x0 x1 x2 x3 x4 g0 g1 g2 g3 g4
  obtain ⟨x0, x1, x2, x3, x4⟩ := HX.out.facts
  obtain ⟨p0, p1, p2, p3, p4⟩ := HP.out.facts
  obtain ⟨r0, r1, r2, r3, r4⟩ := HR.out.facts
  obtain ⟨f0, f1, f2, f3, f4⟩ := HR.out.free
  go_wp2
  exact bodyPost_ret (v := .tuple #[.agg #[.int .i64 z', .int .i64 t', .int .i64 f', .int .i64 s', .int .i64 p'], .int .i64 0]) (by simp [results, Try.results26, go_sem, r0, r1, r2, r3, r4]) rfl ⟨rfl, below_five BB.out _ (by omega) _ _ _ _ _⟩
set_option maxHeartbeats 1600000 in
theorem does_3b (z t f s p k n a now z' t' f' s' p' e' : Int) (w : World) (hk : k.tmod 4 = 3) (he : goneE ⟨z, t, f, s, p⟩ n = (⟨z', t', f', s', p'⟩, e')) (hne : (e' != 0) = true) (hne' : (e' == 0) = false) :
    Calls Try.prog 26 #[.agg #[.int .i64 z, .int .i64 t, .int .i64 f, .int .i64 s, .int .i64 p], .agg #[.int .u8 k, .int .i64 n, .int .i64 a, .int .i64 now]] w fun e w' => e = .returned (.tuple #[.agg #[.int .i64 z, .int .i64 t, .int .i64 f, .int .i64 s, .int .i64 p], .int .i64 e']) ∧ Below w.heap.size w w' := by
  have C := Lib.hid (fun w => gone_eq he w)
  have BB := Lib.hid (below_more (below_more (below_two w (.cells #[.int .i64 z, .int .i64 t, .int .i64 f, .int .i64 s, .int .i64 p] 25) (.cells #[.int .u8 k, .int .i64 n, .int .i64 a, .int .i64 now] 48)) (Nat.le_refl _) (.cells #[.int .i64 0, .int .i64 0, .int .i64 0, .int .i64 0, .int .i64 0] 25)) (Nat.le_refl _) (.cells #[.int .i64 z, .int .i64 t, .int .i64 f, .int .i64 s, .int .i64 p] 25))
  have HP := Lib.hid ((((held_last z t f s p 25 w).alloc (.cells #[.int .u8 k, .int .i64 n, .int .i64 a, .int .i64 now] 48)).alloc (.cells #[.int .i64 0, .int .i64 0, .int .i64 0, .int .i64 0, .int .i64 0] 25)).alloc (.cells #[.int .i64 z, .int .i64 t, .int .i64 f, .int .i64 s, .int .i64 p] 25))
  have HR := Lib.hid ((held_at (b := w.heap.size + 2) 0 0 0 0 0 25 ((w.alloc (.cells #[.int .i64 z, .int .i64 t, .int .i64 f, .int .i64 s, .int .i64 p] 25)).alloc (.cells #[.int .u8 k, .int .i64 n, .int .i64 a, .int .i64 now] 48)) (by simp)).alloc (.cells #[.int .i64 z, .int .i64 t, .int .i64 f, .int .i64 s, .int .i64 p] 25))
  have HX := Lib.hid (held_at (b := w.heap.size + 3) z t f s p 25 (((w.alloc (.cells #[.int .i64 z, .int .i64 t, .int .i64 f, .int .i64 s, .int .i64 p] 25)).alloc (.cells #[.int .u8 k, .int .i64 n, .int .i64 a, .int .i64 now] 48)).alloc (.cells #[.int .i64 0, .int .i64 0, .int .i64 0, .int .i64 0, .int .i64 0] 25)) (by simp))
  have n02 : w.heap.size ≠ w.heap.size + 2 := by omega
  have n20 : w.heap.size + 2 ≠ w.heap.size := by omega
  have n03 : w.heap.size ≠ w.heap.size + 3 := by omega
  have n30 : w.heap.size + 3 ≠ w.heap.size := by omega
  have n23 : w.heap.size + 2 ≠ w.heap.size + 3 := by omega
  have n32 : w.heap.size + 3 ≠ w.heap.size + 2 := by omega
  clear he
  go_enter Try.func26, Try.ntmps26
  go_wp2_with fail
  refine (C.out _).mono ?_
  rintro e wk1 ⟨rfl, bn⟩
  have HP := Lib.hid (HP.out.below bn)
  have HR := Lib.hid (HR.out.below bn)
  have HX := Lib.hid (HX.out.below bn)
  have BB := Lib.hid (BB.out.trans (bn.mono BB.out.size))
  clear bn C
  obtain ⟨x0, x1, x2, x3, x4⟩ := HX.out.facts
  obtain ⟨g0, g1, g2, g3, g4⟩ := HX.out.free
  have HP := Lib.hid (HP.out.others (w.heap.size + 3) n30 (.int .i64 z') (.int .i64 t') (.int .i64 f') (.int .i64 s') (.int .i64 p'))
  have HR := Lib.hid (HR.out.others (w.heap.size + 3) n32 (.int .i64 z') (.int .i64 t') (.int .i64 f') (.int .i64 s') (.int .i64 p'))
  have HX := Lib.hid (HX.out.set z' t' f' s' p')
  have BB := Lib.hid (below_five BB.out (w.heap.size + 3) (by omega) (.int .i64 z') (.int .i64 t') (.int .i64 f') (.int .i64 s') (.int .i64 p'))
  go_upto_region 10 with fail
  generalize (((((wk1.setCell ⟨w.heap.size + 3, 0, none⟩ (.int .i64 z')).setCell ⟨w.heap.size + 3, 1, none⟩ (.int .i64 t')).setCell ⟨w.heap.size + 3, 2, none⟩ (.int .i64 f')).setCell ⟨w.heap.size + 3, 3, none⟩ (.int .i64 s')).setCell ⟨w.heap.size + 3, 4, none⟩ (.int .i64 p')) = w5 at HP HR HX BB ⊢
  clear x0 x1 x2 x3 x4 g0 g1 g2 g3 g4
  obtain ⟨x0, x1, x2, x3, x4⟩ := HX.out.facts
  obtain ⟨p0, p1, p2, p3, p4⟩ := HP.out.facts
  obtain ⟨r0, r1, r2, r3, r4⟩ := HR.out.facts
  obtain ⟨f0, f1, f2, f3, f4⟩ := HR.out.free
  go_wp2
  exact bodyPost_ret (v := .tuple #[.agg #[.int .i64 z, .int .i64 t, .int .i64 f, .int .i64 s, .int .i64 p], .int .i64 e']) (by simp [results, Try.results26, go_sem, r0, r1, r2, r3, r4]) rfl ⟨rfl, below_five BB.out _ (by omega) _ _ _ _ _⟩
theorem does_eq {z t f s p k n a now z' t' f' s' p' e' : Int} (hk : 0 ≤ k ∧ k < 256) (he : doesE ⟨z, t, f, s, p⟩ k n a now = (⟨z', t', f', s', p'⟩, e')) (w : World) :
    Calls Try.prog 26 #[.agg #[.int .i64 z, .int .i64 t, .int .i64 f, .int .i64 s, .int .i64 p], .agg #[.int .u8 k, .int .i64 n, .int .i64 a, .int .i64 now]] w fun e w' => e = .returned (.tuple #[.agg #[.int .i64 z', .int .i64 t', .int .i64 f', .int .i64 s', .int .i64 p'], .int .i64 e']) ∧ Below w.heap.size w w' := by
  have hm : k.tmod 4 = k % 4 := Int.tmod_eq_emod_of_nonneg hk.1
  obtain ⟨⟨⟨u, v, x, y, m⟩, d⟩, hc⟩ : ∃ r, callE ⟨z, t, f, s, p⟩ k n a now = r := ⟨_, rfl⟩
  rw [doesE, hc] at he
  dsimp only at he
  unfold callE at hc
  by_cases hd : d = 0
  · subst hd
    rw [if_pos rfl] at he
    simp only [Prod.mk.injEq, St.mk.injEq] at he
    obtain ⟨⟨rfl, rfl, rfl, rfl, rfl⟩, rfl⟩ := he
    by_cases h0 : k % 4 = 0
    · rw [if_pos h0] at hc; exact does_0a z t f s p k n a now _ _ _ _ _ w (hm.trans h0) hc
    by_cases h1 : k % 4 = 1
    · rw [if_neg h0, if_pos h1] at hc; exact does_1a z t f s p k n a now _ _ _ _ _ w (hm.trans h1) hc
    by_cases h2 : k % 4 = 2
    · rw [if_neg h0, if_neg h1, if_pos h2] at hc; exact does_2a z t f s p k n a now _ _ _ _ _ w (hm.trans h2) hc
    rw [if_neg h0, if_neg h1, if_neg h2] at hc
    exact does_3a z t f s p k n a now _ _ _ _ _ w (hm.trans (by omega)) hc
  · rw [if_neg hd] at he
    simp only [Prod.mk.injEq, St.mk.injEq] at he
    obtain ⟨⟨rfl, rfl, rfl, rfl, rfl⟩, rfl⟩ := he
    have d1 : (d != 0) = true := by simpa using hd
    have d2 : (d == 0) = false := by simpa using hd
    by_cases h0 : k % 4 = 0
    · rw [if_pos h0] at hc; exact does_0b z t f s p k n a now _ _ _ _ _ _ w (hm.trans h0) hc d1 d2
    by_cases h1 : k % 4 = 1
    · rw [if_neg h0, if_pos h1] at hc; exact does_1b z t f s p k n a now _ _ _ _ _ _ w (hm.trans h1) hc d1 d2
    by_cases h2 : k % 4 = 2
    · rw [if_neg h0, if_neg h1, if_pos h2] at hc; exact does_2b z t f s p k n a now _ _ _ _ _ _ w (hm.trans h2) hc d1 d2
    rw [if_neg h0, if_neg h1, if_neg h2] at hc
    exact does_3b z t f s p k n a now _ _ _ _ _ _ w (hm.trans (by omega)) hc d1 d2
end Go.Proofs.Ytiglhdiclfknhaa
