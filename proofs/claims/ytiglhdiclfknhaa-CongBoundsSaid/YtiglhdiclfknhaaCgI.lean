/- Walks of layer 7: the code's Sent, Gone, Acked, Lost. -/
import Derived.Test.YtiglhdiclfknhaaCgH
set_option linter.unusedSimpArgs false
set_option linter.unusedVariables false
namespace Go.Proofs.Ytiglhdiclfknhaa
open Go.RowKit
set_option maxHeartbeats 1600000 in
theorem gone_eq {z t f s p n z' t' f' s' p' e' : Int} (he : goneE ⟨z, t, f, s, p⟩ n = (⟨z', t', f', s', p'⟩, e')) (w : World) :
    Calls Try.prog 20 #[.agg #[.int .i64 z, .int .i64 t, .int .i64 f, .int .i64 s, .int .i64 p], .int .i64 n] w fun e w' => e = .returned (.tuple #[.agg #[.int .i64 z', .int .i64 t', .int .i64 f', .int .i64 s', .int .i64 p'], .int .i64 e']) ∧ Below w.heap.size w w' := by
  have B1 := below_one w (.cells #[.int .i64 z, .int .i64 t, .int .i64 f, .int .i64 s, .int .i64 p] 25)
  have B2 := below_more B1 (Nat.le_refl _) (.cells #[.int .i64 n] 3)
  have B3 := below_more B2 (Nat.le_refl _) (.cells #[.int .i64 0, .int .i64 0, .int .i64 0, .int .i64 0, .int .i64 0] 25)
  have BB := Lib.hid B3
  have h0 := ((heldI_at (b := w.heap.size + 1) n 3 (w.alloc (.cells #[.int .i64 z, .int .i64 t, .int .i64 f, .int .i64 s, .int .i64 p] 25)) (by simp)).alloc (.cells #[.int .i64 0, .int .i64 0, .int .i64 0, .int .i64 0, .int .i64 0] 25))
  have HR := Lib.hid ((held_at (b := w.heap.size + 2) 0 0 0 0 0 25 ((w.alloc (.cells #[.int .i64 z, .int .i64 t, .int .i64 f, .int .i64 s, .int .i64 p] 25)).alloc (.cells #[.int .i64 n] 3)) (by simp)))
  have A := Lib.hid (ask_gone z t f s p n _ (((w.alloc (.cells #[.int .i64 z, .int .i64 t, .int .i64 f, .int .i64 s, .int .i64 p] 25)).alloc (.cells #[.int .i64 n] 3)).alloc (.cells #[.int .i64 0, .int .i64 0, .int .i64 0, .int .i64 0, .int .i64 0] 25)) h0)
  rw [he] at A
  clear he h0 B1 B2 B3
  go_enter Try.func20, Try.ntmps20
  go_wp2_with fail
  refine A.out.mono ?_
  rintro e w2 ⟨rfl, bn⟩
  have HR := Lib.hid (HR.out.below bn)
  have BB := Lib.hid (BB.out.trans (bn.mono BB.out.size))
  clear bn A
  obtain ⟨r0, r1, r2, r3, r4⟩ := HR.out.facts
  obtain ⟨f0, f1, f2, f3, f4⟩ := HR.out.free
  go_wp2
  exact bodyPost_ret (v := .tuple #[.agg #[.int .i64 z', .int .i64 t', .int .i64 f', .int .i64 s', .int .i64 p'], .int .i64 e']) (by simp [results, Try.results20, go_sem, r0, r1, r2, r3, r4]) rfl ⟨rfl, below_five BB.out _ (by omega) _ _ _ _ _⟩
set_option maxHeartbeats 1600000 in
theorem acked_eq {z t f s p n a z' t' f' s' p' e' : Int} (he : ackedE ⟨z, t, f, s, p⟩ n a = (⟨z', t', f', s', p'⟩, e')) (w : World) :
    Calls Try.prog 22 #[.agg #[.int .i64 z, .int .i64 t, .int .i64 f, .int .i64 s, .int .i64 p], .int .i64 n, .int .i64 a] w fun e w' => e = .returned (.tuple #[.agg #[.int .i64 z', .int .i64 t', .int .i64 f', .int .i64 s', .int .i64 p'], .int .i64 e']) ∧ Below w.heap.size w w' := by
  have B1 := below_one w (.cells #[.int .i64 z, .int .i64 t, .int .i64 f, .int .i64 s, .int .i64 p] 25)
  have B2 := below_more B1 (Nat.le_refl _) (.cells #[.int .i64 n] 3)
  have B3 := below_more B2 (Nat.le_refl _) (.cells #[.int .i64 a] 3)
  have B4 := below_more B3 (Nat.le_refl _) (.cells #[.int .i64 0, .int .i64 0, .int .i64 0, .int .i64 0, .int .i64 0] 25)
  have B5 := below_more B4 (Nat.le_refl _) (.cells #[.int .i64 a] 3)
  have BB := Lib.hid B5
  have h0 := ((((heldI_at (b := w.heap.size + 1) n 3 (w.alloc (.cells #[.int .i64 z, .int .i64 t, .int .i64 f, .int .i64 s, .int .i64 p] 25)) (by simp)).alloc (.cells #[.int .i64 a] 3)).alloc (.cells #[.int .i64 0, .int .i64 0, .int .i64 0, .int .i64 0, .int .i64 0] 25)).alloc (.cells #[.int .i64 a] 3))
  have h1 := (((heldI_at (b := w.heap.size + 2) a 3 ((w.alloc (.cells #[.int .i64 z, .int .i64 t, .int .i64 f, .int .i64 s, .int .i64 p] 25)).alloc (.cells #[.int .i64 n] 3)) (by simp)).alloc (.cells #[.int .i64 0, .int .i64 0, .int .i64 0, .int .i64 0, .int .i64 0] 25)).alloc (.cells #[.int .i64 a] 3))
  have HR := Lib.hid ((held_at (b := w.heap.size + 3) 0 0 0 0 0 25 (((w.alloc (.cells #[.int .i64 z, .int .i64 t, .int .i64 f, .int .i64 s, .int .i64 p] 25)).alloc (.cells #[.int .i64 n] 3)).alloc (.cells #[.int .i64 a] 3)) (by simp)).alloc (.cells #[.int .i64 a] 3))
  have hs := heldI_at (b := w.heap.size + 4) a 3 ((((w.alloc (.cells #[.int .i64 z, .int .i64 t, .int .i64 f, .int .i64 s, .int .i64 p] 25)).alloc (.cells #[.int .i64 n] 3)).alloc (.cells #[.int .i64 a] 3)).alloc (.cells #[.int .i64 0, .int .i64 0, .int .i64 0, .int .i64 0, .int .i64 0] 25)) (by simp)
  have A := Lib.hid (ask_acked z t f s p n a _ _ _ (((((w.alloc (.cells #[.int .i64 z, .int .i64 t, .int .i64 f, .int .i64 s, .int .i64 p] 25)).alloc (.cells #[.int .i64 n] 3)).alloc (.cells #[.int .i64 a] 3)).alloc (.cells #[.int .i64 0, .int .i64 0, .int .i64 0, .int .i64 0, .int .i64 0] 25)).alloc (.cells #[.int .i64 a] 3)) h0 h1 hs)
  rw [he] at A
  clear he h0 h1 B1 B2 B3 B4 B5 hs
  go_enter Try.func22, Try.ntmps22
  go_wp2_with fail
  refine A.out.mono ?_
  rintro e w2 ⟨rfl, bn⟩
  have HR := Lib.hid (HR.out.below bn)
  have BB := Lib.hid (BB.out.trans (bn.mono BB.out.size))
  clear bn A
  obtain ⟨r0, r1, r2, r3, r4⟩ := HR.out.facts
  obtain ⟨f0, f1, f2, f3, f4⟩ := HR.out.free
  go_wp2
  exact bodyPost_ret (v := .tuple #[.agg #[.int .i64 z', .int .i64 t', .int .i64 f', .int .i64 s', .int .i64 p'], .int .i64 e']) (by simp [results, Try.results22, go_sem, r0, r1, r2, r3, r4]) rfl ⟨rfl, below_five BB.out _ (by omega) _ _ _ _ _⟩
set_option maxHeartbeats 1600000 in
theorem lost_eq {z t f s p n a now z' t' f' s' p' e' : Int} (he : lostE ⟨z, t, f, s, p⟩ n a now = (⟨z', t', f', s', p'⟩, e')) (w : World) :
    Calls Try.prog 24 #[.agg #[.int .i64 z, .int .i64 t, .int .i64 f, .int .i64 s, .int .i64 p], .int .i64 n, .int .i64 a, .int .i64 now] w fun e w' => e = .returned (.tuple #[.agg #[.int .i64 z', .int .i64 t', .int .i64 f', .int .i64 s', .int .i64 p'], .int .i64 e']) ∧ Below w.heap.size w w' := by
  have B1 := below_one w (.cells #[.int .i64 z, .int .i64 t, .int .i64 f, .int .i64 s, .int .i64 p] 25)
  have B2 := below_more B1 (Nat.le_refl _) (.cells #[.int .i64 n] 3)
  have B3 := below_more B2 (Nat.le_refl _) (.cells #[.int .i64 a] 3)
  have B4 := below_more B3 (Nat.le_refl _) (.cells #[.int .i64 now] 3)
  have B5 := below_more B4 (Nat.le_refl _) (.cells #[.int .i64 0, .int .i64 0, .int .i64 0, .int .i64 0, .int .i64 0] 25)
  have B6 := below_more B5 (Nat.le_refl _) (.cells #[.int .i64 a, .int .i64 now] 3)
  have BB := Lib.hid B6
  have h0 := (((((heldI_at (b := w.heap.size + 1) n 3 (w.alloc (.cells #[.int .i64 z, .int .i64 t, .int .i64 f, .int .i64 s, .int .i64 p] 25)) (by simp)).alloc (.cells #[.int .i64 a] 3)).alloc (.cells #[.int .i64 now] 3)).alloc (.cells #[.int .i64 0, .int .i64 0, .int .i64 0, .int .i64 0, .int .i64 0] 25)).alloc (.cells #[.int .i64 a, .int .i64 now] 3))
  have h1 := ((((heldI_at (b := w.heap.size + 2) a 3 ((w.alloc (.cells #[.int .i64 z, .int .i64 t, .int .i64 f, .int .i64 s, .int .i64 p] 25)).alloc (.cells #[.int .i64 n] 3)) (by simp)).alloc (.cells #[.int .i64 now] 3)).alloc (.cells #[.int .i64 0, .int .i64 0, .int .i64 0, .int .i64 0, .int .i64 0] 25)).alloc (.cells #[.int .i64 a, .int .i64 now] 3))
  have h2 := (((heldI_at (b := w.heap.size + 3) now 3 (((w.alloc (.cells #[.int .i64 z, .int .i64 t, .int .i64 f, .int .i64 s, .int .i64 p] 25)).alloc (.cells #[.int .i64 n] 3)).alloc (.cells #[.int .i64 a] 3)) (by simp)).alloc (.cells #[.int .i64 0, .int .i64 0, .int .i64 0, .int .i64 0, .int .i64 0] 25)).alloc (.cells #[.int .i64 a, .int .i64 now] 3))
  have HR := Lib.hid ((held_at (b := w.heap.size + 4) 0 0 0 0 0 25 ((((w.alloc (.cells #[.int .i64 z, .int .i64 t, .int .i64 f, .int .i64 s, .int .i64 p] 25)).alloc (.cells #[.int .i64 n] 3)).alloc (.cells #[.int .i64 a] 3)).alloc (.cells #[.int .i64 now] 3)) (by simp)).alloc (.cells #[.int .i64 a, .int .i64 now] 3))
  have A := Lib.hid (ask_lost z t f s p n a now _ _ _ (w.heap.size + 5) ((((((w.alloc (.cells #[.int .i64 z, .int .i64 t, .int .i64 f, .int .i64 s, .int .i64 p] 25)).alloc (.cells #[.int .i64 n] 3)).alloc (.cells #[.int .i64 a] 3)).alloc (.cells #[.int .i64 now] 3)).alloc (.cells #[.int .i64 0, .int .i64 0, .int .i64 0, .int .i64 0, .int .i64 0] 25)).alloc (.cells #[.int .i64 a, .int .i64 now] 3)) h0 h1 h2 (by simp) (by rw [World.cell?_alloc_at _ _ _ _ (by simp)]; rfl) (by rw [World.cell?_alloc_at _ _ _ _ (by simp)]; rfl))
  rw [he] at A
  clear he h0 h1 h2 B1 B2 B3 B4 B5 B6
  go_enter Try.func24, Try.ntmps24
  go_wp2_with fail
  refine A.out.mono ?_
  rintro e w2 ⟨rfl, bn⟩
  have HR := Lib.hid (HR.out.below bn)
  have BB := Lib.hid (BB.out.trans (bn.mono BB.out.size))
  clear bn A
  obtain ⟨r0, r1, r2, r3, r4⟩ := HR.out.facts
  obtain ⟨f0, f1, f2, f3, f4⟩ := HR.out.free
  go_wp2
  exact bodyPost_ret (v := .tuple #[.agg #[.int .i64 z', .int .i64 t', .int .i64 f', .int .i64 s', .int .i64 p'], .int .i64 e']) (by simp [results, Try.results24, go_sem, r0, r1, r2, r3, r4]) rfl ⟨rfl, below_five BB.out _ (by omega) _ _ _ _ _⟩
end Go.Proofs.Ytiglhdiclfknhaa
