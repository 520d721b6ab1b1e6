/- Walks of layer 7: the code's Sent. -/
import Derived.Test.YtiglhdiclfknhaaCgH
set_option linter.unusedSimpArgs false
set_option linter.unusedVariables false
namespace Go.Proofs.Ytiglhdiclfknhaa
open Go.RowKit
set_option maxHeartbeats 3200000 in
theorem sent_eq {z t f s p n z' t' f' s' p' e' : Int} (he : sentE ⟨z, t, f, s, p⟩ n = (⟨z', t', f', s', p'⟩, e')) (w : World) :
    Calls Try.prog 18 #[.agg #[.int .i64 z, .int .i64 t, .int .i64 f, .int .i64 s, .int .i64 p], .int .i64 n] w fun e w' => e = .returned (.tuple #[.agg #[.int .i64 z', .int .i64 t', .int .i64 f', .int .i64 s', .int .i64 p'], .int .i64 e']) ∧ Below w.heap.size w w' := by
  have BB := Lib.hid (below_more (below_more (below_one w (.cells #[.int .i64 z, .int .i64 t, .int .i64 f, .int .i64 s, .int .i64 p] 25)) (Nat.le_refl _) (.cells #[.int .i64 n] 3)) (Nat.le_refl _) (.cells #[.int .i64 0, .int .i64 0, .int .i64 0, .int .i64 0, .int .i64 0] 25))
  have HP := Lib.hid (((held_last z t f s p 25 w).alloc (.cells #[.int .i64 n] 3)).alloc (.cells #[.int .i64 0, .int .i64 0, .int .i64 0, .int .i64 0, .int .i64 0] 25))
  have HN := Lib.hid ((heldI_at (b := w.heap.size + 1) n 3 (w.alloc (.cells #[.int .i64 z, .int .i64 t, .int .i64 f, .int .i64 s, .int .i64 p] 25)) (by simp)).alloc (.cells #[.int .i64 0, .int .i64 0, .int .i64 0, .int .i64 0, .int .i64 0] 25))
  have HR := Lib.hid (held_at (b := w.heap.size + 2) 0 0 0 0 0 25 ((w.alloc (.cells #[.int .i64 z, .int .i64 t, .int .i64 f, .int .i64 s, .int .i64 p] 25)).alloc (.cells #[.int .i64 n] 3)) (by simp))
  obtain ⟨m, hm⟩ : ∃ m, roomI ⟨z, t, f, s, p⟩ = m := ⟨_, rfl⟩
  have RM := Lib.hid (fun w => room_b' z t f s p m hm w)
  have A := Lib.hid (ask_sent z t f s p n m hm (w.heap.size + 1))
  rw [he] at A
  clear he hm
  go_enter Try.func18, Try.ntmps18
  go_wp2_with fail
  generalize (((w.alloc (.cells #[.int .i64 z, .int .i64 t, .int .i64 f, .int .i64 s, .int .i64 p] 25)).alloc (.cells #[.int .i64 n] 3)).alloc (.cells #[.int .i64 0, .int .i64 0, .int .i64 0, .int .i64 0, .int .i64 0] 25)) = w5 at HP HN HR BB ⊢
  have HP : Hid (Held w.heap.size z t f s p w5.drew) := HP
  have HN : Hid (HeldI (w.heap.size + 1) n w5.drew) := HN
  have HR : Hid (Held (w.heap.size + 2) 0 0 0 0 0 w5.drew) := HR
  have BB := Lib.hid (BB.out.drew)
  obtain ⟨p0, p1, p2, p3, p4⟩ := HP.out.facts
  have n0 := HN.out.cell
  go_region_held3 (fun w' => w'.cell? ⟨w.heap.size, 0, none⟩ = some (.int .i64 z) ∧ w'.cell? ⟨w.heap.size, 1, none⟩ = some (.int .i64 t) ∧ w'.cell? ⟨w.heap.size, 2, none⟩ = some (.int .i64 f) ∧ w'.cell? ⟨w.heap.size, 3, none⟩ = some (.int .i64 s) ∧ w'.cell? ⟨w.heap.size, 4, none⟩ = some (.int .i64 p) ∧ w'.cell? ⟨w.heap.size + 1, 0, none⟩ = some (.int .i64 n))
    (first
      | (with_reducible exact ⟨p0, p1, p2, p3, p4, n0⟩)
      | (with_reducible exact ⟨K5.1, K5.2.1, K5.2.2.1, K5.2.2.2.1, K5.2.2.2.2, K6⟩))
    (first
      | (go_at_call 12; refine (RM.out _).mono ?_; rintro e wn ⟨rfl, bn⟩; have HP := Lib.hid (HP.out.below bn); have HN := Lib.hid (HN.out.below bn); have HR := Lib.hid (HR.out.below bn); have BB := Lib.hid (BB.out.trans (bn.mono BB.out.size)); clear bn; obtain ⟨p0, p1, p2, p3, p4⟩ := HP.out.facts; have n0 := HN.out.cell; obtain ⟨r0, r1, r2, r3, r4⟩ := HR.out.facts; obtain ⟨f0, f1, f2, f3, f4⟩ := HR.out.free)
      | (go_at_call 28; refine (A.out _ HN.out).mono ?_; rintro e wn ⟨rfl, bn⟩; have HP := Lib.hid (HP.out.below bn); have HN := Lib.hid (HN.out.below bn); have HR := Lib.hid (HR.out.below bn); have BB := Lib.hid (BB.out.trans (bn.mono BB.out.size)); clear bn; obtain ⟨p0, p1, p2, p3, p4⟩ := HP.out.facts; have n0 := HN.out.cell; obtain ⟨r0, r1, r2, r3, r4⟩ := HR.out.facts; obtain ⟨f0, f1, f2, f3, f4⟩ := HR.out.free; have K5 := (HP.out.others (w.heap.size + 2) (by omega) (.int .i64 z') (.int .i64 t') (.int .i64 f') (.int .i64 s') (.int .i64 p')).facts; have K6 := (HN.out.others (w.heap.size + 2) (by omega) (.int .i64 z') (.int .i64 t') (.int .i64 f') (.int .i64 s') (.int .i64 p')).cell))
  all_goals
    go_wp2
    exact bodyPost_ret (v := .tuple #[.agg #[.int .i64 z', .int .i64 t', .int .i64 f', .int .i64 s', .int .i64 p'], .int .i64 e']) (by simp [results, Try.results18, go_sem, r0, r1, r2, r3, r4]) rfl ⟨rfl, below_five BB.out _ (by omega) _ _ _ _ _⟩
end Go.Proofs.Ytiglhdiclfknhaa
