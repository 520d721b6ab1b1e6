/- The law Sends. -/
import Derived.Test.YtiglhdiclfknhaaCgO
set_option linter.unusedSimpArgs false
set_option linter.unusedVariables false
namespace Go.Proofs.Ytiglhdiclfknhaa
open Go.RowKit
theorem err_wrap {e : Int} (h : e = 0 ∨ e = 1 ∨ e = 7) : IntKind.i64.wrap e = e := by rcases h with rfl | rfl | rfl <;> decide
theorem sentE_err (q : St) (n : Int) : (sentE q n).2 = 0 ∨ (sentE q n).2 = 1 ∨ (sentE q n).2 = 7 := by unfold sentE; split <;> (try split) <;> simp
theorem goneE_err (q : St) (n : Int) : (goneE q n).2 = 0 ∨ (goneE q n).2 = 1 ∨ (goneE q n).2 = 7 := by unfold goneE; split <;> (try split) <;> simp
theorem ackedE_err (q : St) (n a : Int) : (ackedE q n a).2 = 0 ∨ (ackedE q n a).2 = 1 ∨ (ackedE q n a).2 = 7 := by unfold ackedE; split <;> (try split) <;> (try split) <;> simp
theorem lostE_err (q : St) (n a now : Int) : (lostE q n a now).2 = 0 ∨ (lostE q n a now).2 = 1 ∨ (lostE q n a now).2 = 7 := by unfold lostE; split <;> (try split) <;> (try split) <;> simp
set_option maxHeartbeats 3200000 in
/-- P7.2 -/
theorem congSends_walk (z t f s p n : Int) (w : World) : Calls Try.prog 4 #[.agg #[.int .i64 z, .int .i64 t, .int .i64 f, .int .i64 s, .int .i64 p], .int .i64 n] w (Yes w) := by
  obtain ⟨⟨⟨z1, t1, f1, s1, p1⟩, e1⟩, hp⟩ : ∃ r, sentE ⟨z, t, f, s, p⟩ n = r := ⟨_, rfl⟩
  obtain ⟨⟨⟨z2, t2, f2, s2, p2⟩, e2⟩, hq⟩ : ∃ r, goneE ⟨z, t, f, s, p⟩ n = r := ⟨_, rfl⟩
  have hw1 : IntKind.i64.wrap e1 = e1 := err_wrap (by have := sentE_err ⟨z, t, f, s, p⟩ n; rw [hp] at this; exact this)
  have hw2 : IntKind.i64.wrap e2 = e2 := err_wrap (by have := goneE_err ⟨z, t, f, s, p⟩ n; rw [hq] at this; exact this)
  have P1 := Lib.hid (fun w => sent_eq hp w)
  have P2 := Lib.hid (fun w => rsent_eq hp w)
  have P3 := Lib.hid (fun w => gone_eq hq w)
  have P4 := Lib.hid (fun w => rgone_eq hq w)
  have hg := rguard_not
  have q23 := fun w => reql_self z1 t1 f1 s1 p1 w
  have q23' := fun w => reql_self z2 t2 f2 s2 p2 w
  have HA := Lib.hid (held_last z t f s p 23 w)
  have BB := Lib.hid (below_one w (.cells #[.int .i64 z, .int .i64 t, .int .i64 f, .int .i64 s, .int .i64 p] 23))
  clear hp hq
  go_enter Try.func4, Try.ntmps4
  go_wp2_with fail
  refine (theirs_any z t f s p _).mono ?_
  rintro e wk1 ⟨rfl, bn⟩
  have HA := Lib.hid (HA.out.below bn)
  have BB := Lib.hid (BB.out.trans (bn.mono BB.out.size))
  clear bn
  obtain ⟨A0, A1, A2, A3, A4⟩ := HA.out.facts
  go_wp2_with fail
  refine (P1.out _).mono ?_
  rintro e wk2 ⟨rfl, bn⟩
  have HA := Lib.hid (HA.out.below bn)
  have BB := Lib.hid (BB.out.trans (bn.mono BB.out.size))
  clear bn
  obtain ⟨A0, A1, A2, A3, A4⟩ := HA.out.facts
  have b3 := below_one wk2 (.cells #[.int .i64 z1, .int .i64 t1, .int .i64 f1, .int .i64 s1, .int .i64 p1] 25)
  have HA := Lib.hid (HA.out.below b3)
  have HB := Lib.hid (held_last z1 t1 f1 s1 p1 25 wk2)
  have BB := Lib.hid (BB.out.trans (b3.mono BB.out.size))
  clear b3
  obtain ⟨A0, A1, A2, A3, A4⟩ := HA.out.facts
  obtain ⟨B0, B1, B2, B3, B4⟩ := HB.out.facts
  go_wp2_with fail
  refine (P2.out _).mono ?_
  generalize wk2.alloc (.cells #[.int .i64 z1, .int .i64 t1, .int .i64 f1, .int .i64 s1, .int .i64 p1] 25) = ws2 at HA HB BB ⊢
  generalize wk2.heap.size = qB at HB ⊢
  rintro e wk3 ⟨rfl, bn⟩
  have HA := Lib.hid (HA.out.below bn)
  have HB := Lib.hid (HB.out.below bn)
  have BB := Lib.hid (BB.out.trans (bn.mono BB.out.size))
  clear bn
  obtain ⟨A0, A1, A2, A3, A4⟩ := HA.out.facts
  obtain ⟨B0, B1, B2, B3, B4⟩ := HB.out.facts
  have b3 := below_one wk3 (.cells #[.int .i64 z1, .int .i64 t1, .int .i64 f1, .int .i64 s1, .int .i64 p1] 23)
  have HA := Lib.hid (HA.out.below b3)
  have HB := Lib.hid (HB.out.below b3)
  have HC := Lib.hid (held_last z1 t1 f1 s1 p1 23 wk3)
  have BB := Lib.hid (BB.out.trans (b3.mono BB.out.size))
  clear b3
  obtain ⟨A0, A1, A2, A3, A4⟩ := HA.out.facts
  obtain ⟨B0, B1, B2, B3, B4⟩ := HB.out.facts
  obtain ⟨C0, C1, C2, C3, C4⟩ := HC.out.facts
  go_wp2_with fail
  refine (theirs_any z t f s p _).mono ?_
  generalize wk3.alloc (.cells #[.int .i64 z1, .int .i64 t1, .int .i64 f1, .int .i64 s1, .int .i64 p1] 23) = ws3 at HA HB HC BB ⊢
  generalize wk3.heap.size = qC at HC ⊢
  rintro e wk4 ⟨rfl, bn⟩
  have HA := Lib.hid (HA.out.below bn)
  have HB := Lib.hid (HB.out.below bn)
  have HC := Lib.hid (HC.out.below bn)
  have BB := Lib.hid (BB.out.trans (bn.mono BB.out.size))
  clear bn
  obtain ⟨A0, A1, A2, A3, A4⟩ := HA.out.facts
  obtain ⟨B0, B1, B2, B3, B4⟩ := HB.out.facts
  obtain ⟨C0, C1, C2, C3, C4⟩ := HC.out.facts
  go_wp2_with fail
  refine (P3.out _).mono ?_
  rintro e wk5 ⟨rfl, bn⟩
  have HA := Lib.hid (HA.out.below bn)
  have HB := Lib.hid (HB.out.below bn)
  have HC := Lib.hid (HC.out.below bn)
  have BB := Lib.hid (BB.out.trans (bn.mono BB.out.size))
  clear bn
  obtain ⟨A0, A1, A2, A3, A4⟩ := HA.out.facts
  obtain ⟨B0, B1, B2, B3, B4⟩ := HB.out.facts
  obtain ⟨C0, C1, C2, C3, C4⟩ := HC.out.facts
  have b3 := below_one wk5 (.cells #[.int .i64 z2, .int .i64 t2, .int .i64 f2, .int .i64 s2, .int .i64 p2] 25)
  have HA := Lib.hid (HA.out.below b3)
  have HB := Lib.hid (HB.out.below b3)
  have HC := Lib.hid (HC.out.below b3)
  have HD := Lib.hid (held_last z2 t2 f2 s2 p2 25 wk5)
  have BB := Lib.hid (BB.out.trans (b3.mono BB.out.size))
  clear b3
  obtain ⟨A0, A1, A2, A3, A4⟩ := HA.out.facts
  obtain ⟨B0, B1, B2, B3, B4⟩ := HB.out.facts
  obtain ⟨C0, C1, C2, C3, C4⟩ := HC.out.facts
  obtain ⟨D0, D1, D2, D3, D4⟩ := HD.out.facts
  go_wp2_with fail
  refine (P4.out _).mono ?_
  generalize wk5.alloc (.cells #[.int .i64 z2, .int .i64 t2, .int .i64 f2, .int .i64 s2, .int .i64 p2] 25) = ws5 at HA HB HC HD BB ⊢
  generalize wk5.heap.size = qD at HD ⊢
  rintro e wk6 ⟨rfl, bn⟩
  have HA := Lib.hid (HA.out.below bn)
  have HB := Lib.hid (HB.out.below bn)
  have HC := Lib.hid (HC.out.below bn)
  have HD := Lib.hid (HD.out.below bn)
  have BB := Lib.hid (BB.out.trans (bn.mono BB.out.size))
  clear bn
  obtain ⟨A0, A1, A2, A3, A4⟩ := HA.out.facts
  obtain ⟨B0, B1, B2, B3, B4⟩ := HB.out.facts
  obtain ⟨C0, C1, C2, C3, C4⟩ := HC.out.facts
  obtain ⟨D0, D1, D2, D3, D4⟩ := HD.out.facts
  have b3 := below_one wk6 (.cells #[.int .i64 z2, .int .i64 t2, .int .i64 f2, .int .i64 s2, .int .i64 p2] 23)
  have HA := Lib.hid (HA.out.below b3)
  have HB := Lib.hid (HB.out.below b3)
  have HC := Lib.hid (HC.out.below b3)
  have HD := Lib.hid (HD.out.below b3)
  have HE := Lib.hid (held_last z2 t2 f2 s2 p2 23 wk6)
  have BB := Lib.hid (BB.out.trans (b3.mono BB.out.size))
  clear b3
  obtain ⟨A0, A1, A2, A3, A4⟩ := HA.out.facts
  obtain ⟨B0, B1, B2, B3, B4⟩ := HB.out.facts
  obtain ⟨C0, C1, C2, C3, C4⟩ := HC.out.facts
  obtain ⟨D0, D1, D2, D3, D4⟩ := HD.out.facts
  obtain ⟨E0, E1, E2, E3, E4⟩ := HE.out.facts
  go_wp2_with fail
  generalize wk6.alloc (.cells #[.int .i64 z2, .int .i64 t2, .int .i64 f2, .int .i64 s2, .int .i64 p2] 23) = ws6 at HA HB HC HD HE BB ⊢
  generalize wk6.heap.size = qE at HE ⊢
  have HB : Hid (Held qB z1 t1 f1 s1 p1 ws6.drew) := HB
  have HC : Hid (Held qC z1 t1 f1 s1 p1 ws6.drew) := HC
  have HD : Hid (Held qD z2 t2 f2 s2 p2 ws6.drew) := HD
  have HE : Hid (Held qE z2 t2 f2 s2 p2 ws6.drew) := HE
  have BB := Lib.hid (BB.out.drew)
  obtain ⟨B0, B1, B2, B3, B4⟩ := HB.out.facts
  obtain ⟨C0, C1, C2, C3, C4⟩ := HC.out.facts
  obtain ⟨D0, D1, D2, D3, D4⟩ := HD.out.facts
  obtain ⟨E0, E1, E2, E3, E4⟩ := HE.out.facts
  go_region_held3 (fun w' => w'.cell? ⟨qB, 0, none⟩ = some (.int .i64 z1) ∧ w'.cell? ⟨qB, 1, none⟩ = some (.int .i64 t1) ∧ w'.cell? ⟨qB, 2, none⟩ = some (.int .i64 f1) ∧ w'.cell? ⟨qB, 3, none⟩ = some (.int .i64 s1) ∧ w'.cell? ⟨qB, 4, none⟩ = some (.int .i64 p1) ∧ w'.cell? ⟨qC, 0, none⟩ = some (.int .i64 z1) ∧ w'.cell? ⟨qC, 1, none⟩ = some (.int .i64 t1) ∧ w'.cell? ⟨qC, 2, none⟩ = some (.int .i64 f1) ∧ w'.cell? ⟨qC, 3, none⟩ = some (.int .i64 s1) ∧ w'.cell? ⟨qC, 4, none⟩ = some (.int .i64 p1) ∧ w'.cell? ⟨qD, 0, none⟩ = some (.int .i64 z2) ∧ w'.cell? ⟨qD, 1, none⟩ = some (.int .i64 t2) ∧ w'.cell? ⟨qD, 2, none⟩ = some (.int .i64 f2) ∧ w'.cell? ⟨qD, 3, none⟩ = some (.int .i64 s2) ∧ w'.cell? ⟨qD, 4, none⟩ = some (.int .i64 p2) ∧ w'.cell? ⟨qE, 0, none⟩ = some (.int .i64 z2) ∧ w'.cell? ⟨qE, 1, none⟩ = some (.int .i64 t2) ∧ w'.cell? ⟨qE, 2, none⟩ = some (.int .i64 f2) ∧ w'.cell? ⟨qE, 3, none⟩ = some (.int .i64 s2) ∧ w'.cell? ⟨qE, 4, none⟩ = some (.int .i64 p2))
      (first
        | (with_reducible exact ⟨B0, B1, B2, B3, B4, C0, C1, C2, C3, C4, D0, D1, D2, D3, D4, E0, E1, E2, E3, E4⟩))
      (first
        | (go_at_call 14; refine (ours_any _ _ _ _ _ _).mono ?_; rintro e wn ⟨rfl, bn⟩; have HB := Lib.hid (HB.out.below bn); have HC := Lib.hid (HC.out.below bn); have HD := Lib.hid (HD.out.below bn); have HE := Lib.hid (HE.out.below bn); have BB := Lib.hid (BB.out.trans (bn.mono BB.out.size)); clear bn; obtain ⟨B0, B1, B2, B3, B4⟩ := HB.out.facts; obtain ⟨C0, C1, C2, C3, C4⟩ := HC.out.facts; obtain ⟨D0, D1, D2, D3, D4⟩ := HD.out.facts; obtain ⟨E0, E1, E2, E3, E4⟩ := HE.out.facts)
        | (go_at_call 17; refine (alive_any _).mono ?_; rintro e wn ⟨rfl, bn⟩; have HB := Lib.hid (HB.out.below bn); have HC := Lib.hid (HC.out.below bn); have HD := Lib.hid (HD.out.below bn); have HE := Lib.hid (HE.out.below bn); have BB := Lib.hid (BB.out.trans (bn.mono BB.out.size)); clear bn; obtain ⟨B0, B1, B2, B3, B4⟩ := HB.out.facts; obtain ⟨C0, C1, C2, C3, C4⟩ := HC.out.facts; obtain ⟨D0, D1, D2, D3, D4⟩ := HD.out.facts; obtain ⟨E0, E1, E2, E3, E4⟩ := HE.out.facts))
  all_goals
    go_wp2
    go_ret
    exact ⟨rfl, BB.out⟩
end Go.Proofs.Ytiglhdiclfknhaa
