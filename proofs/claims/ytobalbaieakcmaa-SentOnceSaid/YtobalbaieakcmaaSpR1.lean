/- Walks of layer 5: the document's Right. -/
import Derived.Test.YtobalbaieakcmaaSpA
set_option linter.unusedSimpArgs false
set_option linter.unusedVariables false
namespace Go.Proofs.Ytobalbaieakcmaa
open Go.RowKit

set_option maxHeartbeats 3200000 in
theorem rrows_any (v : Value) (ss : List (Int × Int)) (w : World) (hr : RdS w v ss) :
    Calls Try.prog 44 #[v] w fun e w' => e = .returned (.bool (riseB 0 ss)) ∧ Below w.heap.size w w' := by
  by_cases h0 : ss = []
  · subst h0
    obtain ⟨va, vc, rfl, _, _⟩ := hr.isSlice
    clear hr
    go_enter Try.func44, Try.ntmps44
    go_wp2_with fail
    refine wp_loop_rounds 1 ?_
    rw [rounds_succ]
    go_wp2
    go_ret
    exact ⟨rfl, Below.refl _ _⟩
  have hm : ss.length ≤ maxLen := by obtain ⟨_, _, e, h1, h2⟩ := hr.isSlice; omega
  unfold maxLen at hm
  obtain ⟨b, o, c, rfl, hb⟩ := hr.form h0
  have HR := Lib.hid hr
  clear hr h0
  go_enter Try.func44, Try.ntmps44
  go_wp2_with fail
  go_loopw [3] (fun i wr => ∃ (k : Nat) (least : Int), i = .int .i64 k ∧ (k = 0 ∧ least = 0 ∨ 0 < k ∧ 0 ≤ (ss.getD (k - 1) (0, 0)).2 ∧ (ss.getD (k - 1) (0, 0)).2 ≤ 4611686018427387903 ∧ least = (ss.getD (k - 1) (0, 0)).2 + 2) ∧ k ≤ ss.length ∧ riseB least (ss.drop k) = riseB 0 ss ∧ Below w.heap.size w wr) (fun i _ => ss.length - (intOf i).toNat)
  case atStart => exact ⟨0, 0, rfl, .inl ⟨rfl, rfl⟩, Nat.zero_le _, rfl, Below.refl _ _⟩
  case round =>
    obtain ⟨k, least, rfl, hl0, hk, hris, hbel⟩ := hrel
    have HRis := Lib.hid hris
    have hz := hbel.size
    by_cases hlt : k < ss.length
    · obtain ⟨q0, q1⟩ := (HR.out.below hbel).cells rfl k hlt
      have hd : ss.drop k = ss.getD k (0, 0) :: ss.drop (k + 1) := by rw [List.drop_eq_getElem_cons hlt]; simp [List.getD, hlt]
      have hpc : 0 < k → wr.cell? ⟨b, o + (k - 1) * 2 + 1, none⟩ = some (.int .i64 (ss.getD (k - 1) (0, 0)).2) := fun h => ((HR.out.below hbel).cells rfl (k - 1) (by omega)).2
      obtain ⟨⟨x, y⟩, hs⟩ : ∃ s, s = ss.getD k (0, 0) := ⟨_, rfl⟩
      have HSk := Lib.hid hs
      rw [← hs] at q0 q1 hd
      simp only at q0 q1
      have HD := Lib.hid hd
      have hi1 : (k : Int) < (ss.length : Int) := by omega
      have hi2 : (0 : Int) ≤ (k : Int) := by omega
      have hw1 : IntKind.i64.wrap ((k : Int) + 1) = (k : Int) + 1 := wraps_i64' _ (by omega) (by omega)
      generalize hp : (ss.getD (k - 1) (0, 0)).2 = pv at hl0 hpc
      clear hd hs hris hp
      have d0 : wr.drew.cell? ⟨b, o + k * 2, none⟩ = some (.int .i64 x) := q0
      have d1 : wr.drew.cell? ⟨b, o + k * 2 + 1, none⟩ = some (.int .i64 y) := q1
      have bD : ∀ n, Below w.heap.size w (wr.drewN n) := fun n => below_drewN hbel n
      cases hx : spanB x y
      · have HE : Hid (riseB 0 ss = false) := by
          show _ = _; rw [← HRis.out, HD.out, riseB, Bool.and_eq_false_iff]
          left
          have : ¬ (0 ≤ x ∧ x ≤ y ∧ y ≤ 4611686018427387903) := by simpa [spanB] using hx
          rw [decide_eq_false_iff_not]; simp only; omega
        clear hl0 hpc
        go_wp2_with fail
        go_quiet (first | (go_at_call 50; refine Calls.quiet_of_same (rspan_b x y false _ hx)))
        go_wp2
        go_ret
        rw [HE.out]
        exact ⟨rfl, bD _⟩
      have hx' : 0 ≤ x ∧ x ≤ y ∧ y ≤ 4611686018427387903 := by simpa [spanB] using hx
      have HY : Hid (0 ≤ (ss.getD k (0, 0)).2 ∧ (ss.getD k (0, 0)).2 ≤ 4611686018427387903 ∧ y + 2 = (ss.getD k (0, 0)).2 + 2) := by rw [← HSk.out]; exact ⟨by omega, hx'.2.2, rfl⟩
      by_cases hk0 : k = 0
      · have e2 : decide (0 < (k : Int)) = false := decide_eq_false (by omega)
        have e2' : decide (0 < k) = false := decide_eq_false (by omega)
        have HE : Hid (riseB (y + 2) (ss.drop (k + 1)) = riseB 0 ss) := by
          show _ = _; rw [← HRis.out, HD.out, riseB, decide_eq_true (by simp only; omega), Bool.true_and]
        clear hx' hl0 hpc hk0
        go_wp2_with fail
        go_quiet (first | (go_at_call 50; refine Calls.quiet_of_same (rspan_b x y true _ hx)))
        go_wp2
        exact ⟨⟨k + 1, y + 2, by go_num, .inr ⟨by omega, HY.out.1, HY.out.2.1, HY.out.2.2⟩, by omega, HE.out, bD _⟩, by simp [intOf, hw1]; omega⟩
      · have e2 : decide (0 < (k : Int)) = true := decide_eq_true (by omega)
        have e2' : decide (0 < k) = true := decide_eq_true (by omega)
        have hpv : 0 ≤ pv ∧ pv ≤ 4611686018427387903 ∧ least = pv + 2 := by omega
        have q2 := hpc (by omega)
        have d2 : wr.drew.cell? ⟨b, o + (k - 1) * 2 + 1, none⟩ = some (.int .i64 pv) := q2
        have hw2 : IntKind.i64.wrap (x - 1) = x - 1 := by rw [IntKind.wrap_i64]; omega
        have hw3 : IntKind.i64.wrap ((k : Int) - 1) = (k : Int) - 1 := wraps_i64' _ (by omega) (by omega)
        have hi3 : (0 : Int) ≤ (k : Int) - 1 := by omega
        have hi4 : (k : Int) - 1 < (ss.length : Int) := by omega
        have hi5 : ((k : Int) - 1).toNat = k - 1 := by omega
        clear hl0 hpc
        by_cases hle : x - 1 ≤ pv
        · have e3 : decide (x - 1 ≤ pv) = true := decide_eq_true hle
          have HE : Hid (riseB 0 ss = false) := by
            show _ = _; rw [← HRis.out, HD.out, riseB, decide_eq_false (by simp only; omega), Bool.false_and]
          clear hx' hle hpv
          go_wp2_with fail
          go_quiet (first | (go_at_call 50; refine Calls.quiet_of_same (rspan_b x y true _ hx)))
          go_wp2
          go_ret
          rw [HE.out]
          exact ⟨rfl, bD _⟩
        · have e3 : decide (x - 1 ≤ pv) = false := decide_eq_false hle
          have HE : Hid (riseB (y + 2) (ss.drop (k + 1)) = riseB 0 ss) := by
            show _ = _; rw [← HRis.out, HD.out, riseB, decide_eq_true (by simp only; omega), Bool.true_and]
          clear hx' hle hpv
          go_wp2_with fail
          go_quiet (first | (go_at_call 50; refine Calls.quiet_of_same (rspan_b x y true _ hx)))
          go_wp2
          exact ⟨⟨k + 1, y + 2, by go_num, .inr ⟨by omega, HY.out.1, HY.out.2.1, HY.out.2.2⟩, by omega, HE.out, bD _⟩, by simp [intOf, hw1]; omega⟩
    · have HE : Hid (riseB 0 ss = true) := by
        show _ = _
        rw [← HRis.out, show k = ss.length by omega, List.drop_length]; rfl
      have hk2 : k = ss.length := by omega
      clear hl0
      go_wp2
      go_ret
      rw [HE.out]
      exact ⟨rfl, hbel⟩

theorem rright_any (v : Value) (ss : List (Int × Int)) (w : World) (hr : RdS w v ss) :
    Calls Try.prog 35 #[v] w fun e w' => e = .returned (.bool (rightB ss)) ∧ Below w.heap.size w w' := by
  obtain ⟨va, vc, rfl, _, _⟩ := hr.isSlice
  have HR := Lib.hid hr
  clear hr
  by_cases h : ss.length ≤ 256
  · have e1 : decide ((ss.length : Int) ≤ 256) = true := decide_eq_true (by omega)
    have e : rightB ss = riseB 0 ss := by simp [rightB, h]
    rw [e]
    clear e h
    go_enter Try.func35, Try.ntmps35
    go_wp2_with (go_at_call 44; refine (rrows_any _ ss _ HR.out).mono ?_; rintro e w2 ⟨rfl, hb2⟩)
    go_ret
    exact ⟨rfl, hb2⟩
  · have e1 : decide ((ss.length : Int) ≤ 256) = false := decide_eq_false (by omega)
    have e : rightB ss = false := by simp [rightB, h]
    rw [e]
    clear e h
    go_enter Try.func35, Try.ntmps35
    go_wp2
    go_ret
    exact ⟨rfl, Below.refl _ _⟩
end Go.Proofs.Ytobalbaieakcmaa
