/- Walks of layer 5: which spans, and which sets, may be. -/
import Derived.Test.YtobalbaieakcmaaSpM
import Derived.Test.YtobalbaieakcmaaSpR
set_option linter.unusedSimpArgs false
set_option linter.unusedVariables false
namespace Go.Proofs.Ytobalbaieakcmaa
open Go.RowKit

set_option maxHeartbeats 800000 in
theorem may_any (x y : Int) (w : World) :
    Calls Try.prog 42 #[.agg #[.int .i64 x, .int .i64 y]] w fun e w' => e = .returned (.bool (spanB x y)) ∧ Below w.heap.size w w' := by
  by_cases h1 : 0 ≤ x
  · have e1 : decide (0 ≤ x) = true := decide_eq_true h1
    by_cases h2 : x ≤ y
    · have e2 : decide (x ≤ y) = true := decide_eq_true h2
      have e3 : spanB x y = decide (y ≤ 4611686018427387903) := by simp [spanB, h1, h2]
      rw [e3]
      clear h1 h2 e3
      go_enter Try.func42, Try.ntmps42
      go_wp2
      go_ret
      exact ⟨rfl, (Below.refl _ _).alloc (Nat.le_refl _) _⟩
    · have e2 : decide (x ≤ y) = false := decide_eq_false h2
      have e3 : spanB x y = false := by simp [spanB, h2]
      rw [e3]
      clear h1 h2 e3
      go_enter Try.func42, Try.ntmps42
      go_wp2
      go_ret
      exact ⟨rfl, (Below.refl _ _).alloc (Nat.le_refl _) _⟩
  · have e1 : decide (0 ≤ x) = false := decide_eq_false h1
    have e3 : spanB x y = false := by simp [spanB, h1]
    rw [e3]
    clear h1 e3
    go_enter Try.func42, Try.ntmps42
    go_wp2
    go_ret
    exact ⟨rfl, (Below.refl _ _).alloc (Nat.le_refl _) _⟩

theorem may_b (x y : Int) (b : Bool) (w : World) (hb : spanB x y = b) : Calls Try.prog 42 #[.agg #[.int .i64 x, .int .i64 y]] w fun e w' => e = .returned (.bool b) ∧ Below w.heap.size w w' := hb ▸ may_any x y w

set_option maxHeartbeats 800000 in
theorem rspan_any (x y : Int) (w : World) :
    Calls Try.prog 50 #[.int .i64 x, .int .i64 y] w fun e w' => e = .returned (.bool (spanB x y)) ∧ w' = w := by
  by_cases h1 : 0 ≤ x
  · have e1 : decide (0 ≤ x) = true := decide_eq_true h1
    by_cases h2 : x ≤ y
    · have e2 : decide (x ≤ y) = true := decide_eq_true h2
      have e3 : spanB x y = decide (y ≤ 4611686018427387903) := by simp [spanB, h1, h2]
      rw [e3]
      clear h1 h2 e3
      go_enter Try.func50, Try.ntmps50
      go_wp2
      go_ret
      exact ⟨rfl, rfl⟩
    · have e2 : decide (x ≤ y) = false := decide_eq_false h2
      have e3 : spanB x y = false := by simp [spanB, h2]
      rw [e3]
      clear h1 h2 e3
      go_enter Try.func50, Try.ntmps50
      go_wp2
      go_ret
      exact ⟨rfl, rfl⟩
  · have e1 : decide (0 ≤ x) = false := decide_eq_false h1
    have e3 : spanB x y = false := by simp [spanB, h1]
    rw [e3]
    clear h1 e3
    go_enter Try.func50, Try.ntmps50
    go_wp2
    go_ret
    exact ⟨rfl, rfl⟩
theorem rspan_b (x y : Int) (b : Bool) (w : World) (hb : spanB x y = b) : Calls Try.prog 50 #[.int .i64 x, .int .i64 y] w fun e w' => e = .returned (.bool b) ∧ w' = w := hb ▸ rspan_any x y w

set_option maxHeartbeats 3200000 in
theorem right_any (v : Value) (ss : List (Int × Int)) (w : World) (hr : RdS w v ss) :
    Calls Try.prog 30 #[v] w fun e w' => e = .returned (.bool (rightB ss)) ∧ Below w.heap.size w w' := by
  by_cases h2 : 256 < ss.length
  · obtain ⟨va, vc, rfl, _, _⟩ := hr.isSlice
    have e : rightB ss = false := by simp [rightB]; omega
    have t2 : decide (256 < (ss.length : Int)) = true := decide_eq_true (by omega)
    rw [e]
    clear hr h2 e
    go_enter Try.func30, Try.ntmps30
    go_wp2
    go_ret
    exact ⟨rfl, Below.refl _ _⟩
  by_cases h0 : ss = []
  · subst h0
    obtain ⟨va, vc, rfl, _, _⟩ := hr.isSlice
    clear hr h2
    go_enter Try.func30, Try.ntmps30
    go_wp2_with fail
    refine wp_loop_rounds 1 ?_
    rw [rounds_succ]
    go_wp2
    go_ret
    exact ⟨rfl, Below.refl _ _⟩
  have e : rightB ss = riseB 0 ss := by simp [rightB, show ss.length ≤ 256 by omega]
  rw [e]
  obtain ⟨b, o, c, rfl, hb⟩ := hr.form h0
  have HR := Lib.hid hr
  have t2 : decide (256 < (ss.length : Int)) = false := decide_eq_false (by omega)
  have hl32 : ss.length ≤ 256 := by omega
  clear hr h2 e h0
  go_enter Try.func30, Try.ntmps30
  go_wp2_with fail
  go_loopw [10] (fun i wr => ∃ (k : Nat) (least : Int), i = .int .i64 k ∧ (k = 0 ∧ least = 0 ∨ 0 < k ∧ 0 ≤ (ss.getD (k - 1) (0, 0)).2 ∧ (ss.getD (k - 1) (0, 0)).2 ≤ 4611686018427387903 ∧ least = (ss.getD (k - 1) (0, 0)).2 + 2) ∧ k ≤ ss.length ∧ riseB least (ss.drop k) = riseB 0 ss ∧ Below w.heap.size w wr) (fun i _ => ss.length - (intOf i).toNat)
  case atStart => exact ⟨0, 0, rfl, .inl ⟨rfl, rfl⟩, Nat.zero_le _, rfl, Below.refl _ _⟩
  case round =>
    obtain ⟨k, least, rfl, hl0, hk, hris, hbel⟩ := hrel
    have HRis := Lib.hid hris
    have hz := hbel.size
    by_cases hlt : k < ss.length
    · obtain ⟨q0, q1⟩ := (HR.out.below hbel).cells rfl k hlt
      have hd : ss.drop k = ss.getD k (0, 0) :: ss.drop (k + 1) := by rw [List.drop_eq_getElem_cons hlt]; simp [List.getD, hlt]
      have HPc : Hid (0 < k → wr.cell? ⟨b, o + (k - 1) * 2 + 1, none⟩ = some (.int .i64 (ss.getD (k - 1) (0, 0)).2)) := fun h => ((HR.out.below hbel).cells rfl (k - 1) (by omega)).2
      obtain ⟨⟨x, y⟩, hs⟩ : ∃ s, s = ss.getD k (0, 0) := ⟨_, rfl⟩
      have HSk := Lib.hid hs
      rw [← hs] at q0 q1 hd
      simp only at q0 q1
      have HD := Lib.hid hd
      have hi1 : (k : Int) < (ss.length : Int) := by omega
      have hi2 : (0 : Int) ≤ (k : Int) := by omega
      have hw1 : IntKind.i64.wrap ((k : Int) + 1) = (k : Int) + 1 := wraps_i64' _ (by omega) (by omega)
      have bA : Below w.heap.size w (wr.alloc (.cells #[.int .i64 x, .int .i64 y] 63)) := hbel.alloc hz _
      clear hd hs hris
      cases hm : spanB x y
      · have HE : Hid (riseB 0 ss = false) := by
          show _ = _; rw [← HRis.out, HD.out, riseB, Bool.and_eq_false_iff]
          left
          have : ¬ (0 ≤ x ∧ x ≤ y ∧ y ≤ 4611686018427387903) := by simpa [spanB] using hm
          rw [decide_eq_false_iff_not]; simp only; omega
        have HM := Lib.hid hm
        clear hm hl0
        go_wp2_with (go_at_call 42; refine (may_b x y false _ HM.out).mono ?_; rintro e w2 ⟨rfl, hb2⟩)
        go_ret
        rw [HE.out]
        exact ⟨rfl, bA.trans (hb2.mono (by simp; omega))⟩
      · have hx : 0 ≤ x ∧ x ≤ y ∧ y ≤ 4611686018427387903 := by simpa [spanB] using hm
        have HM := Lib.hid hm
        have HY : Hid (0 ≤ (ss.getD k (0, 0)).2 ∧ (ss.getD k (0, 0)).2 ≤ 4611686018427387903 ∧ y + 2 = (ss.getD k (0, 0)).2 + 2) := by rw [← HSk.out]; exact ⟨by omega, hx.2.2, rfl⟩
        clear hm
        by_cases hk0 : k = 0
        · have e2 : decide (0 < (k : Int)) = false := decide_eq_false (by omega)
          have e2' : decide (0 < k) = false := decide_eq_false (by omega)
          have HE : Hid (riseB (y + 2) (ss.drop (k + 1)) = riseB 0 ss) := by
            show _ = _; rw [← HRis.out, HD.out, riseB, decide_eq_true (by simp only; omega), Bool.true_and]
          clear hl0 hk0
          go_wp2_with (go_at_call 42; refine (may_b x y true _ HM.out).mono ?_; rintro e w2 ⟨rfl, hb2⟩)
          have bD : ∀ n, Below w.heap.size w (w2.drewN n) := fun n => below_drewN (bA.trans (hb2.mono (by simp; omega))) n
          go_quiet (fail)
          go_wp2
          exact ⟨⟨k + 1, y + 2, by go_num, .inr ⟨by omega, HY.out.1, HY.out.2.1, HY.out.2.2⟩, by omega, HE.out, bD _⟩, by simp [intOf, hw1]; omega⟩
        · have e2 : decide (0 < (k : Int)) = true := decide_eq_true (by omega)
          have e2' : decide (0 < k) = true := decide_eq_true (by omega)
          have HPc' := HPc.out (by omega)
          generalize hp : (ss.getD (k - 1) (0, 0)).2 = pv at hl0 HPc'
          have HPd := Lib.hid HPc'
          have hpv : 0 ≤ pv ∧ pv ≤ 4611686018427387903 ∧ least = pv + 2 := by omega
          have hw2 : IntKind.i64.wrap (x - pv) = x - pv := by rw [IntKind.wrap_i64]; omega
          have hw3 : IntKind.i64.wrap ((k : Int) - 1) = (k : Int) - 1 := wraps_i64' _ (by omega) (by omega)
          have hi3 : (0 : Int) ≤ (k : Int) - 1 := by omega
          have hi4 : (k : Int) - 1 < (ss.length : Int) := by omega
          have hi5 : ((k : Int) - 1).toNat = k - 1 := by omega
          have hbw : b < wr.heap.size := by omega
          clear hl0 hp HPc'
          by_cases hle : x - pv < 2
          · have e3 : decide (x - pv < 2) = true := decide_eq_true hle
            have HE : Hid (riseB 0 ss = false) := by
              show _ = _; rw [← HRis.out, HD.out, riseB, decide_eq_false (by simp only; omega), Bool.false_and]
            clear hle hpv
            go_wp2_with (go_at_call 42; refine (may_b x y true _ HM.out).mono ?_; rintro e w2 ⟨rfl, hb2⟩)
            have bD : ∀ n, Below w.heap.size w (w2.drewN n) := fun n => below_drewN (bA.trans (hb2.mono (by simp; omega))) n
            have c0 : w2.cell? ⟨wr.heap.size, 0, none⟩ = some (.int .i64 x) := (hb2.cell (p := ⟨wr.heap.size, 0, none⟩) (by simp)).trans (by rw [World.cell?_alloc_at _ _ _ _ rfl]; rfl)
            have c2 : w2.cell? ⟨b, o + (k - 1) * 2 + 1, none⟩ = some (.int .i64 pv) := (hb2.cell (p := ⟨b, o + (k - 1) * 2 + 1, none⟩) (by simp; omega)).trans ((Below.cell ((Below.refl wr.heap.size wr).alloc (Nat.le_refl _) _) (p := ⟨b, o + (k - 1) * 2 + 1, none⟩) hbw).trans HPd.out)
            have d0 : w2.drew.cell? ⟨wr.heap.size, 0, none⟩ = some (.int .i64 x) := c0
            have d2 : w2.drew.cell? ⟨b, o + (k - 1) * 2 + 1, none⟩ = some (.int .i64 pv) := c2
            go_quiet (fail)
            go_wp2
            go_ret
            rw [HE.out]
            exact ⟨rfl, bD _⟩
          · have e3 : decide (x - pv < 2) = false := decide_eq_false hle
            have HE : Hid (riseB (y + 2) (ss.drop (k + 1)) = riseB 0 ss) := by
              show _ = _; rw [← HRis.out, HD.out, riseB, decide_eq_true (by simp only; omega), Bool.true_and]
            clear hle hpv
            go_wp2_with (go_at_call 42; refine (may_b x y true _ HM.out).mono ?_; rintro e w2 ⟨rfl, hb2⟩)
            have bD : ∀ n, Below w.heap.size w (w2.drewN n) := fun n => below_drewN (bA.trans (hb2.mono (by simp; omega))) n
            have c0 : w2.cell? ⟨wr.heap.size, 0, none⟩ = some (.int .i64 x) := (hb2.cell (p := ⟨wr.heap.size, 0, none⟩) (by simp)).trans (by rw [World.cell?_alloc_at _ _ _ _ rfl]; rfl)
            have c2 : w2.cell? ⟨b, o + (k - 1) * 2 + 1, none⟩ = some (.int .i64 pv) := (hb2.cell (p := ⟨b, o + (k - 1) * 2 + 1, none⟩) (by simp; omega)).trans ((Below.cell ((Below.refl wr.heap.size wr).alloc (Nat.le_refl _) _) (p := ⟨b, o + (k - 1) * 2 + 1, none⟩) hbw).trans HPd.out)
            have d0 : w2.drew.cell? ⟨wr.heap.size, 0, none⟩ = some (.int .i64 x) := c0
            have d2 : w2.drew.cell? ⟨b, o + (k - 1) * 2 + 1, none⟩ = some (.int .i64 pv) := c2
            go_quiet (fail)
            go_wp2
            exact ⟨⟨k + 1, y + 2, by go_num, .inr ⟨by omega, HY.out.1, HY.out.2.1, HY.out.2.2⟩, by omega, HE.out, bD _⟩, by simp [intOf, hw1]; omega⟩
    · have HE : Hid (riseB 0 ss = true) := by
        show _ = _
        rw [← HRis.out, show k = ss.length by omega, List.drop_length]; rfl
      have hk2 : k = ss.length := by omega
      clear hl0
      go_wp2
      go_ret
      rw [HE.out]
      exact ⟨rfl, hbel⟩
end Go.Proofs.Ytobalbaieakcmaa
