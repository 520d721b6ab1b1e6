/- Walks of layer 4: the reference's number and Spans. -/
import Derived.Test.YtfkkimaebhjneaaDoorFrS
import Derived.BigQuiet
set_option linter.unusedSimpArgs false
set_option linter.unusedVariables false
namespace Go.Proofs.YtfkkimaebhjneaaDoor
open Go.RowKit

theorem rnumber_any (n : Int) (w : World) :
    Calls Tryd.prog 31 #[.int .i64 n] w fun e w' => e = .returned (.bool (numB n true)) ∧ w' = w := by
  by_cases h : 0 ≤ n
  · have h1 : decide (0 ≤ n) = true := decide_eq_true h
    go_enter Tryd.func31, Tryd.ntmps31
    go_wp2
    go_ret
    exact ⟨ret_bool (by simp [numB, h]), rfl⟩
  · have h1 : decide (0 ≤ n) = false := decide_eq_false h
    have e : numB n true = false := by simp [numB]; intro; omega
    rw [e]
    clear h e
    go_enter Tryd.func31, Tryd.ntmps31
    go_wp2
    go_ret
    exact ⟨rfl, rfl⟩

theorem rnumber_w (n : Int) (b : Bool) (w : World) (hb : numB n true = b) : Calls Tryd.prog 31 #[.int .i64 n] w fun e w' => e = .returned (.bool b) ∧ w' = w := hb ▸ rnumber_any n w

set_option maxHeartbeats 3200000 in
theorem rspans_any (v : Value) (ss : List (Int × Int)) (w : World) (hr : RdS w v ss) :
    Calls Tryd.prog 32 #[v] w fun e w' => e = .returned (.bool (spansB ss true)) ∧ Below w.heap.size w w' := by
  by_cases h1 : ss.length < 1
  · obtain ⟨va, vc, rfl, _, _⟩ := hr.isSlice
    have e : spansB ss true = false := by simp [spansB]; omega
    have t1 : decide ((ss.length : Int) < 1) = true := decide_eq_true (by omega)
    rw [e]
    clear hr h1 e
    go_enter Tryd.func32, Tryd.ntmps32
    go_wp2
    go_ret
    exact ⟨rfl, Below.refl _ _⟩
  by_cases h2 : 32 < ss.length
  · obtain ⟨va, vc, rfl, _, _⟩ := hr.isSlice
    have e : spansB ss true = false := by simp [spansB]; omega
    have t1 : decide ((ss.length : Int) < 1) = false := decide_eq_false (by omega)
    have t2 : decide (32 < (ss.length : Int)) = true := decide_eq_true (by omega)
    rw [e]
    clear hr h1 h2 e
    go_enter Tryd.func32, Tryd.ntmps32
    go_wp2
    go_ret
    exact ⟨rfl, Below.refl _ _⟩
  have e : spansB ss true = risesB 0 ss := by simp [spansB, show 1 ≤ ss.length ∧ ss.length ≤ 32 by omega]
  rw [e]
  obtain ⟨b, o, c, rfl, hb⟩ := hr.form (by intro h; rw [h] at h1; simp at h1)
  have HR := Lib.hid hr
  have t1 : decide ((ss.length : Int) < 1) = false := decide_eq_false (by omega)
  have t2 : decide (32 < (ss.length : Int)) = false := decide_eq_false (by omega)
  have hl32 : ss.length ≤ 32 := by omega
  clear hr h1 h2 e
  go_enter Tryd.func32, Tryd.ntmps32
  go_wp2_with fail
  go_loopw [3] (fun i wr => ∃ (k : Nat) (least : Int), i = .int .i64 k ∧ (k = 0 ∧ least = 0 ∨ 0 < k ∧ 0 ≤ (ss.getD (k - 1) (0, 0)).2 ∧ (ss.getD (k - 1) (0, 0)).2 ≤ 4611686018427387903 ∧ least = (ss.getD (k - 1) (0, 0)).2 + 2) ∧ k ≤ ss.length ∧ risesB least (ss.drop k) = risesB 0 ss ∧ Below w.heap.size w wr) (fun i _ => ss.length - (intOf i).toNat)
  case atStart => exact ⟨0, 0, rfl, .inl ⟨rfl, rfl⟩, Nat.zero_le _, rfl, Below.refl _ _⟩
  case round =>
    obtain ⟨k, least, rfl, hl0, hk, hris, hbel⟩ := hrel
    have HRis := Lib.hid hris
    have hz := hbel.size
    by_cases hlt : k < ss.length
    · obtain ⟨q0, q1⟩ := (HR.out.below hbel).cells rfl k hlt
      have hd : ss.drop k = ss.getD k (0, 0) :: ss.drop (k + 1) := by rw [List.drop_eq_getElem_cons hlt]; simp [List.getD, hlt]
      have hpc : 0 < k → wr.cell? ⟨b, o + (k - 1) * 2 + 1, none⟩ = some (.int .i64 (ss.getD (k - 1) (0, 0)).2) := fun h => ((HR.out.below hbel).cells rfl (k - 1) (by omega)).2
      obtain ⟨⟨x, y⟩, hs⟩ : ∃ s, s = ss.getD k (0, 0) := ⟨_, rfl⟩
      have HSk := Lib.hid hs
      rw [← hs] at q0 q1 hd
      simp only at q0 q1
      have HD := Lib.hid hd
      have hi1 : (k : Int) < (ss.length : Int) := by omega
      have hi2 : (0 : Int) ≤ (k : Int) := by omega
      have hw1 : IntKind.i64.wrap ((k : Int) + 1) = (k : Int) + 1 := wraps_i64' _ (by omega) (by omega)
      generalize hp : (ss.getD (k - 1) (0, 0)).2 = pv at hl0 hpc
      clear hd hs hris hp
      have d0 : wr.drew.cell? ⟨b, o + k * 2, none⟩ = some (.int .i64 x) := q0
      have d1 : wr.drew.cell? ⟨b, o + k * 2 + 1, none⟩ = some (.int .i64 y) := q1
      have bD : ∀ n, Below w.heap.size w (wr.drewN n) := fun n => below_drewN hbel n
      cases hx : numB x true
      · have hx' : ¬ (0 ≤ x ∧ x ≤ 4611686018427387903) := by simpa [numB] using hx
        have HE : Hid (risesB 0 ss = false) := by
          show _ = _; rw [← HRis.out, HD.out, risesB]
          by_cases h9 : y ≤ 4611686018427387903 <;> exact if_pos (by simp only; omega)
        clear hx' hl0 hpc
        go_wp2_with fail
        go_quiet (first | (go_at_call 31; refine Calls.quiet_of_same (rnumber_w x false _ hx)))
        go_wp2
        go_ret
        rw [HE.out]
        exact ⟨rfl, bD _⟩
      have hx' : 0 ≤ x ∧ x ≤ 4611686018427387903 := by simpa [numB] using hx
      cases hy : numB y true
      · have hy' : ¬ (0 ≤ y ∧ y ≤ 4611686018427387903) := by simpa [numB] using hy
        have HE : Hid (risesB 0 ss = false) := by
          show _ = _; rw [← HRis.out, HD.out, risesB]
          exact if_pos (by simp only; omega)
        clear hx' hy' hl0 hpc
        go_wp2_with fail
        go_quiet (first | (go_at_call 31; refine Calls.quiet_of_same (rnumber_w _ _ _ (by first | exact hx | exact hy))))
        go_wp2
        go_ret
        rw [HE.out]
        exact ⟨rfl, bD _⟩
      have hy' : 0 ≤ y ∧ y ≤ 4611686018427387903 := by simpa [numB] using hy
      by_cases hyx : y < x
      · have e1 : decide (y < x) = true := decide_eq_true hyx
        have HE : Hid (risesB 0 ss = false) := by
          show _ = _; rw [← HRis.out, HD.out, risesB]
          exact if_pos (by simp only; omega)
        clear hx' hy' hl0 hpc hyx
        go_wp2_with fail
        go_quiet (first | (go_at_call 31; refine Calls.quiet_of_same (rnumber_w _ _ _ (by first | exact hx | exact hy))))
        go_wp2
        go_ret
        rw [HE.out]
        exact ⟨rfl, bD _⟩
      have e1 : decide (y < x) = false := decide_eq_false hyx
      by_cases hk0 : k = 0
      · have e2 : decide (0 < (k : Int)) = false := decide_eq_false (by omega)
        have e2' : decide (0 < k) = false := decide_eq_false (by omega)
        have HE : Hid (risesB (y + 2) (ss.drop (k + 1)) = risesB 0 ss) := by
          show _ = _; rw [← HRis.out, HD.out, risesB]
          exact (if_neg (by simp only; omega)).symm
        have HY : Hid (0 ≤ (ss.getD k (0, 0)).2 ∧ (ss.getD k (0, 0)).2 ≤ 4611686018427387903 ∧ y + 2 = (ss.getD k (0, 0)).2 + 2) := by rw [← HSk.out]; exact ⟨hy'.1, hy'.2, rfl⟩
        clear hx' hy' hl0 hpc hyx hk0
        go_wp2_with fail
        go_quiet (first | (go_at_call 31; refine Calls.quiet_of_same (rnumber_w _ _ _ (by first | exact hx | exact hy))))
        go_wp2
        exact ⟨⟨k + 1, y + 2, by go_num, .inr ⟨by omega, HY.out.1, HY.out.2.1, HY.out.2.2⟩, by omega, HE.out, bD _⟩, by simp [intOf, hw1]; omega⟩
      · have e2 : decide (0 < (k : Int)) = true := decide_eq_true (by omega)
        have e2' : decide (0 < k) = true := decide_eq_true (by omega)
        have hpv : 0 ≤ pv ∧ pv ≤ 4611686018427387903 ∧ least = pv + 2 := by omega
        have q2 := hpc (by omega)
        have d2 : wr.drew.cell? ⟨b, o + (k - 1) * 2 + 1, none⟩ = some (.int .i64 pv) := q2
        have hw2 : IntKind.i64.wrap (x - 1) = x - 1 := by rw [IntKind.wrap_i64]; omega
        have hw3 : IntKind.i64.wrap ((k : Int) - 1) = (k : Int) - 1 := wraps_i64' _ (by omega) (by omega)
        have hi3 : (0 : Int) ≤ (k : Int) - 1 := by omega
        have hi4 : (k : Int) - 1 < (ss.length : Int) := by omega
        have hi5 : ((k : Int) - 1).toNat = k - 1 := by omega
        clear hl0 hpc
        by_cases hle : x - 1 ≤ pv
        · have e3 : decide (x - 1 ≤ pv) = true := decide_eq_true hle
          have HE : Hid (risesB 0 ss = false) := by
            show _ = _; rw [← HRis.out, HD.out, risesB]
            exact if_pos (by simp only; omega)
          clear hx' hy' hyx hle hpv
          go_wp2_with fail
          go_quiet (first | (go_at_call 31; refine Calls.quiet_of_same (rnumber_w _ _ _ (by first | exact hx | exact hy))))
          go_wp2
          go_ret
          rw [HE.out]
          exact ⟨rfl, bD _⟩
        · have e3 : decide (x - 1 ≤ pv) = false := decide_eq_false hle
          have HE : Hid (risesB (y + 2) (ss.drop (k + 1)) = risesB 0 ss) := by
            show _ = _; rw [← HRis.out, HD.out, risesB]
            exact (if_neg (by simp only; omega)).symm
          have HY : Hid (0 ≤ (ss.getD k (0, 0)).2 ∧ (ss.getD k (0, 0)).2 ≤ 4611686018427387903 ∧ y + 2 = (ss.getD k (0, 0)).2 + 2) := by rw [← HSk.out]; exact ⟨hy'.1, hy'.2, rfl⟩
          clear hx' hy' hyx hle hpv
          go_wp2_with fail
          go_quiet (first | (go_at_call 31; refine Calls.quiet_of_same (rnumber_w _ _ _ (by first | exact hx | exact hy))))
          go_wp2
          exact ⟨⟨k + 1, y + 2, by go_num, .inr ⟨by omega, HY.out.1, HY.out.2.1, HY.out.2.2⟩, by omega, HE.out, bD _⟩, by simp [intOf, hw1]; omega⟩
    · have HE : Hid (risesB 0 ss = true) := by
        show _ = _
        rw [← HRis.out, show k = ss.length by omega, List.drop_length]; rfl
      have hk2 : k = ss.length := by omega
      clear hl0
      go_wp2
      go_ret
      rw [HE.out]
      exact ⟨rfl, hbel⟩
end Go.Proofs.YtfkkimaebhjneaaDoor
