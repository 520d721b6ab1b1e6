/- Walks of layer 4: the reference's Same. -/
import Derived.Test.YtfkkimaebhjneaaDoorFrY
set_option linter.unusedSimpArgs false
set_option linter.unusedVariables false
namespace Go.Proofs.YtfkkimaebhjneaaDoor
open Go.RowKit

theorem take_eq_step {α : Type} {ss ts : List α} {k : Nat} (h1 : k < ss.length) (h2 : k < ts.length) (h : ss.take k = ts.take k) : (ss.take (k + 1) = ts.take (k + 1)) ↔ ss[k] = ts[k] := by
  rw [List.take_succ_eq_append_getElem h1, List.take_succ_eq_append_getElem h2, h]
  constructor
  · intro e; have := List.append_cancel_left e; simpa using this
  · intro e; rw [e]

set_option maxHeartbeats 3200000 in
theorem rsameSpans_any (a b : Value) (ss ts : List (Int × Int)) (w : World) (ha : RdS w a ss) (hb : RdS w b ts) :
    Calls Tryd.prog 45 #[a, b] w fun e w' => e = .returned (.bool (decide (ss = ts))) ∧ Below w.heap.size w w' := by
  by_cases hl : ss.length = ts.length
  · by_cases h0 : ss = []
    · subst h0
      obtain rfl : ts = [] := List.eq_nil_of_length_eq_zero (by simpa using hl.symm)
      obtain ⟨aa, ac, rfl, _, _⟩ := RdC.isSlice ha
      obtain ⟨ba, bc, rfl, _, _⟩ := RdC.isSlice hb
      clear ha hb
      go_enter Tryd.func45, Tryd.ntmps45
      go_wp2_with fail
      refine wp_loop_rounds 1 ?_
      rw [rounds_succ]
      go_wp2
      go_ret
      exact ⟨rfl, Below.refl _ _⟩
    · obtain ⟨p, o, c, rfl, hp⟩ := RdS.form ha h0
      obtain ⟨p', o', c', rfl, hp'⟩ := RdS.form hb (by intro h; rw [h] at hl; exact h0 (List.eq_nil_of_length_eq_zero hl))
      have hm : ss.length ≤ maxLen := by obtain ⟨_, _, e, h1, h2⟩ := RdC.isSlice ha; omega
      unfold maxLen at hm
      have HA := Lib.hid ha
      have HB := Lib.hid hb
      have HL := Lib.hid hl
      have hne : ((ss.length : Int) != (ts.length : Int)) = false := by simp [hl]
      have hll : ss.length = ts.length := hl
      generalize hn : ts.length = n at hll hne hb ⊢
      have HN := Lib.hid hn
      clear ha hb hl hn
      rw [hll] at hne hm ⊢
      have HLL := Lib.hid hll
      clear hll
      go_enter Tryd.func45, Tryd.ntmps45
      go_wp2_with fail
      go_loopw [5] (fun i wr => ∃ (k : Nat), i = .int .i64 k ∧ k ≤ n ∧ ss.take k = ts.take k ∧ Below w.heap.size w wr) (fun i _ => n - (intOf i).toNat)
      case atStart => exact ⟨0, rfl, Nat.zero_le _, by simp, Below.refl _ _⟩
      case round =>
        obtain ⟨k, rfl, hk, htk, hbel⟩ := hrel
        have HTK := Lib.hid htk
        clear htk
        by_cases hlt : k < n
        · have ks : k < ss.length := by have := HLL.out; omega
          have kt : k < ts.length := by have := HN.out; omega
          obtain ⟨q0, q1⟩ := (HA.out.below hbel).cells rfl k ks
          obtain ⟨r0, r1⟩ := (HB.out.below hbel).cells rfl k kt
          have HS := Lib.hid (take_eq_step ks kt HTK.out)
          have e1 : ss.getD k (0, 0) = ss[k] := by simp [List.getD, ks]
          have e2 : ts.getD k (0, 0) = ts[k] := by simp [List.getD, kt]
          rw [e1] at q0 q1
          rw [e2] at r0 r1
          obtain ⟨⟨x, y⟩, hxy⟩ : ∃ s, s = ss[k] := ⟨_, rfl⟩
          obtain ⟨⟨x', y'⟩, hxy'⟩ : ∃ s, s = ts[k] := ⟨_, rfl⟩
          rw [← hxy, ← hxy'] at HS
          rw [← hxy] at q0 q1
          rw [← hxy'] at r0 r1
          simp only at q0 q1 r0 r1
          have hi1 : (k : Int) < (n : Int) := by omega
          have hi2 : (0 : Int) ≤ (k : Int) := by omega
          have hw1 : IntKind.i64.wrap ((k : Int) + 1) = (k : Int) + 1 := wraps_i64' _ (by omega) (by omega)
          have d0 : wr.drew.cell? ⟨p, o + k * 2, none⟩ = some (.int .i64 x) := q0
          have d1 : wr.drew.cell? ⟨p, o + k * 2 + 1, none⟩ = some (.int .i64 y) := q1
          have d2 : wr.drew.cell? ⟨p', o' + k * 2, none⟩ = some (.int .i64 x') := r0
          have d3 : wr.drew.cell? ⟨p', o' + k * 2 + 1, none⟩ = some (.int .i64 y') := r1
          clear hxy hxy' e1 e2 ks kt
          by_cases hq : x = x' ∧ y = y'
          · obtain ⟨rfl, rfl⟩ := hq
            have HE : Hid (ss.take (k + 1) = ts.take (k + 1)) := HS.out.2 rfl
            clear HS
            go_wp2_with fail
            go_quiet (fail)
            go_wp2
            exact ⟨⟨k + 1, by go_num, by omega, HE.out, below_drewN hbel _⟩, by simp [intOf]; omega⟩
          · have HE : Hid (decide (ss = ts) = false) := by
              show _ = _
              refine decide_eq_false fun e => hq ?_
              subst e
              have := HS.out.1 rfl
              simpa using this
            clear HS
            by_cases hx : x = x'
            · have hy : (y == y') = false := by simp; exact fun e => hq ⟨hx, e⟩
              have hx2 : (x == x') = true := by simp [hx]
              clear hq hx
              go_wp2_with fail
              go_quiet (fail)
              go_wp2
              go_ret
              rw [HE.out]
              exact ⟨rfl, below_drewN hbel _⟩
            · have hx2 : (x == x') = false := by simp [hx]
              clear hq hx
              go_wp2_with fail
              go_quiet (fail)
              go_wp2
              go_ret
              rw [HE.out]
              exact ⟨rfl, below_drewN hbel _⟩
        · have hk2 : k = n := by omega
          have HE : Hid (decide (ss = ts) = true) := by
            show _ = _
            refine decide_eq_true ?_
            have h := HTK.out
            rw [hk2, List.take_of_length_le (by rw [HLL.out]; exact Nat.le_refl _), List.take_of_length_le (by rw [HN.out]; exact Nat.le_refl _)] at h
            exact h
          clear hk2
          go_wp2
          go_ret
          rw [HE.out]
          exact ⟨rfl, hbel⟩
  · obtain ⟨aa, ac, rfl, _, _⟩ := RdC.isSlice ha
    obtain ⟨ba, bc, rfl, _, _⟩ := RdC.isSlice hb
    have e : decide (ss = ts) = false := decide_eq_false fun h => hl (by rw [h])
    have hne : ((ss.length : Int) != (ts.length : Int)) = true := by simp; omega
    rw [e]
    clear ha hb hl e
    go_enter Tryd.func45, Tryd.ntmps45
    go_wp2
    go_ret
    exact ⟨rfl, Below.refl _ _⟩
end Go.Proofs.YtfkkimaebhjneaaDoor
