/- Walks of layer 6: alive; the laws Waits and Doubles. -/
import Derived.Test.YtfcojlnbocncpaaRtE
import Derived.Test.YtfcojlnbocncpaaRtF
import Derived.Test.YtfcojlnbocncpaaRtG
set_option linter.unusedSimpArgs false
set_option linter.unusedVariables false
namespace Go.Proofs.Ytfcojlnbocncpaa
open Go.RowKit

theorem sample_eq {h : Bool} {l s v t n d : Int} {h' : Bool} {l' s' v' t' e' : Int} (he : sampleE ⟨h, l, s, v, t⟩ n d = (⟨h', l', s', v', t'⟩, e')) (w : World) :
    Calls Try.prog 9 #[.agg #[.bool h, .int .i64 l, .int .i64 s, .int .i64 v, .int .i64 t], .int .i64 n, .int .i64 d] w fun e w' => e = .returned (.tuple #[.agg #[.bool h', .int .i64 l', .int .i64 s', .int .i64 v', .int .i64 t'], .int .i64 e']) ∧ Below w.heap.size w w' := by
  have := sample_any h l s v t n d w
  rw [he] at this
  exact this
theorem rsample_eq {h : Bool} {l s v t n d : Int} {h' : Bool} {l' s' v' t' e' : Int} (he : sampleE ⟨h, l, s, v, t⟩ n d = (⟨h', l', s', v', t'⟩, e')) (w : World) :
    Calls Try.prog 11 #[.agg #[.bool h, .int .i64 l, .int .i64 s, .int .i64 v, .int .i64 t], .int .i64 n, .int .i64 d] w fun e w' => e = .returned (.tuple #[.agg #[.bool h', .int .i64 l', .int .i64 s', .int .i64 v', .int .i64 t'], .int .i64 e']) ∧ Below w.heap.size w w' := by
  have := rsample_any h l s v t n d w
  rw [he] at this
  exact this
theorem probe_eq {h : Bool} {l s v t k a b : Int} (hk : k ≤ 9223372036854775807) (he : probeE ⟨h, l, s, v, t⟩ k = (a, b)) (w : World) :
    Calls Try.prog 16 #[.agg #[.bool h, .int .i64 l, .int .i64 s, .int .i64 v, .int .i64 t], .int .i64 k] w fun e w' => e = .returned (.tuple #[.int .i64 a, .int .i64 b]) ∧ Below w.heap.size w w' := by
  have := probe_any h l s v t k w hk
  rw [he] at this
  exact this
theorem rprobe_eq {h : Bool} {l s v t k a b : Int} (hk : k ≤ 9223372036854775807) (he : probeE ⟨h, l, s, v, t⟩ k = (a, b)) (w : World) :
    Calls Try.prog 17 #[.agg #[.bool h, .int .i64 l, .int .i64 s, .int .i64 v, .int .i64 t], .int .i64 k] w fun e w' => e = .returned (.tuple #[.int .i64 a, .int .i64 b]) ∧ Below w.heap.size w w' := by
  have := rprobe_any h l s v t k w hk
  rw [he] at this
  exact this
theorem loss_eq {h : Bool} {l s v t a b : Int} (he : lossE ⟨h, l, s, v, t⟩ = (a, b)) (w : World) :
    Calls Try.prog 18 #[.agg #[.bool h, .int .i64 l, .int .i64 s, .int .i64 v, .int .i64 t]] w fun e w' => e = .returned (.tuple #[.int .i64 a, .int .i64 b]) ∧ Below w.heap.size w w' := by
  have := loss_any h l s v t w
  rw [he] at this
  exact this
theorem rloss_eq {h : Bool} {l s v t a b : Int} (he : lossE ⟨h, l, s, v, t⟩ = (a, b)) (w : World) :
    Calls Try.prog 19 #[.agg #[.bool h, .int .i64 l, .int .i64 s, .int .i64 v, .int .i64 t]] w fun e w' => e = .returned (.tuple #[.int .i64 a, .int .i64 b]) ∧ Below w.heap.size w w' := by
  have := rloss_any h l s v t w
  rw [he] at this
  exact this

theorem live_a : sampleE ⟨false, 0, 0, 0, 0⟩ 100 0 = (⟨true, 100, 100, 50, 100⟩, 0) := by rfl
theorem live_b : sampleE ⟨true, 100, 100, 50, 100⟩ 60 10 = (⟨true, 60, 95, 47, 60⟩, 0) := by rfl

set_option maxHeartbeats 800000 in
theorem alive_any (w : World) : Calls Try.prog 15 #[] w (Yes w) := by
  have hg := guard_not
  have q24 := fun w => eql_any true true 60 95 47 60 60 95 47 60 w
  rw [same_self] at q24
  have S1 := Lib.hid (fun w => sample_eq live_a w)
  have S2 := Lib.hid (fun w => sample_eq live_b w)
  go_enter Try.func15, Try.ntmps15
  go_wp2_with fail
  refine (S1.out _).mono ?_
  rintro e w1 ⟨rfl, b1⟩
  have B1 := Lib.hid (b1.alloc b1.size (.cells #[.bool true, .int .i64 100, .int .i64 100, .int .i64 50, .int .i64 100] 24))
  clear b1 S1
  go_wp2_with fail
  refine (S2.out _).mono ?_
  rintro e w2 ⟨rfl, b2⟩
  have b3 := B1.out.trans (b2.mono B1.out.size)
  have B3 := Lib.hid (b3.alloc b3.size (.cells #[.bool true, .int .i64 60, .int .i64 95, .int .i64 47, .int .i64 60] 24))
  clear b2 b3 B1 S2
  go_wp2
  go_ret
  exact ⟨rfl, B3.out⟩

set_option maxHeartbeats 1600000 in
theorem rttWaits_walk (h : Bool) (l s v t k : Int) (w : World) (hk : k ≤ 9223372036854775807) :
    Calls Try.prog 4 #[.agg #[.bool h, .int .i64 l, .int .i64 s, .int .i64 v, .int .i64 t], .int .i64 k] w (Yes w) := by
  obtain ⟨⟨a, e1⟩, hp⟩ : ∃ r, probeE ⟨h, l, s, v, t⟩ k = r := ⟨_, rfl⟩
  obtain ⟨⟨c, e2⟩, hq⟩ : ∃ r, lossE ⟨h, l, s, v, t⟩ = r := ⟨_, rfl⟩
  have hw1 : IntKind.i64.wrap e1 = e1 := by
    have : e1 = 0 ∨ e1 = 1 := by
      have := congrArg Prod.snd hp
      simp only [probeE] at this
      split at this
      · split at this <;> simp_all
      · simp_all
    rcases this with rfl | rfl <;> decide
  have hw2 : IntKind.i64.wrap e2 = e2 := by
    have : e2 = 0 ∨ e2 = 1 := by
      have := congrArg Prod.snd hq
      simp only [lossE] at this
      split at this <;> simp_all
    rcases this with rfl | rfl <;> decide
  have P1 := Lib.hid (fun w => probe_eq hk hp w)
  have P2 := Lib.hid (fun w => rprobe_eq hk hp w)
  have L1 := Lib.hid (fun w => loss_eq hq w)
  have L2 := Lib.hid (fun w => rloss_eq hq w)
  have HA := Lib.hid (held_last h l s v t 23 w)
  have BB := Lib.hid ((Below.refl w.heap.size w).alloc (Nat.le_refl _) (.cells #[.bool h, .int .i64 l, .int .i64 s, .int .i64 v, .int .i64 t] 23))
  clear hp hq hk
  go_enter Try.func4, Try.ntmps4
  go_wp2_with fail
  refine (theirs_any h l s v t _).mono ?_
  rintro e w0 ⟨rfl, bn⟩
  have HA := Lib.hid (HA.out.below bn)
  have BB := Lib.hid (BB.out.trans (bn.mono BB.out.size))
  clear bn
  obtain ⟨c0, c1, c2, c3, c4⟩ := HA.out.facts
  go_wp2_with fail
  refine (P1.out _).mono ?_
  rintro e w1 ⟨rfl, bn⟩
  have HA := Lib.hid (HA.out.below bn)
  have BB := Lib.hid (BB.out.trans (bn.mono BB.out.size))
  clear bn
  obtain ⟨c0, c1, c2, c3, c4⟩ := HA.out.facts
  go_wp2_with fail
  refine (P2.out _).mono ?_
  rintro e w2 ⟨rfl, bn⟩
  have HA := Lib.hid (HA.out.below bn)
  have BB := Lib.hid (BB.out.trans (bn.mono BB.out.size))
  clear bn
  obtain ⟨c0, c1, c2, c3, c4⟩ := HA.out.facts
  go_wp2_with fail
  refine (theirs_any h l s v t _).mono ?_
  rintro e w3 ⟨rfl, bn⟩
  have HA := Lib.hid (HA.out.below bn)
  have BB := Lib.hid (BB.out.trans (bn.mono BB.out.size))
  clear bn
  obtain ⟨c0, c1, c2, c3, c4⟩ := HA.out.facts
  go_wp2_with fail
  refine (L1.out _).mono ?_
  rintro e w4 ⟨rfl, bn⟩
  have HA := Lib.hid (HA.out.below bn)
  have BB := Lib.hid (BB.out.trans (bn.mono BB.out.size))
  clear bn
  obtain ⟨c0, c1, c2, c3, c4⟩ := HA.out.facts
  go_wp2_with fail
  refine (L2.out _).mono ?_
  rintro e w5 ⟨rfl, bn⟩
  have HA := Lib.hid (HA.out.below bn)
  have BB := Lib.hid (BB.out.trans (bn.mono BB.out.size))
  clear bn
  obtain ⟨c0, c1, c2, c3, c4⟩ := HA.out.facts
  go_wp2_with fail
  refine (alive_any _).mono ?_
  rintro e w9 ⟨rfl, bn⟩
  have BB := Lib.hid (BB.out.trans (bn.mono BB.out.size))
  clear bn
  go_wp2
  go_ret
  exact ⟨rfl, BB.out⟩

theorem dbl_grows (k : Nat) : ∀ n : Int, 1 ≤ n → 1 ≤ dbl k n ∧ dbl k n ≤ dbl (k + 1) n ∧ dbl (k + 1) n ≤ 2 * dbl k n := by
  induction k with
  | zero =>
    intro n hn
    by_cases h : n < 1048576
    · rw [dbl_less h]; simp only [dbl]; omega
    · rw [dbl_great h, dbl_great h]; omega
  | succ k ih =>
    intro n hn
    by_cases h : n < 1048576
    · rw [dbl_less h, dbl_less h]; exact ih _ (by omega)
    · rw [dbl_great h, dbl_great h]; omega
theorem start_pos {h : Bool} {l s v t : Int} (hr : rightB ⟨h, l, s, v, t⟩ = true) : 1 ≤ startI ⟨h, l, s, v, t⟩ := by
  cases h
  · simp [startI]
  · obtain ⟨hl, hs, hv, ht, _⟩ := right_has hr rfl
    simp only at hs hv
    simp only [startI, if_true]
    split <;> omega
theorem doubles {h : Bool} {l s v t : Int} (k : Int) (hk : 0 ≤ k) (hr : rightB ⟨h, l, s, v, t⟩ = true) :
    probeE ⟨h, l, s, v, t⟩ k = (probeI ⟨h, l, s, v, t⟩ k, 0) ∧ 1 ≤ probeI ⟨h, l, s, v, t⟩ k ∧ probeI ⟨h, l, s, v, t⟩ k ≤ probeI ⟨h, l, s, v, t⟩ (k + 1) ∧ probeI ⟨h, l, s, v, t⟩ (k + 1) ≤ 1048576 ∧ probeI ⟨h, l, s, v, t⟩ (k + 1) ≤ 2 * probeI ⟨h, l, s, v, t⟩ k := by
  have g := dbl_grows k.toNat _ (start_pos hr)
  refine ⟨probeE_c hr (by omega), ?_⟩
  unfold probeI
  rw [show (k + 1).toNat = k.toNat + 1 by omega]
  unfold lowI
  repeat' split
  all_goals omega

set_option maxHeartbeats 1600000 in
theorem rttDoubles_a (h : Bool) (l s v t k : Int) (w : World) (hk : 0 ≤ k ∧ k < 256) (hr : rightB ⟨h, l, s, v, t⟩ = false) :
    Calls Try.prog 8 #[.agg #[.bool h, .int .i64 l, .int .i64 s, .int .i64 v, .int .i64 t], .int .u8 k] w (Yes w) := by
  have P1 := Lib.hid (fun w => probe_eq (k := k) (by omega) (probeE_a (h := h) hr) w)
  have P2 := Lib.hid (fun w => probe_eq (k := k + 1) (by omega) (probeE_a (h := h) hr) w)
  have hw1 : IntKind.i64.wrap k = k := wraps_i64' _ (by omega) (by omega)
  have hw2 : IntKind.i64.wrap (k + 1) = k + 1 := wraps_i64' _ (by omega) (by omega)
  have HA := Lib.hid (held_last h l s v t 23 w)
  have BB := Lib.hid ((Below.refl w.heap.size w).alloc (Nat.le_refl _) (.cells #[.bool h, .int .i64 l, .int .i64 s, .int .i64 v, .int .i64 t] 23))
  clear hr
  go_enter Try.func8, Try.ntmps8
  go_wp2_with fail
  refine (theirs_any h l s v t _).mono ?_
  rintro e w0 ⟨rfl, bn⟩
  have HA := Lib.hid (HA.out.below bn)
  have BB := Lib.hid (BB.out.trans (bn.mono BB.out.size))
  clear bn
  obtain ⟨c0, c1, c2, c3, c4⟩ := HA.out.facts
  go_wp2_with fail
  refine (P1.out _).mono ?_
  rintro e w1 ⟨rfl, bn⟩
  have HA := Lib.hid (HA.out.below bn)
  have BB := Lib.hid (BB.out.trans (bn.mono BB.out.size))
  clear bn
  obtain ⟨c0, c1, c2, c3, c4⟩ := HA.out.facts
  go_wp2_with fail
  refine (theirs_any h l s v t _).mono ?_
  rintro e w2 ⟨rfl, bn⟩
  have HA := Lib.hid (HA.out.below bn)
  have BB := Lib.hid (BB.out.trans (bn.mono BB.out.size))
  clear bn
  obtain ⟨c0, c1, c2, c3, c4⟩ := HA.out.facts
  go_wp2_with fail
  refine (P2.out _).mono ?_
  rintro e w3 ⟨rfl, bn⟩
  have HA := Lib.hid (HA.out.below bn)
  have BB := Lib.hid (BB.out.trans (bn.mono BB.out.size))
  clear bn
  obtain ⟨c0, c1, c2, c3, c4⟩ := HA.out.facts
  go_wp2_with fail
  refine (alive_any _).mono ?_
  rintro e w9 ⟨rfl, bn⟩
  have BB := Lib.hid (BB.out.trans (bn.mono BB.out.size))
  clear bn
  go_wp2
  go_ret
  exact ⟨rfl, BB.out⟩

set_option maxHeartbeats 1600000 in
theorem rttDoubles_b (h : Bool) (l s v t k a b : Int) (w : World) (hk : 0 ≤ k ∧ k < 256) (h1 : probeE ⟨h, l, s, v, t⟩ k = (a, 0)) (h2 : probeE ⟨h, l, s, v, t⟩ (k + 1) = (b, 0)) (ha : 1 ≤ a) (hab : a ≤ b) (hb : b ≤ 1048576) (h2a : b ≤ 2 * a) :
    Calls Try.prog 8 #[.agg #[.bool h, .int .i64 l, .int .i64 s, .int .i64 v, .int .i64 t], .int .u8 k] w (Yes w) := by
  have P1 := Lib.hid (fun w => probe_eq (k := k) (by omega) h1 w)
  have P2 := Lib.hid (fun w => probe_eq (k := k + 1) (by omega) h2 w)
  have hw1 : IntKind.i64.wrap k = k := wraps_i64' _ (by omega) (by omega)
  have hw2 : IntKind.i64.wrap (k + 1) = k + 1 := wraps_i64' _ (by omega) (by omega)
  have hw3 : IntKind.i64.wrap (2 * a) = 2 * a := wraps_i64' _ (by omega) (by omega)
  have t1 : decide (a ≥ 1) = true := decide_eq_true ha
  have t2 : decide (a ≤ b) = true := decide_eq_true hab
  have t3 : decide (b ≤ 1048576) = true := decide_eq_true hb
  have t4 : decide (b ≤ 2 * a) = true := decide_eq_true h2a
  have HA := Lib.hid (held_last h l s v t 23 w)
  have BB := Lib.hid ((Below.refl w.heap.size w).alloc (Nat.le_refl _) (.cells #[.bool h, .int .i64 l, .int .i64 s, .int .i64 v, .int .i64 t] 23))
  clear h1 h2
  go_enter Try.func8, Try.ntmps8
  go_wp2_with fail
  refine (theirs_any h l s v t _).mono ?_
  rintro e w0 ⟨rfl, bn⟩
  have HA := Lib.hid (HA.out.below bn)
  have BB := Lib.hid (BB.out.trans (bn.mono BB.out.size))
  clear bn
  obtain ⟨c0, c1, c2, c3, c4⟩ := HA.out.facts
  go_wp2_with fail
  refine (P1.out _).mono ?_
  rintro e w1 ⟨rfl, bn⟩
  have HA := Lib.hid (HA.out.below bn)
  have BB := Lib.hid (BB.out.trans (bn.mono BB.out.size))
  clear bn
  obtain ⟨c0, c1, c2, c3, c4⟩ := HA.out.facts
  go_wp2_with fail
  refine (theirs_any h l s v t _).mono ?_
  rintro e w2 ⟨rfl, bn⟩
  have HA := Lib.hid (HA.out.below bn)
  have BB := Lib.hid (BB.out.trans (bn.mono BB.out.size))
  clear bn
  obtain ⟨c0, c1, c2, c3, c4⟩ := HA.out.facts
  go_wp2_with fail
  refine (P2.out _).mono ?_
  rintro e w3 ⟨rfl, bn⟩
  have HA := Lib.hid (HA.out.below bn)
  have BB := Lib.hid (BB.out.trans (bn.mono BB.out.size))
  clear bn
  obtain ⟨c0, c1, c2, c3, c4⟩ := HA.out.facts
  go_wp2_with fail
  refine (alive_any _).mono ?_
  rintro e w9 ⟨rfl, bn⟩
  have BB := Lib.hid (BB.out.trans (bn.mono BB.out.size))
  clear bn
  go_wp2
  go_ret
  exact ⟨rfl, BB.out⟩

/-- P6.6 -/
theorem rttDoubles_walk (h : Bool) (l s v t k : Int) (w : World) (hk : 0 ≤ k ∧ k < 256) :
    Calls Try.prog 8 #[.agg #[.bool h, .int .i64 l, .int .i64 s, .int .i64 v, .int .i64 t], .int .u8 k] w (Yes w) := by
  cases hr : rightB ⟨h, l, s, v, t⟩
  · exact rttDoubles_a h l s v t k w hk hr
  · obtain ⟨h1, ha, hab, hb, h2a⟩ := doubles k hk.1 hr
    obtain ⟨h2, _⟩ := doubles (k + 1) (by omega) hr
    exact rttDoubles_b h l s v t k _ _ w hk h1 h2 ha hab hb h2a
end Go.Proofs.Ytfcojlnbocncpaa
