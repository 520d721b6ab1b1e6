/- The law of layer 5: In. -/
import Derived.Test.YticbhdbpfpdofaaSpL
set_option linter.unusedSimpArgs false
set_option linter.unusedVariables false
namespace Go.Proofs.Yticbhdbpfpdofaa
open Go.RowKit
theorem add_ok {ss l : List (Int × Int)} {f t : Int} (h : addE ss f t = (l, 0)) : rightB l = true ∧ ∀ n, inB n l = (decide (f ≤ n ∧ n ≤ t) || (rightB ss && inB n ss)) := by
  unfold addE at h
  split at h
  · rename_i hb
    obtain ⟨hR, hS⟩ := Bool.and_eq_true_iff.1 hb
    have hft : 0 ≤ f ∧ f ≤ t ∧ t ≤ 4611686018427387903 := by simpa [spanB] using hS
    have hRi : riseB 0 ss = true ∧ ss.length ≤ 256 := by simpa [rightB, and_comm] using hR
    split at h
    · rename_i hl
      simp only [Prod.mk.injEq, and_true] at h
      subst h
      refine ⟨by simp [rightB, hl, add_rise hRi.1 hft.1 hft.2.1 hft.2.2], fun n => ?_⟩
      rw [add_in n hRi.1 hft.2.1, hR, Bool.true_and]
    · simp at h
  · simp at h
theorem take_ok {ss l : List (Int × Int)} {f t : Int} (h : takeE ss f t = (l, 0)) : rightB l = true ∧ ∀ n, inB n l = (!decide (f ≤ n ∧ n ≤ t) && (rightB ss && inB n ss)) := by
  unfold takeE at h
  split at h
  · rename_i hb
    obtain ⟨hR, hS⟩ := Bool.and_eq_true_iff.1 hb
    have hft : 0 ≤ f ∧ f ≤ t ∧ t ≤ 4611686018427387903 := by simpa [spanB] using hS
    have hRi : riseB 0 ss = true ∧ ss.length ≤ 256 := by simpa [rightB, and_comm] using hR
    split at h
    · rename_i hl
      simp only [Prod.mk.injEq, and_true] at h
      subst h
      refine ⟨by simp [rightB, hl, take_rise hRi.1 hft.1 hft.2.1], fun n => ?_⟩
      rw [take_in n hRi.1 hft.2.1, hR, Bool.true_and, Bool.and_comm]
    · simp at h
  · simp at h

set_option maxHeartbeats 3200000 in
theorem spansIn_11 (va : Option Addr) (m c : Nat) (ss l1 l2 : List (Int × Int)) (f t n : Int) (w : World) (hr : RdS w (.slice va m c) ss) (hq1 : addE ss f t = (l1, 0)) (hq2 : takeE ss f t = (l2, 0)) :
    Calls Try.prog 6 #[.slice va m c, .agg #[.int .i64 f, .int .i64 t], .int .i64 n] w (Yes w) := by
  have B0 := Lib.hid ((Below.refl w.heap.size w).alloc (Nat.le_refl _) (.cells #[.int .i64 f, .int .i64 t] 34))
  have L1 := Lib.hid (hr.below B0.out)
  have HQ1 := Lib.hid hq1
  have HQ2 := Lib.hid hq2
  obtain ⟨q, hq⟩ : ∃ q, (rightB ss && inB n ss) = q := ⟨_, rfl⟩
  have HQ := Lib.hid hq
  have HA1 : Hid (rightB l1 = true) := (add_ok hq1).1
  have hA2 : (rightB l1 && inB n l1) = (decide (f ≤ n ∧ n ≤ t) || q) := by rw [(add_ok hq1).1, (add_ok hq1).2, hq, Bool.true_and]
  have HT1 : Hid (rightB l2 = true) := (take_ok hq2).1
  have hT2 : (rightB l2 && inB n l2) = (!decide (f ≤ n ∧ n ≤ t) && q) := by rw [(take_ok hq2).1, (take_ok hq2).2, hq, Bool.true_and]
  have x0 : (w.alloc (.cells #[.int .i64 f, .int .i64 t] 34)).cell? ⟨w.heap.size, 0, none⟩ = some (.int .i64 f) := by rw [World.cell?_alloc_at _ _ _ _ rfl]; rfl
  have x1 : (w.alloc (.cells #[.int .i64 f, .int .i64 t] 34)).cell? ⟨w.heap.size, 1, none⟩ = some (.int .i64 t) := by rw [World.cell?_alloc_at _ _ _ _ rfl]; rfl
  have hx : w.heap.size < (w.alloc (.cells #[.int .i64 f, .int .i64 t] 34)).heap.size := by simp
  clear hr hq1 hq2 hq
  by_cases h1 : f ≤ n
  · have d1 : decide (f ≤ n) = true := decide_eq_true h1
    by_cases h2 : n ≤ t
    · have d2 : decide (n ≤ t) = true := decide_eq_true h2
      have hin : decide (f ≤ n ∧ n ≤ t) = true := by exact decide_eq_true ⟨h1, h2⟩
      have HA2 : Hid ((rightB l1 && inB n l1) = true) := by show _ = _; rw [hA2, hin]; rfl
      have HT2 : Hid ((rightB l2 && inB n l2) = false) := by show _ = _; rw [hT2, hin]; rfl
      clear hin hA2 hT2
      go_enter Try.func6, Try.ntmps6
      go_wp2_with fail
      refine (add_any _ ss f t _ L1.out).mono ?_
      rw [HQ1.out]
      rintro e w2 ⟨v2, rfl, o2, hb2⟩
      have BB2 := Lib.hid (B0.out.trans (hb2.mono B0.out.size))
      have L2 := Lib.hid (L1.out.below hb2)
      have cc2_0 : w2.cell? ⟨w.heap.size, 0, none⟩ = some (.int .i64 f) := (hb2.cell (p := ⟨w.heap.size, 0, none⟩) hx).trans x0
      have cc2_1 : w2.cell? ⟨w.heap.size, 1, none⟩ = some (.int .i64 t) := (hb2.cell (p := ⟨w.heap.size, 1, none⟩) hx).trans x1
      have A2 := Lib.hid (o2.rd)
      have hbk2 : w.heap.size < w2.heap.size := (Nat.lt_of_lt_of_le hx hb2.size)
      clear hb2
      obtain ⟨a2, n2, c2, rfl⟩ : ∃ a n c, v2 = .slice a n c := by obtain ⟨a, c, h, _⟩ := o2.slice; exact ⟨a, _, c, h⟩
      clear o2
      go_wp2_with fail
      refine (rright_any _ l1 _ A2.out).mono ?_
      rw [HA1.out]
      rintro e w3 ⟨rfl, hb3⟩
      have BB3 := Lib.hid (BB2.out.trans (hb3.mono BB2.out.size))
      have L3 := Lib.hid (L2.out.below hb3)
      have A3 := Lib.hid (A2.out.below hb3)
      have cc3_0 : w3.cell? ⟨w.heap.size, 0, none⟩ = some (.int .i64 f) := (hb3.cell (p := ⟨w.heap.size, 0, none⟩) hbk2).trans cc2_0
      have cc3_1 : w3.cell? ⟨w.heap.size, 1, none⟩ = some (.int .i64 t) := (hb3.cell (p := ⟨w.heap.size, 1, none⟩) hbk2).trans cc2_1
      have hbk3 : w.heap.size < w3.heap.size := (Nat.lt_of_lt_of_le hbk2 hb3.size)
      clear hb3
      go_wp2_with fail
      refine (rhas_any _ l1 n _ A3.out).mono ?_
      rw [HA2.out]
      rintro e w4 ⟨rfl, hb4⟩
      have BB4 := Lib.hid (BB3.out.trans (hb4.mono BB3.out.size))
      have L4 := Lib.hid (L3.out.below hb4)
      have A4 := Lib.hid (A3.out.below hb4)
      have cc4_0 : w4.cell? ⟨w.heap.size, 0, none⟩ = some (.int .i64 f) := (hb4.cell (p := ⟨w.heap.size, 0, none⟩) hbk3).trans cc3_0
      have cc4_1 : w4.cell? ⟨w.heap.size, 1, none⟩ = some (.int .i64 t) := (hb4.cell (p := ⟨w.heap.size, 1, none⟩) hbk3).trans cc3_1
      have hbk4 : w.heap.size < w4.heap.size := (Nat.lt_of_lt_of_le hbk3 hb4.size)
      clear hb4
      go_wp2_with fail
      refine (take_any _ ss f t _ L4.out).mono ?_
      rw [HQ2.out]
      rintro e w5 ⟨v5, rfl, o5, hb5⟩
      have BB5 := Lib.hid (BB4.out.trans (hb5.mono BB4.out.size))
      have L5 := Lib.hid (L4.out.below hb5)
      have A5 := Lib.hid (A4.out.below hb5)
      have cc5_0 : w5.cell? ⟨w.heap.size, 0, none⟩ = some (.int .i64 f) := (hb5.cell (p := ⟨w.heap.size, 0, none⟩) hbk4).trans cc4_0
      have cc5_1 : w5.cell? ⟨w.heap.size, 1, none⟩ = some (.int .i64 t) := (hb5.cell (p := ⟨w.heap.size, 1, none⟩) hbk4).trans cc4_1
      have C5 := Lib.hid (o5.rd)
      have hbk5 : w.heap.size < w5.heap.size := (Nat.lt_of_lt_of_le hbk4 hb5.size)
      clear hb5
      obtain ⟨a5, n5, c5, rfl⟩ : ∃ a n c, v5 = .slice a n c := by obtain ⟨a, c, h, _⟩ := o5.slice; exact ⟨a, _, c, h⟩
      clear o5
      go_wp2_with fail
      refine (rright_any _ l2 _ C5.out).mono ?_
      rw [HT1.out]
      rintro e w6 ⟨rfl, hb6⟩
      have BB6 := Lib.hid (BB5.out.trans (hb6.mono BB5.out.size))
      have L6 := Lib.hid (L5.out.below hb6)
      have A6 := Lib.hid (A5.out.below hb6)
      have C6 := Lib.hid (C5.out.below hb6)
      clear hb6
      go_wp2_with fail
      refine (rhas_any _ l2 n _ C6.out).mono ?_
      rw [HT2.out]
      rintro e w7 ⟨rfl, hb7⟩
      have BB7 := Lib.hid (BB6.out.trans (hb7.mono BB6.out.size))
      have L7 := Lib.hid (L6.out.below hb7)
      have A7 := Lib.hid (A6.out.below hb7)
      have C7 := Lib.hid (C6.out.below hb7)
      clear hb7
      go_wp2_with fail
      refine (alive_any _).mono ?_
      rintro e w8 ⟨rfl, hb8⟩
      have BB8 := Lib.hid (BB7.out.trans (hb8.mono BB7.out.size))
      have L8 := Lib.hid (L7.out.below hb8)
      have A8 := Lib.hid (A7.out.below hb8)
      have C8 := Lib.hid (C7.out.below hb8)
      clear hb8
      go_wp2
      go_ret
      exact ⟨rfl, BB8.out⟩
    · have d2 : decide (n ≤ t) = false := decide_eq_false h2
      have hin : decide (f ≤ n ∧ n ≤ t) = false := by rw [decide_eq_false_iff_not]; omega
      have HA2 : Hid ((rightB l1 && inB n l1) = q) := by show _ = _; rw [hA2, hin]; rfl
      have HT2 : Hid ((rightB l2 && inB n l2) = q) := by show _ = _; rw [hT2, hin]; rfl
      clear hin hA2 hT2
      go_enter Try.func6, Try.ntmps6
      go_wp2_with fail
      refine (add_any _ ss f t _ L1.out).mono ?_
      rw [HQ1.out]
      rintro e w2 ⟨v2, rfl, o2, hb2⟩
      have BB2 := Lib.hid (B0.out.trans (hb2.mono B0.out.size))
      have L2 := Lib.hid (L1.out.below hb2)
      have cc2_0 : w2.cell? ⟨w.heap.size, 0, none⟩ = some (.int .i64 f) := (hb2.cell (p := ⟨w.heap.size, 0, none⟩) hx).trans x0
      have cc2_1 : w2.cell? ⟨w.heap.size, 1, none⟩ = some (.int .i64 t) := (hb2.cell (p := ⟨w.heap.size, 1, none⟩) hx).trans x1
      have A2 := Lib.hid (o2.rd)
      have hbk2 : w.heap.size < w2.heap.size := (Nat.lt_of_lt_of_le hx hb2.size)
      clear hb2
      obtain ⟨a2, n2, c2, rfl⟩ : ∃ a n c, v2 = .slice a n c := by obtain ⟨a, c, h, _⟩ := o2.slice; exact ⟨a, _, c, h⟩
      clear o2
      go_wp2_with fail
      refine (rright_any _ l1 _ A2.out).mono ?_
      rw [HA1.out]
      rintro e w3 ⟨rfl, hb3⟩
      have BB3 := Lib.hid (BB2.out.trans (hb3.mono BB2.out.size))
      have L3 := Lib.hid (L2.out.below hb3)
      have A3 := Lib.hid (A2.out.below hb3)
      have cc3_0 : w3.cell? ⟨w.heap.size, 0, none⟩ = some (.int .i64 f) := (hb3.cell (p := ⟨w.heap.size, 0, none⟩) hbk2).trans cc2_0
      have cc3_1 : w3.cell? ⟨w.heap.size, 1, none⟩ = some (.int .i64 t) := (hb3.cell (p := ⟨w.heap.size, 1, none⟩) hbk2).trans cc2_1
      have hbk3 : w.heap.size < w3.heap.size := (Nat.lt_of_lt_of_le hbk2 hb3.size)
      clear hb3
      go_wp2_with fail
      refine (rhas_any _ l1 n _ A3.out).mono ?_
      rw [HA2.out]
      rintro e w4 ⟨rfl, hb4⟩
      have BB4 := Lib.hid (BB3.out.trans (hb4.mono BB3.out.size))
      have L4 := Lib.hid (L3.out.below hb4)
      have A4 := Lib.hid (A3.out.below hb4)
      have cc4_0 : w4.cell? ⟨w.heap.size, 0, none⟩ = some (.int .i64 f) := (hb4.cell (p := ⟨w.heap.size, 0, none⟩) hbk3).trans cc3_0
      have cc4_1 : w4.cell? ⟨w.heap.size, 1, none⟩ = some (.int .i64 t) := (hb4.cell (p := ⟨w.heap.size, 1, none⟩) hbk3).trans cc3_1
      have hbk4 : w.heap.size < w4.heap.size := (Nat.lt_of_lt_of_le hbk3 hb4.size)
      clear hb4
      go_wp2_with fail
      refine (rhas_any _ ss n _ L4.out).mono ?_
      rw [HQ.out]
      rintro e w5 ⟨rfl, hb5⟩
      have BB5 := Lib.hid (BB4.out.trans (hb5.mono BB4.out.size))
      have L5 := Lib.hid (L4.out.below hb5)
      have A5 := Lib.hid (A4.out.below hb5)
      have cc5_0 : w5.cell? ⟨w.heap.size, 0, none⟩ = some (.int .i64 f) := (hb5.cell (p := ⟨w.heap.size, 0, none⟩) hbk4).trans cc4_0
      have cc5_1 : w5.cell? ⟨w.heap.size, 1, none⟩ = some (.int .i64 t) := (hb5.cell (p := ⟨w.heap.size, 1, none⟩) hbk4).trans cc4_1
      have hbk5 : w.heap.size < w5.heap.size := (Nat.lt_of_lt_of_le hbk4 hb5.size)
      clear hb5
      go_wp2_with fail
      refine (take_any _ ss f t _ L5.out).mono ?_
      rw [HQ2.out]
      rintro e w6 ⟨v6, rfl, o6, hb6⟩
      have BB6 := Lib.hid (BB5.out.trans (hb6.mono BB5.out.size))
      have L6 := Lib.hid (L5.out.below hb6)
      have A6 := Lib.hid (A5.out.below hb6)
      have cc6_0 : w6.cell? ⟨w.heap.size, 0, none⟩ = some (.int .i64 f) := (hb6.cell (p := ⟨w.heap.size, 0, none⟩) hbk5).trans cc5_0
      have cc6_1 : w6.cell? ⟨w.heap.size, 1, none⟩ = some (.int .i64 t) := (hb6.cell (p := ⟨w.heap.size, 1, none⟩) hbk5).trans cc5_1
      have C6 := Lib.hid (o6.rd)
      have hbk6 : w.heap.size < w6.heap.size := (Nat.lt_of_lt_of_le hbk5 hb6.size)
      clear hb6
      obtain ⟨a6, n6, c6, rfl⟩ : ∃ a n c, v6 = .slice a n c := by obtain ⟨a, c, h, _⟩ := o6.slice; exact ⟨a, _, c, h⟩
      clear o6
      go_wp2_with fail
      refine (rright_any _ l2 _ C6.out).mono ?_
      rw [HT1.out]
      rintro e w7 ⟨rfl, hb7⟩
      have BB7 := Lib.hid (BB6.out.trans (hb7.mono BB6.out.size))
      have L7 := Lib.hid (L6.out.below hb7)
      have A7 := Lib.hid (A6.out.below hb7)
      have C7 := Lib.hid (C6.out.below hb7)
      clear hb7
      go_wp2_with fail
      refine (rhas_any _ l2 n _ C7.out).mono ?_
      rw [HT2.out]
      rintro e w8 ⟨rfl, hb8⟩
      have BB8 := Lib.hid (BB7.out.trans (hb8.mono BB7.out.size))
      have L8 := Lib.hid (L7.out.below hb8)
      have A8 := Lib.hid (A7.out.below hb8)
      have C8 := Lib.hid (C7.out.below hb8)
      clear hb8
      go_wp2_with fail
      refine (rhas_any _ ss n _ L8.out).mono ?_
      rw [HQ.out]
      rintro e w9 ⟨rfl, hb9⟩
      have BB9 := Lib.hid (BB8.out.trans (hb9.mono BB8.out.size))
      have L9 := Lib.hid (L8.out.below hb9)
      have A9 := Lib.hid (A8.out.below hb9)
      have C9 := Lib.hid (C8.out.below hb9)
      clear hb9
      go_wp2_with fail
      refine (alive_any _).mono ?_
      rintro e w10 ⟨rfl, hb10⟩
      have BB10 := Lib.hid (BB9.out.trans (hb10.mono BB9.out.size))
      have L10 := Lib.hid (L9.out.below hb10)
      have A10 := Lib.hid (A9.out.below hb10)
      have C10 := Lib.hid (C9.out.below hb10)
      clear hb10
      go_wp2
      go_ret
      exact ⟨rfl, BB10.out⟩
  · have d1 : decide (f ≤ n) = false := decide_eq_false h1
    have hin : decide (f ≤ n ∧ n ≤ t) = false := by rw [decide_eq_false_iff_not]; omega
    have HA2 : Hid ((rightB l1 && inB n l1) = q) := by show _ = _; rw [hA2, hin]; rfl
    have HT2 : Hid ((rightB l2 && inB n l2) = q) := by show _ = _; rw [hT2, hin]; rfl
    clear hin hA2 hT2
    go_enter Try.func6, Try.ntmps6
    go_wp2_with fail
    refine (add_any _ ss f t _ L1.out).mono ?_
    rw [HQ1.out]
    rintro e w2 ⟨v2, rfl, o2, hb2⟩
    have BB2 := Lib.hid (B0.out.trans (hb2.mono B0.out.size))
    have L2 := Lib.hid (L1.out.below hb2)
    have cc2_0 : w2.cell? ⟨w.heap.size, 0, none⟩ = some (.int .i64 f) := (hb2.cell (p := ⟨w.heap.size, 0, none⟩) hx).trans x0
    have cc2_1 : w2.cell? ⟨w.heap.size, 1, none⟩ = some (.int .i64 t) := (hb2.cell (p := ⟨w.heap.size, 1, none⟩) hx).trans x1
    have A2 := Lib.hid (o2.rd)
    have hbk2 : w.heap.size < w2.heap.size := (Nat.lt_of_lt_of_le hx hb2.size)
    clear hb2
    obtain ⟨a2, n2, c2, rfl⟩ : ∃ a n c, v2 = .slice a n c := by obtain ⟨a, c, h, _⟩ := o2.slice; exact ⟨a, _, c, h⟩
    clear o2
    go_wp2_with fail
    refine (rright_any _ l1 _ A2.out).mono ?_
    rw [HA1.out]
    rintro e w3 ⟨rfl, hb3⟩
    have BB3 := Lib.hid (BB2.out.trans (hb3.mono BB2.out.size))
    have L3 := Lib.hid (L2.out.below hb3)
    have A3 := Lib.hid (A2.out.below hb3)
    have cc3_0 : w3.cell? ⟨w.heap.size, 0, none⟩ = some (.int .i64 f) := (hb3.cell (p := ⟨w.heap.size, 0, none⟩) hbk2).trans cc2_0
    have cc3_1 : w3.cell? ⟨w.heap.size, 1, none⟩ = some (.int .i64 t) := (hb3.cell (p := ⟨w.heap.size, 1, none⟩) hbk2).trans cc2_1
    have hbk3 : w.heap.size < w3.heap.size := (Nat.lt_of_lt_of_le hbk2 hb3.size)
    clear hb3
    go_wp2_with fail
    refine (rhas_any _ l1 n _ A3.out).mono ?_
    rw [HA2.out]
    rintro e w4 ⟨rfl, hb4⟩
    have BB4 := Lib.hid (BB3.out.trans (hb4.mono BB3.out.size))
    have L4 := Lib.hid (L3.out.below hb4)
    have A4 := Lib.hid (A3.out.below hb4)
    have cc4_0 : w4.cell? ⟨w.heap.size, 0, none⟩ = some (.int .i64 f) := (hb4.cell (p := ⟨w.heap.size, 0, none⟩) hbk3).trans cc3_0
    have cc4_1 : w4.cell? ⟨w.heap.size, 1, none⟩ = some (.int .i64 t) := (hb4.cell (p := ⟨w.heap.size, 1, none⟩) hbk3).trans cc3_1
    have hbk4 : w.heap.size < w4.heap.size := (Nat.lt_of_lt_of_le hbk3 hb4.size)
    clear hb4
    go_wp2_with fail
    refine (rhas_any _ ss n _ L4.out).mono ?_
    rw [HQ.out]
    rintro e w5 ⟨rfl, hb5⟩
    have BB5 := Lib.hid (BB4.out.trans (hb5.mono BB4.out.size))
    have L5 := Lib.hid (L4.out.below hb5)
    have A5 := Lib.hid (A4.out.below hb5)
    have cc5_0 : w5.cell? ⟨w.heap.size, 0, none⟩ = some (.int .i64 f) := (hb5.cell (p := ⟨w.heap.size, 0, none⟩) hbk4).trans cc4_0
    have cc5_1 : w5.cell? ⟨w.heap.size, 1, none⟩ = some (.int .i64 t) := (hb5.cell (p := ⟨w.heap.size, 1, none⟩) hbk4).trans cc4_1
    have hbk5 : w.heap.size < w5.heap.size := (Nat.lt_of_lt_of_le hbk4 hb5.size)
    clear hb5
    go_wp2_with fail
    refine (take_any _ ss f t _ L5.out).mono ?_
    rw [HQ2.out]
    rintro e w6 ⟨v6, rfl, o6, hb6⟩
    have BB6 := Lib.hid (BB5.out.trans (hb6.mono BB5.out.size))
    have L6 := Lib.hid (L5.out.below hb6)
    have A6 := Lib.hid (A5.out.below hb6)
    have cc6_0 : w6.cell? ⟨w.heap.size, 0, none⟩ = some (.int .i64 f) := (hb6.cell (p := ⟨w.heap.size, 0, none⟩) hbk5).trans cc5_0
    have cc6_1 : w6.cell? ⟨w.heap.size, 1, none⟩ = some (.int .i64 t) := (hb6.cell (p := ⟨w.heap.size, 1, none⟩) hbk5).trans cc5_1
    have C6 := Lib.hid (o6.rd)
    have hbk6 : w.heap.size < w6.heap.size := (Nat.lt_of_lt_of_le hbk5 hb6.size)
    clear hb6
    obtain ⟨a6, n6, c6, rfl⟩ : ∃ a n c, v6 = .slice a n c := by obtain ⟨a, c, h, _⟩ := o6.slice; exact ⟨a, _, c, h⟩
    clear o6
    go_wp2_with fail
    refine (rright_any _ l2 _ C6.out).mono ?_
    rw [HT1.out]
    rintro e w7 ⟨rfl, hb7⟩
    have BB7 := Lib.hid (BB6.out.trans (hb7.mono BB6.out.size))
    have L7 := Lib.hid (L6.out.below hb7)
    have A7 := Lib.hid (A6.out.below hb7)
    have C7 := Lib.hid (C6.out.below hb7)
    clear hb7
    go_wp2_with fail
    refine (rhas_any _ l2 n _ C7.out).mono ?_
    rw [HT2.out]
    rintro e w8 ⟨rfl, hb8⟩
    have BB8 := Lib.hid (BB7.out.trans (hb8.mono BB7.out.size))
    have L8 := Lib.hid (L7.out.below hb8)
    have A8 := Lib.hid (A7.out.below hb8)
    have C8 := Lib.hid (C7.out.below hb8)
    clear hb8
    go_wp2_with fail
    refine (rhas_any _ ss n _ L8.out).mono ?_
    rw [HQ.out]
    rintro e w9 ⟨rfl, hb9⟩
    have BB9 := Lib.hid (BB8.out.trans (hb9.mono BB8.out.size))
    have L9 := Lib.hid (L8.out.below hb9)
    have A9 := Lib.hid (A8.out.below hb9)
    have C9 := Lib.hid (C8.out.below hb9)
    clear hb9
    go_wp2_with fail
    refine (alive_any _).mono ?_
    rintro e w10 ⟨rfl, hb10⟩
    have BB10 := Lib.hid (BB9.out.trans (hb10.mono BB9.out.size))
    have L10 := Lib.hid (L9.out.below hb10)
    have A10 := Lib.hid (A9.out.below hb10)
    have C10 := Lib.hid (C9.out.below hb10)
    clear hb10
    go_wp2
    go_ret
    exact ⟨rfl, BB10.out⟩

set_option maxHeartbeats 3200000 in
theorem spansIn_10 (va : Option Addr) (m c : Nat) (ss l1 l2 : List (Int × Int)) (f t n : Int) (c2 : Int) (hc2 : (c2 == 0) = false) (w : World) (hr : RdS w (.slice va m c) ss) (hq1 : addE ss f t = (l1, 0)) (hq2 : takeE ss f t = (l2, c2)) :
    Calls Try.prog 6 #[.slice va m c, .agg #[.int .i64 f, .int .i64 t], .int .i64 n] w (Yes w) := by
  have B0 := Lib.hid ((Below.refl w.heap.size w).alloc (Nat.le_refl _) (.cells #[.int .i64 f, .int .i64 t] 34))
  have L1 := Lib.hid (hr.below B0.out)
  have HQ1 := Lib.hid hq1
  have HQ2 := Lib.hid hq2
  obtain ⟨q, hq⟩ : ∃ q, (rightB ss && inB n ss) = q := ⟨_, rfl⟩
  have HQ := Lib.hid hq
  have HA1 : Hid (rightB l1 = true) := (add_ok hq1).1
  have hA2 : (rightB l1 && inB n l1) = (decide (f ≤ n ∧ n ≤ t) || q) := by rw [(add_ok hq1).1, (add_ok hq1).2, hq, Bool.true_and]
  have x0 : (w.alloc (.cells #[.int .i64 f, .int .i64 t] 34)).cell? ⟨w.heap.size, 0, none⟩ = some (.int .i64 f) := by rw [World.cell?_alloc_at _ _ _ _ rfl]; rfl
  have x1 : (w.alloc (.cells #[.int .i64 f, .int .i64 t] 34)).cell? ⟨w.heap.size, 1, none⟩ = some (.int .i64 t) := by rw [World.cell?_alloc_at _ _ _ _ rfl]; rfl
  have hx : w.heap.size < (w.alloc (.cells #[.int .i64 f, .int .i64 t] 34)).heap.size := by simp
  clear hr hq1 hq2 hq
  by_cases h1 : f ≤ n
  · have d1 : decide (f ≤ n) = true := decide_eq_true h1
    by_cases h2 : n ≤ t
    · have d2 : decide (n ≤ t) = true := decide_eq_true h2
      have hin : decide (f ≤ n ∧ n ≤ t) = true := by exact decide_eq_true ⟨h1, h2⟩
      have HA2 : Hid ((rightB l1 && inB n l1) = true) := by show _ = _; rw [hA2, hin]; rfl
      clear hin hA2
      go_enter Try.func6, Try.ntmps6
      go_wp2_with fail
      refine (add_any _ ss f t _ L1.out).mono ?_
      rw [HQ1.out]
      rintro e w2 ⟨v2, rfl, o2, hb2⟩
      have BB2 := Lib.hid (B0.out.trans (hb2.mono B0.out.size))
      have L2 := Lib.hid (L1.out.below hb2)
      have cc2_0 : w2.cell? ⟨w.heap.size, 0, none⟩ = some (.int .i64 f) := (hb2.cell (p := ⟨w.heap.size, 0, none⟩) hx).trans x0
      have cc2_1 : w2.cell? ⟨w.heap.size, 1, none⟩ = some (.int .i64 t) := (hb2.cell (p := ⟨w.heap.size, 1, none⟩) hx).trans x1
      have A2 := Lib.hid (o2.rd)
      have hbk2 : w.heap.size < w2.heap.size := (Nat.lt_of_lt_of_le hx hb2.size)
      clear hb2
      obtain ⟨a2, n2, c2, rfl⟩ : ∃ a n c, v2 = .slice a n c := by obtain ⟨a, c, h, _⟩ := o2.slice; exact ⟨a, _, c, h⟩
      clear o2
      go_wp2_with fail
      refine (rright_any _ l1 _ A2.out).mono ?_
      rw [HA1.out]
      rintro e w3 ⟨rfl, hb3⟩
      have BB3 := Lib.hid (BB2.out.trans (hb3.mono BB2.out.size))
      have L3 := Lib.hid (L2.out.below hb3)
      have A3 := Lib.hid (A2.out.below hb3)
      have cc3_0 : w3.cell? ⟨w.heap.size, 0, none⟩ = some (.int .i64 f) := (hb3.cell (p := ⟨w.heap.size, 0, none⟩) hbk2).trans cc2_0
      have cc3_1 : w3.cell? ⟨w.heap.size, 1, none⟩ = some (.int .i64 t) := (hb3.cell (p := ⟨w.heap.size, 1, none⟩) hbk2).trans cc2_1
      have hbk3 : w.heap.size < w3.heap.size := (Nat.lt_of_lt_of_le hbk2 hb3.size)
      clear hb3
      go_wp2_with fail
      refine (rhas_any _ l1 n _ A3.out).mono ?_
      rw [HA2.out]
      rintro e w4 ⟨rfl, hb4⟩
      have BB4 := Lib.hid (BB3.out.trans (hb4.mono BB3.out.size))
      have L4 := Lib.hid (L3.out.below hb4)
      have A4 := Lib.hid (A3.out.below hb4)
      have cc4_0 : w4.cell? ⟨w.heap.size, 0, none⟩ = some (.int .i64 f) := (hb4.cell (p := ⟨w.heap.size, 0, none⟩) hbk3).trans cc3_0
      have cc4_1 : w4.cell? ⟨w.heap.size, 1, none⟩ = some (.int .i64 t) := (hb4.cell (p := ⟨w.heap.size, 1, none⟩) hbk3).trans cc3_1
      have hbk4 : w.heap.size < w4.heap.size := (Nat.lt_of_lt_of_le hbk3 hb4.size)
      clear hb4
      go_wp2_with fail
      refine (take_any _ ss f t _ L4.out).mono ?_
      rw [HQ2.out]
      rintro e w5 ⟨v5, rfl, o5, hb5⟩
      have BB5 := Lib.hid (BB4.out.trans (hb5.mono BB4.out.size))
      have L5 := Lib.hid (L4.out.below hb5)
      have A5 := Lib.hid (A4.out.below hb5)
      have cc5_0 : w5.cell? ⟨w.heap.size, 0, none⟩ = some (.int .i64 f) := (hb5.cell (p := ⟨w.heap.size, 0, none⟩) hbk4).trans cc4_0
      have cc5_1 : w5.cell? ⟨w.heap.size, 1, none⟩ = some (.int .i64 t) := (hb5.cell (p := ⟨w.heap.size, 1, none⟩) hbk4).trans cc4_1
      have C5 := Lib.hid (o5.rd)
      have hbk5 : w.heap.size < w5.heap.size := (Nat.lt_of_lt_of_le hbk4 hb5.size)
      clear hb5
      obtain ⟨a5, n5, c5, rfl⟩ : ∃ a n c, v5 = .slice a n c := by obtain ⟨a, c, h, _⟩ := o5.slice; exact ⟨a, _, c, h⟩
      clear o5
      go_wp2_with fail
      refine (alive_any _).mono ?_
      rintro e w6 ⟨rfl, hb6⟩
      have BB6 := Lib.hid (BB5.out.trans (hb6.mono BB5.out.size))
      have L6 := Lib.hid (L5.out.below hb6)
      have A6 := Lib.hid (A5.out.below hb6)
      have C6 := Lib.hid (C5.out.below hb6)
      clear hb6
      go_wp2
      go_ret
      exact ⟨rfl, BB6.out⟩
    · have d2 : decide (n ≤ t) = false := decide_eq_false h2
      have hin : decide (f ≤ n ∧ n ≤ t) = false := by rw [decide_eq_false_iff_not]; omega
      have HA2 : Hid ((rightB l1 && inB n l1) = q) := by show _ = _; rw [hA2, hin]; rfl
      clear hin hA2
      go_enter Try.func6, Try.ntmps6
      go_wp2_with fail
      refine (add_any _ ss f t _ L1.out).mono ?_
      rw [HQ1.out]
      rintro e w2 ⟨v2, rfl, o2, hb2⟩
      have BB2 := Lib.hid (B0.out.trans (hb2.mono B0.out.size))
      have L2 := Lib.hid (L1.out.below hb2)
      have cc2_0 : w2.cell? ⟨w.heap.size, 0, none⟩ = some (.int .i64 f) := (hb2.cell (p := ⟨w.heap.size, 0, none⟩) hx).trans x0
      have cc2_1 : w2.cell? ⟨w.heap.size, 1, none⟩ = some (.int .i64 t) := (hb2.cell (p := ⟨w.heap.size, 1, none⟩) hx).trans x1
      have A2 := Lib.hid (o2.rd)
      have hbk2 : w.heap.size < w2.heap.size := (Nat.lt_of_lt_of_le hx hb2.size)
      clear hb2
      obtain ⟨a2, n2, c2, rfl⟩ : ∃ a n c, v2 = .slice a n c := by obtain ⟨a, c, h, _⟩ := o2.slice; exact ⟨a, _, c, h⟩
      clear o2
      go_wp2_with fail
      refine (rright_any _ l1 _ A2.out).mono ?_
      rw [HA1.out]
      rintro e w3 ⟨rfl, hb3⟩
      have BB3 := Lib.hid (BB2.out.trans (hb3.mono BB2.out.size))
      have L3 := Lib.hid (L2.out.below hb3)
      have A3 := Lib.hid (A2.out.below hb3)
      have cc3_0 : w3.cell? ⟨w.heap.size, 0, none⟩ = some (.int .i64 f) := (hb3.cell (p := ⟨w.heap.size, 0, none⟩) hbk2).trans cc2_0
      have cc3_1 : w3.cell? ⟨w.heap.size, 1, none⟩ = some (.int .i64 t) := (hb3.cell (p := ⟨w.heap.size, 1, none⟩) hbk2).trans cc2_1
      have hbk3 : w.heap.size < w3.heap.size := (Nat.lt_of_lt_of_le hbk2 hb3.size)
      clear hb3
      go_wp2_with fail
      refine (rhas_any _ l1 n _ A3.out).mono ?_
      rw [HA2.out]
      rintro e w4 ⟨rfl, hb4⟩
      have BB4 := Lib.hid (BB3.out.trans (hb4.mono BB3.out.size))
      have L4 := Lib.hid (L3.out.below hb4)
      have A4 := Lib.hid (A3.out.below hb4)
      have cc4_0 : w4.cell? ⟨w.heap.size, 0, none⟩ = some (.int .i64 f) := (hb4.cell (p := ⟨w.heap.size, 0, none⟩) hbk3).trans cc3_0
      have cc4_1 : w4.cell? ⟨w.heap.size, 1, none⟩ = some (.int .i64 t) := (hb4.cell (p := ⟨w.heap.size, 1, none⟩) hbk3).trans cc3_1
      have hbk4 : w.heap.size < w4.heap.size := (Nat.lt_of_lt_of_le hbk3 hb4.size)
      clear hb4
      go_wp2_with fail
      refine (rhas_any _ ss n _ L4.out).mono ?_
      rw [HQ.out]
      rintro e w5 ⟨rfl, hb5⟩
      have BB5 := Lib.hid (BB4.out.trans (hb5.mono BB4.out.size))
      have L5 := Lib.hid (L4.out.below hb5)
      have A5 := Lib.hid (A4.out.below hb5)
      have cc5_0 : w5.cell? ⟨w.heap.size, 0, none⟩ = some (.int .i64 f) := (hb5.cell (p := ⟨w.heap.size, 0, none⟩) hbk4).trans cc4_0
      have cc5_1 : w5.cell? ⟨w.heap.size, 1, none⟩ = some (.int .i64 t) := (hb5.cell (p := ⟨w.heap.size, 1, none⟩) hbk4).trans cc4_1
      have hbk5 : w.heap.size < w5.heap.size := (Nat.lt_of_lt_of_le hbk4 hb5.size)
      clear hb5
      go_wp2_with fail
      refine (take_any _ ss f t _ L5.out).mono ?_
      rw [HQ2.out]
      rintro e w6 ⟨v6, rfl, o6, hb6⟩
      have BB6 := Lib.hid (BB5.out.trans (hb6.mono BB5.out.size))
      have L6 := Lib.hid (L5.out.below hb6)
      have A6 := Lib.hid (A5.out.below hb6)
      have cc6_0 : w6.cell? ⟨w.heap.size, 0, none⟩ = some (.int .i64 f) := (hb6.cell (p := ⟨w.heap.size, 0, none⟩) hbk5).trans cc5_0
      have cc6_1 : w6.cell? ⟨w.heap.size, 1, none⟩ = some (.int .i64 t) := (hb6.cell (p := ⟨w.heap.size, 1, none⟩) hbk5).trans cc5_1
      have C6 := Lib.hid (o6.rd)
      have hbk6 : w.heap.size < w6.heap.size := (Nat.lt_of_lt_of_le hbk5 hb6.size)
      clear hb6
      obtain ⟨a6, n6, c6, rfl⟩ : ∃ a n c, v6 = .slice a n c := by obtain ⟨a, c, h, _⟩ := o6.slice; exact ⟨a, _, c, h⟩
      clear o6
      go_wp2_with fail
      refine (alive_any _).mono ?_
      rintro e w7 ⟨rfl, hb7⟩
      have BB7 := Lib.hid (BB6.out.trans (hb7.mono BB6.out.size))
      have L7 := Lib.hid (L6.out.below hb7)
      have A7 := Lib.hid (A6.out.below hb7)
      have C7 := Lib.hid (C6.out.below hb7)
      clear hb7
      go_wp2
      go_ret
      exact ⟨rfl, BB7.out⟩
  · have d1 : decide (f ≤ n) = false := decide_eq_false h1
    have hin : decide (f ≤ n ∧ n ≤ t) = false := by rw [decide_eq_false_iff_not]; omega
    have HA2 : Hid ((rightB l1 && inB n l1) = q) := by show _ = _; rw [hA2, hin]; rfl
    clear hin hA2
    go_enter Try.func6, Try.ntmps6
    go_wp2_with fail
    refine (add_any _ ss f t _ L1.out).mono ?_
    rw [HQ1.out]
    rintro e w2 ⟨v2, rfl, o2, hb2⟩
    have BB2 := Lib.hid (B0.out.trans (hb2.mono B0.out.size))
    have L2 := Lib.hid (L1.out.below hb2)
    have cc2_0 : w2.cell? ⟨w.heap.size, 0, none⟩ = some (.int .i64 f) := (hb2.cell (p := ⟨w.heap.size, 0, none⟩) hx).trans x0
    have cc2_1 : w2.cell? ⟨w.heap.size, 1, none⟩ = some (.int .i64 t) := (hb2.cell (p := ⟨w.heap.size, 1, none⟩) hx).trans x1
    have A2 := Lib.hid (o2.rd)
    have hbk2 : w.heap.size < w2.heap.size := (Nat.lt_of_lt_of_le hx hb2.size)
    clear hb2
    obtain ⟨a2, n2, c2, rfl⟩ : ∃ a n c, v2 = .slice a n c := by obtain ⟨a, c, h, _⟩ := o2.slice; exact ⟨a, _, c, h⟩
    clear o2
    go_wp2_with fail
    refine (rright_any _ l1 _ A2.out).mono ?_
    rw [HA1.out]
    rintro e w3 ⟨rfl, hb3⟩
    have BB3 := Lib.hid (BB2.out.trans (hb3.mono BB2.out.size))
    have L3 := Lib.hid (L2.out.below hb3)
    have A3 := Lib.hid (A2.out.below hb3)
    have cc3_0 : w3.cell? ⟨w.heap.size, 0, none⟩ = some (.int .i64 f) := (hb3.cell (p := ⟨w.heap.size, 0, none⟩) hbk2).trans cc2_0
    have cc3_1 : w3.cell? ⟨w.heap.size, 1, none⟩ = some (.int .i64 t) := (hb3.cell (p := ⟨w.heap.size, 1, none⟩) hbk2).trans cc2_1
    have hbk3 : w.heap.size < w3.heap.size := (Nat.lt_of_lt_of_le hbk2 hb3.size)
    clear hb3
    go_wp2_with fail
    refine (rhas_any _ l1 n _ A3.out).mono ?_
    rw [HA2.out]
    rintro e w4 ⟨rfl, hb4⟩
    have BB4 := Lib.hid (BB3.out.trans (hb4.mono BB3.out.size))
    have L4 := Lib.hid (L3.out.below hb4)
    have A4 := Lib.hid (A3.out.below hb4)
    have cc4_0 : w4.cell? ⟨w.heap.size, 0, none⟩ = some (.int .i64 f) := (hb4.cell (p := ⟨w.heap.size, 0, none⟩) hbk3).trans cc3_0
    have cc4_1 : w4.cell? ⟨w.heap.size, 1, none⟩ = some (.int .i64 t) := (hb4.cell (p := ⟨w.heap.size, 1, none⟩) hbk3).trans cc3_1
    have hbk4 : w.heap.size < w4.heap.size := (Nat.lt_of_lt_of_le hbk3 hb4.size)
    clear hb4
    go_wp2_with fail
    refine (rhas_any _ ss n _ L4.out).mono ?_
    rw [HQ.out]
    rintro e w5 ⟨rfl, hb5⟩
    have BB5 := Lib.hid (BB4.out.trans (hb5.mono BB4.out.size))
    have L5 := Lib.hid (L4.out.below hb5)
    have A5 := Lib.hid (A4.out.below hb5)
    have cc5_0 : w5.cell? ⟨w.heap.size, 0, none⟩ = some (.int .i64 f) := (hb5.cell (p := ⟨w.heap.size, 0, none⟩) hbk4).trans cc4_0
    have cc5_1 : w5.cell? ⟨w.heap.size, 1, none⟩ = some (.int .i64 t) := (hb5.cell (p := ⟨w.heap.size, 1, none⟩) hbk4).trans cc4_1
    have hbk5 : w.heap.size < w5.heap.size := (Nat.lt_of_lt_of_le hbk4 hb5.size)
    clear hb5
    go_wp2_with fail
    refine (take_any _ ss f t _ L5.out).mono ?_
    rw [HQ2.out]
    rintro e w6 ⟨v6, rfl, o6, hb6⟩
    have BB6 := Lib.hid (BB5.out.trans (hb6.mono BB5.out.size))
    have L6 := Lib.hid (L5.out.below hb6)
    have A6 := Lib.hid (A5.out.below hb6)
    have cc6_0 : w6.cell? ⟨w.heap.size, 0, none⟩ = some (.int .i64 f) := (hb6.cell (p := ⟨w.heap.size, 0, none⟩) hbk5).trans cc5_0
    have cc6_1 : w6.cell? ⟨w.heap.size, 1, none⟩ = some (.int .i64 t) := (hb6.cell (p := ⟨w.heap.size, 1, none⟩) hbk5).trans cc5_1
    have C6 := Lib.hid (o6.rd)
    have hbk6 : w.heap.size < w6.heap.size := (Nat.lt_of_lt_of_le hbk5 hb6.size)
    clear hb6
    obtain ⟨a6, n6, c6, rfl⟩ : ∃ a n c, v6 = .slice a n c := by obtain ⟨a, c, h, _⟩ := o6.slice; exact ⟨a, _, c, h⟩
    clear o6
    go_wp2_with fail
    refine (alive_any _).mono ?_
    rintro e w7 ⟨rfl, hb7⟩
    have BB7 := Lib.hid (BB6.out.trans (hb7.mono BB6.out.size))
    have L7 := Lib.hid (L6.out.below hb7)
    have A7 := Lib.hid (A6.out.below hb7)
    have C7 := Lib.hid (C6.out.below hb7)
    clear hb7
    go_wp2
    go_ret
    exact ⟨rfl, BB7.out⟩

set_option maxHeartbeats 3200000 in
theorem spansIn_01 (va : Option Addr) (m c : Nat) (ss l1 l2 : List (Int × Int)) (f t n : Int) (c1 : Int) (hc1 : (c1 == 0) = false) (w : World) (hr : RdS w (.slice va m c) ss) (hq1 : addE ss f t = (l1, c1)) (hq2 : takeE ss f t = (l2, 0)) :
    Calls Try.prog 6 #[.slice va m c, .agg #[.int .i64 f, .int .i64 t], .int .i64 n] w (Yes w) := by
  have B0 := Lib.hid ((Below.refl w.heap.size w).alloc (Nat.le_refl _) (.cells #[.int .i64 f, .int .i64 t] 34))
  have L1 := Lib.hid (hr.below B0.out)
  have HQ1 := Lib.hid hq1
  have HQ2 := Lib.hid hq2
  obtain ⟨q, hq⟩ : ∃ q, (rightB ss && inB n ss) = q := ⟨_, rfl⟩
  have HQ := Lib.hid hq
  have HT1 : Hid (rightB l2 = true) := (take_ok hq2).1
  have hT2 : (rightB l2 && inB n l2) = (!decide (f ≤ n ∧ n ≤ t) && q) := by rw [(take_ok hq2).1, (take_ok hq2).2, hq, Bool.true_and]
  have x0 : (w.alloc (.cells #[.int .i64 f, .int .i64 t] 34)).cell? ⟨w.heap.size, 0, none⟩ = some (.int .i64 f) := by rw [World.cell?_alloc_at _ _ _ _ rfl]; rfl
  have x1 : (w.alloc (.cells #[.int .i64 f, .int .i64 t] 34)).cell? ⟨w.heap.size, 1, none⟩ = some (.int .i64 t) := by rw [World.cell?_alloc_at _ _ _ _ rfl]; rfl
  have hx : w.heap.size < (w.alloc (.cells #[.int .i64 f, .int .i64 t] 34)).heap.size := by simp
  clear hr hq1 hq2 hq
  by_cases h1 : f ≤ n
  · have d1 : decide (f ≤ n) = true := decide_eq_true h1
    by_cases h2 : n ≤ t
    · have d2 : decide (n ≤ t) = true := decide_eq_true h2
      have hin : decide (f ≤ n ∧ n ≤ t) = true := by exact decide_eq_true ⟨h1, h2⟩
      have HT2 : Hid ((rightB l2 && inB n l2) = false) := by show _ = _; rw [hT2, hin]; rfl
      clear hin hT2
      go_enter Try.func6, Try.ntmps6
      go_wp2_with fail
      refine (add_any _ ss f t _ L1.out).mono ?_
      rw [HQ1.out]
      rintro e w2 ⟨v2, rfl, o2, hb2⟩
      have BB2 := Lib.hid (B0.out.trans (hb2.mono B0.out.size))
      have L2 := Lib.hid (L1.out.below hb2)
      have cc2_0 : w2.cell? ⟨w.heap.size, 0, none⟩ = some (.int .i64 f) := (hb2.cell (p := ⟨w.heap.size, 0, none⟩) hx).trans x0
      have cc2_1 : w2.cell? ⟨w.heap.size, 1, none⟩ = some (.int .i64 t) := (hb2.cell (p := ⟨w.heap.size, 1, none⟩) hx).trans x1
      have A2 := Lib.hid (o2.rd)
      have hbk2 : w.heap.size < w2.heap.size := (Nat.lt_of_lt_of_le hx hb2.size)
      clear hb2
      obtain ⟨a2, n2, c2, rfl⟩ : ∃ a n c, v2 = .slice a n c := by obtain ⟨a, c, h, _⟩ := o2.slice; exact ⟨a, _, c, h⟩
      clear o2
      go_wp2_with fail
      refine (take_any _ ss f t _ L2.out).mono ?_
      rw [HQ2.out]
      rintro e w3 ⟨v3, rfl, o3, hb3⟩
      have BB3 := Lib.hid (BB2.out.trans (hb3.mono BB2.out.size))
      have L3 := Lib.hid (L2.out.below hb3)
      have A3 := Lib.hid (A2.out.below hb3)
      have cc3_0 : w3.cell? ⟨w.heap.size, 0, none⟩ = some (.int .i64 f) := (hb3.cell (p := ⟨w.heap.size, 0, none⟩) hbk2).trans cc2_0
      have cc3_1 : w3.cell? ⟨w.heap.size, 1, none⟩ = some (.int .i64 t) := (hb3.cell (p := ⟨w.heap.size, 1, none⟩) hbk2).trans cc2_1
      have C3 := Lib.hid (o3.rd)
      have hbk3 : w.heap.size < w3.heap.size := (Nat.lt_of_lt_of_le hbk2 hb3.size)
      clear hb3
      obtain ⟨a3, n3, c3, rfl⟩ : ∃ a n c, v3 = .slice a n c := by obtain ⟨a, c, h, _⟩ := o3.slice; exact ⟨a, _, c, h⟩
      clear o3
      go_wp2_with fail
      refine (rright_any _ l2 _ C3.out).mono ?_
      rw [HT1.out]
      rintro e w4 ⟨rfl, hb4⟩
      have BB4 := Lib.hid (BB3.out.trans (hb4.mono BB3.out.size))
      have L4 := Lib.hid (L3.out.below hb4)
      have A4 := Lib.hid (A3.out.below hb4)
      have C4 := Lib.hid (C3.out.below hb4)
      clear hb4
      go_wp2_with fail
      refine (rhas_any _ l2 n _ C4.out).mono ?_
      rw [HT2.out]
      rintro e w5 ⟨rfl, hb5⟩
      have BB5 := Lib.hid (BB4.out.trans (hb5.mono BB4.out.size))
      have L5 := Lib.hid (L4.out.below hb5)
      have A5 := Lib.hid (A4.out.below hb5)
      have C5 := Lib.hid (C4.out.below hb5)
      clear hb5
      go_wp2_with fail
      refine (alive_any _).mono ?_
      rintro e w6 ⟨rfl, hb6⟩
      have BB6 := Lib.hid (BB5.out.trans (hb6.mono BB5.out.size))
      have L6 := Lib.hid (L5.out.below hb6)
      have A6 := Lib.hid (A5.out.below hb6)
      have C6 := Lib.hid (C5.out.below hb6)
      clear hb6
      go_wp2
      go_ret
      exact ⟨rfl, BB6.out⟩
    · have d2 : decide (n ≤ t) = false := decide_eq_false h2
      have hin : decide (f ≤ n ∧ n ≤ t) = false := by rw [decide_eq_false_iff_not]; omega
      have HT2 : Hid ((rightB l2 && inB n l2) = q) := by show _ = _; rw [hT2, hin]; rfl
      clear hin hT2
      go_enter Try.func6, Try.ntmps6
      go_wp2_with fail
      refine (add_any _ ss f t _ L1.out).mono ?_
      rw [HQ1.out]
      rintro e w2 ⟨v2, rfl, o2, hb2⟩
      have BB2 := Lib.hid (B0.out.trans (hb2.mono B0.out.size))
      have L2 := Lib.hid (L1.out.below hb2)
      have cc2_0 : w2.cell? ⟨w.heap.size, 0, none⟩ = some (.int .i64 f) := (hb2.cell (p := ⟨w.heap.size, 0, none⟩) hx).trans x0
      have cc2_1 : w2.cell? ⟨w.heap.size, 1, none⟩ = some (.int .i64 t) := (hb2.cell (p := ⟨w.heap.size, 1, none⟩) hx).trans x1
      have A2 := Lib.hid (o2.rd)
      have hbk2 : w.heap.size < w2.heap.size := (Nat.lt_of_lt_of_le hx hb2.size)
      clear hb2
      obtain ⟨a2, n2, c2, rfl⟩ : ∃ a n c, v2 = .slice a n c := by obtain ⟨a, c, h, _⟩ := o2.slice; exact ⟨a, _, c, h⟩
      clear o2
      go_wp2_with fail
      refine (take_any _ ss f t _ L2.out).mono ?_
      rw [HQ2.out]
      rintro e w3 ⟨v3, rfl, o3, hb3⟩
      have BB3 := Lib.hid (BB2.out.trans (hb3.mono BB2.out.size))
      have L3 := Lib.hid (L2.out.below hb3)
      have A3 := Lib.hid (A2.out.below hb3)
      have cc3_0 : w3.cell? ⟨w.heap.size, 0, none⟩ = some (.int .i64 f) := (hb3.cell (p := ⟨w.heap.size, 0, none⟩) hbk2).trans cc2_0
      have cc3_1 : w3.cell? ⟨w.heap.size, 1, none⟩ = some (.int .i64 t) := (hb3.cell (p := ⟨w.heap.size, 1, none⟩) hbk2).trans cc2_1
      have C3 := Lib.hid (o3.rd)
      have hbk3 : w.heap.size < w3.heap.size := (Nat.lt_of_lt_of_le hbk2 hb3.size)
      clear hb3
      obtain ⟨a3, n3, c3, rfl⟩ : ∃ a n c, v3 = .slice a n c := by obtain ⟨a, c, h, _⟩ := o3.slice; exact ⟨a, _, c, h⟩
      clear o3
      go_wp2_with fail
      refine (rright_any _ l2 _ C3.out).mono ?_
      rw [HT1.out]
      rintro e w4 ⟨rfl, hb4⟩
      have BB4 := Lib.hid (BB3.out.trans (hb4.mono BB3.out.size))
      have L4 := Lib.hid (L3.out.below hb4)
      have A4 := Lib.hid (A3.out.below hb4)
      have C4 := Lib.hid (C3.out.below hb4)
      clear hb4
      go_wp2_with fail
      refine (rhas_any _ l2 n _ C4.out).mono ?_
      rw [HT2.out]
      rintro e w5 ⟨rfl, hb5⟩
      have BB5 := Lib.hid (BB4.out.trans (hb5.mono BB4.out.size))
      have L5 := Lib.hid (L4.out.below hb5)
      have A5 := Lib.hid (A4.out.below hb5)
      have C5 := Lib.hid (C4.out.below hb5)
      clear hb5
      go_wp2_with fail
      refine (rhas_any _ ss n _ L5.out).mono ?_
      rw [HQ.out]
      rintro e w6 ⟨rfl, hb6⟩
      have BB6 := Lib.hid (BB5.out.trans (hb6.mono BB5.out.size))
      have L6 := Lib.hid (L5.out.below hb6)
      have A6 := Lib.hid (A5.out.below hb6)
      have C6 := Lib.hid (C5.out.below hb6)
      clear hb6
      go_wp2_with fail
      refine (alive_any _).mono ?_
      rintro e w7 ⟨rfl, hb7⟩
      have BB7 := Lib.hid (BB6.out.trans (hb7.mono BB6.out.size))
      have L7 := Lib.hid (L6.out.below hb7)
      have A7 := Lib.hid (A6.out.below hb7)
      have C7 := Lib.hid (C6.out.below hb7)
      clear hb7
      go_wp2
      go_ret
      exact ⟨rfl, BB7.out⟩
  · have d1 : decide (f ≤ n) = false := decide_eq_false h1
    have hin : decide (f ≤ n ∧ n ≤ t) = false := by rw [decide_eq_false_iff_not]; omega
    have HT2 : Hid ((rightB l2 && inB n l2) = q) := by show _ = _; rw [hT2, hin]; rfl
    clear hin hT2
    go_enter Try.func6, Try.ntmps6
    go_wp2_with fail
    refine (add_any _ ss f t _ L1.out).mono ?_
    rw [HQ1.out]
    rintro e w2 ⟨v2, rfl, o2, hb2⟩
    have BB2 := Lib.hid (B0.out.trans (hb2.mono B0.out.size))
    have L2 := Lib.hid (L1.out.below hb2)
    have cc2_0 : w2.cell? ⟨w.heap.size, 0, none⟩ = some (.int .i64 f) := (hb2.cell (p := ⟨w.heap.size, 0, none⟩) hx).trans x0
    have cc2_1 : w2.cell? ⟨w.heap.size, 1, none⟩ = some (.int .i64 t) := (hb2.cell (p := ⟨w.heap.size, 1, none⟩) hx).trans x1
    have A2 := Lib.hid (o2.rd)
    have hbk2 : w.heap.size < w2.heap.size := (Nat.lt_of_lt_of_le hx hb2.size)
    clear hb2
    obtain ⟨a2, n2, c2, rfl⟩ : ∃ a n c, v2 = .slice a n c := by obtain ⟨a, c, h, _⟩ := o2.slice; exact ⟨a, _, c, h⟩
    clear o2
    go_wp2_with fail
    refine (take_any _ ss f t _ L2.out).mono ?_
    rw [HQ2.out]
    rintro e w3 ⟨v3, rfl, o3, hb3⟩
    have BB3 := Lib.hid (BB2.out.trans (hb3.mono BB2.out.size))
    have L3 := Lib.hid (L2.out.below hb3)
    have A3 := Lib.hid (A2.out.below hb3)
    have cc3_0 : w3.cell? ⟨w.heap.size, 0, none⟩ = some (.int .i64 f) := (hb3.cell (p := ⟨w.heap.size, 0, none⟩) hbk2).trans cc2_0
    have cc3_1 : w3.cell? ⟨w.heap.size, 1, none⟩ = some (.int .i64 t) := (hb3.cell (p := ⟨w.heap.size, 1, none⟩) hbk2).trans cc2_1
    have C3 := Lib.hid (o3.rd)
    have hbk3 : w.heap.size < w3.heap.size := (Nat.lt_of_lt_of_le hbk2 hb3.size)
    clear hb3
    obtain ⟨a3, n3, c3, rfl⟩ : ∃ a n c, v3 = .slice a n c := by obtain ⟨a, c, h, _⟩ := o3.slice; exact ⟨a, _, c, h⟩
    clear o3
    go_wp2_with fail
    refine (rright_any _ l2 _ C3.out).mono ?_
    rw [HT1.out]
    rintro e w4 ⟨rfl, hb4⟩
    have BB4 := Lib.hid (BB3.out.trans (hb4.mono BB3.out.size))
    have L4 := Lib.hid (L3.out.below hb4)
    have A4 := Lib.hid (A3.out.below hb4)
    have C4 := Lib.hid (C3.out.below hb4)
    clear hb4
    go_wp2_with fail
    refine (rhas_any _ l2 n _ C4.out).mono ?_
    rw [HT2.out]
    rintro e w5 ⟨rfl, hb5⟩
    have BB5 := Lib.hid (BB4.out.trans (hb5.mono BB4.out.size))
    have L5 := Lib.hid (L4.out.below hb5)
    have A5 := Lib.hid (A4.out.below hb5)
    have C5 := Lib.hid (C4.out.below hb5)
    clear hb5
    go_wp2_with fail
    refine (rhas_any _ ss n _ L5.out).mono ?_
    rw [HQ.out]
    rintro e w6 ⟨rfl, hb6⟩
    have BB6 := Lib.hid (BB5.out.trans (hb6.mono BB5.out.size))
    have L6 := Lib.hid (L5.out.below hb6)
    have A6 := Lib.hid (A5.out.below hb6)
    have C6 := Lib.hid (C5.out.below hb6)
    clear hb6
    go_wp2_with fail
    refine (alive_any _).mono ?_
    rintro e w7 ⟨rfl, hb7⟩
    have BB7 := Lib.hid (BB6.out.trans (hb7.mono BB6.out.size))
    have L7 := Lib.hid (L6.out.below hb7)
    have A7 := Lib.hid (A6.out.below hb7)
    have C7 := Lib.hid (C6.out.below hb7)
    clear hb7
    go_wp2
    go_ret
    exact ⟨rfl, BB7.out⟩

set_option maxHeartbeats 3200000 in
theorem spansIn_00 (va : Option Addr) (m c : Nat) (ss l1 l2 : List (Int × Int)) (f t n : Int) (c1 : Int) (hc1 : (c1 == 0) = false) (c2 : Int) (hc2 : (c2 == 0) = false) (w : World) (hr : RdS w (.slice va m c) ss) (hq1 : addE ss f t = (l1, c1)) (hq2 : takeE ss f t = (l2, c2)) :
    Calls Try.prog 6 #[.slice va m c, .agg #[.int .i64 f, .int .i64 t], .int .i64 n] w (Yes w) := by
  have B0 := Lib.hid ((Below.refl w.heap.size w).alloc (Nat.le_refl _) (.cells #[.int .i64 f, .int .i64 t] 34))
  have L1 := Lib.hid (hr.below B0.out)
  have HQ1 := Lib.hid hq1
  have HQ2 := Lib.hid hq2
  obtain ⟨q, hq⟩ : ∃ q, (rightB ss && inB n ss) = q := ⟨_, rfl⟩
  have HQ := Lib.hid hq
  have x0 : (w.alloc (.cells #[.int .i64 f, .int .i64 t] 34)).cell? ⟨w.heap.size, 0, none⟩ = some (.int .i64 f) := by rw [World.cell?_alloc_at _ _ _ _ rfl]; rfl
  have x1 : (w.alloc (.cells #[.int .i64 f, .int .i64 t] 34)).cell? ⟨w.heap.size, 1, none⟩ = some (.int .i64 t) := by rw [World.cell?_alloc_at _ _ _ _ rfl]; rfl
  have hx : w.heap.size < (w.alloc (.cells #[.int .i64 f, .int .i64 t] 34)).heap.size := by simp
  clear hr hq1 hq2 hq
  by_cases h1 : f ≤ n
  · have d1 : decide (f ≤ n) = true := decide_eq_true h1
    by_cases h2 : n ≤ t
    · have d2 : decide (n ≤ t) = true := decide_eq_true h2
      have hin : decide (f ≤ n ∧ n ≤ t) = true := by exact decide_eq_true ⟨h1, h2⟩
      clear hin
      go_enter Try.func6, Try.ntmps6
      go_wp2_with fail
      refine (add_any _ ss f t _ L1.out).mono ?_
      rw [HQ1.out]
      rintro e w2 ⟨v2, rfl, o2, hb2⟩
      have BB2 := Lib.hid (B0.out.trans (hb2.mono B0.out.size))
      have L2 := Lib.hid (L1.out.below hb2)
      have cc2_0 : w2.cell? ⟨w.heap.size, 0, none⟩ = some (.int .i64 f) := (hb2.cell (p := ⟨w.heap.size, 0, none⟩) hx).trans x0
      have cc2_1 : w2.cell? ⟨w.heap.size, 1, none⟩ = some (.int .i64 t) := (hb2.cell (p := ⟨w.heap.size, 1, none⟩) hx).trans x1
      have A2 := Lib.hid (o2.rd)
      have hbk2 : w.heap.size < w2.heap.size := (Nat.lt_of_lt_of_le hx hb2.size)
      clear hb2
      obtain ⟨a2, n2, c2, rfl⟩ : ∃ a n c, v2 = .slice a n c := by obtain ⟨a, c, h, _⟩ := o2.slice; exact ⟨a, _, c, h⟩
      clear o2
      go_wp2_with fail
      refine (take_any _ ss f t _ L2.out).mono ?_
      rw [HQ2.out]
      rintro e w3 ⟨v3, rfl, o3, hb3⟩
      have BB3 := Lib.hid (BB2.out.trans (hb3.mono BB2.out.size))
      have L3 := Lib.hid (L2.out.below hb3)
      have A3 := Lib.hid (A2.out.below hb3)
      have cc3_0 : w3.cell? ⟨w.heap.size, 0, none⟩ = some (.int .i64 f) := (hb3.cell (p := ⟨w.heap.size, 0, none⟩) hbk2).trans cc2_0
      have cc3_1 : w3.cell? ⟨w.heap.size, 1, none⟩ = some (.int .i64 t) := (hb3.cell (p := ⟨w.heap.size, 1, none⟩) hbk2).trans cc2_1
      have C3 := Lib.hid (o3.rd)
      have hbk3 : w.heap.size < w3.heap.size := (Nat.lt_of_lt_of_le hbk2 hb3.size)
      clear hb3
      obtain ⟨a3, n3, c3, rfl⟩ : ∃ a n c, v3 = .slice a n c := by obtain ⟨a, c, h, _⟩ := o3.slice; exact ⟨a, _, c, h⟩
      clear o3
      go_wp2_with fail
      refine (alive_any _).mono ?_
      rintro e w4 ⟨rfl, hb4⟩
      have BB4 := Lib.hid (BB3.out.trans (hb4.mono BB3.out.size))
      have L4 := Lib.hid (L3.out.below hb4)
      have A4 := Lib.hid (A3.out.below hb4)
      have C4 := Lib.hid (C3.out.below hb4)
      clear hb4
      go_wp2
      go_ret
      exact ⟨rfl, BB4.out⟩
    · have d2 : decide (n ≤ t) = false := decide_eq_false h2
      have hin : decide (f ≤ n ∧ n ≤ t) = false := by rw [decide_eq_false_iff_not]; omega
      clear hin
      go_enter Try.func6, Try.ntmps6
      go_wp2_with fail
      refine (add_any _ ss f t _ L1.out).mono ?_
      rw [HQ1.out]
      rintro e w2 ⟨v2, rfl, o2, hb2⟩
      have BB2 := Lib.hid (B0.out.trans (hb2.mono B0.out.size))
      have L2 := Lib.hid (L1.out.below hb2)
      have cc2_0 : w2.cell? ⟨w.heap.size, 0, none⟩ = some (.int .i64 f) := (hb2.cell (p := ⟨w.heap.size, 0, none⟩) hx).trans x0
      have cc2_1 : w2.cell? ⟨w.heap.size, 1, none⟩ = some (.int .i64 t) := (hb2.cell (p := ⟨w.heap.size, 1, none⟩) hx).trans x1
      have A2 := Lib.hid (o2.rd)
      have hbk2 : w.heap.size < w2.heap.size := (Nat.lt_of_lt_of_le hx hb2.size)
      clear hb2
      obtain ⟨a2, n2, c2, rfl⟩ : ∃ a n c, v2 = .slice a n c := by obtain ⟨a, c, h, _⟩ := o2.slice; exact ⟨a, _, c, h⟩
      clear o2
      go_wp2_with fail
      refine (take_any _ ss f t _ L2.out).mono ?_
      rw [HQ2.out]
      rintro e w3 ⟨v3, rfl, o3, hb3⟩
      have BB3 := Lib.hid (BB2.out.trans (hb3.mono BB2.out.size))
      have L3 := Lib.hid (L2.out.below hb3)
      have A3 := Lib.hid (A2.out.below hb3)
      have cc3_0 : w3.cell? ⟨w.heap.size, 0, none⟩ = some (.int .i64 f) := (hb3.cell (p := ⟨w.heap.size, 0, none⟩) hbk2).trans cc2_0
      have cc3_1 : w3.cell? ⟨w.heap.size, 1, none⟩ = some (.int .i64 t) := (hb3.cell (p := ⟨w.heap.size, 1, none⟩) hbk2).trans cc2_1
      have C3 := Lib.hid (o3.rd)
      have hbk3 : w.heap.size < w3.heap.size := (Nat.lt_of_lt_of_le hbk2 hb3.size)
      clear hb3
      obtain ⟨a3, n3, c3, rfl⟩ : ∃ a n c, v3 = .slice a n c := by obtain ⟨a, c, h, _⟩ := o3.slice; exact ⟨a, _, c, h⟩
      clear o3
      go_wp2_with fail
      refine (alive_any _).mono ?_
      rintro e w4 ⟨rfl, hb4⟩
      have BB4 := Lib.hid (BB3.out.trans (hb4.mono BB3.out.size))
      have L4 := Lib.hid (L3.out.below hb4)
      have A4 := Lib.hid (A3.out.below hb4)
      have C4 := Lib.hid (C3.out.below hb4)
      clear hb4
      go_wp2
      go_ret
      exact ⟨rfl, BB4.out⟩
  · have d1 : decide (f ≤ n) = false := decide_eq_false h1
    have hin : decide (f ≤ n ∧ n ≤ t) = false := by rw [decide_eq_false_iff_not]; omega
    clear hin
    go_enter Try.func6, Try.ntmps6
    go_wp2_with fail
    refine (add_any _ ss f t _ L1.out).mono ?_
    rw [HQ1.out]
    rintro e w2 ⟨v2, rfl, o2, hb2⟩
    have BB2 := Lib.hid (B0.out.trans (hb2.mono B0.out.size))
    have L2 := Lib.hid (L1.out.below hb2)
    have cc2_0 : w2.cell? ⟨w.heap.size, 0, none⟩ = some (.int .i64 f) := (hb2.cell (p := ⟨w.heap.size, 0, none⟩) hx).trans x0
    have cc2_1 : w2.cell? ⟨w.heap.size, 1, none⟩ = some (.int .i64 t) := (hb2.cell (p := ⟨w.heap.size, 1, none⟩) hx).trans x1
    have A2 := Lib.hid (o2.rd)
    have hbk2 : w.heap.size < w2.heap.size := (Nat.lt_of_lt_of_le hx hb2.size)
    clear hb2
    obtain ⟨a2, n2, c2, rfl⟩ : ∃ a n c, v2 = .slice a n c := by obtain ⟨a, c, h, _⟩ := o2.slice; exact ⟨a, _, c, h⟩
    clear o2
    go_wp2_with fail
    refine (take_any _ ss f t _ L2.out).mono ?_
    rw [HQ2.out]
    rintro e w3 ⟨v3, rfl, o3, hb3⟩
    have BB3 := Lib.hid (BB2.out.trans (hb3.mono BB2.out.size))
    have L3 := Lib.hid (L2.out.below hb3)
    have A3 := Lib.hid (A2.out.below hb3)
    have cc3_0 : w3.cell? ⟨w.heap.size, 0, none⟩ = some (.int .i64 f) := (hb3.cell (p := ⟨w.heap.size, 0, none⟩) hbk2).trans cc2_0
    have cc3_1 : w3.cell? ⟨w.heap.size, 1, none⟩ = some (.int .i64 t) := (hb3.cell (p := ⟨w.heap.size, 1, none⟩) hbk2).trans cc2_1
    have C3 := Lib.hid (o3.rd)
    have hbk3 : w.heap.size < w3.heap.size := (Nat.lt_of_lt_of_le hbk2 hb3.size)
    clear hb3
    obtain ⟨a3, n3, c3, rfl⟩ : ∃ a n c, v3 = .slice a n c := by obtain ⟨a, c, h, _⟩ := o3.slice; exact ⟨a, _, c, h⟩
    clear o3
    go_wp2_with fail
    refine (alive_any _).mono ?_
    rintro e w4 ⟨rfl, hb4⟩
    have BB4 := Lib.hid (BB3.out.trans (hb4.mono BB3.out.size))
    have L4 := Lib.hid (L3.out.below hb4)
    have A4 := Lib.hid (A3.out.below hb4)
    have C4 := Lib.hid (C3.out.below hb4)
    clear hb4
    go_wp2
    go_ret
    exact ⟨rfl, BB4.out⟩

theorem spansIn_walk (v : Value) (ss : List (Int × Int)) (f t n : Int) (w : World) (hr : RdS w v ss) :
    Calls Try.prog 6 #[v, .agg #[.int .i64 f, .int .i64 t], .int .i64 n] w (Yes w) := by
  obtain ⟨va, c, rfl, _, _⟩ := hr.isSlice
  obtain ⟨⟨l1, c1⟩, hq1⟩ : ∃ q, addE ss f t = q := ⟨_, rfl⟩
  obtain ⟨⟨l2, c2⟩, hq2⟩ : ∃ q, takeE ss f t = q := ⟨_, rfl⟩
  by_cases h1 : c1 = 0
  · subst h1
    by_cases h2 : c2 = 0
    · subst h2
      exact spansIn_11 va _ c ss l1 l2 f t n w hr hq1 hq2
    · exact spansIn_10 va _ c ss l1 l2 f t n c2 (by simpa using h2) w hr hq1 hq2
  · by_cases h2 : c2 = 0
    · subst h2
      exact spansIn_01 va _ c ss l1 l2 f t n c1 (by simpa using h1) w hr hq1 hq2
    · exact spansIn_00 va _ c ss l1 l2 f t n c1 (by simpa using h1) c2 (by simpa using h2) w hr hq1 hq2
end Go.Proofs.Yticbhdbpfpdofaa
