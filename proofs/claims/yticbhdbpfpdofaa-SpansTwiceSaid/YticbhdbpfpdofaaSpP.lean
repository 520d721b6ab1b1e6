/- The law of layer 5: Twice. -/
import Derived.Test.YticbhdbpfpdofaaSpL
import Derived.Deep.RegionHeld3
set_option linter.unusedSimpArgs false
set_option linter.unusedVariables false
namespace Go.Proofs.Yticbhdbpfpdofaa
open Go.RowKit

/-- GAPS OF GAPS -/
theorem twice {ss : List (Int × Int)} {f t : Int} (hR : rightB ss = true) (hS : spanB f t = true) (hl : (gapR t ss f).length ≤ 256) :
    rightB (gapR t ss f) = true ∧ rightB (gapR t (gapR t ss f) f) = true ∧ sumL (gapR t ss f) + sumL (gapR t (gapR t ss f) f) = t - f + 1 ∧
    (∀ s ∈ gapR t ss f, inB s.1 (gapR t (gapR t ss f) f) = false ∧ inB s.2 (gapR t (gapR t ss f) f) = false) ∧
    (∀ s ∈ gapR t (gapR t ss f) f, inB s.1 ss = true ∧ inB s.2 ss = true) := by
  have hft : 0 ≤ f ∧ f ≤ t ∧ t ≤ 4611686018427387903 := by simpa [spanB] using hS
  have hRi : riseB 0 ss = true ∧ ss.length ≤ 256 := by simpa [rightB, and_comm] using hR
  have rA : riseB f (gapR t ss f) = true := gap_rise hft.2.2 hRi.1
  have rB : riseB f (gapR t (gapR t ss f) f) = true := gap_rise hft.2.2 rA
  have iA : ∀ n, inB n (gapR t ss f) = (decide (f ≤ n ∧ n ≤ t) && !inB n ss) := fun n => gap_in n hRi.1
  have iB : ∀ n, inB n (gapR t (gapR t ss f) f) = (decide (f ≤ n ∧ n ≤ t) && !inB n (gapR t ss f)) := fun n => gap_in n rA
  have eB : gapR t (gapR t ss f) f = clipL f t ss := rise_inj rB (clip_rise (m := 0) hRi.1 (by omega)) fun n => by
    rw [iB, iA, clip_in]
    cases inB n ss <;> simp
  have tA : ∀ s ∈ gapR t ss f, f ≤ s.1 ∧ s.2 ≤ t ∧ s.1 ≤ s.2 := fun s hs => by
    have h1 := rise_mem rA s hs
    have h2 := gap_top hRi.1 s hs
    exact ⟨h1.1, h2, h1.2.1⟩
  refine ⟨by simp [rightB, hl, rise_mono rA hft.1], ?_, ?_, ?_, ?_⟩
  · have := clip_len (a := f) (b := t) ss
    rw [rightB, rise_mono rB hft.1, Bool.and_true, decide_eq_true_iff, eB]
    omega
  · have := gap_sum (t := t) (f := f) rA (by omega)
    rw [clip_all tA] at this
    omega
  · intro s hs
    have h := tA s hs
    have h1 : inB s.1 (gapR t ss f) = true := in_mem.2 ⟨s, hs, Int.le_refl _, h.2.2⟩
    have h2 : inB s.2 (gapR t ss f) = true := in_mem.2 ⟨s, hs, h.2.2, Int.le_refl _⟩
    rw [iB, iB, h1, h2]
    simp
  · intro s hs
    have h := rise_mem rB s hs
    have h1 : inB s.1 (gapR t (gapR t ss f) f) = true := in_mem.2 ⟨s, hs, Int.le_refl _, h.2.1⟩
    have h2 : inB s.2 (gapR t (gapR t ss f) f) = true := in_mem.2 ⟨s, hs, h.2.1, Int.le_refl _⟩
    rw [eB, clip_in, Bool.and_eq_true_iff] at h1 h2
    exact ⟨h1.1, h2.1⟩

set_option maxHeartbeats 1600000 in
theorem disjoint_ok (v u : Value) (a b : List (Int × Int)) (w : World) (hr : RdS w v a) (hu : RdS w u b) (hd : ∀ s ∈ a, (rightB b && inB s.1 b) = false ∧ (rightB b && inB s.2 b) = false) :
    Calls Try.prog 27 #[v, u] w fun e w' => e = .returned (.bool true) ∧ Below w.heap.size w w' := by
  obtain ⟨ua, uc, rfl, _, _⟩ := hu.isSlice
  by_cases h0 : a = []
  · subst h0
    obtain ⟨va, vc, rfl, _, _⟩ := hr.isSlice
    clear hr hu hd
    go_enter Try.func27, Try.ntmps27
    go_wp2_with fail
    refine wp_loop_rounds 1 ?_
    rw [rounds_succ]
    go_wp2
    go_ret
    exact ⟨rfl, Below.refl _ _⟩
  have hm : a.length ≤ maxLen := by obtain ⟨_, _, e, h1, h2⟩ := hr.isSlice; omega
  unfold maxLen at hm
  obtain ⟨p, o, c, rfl, hp⟩ := hr.form h0
  have HR := Lib.hid hr
  have HU := Lib.hid hu
  have HD := Lib.hid hd
  clear hr hu hd h0
  go_enter Try.func27, Try.ntmps27
  go_wp2_with fail
  go_loopw [9] (fun i wr => ∃ (k : Nat), i = .int .i64 k ∧ k ≤ a.length ∧ Below w.heap.size w wr) (fun i _ => a.length - (intOf i).toNat)
  case atStart => exact ⟨0, rfl, Nat.zero_le _, Below.refl _ _⟩
  case round =>
    obtain ⟨k, rfl, hk, hbel⟩ := hrel
    have hz := hbel.size
    by_cases hlt : k < a.length
    · obtain ⟨q0, q1⟩ := (HR.out.below hbel).cells rfl k hlt
      have hdk := HD.out (a.getD k (0, 0)) (by simp [List.getD, hlt])
      obtain ⟨⟨x, y⟩, hs⟩ : ∃ s, s = a.getD k (0, 0) := ⟨_, rfl⟩
      rw [← hs] at q0 q1 hdk
      simp only at q0 q1 hdk
      have HX := Lib.hid hdk.1
      have HY := Lib.hid hdk.2
      have hi1 : (k : Int) < (a.length : Int) := by omega
      have hw1 : IntKind.i64.wrap ((k : Int) + 1) = (k : Int) + 1 := wraps_i64' _ (by omega) (by omega)
      have BA := Lib.hid (hbel.alloc hz (.cells #[.int .i64 x, .int .i64 y] 42))
      have UA := Lib.hid (HU.out.below BA.out)
      have hnew : wr.heap.size < (wr.alloc (.cells #[.int .i64 x, .int .i64 y] 42)).heap.size := by simp
      clear hs hdk hbel
      go_wp2_with fail
      refine (rhas_any _ b x _ UA.out).mono ?_
      rw [HX.out]
      rintro e w2 ⟨rfl, hb2⟩
      have k1 : w2.cell? ⟨wr.heap.size, 1, none⟩ = some (.int .i64 y) := (hb2.cell (p := ⟨wr.heap.size, 1, none⟩) hnew).trans (by rw [World.cell?_alloc_at _ _ _ _ rfl]; rfl)
      have B2 := Lib.hid (BA.out.trans (hb2.mono BA.out.size))
      have U2 := Lib.hid (UA.out.below hb2)
      clear hb2
      go_wp2_with fail
      refine (rhas_any _ b y _ U2.out).mono ?_
      rw [HY.out]
      rintro e w3 ⟨rfl, hb3⟩
      have B3 := Lib.hid (B2.out.trans (hb3.mono B2.out.size))
      clear hb3
      go_wp2
      exact ⟨⟨k + 1, by go_num, hlt, B3.out⟩, by simp [intOf, hw1]; omega⟩
    · have hk2 : k = a.length := by omega
      go_wp2
      go_ret
      exact ⟨rfl, hbel⟩

set_option maxHeartbeats 1600000 in
theorem within_ok (v u : Value) (a b : List (Int × Int)) (w : World) (hr : RdS w v a) (hu : RdS w u b) (hd : ∀ s ∈ a, (rightB b && inB s.1 b) = true ∧ (rightB b && inB s.2 b) = true) :
    Calls Try.prog 28 #[v, u] w fun e w' => e = .returned (.bool true) ∧ Below w.heap.size w w' := by
  obtain ⟨ua, uc, rfl, _, _⟩ := hu.isSlice
  by_cases h0 : a = []
  · subst h0
    obtain ⟨va, vc, rfl, _, _⟩ := hr.isSlice
    clear hr hu hd
    go_enter Try.func28, Try.ntmps28
    go_wp2_with fail
    refine wp_loop_rounds 1 ?_
    rw [rounds_succ]
    go_wp2
    go_ret
    exact ⟨rfl, Below.refl _ _⟩
  have hm : a.length ≤ maxLen := by obtain ⟨_, _, e, h1, h2⟩ := hr.isSlice; omega
  unfold maxLen at hm
  obtain ⟨p, o, c, rfl, hp⟩ := hr.form h0
  have HR := Lib.hid hr
  have HU := Lib.hid hu
  have HD := Lib.hid hd
  clear hr hu hd h0
  go_enter Try.func28, Try.ntmps28
  go_wp2_with fail
  go_loopw [9] (fun i wr => ∃ (k : Nat), i = .int .i64 k ∧ k ≤ a.length ∧ Below w.heap.size w wr) (fun i _ => a.length - (intOf i).toNat)
  case atStart => exact ⟨0, rfl, Nat.zero_le _, Below.refl _ _⟩
  case round =>
    obtain ⟨k, rfl, hk, hbel⟩ := hrel
    have hz := hbel.size
    by_cases hlt : k < a.length
    · obtain ⟨q0, q1⟩ := (HR.out.below hbel).cells rfl k hlt
      have hdk := HD.out (a.getD k (0, 0)) (by simp [List.getD, hlt])
      obtain ⟨⟨x, y⟩, hs⟩ : ∃ s, s = a.getD k (0, 0) := ⟨_, rfl⟩
      rw [← hs] at q0 q1 hdk
      simp only at q0 q1 hdk
      have HX := Lib.hid hdk.1
      have HY := Lib.hid hdk.2
      have hi1 : (k : Int) < (a.length : Int) := by omega
      have hw1 : IntKind.i64.wrap ((k : Int) + 1) = (k : Int) + 1 := wraps_i64' _ (by omega) (by omega)
      have BA := Lib.hid (hbel.alloc hz (.cells #[.int .i64 x, .int .i64 y] 42))
      have UA := Lib.hid (HU.out.below BA.out)
      have hnew : wr.heap.size < (wr.alloc (.cells #[.int .i64 x, .int .i64 y] 42)).heap.size := by simp
      clear hs hdk hbel
      go_wp2_with fail
      refine (rhas_any _ b x _ UA.out).mono ?_
      rw [HX.out]
      rintro e w2 ⟨rfl, hb2⟩
      have k1 : w2.cell? ⟨wr.heap.size, 1, none⟩ = some (.int .i64 y) := (hb2.cell (p := ⟨wr.heap.size, 1, none⟩) hnew).trans (by rw [World.cell?_alloc_at _ _ _ _ rfl]; rfl)
      have B2 := Lib.hid (BA.out.trans (hb2.mono BA.out.size))
      have U2 := Lib.hid (UA.out.below hb2)
      clear hb2
      go_wp2_with fail
      refine (rhas_any _ b y _ U2.out).mono ?_
      rw [HY.out]
      rintro e w3 ⟨rfl, hb3⟩
      have B3 := Lib.hid (B2.out.trans (hb3.mono B2.out.size))
      clear hb3
      go_wp2
      exact ⟨⟨k + 1, by go_num, hlt, B3.out⟩, by simp [intOf, hw1]; omega⟩
    · have hk2 : k = a.length := by omega
      go_wp2
      go_ret
      exact ⟨rfl, hbel⟩
-- TWICE

set_option maxHeartbeats 1600000 in
theorem twice_no_r (va : Option Addr) (m c : Nat) (ss : List (Int × Int)) (f t : Int) (w : World) (hr : RdS w (.slice va m c) ss) (hR : rightB ss = false) :
    Calls Try.prog 8 #[.slice va m c, .agg #[.int .i64 f, .int .i64 t]] w (Yes w) := by
  have HQ1 : Hid (gapsE ss f t = ([], 1)) := by show _ = _; simp [gapsE, hR]
  have HRt := Lib.hid hR
  have B0 := Lib.hid ((Below.refl w.heap.size w).alloc (Nat.le_refl _) (.cells #[.int .i64 f, .int .i64 t] 34))
  have L1 := Lib.hid (hr.below B0.out)
  have x0 : (w.alloc (.cells #[.int .i64 f, .int .i64 t] 34)).cell? ⟨w.heap.size, 0, none⟩ = some (.int .i64 f) := by rw [World.cell?_alloc_at _ _ _ _ rfl]; rfl
  have x1 : (w.alloc (.cells #[.int .i64 f, .int .i64 t] 34)).cell? ⟨w.heap.size, 1, none⟩ = some (.int .i64 t) := by rw [World.cell?_alloc_at _ _ _ _ rfl]; rfl
  have hx : w.heap.size < (w.alloc (.cells #[.int .i64 f, .int .i64 t] 34)).heap.size := by simp
  clear hr hR
  go_enter Try.func8, Try.ntmps8
  go_wp2_with fail
  refine (gaps_any _ ss f t _ L1.out).mono ?_
  rw [HQ1.out]
  rintro e w2 ⟨v2, rfl, o2, hb2⟩
  have BB2 := Lib.hid (B0.out.trans (hb2.mono B0.out.size))
  have L2 := Lib.hid (L1.out.below hb2)
  have cc2_0 : w2.cell? ⟨w.heap.size, 0, none⟩ = some (.int .i64 f) := (hb2.cell (p := ⟨w.heap.size, 0, none⟩) hx).trans x0
  have cc2_1 : w2.cell? ⟨w.heap.size, 1, none⟩ = some (.int .i64 t) := (hb2.cell (p := ⟨w.heap.size, 1, none⟩) hx).trans x1
  have A2 := Lib.hid (o2.rd)
  have hbk2 : w.heap.size < w2.heap.size := (Nat.lt_of_lt_of_le hx hb2.size)
  clear hb2
  obtain ⟨a2, n2, c2, rfl⟩ : ∃ a n c, v2 = .slice a n c := by obtain ⟨a, c, h, _⟩ := o2.slice; exact ⟨a, _, c, h⟩
  clear o2
  go_wp2_with fail
  refine (rright_any _ ss _ L2.out).mono ?_
  rw [HRt.out]
  rintro e w3 ⟨rfl, hb3⟩
  have BB3 := Lib.hid (BB2.out.trans (hb3.mono BB2.out.size))
  have L3 := Lib.hid (L2.out.below hb3)
  have A3 := Lib.hid (A2.out.below hb3)
  have cc3_0 : w3.cell? ⟨w.heap.size, 0, none⟩ = some (.int .i64 f) := (hb3.cell (p := ⟨w.heap.size, 0, none⟩) hbk2).trans cc2_0
  have cc3_1 : w3.cell? ⟨w.heap.size, 1, none⟩ = some (.int .i64 t) := (hb3.cell (p := ⟨w.heap.size, 1, none⟩) hbk2).trans cc2_1
  have hbk3 : w.heap.size < w3.heap.size := (Nat.lt_of_lt_of_le hbk2 hb3.size)
  clear hb3
  go_wp2_with fail
  refine (alive_any _).mono ?_
  rintro e w4 ⟨rfl, hb4⟩
  have BB4 := Lib.hid (BB3.out.trans (hb4.mono BB3.out.size))
  have L4 := Lib.hid (L3.out.below hb4)
  have A4 := Lib.hid (A3.out.below hb4)
  have cc4_0 : w4.cell? ⟨w.heap.size, 0, none⟩ = some (.int .i64 f) := (hb4.cell (p := ⟨w.heap.size, 0, none⟩) hbk3).trans cc3_0
  have cc4_1 : w4.cell? ⟨w.heap.size, 1, none⟩ = some (.int .i64 t) := (hb4.cell (p := ⟨w.heap.size, 1, none⟩) hbk3).trans cc3_1
  have hbk4 : w.heap.size < w4.heap.size := (Nat.lt_of_lt_of_le hbk3 hb4.size)
  clear hb4
  go_wp2
  go_ret
  exact ⟨rfl, BB4.out⟩

set_option maxHeartbeats 1600000 in
theorem twice_no_s (va : Option Addr) (m c : Nat) (ss : List (Int × Int)) (f t : Int) (w : World) (hr : RdS w (.slice va m c) ss) (hR : rightB ss = true) (hS : spanB f t = false) :
    Calls Try.prog 8 #[.slice va m c, .agg #[.int .i64 f, .int .i64 t]] w (Yes w) := by
  have HQ1 : Hid (gapsE ss f t = ([], 1)) := by show _ = _; simp [gapsE, hR, hS]
  have HRt := Lib.hid hR
  have HSp := Lib.hid hS
  have B0 := Lib.hid ((Below.refl w.heap.size w).alloc (Nat.le_refl _) (.cells #[.int .i64 f, .int .i64 t] 34))
  have L1 := Lib.hid (hr.below B0.out)
  have x0 : (w.alloc (.cells #[.int .i64 f, .int .i64 t] 34)).cell? ⟨w.heap.size, 0, none⟩ = some (.int .i64 f) := by rw [World.cell?_alloc_at _ _ _ _ rfl]; rfl
  have x1 : (w.alloc (.cells #[.int .i64 f, .int .i64 t] 34)).cell? ⟨w.heap.size, 1, none⟩ = some (.int .i64 t) := by rw [World.cell?_alloc_at _ _ _ _ rfl]; rfl
  have hx : w.heap.size < (w.alloc (.cells #[.int .i64 f, .int .i64 t] 34)).heap.size := by simp
  clear hr hR hS
  go_enter Try.func8, Try.ntmps8
  go_wp2_with fail
  refine (gaps_any _ ss f t _ L1.out).mono ?_
  rw [HQ1.out]
  rintro e w2 ⟨v2, rfl, o2, hb2⟩
  have BB2 := Lib.hid (B0.out.trans (hb2.mono B0.out.size))
  have L2 := Lib.hid (L1.out.below hb2)
  have cc2_0 : w2.cell? ⟨w.heap.size, 0, none⟩ = some (.int .i64 f) := (hb2.cell (p := ⟨w.heap.size, 0, none⟩) hx).trans x0
  have cc2_1 : w2.cell? ⟨w.heap.size, 1, none⟩ = some (.int .i64 t) := (hb2.cell (p := ⟨w.heap.size, 1, none⟩) hx).trans x1
  have A2 := Lib.hid (o2.rd)
  have hbk2 : w.heap.size < w2.heap.size := (Nat.lt_of_lt_of_le hx hb2.size)
  clear hb2
  obtain ⟨a2, n2, c2, rfl⟩ : ∃ a n c, v2 = .slice a n c := by obtain ⟨a, c, h, _⟩ := o2.slice; exact ⟨a, _, c, h⟩
  clear o2
  go_wp2_with fail
  refine (rright_any _ ss _ L2.out).mono ?_
  rw [HRt.out]
  rintro e w3 ⟨rfl, hb3⟩
  have BB3 := Lib.hid (BB2.out.trans (hb3.mono BB2.out.size))
  have L3 := Lib.hid (L2.out.below hb3)
  have A3 := Lib.hid (A2.out.below hb3)
  have cc3_0 : w3.cell? ⟨w.heap.size, 0, none⟩ = some (.int .i64 f) := (hb3.cell (p := ⟨w.heap.size, 0, none⟩) hbk2).trans cc2_0
  have cc3_1 : w3.cell? ⟨w.heap.size, 1, none⟩ = some (.int .i64 t) := (hb3.cell (p := ⟨w.heap.size, 1, none⟩) hbk2).trans cc2_1
  have hbk3 : w.heap.size < w3.heap.size := (Nat.lt_of_lt_of_le hbk2 hb3.size)
  clear hb3
  go_wp2_with fail
  refine (rspan_b f t false _ HSp.out).mono ?_
  rintro e w9 ⟨rfl, hw9⟩
  obtain rfl : w3 = w9 := hw9.symm
  go_wp2_with fail
  refine (alive_any _).mono ?_
  rintro e w4 ⟨rfl, hb4⟩
  have BB4 := Lib.hid (BB3.out.trans (hb4.mono BB3.out.size))
  have L4 := Lib.hid (L3.out.below hb4)
  have A4 := Lib.hid (A3.out.below hb4)
  have cc4_0 : w4.cell? ⟨w.heap.size, 0, none⟩ = some (.int .i64 f) := (hb4.cell (p := ⟨w.heap.size, 0, none⟩) hbk3).trans cc3_0
  have cc4_1 : w4.cell? ⟨w.heap.size, 1, none⟩ = some (.int .i64 t) := (hb4.cell (p := ⟨w.heap.size, 1, none⟩) hbk3).trans cc3_1
  have hbk4 : w.heap.size < w4.heap.size := (Nat.lt_of_lt_of_le hbk3 hb4.size)
  clear hb4
  go_wp2
  go_ret
  exact ⟨rfl, BB4.out⟩

set_option maxHeartbeats 1600000 in
theorem twice_many (va : Option Addr) (m c : Nat) (ss : List (Int × Int)) (f t : Int) (w : World) (hr : RdS w (.slice va m c) ss) (hg : gapsE ss f t = (gapR t ss f, 0)) (hl : 256 < (gapR t ss f).length) :
    Calls Try.prog 8 #[.slice va m c, .agg #[.int .i64 f, .int .i64 t]] w (Yes w) := by
  have HQ1 := Lib.hid hg
  have B0 := Lib.hid ((Below.refl w.heap.size w).alloc (Nat.le_refl _) (.cells #[.int .i64 f, .int .i64 t] 34))
  have L1 := Lib.hid (hr.below B0.out)
  have x0 : (w.alloc (.cells #[.int .i64 f, .int .i64 t] 34)).cell? ⟨w.heap.size, 0, none⟩ = some (.int .i64 f) := by rw [World.cell?_alloc_at _ _ _ _ rfl]; rfl
  have x1 : (w.alloc (.cells #[.int .i64 f, .int .i64 t] 34)).cell? ⟨w.heap.size, 1, none⟩ = some (.int .i64 t) := by rw [World.cell?_alloc_at _ _ _ _ rfl]; rfl
  have hx : w.heap.size < (w.alloc (.cells #[.int .i64 f, .int .i64 t] 34)).heap.size := by simp
  obtain ⟨N, hN⟩ : ∃ N, N = (gapR t ss f).length := ⟨_, rfl⟩
  rw [← hN] at hl
  have HN := Lib.hid hN
  have d1 : decide (256 < (N : Int)) = true := decide_eq_true (by omega)
  clear hr hg hN hl
  go_enter Try.func8, Try.ntmps8
  go_wp2_with fail
  refine (gaps_any _ ss f t _ L1.out).mono ?_
  rw [HQ1.out]
  rintro e w2 ⟨v2, rfl, o2, hb2⟩
  have BB2 := Lib.hid (B0.out.trans (hb2.mono B0.out.size))
  have L2 := Lib.hid (L1.out.below hb2)
  have cc2_0 : w2.cell? ⟨w.heap.size, 0, none⟩ = some (.int .i64 f) := (hb2.cell (p := ⟨w.heap.size, 0, none⟩) hx).trans x0
  have cc2_1 : w2.cell? ⟨w.heap.size, 1, none⟩ = some (.int .i64 t) := (hb2.cell (p := ⟨w.heap.size, 1, none⟩) hx).trans x1
  have hbk2 : w.heap.size < w2.heap.size := (Nat.lt_of_lt_of_le hx hb2.size)
  clear hb2
  obtain ⟨a2, c2, rfl, _, _⟩ := o2.slice
  rw [← HN.out]
  clear o2
  go_wp2_with fail
  refine (alive_any _).mono ?_
  rintro e w3 ⟨rfl, hb3⟩
  have BB3 := Lib.hid (BB2.out.trans (hb3.mono BB2.out.size))
  have L3 := Lib.hid (L2.out.below hb3)
  have cc3_0 : w3.cell? ⟨w.heap.size, 0, none⟩ = some (.int .i64 f) := (hb3.cell (p := ⟨w.heap.size, 0, none⟩) hbk2).trans cc2_0
  have cc3_1 : w3.cell? ⟨w.heap.size, 1, none⟩ = some (.int .i64 t) := (hb3.cell (p := ⟨w.heap.size, 1, none⟩) hbk2).trans cc2_1
  have hbk3 : w.heap.size < w3.heap.size := (Nat.lt_of_lt_of_le hbk2 hb3.size)
  clear hb3
  go_wp2
  go_ret
  exact ⟨rfl, BB3.out⟩

set_option maxHeartbeats 6400000 in
theorem twice_yes (va : Option Addr) (m c : Nat) (ss A B : List (Int × Int)) (f t : Int) (w : World) (hr : RdS w (.slice va m c) ss) (hg : gapsE ss f t = (A, 0)) (hg2 : gapsE A f t = (B, 0)) (hl : A.length ≤ 256) (hft : 0 ≤ f ∧ f ≤ t ∧ t ≤ 4611686018427387903)
    (hsum : countI A + countI B = t - f + 1) (hc1 : 0 ≤ countI A ∧ countI A ≤ 4611686018427387905) (hc2 : 0 ≤ countI B ∧ countI B ≤ 4611686018427387905)
    (hd : ∀ s ∈ A, (rightB B && inB s.1 B) = false ∧ (rightB B && inB s.2 B) = false) (hi : ∀ s ∈ B, (rightB ss && inB s.1 ss) = true ∧ (rightB ss && inB s.2 ss) = true) :
    Calls Try.prog 8 #[.slice va m c, .agg #[.int .i64 f, .int .i64 t]] w (Yes w) := by
  have HQ1 := Lib.hid hg
  have HQ2 := Lib.hid hg2
  have HD := Lib.hid hd
  have HI := Lib.hid hi
  have B0 := Lib.hid ((Below.refl w.heap.size w).alloc (Nat.le_refl _) (.cells #[.int .i64 f, .int .i64 t] 34))
  have L1 := Lib.hid (hr.below B0.out)
  have x0 : (w.alloc (.cells #[.int .i64 f, .int .i64 t] 34)).cell? ⟨w.heap.size, 0, none⟩ = some (.int .i64 f) := by rw [World.cell?_alloc_at _ _ _ _ rfl]; rfl
  have x1 : (w.alloc (.cells #[.int .i64 f, .int .i64 t] 34)).cell? ⟨w.heap.size, 1, none⟩ = some (.int .i64 t) := by rw [World.cell?_alloc_at _ _ _ _ rfl]; rfl
  have hx : w.heap.size < (w.alloc (.cells #[.int .i64 f, .int .i64 t] 34)).heap.size := by simp
  obtain ⟨N, hN⟩ : ∃ N, N = A.length := ⟨_, rfl⟩
  rw [← hN] at hl
  have HN := Lib.hid hN
  have d1 : decide (256 < (N : Int)) = false := decide_eq_false (by omega)
  obtain ⟨k1, hk1⟩ : ∃ k, k = countI A := ⟨_, rfl⟩
  obtain ⟨k2, hk2⟩ : ∃ k, k = countI B := ⟨_, rfl⟩
  rw [← hk1] at hsum hc1
  rw [← hk2] at hsum hc2
  have HK1 := Lib.hid hk1
  have HK2 := Lib.hid hk2
  have hw1 : IntKind.i64.wrap (k1 + k2) = k1 + k2 := by rw [IntKind.wrap_i64]; omega
  have hw2 : IntKind.i64.wrap (t - f) = t - f := by rw [IntKind.wrap_i64]; omega
  have hw3 : IntKind.i64.wrap (t - f + 1) = t - f + 1 := by rw [IntKind.wrap_i64]; omega
  have heq : (k1 + k2 == t - f + 1) = true := by rw [hsum]; simp
  clear hr hg hg2 hN hk1 hk2 hd hi hsum
  go_enter Try.func8, Try.ntmps8
  go_wp2_with fail
  refine (gaps_any _ ss f t _ L1.out).mono ?_
  rw [HQ1.out]
  rintro e w2 ⟨v2, rfl, o2, hb2⟩
  have BB2 := Lib.hid (B0.out.trans (hb2.mono B0.out.size))
  have L2 := Lib.hid (L1.out.below hb2)
  have cc2_0 : w2.cell? ⟨w.heap.size, 0, none⟩ = some (.int .i64 f) := (hb2.cell (p := ⟨w.heap.size, 0, none⟩) hx).trans x0
  have cc2_1 : w2.cell? ⟨w.heap.size, 1, none⟩ = some (.int .i64 t) := (hb2.cell (p := ⟨w.heap.size, 1, none⟩) hx).trans x1
  have A2 := Lib.hid (o2.rd)
  have hbk2 : w.heap.size < w2.heap.size := (Nat.lt_of_lt_of_le hx hb2.size)
  clear hb2
  obtain ⟨a2, c2, rfl, _, _⟩ := o2.slice
  rw [← HN.out] at A2 ⊢
  clear o2
  go_wp2_with fail
  refine (gaps_any _ A f t _ A2.out).mono ?_
  rw [HQ2.out]
  rintro e w3 ⟨v3, rfl, o3, hb3⟩
  have BB3 := Lib.hid (BB2.out.trans (hb3.mono BB2.out.size))
  have L3 := Lib.hid (L2.out.below hb3)
  have A3 := Lib.hid (A2.out.below hb3)
  have cc3_0 : w3.cell? ⟨w.heap.size, 0, none⟩ = some (.int .i64 f) := (hb3.cell (p := ⟨w.heap.size, 0, none⟩) hbk2).trans cc2_0
  have cc3_1 : w3.cell? ⟨w.heap.size, 1, none⟩ = some (.int .i64 t) := (hb3.cell (p := ⟨w.heap.size, 1, none⟩) hbk2).trans cc2_1
  have B3 := Lib.hid (o3.rd)
  have hbk3 : w.heap.size < w3.heap.size := (Nat.lt_of_lt_of_le hbk2 hb3.size)
  clear hb3
  obtain ⟨a3, n3, c3, rfl⟩ : ∃ a n c, v3 = .slice a n c := by obtain ⟨a, c, h, _⟩ := o3.slice; exact ⟨a, _, c, h⟩
  clear o3
  go_wp2_with fail
  have y0 : w3.drew.cell? ⟨w.heap.size, 0, none⟩ = some (.int .i64 f) := cc3_0
  have y1 : w3.drew.cell? ⟨w.heap.size, 1, none⟩ = some (.int .i64 t) := cc3_1
  have BD : Hid (Below w.heap.size w w3.drew) := below_drewN BB3.out 1
  have AD : Hid (RdS w3.drew (.slice a2 N c2) A) := A3.out.below (below_drewN (Below.refl _ _) 1)
  have BBD : Hid (RdS w3.drew (.slice a3 n3 c3) B) := B3.out.below (below_drewN (Below.refl _ _) 1)
  have LD : Hid (RdS w3.drew (.slice va m c) ss) := L3.out.below (below_drewN (Below.refl _ _) 1)
  go_region_held3 (fun w' => w'.cell? ⟨w.heap.size, 0, none⟩ = some (.int .i64 f) ∧ w'.cell? ⟨w.heap.size, 1, none⟩ = some (.int .i64 t))
    (first
      | (exact ⟨y0, y1⟩)
      | (exact ⟨(h5.cell (p := ⟨w.heap.size, 0, none⟩) hbk3).trans y0, (h5.cell (p := ⟨w.heap.size, 1, none⟩) hbk3).trans y1⟩)
      | (exact ⟨(h6.cell (p := ⟨w.heap.size, 0, none⟩) hbk3).trans y0, (h6.cell (p := ⟨w.heap.size, 1, none⟩) hbk3).trans y1⟩)
      | (exact ⟨(h7.cell (p := ⟨w.heap.size, 0, none⟩) hbk3).trans y0, (h7.cell (p := ⟨w.heap.size, 1, none⟩) hbk3).trans y1⟩)
      | (exact ⟨(h8.cell (p := ⟨w.heap.size, 0, none⟩) hbk3).trans y0, (h8.cell (p := ⟨w.heap.size, 1, none⟩) hbk3).trans y1⟩)
      | (exact ⟨(h9.cell (p := ⟨w.heap.size, 0, none⟩) hbk3).trans y0, (h9.cell (p := ⟨w.heap.size, 1, none⟩) hbk3).trans y1⟩))
    (first
      | (go_at_call 14; ((with_reducible refine (count_any _ A _ AD.out).mono ?_)); rw [← HK1.out]; rintro e w5 ⟨rfl, h5⟩; have b5 := Lib.hid (BBD.out.below h5))
      | (go_at_call 14; ((with_reducible refine (count_any _ B _ b5.out).mono ?_)); rw [← HK2.out]; rintro e w6 ⟨rfl, h6'⟩; have h6 := h5.trans (h6'.mono h5.size); clear h6')
      | (go_at_call 27; refine (disjoint_ok _ _ A B _ (AD.out.below h6) (BBD.out.below h6) HD.out).mono ?_; rintro e w7 ⟨rfl, h7'⟩; have h7 := h6.trans (h7'.mono h6.size); clear h7')
      | (go_at_call 28; refine (within_ok _ _ B ss _ (BBD.out.below h7) (LD.out.below h7) HI.out).mono ?_; rintro e w8 ⟨rfl, h8'⟩; have h8 := h7.trans (h8'.mono h7.size); clear h8')
      | (go_at_call 16; refine (alive_any _).mono ?_; rintro e w9 ⟨rfl, h9'⟩; have h9 := h8.trans (h9'.mono h8.size); clear h9'))
  all_goals go_wp2
  all_goals go_ret
  all_goals exact ⟨rfl, BD.out.trans (h9.mono BD.out.size)⟩

theorem spansTwice_walk (v : Value) (ss : List (Int × Int)) (f t : Int) (w : World) (hr : RdS w v ss) :
    Calls Try.prog 8 #[v, .agg #[.int .i64 f, .int .i64 t]] w (Yes w) := by
  obtain ⟨va, c, rfl, _, _⟩ := hr.isSlice
  by_cases hR : rightB ss = true
  · by_cases hS : spanB f t = true
    · have hft : 0 ≤ f ∧ f ≤ t ∧ t ≤ 4611686018427387903 := by simpa [spanB] using hS
      have hg : gapsE ss f t = (gapR t ss f, 0) := by simp [gapsE, hR, hS]
      by_cases hl : (gapR t ss f).length ≤ 256
      · obtain ⟨h1, h2, h3, h4, h5⟩ := twice hR hS hl
        have hg2 : gapsE (gapR t ss f) f t = (gapR t (gapR t ss f) f, 0) := by simp [gapsE, h1, hS]
        have e1 : countI (gapR t ss f) = sumL (gapR t ss f) := by simp [countI, h1]
        have e2 : countI (gapR t (gapR t ss f) f) = sumL (gapR t (gapR t ss f) f) := by simp [countI, h2]
        have hA : riseB 0 (gapR t ss f) = true := by have := h1; simp only [rightB, Bool.and_eq_true] at this; exact this.2
        have hB : riseB 0 (gapR t (gapR t ss f) f) = true := by have := h2; simp only [rightB, Bool.and_eq_true] at this; exact this.2
        have s1 := sum_rise hA (by omega)
        have s2 := sum_rise hB (by omega)
        refine twice_yes va _ c ss _ _ f t w hr hg hg2 hl hft (by rw [e1, e2]; exact h3) (by rw [e1]; omega) (by rw [e2]; omega) (fun s hs => ?_) (fun s hs => ?_)
        · rw [h2, (h4 s hs).1, (h4 s hs).2]; exact ⟨rfl, rfl⟩
        · rw [hR, (h5 s hs).1, (h5 s hs).2]; exact ⟨rfl, rfl⟩
      · exact twice_many va _ c ss f t w hr hg (by omega)
    · exact twice_no_s va _ c ss f t w hr hR (Bool.eq_false_iff.2 hS)
  · exact twice_no_r va _ c ss f t w hr (Bool.eq_false_iff.2 hR)
end Go.Proofs.Yticbhdbpfpdofaa
