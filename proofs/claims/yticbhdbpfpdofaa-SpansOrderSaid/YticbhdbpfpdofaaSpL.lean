/- The laws of layer 5: Tells, Turns, Cuts. -/
import Derived.Test.YticbhdbpfpdofaaSpI
import Derived.Test.YticbhdbpfpdofaaSpJ
import Derived.Test.YticbhdbpfpdofaaSpK
set_option linter.unusedSimpArgs false
set_option linter.unusedVariables false
namespace Go.Proofs.Yticbhdbpfpdofaa
open Go.RowKit
theorem same_lists (l : List (Int × Int)) : decide (l = l) = true := decide_eq_true rfl

set_option maxHeartbeats 1600000 in
theorem spansTells_walk (v : Value) (ss : List (Int × Int)) (n : Int) (w : World) (hr : RdS w v ss) :
    Calls Try.prog 3 #[v, .int .i64 n] w (Yes w) := by
  obtain ⟨va, c, rfl, _, _⟩ := hr.isSlice
  have L1 := Lib.hid hr
  have B0 := Lib.hid (Below.refl w.heap.size w)
  generalize hq1 : rightB ss = r1
  generalize hq3 : countI ss = r3
  have HQ1 := Lib.hid hq1
  have HQ3 := Lib.hid hq3
  generalize hq2 : (rightB ss && inB n ss) = r2
  have HQ2 := Lib.hid hq2
  clear hr hq1 hq2 hq3
  go_enter Try.func3, Try.ntmps3
  go_wp2_with fail
  refine (right_any _ ss _ L1.out).mono ?_
  rw [HQ1.out]
  rintro e w2 ⟨rfl, hb2⟩
  have BB2 := Lib.hid (B0.out.trans (hb2.mono B0.out.size))
  have L2 := Lib.hid (L1.out.below hb2)
  clear hb2
  go_wp2_with fail
  refine (rright_any _ ss _ L2.out).mono ?_
  rw [HQ1.out]
  rintro e w3 ⟨rfl, hb3⟩
  have BB3 := Lib.hid (BB2.out.trans (hb3.mono BB2.out.size))
  have L3 := Lib.hid (L2.out.below hb3)
  clear hb3
  go_wp2_with fail
  refine (has_any _ ss n _ L3.out).mono ?_
  rw [HQ2.out]
  rintro e w4 ⟨rfl, hb4⟩
  have BB4 := Lib.hid (BB3.out.trans (hb4.mono BB3.out.size))
  have L4 := Lib.hid (L3.out.below hb4)
  clear hb4
  go_wp2_with fail
  refine (rhas_any _ ss n _ L4.out).mono ?_
  rw [HQ2.out]
  rintro e w5 ⟨rfl, hb5⟩
  have BB5 := Lib.hid (BB4.out.trans (hb5.mono BB4.out.size))
  have L5 := Lib.hid (L4.out.below hb5)
  clear hb5
  go_wp2_with fail
  refine (count_any _ ss _ L5.out).mono ?_
  rw [HQ3.out]
  rintro e w6 ⟨rfl, hb6⟩
  have BB6 := Lib.hid (BB5.out.trans (hb6.mono BB5.out.size))
  have L6 := Lib.hid (L5.out.below hb6)
  clear hb6
  go_wp2_with fail
  refine (rcount_any _ ss _ L6.out).mono ?_
  rw [HQ3.out]
  rintro e w7 ⟨rfl, hb7⟩
  have BB7 := Lib.hid (BB6.out.trans (hb7.mono BB6.out.size))
  have L7 := Lib.hid (L6.out.below hb7)
  clear hb7
  go_wp2_with fail
  refine (alive_any _).mono ?_
  rintro e w8 ⟨rfl, hb8⟩
  have BB8 := Lib.hid (BB7.out.trans (hb8.mono BB7.out.size))
  have L8 := Lib.hid (L7.out.below hb8)
  clear hb8
  go_wp2
  go_ret
  exact ⟨rfl, BB8.out⟩

set_option maxHeartbeats 1600000 in
theorem spansTurns_walk (v : Value) (ss : List (Int × Int)) (f t : Int) (w : World) (hr : RdS w v ss) :
    Calls Try.prog 4 #[v, .int .i64 f, .int .i64 t] w (Yes w) := by
  obtain ⟨va, c, rfl, _, _⟩ := hr.isSlice
  have L1 := Lib.hid hr
  have B0 := Lib.hid (Below.refl w.heap.size w)
  generalize hq1 : addE ss f t = q1
  generalize hq2 : takeE ss f t = q2
  obtain ⟨l1, c1⟩ := q1
  obtain ⟨l2, c2⟩ := q2
  have HQ1 := Lib.hid hq1
  have HQ2 := Lib.hid hq2
  clear hr hq1 hq2
  go_enter Try.func4, Try.ntmps4
  go_wp2_with fail
  refine (add_any _ ss f t _ L1.out).mono ?_
  rw [HQ1.out]
  rintro e w2 ⟨v2, rfl, o2, hb2⟩
  have BB2 := Lib.hid (B0.out.trans (hb2.mono B0.out.size))
  have L2 := Lib.hid (L1.out.below hb2)
  have A2 := Lib.hid (o2.rd)
  clear hb2
  obtain ⟨a2, n2, c2, rfl⟩ : ∃ a n c, v2 = .slice a n c := by obtain ⟨a, c, h, _⟩ := o2.slice; exact ⟨a, _, c, h⟩
  clear o2
  go_wp2_with fail
  refine (radd_any _ ss f t _ L2.out).mono ?_
  rw [HQ1.out]
  rintro e w3 ⟨v3, rfl, o3, hb3⟩
  have BB3 := Lib.hid (BB2.out.trans (hb3.mono BB2.out.size))
  have L3 := Lib.hid (L2.out.below hb3)
  have A3 := Lib.hid (A2.out.below hb3)
  have B3 := Lib.hid (o3.rd)
  clear hb3
  obtain ⟨a3, n3, c3, rfl⟩ : ∃ a n c, v3 = .slice a n c := by obtain ⟨a, c, h, _⟩ := o3.slice; exact ⟨a, _, c, h⟩
  clear o3
  go_wp2_with fail
  refine (take_any _ ss f t _ L3.out).mono ?_
  rw [HQ2.out]
  rintro e w4 ⟨v4, rfl, o4, hb4⟩
  have BB4 := Lib.hid (BB3.out.trans (hb4.mono BB3.out.size))
  have L4 := Lib.hid (L3.out.below hb4)
  have A4 := Lib.hid (A3.out.below hb4)
  have B4 := Lib.hid (B3.out.below hb4)
  have C4 := Lib.hid (o4.rd)
  clear hb4
  obtain ⟨a4, n4, c4, rfl⟩ : ∃ a n c, v4 = .slice a n c := by obtain ⟨a, c, h, _⟩ := o4.slice; exact ⟨a, _, c, h⟩
  clear o4
  go_wp2_with fail
  refine (rtake_any _ ss f t _ L4.out).mono ?_
  rw [HQ2.out]
  rintro e w5 ⟨v5, rfl, o5, hb5⟩
  have BB5 := Lib.hid (BB4.out.trans (hb5.mono BB4.out.size))
  have L5 := Lib.hid (L4.out.below hb5)
  have A5 := Lib.hid (A4.out.below hb5)
  have B5 := Lib.hid (B4.out.below hb5)
  have C5 := Lib.hid (C4.out.below hb5)
  have D5 := Lib.hid (o5.rd)
  clear hb5
  obtain ⟨a5, n5, c5, rfl⟩ : ∃ a n c, v5 = .slice a n c := by obtain ⟨a, c, h, _⟩ := o5.slice; exact ⟨a, _, c, h⟩
  clear o5
  go_wp2_with fail
  refine (rsame_any _ _ l1 l1 _ A5.out B5.out).mono ?_
  rw [same_lists]
  rintro e w6 ⟨rfl, hb6⟩
  have BB6 := Lib.hid (BB5.out.trans (hb6.mono BB5.out.size))
  have L6 := Lib.hid (L5.out.below hb6)
  have A6 := Lib.hid (A5.out.below hb6)
  have B6 := Lib.hid (B5.out.below hb6)
  have C6 := Lib.hid (C5.out.below hb6)
  have D6 := Lib.hid (D5.out.below hb6)
  clear hb6
  go_wp2_with fail
  refine (rsame_any _ _ l2 l2 _ C6.out D6.out).mono ?_
  rw [same_lists]
  rintro e w7 ⟨rfl, hb7⟩
  have BB7 := Lib.hid (BB6.out.trans (hb7.mono BB6.out.size))
  have L7 := Lib.hid (L6.out.below hb7)
  have A7 := Lib.hid (A6.out.below hb7)
  have B7 := Lib.hid (B6.out.below hb7)
  have C7 := Lib.hid (C6.out.below hb7)
  have D7 := Lib.hid (D6.out.below hb7)
  clear hb7
  go_wp2_with fail
  refine (alive_any _).mono ?_
  rintro e w8 ⟨rfl, hb8⟩
  have BB8 := Lib.hid (BB7.out.trans (hb8.mono BB7.out.size))
  have L8 := Lib.hid (L7.out.below hb8)
  have A8 := Lib.hid (A7.out.below hb8)
  have B8 := Lib.hid (B7.out.below hb8)
  have C8 := Lib.hid (C7.out.below hb8)
  have D8 := Lib.hid (D7.out.below hb8)
  clear hb8
  go_wp2
  go_ret
  exact ⟨rfl, BB8.out⟩

set_option maxHeartbeats 1600000 in
theorem spansCuts_walk (v : Value) (ss : List (Int × Int)) (n f t : Int) (w : World) (hr : RdS w v ss) (hn : n ≤ 9223372036854775807) :
    Calls Try.prog 5 #[v, .int .i64 n, .agg #[.int .i64 f, .int .i64 t]] w (Yes w) := by
  obtain ⟨va, c, rfl, _, _⟩ := hr.isSlice
  have B0 := Lib.hid ((Below.refl w.heap.size w).alloc (Nat.le_refl _) (.cells #[.int .i64 f, .int .i64 t] 34))
  have L1 := Lib.hid (hr.below B0.out)
  generalize hq1 : topE ss n = q1
  generalize hq2 : gapsE ss f t = q2
  obtain ⟨l1, c1⟩ := q1
  obtain ⟨l2, c2⟩ := q2
  have HQ1 := Lib.hid hq1
  have HQ2 := Lib.hid hq2
  have x0 : (w.alloc (.cells #[.int .i64 f, .int .i64 t] 34)).cell? ⟨w.heap.size, 0, none⟩ = some (.int .i64 f) := by rw [World.cell?_alloc_at _ _ _ _ rfl]; rfl
  have x1 : (w.alloc (.cells #[.int .i64 f, .int .i64 t] 34)).cell? ⟨w.heap.size, 1, none⟩ = some (.int .i64 t) := by rw [World.cell?_alloc_at _ _ _ _ rfl]; rfl
  have hx : w.heap.size < (w.alloc (.cells #[.int .i64 f, .int .i64 t] 34)).heap.size := by simp
  clear hr hq1 hq2
  go_enter Try.func5, Try.ntmps5
  go_wp2_with fail
  refine (top_any _ ss n _ L1.out hn).mono ?_
  rw [HQ1.out]
  rintro e w2 ⟨v2, rfl, o2, hb2⟩
  have BB2 := Lib.hid (B0.out.trans (hb2.mono B0.out.size))
  have L2 := Lib.hid (L1.out.below hb2)
  have cc2_0 : w2.cell? ⟨w.heap.size, 0, none⟩ = some (.int .i64 f) := (hb2.cell (p := ⟨w.heap.size, 0, none⟩) hx).trans x0
  have cc2_1 : w2.cell? ⟨w.heap.size, 1, none⟩ = some (.int .i64 t) := (hb2.cell (p := ⟨w.heap.size, 1, none⟩) hx).trans x1
  have A2 := Lib.hid (o2.rd)
  have hbk2 : w.heap.size < w2.heap.size := (Nat.lt_of_lt_of_le hx hb2.size)
  clear hb2
  obtain ⟨a2, n2, c2, rfl⟩ : ∃ a n c, v2 = .slice a n c := by obtain ⟨a, c, h, _⟩ := o2.slice; exact ⟨a, _, c, h⟩
  clear o2
  go_wp2_with fail
  refine (rtop_any _ ss n _ L2.out).mono ?_
  rw [HQ1.out]
  rintro e w3 ⟨v3, rfl, o3, hb3⟩
  have BB3 := Lib.hid (BB2.out.trans (hb3.mono BB2.out.size))
  have L3 := Lib.hid (L2.out.below hb3)
  have A3 := Lib.hid (A2.out.below hb3)
  have cc3_0 : w3.cell? ⟨w.heap.size, 0, none⟩ = some (.int .i64 f) := (hb3.cell (p := ⟨w.heap.size, 0, none⟩) hbk2).trans cc2_0
  have cc3_1 : w3.cell? ⟨w.heap.size, 1, none⟩ = some (.int .i64 t) := (hb3.cell (p := ⟨w.heap.size, 1, none⟩) hbk2).trans cc2_1
  have B3 := Lib.hid (o3.rd)
  have hbk3 : w.heap.size < w3.heap.size := (Nat.lt_of_lt_of_le hbk2 hb3.size)
  clear hb3
  obtain ⟨a3, n3, c3, rfl⟩ : ∃ a n c, v3 = .slice a n c := by obtain ⟨a, c, h, _⟩ := o3.slice; exact ⟨a, _, c, h⟩
  clear o3
  go_wp2_with fail
  refine (gaps_any _ ss f t _ L3.out).mono ?_
  rw [HQ2.out]
  rintro e w4 ⟨v4, rfl, o4, hb4⟩
  have BB4 := Lib.hid (BB3.out.trans (hb4.mono BB3.out.size))
  have L4 := Lib.hid (L3.out.below hb4)
  have A4 := Lib.hid (A3.out.below hb4)
  have B4 := Lib.hid (B3.out.below hb4)
  have cc4_0 : w4.cell? ⟨w.heap.size, 0, none⟩ = some (.int .i64 f) := (hb4.cell (p := ⟨w.heap.size, 0, none⟩) hbk3).trans cc3_0
  have cc4_1 : w4.cell? ⟨w.heap.size, 1, none⟩ = some (.int .i64 t) := (hb4.cell (p := ⟨w.heap.size, 1, none⟩) hbk3).trans cc3_1
  have C4 := Lib.hid (o4.rd)
  have hbk4 : w.heap.size < w4.heap.size := (Nat.lt_of_lt_of_le hbk3 hb4.size)
  clear hb4
  obtain ⟨a4, n4, c4, rfl⟩ : ∃ a n c, v4 = .slice a n c := by obtain ⟨a, c, h, _⟩ := o4.slice; exact ⟨a, _, c, h⟩
  clear o4
  go_wp2_with fail
  refine (rgaps_any _ ss f t _ L4.out).mono ?_
  rw [HQ2.out]
  rintro e w5 ⟨v5, rfl, o5, hb5⟩
  have BB5 := Lib.hid (BB4.out.trans (hb5.mono BB4.out.size))
  have L5 := Lib.hid (L4.out.below hb5)
  have A5 := Lib.hid (A4.out.below hb5)
  have B5 := Lib.hid (B4.out.below hb5)
  have C5 := Lib.hid (C4.out.below hb5)
  have cc5_0 : w5.cell? ⟨w.heap.size, 0, none⟩ = some (.int .i64 f) := (hb5.cell (p := ⟨w.heap.size, 0, none⟩) hbk4).trans cc4_0
  have cc5_1 : w5.cell? ⟨w.heap.size, 1, none⟩ = some (.int .i64 t) := (hb5.cell (p := ⟨w.heap.size, 1, none⟩) hbk4).trans cc4_1
  have D5 := Lib.hid (o5.rd)
  have hbk5 : w.heap.size < w5.heap.size := (Nat.lt_of_lt_of_le hbk4 hb5.size)
  clear hb5
  obtain ⟨a5, n5, c5, rfl⟩ : ∃ a n c, v5 = .slice a n c := by obtain ⟨a, c, h, _⟩ := o5.slice; exact ⟨a, _, c, h⟩
  clear o5
  go_wp2_with fail
  refine (rsame_any _ _ l1 l1 _ A5.out B5.out).mono ?_
  rw [same_lists]
  rintro e w6 ⟨rfl, hb6⟩
  have BB6 := Lib.hid (BB5.out.trans (hb6.mono BB5.out.size))
  have L6 := Lib.hid (L5.out.below hb6)
  have A6 := Lib.hid (A5.out.below hb6)
  have B6 := Lib.hid (B5.out.below hb6)
  have C6 := Lib.hid (C5.out.below hb6)
  have D6 := Lib.hid (D5.out.below hb6)
  clear hb6
  go_wp2_with fail
  refine (rsame_any _ _ l2 l2 _ C6.out D6.out).mono ?_
  rw [same_lists]
  rintro e w7 ⟨rfl, hb7⟩
  have BB7 := Lib.hid (BB6.out.trans (hb7.mono BB6.out.size))
  have L7 := Lib.hid (L6.out.below hb7)
  have A7 := Lib.hid (A6.out.below hb7)
  have B7 := Lib.hid (B6.out.below hb7)
  have C7 := Lib.hid (C6.out.below hb7)
  have D7 := Lib.hid (D6.out.below hb7)
  clear hb7
  go_wp2_with fail
  refine (alive_any _).mono ?_
  rintro e w8 ⟨rfl, hb8⟩
  have BB8 := Lib.hid (BB7.out.trans (hb8.mono BB7.out.size))
  have L8 := Lib.hid (L7.out.below hb8)
  have A8 := Lib.hid (A7.out.below hb8)
  have B8 := Lib.hid (B7.out.below hb8)
  have C8 := Lib.hid (C7.out.below hb8)
  have D8 := Lib.hid (D7.out.below hb8)
  clear hb8
  go_wp2
  go_ret
  exact ⟨rfl, BB8.out⟩
end Go.Proofs.Yticbhdbpfpdofaa
