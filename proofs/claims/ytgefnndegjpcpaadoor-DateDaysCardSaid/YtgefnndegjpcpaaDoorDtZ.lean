/- Layer 16: the law Days. -/
import Derived.Test.YtgefnndegjpcpaaDoorDtV
import Derived.BigQuiet
import Derived.Deep.QuietTactic
import Derived.Deep.RegionHeld
set_option maxRecDepth 100000
set_option linter.unusedSimpArgs false
set_option linter.unusedVariables false
namespace Go.Proofs.YtgefnndegjpcpaaDoor
open Go.RowKit

set_option maxHeartbeats 8000000 in
theorem days_no (n : Int) (w : World) (ht : Tb w) (hn : inB n = false) : Calls Tryd.prog 6 #[.int .i64 n] w (Yes w) := by
  have BB := Lib.hid (Below.refl w.heap.size w)
  have TT := Lib.hid ht
  have AL := Lib.hid (fun W hW => alive_any W hW)
  have O1 := Lib.hid (fun W => of_no n W hn)
  clear hn ht
  go_enter Tryd.func6, Tryd.ntmps6
  go_wp2_with (first
    | (go_at_call 12; refine (O1.out _).mono ?_; rintro x w1 ⟨rfl, hb⟩; have BB := Lib.hid (BB.out.trans (hb.mono BB.out.size)); have TT := Lib.hid (TT.out.below hb); clear hb; have TT := Lib.hid (TT.out.below ((Below.refl _ w1).alloc (Nat.le_refl _) (.cells #[.int .i64 0, .int .i64 0, .int .i64 0, .int .i64 0, .int .i64 0, .int .i64 0] 27))); have BB := Lib.hid (BB.out.alloc BB.out.size (.cells #[.int .i64 0, .int .i64 0, .int .i64 0, .int .i64 0, .int .i64 0, .int .i64 0] 27)))
    | (go_at_call 17; refine (AL.out _ TT.out).mono ?_; rintro x w9 ⟨rfl, hb⟩; have BB := Lib.hid (BB.out.trans (hb.mono BB.out.size)); clear hb))
  go_ret
  exact ⟨rfl, BB.out⟩

set_option maxHeartbeats 8000000 in
theorem days_last (y m d h i s : Int) (n : Int) (w : World) (ht : Tb w) (hr : rightB ⟨y, m, d, h, i, s⟩ = true) (hn : numI ⟨y, m, d, h, i, s⟩ = n) (hl : n > 253402214399) : Calls Tryd.prog 6 #[.int .i64 n] w (Yes w) := by
  have BB := Lib.hid (Below.refl w.heap.size w)
  have TT := Lib.hid ht
  have AL := Lib.hid (fun W hW => alive_any W hW)
  have e1 : decide (n > 253402214399) = true := decide_eq_true hl
  have O1 := Lib.hid (fun W => of_yes y m d h i s n W hr hn)
  clear hr hn ht hl
  go_enter Tryd.func6, Tryd.ntmps6
  go_wp2_with (first
    | (go_at_call 12; refine (O1.out _).mono ?_; rintro x w1 ⟨rfl, hb⟩; have BB := Lib.hid (BB.out.trans (hb.mono BB.out.size)); have TT := Lib.hid (TT.out.below hb); clear hb; have TT := Lib.hid (TT.out.below ((Below.refl _ w1).alloc (Nat.le_refl _) (.cells #[.int .i64 y, .int .i64 m, .int .i64 d, .int .i64 h, .int .i64 i, .int .i64 s] 27))); have BB := Lib.hid (BB.out.alloc BB.out.size (.cells #[.int .i64 y, .int .i64 m, .int .i64 d, .int .i64 h, .int .i64 i, .int .i64 s] 27)))
    | (go_at_call 17; refine (AL.out _ TT.out).mono ?_; rintro x w9 ⟨rfl, hb⟩; have BB := Lib.hid (BB.out.trans (hb.mono BB.out.size)); clear hb))
  go_ret
  exact ⟨rfl, BB.out⟩

set_option maxHeartbeats 8000000 in
theorem days_same (y m d h i s : Int) (n wk : Int) (w : World) (ht : Tb w) (hl : ¬ n > 253402214399) (hw : wk = weekI n) (hw2 : weekI (n + 86400) = (wk + 1) % 7) (hn0 : -62167219200 ≤ n) (hb0 : 0 ≤ y ∧ y ≤ 9999 ∧ 1 ≤ m ∧ m ≤ 12 ∧ 1 ≤ d ∧ d ≤ 31) 
    (O1 : Hid (∀ W, Calls Tryd.prog 12 #[.int .i64 n] W fun e w' => e = .returned (.tuple #[.agg #[.int .i64 y, .int .i64 m, .int .i64 d, .int .i64 h, .int .i64 i, .int .i64 s], .int .i64 0]) ∧ Below W.heap.size W w'))
    (O2 : Hid (∀ W, Calls Tryd.prog 12 #[.int .i64 (n + 86400)] W fun e w' => e = .returned (.tuple #[.agg #[.int .i64 y, .int .i64 m, .int .i64 (d + 1), .int .i64 h, .int .i64 i, .int .i64 s], .int .i64 0]) ∧ Below W.heap.size W w')) :
    Calls Tryd.prog 6 #[.int .i64 n] w (Yes w) := by
  have BB := Lib.hid (Below.refl w.heap.size w)
  have TT := Lib.hid ht
  have AL := Lib.hid (fun W hW => alive_any W hW)
  have e1 : decide (n > 253402214399) = false := decide_eq_false hl
  have aw := wraps_i64' (n + 86400) (by omega) (by omega)
  have ⟨wk0, wk1⟩ := week_bounds n
  rw [← hw] at wk0 wk1
  have a2 := wraps_i64' (wk + 1) (by omega) (by omega)
  have a3 := wrem (wk + 1) 7 (by omega) (by omega) (by decide)
  have K1 := Lib.hid (fun W => week_any n W)
  have K2 := Lib.hid (fun W => week_any (n + 86400) W)
  rw [← hw] at K1
  rw [hw2] at K2
  have HK : Hid (wk = weekI n) := hw
  have wd := wraps_i64' (d + 1) (by omega) (by omega)
  have wm := wraps_i64' (m + 1) (by omega) (by omega)
  have wy := wraps_i64' (y + 1) (by omega) (by omega)
  have qm : (m == m + 1) = false := beq_eq_false_iff_ne.2 (by omega)
  have qm2 : (m + 1 == m) = false := beq_eq_false_iff_ne.2 (by omega)
  have qy : (y == y + 1) = false := beq_eq_false_iff_ne.2 (by omega)
  have qy2 : (y + 1 == y) = false := beq_eq_false_iff_ne.2 (by omega)
  generalize hq : (wk + 1) % 7 = z at K2 a3
  have qz : (z == z) = true := by simp
  clear hl hw hw2 hn0 hb0 ht wk0 wk1 hq
  obtain ⟨n2, hn2⟩ : ∃ n2, n + 86400 = n2 := ⟨_, rfl⟩
  rw [hn2] at O2 K2
  have a1 : IntKind.i64.wrap (n + 86400) = n2 := by rw [← hn2]; exact aw
  clear hn2 aw
  go_enter Tryd.func6, Tryd.ntmps6
  go_wp2_with (first
    | (go_at_call_of 12 (Value.int .i64 n); refine (O1.out _).mono ?_; rintro x w1 ⟨rfl, hb⟩; have BB := Lib.hid (BB.out.trans (hb.mono BB.out.size)); have TT := Lib.hid (TT.out.below hb); clear hb; have CA := Lib.hid (Cs.made w1 #[.int .i64 y, .int .i64 m, .int .i64 d, .int .i64 h, .int .i64 i, .int .i64 s] 27); have TT := Lib.hid (TT.out.below ((Below.refl _ w1).alloc (Nat.le_refl _) (.cells #[.int .i64 y, .int .i64 m, .int .i64 d, .int .i64 h, .int .i64 i, .int .i64 s] 27))); have BB := Lib.hid (BB.out.alloc BB.out.size (.cells #[.int .i64 y, .int .i64 m, .int .i64 d, .int .i64 h, .int .i64 i, .int .i64 s] 27)))
    | (go_at_call_of 12 (Value.int .i64 n2); refine (O2.out _).mono ?_; rintro x w2 ⟨rfl, hb⟩; have CA := Lib.hid (CA.out.below hb); have BB := Lib.hid (BB.out.trans (hb.mono BB.out.size)); have TT := Lib.hid (TT.out.below hb); clear hb; have CA := Lib.hid (CA.out.below ((Below.refl _ w2).alloc (Nat.le_refl _) (.cells #[.int .i64 y, .int .i64 m, .int .i64 (d + 1), .int .i64 h, .int .i64 i, .int .i64 s] 27))); have CB := Lib.hid (Cs.made w2 #[.int .i64 y, .int .i64 m, .int .i64 (d + 1), .int .i64 h, .int .i64 i, .int .i64 s] 27); have TT := Lib.hid (TT.out.below ((Below.refl _ w2).alloc (Nat.le_refl _) (.cells #[.int .i64 y, .int .i64 m, .int .i64 (d + 1), .int .i64 h, .int .i64 i, .int .i64 s] 27))); have BB := Lib.hid (BB.out.alloc BB.out.size (.cells #[.int .i64 y, .int .i64 m, .int .i64 (d + 1), .int .i64 h, .int .i64 i, .int .i64 s] 27)); obtain ⟨f0, f1, f2, f3, f4, f5⟩ := CA.out.six; obtain ⟨g0, g1, g2, g3, g4, g5⟩ := CB.out.six)
    | (go_at_call_of 15 (Value.int .i64 n); refine (K1.out _).mono ?_; rintro x w3 ⟨rfl, rfl⟩)
    | (go_at_call_of 15 (Value.int .i64 n2); refine (K2.out _).mono ?_; rintro x w4 ⟨rfl, rfl⟩)
    | (go_at_call 17; refine (AL.out _ TT.out).mono ?_; rintro x w9 ⟨rfl, hb⟩; have BB := Lib.hid (BB.out.trans (hb.mono BB.out.size)); clear hb))
  go_ret
  exact ⟨rfl, BB.out⟩

set_option maxHeartbeats 8000000 in
theorem days_month (y m d h i s : Int) (n wk : Int) (w : World) (ht : Tb w) (hl : ¬ n > 253402214399) (hw : wk = weekI n) (hw2 : weekI (n + 86400) = (wk + 1) % 7) (hn0 : -62167219200 ≤ n) (hb0 : 0 ≤ y ∧ y ≤ 9999 ∧ 1 ≤ m ∧ m ≤ 12 ∧ 1 ≤ d ∧ d ≤ 31) (hd : d ≥ 28)
    (O1 : Hid (∀ W, Calls Tryd.prog 12 #[.int .i64 n] W fun e w' => e = .returned (.tuple #[.agg #[.int .i64 y, .int .i64 m, .int .i64 d, .int .i64 h, .int .i64 i, .int .i64 s], .int .i64 0]) ∧ Below W.heap.size W w'))
    (O2 : Hid (∀ W, Calls Tryd.prog 12 #[.int .i64 (n + 86400)] W fun e w' => e = .returned (.tuple #[.agg #[.int .i64 y, .int .i64 (m + 1), .int .i64 1, .int .i64 h, .int .i64 i, .int .i64 s], .int .i64 0]) ∧ Below W.heap.size W w')) :
    Calls Tryd.prog 6 #[.int .i64 n] w (Yes w) := by
  have BB := Lib.hid (Below.refl w.heap.size w)
  have TT := Lib.hid ht
  have AL := Lib.hid (fun W hW => alive_any W hW)
  have e1 : decide (n > 253402214399) = false := decide_eq_false hl
  have aw := wraps_i64' (n + 86400) (by omega) (by omega)
  have ⟨wk0, wk1⟩ := week_bounds n
  rw [← hw] at wk0 wk1
  have a2 := wraps_i64' (wk + 1) (by omega) (by omega)
  have a3 := wrem (wk + 1) 7 (by omega) (by omega) (by decide)
  have K1 := Lib.hid (fun W => week_any n W)
  have K2 := Lib.hid (fun W => week_any (n + 86400) W)
  rw [← hw] at K1
  rw [hw2] at K2
  have HK : Hid (wk = weekI n) := hw
  have wd := wraps_i64' (d + 1) (by omega) (by omega)
  have wm := wraps_i64' (m + 1) (by omega) (by omega)
  have wy := wraps_i64' (y + 1) (by omega) (by omega)
  have qm : (m == m + 1) = false := beq_eq_false_iff_ne.2 (by omega)
  have qm2 : (m + 1 == m) = false := beq_eq_false_iff_ne.2 (by omega)
  have qy : (y == y + 1) = false := beq_eq_false_iff_ne.2 (by omega)
  have qy2 : (y + 1 == y) = false := beq_eq_false_iff_ne.2 (by omega)
  have e2 : decide (d ≥ 28) = true := decide_eq_true hd
  generalize hq : (wk + 1) % 7 = z at K2 a3
  have qz : (z == z) = true := by simp
  clear hl hw hw2 hn0 hb0 ht wk0 wk1 hq hd
  obtain ⟨n2, hn2⟩ : ∃ n2, n + 86400 = n2 := ⟨_, rfl⟩
  rw [hn2] at O2 K2
  have a1 : IntKind.i64.wrap (n + 86400) = n2 := by rw [← hn2]; exact aw
  clear hn2 aw
  go_enter Tryd.func6, Tryd.ntmps6
  go_wp2_with (first
    | (go_at_call_of 12 (Value.int .i64 n); refine (O1.out _).mono ?_; rintro x w1 ⟨rfl, hb⟩; have BB := Lib.hid (BB.out.trans (hb.mono BB.out.size)); have TT := Lib.hid (TT.out.below hb); clear hb; have CA := Lib.hid (Cs.made w1 #[.int .i64 y, .int .i64 m, .int .i64 d, .int .i64 h, .int .i64 i, .int .i64 s] 27); have TT := Lib.hid (TT.out.below ((Below.refl _ w1).alloc (Nat.le_refl _) (.cells #[.int .i64 y, .int .i64 m, .int .i64 d, .int .i64 h, .int .i64 i, .int .i64 s] 27))); have BB := Lib.hid (BB.out.alloc BB.out.size (.cells #[.int .i64 y, .int .i64 m, .int .i64 d, .int .i64 h, .int .i64 i, .int .i64 s] 27)))
    | (go_at_call_of 12 (Value.int .i64 n2); refine (O2.out _).mono ?_; rintro x w2 ⟨rfl, hb⟩; have CA := Lib.hid (CA.out.below hb); have BB := Lib.hid (BB.out.trans (hb.mono BB.out.size)); have TT := Lib.hid (TT.out.below hb); clear hb; have CA := Lib.hid (CA.out.below ((Below.refl _ w2).alloc (Nat.le_refl _) (.cells #[.int .i64 y, .int .i64 (m + 1), .int .i64 1, .int .i64 h, .int .i64 i, .int .i64 s] 27))); have CB := Lib.hid (Cs.made w2 #[.int .i64 y, .int .i64 (m + 1), .int .i64 1, .int .i64 h, .int .i64 i, .int .i64 s] 27); have TT := Lib.hid (TT.out.below ((Below.refl _ w2).alloc (Nat.le_refl _) (.cells #[.int .i64 y, .int .i64 (m + 1), .int .i64 1, .int .i64 h, .int .i64 i, .int .i64 s] 27))); have BB := Lib.hid (BB.out.alloc BB.out.size (.cells #[.int .i64 y, .int .i64 (m + 1), .int .i64 1, .int .i64 h, .int .i64 i, .int .i64 s] 27)); obtain ⟨f0, f1, f2, f3, f4, f5⟩ := CA.out.six; obtain ⟨g0, g1, g2, g3, g4, g5⟩ := CB.out.six)
    | (go_at_call_of 15 (Value.int .i64 n); refine (K1.out _).mono ?_; rintro x w3 ⟨rfl, rfl⟩)
    | (go_at_call_of 15 (Value.int .i64 n2); refine (K2.out _).mono ?_; rintro x w4 ⟨rfl, rfl⟩)
    | (go_at_call 17; refine (AL.out _ TT.out).mono ?_; rintro x w9 ⟨rfl, hb⟩; have BB := Lib.hid (BB.out.trans (hb.mono BB.out.size)); clear hb))
  go_ret
  exact ⟨rfl, BB.out⟩

set_option maxHeartbeats 8000000 in
theorem days_year (y m d h i s : Int) (n wk : Int) (w : World) (ht : Tb w) (hl : ¬ n > 253402214399) (hw : wk = weekI n) (hw2 : weekI (n + 86400) = (wk + 1) % 7) (hn0 : -62167219200 ≤ n) (hb0 : 0 ≤ y ∧ y ≤ 9999 ∧ 1 ≤ m ∧ m ≤ 12 ∧ 1 ≤ d ∧ d ≤ 31) (hm : m = 12) (hd : d = 31)
    (O1 : Hid (∀ W, Calls Tryd.prog 12 #[.int .i64 n] W fun e w' => e = .returned (.tuple #[.agg #[.int .i64 y, .int .i64 m, .int .i64 d, .int .i64 h, .int .i64 i, .int .i64 s], .int .i64 0]) ∧ Below W.heap.size W w'))
    (O2 : Hid (∀ W, Calls Tryd.prog 12 #[.int .i64 (n + 86400)] W fun e w' => e = .returned (.tuple #[.agg #[.int .i64 (y + 1), .int .i64 1, .int .i64 1, .int .i64 h, .int .i64 i, .int .i64 s], .int .i64 0]) ∧ Below W.heap.size W w')) :
    Calls Tryd.prog 6 #[.int .i64 n] w (Yes w) := by
  have BB := Lib.hid (Below.refl w.heap.size w)
  have TT := Lib.hid ht
  have AL := Lib.hid (fun W hW => alive_any W hW)
  have e1 : decide (n > 253402214399) = false := decide_eq_false hl
  have aw := wraps_i64' (n + 86400) (by omega) (by omega)
  have ⟨wk0, wk1⟩ := week_bounds n
  rw [← hw] at wk0 wk1
  have a2 := wraps_i64' (wk + 1) (by omega) (by omega)
  have a3 := wrem (wk + 1) 7 (by omega) (by omega) (by decide)
  have K1 := Lib.hid (fun W => week_any n W)
  have K2 := Lib.hid (fun W => week_any (n + 86400) W)
  rw [← hw] at K1
  rw [hw2] at K2
  have HK : Hid (wk = weekI n) := hw
  have wd := wraps_i64' (d + 1) (by omega) (by omega)
  have wm := wraps_i64' (m + 1) (by omega) (by omega)
  have wy := wraps_i64' (y + 1) (by omega) (by omega)
  have qm : (m == m + 1) = false := beq_eq_false_iff_ne.2 (by omega)
  have qm2 : (m + 1 == m) = false := beq_eq_false_iff_ne.2 (by omega)
  have qy : (y == y + 1) = false := beq_eq_false_iff_ne.2 (by omega)
  have qy2 : (y + 1 == y) = false := beq_eq_false_iff_ne.2 (by omega)
  subst hm hd
  generalize hq : (wk + 1) % 7 = z at K2 a3
  have qz : (z == z) = true := by simp
  clear hl hw hw2 hn0 hb0 ht wk0 wk1 hq
  obtain ⟨n2, hn2⟩ : ∃ n2, n + 86400 = n2 := ⟨_, rfl⟩
  rw [hn2] at O2 K2
  have a1 : IntKind.i64.wrap (n + 86400) = n2 := by rw [← hn2]; exact aw
  clear hn2 aw
  go_enter Tryd.func6, Tryd.ntmps6
  go_wp2_with (first
    | (go_at_call_of 12 (Value.int .i64 n); refine (O1.out _).mono ?_; rintro x w1 ⟨rfl, hb⟩; have BB := Lib.hid (BB.out.trans (hb.mono BB.out.size)); have TT := Lib.hid (TT.out.below hb); clear hb; have CA := Lib.hid (Cs.made w1 #[.int .i64 y, .int .i64 12, .int .i64 31, .int .i64 h, .int .i64 i, .int .i64 s] 27); have TT := Lib.hid (TT.out.below ((Below.refl _ w1).alloc (Nat.le_refl _) (.cells #[.int .i64 y, .int .i64 12, .int .i64 31, .int .i64 h, .int .i64 i, .int .i64 s] 27))); have BB := Lib.hid (BB.out.alloc BB.out.size (.cells #[.int .i64 y, .int .i64 12, .int .i64 31, .int .i64 h, .int .i64 i, .int .i64 s] 27)))
    | (go_at_call_of 12 (Value.int .i64 n2); refine (O2.out _).mono ?_; rintro x w2 ⟨rfl, hb⟩; have CA := Lib.hid (CA.out.below hb); have BB := Lib.hid (BB.out.trans (hb.mono BB.out.size)); have TT := Lib.hid (TT.out.below hb); clear hb; have CA := Lib.hid (CA.out.below ((Below.refl _ w2).alloc (Nat.le_refl _) (.cells #[.int .i64 (y + 1), .int .i64 1, .int .i64 1, .int .i64 h, .int .i64 i, .int .i64 s] 27))); have CB := Lib.hid (Cs.made w2 #[.int .i64 (y + 1), .int .i64 1, .int .i64 1, .int .i64 h, .int .i64 i, .int .i64 s] 27); have TT := Lib.hid (TT.out.below ((Below.refl _ w2).alloc (Nat.le_refl _) (.cells #[.int .i64 (y + 1), .int .i64 1, .int .i64 1, .int .i64 h, .int .i64 i, .int .i64 s] 27))); have BB := Lib.hid (BB.out.alloc BB.out.size (.cells #[.int .i64 (y + 1), .int .i64 1, .int .i64 1, .int .i64 h, .int .i64 i, .int .i64 s] 27)); obtain ⟨f0, f1, f2, f3, f4, f5⟩ := CA.out.six; obtain ⟨g0, g1, g2, g3, g4, g5⟩ := CB.out.six)
    | (go_at_call_of 15 (Value.int .i64 n); refine (K1.out _).mono ?_; rintro x w3 ⟨rfl, rfl⟩)
    | (go_at_call_of 15 (Value.int .i64 n2); refine (K2.out _).mono ?_; rintro x w4 ⟨rfl, rfl⟩)
    | (go_at_call 17; refine (AL.out _ TT.out).mono ?_; rintro x w9 ⟨rfl, hb⟩; have BB := Lib.hid (BB.out.trans (hb.mono BB.out.size)); clear hb))
  go_ret
  exact ⟨rfl, BB.out⟩

theorem days_walk (n : Int) (w : World) (ht : Tb w) : Calls Tryd.prog 6 #[.int .i64 n] w (Yes w) := by
  cases hin : inB n
  · exact days_no n w ht hin
  · obtain ⟨⟨y, m, d, h, i, s⟩, hr, hn⟩ := date_ex hin
    by_cases hl : n > 253402214399
    · exact days_last y m d h i s n w ht hr hn hl
    · have hin2 : inB (n + 86400) = true := by rw [in_iff] at hin ⊢; omega
      have hw2 := week_next hin hin2
      have h1 := next_right hr (by rw [hn]; omega)
      have h2 := next_num hr
      rw [hn] at h2
      have ⟨⟨y1, y2, m1, m2, d1, d2⟩, _⟩ := right_iff.1 hr
      simp only at y1 y2 m1 m2 d1 d2
      have hdb := dim_bound y m
      have O1 := Lib.hid (fun W => of_yes y m d h i s n W hr hn)
      have O2 := Lib.hid (fun W => of_at W h1 h2)
      have hn0 := (in_iff.1 hin).1
      have hb0 : 0 ≤ y ∧ y ≤ 9999 ∧ 1 ≤ m ∧ m ≤ 12 ∧ 1 ≤ d ∧ d ≤ 31 := by omega
      by_cases c1 : d < dim y m
      · have e : nextD ⟨y, m, d, h, i, s⟩ = ⟨y, m, d + 1, h, i, s⟩ := by unfold nextD; rw [if_pos c1]
        rw [e] at O2
        exact days_same y m d h i s n _ w ht hl rfl hw2 hn0 hb0 O1 O2
      · by_cases c2 : m < 12
        · have e : nextD ⟨y, m, d, h, i, s⟩ = ⟨y, m + 1, 1, h, i, s⟩ := by unfold nextD; rw [if_neg c1, if_pos c2]
          rw [e] at O2
          exact days_month y m d h i s n _ w ht hl rfl hw2 hn0 hb0 (by omega) O1 O2
        · have e : nextD ⟨y, m, d, h, i, s⟩ = ⟨y + 1, 1, 1, h, i, s⟩ := by unfold nextD; rw [if_neg c1, if_neg c2]
          rw [e] at O2
          have hm : m = 12 := by omega
          have hd : d = 31 := by
            have : dim y 12 = 31 := by unfold dim; rw [if_neg (by decide), if_neg (by decide)]
            rw [hm, this] at c1 d2
            omega
          exact days_year y m d h i s n _ w ht hl rfl hw2 hn0 hb0 hm hd O1 O2
end Go.Proofs.YtgefnndegjpcpaaDoor
