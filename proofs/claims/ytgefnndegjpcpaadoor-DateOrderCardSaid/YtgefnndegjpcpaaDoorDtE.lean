/- Walks of layer 16: a date's number. -/
import Derived.Test.YtgefnndegjpcpaaDoorDtD
set_option maxRecDepth 100000
set_option linter.unusedSimpArgs false
set_option linter.unusedVariables false
namespace Go.Proofs.YtgefnndegjpcpaaDoor
open Go.RowKit

theorem isDate_b {y m d h i s : Int} {b : Bool} (hb : rightB ⟨y, m, d, h, i, s⟩ = b) (w : World) :
    Calls Tryd.prog 22 #[.agg #[.int .i64 y, .int .i64 m, .int .i64 d, .int .i64 h, .int .i64 i, .int .i64 s]] w fun e w' => e = .returned (.bool b) ∧ Below w.heap.size w w' := by
  rw [← hb]
  exact isDate_any ⟨y, m, d, h, i, s⟩ w

set_option maxHeartbeats 4000000 in
theorem number_no (y m d h i s : Int) (w : World) (hr : rightB ⟨y, m, d, h, i, s⟩ = false) :
    Calls Tryd.prog 9 #[.agg #[.int .i64 y, .int .i64 m, .int .i64 d, .int .i64 h, .int .i64 i, .int .i64 s]] w fun e w' => e = .returned (.tuple #[.int .i64 0, .int .i64 1]) ∧ Below w.heap.size w w' := by
  have BB := Lib.hid ((Below.refl w.heap.size w).alloc (Nat.le_refl _) (.cells #[.int .i64 y, .int .i64 m, .int .i64 d, .int .i64 h, .int .i64 i, .int .i64 s] 27))
  have IS := Lib.hid (fun W => isDate_b hr W)
  clear hr
  go_enter Tryd.func9, Tryd.ntmps9
  go_wp2_with (go_at_call 22; refine (IS.out _).mono ?_; rintro x w2 ⟨rfl, hb⟩; have BB := Lib.hid (BB.out.trans (hb.mono BB.out.size)); clear hb)
  go_ret2
  exact ⟨rfl, BB.out⟩

set_option maxHeartbeats 4000000 in
theorem number_yes (y m d h i s : Int) (w : World) (hr : rightB ⟨y, m, d, h, i, s⟩ = true) :
    Calls Tryd.prog 9 #[.agg #[.int .i64 y, .int .i64 m, .int .i64 d, .int .i64 h, .int .i64 i, .int .i64 s]] w fun e w' => e = .returned (.tuple #[.int .i64 (numI ⟨y, m, d, h, i, s⟩), .int .i64 0]) ∧ Below w.heap.size w w' := by
  have BB := Lib.hid ((Below.refl w.heap.size w).alloc (Nat.le_refl _) (.cells #[.int .i64 y, .int .i64 m, .int .i64 d, .int .i64 h, .int .i64 i, .int .i64 s] 27))
  have CC := Lib.hid (Cs.made w #[.int .i64 y, .int .i64 m, .int .i64 d, .int .i64 h, .int .i64 i, .int .i64 s] 27)
  have IS := Lib.hid (fun W => isDate_b hr W)
  have ⟨⟨y1, y2, m1, m2, d1, d2⟩, h1, h2, i1, i2, s1, s2⟩ := right_iff.1 hr
  simp only at y1 y2 m1 m2 d1 d2 h1 h2 i1 i2 s1 s2
  have TY := Lib.hid (fun W => toYear_any y W y1 (by omega))
  have TM := Lib.hid (fun W => toMon_any y m W y1 y2 m1 m2)
  have yb := year_bounds y1 y2
  have mb0 := mon_nonneg y (m - 1).toNat
  have mb1 := mon_le y (k := (m - 1).toNat) (by omega)
  have db := dim_bound y m
  have hN : numI ⟨y, m, d, h, i, s⟩ = -62167219200 + (toYear y + toMon y (m - 1).toNat + d - 1) * 86400 + h * 3600 + i * 60 + s := by
    simp only [numI, dayI, secI]; omega
  rw [hN]
  generalize toYear y = Y at TY yb ⊢
  generalize toMon y (m - 1).toNat = M at TM mb0 mb1 ⊢
  have a1 := wraps_i64' (Y + M) (by omega) (by omega)
  have a2 := wraps_i64' (Y + M + d) (by omega) (by omega)
  have a3 := wraps_i64' (Y + M + d - 1) (by omega) (by omega)
  have hDD : ∃ DD, DD = Y + M + d - 1 := ⟨_, rfl⟩
  have a4 := wraps_i64' ((Y + M + d - 1) * 86400) (by omega) (by omega)
  have a5 := wraps_i64' (-62167219200 + (Y + M + d - 1) * 86400) (by omega) (by omega)
  have a6 := wraps_i64' (h * 3600) (by omega) (by omega)
  have a7 := wraps_i64' (-62167219200 + (Y + M + d - 1) * 86400 + h * 3600) (by omega) (by omega)
  have a8 := wraps_i64' (i * 60) (by omega) (by omega)
  have a9 := wraps_i64' (-62167219200 + (Y + M + d - 1) * 86400 + h * 3600 + i * 60) (by omega) (by omega)
  have a10 := wraps_i64' (-62167219200 + (Y + M + d - 1) * 86400 + h * 3600 + i * 60 + s) (by omega) (by omega)
  clear hr hN y1 y2 m1 m2 d1 d2 h1 h2 i1 i2 s1 s2 yb mb0 mb1 db hDD
  go_enter Tryd.func9, Tryd.ntmps9
  go_wp2_with (go_at_call 22; refine (IS.out _).mono ?_; rintro x w2 ⟨rfl, hb⟩; have CC := Lib.hid (CC.out.below hb).drew; have BB := Lib.hid (BB.out.trans (hb.mono BB.out.size)).drew; clear hb)
  obtain ⟨c0, c1, c2, c3, c4, c5⟩ := CC.out.six
  go_region_held (fun W => W.cell? ⟨w.heap.size, 0, none⟩ = some (.int .i64 y) ∧ W.cell? ⟨w.heap.size, 1, none⟩ = some (.int .i64 m) ∧ W.cell? ⟨w.heap.size, 2, none⟩ = some (.int .i64 d) ∧ W.cell? ⟨w.heap.size, 3, none⟩ = some (.int .i64 h) ∧ W.cell? ⟨w.heap.size, 4, none⟩ = some (.int .i64 i) ∧ W.cell? ⟨w.heap.size, 5, none⟩ = some (.int .i64 s))
    (first
      | (exact ⟨c0, c1, c2, c3, c4, c5⟩))
    (first
      | (go_at_call 23; refine (TY.out _).mono ?_; rintro e wn ⟨rfl, rfl⟩)
      | (go_at_call 24; refine (TM.out _).mono ?_; rintro e wn ⟨rfl, bn⟩; have CC := Lib.hid (CC.out.below bn); have BB := Lib.hid (BB.out.trans (bn.mono BB.out.size)); clear bn; obtain ⟨c0, c1, c2, c3, c4, c5⟩ := CC.out.six))
  all_goals
    go_wp2
    go_ret2
    exact ⟨rfl, BB.out⟩
theorem numE_yes {t : Dt} (h : rightB t = true) : numE t = (numI t, 0) := by rw [numE, if_pos h]
theorem numE_no {t : Dt} (h : rightB t = false) : numE t = (0, 1) := by rw [numE, h]; rfl
theorem number_any (t : Dt) (w : World) :
    Calls Tryd.prog 9 #[.agg #[.int .i64 t.y, .int .i64 t.m, .int .i64 t.d, .int .i64 t.h, .int .i64 t.i, .int .i64 t.s]] w fun e w' => e = .returned (.tuple #[.int .i64 (numE t).1, .int .i64 (numE t).2]) ∧ Below w.heap.size w w' := by
  cases h : rightB t
  · rw [numE_no h]; exact number_no _ _ _ _ _ _ w h
  · rw [numE_yes h]; exact number_yes _ _ _ _ _ _ w h
end Go.Proofs.YtgefnndegjpcpaaDoor
