/- Walks of layer 16: a number's date. -/
import Derived.Test.YtgefnndegjpcpaaDoorDtD0
set_option maxRecDepth 100000
set_option linter.unusedSimpArgs false
set_option linter.unusedVariables false
namespace Go.Proofs.YtgefnndegjpcpaaDoor
open Go.RowKit

theorem Cs.free6 {w : World} {g : Nat} {cs : List Value} (h : Cs w g cs) : w.frozen? ⟨g, 0, none⟩ = false ∧ w.frozen? ⟨g, 1, none⟩ = false ∧ w.frozen? ⟨g, 2, none⟩ = false ∧ w.frozen? ⟨g, 3, none⟩ = false ∧ w.frozen? ⟨g, 4, none⟩ = false ∧ w.frozen? ⟨g, 5, none⟩ = false :=
  ⟨h.free 0, h.free 1, h.free 2, h.free 3, h.free 4, h.free 5⟩
theorem below_six {w w' : World} {B : Nat} (h : Below B w w') (b : Nat) (hb : B ≤ b) (x0 x1 x2 x3 x4 x5 : Value) :
    Below B w ((((((w'.setCell ⟨b, 0, none⟩ x0).setCell ⟨b, 1, none⟩ x1).setCell ⟨b, 2, none⟩ x2).setCell ⟨b, 3, none⟩ x3).setCell ⟨b, 4, none⟩ x4).setCell ⟨b, 5, none⟩ x5) :=
  (((((h.setCell (p := ⟨b, 0, none⟩) hb _).setCell (p := ⟨b, 1, none⟩) hb _).setCell (p := ⟨b, 2, none⟩) hb _).setCell (p := ⟨b, 3, none⟩) hb _).setCell (p := ⟨b, 4, none⟩) hb _).setCell (p := ⟨b, 5, none⟩) hb _

set_option maxHeartbeats 4000000 in
theorem of_no (n : Int) (w : World) (hn : inB n = false) :
    Calls Tryd.prog 12 #[.int .i64 n] w fun e w' => e = .returned (.tuple #[.agg #[.int .i64 0, .int .i64 0, .int .i64 0, .int .i64 0, .int .i64 0, .int .i64 0], .int .i64 1]) ∧ Below w.heap.size w w' := by
  have IN := Lib.hid (fun W => inside_b hn W)
  clear hn
  go_enter Tryd.func12, Tryd.ntmps12
  go_wp2_with (go_at_call 28; refine (IN.out _).mono ?_; rintro x w2 ⟨rfl, rfl⟩)
  exact bodyPost_ret (v := .tuple #[.agg #[.int .i64 0, .int .i64 0, .int .i64 0, .int .i64 0, .int .i64 0, .int .i64 0], .int .i64 1]) (by simp [results, Tryd.results12, go_sem]) rfl ⟨rfl, (Below.refl _ w).alloc (Nat.le_refl _) _⟩

set_option maxHeartbeats 4000000 in
theorem of_yes (y m d h i s : Int) (n : Int) (w : World) (hr : rightB ⟨y, m, d, h, i, s⟩ = true) (hn : numI ⟨y, m, d, h, i, s⟩ = n) :
    Calls Tryd.prog 12 #[.int .i64 n] w fun e w' => e = .returned (.tuple #[.agg #[.int .i64 y, .int .i64 m, .int .i64 d, .int .i64 h, .int .i64 i, .int .i64 s], .int .i64 0]) ∧ Below w.heap.size w w' := by
  have ⟨⟨y1, y2, m1, m2, d1, d2⟩, h1, h2, i1, i2, s1, s2⟩ := right_iff.1 hr
  have hin := num_in hr
  have hdy := day_in hr
  rw [hn] at hin
  simp only [numI, dayI, secI] at hn
  simp only at y1 y2 m1 m2 d1 d2 h1 h2 i1 i2 s1 s2 hdy
  have IN := Lib.hid (fun W => inside_b hin W)
  rw [in_iff] at hin
  have hyn := year_next y
  have hyb := year_bounds y1 y2
  have st := mon_step y m m1
  have hrr : toYear y + (toMon y (m - 1).toNat + (d - 1)) < toYear (y + 1) := by omega
  have YO := Lib.hid (fun W => yearOf_any y (toMon y (m - 1).toNat + (d - 1)) W y1 y2 (by omega) hrr)
  have TY := Lib.hid (fun W => toYear_any y W y1 (by omega))
  have MO := Lib.hid (fun W => monthOf_any y m (toMon y (m - 1).toNat + (d - 1)) W y1 y2 m1 m2 (by omega) (by omega))
  have TM := Lib.hid (fun W => toMon_any y m W y1 y2 m1 m2)
  have hdb := dim_bound y m
  have hM0 := mon_nonneg y (m - 1).toNat
  have hM1 := mon_le y (k := (m - 1).toNat) (by omega)
  clear hrr hyn st hdy hr
  generalize toMon y (m - 1).toNat = M at *
  generalize toYear y = Y at *
  obtain ⟨r, hR⟩ : ∃ r, M + (d - 1) = r := ⟨_, rfl⟩
  rw [hR] at YO MO
  obtain ⟨A, hA⟩ : ∃ A, Y + r = A := ⟨_, rfl⟩
  rw [hA] at YO
  have a1 := wraps_i64' (n + 62167219200) (by omega) (by omega)
  have a2 : IntKind.i64.wrap ((n + 62167219200).tdiv 86400) = A := by rw [wquo _ _ (by omega) (by omega) (by decide)]; omega
  have a3 : (n + 62167219200).tmod 86400 = h * 3600 + i * 60 + s := by rw [wrem _ _ (by omega) (by omega) (by decide)]; omega
  obtain ⟨z, hz⟩ : ∃ z, h * 3600 + i * 60 + s = z := ⟨_, rfl⟩
  rw [hz] at a3
  have a4 : IntKind.i64.wrap (A - Y) = r := by rw [wraps_i64' _ (by omega) (by omega)]; omega
  have a5 : IntKind.i64.wrap (r - M) = d - 1 := by rw [wraps_i64' _ (by omega) (by omega)]; omega
  have a6 : IntKind.i64.wrap d = d := wraps_i64' _ (by omega) (by omega)
  have a7 : IntKind.i64.wrap (z.tdiv 3600) = h := by rw [wquo _ _ (by omega) (by omega) (by decide)]; omega
  have a8 : IntKind.i64.wrap (z.tdiv 60) = z / 60 := by rw [wquo _ _ (by omega) (by omega) (by decide)]
  have a9 : (z / 60).tmod 60 = i := by rw [wrem _ _ (by omega) (by omega) (by decide)]; omega
  have a10 : z.tmod 60 = s := by rw [wrem _ _ (by omega) (by omega) (by decide)]; omega
  have BB := Lib.hid ((Below.refl w.heap.size w).alloc (Nat.le_refl _) (.cells #[.int .i64 0, .int .i64 0, .int .i64 0, .int .i64 0, .int .i64 0, .int .i64 0] 27))
  have CC := Lib.hid (Cs.made w #[.int .i64 0, .int .i64 0, .int .i64 0, .int .i64 0, .int .i64 0, .int .i64 0] 27)
  clear y1 y2 m1 m2 d1 d2 h1 h2 i1 i2 s1 s2 hn hin hyb hdb hM0 hM1 hR hA hz
  go_enter Tryd.func12, Tryd.ntmps12
  go_wp2_with (first
    | (go_at_call 28; refine (IN.out _).mono ?_; rintro x w2 ⟨rfl, rfl⟩)
    | (go_at_call 29; refine (YO.out _).mono ?_; rintro x w2 ⟨rfl, rfl⟩)
    | (go_at_call 23; refine (TY.out _).mono ?_; rintro x w2 ⟨rfl, rfl⟩)
    | (go_at_call 30; refine (MO.out _).mono ?_; rintro x w2 ⟨rfl, hb⟩; have BB := Lib.hid (BB.out.trans (hb.mono BB.out.size)); have CC := Lib.hid (CC.out.below hb); clear hb)
    | (go_at_call 24; refine (TM.out _).mono ?_; rintro x w3 ⟨rfl, hb⟩; have BB := Lib.hid (BB.out.trans (hb.mono BB.out.size)); have CC := Lib.hid (CC.out.below hb); clear hb; obtain ⟨c0, c1, c2, c3, c4, c5⟩ := CC.out.six; obtain ⟨f0, f1, f2, f3, f4, f5⟩ := CC.out.free6))
  exact bodyPost_ret (v := .tuple #[.agg #[.int .i64 y, .int .i64 m, .int .i64 d, .int .i64 h, .int .i64 i, .int .i64 s], .int .i64 0]) (by simp [results, Tryd.results12, go_sem, c0, c1, c2, c3, c4, c5]) rfl ⟨rfl, below_six BB.out _ (Nat.le_refl _) _ _ _ _ _ _⟩
theorem of_at {t : Dt} {n : Int} (w : World) (hr : rightB t = true) (hn : numI t = n) :
    Calls Tryd.prog 12 #[.int .i64 n] w fun e w' => e = .returned (.tuple #[.agg #[.int .i64 t.y, .int .i64 t.m, .int .i64 t.d, .int .i64 t.h, .int .i64 t.i, .int .i64 t.s], .int .i64 0]) ∧ Below w.heap.size w w' := of_yes t.y t.m t.d t.h t.i t.s n w hr hn
end Go.Proofs.YtgefnndegjpcpaaDoor
