/- Walks of layer 16: a number's text, by the document. -/
import Derived.Test.YtgefnndegjpcpaaDoorDtO
import Derived.Test.YtgefnndegjpcpaaDoorDtP
import Derived.Deep.RegionHeld
set_option maxRecDepth 100000
set_option linter.unusedSimpArgs false
set_option linter.unusedVariables false
namespace Go.Proofs.YtgefnndegjpcpaaDoor
open Go.RowKit

theorem slice_week (k : Int) (W : World) (k0 : 0 ≤ k) (k1 : k < 7) : (Instr.slice 9 (.string ⟨#[77, 111, 110, 84, 117, 101, 87, 101, 100, 84, 104, 117, 70, 114, 105, 83, 97, 116, 83, 117, 110]⟩) (some (.int .i64 (3 * k))) (some (.int .i64 (3 * k + 3))) none).run Tryd.prog W = .ok (.string (txt (wName k))) W := by
  obtain h | h | h | h | h | h | h : k = 0 ∨ k = 1 ∨ k = 2 ∨ k = 3 ∨ k = 4 ∨ k = 5 ∨ k = 6 := by omega
  all_goals subst h; kernel_rfl
theorem slice_mon (m : Int) (W : World) (m0 : 1 ≤ m) (m1 : m ≤ 12) : (Instr.slice 9 (.string ⟨#[74, 97, 110, 70, 101, 98, 77, 97, 114, 65, 112, 114, 77, 97, 121, 74, 117, 110, 74, 117, 108, 65, 117, 103, 83, 101, 112, 79, 99, 116, 78, 111, 118, 68, 101, 99]⟩) (some (.int .i64 (3 * (m - 1)))) (some (.int .i64 (3 * (m - 1) + 3))) none).run Tryd.prog W = .ok (.string (txt (mName m))) W := by
  obtain h | h | h | h | h | h | h | h | h | h | h | h : m = 1 ∨ m = 2 ∨ m = 3 ∨ m = 4 ∨ m = 5 ∨ m = 6 ∨ m = 7 ∨ m = 8 ∨ m = 9 ∨ m = 10 ∨ m = 11 ∨ m = 12 := by omega
  all_goals subst h; kernel_rfl

set_option maxHeartbeats 4000000 in
theorem rformat_no (n : Int) (w : World) (hn : inB n = false) :
    Calls Tryd.prog 19 #[.int .i64 n] w fun e w' => e = .returned (.tuple #[.string ⟨#[]⟩, .int .i64 1]) ∧ Below w.heap.size w w' := by
  have OF := Lib.hid (fun W => rof_no n W hn)
  have BB := Lib.hid (Below.refl w.heap.size w)
  clear hn
  go_enter Tryd.func19, Tryd.ntmps19
  go_wp2_with (go_at_call 13; refine (OF.out _).mono ?_; rintro x w2 ⟨rfl, hb⟩; have BB := Lib.hid (BB.out.trans (hb.mono BB.out.size)); clear hb)
  go_ret2
  exact ⟨rfl, BB.out.alloc BB.out.size _⟩

set_option maxHeartbeats 8000000 in
theorem rformat_yes (y m d h i s : Int) (n : Int) (w : World) (hr : rightB ⟨y, m, d, h, i, s⟩ = true) (hn : numI ⟨y, m, d, h, i, s⟩ = n) :
    Calls Tryd.prog 19 #[.int .i64 n] w fun e w' => e = .returned (.tuple #[.string (txt (fmtW (weekI n) ⟨y, m, d, h, i, s⟩)), .int .i64 0]) ∧ Below w.heap.size w w' := by
  have ⟨⟨y1, y2, m1, m2, d1, d2⟩, h1, h2, i1, i2, s1, s2⟩ := right_iff.1 hr
  simp only at y1 y2 m1 m2 d1 d2 h1 h2 i1 i2 s1 s2
  have hdb := dim_bound y m
  have OF := Lib.hid (fun W => rof_yes y m d h i s n W hr hn)
  have WK := Lib.hid (fun W => rweek_any n W)
  have DD := Lib.hid (fun W => rdigits_two d W (by omega) (by omega))
  have DY := Lib.hid (fun W => rdigits_four y W y1 (by omega))
  have DH := Lib.hid (fun W => rdigits_two h W h1 (by omega))
  have DI := Lib.hid (fun W => rdigits_two i W i1 (by omega))
  have DS := Lib.hid (fun W => rdigits_two s W s1 (by omega))
  have ⟨wk0, wk1⟩ := week_bounds n
  have BB := Lib.hid (Below.refl w.heap.size w)
  have gm := (mon_ok m1 m2).1
  have hE : fmtW (weekI n) ⟨y, m, d, h, i, s⟩ = wName (weekI n) ++ [44, 32] ++ two d ++ [32] ++ mName m ++ [32] ++ four y ++ [32] ++ two h ++ [58] ++ two i ++ [58] ++ two s ++ [32, 71, 77, 84] := rfl
  have hF := congrArg txt hE
  simp only [← txt_app] at hF
  rw [hF]
  clear hE hF hr hn
  generalize weekI n = wk at WK wk0 wk1 ⊢
  have k1 := wraps_i64' (3 * wk) (by omega) (by omega)
  have k2 := wraps_i64' (3 * wk + 3) (by omega) (by omega)
  have k3 := wraps_i64' (m - 1) (by omega) (by omega)
  have k4 := wraps_i64' (3 * (m - 1)) (by omega) (by omega)
  have k5 := wraps_i64' (3 * (m - 1) + 3) (by omega) (by omega)
  have xw := fun W => slice_week wk W wk0 wk1
  have xm := fun W => slice_mon m W m1 m2
  have g0 : (txt (wName wk)).size = 3 := by rw [txt_size]; exact week_len wk0 wk1
  have g1 : (txt (two d)).size = 2 := by rw [txt_size]; rfl
  have g2 : (txt (mName m)).size = 3 := by rw [txt_size]; exact gm
  have g3 : (txt (four y)).size = 4 := by rw [txt_size]; rfl
  have g4 : (txt (two h)).size = 2 := by rw [txt_size]; rfl
  have g5 : (txt (two i)).size = 2 := by rw [txt_size]; rfl
  have g6 : (txt (two s)).size = 2 := by rw [txt_size]; rfl
  clear y1 y2 m1 m2 d1 d2 h1 h2 i1 i2 s1 s2 hdb gm wk0 wk1
  generalize txt (wName wk) = WN0 at xw g0 ⊢
  generalize txt (two d) = D0 at DD g1 ⊢
  generalize txt (four y) = Y0 at DY g3 ⊢
  generalize txt (two h) = H0 at DH g4 ⊢
  generalize txt (two i) = I0 at DI g5 ⊢
  generalize txt (two s) = S0 at DS g6 ⊢
  generalize txt (mName m) = M0 at xm g2 ⊢
  have q1 : (WN0 ++ ⟨#[44, 32]⟩ : ByteArray).size = 5 := by rw [ByteArray.size_append, g0]; rfl
  have q2 : (WN0 ++ ⟨#[44, 32]⟩ ++ D0 : ByteArray).size = 7 := by rw [ByteArray.size_append, q1, g1]
  have q3 : (WN0 ++ ⟨#[44, 32]⟩ ++ D0 ++ ⟨#[32]⟩ : ByteArray).size = 8 := by rw [ByteArray.size_append, q2]; rfl
  have q4 : (WN0 ++ ⟨#[44, 32]⟩ ++ D0 ++ ⟨#[32]⟩ ++ M0 : ByteArray).size = 11 := by rw [ByteArray.size_append, q3, g2]
  have q5 : (WN0 ++ ⟨#[44, 32]⟩ ++ D0 ++ ⟨#[32]⟩ ++ M0 ++ ⟨#[32]⟩ : ByteArray).size = 12 := by rw [ByteArray.size_append, q4]; rfl
  have q6 : (WN0 ++ ⟨#[44, 32]⟩ ++ D0 ++ ⟨#[32]⟩ ++ M0 ++ ⟨#[32]⟩ ++ Y0 : ByteArray).size = 16 := by rw [ByteArray.size_append, q5, g3]
  have q7 : (WN0 ++ ⟨#[44, 32]⟩ ++ D0 ++ ⟨#[32]⟩ ++ M0 ++ ⟨#[32]⟩ ++ Y0 ++ ⟨#[32]⟩ : ByteArray).size = 17 := by rw [ByteArray.size_append, q6]; rfl
  have q8 : (WN0 ++ ⟨#[44, 32]⟩ ++ D0 ++ ⟨#[32]⟩ ++ M0 ++ ⟨#[32]⟩ ++ Y0 ++ ⟨#[32]⟩ ++ H0 : ByteArray).size = 19 := by rw [ByteArray.size_append, q7, g4]
  have q9 : (WN0 ++ ⟨#[44, 32]⟩ ++ D0 ++ ⟨#[32]⟩ ++ M0 ++ ⟨#[32]⟩ ++ Y0 ++ ⟨#[32]⟩ ++ H0 ++ ⟨#[58]⟩ : ByteArray).size = 20 := by rw [ByteArray.size_append, q8]; rfl
  have q10 : (WN0 ++ ⟨#[44, 32]⟩ ++ D0 ++ ⟨#[32]⟩ ++ M0 ++ ⟨#[32]⟩ ++ Y0 ++ ⟨#[32]⟩ ++ H0 ++ ⟨#[58]⟩ ++ I0 : ByteArray).size = 22 := by rw [ByteArray.size_append, q9, g5]
  have q11 : (WN0 ++ ⟨#[44, 32]⟩ ++ D0 ++ ⟨#[32]⟩ ++ M0 ++ ⟨#[32]⟩ ++ Y0 ++ ⟨#[32]⟩ ++ H0 ++ ⟨#[58]⟩ ++ I0 ++ ⟨#[58]⟩ : ByteArray).size = 23 := by rw [ByteArray.size_append, q10]; rfl
  have q12 : (WN0 ++ ⟨#[44, 32]⟩ ++ D0 ++ ⟨#[32]⟩ ++ M0 ++ ⟨#[32]⟩ ++ Y0 ++ ⟨#[32]⟩ ++ H0 ++ ⟨#[58]⟩ ++ I0 ++ ⟨#[58]⟩ ++ S0 : ByteArray).size = 25 := by rw [ByteArray.size_append, q11, g6]
  go_enter Tryd.func19, Tryd.ntmps19
  go_upto_region 6 with (first
    | (go_at_call 13; refine (OF.out _).mono ?_; rintro x w2 ⟨rfl, hb⟩; have BB := Lib.hid (BB.out.trans (hb.mono BB.out.size)); clear hb)
    | (go_at_call 16; refine (WK.out _).mono ?_; rintro x w3 ⟨rfl, rfl⟩))
  generalize 3 * (m - 1) = a2 at *
  generalize 3 * wk = a1 at *
  have CC := Lib.hid (Cs.made w2 #[.int .i64 y, .int .i64 m, .int .i64 d, .int .i64 h, .int .i64 i, .int .i64 s] 23)
  have CC : Hid (Cs (w2.alloc (.cells #[.int .i64 y, .int .i64 m, .int .i64 d, .int .i64 h, .int .i64 i, .int .i64 s] 23)).drew w2.heap.size [.int .i64 y, .int .i64 m, .int .i64 d, .int .i64 h, .int .i64 i, .int .i64 s]) := CC.out
  have BB := Lib.hid (BB.out.alloc BB.out.size (.cells #[.int .i64 y, .int .i64 m, .int .i64 d, .int .i64 h, .int .i64 i, .int .i64 s] 23)).drew
  obtain ⟨c0, c1, c2, c3, c4, c5⟩ := CC.out.six'
  go_region_held (fun W => W.cell? ⟨w2.heap.size, 0, none⟩ = some (.int .i64 y) ∧ W.cell? ⟨w2.heap.size, 1, none⟩ = some (.int .i64 m) ∧ W.cell? ⟨w2.heap.size, 2, none⟩ = some (.int .i64 d) ∧ W.cell? ⟨w2.heap.size, 3, none⟩ = some (.int .i64 h) ∧ W.cell? ⟨w2.heap.size, 4, none⟩ = some (.int .i64 i) ∧ W.cell? ⟨w2.heap.size, 5, none⟩ = some (.int .i64 s))
    (first
      | (exact ⟨c0, c1, c2, c3, c4, c5⟩))
    (first
      | (go_at_call_of 34 (Value.int .i64 d); refine (DD.out _).mono ?_; rintro e wn ⟨rfl, bn⟩; have CC := Lib.hid (CC.out.below bn); have BB := Lib.hid (BB.out.trans (bn.mono BB.out.size)); clear bn; obtain ⟨c0, c1, c2, c3, c4, c5⟩ := CC.out.six')
      | (go_at_call_of 34 (Value.int .i64 y); refine (DY.out _).mono ?_; rintro e wn ⟨rfl, bn⟩; have CC := Lib.hid (CC.out.below bn); have BB := Lib.hid (BB.out.trans (bn.mono BB.out.size)); clear bn; obtain ⟨c0, c1, c2, c3, c4, c5⟩ := CC.out.six')
      | (go_at_call_of 34 (Value.int .i64 h); refine (DH.out _).mono ?_; rintro e wn ⟨rfl, bn⟩; have CC := Lib.hid (CC.out.below bn); have BB := Lib.hid (BB.out.trans (bn.mono BB.out.size)); clear bn; obtain ⟨c0, c1, c2, c3, c4, c5⟩ := CC.out.six')
      | (go_at_call_of 34 (Value.int .i64 i); refine (DI.out _).mono ?_; rintro e wn ⟨rfl, bn⟩; have CC := Lib.hid (CC.out.below bn); have BB := Lib.hid (BB.out.trans (bn.mono BB.out.size)); clear bn; obtain ⟨c0, c1, c2, c3, c4, c5⟩ := CC.out.six')
      | (go_at_call_of 34 (Value.int .i64 s); refine (DS.out _).mono ?_; rintro e wn ⟨rfl, bn⟩; have CC := Lib.hid (CC.out.below bn); have BB := Lib.hid (BB.out.trans (bn.mono BB.out.size)); clear bn; obtain ⟨c0, c1, c2, c3, c4, c5⟩ := CC.out.six'))
  all_goals
    go_wp2
    go_ret2
    exact ⟨rfl, BB.out⟩

/-- a number's text -/
theorem rformat_at {t : Dt} {n : Int} (w : World) (hr : rightB t = true) (hn : numI t = n) :
    Calls Tryd.prog 19 #[.int .i64 n] w fun e w' => e = .returned (.tuple #[.string (txt (fmtL t)), .int .i64 0]) ∧ Below w.heap.size w w' := by
  rw [fmtL, hn]
  exact rformat_yes t.y t.m t.d t.h t.i t.s n w hr hn
end Go.Proofs.YtgefnndegjpcpaaDoor
