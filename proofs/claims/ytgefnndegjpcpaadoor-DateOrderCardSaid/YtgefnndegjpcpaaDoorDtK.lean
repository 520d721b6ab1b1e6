/- Walks of layer 16: a number's text. -/
import Derived.Test.YtgefnndegjpcpaaDoorDtJ
import Derived.Test.YtgefnndegjpcpaaDoorDtC
import Derived.BigQuiet
import Derived.Deep.QuietTactic
import Derived.Deep.RegionHeld
set_option maxRecDepth 100000
set_option linter.unusedSimpArgs false
set_option linter.unusedVariables false
namespace Go.Proofs.YtgefnndegjpcpaaDoor
open Go.RowKit

theorem index_week (k : Int) (W : World) (k0 : 0 ≤ k) (k1 : k < 7) : (Instr.index 59 (.agg #[.string ⟨#[77, 111, 110]⟩, .string ⟨#[84, 117, 101]⟩, .string ⟨#[87, 101, 100]⟩, .string ⟨#[84, 104, 117]⟩, .string ⟨#[70, 114, 105]⟩, .string ⟨#[83, 97, 116]⟩, .string ⟨#[83, 117, 110]⟩]) (.int .i64 k)).run Tryd.prog W = .ok (.string (txt (wName k))) W := by
  obtain h | h | h | h | h | h | h : k = 0 ∨ k = 1 ∨ k = 2 ∨ k = 3 ∨ k = 4 ∨ k = 5 ∨ k = 6 := by omega
  all_goals subst h; kernel_rfl
theorem weekName_any (k : Int) (w : World) (k0 : 0 ≤ k) (k1 : k < 7) :
    Calls Tryd.prog 31 #[.int .i64 k] w fun e w' => e = .returned (.string (txt (wName k))) ∧ w' = w := by
  have hix := fun W => index_week k W k0 k1
  generalize txt (wName k) = r at hix ⊢
  go_enter Tryd.func31, Tryd.ntmps31
  go_wp2
  go_ret
  exact ⟨rfl, rfl⟩

set_option maxHeartbeats 4000000 in
theorem format_no (n : Int) (w : World) (hn : inB n = false) :
    Calls Tryd.prog 18 #[.int .i64 n] w fun e w' => e = .returned (.tuple #[.string ⟨#[]⟩, .int .i64 1]) ∧ Below w.heap.size w w' := by
  have OF := Lib.hid (fun W => of_no n W hn)
  have BB := Lib.hid (Below.refl w.heap.size w)
  clear hn
  go_enter Tryd.func18, Tryd.ntmps18
  go_wp2_with (go_at_call 12; refine (OF.out _).mono ?_; rintro x w2 ⟨rfl, hb⟩; have BB := Lib.hid (BB.out.trans (hb.mono BB.out.size)); clear hb)
  go_ret2
  exact ⟨rfl, BB.out.alloc BB.out.size _⟩

set_option maxHeartbeats 8000000 in
theorem format_yes (y m d h i s : Int) (n : Int) (w : World) (ht : Tb w) (hr : rightB ⟨y, m, d, h, i, s⟩ = true) (hn : numI ⟨y, m, d, h, i, s⟩ = n) :
    Calls Tryd.prog 18 #[.int .i64 n] w fun e w' => e = .returned (.tuple #[.string (txt (fmtW (weekI n) ⟨y, m, d, h, i, s⟩)), .int .i64 0]) ∧ Below w.heap.size w w' := by
  have ⟨⟨y1, y2, m1, m2, d1, d2⟩, h1, h2, i1, i2, s1, s2⟩ := right_iff.1 hr
  simp only at y1 y2 m1 m2 d1 d2 h1 h2 i1 i2 s1 s2
  have hdb := dim_bound y m
  have OF := Lib.hid (fun W => of_yes y m d h i s n W hr hn)
  have WK := Lib.hid (fun W => week_any n W)
  have WN := Lib.hid (fun W => weekName_any (weekI n) W (week_bounds n).1 (week_bounds n).2)
  have DD := Lib.hid (fun W => digits_two d W (by omega) (by omega))
  have DY := Lib.hid (fun W hW => digits_four y W y1 (by omega) hW)
  have DH := Lib.hid (fun W => digits_two h W h1 (by omega))
  have DI := Lib.hid (fun W => digits_two i W i1 (by omega))
  have DS := Lib.hid (fun W => digits_two s W s1 (by omega))
  have hw := wraps_i64' (m - 1) (by omega) (by omega)
  have hix := fun W => index_month m W m1 m2
  have hfn := field_name
  have BB := Lib.hid (Below.refl w.heap.size w)
  have TT := Lib.hid ht
  have hE : fmtW (weekI n) ⟨y, m, d, h, i, s⟩ = wName (weekI n) ++ [44, 32] ++ two d ++ [32] ++ mName m ++ [32] ++ four y ++ [32] ++ two h ++ [58] ++ two i ++ [58] ++ two s ++ [32, 71, 77, 84] := rfl
  have hF := congrArg txt hE
  simp only [← txt_app] at hF
  rw [hF]
  have gm := (mon_ok m1 m2).1
  have ⟨wk0, wk1⟩ := week_bounds n
  clear hE hF hr hn y1 y2 m1 m2 d1 d2 h1 h2 i1 i2 s1 s2 hdb ht
  generalize weekI n = wk at WK WN wk0 wk1 ⊢
  have g0 : (txt (wName wk)).size = 3 := by rw [txt_size]; exact week_len wk0 wk1
  have g1 : (txt (two d)).size = 2 := by rw [txt_size]; rfl
  have g2 : (txt (mName m)).size = 3 := by rw [txt_size]; exact gm
  have g3 : (txt (four y)).size = 4 := by rw [txt_size]; rfl
  have g4 : (txt (two h)).size = 2 := by rw [txt_size]; rfl
  have g5 : (txt (two i)).size = 2 := by rw [txt_size]; rfl
  have g6 : (txt (two s)).size = 2 := by rw [txt_size]; rfl
  clear gm wk0 wk1
  generalize txt (wName wk) = WN0 at WN g0 ⊢
  generalize txt (two d) = D0 at DD g1 ⊢
  generalize txt (four y) = Y0 at DY g3 ⊢
  generalize txt (two h) = H0 at DH g4 ⊢
  generalize txt (two i) = I0 at DI g5 ⊢
  generalize txt (two s) = S0 at DS g6 ⊢
  rw [show (⟨(mName m).toArray⟩ : ByteArray) = txt (mName m) from rfl] at hix
  generalize txt (mName m) = M0 at hix g2 ⊢
  have q1 : (WN0 ++ ⟨#[44, 32]⟩ : ByteArray).size = 5 := by rw [ByteArray.size_append, g0]; rfl
  have q2 : (WN0 ++ ⟨#[44, 32]⟩ ++ D0 : ByteArray).size = 7 := by rw [ByteArray.size_append, q1, g1]
  have q3 : (WN0 ++ ⟨#[44, 32]⟩ ++ D0 ++ ⟨#[32]⟩ : ByteArray).size = 8 := by rw [ByteArray.size_append, q2]; rfl
  have q4 : (WN0 ++ ⟨#[44, 32]⟩ ++ D0 ++ ⟨#[32]⟩ ++ M0 : ByteArray).size = 11 := by rw [ByteArray.size_append, q3, g2]
  have q5 : (WN0 ++ ⟨#[44, 32]⟩ ++ D0 ++ ⟨#[32]⟩ ++ M0 ++ ⟨#[32]⟩ : ByteArray).size = 12 := by rw [ByteArray.size_append, q4]; rfl
  have q6 : (WN0 ++ ⟨#[44, 32]⟩ ++ D0 ++ ⟨#[32]⟩ ++ M0 ++ ⟨#[32]⟩ ++ Y0 : ByteArray).size = 16 := by rw [ByteArray.size_append, q5, g3]
  have q7 : (WN0 ++ ⟨#[44, 32]⟩ ++ D0 ++ ⟨#[32]⟩ ++ M0 ++ ⟨#[32]⟩ ++ Y0 ++ ⟨#[32]⟩ : ByteArray).size = 17 := by rw [ByteArray.size_append, q6]; rfl
  have q8 : (WN0 ++ ⟨#[44, 32]⟩ ++ D0 ++ ⟨#[32]⟩ ++ M0 ++ ⟨#[32]⟩ ++ Y0 ++ ⟨#[32]⟩ ++ H0 : ByteArray).size = 19 := by rw [ByteArray.size_append, q7, g4]
  have q9 : (WN0 ++ ⟨#[44, 32]⟩ ++ D0 ++ ⟨#[32]⟩ ++ M0 ++ ⟨#[32]⟩ ++ Y0 ++ ⟨#[32]⟩ ++ H0 ++ ⟨#[58]⟩ : ByteArray).size = 20 := by rw [ByteArray.size_append, q8]; rfl
  have q10 : (WN0 ++ ⟨#[44, 32]⟩ ++ D0 ++ ⟨#[32]⟩ ++ M0 ++ ⟨#[32]⟩ ++ Y0 ++ ⟨#[32]⟩ ++ H0 ++ ⟨#[58]⟩ ++ I0 : ByteArray).size = 22 := by rw [ByteArray.size_append, q9, g5]
  have q11 : (WN0 ++ ⟨#[44, 32]⟩ ++ D0 ++ ⟨#[32]⟩ ++ M0 ++ ⟨#[32]⟩ ++ Y0 ++ ⟨#[32]⟩ ++ H0 ++ ⟨#[58]⟩ ++ I0 ++ ⟨#[58]⟩ : ByteArray).size = 23 := by rw [ByteArray.size_append, q10]; rfl
  have q12 : (WN0 ++ ⟨#[44, 32]⟩ ++ D0 ++ ⟨#[32]⟩ ++ M0 ++ ⟨#[32]⟩ ++ Y0 ++ ⟨#[32]⟩ ++ H0 ++ ⟨#[58]⟩ ++ I0 ++ ⟨#[58]⟩ ++ S0 : ByteArray).size = 25 := by rw [ByteArray.size_append, q11, g6]
  go_enter Tryd.func18, Tryd.ntmps18
  go_upto_region 4 with (go_at_call 12; refine (OF.out _).mono ?_; rintro x w2 ⟨rfl, hb⟩; have BB := Lib.hid (BB.out.trans (hb.mono BB.out.size)); have TT := Lib.hid (TT.out.below hb); clear hb)
  have CC := Lib.hid (Cs.made w2 #[.int .i64 y, .int .i64 m, .int .i64 d, .int .i64 h, .int .i64 i, .int .i64 s] 27).drew
  have TT : Hid (Tb (w2.alloc (.cells #[.int .i64 y, .int .i64 m, .int .i64 d, .int .i64 h, .int .i64 i, .int .i64 s] 27)).drew) := TT.out.below ((Below.refl _ w2).alloc (Nat.le_refl _) _).drew
  have BB := Lib.hid (BB.out.alloc BB.out.size (.cells #[.int .i64 y, .int .i64 m, .int .i64 d, .int .i64 h, .int .i64 i, .int .i64 s] 27)).drew
  have hlt2 : Hid (w2.heap.size < (w2.alloc (.cells #[.int .i64 y, .int .i64 m, .int .i64 d, .int .i64 h, .int .i64 i, .int .i64 s] 27)).drew.heap.size) := by
    show w2.heap.size < (w2.heap.push _).size
    simp
  go_cut [6] (fun v W => v = .string (WN0 ++ ⟨#[44, 32]⟩ ++ D0 ++ ⟨#[32]⟩ ++ M0 ++ ⟨#[32]⟩ ++ Y0) ∧ SixB w2.heap.size y m d h i s W ∧ Below w.heap.size w W)
  case first =>
    obtain ⟨c0, c1, c2, c3, c4, c5⟩ := CC.out.six
    go_region_held (fun W => W.cell? ⟨w2.heap.size, 0, none⟩ = some (.int .i64 y) ∧ W.cell? ⟨w2.heap.size, 1, none⟩ = some (.int .i64 m) ∧ W.cell? ⟨w2.heap.size, 2, none⟩ = some (.int .i64 d) ∧ W.cell? ⟨w2.heap.size, 3, none⟩ = some (.int .i64 h) ∧ W.cell? ⟨w2.heap.size, 4, none⟩ = some (.int .i64 i) ∧ W.cell? ⟨w2.heap.size, 5, none⟩ = some (.int .i64 s))
      (first
        | (exact ⟨c0, c1, c2, c3, c4, c5⟩))
      (first
        | (go_at_call 15; refine (WK.out _).mono ?_; rintro e wn ⟨rfl, rfl⟩)
        | (go_at_call 31; refine (WN.out _).mono ?_; rintro e wn ⟨rfl, rfl⟩)
        | (go_at_call_of 32 (Value.int .i64 d); refine (DD.out _).mono ?_; rintro e wn ⟨rfl, rfl⟩)
        | (go_at_call_of 32 (Value.int .i64 y); refine (DY.out _ TT.out).mono ?_; rintro e wn ⟨rfl, bn⟩; have CC := Lib.hid (CC.out.below bn); have BB := Lib.hid (BB.out.trans (bn.mono BB.out.size)); have TT := Lib.hid (TT.out.below bn); clear bn; obtain ⟨c0, c1, c2, c3, c4, c5⟩ := CC.out.six)
        | (go_at_call 33; refine (months_any _).mono ?_; rintro e wn ⟨rfl, bn⟩; have CC := Lib.hid (CC.out.below bn); have BB := Lib.hid (BB.out.trans (bn.mono BB.out.size)); have TT := Lib.hid (TT.out.below bn); clear bn; obtain ⟨c0, c1, c2, c3, c4, c5⟩ := CC.out.six))
    all_goals
      go_wp2_with fail
      go_meet
      exact ⟨rfl, ⟨c0, c1, c2, c3, c4, c5⟩, BB.out⟩
  case rest =>
    obtain ⟨rfl, ⟨c0, c1, c2, c3, c4, c5⟩, hb⟩ := hcut
    have BB := Lib.hid hb
    clear hb
    go_wp2_with fail
    go_quiet (first
      | (go_at_call_of 32 (Value.int .i64 h); refine Calls.quiet_of_same (DH.out _))
      | (go_at_call_of 32 (Value.int .i64 i); refine Calls.quiet_of_same (DI.out _))
      | (go_at_call_of 32 (Value.int .i64 s); refine Calls.quiet_of_same (DS.out _)))
    go_wp2
    go_ret2
    exact ⟨rfl, below_drewN BB.out _⟩

/-- a number's text -/
theorem format_at {t : Dt} {n : Int} (w : World) (ht : Tb w) (hr : rightB t = true) (hn : numI t = n) :
    Calls Tryd.prog 18 #[.int .i64 n] w fun e w' => e = .returned (.tuple #[.string (txt (fmtL t)), .int .i64 0]) ∧ Below w.heap.size w w' := by
  rw [fmtL, hn]
  exact format_yes t.y t.m t.d t.h t.i t.s n w ht hr hn
end Go.Proofs.YtgefnndegjpcpaaDoor
