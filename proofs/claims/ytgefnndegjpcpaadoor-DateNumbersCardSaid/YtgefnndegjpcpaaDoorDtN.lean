/- Walks of layer 16: a date's number, by the document. -/
import Derived.Test.YtgefnndegjpcpaaDoorDtH
import Derived.Deep.RegionHeld
set_option maxRecDepth 100000
set_option linter.unusedSimpArgs false
set_option linter.unusedVariables false
namespace Go.Proofs.YtgefnndegjpcpaaDoor
open Go.RowKit

theorem rright_b {y m d h i s : Int} {b : Bool} (hb : rightB ⟨y, m, d, h, i, s⟩ = b) (w : World) :
    Calls Tryd.prog 25 #[.agg #[.int .i64 y, .int .i64 m, .int .i64 d, .int .i64 h, .int .i64 i, .int .i64 s]] w fun e w' => e = .returned (.bool b) ∧ Below w.heap.size w w' := by
  rw [← hb]
  exact rright_any ⟨y, m, d, h, i, s⟩ w

set_option maxHeartbeats 4000000 in
theorem rnumber_no (y m d h i s : Int) (w : World) (hr : rightB ⟨y, m, d, h, i, s⟩ = false) :
    Calls Tryd.prog 11 #[.agg #[.int .i64 y, .int .i64 m, .int .i64 d, .int .i64 h, .int .i64 i, .int .i64 s]] w fun e w' => e = .returned (.tuple #[.int .i64 0, .int .i64 1]) ∧ Below w.heap.size w w' := by
  have BB := Lib.hid ((Below.refl w.heap.size w).alloc (Nat.le_refl _) (.cells #[.int .i64 y, .int .i64 m, .int .i64 d, .int .i64 h, .int .i64 i, .int .i64 s] 23))
  have IS := Lib.hid (fun W => rright_b hr W)
  clear hr
  go_enter Tryd.func11, Tryd.ntmps11
  go_wp2_with (go_at_call 25; refine (IS.out _).mono ?_; rintro x w2 ⟨rfl, hb⟩; have BB := Lib.hid (BB.out.trans (hb.mono BB.out.size)); clear hb)
  go_ret2
  exact ⟨rfl, BB.out⟩

set_option maxHeartbeats 4000000 in
theorem rnumber_yes (y m d h i s : Int) (w : World) (hr : rightB ⟨y, m, d, h, i, s⟩ = true) :
    Calls Tryd.prog 11 #[.agg #[.int .i64 y, .int .i64 m, .int .i64 d, .int .i64 h, .int .i64 i, .int .i64 s]] w fun e w' => e = .returned (.tuple #[.int .i64 (numI ⟨y, m, d, h, i, s⟩), .int .i64 0]) ∧ Below w.heap.size w w' := by
  have BB := Lib.hid ((Below.refl w.heap.size w).alloc (Nat.le_refl _) (.cells #[.int .i64 y, .int .i64 m, .int .i64 d, .int .i64 h, .int .i64 i, .int .i64 s] 23))
  have CC := Lib.hid (Cs.made w #[.int .i64 y, .int .i64 m, .int .i64 d, .int .i64 h, .int .i64 i, .int .i64 s] 23)
  have IS := Lib.hid (fun W => rright_b hr W)
  have ⟨⟨y1, y2, m1, m2, d1, d2⟩, h1, h2, i1, i2, s1, s2⟩ := right_iff.1 hr
  simp only at y1 y2 m1 m2 d1 d2 h1 h2 i1 i2 s1 s2
  have TY := Lib.hid (fun W => before_any y W y1 (by omega))
  have yb := year_bounds y1 y2
  have db := dim_bound y m
  have mb0 := mon_nonneg y (m - 1).toNat
  have mb1 := mon_le y (k := (m - 1).toNat) (by omega)
  have hN : numI ⟨y, m, d, h, i, s⟩ = -62167219200 + (toYear y + d - 1 + toMon y (m - 1).toNat) * 86400 + h * 3600 + i * 60 + s := by
    simp only [numI, dayI, secI]; omega
  rw [hN]
  have DYS := Lib.hid (fun k W => rdays_any y k W y1 y2)
  generalize toYear y = Y at TY yb ⊢
  have a2 := wraps_i64' (Y + d) (by omega) (by omega)
  have a3 := wraps_i64' (Y + d - 1) (by omega) (by omega)
  have a4 := wraps_i64' ((Y + d - 1 + toMon y (m - 1).toNat) * 86400) (by omega) (by omega)
  have a5 := wraps_i64' (-62167219200 + (Y + d - 1 + toMon y (m - 1).toNat) * 86400) (by omega) (by omega)
  have a6 := wraps_i64' (h * 3600) (by omega) (by omega)
  have a7 := wraps_i64' (-62167219200 + (Y + d - 1 + toMon y (m - 1).toNat) * 86400 + h * 3600) (by omega) (by omega)
  have a8 := wraps_i64' (i * 60) (by omega) (by omega)
  have a9 := wraps_i64' (-62167219200 + (Y + d - 1 + toMon y (m - 1).toNat) * 86400 + h * 3600 + i * 60) (by omega) (by omega)
  have a10 := wraps_i64' (-62167219200 + (Y + d - 1 + toMon y (m - 1).toNat) * 86400 + h * 3600 + i * 60 + s) (by omega) (by omega)
  have HB : Hid (0 ≤ Y ∧ Y ≤ 3652060 ∧ 1 ≤ d ∧ d ≤ 31) := ⟨yb.1, yb.2, d1, by omega⟩
  have HM : Hid (1 ≤ m ∧ m ≤ 12) := ⟨m1, m2⟩
  obtain ⟨NN, hNN⟩ : ∃ NN, -62167219200 + (Y + d - 1 + toMon y (m - 1).toNat) * 86400 + h * 3600 + i * 60 + s = NN := ⟨_, rfl⟩
  rw [hNN]
  have HNN := Lib.hid hNN
  clear hNN
  clear hr hN y1 y2 m1 m2 d1 d2 h1 h2 i1 i2 s1 s2 yb mb0 mb1 db
  go_enter Tryd.func11, Tryd.ntmps11
  go_upto_region 3 with (go_at_call 25; refine (IS.out _).mono ?_; rintro x w2 ⟨rfl, hb⟩; have CC := Lib.hid (CC.out.below hb); have BB := Lib.hid (BB.out.trans (hb.mono BB.out.size)); clear hb)
  obtain ⟨c0, c1, c2, c3, c4, c5⟩ := CC.out.six'
  go_quiet (first | (go_at_call 26; refine Calls.quiet_of_same (TY.out _)))
  have CC : Hid (Cs (w2.drewN nq) w.heap.size [.int .i64 y, .int .i64 m, .int .i64 d, .int .i64 h, .int .i64 i, .int .i64 s]) := CC.out
  have BB : Hid (Below w.heap.size w (w2.drewN nq)) := below_drewN BB.out _
  generalize w2.drewN nq = w3 at CC BB ⊢
  go_wp2_with fail
  go_loopw [4, 5] (fun a b wx => ∃ k : Nat, (k : Int) + 1 ≤ m ∧ a = .int .i64 (Y + d - 1 + toMon y k) ∧ b = .int .i64 ((k : Int) + 1) ∧ wx = w3) (fun _ b _ => 13 - (intOf b).toNat)
  case atStart => exact ⟨0, by have := HM.out; omega, by simp [toMon], rfl, by trivial⟩
  case round =>
    obtain ⟨k, hkm, rfl, rfl, rfl⟩ := hrel
    have hm := HM.out
    have hb := HB.out
    obtain ⟨c0, c1, c2, c3, c4, c5⟩ := CC.out.six'
    have hd := dim_bound y ((k : Int) + 1)
    have hn := mon_nonneg y k
    have hl := mon_le y (k := k) (by omega)
    have HS : Hid (toMon y (k + 1) = toMon y k + dim y ((k : Int) + 1)) := rfl
    have HV : Hid (¬ (k : Int) + 1 < m → toMon y (m - 1).toNat = toMon y k) := fun h => by rw [show (m - 1).toNat = k by omega]
    have hw1 := wraps_i64' ((k : Int) + 1 + 1) (by omega) (by omega)
    have hw2 := wraps_i64' (Y + d - 1 + toMon y k + dim y ((k : Int) + 1)) (by omega) (by omega)
    have DM := Lib.hid (fun W => DYS.out ((k : Int) + 1) W)
    by_cases hlt : (k : Int) + 1 < m
    · generalize toMon y k = t at hw2 HS ⊢
      generalize dim y ((k : Int) + 1) = dd at hw2 HS DM
      go_wp2_with (go_at_call 27; refine (DM.out _).mono ?_; rintro x w2 ⟨rfl, rfl⟩)
      go_round
      case rel => exact ⟨k + 1, by omega, by rw [HS.out]; congr 1; omega, by go_num, by trivial⟩
      case measure => simp [intOf, hw1]; omega
    · have e := HV.out hlt
      clear DM HS HV
      rw [e] at a4 a5 a7 a9 a10
      have e2 : -62167219200 + (Y + d - 1 + toMon y k) * 86400 + h * 3600 + i * 60 + s = NN := by rw [← e]; exact HNN.out
      subst e2
      clear HNN e
      go_wp2_with fail
      go_ret2
      exact ⟨rfl, BB.out⟩
theorem rnumber_any (t : Dt) (w : World) :
    Calls Tryd.prog 11 #[.agg #[.int .i64 t.y, .int .i64 t.m, .int .i64 t.d, .int .i64 t.h, .int .i64 t.i, .int .i64 t.s]] w fun e w' => e = .returned (.tuple #[.int .i64 (numE t).1, .int .i64 (numE t).2]) ∧ Below w.heap.size w w' := by
  cases h : rightB t
  · rw [show numE t = (0, 1) by rw [numE, h]; rfl]; exact rnumber_no _ _ _ _ _ _ w h
  · rw [show numE t = (numI t, 0) by rw [numE, if_pos h]]; exact rnumber_yes _ _ _ _ _ _ w h
end Go.Proofs.YtgefnndegjpcpaaDoor
