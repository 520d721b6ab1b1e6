/- Walks of layer 16: a number's date, by the document. -/
import Derived.Test.YtgefnndegjpcpaaDoorDtH
import Derived.StillTailTactics
import Derived.Deep.CutBlock
set_option maxRecDepth 100000
set_option linter.unusedSimpArgs false
set_option linter.unusedVariables false
namespace Go.Proofs.YtgefnndegjpcpaaDoor
open Go.RowKit

theorem Cs.free6' {w : World} {g : Nat} {cs : List Value} (h : Cs w g cs) : w.frozen? ⟨g, 0, none⟩ = false ∧ w.frozen? ⟨g, 1, none⟩ = false ∧ w.frozen? ⟨g, 2, none⟩ = false ∧ w.frozen? ⟨g, 3, none⟩ = false ∧ w.frozen? ⟨g, 4, none⟩ = false ∧ w.frozen? ⟨g, 5, none⟩ = false :=
  ⟨h.free 0, h.free 1, h.free 2, h.free 3, h.free 4, h.free 5⟩
theorem below_six' {w w' : World} {B : Nat} (h : Below B w w') (b : Nat) (hb : B ≤ b) (x0 x1 x2 x3 x4 x5 : Value) :
    Below B w ((((((w'.setCell ⟨b, 0, none⟩ x0).setCell ⟨b, 1, none⟩ x1).setCell ⟨b, 2, none⟩ x2).setCell ⟨b, 3, none⟩ x3).setCell ⟨b, 4, none⟩ x4).setCell ⟨b, 5, none⟩ x5) :=
  (((((h.setCell (p := ⟨b, 0, none⟩) hb _).setCell (p := ⟨b, 1, none⟩) hb _).setCell (p := ⟨b, 2, none⟩) hb _).setCell (p := ⟨b, 3, none⟩) hb _).setCell (p := ⟨b, 4, none⟩) hb _).setCell (p := ⟨b, 5, none⟩) hb _
theorem Cs.drewN {w : World} {g : Nat} {cs : List Value} (h : Cs w g cs) (n : Nat) : Cs (w.drewN n) g cs := h

set_option maxHeartbeats 4000000 in
theorem rof_no (n : Int) (w : World) (hn : inB n = false) :
    Calls Tryd.prog 13 #[.int .i64 n] w fun e w' => e = .returned (.tuple #[.agg #[.int .i64 0, .int .i64 0, .int .i64 0, .int .i64 0, .int .i64 0, .int .i64 0], .int .i64 1]) ∧ Below w.heap.size w w' := by
  by_cases h1 : n < -62167219200
  · have d1 : decide (n < -62167219200) = true := decide_eq_true h1
    clear hn h1
    go_enter Tryd.func13, Tryd.ntmps13
    go_wp2
    exact bodyPost_ret (v := .tuple #[.agg #[.int .i64 0, .int .i64 0, .int .i64 0, .int .i64 0, .int .i64 0, .int .i64 0], .int .i64 1]) (by simp [results, Tryd.results13, go_sem]) rfl ⟨rfl, (Below.refl _ w).alloc (Nat.le_refl _) _⟩
  · have d1 : decide (n < -62167219200) = false := decide_eq_false h1
    have d2 : decide (n > 253402300799) = true := decide_eq_true (by
      by_cases h : n > 253402300799
      · exact h
      · rw [in_iff.2 ⟨by omega, by omega⟩] at hn
        cases hn)
    clear hn h1
    go_enter Tryd.func13, Tryd.ntmps13
    go_wp2
    exact bodyPost_ret (v := .tuple #[.agg #[.int .i64 0, .int .i64 0, .int .i64 0, .int .i64 0, .int .i64 0, .int .i64 0], .int .i64 1]) (by simp [results, Tryd.results13, go_sem]) rfl ⟨rfl, (Below.refl _ w).alloc (Nat.le_refl _) _⟩

set_option maxHeartbeats 8000000 in
theorem rof_yes (y m d h i s : Int) (n : Int) (w : World) (hr : rightB ⟨y, m, d, h, i, s⟩ = true) (hn : numI ⟨y, m, d, h, i, s⟩ = n) :
    Calls Tryd.prog 13 #[.int .i64 n] w fun e w' => e = .returned (.tuple #[.agg #[.int .i64 y, .int .i64 m, .int .i64 d, .int .i64 h, .int .i64 i, .int .i64 s], .int .i64 0]) ∧ Below w.heap.size w w' := by
  have ⟨⟨y1, y2, m1, m2, d1, d2⟩, h1, h2, i1, i2, s1, s2⟩ := right_iff.1 hr
  have hin := num_in hr
  have hdy := day_in hr
  rw [hn, in_iff] at hin
  simp only [numI, dayI, secI] at hn
  simp only at y1 y2 m1 m2 d1 d2 h1 h2 i1 i2 s1 s2 hdy
  have hyn := year_next y
  have hyb := year_bounds y1 y2
  have st := mon_step y m m1
  have hM0 := mon_nonneg y (m - 1).toNat
  have hdb := dim_bound y m
  obtain ⟨r, hR⟩ : ∃ r, toMon y (m - 1).toNat + (d - 1) = r := ⟨_, rfl⟩
  obtain ⟨A, hA⟩ : ∃ A, toYear y + r = A := ⟨_, rfl⟩
  have q1 : decide (n < -62167219200) = false := decide_eq_false (by omega)
  have q2 : decide (n > 253402300799) = false := decide_eq_false (by omega)
  have a1 := wraps_i64' (n + 62167219200) (by omega) (by omega)
  have a2 : IntKind.i64.wrap ((n + 62167219200).tdiv 86400) = A := by rw [wquo _ _ (by omega) (by omega) (by decide)]; omega
  have a3 : (n + 62167219200).tmod 86400 = h * 3600 + i * 60 + s := by rw [wrem _ _ (by omega) (by omega) (by decide)]; omega
  have a4 : IntKind.i64.wrap ((h * 3600 + i * 60 + s).tdiv 3600) = h := by rw [wquo _ _ (by omega) (by omega) (by decide)]; omega
  have a5 : (n + 62167219200).tmod 3600 = i * 60 + s := by rw [wrem _ _ (by omega) (by omega) (by decide)]; omega
  have a6 : IntKind.i64.wrap ((i * 60 + s).tdiv 60) = i := by rw [wquo _ _ (by omega) (by omega) (by decide)]; omega
  have a7 : (n + 62167219200).tmod 60 = s := by rw [wrem _ _ (by omega) (by omega) (by decide)]; omega
  have a8 : IntKind.i64.wrap (A.tdiv 366) = A / 366 := wquo _ _ (by omega) (by omega) (by decide)
  have HA : Hid (0 ≤ A ∧ A < 3660000 ∧ toYear y ≤ A ∧ A < toYear (y + 1) ∧ A - toYear y = r ∧ A / 366 ≤ y) := ⟨by omega, by omega, by omega, by omega, by omega, by
    have : toYear (y + 1) ≤ 366 * (y + 1) := by unfold toYear; omega
    omega⟩
  have HR : Hid (toMon y (m - 1).toNat ≤ r ∧ r < toMon y m.toNat ∧ r - toMon y (m - 1).toNat = d - 1 ∧ 0 ≤ r ∧ r ≤ 366) := ⟨by omega, by omega, by omega, by omega, by omega⟩
  have HY : Hid (0 ≤ y ∧ y ≤ 9999 ∧ 1 ≤ m ∧ m ≤ 12 ∧ 1 ≤ d ∧ d ≤ 31) := ⟨y1, y2, m1, m2, d1, by omega⟩
  clear hr hn hin hdy hyn hyb st hM0 hdb hR hA y1 y2 m1 m2 d1 d2 h1 h2 i1 i2 s1 s2
  have e1 : (w.alloc (.cells #[.int .i64 0, .int .i64 0, .int .i64 0, .int .i64 0, .int .i64 0, .int .i64 0] 23)).heap.size = w.heap.size + 1 := by show (w.heap.push _).size = _; simp
  have CR : Hid (Cs ((w.alloc (.cells #[.int .i64 0, .int .i64 0, .int .i64 0, .int .i64 0, .int .i64 0, .int .i64 0] 23)).alloc (.cells #[.int .i64 (A / 366), .int .i64 1, .int .i64 A, .int .i64 h, .int .i64 i, .int .i64 s] 23)) w.heap.size [.int .i64 0, .int .i64 0, .int .i64 0, .int .i64 0, .int .i64 0, .int .i64 0]) := (Cs.made w #[.int .i64 0, .int .i64 0, .int .i64 0, .int .i64 0, .int .i64 0, .int .i64 0] 23).below ((Below.refl _ _).alloc (Nat.le_refl _) _)
  have CD : Hid (Cs ((w.alloc (.cells #[.int .i64 0, .int .i64 0, .int .i64 0, .int .i64 0, .int .i64 0, .int .i64 0] 23)).alloc (.cells #[.int .i64 (A / 366), .int .i64 1, .int .i64 A, .int .i64 h, .int .i64 i, .int .i64 s] 23)) (w.heap.size + 1) [.int .i64 (A / 366), .int .i64 1, .int .i64 A, .int .i64 h, .int .i64 i, .int .i64 s]) := by
    have := Cs.made (w.alloc (.cells #[.int .i64 0, .int .i64 0, .int .i64 0, .int .i64 0, .int .i64 0, .int .i64 0] 23)) #[.int .i64 (A / 366), .int .i64 1, .int .i64 A, .int .i64 h, .int .i64 i, .int .i64 s] 23
    rw [e1] at this
    exact this
  have BB : Hid (Below w.heap.size w ((w.alloc (.cells #[.int .i64 0, .int .i64 0, .int .i64 0, .int .i64 0, .int .i64 0, .int .i64 0] 23)).alloc (.cells #[.int .i64 (A / 366), .int .i64 1, .int .i64 A, .int .i64 h, .int .i64 i, .int .i64 s] 23))) := ((Below.refl _ w).alloc (Nat.le_refl _) _).alloc (by rw [e1]; omega) _
  clear e1
  go_enter Tryd.func13, Tryd.ntmps13
  go_upto_block 0 with fail
  generalize ((w.alloc (.cells #[.int .i64 0, .int .i64 0, .int .i64 0, .int .i64 0, .int .i64 0, .int .i64 0] 23)).alloc (.cells #[.int .i64 (A / 366), .int .i64 1, .int .i64 A, .int .i64 h, .int .i64 i, .int .i64 s] 23)) = W1 at CR CD BB ⊢
  clear q1 q2 a1 a2 a3 a4 a5 a6 a7 a8
  obtain ⟨b4, hb4⟩ : ∃ b, b = w.heap.size + 1 := ⟨_, rfl⟩
  rw [← hb4] at CD ⊢
  have HB4 : Hid (w.heap.size < b4) := by show _ < _; omega
  clear hb4
  go_cut [] (fun wx => Cs wx w.heap.size [.int .i64 0, .int .i64 0, .int .i64 0, .int .i64 0, .int .i64 0, .int .i64 0] ∧ Cs wx b4 [.int .i64 y, .int .i64 1, .int .i64 A, .int .i64 h, .int .i64 i, .int .i64 s] ∧ Below w.heap.size w wx)
  case first =>
    go_wp2_with fail
    go_loopw [] (fun wx => ∃ k : Int, 0 ≤ k ∧ k ≤ y ∧ Cs wx w.heap.size [.int .i64 0, .int .i64 0, .int .i64 0, .int .i64 0, .int .i64 0, .int .i64 0] ∧ Cs wx b4 [.int .i64 k, .int .i64 1, .int .i64 A, .int .i64 h, .int .i64 i, .int .i64 s] ∧ Below w.heap.size w wx) (fun wx => (10001 - intOf ((wx.cell? ⟨b4, 0, none⟩).getD undef)).toNat)
    case atStart => exact ⟨A / 366, by have := HA.out; omega, HA.out.2.2.2.2.2, CR.out, CD.out, BB.out⟩
    case round =>
      obtain ⟨k, k0, k1, hcr, hcd, hbb⟩ := hrel
      have CR := Lib.hid hcr
      have CD := Lib.hid hcd
      have BB := Lib.hid hbb
      clear hcr hcd hbb
      have hy := HY.out
      have ha := HA.out
      have hb4 := HB4.out
      obtain ⟨c0, c1, c2, c3, c4, c5⟩ := CD.out.six'
      obtain ⟨f0, f1, f2, f3, f4, f5⟩ := CD.out.free6'
      by_cases hlt : k < y
      · have h9 : decide (k < 9999) = true := decide_eq_true (by omega)
        have w1 := wraps_i64' (k + 1) (by omega) (by omega)
        have hle : toYear (k + 1) ≤ A := Int.le_trans (year_mono (by omega)) ha.2.2.1
        have BE := Lib.hid (fun W => before_any (k + 1) W (by omega) (by omega))
        generalize toYear (k + 1) = q at BE hle
        have dle : decide (q ≤ A) = true := decide_eq_true hle
        go_wp2_with fail
        go_quiet (first | (go_at_call 26; refine Calls.quiet_of_same (BE.out _)))
        go_wp2
        go_round
        case rel => exact ⟨k + 1, by omega, by omega, (CR.out.drewN _).keep (keep_set _ 0 _ _) (by simp; omega), (CD.out.drewN _).set 0 _, (below_drewN BB.out _).setCell (p := ⟨b4, 0, none⟩) (Nat.le_of_lt hb4) _⟩
        case measure =>
          have := ((CD.out.drewN nq).set 0 (.int .i64 (k + 1))).get 0 _ rfl
          simp only [this, c0, Option.getD_some, intOf]
          omega
      · have ek : k = y := by omega
        subst ek
        by_cases h9 : k < 9999
        · have d9 : decide (k < 9999) = true := decide_eq_true h9
          have w1 := wraps_i64' (k + 1) (by omega) (by omega)
          have hgt : ¬ toYear (k + 1) ≤ A := by omega
          have BE := Lib.hid (fun W => before_any (k + 1) W (by omega) (by omega))
          generalize toYear (k + 1) = q at BE hgt
          have dle : decide (q ≤ A) = false := decide_eq_false hgt
          clear ha HA
          go_wp2_with fail
          go_quiet (first | (go_at_call 26; refine Calls.quiet_of_same (BE.out _)))
          go_wp2_with fail
          go_meet
          exact ⟨CR.out.drewN _, CD.out.drewN _, below_drewN BB.out _⟩
        · have d9 : decide (k < 9999) = false := decide_eq_false h9
          go_wp2_with fail
          go_quiet (fail)
          go_wp2_with fail
          go_meet
          exact ⟨CR.out.drewN _, CD.out.drewN _, below_drewN BB.out _⟩
  case rest =>
    obtain ⟨hcr, hcd, hbb⟩ := hcut
    have CR := Lib.hid hcr
    have CD := Lib.hid hcd
    have BB := Lib.hid hbb
    clear hcr hcd hbb
    obtain ⟨c0, c1, c2, c3, c4, c5⟩ := CD.out.six'
    obtain ⟨f0, f1, f2, f3, f4, f5⟩ := CD.out.free6'
    have BE := Lib.hid (fun W => before_any y W HY.out.1 (by have := HY.out; omega))
    have w1 : IntKind.i64.wrap (A - toYear y) = r := by rw [wraps_i64' _ (by have := HA.out; have := HR.out; omega) (by have := HA.out; have := HR.out; omega)]; exact HA.out.2.2.2.2.1
    clear HA
    generalize toYear y = Y at BE w1
    go_wp2_with fail
    go_still_tail 7, (by kernel_rfl)
    still_call (BE.out _)
    repeat still_step
    refine wpStill_nil ?_
    change wpList _ _ _ _ _ wc.drew
    have CR : Hid (Cs wc.drew w.heap.size [.int .i64 0, .int .i64 0, .int .i64 0, .int .i64 0, .int .i64 0, .int .i64 0]) := CR.out
    have CD : Hid (Cs wc.drew b4 [.int .i64 y, .int .i64 1, .int .i64 A, .int .i64 h, .int .i64 i, .int .i64 s]) := CD.out
    have BB := Lib.hid BB.out.drew
    clear c0 c1 c2 c3 c4 c5 f0 f1 f2 f3 f4 f5
    generalize wc.drew = w5 at CR CD BB ⊢
    obtain ⟨c0, c1, c2, c3, c4, c5⟩ := CD.out.six'
    obtain ⟨f0, f1, f2, f3, f4, f5⟩ := CD.out.free6'
    have hb4 := HB4.out
    have CR : Hid (Cs (w5.setCell ⟨b4, 2, none⟩ (.int .i64 r)) w.heap.size [.int .i64 0, .int .i64 0, .int .i64 0, .int .i64 0, .int .i64 0, .int .i64 0]) := CR.out.keep (keep_set _ 2 _ _) (by simp; omega)
    have CD : Hid (Cs (w5.setCell ⟨b4, 2, none⟩ (.int .i64 r)) b4 [.int .i64 y, .int .i64 1, .int .i64 r, .int .i64 h, .int .i64 i, .int .i64 s]) := CD.out.set 2 _
    have BB : Hid (Below w.heap.size w (w5.setCell ⟨b4, 2, none⟩ (.int .i64 r))) := BB.out.setCell (p := ⟨b4, 2, none⟩) (Nat.le_of_lt hb4) _
    go_wp2_with fail
    generalize w5.setCell ⟨b4, 2, none⟩ (.int .i64 r) = w6 at CR CD BB ⊢
    clear c0 c1 c2 c3 c4 c5 f0 f1 f2 f3 f4 f5 w1 BE
    go_loopw [] (fun wx => ∃ k : Nat, (k : Int) + 1 ≤ m ∧ Cs wx w.heap.size [.int .i64 0, .int .i64 0, .int .i64 0, .int .i64 0, .int .i64 0, .int .i64 0] ∧ Cs wx b4 [.int .i64 y, .int .i64 ((k : Int) + 1), .int .i64 (r - toMon y k), .int .i64 h, .int .i64 i, .int .i64 s] ∧ Below w.heap.size w wx) (fun wx => (13 - intOf ((wx.cell? ⟨b4, 1, none⟩).getD undef)).toNat)
    case atStart => exact ⟨0, by have := HY.out; omega, CR.out, by rw [show r - toMon y 0 = r by simp [toMon]]; exact CD.out, BB.out⟩
    case round =>
      obtain ⟨k, hk, hcr, hcd, hbb⟩ := hrel
      have CR := Lib.hid hcr
      have CD := Lib.hid hcd
      have BB := Lib.hid hbb
      clear hcr hcd hbb
      have hy := HY.out
      have hr := HR.out
      obtain ⟨c0, c1, c2, c3, c4, c5⟩ := CD.out.six'
      obtain ⟨f0, f1, f2, f3, f4, f5⟩ := CD.out.free6'
      have H1 := Lib.hid c1
      have hd := dim_bound y ((k : Int) + 1)
      have hn := mon_nonneg y k
      have HS : Hid (toMon y (k + 1) = toMon y k + dim y ((k : Int) + 1)) := rfl
      have hle : toMon y k ≤ r := by have := mon_mono y (show k ≤ (m - 1).toNat by omega); omega
      have w1 := wraps_i64' ((k : Int) + 1 + 1) (by omega) (by omega)
      have w2 := wraps_i64' (r - toMon y k - dim y ((k : Int) + 1)) (by omega) (by omega)
      have DM := Lib.hid (fun W => rdays_any y ((k : Int) + 1) W hy.1 hy.2.1)
      by_cases hlt : (k : Int) + 1 < m
      · have hge : decide (r - toMon y k ≥ dim y ((k : Int) + 1)) = true := decide_eq_true (by
          have := mon_mono y (show k + 1 ≤ (m - 1).toNat by omega)
          have h2 := HS.out
          omega)
        have HK : Hid (r - toMon y k - dim y ((k : Int) + 1) = r - toMon y (k + 1)) := by show _ = _; rw [HS.out]; omega
        clear hle hn hr HR
        generalize r - toMon y k = v at *
        generalize dim y ((k : Int) + 1) = dd at *
        go_wp2_with fail
        go_quiet (first | (go_at_call 27; refine Calls.quiet_of_same (DM.out _)))
        have CR : Hid (Cs (wr.drewN nq) w.heap.size [.int .i64 0, .int .i64 0, .int .i64 0, .int .i64 0, .int .i64 0, .int .i64 0]) := CR.out
        have CD : Hid (Cs (wr.drewN nq) b4 [.int .i64 y, .int .i64 ((k : Int) + 1), .int .i64 v, .int .i64 h, .int .i64 i, .int .i64 s]) := CD.out
        have BB : Hid (Below w.heap.size w (wr.drewN nq)) := below_drewN BB.out _
        clear c0 c1 c2 c3 c4 c5 f0 f1 f2 f3 f4 f5
        generalize wr.drewN nq = w7 at CR CD BB ⊢
        obtain ⟨c0, c1, c2, c3, c4, c5⟩ := CD.out.six'
        obtain ⟨f0, f1, f2, f3, f4, f5⟩ := CD.out.free6'
        go_wp2_with fail
        go_still_tail 9, (by kernel_rfl)
        still_call (DM.out _)
        repeat still_step
        refine wpStill_nil ?_
        change wpList _ _ _ _ _ w7.drew
        have CR : Hid (Cs w7.drew w.heap.size [.int .i64 0, .int .i64 0, .int .i64 0, .int .i64 0, .int .i64 0, .int .i64 0]) := CR.out
        have CD : Hid (Cs w7.drew b4 [.int .i64 y, .int .i64 ((k : Int) + 1), .int .i64 v, .int .i64 h, .int .i64 i, .int .i64 s]) := CD.out
        have BB := Lib.hid BB.out.drew
        clear c0 c1 c2 c3 c4 c5 f0 f1 f2 f3 f4 f5
        generalize w7.drew = w8 at CR CD BB ⊢
        obtain ⟨c0, c1, c2, c3, c4, c5⟩ := CD.out.six'
        obtain ⟨f0, f1, f2, f3, f4, f5⟩ := CD.out.free6'
        have hb4 := HB4.out
        go_wp2
        go_round
        case rel => exact ⟨k + 1, by omega, (CR.out.keep (keep_set _ 2 _ _) (by simp; omega)).keep (keep_set _ 1 _ _) (by simp; omega), by rw [← HK.out]; exact (CD.out.set 2 _).set 1 _, (BB.out.setCell (p := ⟨b4, 2, none⟩) (Nat.le_of_lt hb4) _).setCell (p := ⟨b4, 1, none⟩) (Nat.le_of_lt hb4) _⟩
        case measure =>
          simp only [((CD.out.set 2 (.int .i64 (v - dd))).set 1 (.int .i64 ((k : Int) + 1 + 1))).get 1 _ rfl, H1.out, Option.getD_some, intOf]
          omega
      · have ek : (m - 1).toNat = k := by omega
        rw [ek] at hr
        have em : m.toNat = k + 1 := by omega
        rw [em] at hr
        have ek2 : (k : Int) + 1 = m := by omega
        have hge : decide (r - toMon y k ≥ dim y ((k : Int) + 1)) = false := decide_eq_false (by
          have h2 := HS.out
          omega)
        have w3 : IntKind.i64.wrap (r - toMon y k + 1) = d := by rw [wraps_i64' _ (by omega) (by omega)]; omega
        rw [ek2] at c1 hge DM CD
        clear H1
        clear hle hn hr HR w1 w2 hd HS ek em hlt
        generalize r - toMon y k = v at *
        generalize dim y m = dd at *
        go_wp2_with fail
        go_quiet (first | (go_at_call 27; refine Calls.quiet_of_same (DM.out _)))
        have CR : Hid (Cs (wr.drewN nq) w.heap.size [.int .i64 0, .int .i64 0, .int .i64 0, .int .i64 0, .int .i64 0, .int .i64 0]) := CR.out
        have CD : Hid (Cs (wr.drewN nq) b4 [.int .i64 y, .int .i64 m, .int .i64 v, .int .i64 h, .int .i64 i, .int .i64 s]) := CD.out
        have BB : Hid (Below w.heap.size w (wr.drewN nq)) := below_drewN BB.out _
        clear c0 c1 c2 c3 c4 c5 f0 f1 f2 f3 f4 f5
        generalize wr.drewN nq = w7 at CR CD BB ⊢
        have hb4 := HB4.out
        obtain ⟨c0, c1, c2, c3, c4, c5⟩ := CD.out.six'
        obtain ⟨f0, f1, f2, f3, f4, f5⟩ := CD.out.free6'
        go_upto_region 13 with fail
        have CR : Hid (Cs (w7.setCell ⟨b4, 2, none⟩ (.int .i64 d)) w.heap.size [.int .i64 0, .int .i64 0, .int .i64 0, .int .i64 0, .int .i64 0, .int .i64 0]) := CR.out.keep (keep_set _ 2 _ _) (by simp; omega)
        have CD : Hid (Cs (w7.setCell ⟨b4, 2, none⟩ (.int .i64 d)) b4 [.int .i64 y, .int .i64 m, .int .i64 d, .int .i64 h, .int .i64 i, .int .i64 s]) := CD.out.set 2 _
        have BB : Hid (Below w.heap.size w (w7.setCell ⟨b4, 2, none⟩ (.int .i64 d))) := BB.out.setCell (p := ⟨b4, 2, none⟩) (Nat.le_of_lt hb4) _
        clear c0 c1 c2 c3 c4 c5 f0 f1 f2 f3 f4 f5
        generalize w7.setCell ⟨b4, 2, none⟩ (.int .i64 d) = w9 at CR CD BB ⊢
        obtain ⟨c0, c1, c2, c3, c4, c5⟩ := CD.out.six'
        obtain ⟨r0, r1, r2, r3, r4, r5⟩ := CR.out.six'
        obtain ⟨g0, g1, g2, g3, g4, g5⟩ := CR.out.free6'
        go_wp2
        exact bodyPost_ret (v := .tuple #[.agg #[.int .i64 y, .int .i64 m, .int .i64 d, .int .i64 h, .int .i64 i, .int .i64 s], .int .i64 0]) (by simp [results, Tryd.results13, go_sem, r0, r1, r2, r3, r4, r5]) rfl ⟨rfl, below_six' BB.out _ (Nat.le_refl _) _ _ _ _ _ _⟩
theorem rof_at {t : Dt} {n : Int} (w : World) (hr : rightB t = true) (hn : numI t = n) :
    Calls Tryd.prog 13 #[.int .i64 n] w fun e w' => e = .returned (.tuple #[.agg #[.int .i64 t.y, .int .i64 t.m, .int .i64 t.d, .int .i64 t.h, .int .i64 t.i, .int .i64 t.s], .int .i64 0]) ∧ Below w.heap.size w w' := rof_yes t.y t.m t.d t.h t.i t.s n w hr hn
end Go.Proofs.YtgefnndegjpcpaaDoor
