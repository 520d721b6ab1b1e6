/- Layer 16: the law Back. -/
import Derived.Test.YtgefnndegjpcpaaDoorDtV
import Derived.Deep.RegionHeld
set_option maxRecDepth 100000
set_option linter.unusedSimpArgs false
set_option linter.unusedVariables false
namespace Go.Proofs.YtgefnndegjpcpaaDoor
open Go.RowKit


set_option maxHeartbeats 8000000 in
theorem back_r0 (y m d h i s : Int) (n : Int) (w : World) (ht : Tb w) (hr : rightB ⟨y, m, d, h, i, s⟩ = true) (y' m' d' h' i' s' : Int) (hr2 : rightB ⟨y', m', d', h', i', s'⟩ = true) (hn : numI ⟨y', m', d', h', i', s'⟩ = n) :
    Calls Tryd.prog 5 #[.agg #[.int .i64 y, .int .i64 m, .int .i64 d, .int .i64 h, .int .i64 i, .int .i64 s], .int .i64 n] w (Yes w) := by
  have TT : Hid (Tb (w.alloc (.cells #[.int .i64 y, .int .i64 m, .int .i64 d, .int .i64 h, .int .i64 i, .int .i64 s] 23))) := ht.below ((Below.refl _ w).alloc (Nat.le_refl _) _)
  have BB := Lib.hid ((Below.refl w.heap.size w).alloc (Nat.le_refl _) (.cells #[.int .i64 y, .int .i64 m, .int .i64 d, .int .i64 h, .int .i64 i, .int .i64 s] 23))
  have CA := Lib.hid (Cs.made w #[.int .i64 y, .int .i64 m, .int .i64 d, .int .i64 h, .int .i64 i, .int .i64 s] 23)
  have AL := Lib.hid (fun W hW => alive_any W hW)
  have TH := Lib.hid (fun W => theirs_any y m d h i s W)
  have N1 := Lib.hid (fun W => number_yes y m d h i s W hr)
  have O1 := Lib.hid (fun W => of_yes y m d h i s (numI ⟨y, m, d, h, i, s⟩) W hr rfl)
  generalize numI ⟨y, m, d, h, i, s⟩ = q1 at N1 O1
  have OU := Lib.hid (fun W => ours_any y m d h i s W)
  have hg := guard_date
  have qe := fun W => eql_date y m d h i s y m d h i s W
  simp only [decide_true] at qe
  have hin := num_in hr2
  rw [hn, in_iff] at hin
  have e1 : decide (n ≥ -62167219200) = true := decide_eq_true hin.1
  have e2 : decide (n ≤ 253402300799) = true := decide_eq_true hin.2
  have O2 := Lib.hid (fun W => of_yes y' m' d' h' i' s' n W hr2 hn)
  have N2 := Lib.hid (fun W => number_yes y' m' d' h' i' s' W hr2)
  rw [hn] at N2
  clear hin hr2 hn
  clear hr ht
  obtain ⟨a0, a1, a2, a3, a4, a5⟩ := CA.out.six
  go_enter Tryd.func5, Tryd.ntmps5
  go_upto_region 4 with (first
    | (go_at_call 10; refine (TH.out _).mono ?_; rintro x w1 ⟨rfl, hb⟩; have CA := Lib.hid (CA.out.below hb); have BB := Lib.hid (BB.out.trans (hb.mono BB.out.size)); have TT := Lib.hid (TT.out.below hb); clear hb; obtain ⟨a0, a1, a2, a3, a4, a5⟩ := CA.out.six)
    | (go_at_call 9; refine (N1.out _).mono ?_; rintro x w2 ⟨rfl, hb⟩; have CA := Lib.hid (CA.out.below hb); have BB := Lib.hid (BB.out.trans (hb.mono BB.out.size)); have TT := Lib.hid (TT.out.below hb); clear hb; obtain ⟨a0, a1, a2, a3, a4, a5⟩ := CA.out.six)
    | (go_at_call 12; refine (O1.out _).mono ?_; rintro x w3 ⟨rfl, hb⟩; have CA := Lib.hid (CA.out.below hb); have BB := Lib.hid (BB.out.trans (hb.mono BB.out.size)); have TT := Lib.hid (TT.out.below hb); clear hb; have CA := Lib.hid (CA.out.below ((Below.refl _ w3).alloc (Nat.le_refl _) (.cells #[.int .i64 y, .int .i64 m, .int .i64 d, .int .i64 h, .int .i64 i, .int .i64 s] 27))); have CB := Lib.hid (Cs.made w3 #[.int .i64 y, .int .i64 m, .int .i64 d, .int .i64 h, .int .i64 i, .int .i64 s] 27); have TT := Lib.hid (TT.out.below ((Below.refl _ w3).alloc (Nat.le_refl _) (.cells #[.int .i64 y, .int .i64 m, .int .i64 d, .int .i64 h, .int .i64 i, .int .i64 s] 27))); have BB := Lib.hid (BB.out.alloc BB.out.size (.cells #[.int .i64 y, .int .i64 m, .int .i64 d, .int .i64 h, .int .i64 i, .int .i64 s] 27))))
  have CA := Lib.hid CA.out.drew
  have CB := Lib.hid CB.out.drew
  have TT : Hid (Tb (w3.alloc (.cells #[.int .i64 y, .int .i64 m, .int .i64 d, .int .i64 h, .int .i64 i, .int .i64 s] 27)).drew) := TT.out.below (Below.refl _ _).drew
  have BB := Lib.hid BB.out.drew
  obtain ⟨a0, a1, a2, a3, a4, a5⟩ := CA.out.six
  obtain ⟨b0, b1, b2, b3, b4, b5⟩ := CB.out.six
  go_region_held (fun W => (W.cell? ⟨w.heap.size, 0, none⟩ = some (.int .i64 y) ∧ W.cell? ⟨w.heap.size, 1, none⟩ = some (.int .i64 m) ∧ W.cell? ⟨w.heap.size, 2, none⟩ = some (.int .i64 d) ∧ W.cell? ⟨w.heap.size, 3, none⟩ = some (.int .i64 h) ∧ W.cell? ⟨w.heap.size, 4, none⟩ = some (.int .i64 i) ∧ W.cell? ⟨w.heap.size, 5, none⟩ = some (.int .i64 s)) ∧ W.cell? ⟨w3.heap.size, 0, none⟩ = some (.int .i64 y) ∧ W.cell? ⟨w3.heap.size, 1, none⟩ = some (.int .i64 m) ∧ W.cell? ⟨w3.heap.size, 2, none⟩ = some (.int .i64 d) ∧ W.cell? ⟨w3.heap.size, 3, none⟩ = some (.int .i64 h) ∧ W.cell? ⟨w3.heap.size, 4, none⟩ = some (.int .i64 i) ∧ W.cell? ⟨w3.heap.size, 5, none⟩ = some (.int .i64 s))
    (first
      | (exact ⟨⟨a0, a1, a2, a3, a4, a5⟩, b0, b1, b2, b3, b4, b5⟩))
    (first
      | (go_at_call 14; refine (OU.out _).mono ?_; rintro x wa ⟨rfl, hb⟩; have CA := Lib.hid (CA.out.below hb); have CB := Lib.hid (CB.out.below hb); have BB := Lib.hid (BB.out.trans (hb.mono BB.out.size)); have TT := Lib.hid (TT.out.below hb); clear hb; obtain ⟨a0, a1, a2, a3, a4, a5⟩ := CA.out.six; obtain ⟨b0, b1, b2, b3, b4, b5⟩ := CB.out.six))
  all_goals
    go_wp2_with (first
      | (go_at_call 12; refine (O2.out _).mono ?_; rintro x w5 ⟨rfl, hb⟩; have BB := Lib.hid (BB.out.trans (hb.mono BB.out.size)); have TT := Lib.hid (TT.out.below hb); clear hb; have CE := Lib.hid (Cs.made w5 #[.int .i64 y', .int .i64 m', .int .i64 d', .int .i64 h', .int .i64 i', .int .i64 s'] 27); have TT := Lib.hid (TT.out.below ((Below.refl _ w5).alloc (Nat.le_refl _) (.cells #[.int .i64 y', .int .i64 m', .int .i64 d', .int .i64 h', .int .i64 i', .int .i64 s'] 27))); have BB := Lib.hid (BB.out.alloc BB.out.size (.cells #[.int .i64 y', .int .i64 m', .int .i64 d', .int .i64 h', .int .i64 i', .int .i64 s'] 27)); obtain ⟨g0, g1, g2, g3, g4, g5⟩ := CE.out.six)
      | (go_at_call 9; refine (N2.out _).mono ?_; rintro x w6 ⟨rfl, hb⟩; have BB := Lib.hid (BB.out.trans (hb.mono BB.out.size)); have TT := Lib.hid (TT.out.below hb); clear hb)
      | (go_at_call 17; refine (AL.out _ TT.out).mono ?_; rintro x w9 ⟨rfl, hb⟩; have BB := Lib.hid (BB.out.trans (hb.mono BB.out.size)); clear hb))
    go_ret
    exact ⟨rfl, BB.out⟩

set_option maxHeartbeats 8000000 in
theorem back_r1 (y m d h i s : Int) (n : Int) (w : World) (ht : Tb w) (hr : rightB ⟨y, m, d, h, i, s⟩ = true) (h1 : ¬ n ≥ -62167219200) :
    Calls Tryd.prog 5 #[.agg #[.int .i64 y, .int .i64 m, .int .i64 d, .int .i64 h, .int .i64 i, .int .i64 s], .int .i64 n] w (Yes w) := by
  have TT : Hid (Tb (w.alloc (.cells #[.int .i64 y, .int .i64 m, .int .i64 d, .int .i64 h, .int .i64 i, .int .i64 s] 23))) := ht.below ((Below.refl _ w).alloc (Nat.le_refl _) _)
  have BB := Lib.hid ((Below.refl w.heap.size w).alloc (Nat.le_refl _) (.cells #[.int .i64 y, .int .i64 m, .int .i64 d, .int .i64 h, .int .i64 i, .int .i64 s] 23))
  have CA := Lib.hid (Cs.made w #[.int .i64 y, .int .i64 m, .int .i64 d, .int .i64 h, .int .i64 i, .int .i64 s] 23)
  have AL := Lib.hid (fun W hW => alive_any W hW)
  have TH := Lib.hid (fun W => theirs_any y m d h i s W)
  have N1 := Lib.hid (fun W => number_yes y m d h i s W hr)
  have O1 := Lib.hid (fun W => of_yes y m d h i s (numI ⟨y, m, d, h, i, s⟩) W hr rfl)
  generalize numI ⟨y, m, d, h, i, s⟩ = q1 at N1 O1
  have OU := Lib.hid (fun W => ours_any y m d h i s W)
  have hg := guard_date
  have qe := fun W => eql_date y m d h i s y m d h i s W
  simp only [decide_true] at qe
  have e1 : decide (n ≥ -62167219200) = false := decide_eq_false h1
  have hno : inB n = false := by
    cases hin : inB n
    · rfl
    · rw [in_iff] at hin
      omega
  have O2 := Lib.hid (fun W => of_no n W hno)
  clear hno h1
  clear hr ht
  obtain ⟨a0, a1, a2, a3, a4, a5⟩ := CA.out.six
  go_enter Tryd.func5, Tryd.ntmps5
  go_upto_region 4 with (first
    | (go_at_call 10; refine (TH.out _).mono ?_; rintro x w1 ⟨rfl, hb⟩; have CA := Lib.hid (CA.out.below hb); have BB := Lib.hid (BB.out.trans (hb.mono BB.out.size)); have TT := Lib.hid (TT.out.below hb); clear hb; obtain ⟨a0, a1, a2, a3, a4, a5⟩ := CA.out.six)
    | (go_at_call 9; refine (N1.out _).mono ?_; rintro x w2 ⟨rfl, hb⟩; have CA := Lib.hid (CA.out.below hb); have BB := Lib.hid (BB.out.trans (hb.mono BB.out.size)); have TT := Lib.hid (TT.out.below hb); clear hb; obtain ⟨a0, a1, a2, a3, a4, a5⟩ := CA.out.six)
    | (go_at_call 12; refine (O1.out _).mono ?_; rintro x w3 ⟨rfl, hb⟩; have CA := Lib.hid (CA.out.below hb); have BB := Lib.hid (BB.out.trans (hb.mono BB.out.size)); have TT := Lib.hid (TT.out.below hb); clear hb; have CA := Lib.hid (CA.out.below ((Below.refl _ w3).alloc (Nat.le_refl _) (.cells #[.int .i64 y, .int .i64 m, .int .i64 d, .int .i64 h, .int .i64 i, .int .i64 s] 27))); have CB := Lib.hid (Cs.made w3 #[.int .i64 y, .int .i64 m, .int .i64 d, .int .i64 h, .int .i64 i, .int .i64 s] 27); have TT := Lib.hid (TT.out.below ((Below.refl _ w3).alloc (Nat.le_refl _) (.cells #[.int .i64 y, .int .i64 m, .int .i64 d, .int .i64 h, .int .i64 i, .int .i64 s] 27))); have BB := Lib.hid (BB.out.alloc BB.out.size (.cells #[.int .i64 y, .int .i64 m, .int .i64 d, .int .i64 h, .int .i64 i, .int .i64 s] 27))))
  have CA := Lib.hid CA.out.drew
  have CB := Lib.hid CB.out.drew
  have TT : Hid (Tb (w3.alloc (.cells #[.int .i64 y, .int .i64 m, .int .i64 d, .int .i64 h, .int .i64 i, .int .i64 s] 27)).drew) := TT.out.below (Below.refl _ _).drew
  have BB := Lib.hid BB.out.drew
  obtain ⟨a0, a1, a2, a3, a4, a5⟩ := CA.out.six
  obtain ⟨b0, b1, b2, b3, b4, b5⟩ := CB.out.six
  go_region_held (fun W => (W.cell? ⟨w.heap.size, 0, none⟩ = some (.int .i64 y) ∧ W.cell? ⟨w.heap.size, 1, none⟩ = some (.int .i64 m) ∧ W.cell? ⟨w.heap.size, 2, none⟩ = some (.int .i64 d) ∧ W.cell? ⟨w.heap.size, 3, none⟩ = some (.int .i64 h) ∧ W.cell? ⟨w.heap.size, 4, none⟩ = some (.int .i64 i) ∧ W.cell? ⟨w.heap.size, 5, none⟩ = some (.int .i64 s)) ∧ W.cell? ⟨w3.heap.size, 0, none⟩ = some (.int .i64 y) ∧ W.cell? ⟨w3.heap.size, 1, none⟩ = some (.int .i64 m) ∧ W.cell? ⟨w3.heap.size, 2, none⟩ = some (.int .i64 d) ∧ W.cell? ⟨w3.heap.size, 3, none⟩ = some (.int .i64 h) ∧ W.cell? ⟨w3.heap.size, 4, none⟩ = some (.int .i64 i) ∧ W.cell? ⟨w3.heap.size, 5, none⟩ = some (.int .i64 s))
    (first
      | (exact ⟨⟨a0, a1, a2, a3, a4, a5⟩, b0, b1, b2, b3, b4, b5⟩))
    (first
      | (go_at_call 14; refine (OU.out _).mono ?_; rintro x wa ⟨rfl, hb⟩; have CA := Lib.hid (CA.out.below hb); have CB := Lib.hid (CB.out.below hb); have BB := Lib.hid (BB.out.trans (hb.mono BB.out.size)); have TT := Lib.hid (TT.out.below hb); clear hb; obtain ⟨a0, a1, a2, a3, a4, a5⟩ := CA.out.six; obtain ⟨b0, b1, b2, b3, b4, b5⟩ := CB.out.six))
  all_goals
    go_wp2_with (first
      | (go_at_call 12; refine (O2.out _).mono ?_; rintro x w5 ⟨rfl, hb⟩; have BB := Lib.hid (BB.out.trans (hb.mono BB.out.size)); have TT := Lib.hid (TT.out.below hb); clear hb; have TT := Lib.hid (TT.out.below ((Below.refl _ w5).alloc (Nat.le_refl _) (.cells #[.int .i64 0, .int .i64 0, .int .i64 0, .int .i64 0, .int .i64 0, .int .i64 0] 27))); have BB := Lib.hid (BB.out.alloc BB.out.size (.cells #[.int .i64 0, .int .i64 0, .int .i64 0, .int .i64 0, .int .i64 0, .int .i64 0] 27)))
      | (go_at_call 17; refine (AL.out _ TT.out).mono ?_; rintro x w9 ⟨rfl, hb⟩; have BB := Lib.hid (BB.out.trans (hb.mono BB.out.size)); clear hb))
    go_ret
    exact ⟨rfl, BB.out⟩

set_option maxHeartbeats 8000000 in
theorem back_r2 (y m d h i s : Int) (n : Int) (w : World) (ht : Tb w) (hr : rightB ⟨y, m, d, h, i, s⟩ = true) (h1 : n ≥ -62167219200) (h2 : ¬ n ≤ 253402300799) :
    Calls Tryd.prog 5 #[.agg #[.int .i64 y, .int .i64 m, .int .i64 d, .int .i64 h, .int .i64 i, .int .i64 s], .int .i64 n] w (Yes w) := by
  have TT : Hid (Tb (w.alloc (.cells #[.int .i64 y, .int .i64 m, .int .i64 d, .int .i64 h, .int .i64 i, .int .i64 s] 23))) := ht.below ((Below.refl _ w).alloc (Nat.le_refl _) _)
  have BB := Lib.hid ((Below.refl w.heap.size w).alloc (Nat.le_refl _) (.cells #[.int .i64 y, .int .i64 m, .int .i64 d, .int .i64 h, .int .i64 i, .int .i64 s] 23))
  have CA := Lib.hid (Cs.made w #[.int .i64 y, .int .i64 m, .int .i64 d, .int .i64 h, .int .i64 i, .int .i64 s] 23)
  have AL := Lib.hid (fun W hW => alive_any W hW)
  have TH := Lib.hid (fun W => theirs_any y m d h i s W)
  have N1 := Lib.hid (fun W => number_yes y m d h i s W hr)
  have O1 := Lib.hid (fun W => of_yes y m d h i s (numI ⟨y, m, d, h, i, s⟩) W hr rfl)
  generalize numI ⟨y, m, d, h, i, s⟩ = q1 at N1 O1
  have OU := Lib.hid (fun W => ours_any y m d h i s W)
  have hg := guard_date
  have qe := fun W => eql_date y m d h i s y m d h i s W
  simp only [decide_true] at qe
  have e1 : decide (n ≥ -62167219200) = true := decide_eq_true h1
  have e2 : decide (n ≤ 253402300799) = false := decide_eq_false h2
  have hno : inB n = false := by
    cases hin : inB n
    · rfl
    · rw [in_iff] at hin
      omega
  have O2 := Lib.hid (fun W => of_no n W hno)
  clear hno h1 h2
  clear hr ht
  obtain ⟨a0, a1, a2, a3, a4, a5⟩ := CA.out.six
  go_enter Tryd.func5, Tryd.ntmps5
  go_upto_region 4 with (first
    | (go_at_call 10; refine (TH.out _).mono ?_; rintro x w1 ⟨rfl, hb⟩; have CA := Lib.hid (CA.out.below hb); have BB := Lib.hid (BB.out.trans (hb.mono BB.out.size)); have TT := Lib.hid (TT.out.below hb); clear hb; obtain ⟨a0, a1, a2, a3, a4, a5⟩ := CA.out.six)
    | (go_at_call 9; refine (N1.out _).mono ?_; rintro x w2 ⟨rfl, hb⟩; have CA := Lib.hid (CA.out.below hb); have BB := Lib.hid (BB.out.trans (hb.mono BB.out.size)); have TT := Lib.hid (TT.out.below hb); clear hb; obtain ⟨a0, a1, a2, a3, a4, a5⟩ := CA.out.six)
    | (go_at_call 12; refine (O1.out _).mono ?_; rintro x w3 ⟨rfl, hb⟩; have CA := Lib.hid (CA.out.below hb); have BB := Lib.hid (BB.out.trans (hb.mono BB.out.size)); have TT := Lib.hid (TT.out.below hb); clear hb; have CA := Lib.hid (CA.out.below ((Below.refl _ w3).alloc (Nat.le_refl _) (.cells #[.int .i64 y, .int .i64 m, .int .i64 d, .int .i64 h, .int .i64 i, .int .i64 s] 27))); have CB := Lib.hid (Cs.made w3 #[.int .i64 y, .int .i64 m, .int .i64 d, .int .i64 h, .int .i64 i, .int .i64 s] 27); have TT := Lib.hid (TT.out.below ((Below.refl _ w3).alloc (Nat.le_refl _) (.cells #[.int .i64 y, .int .i64 m, .int .i64 d, .int .i64 h, .int .i64 i, .int .i64 s] 27))); have BB := Lib.hid (BB.out.alloc BB.out.size (.cells #[.int .i64 y, .int .i64 m, .int .i64 d, .int .i64 h, .int .i64 i, .int .i64 s] 27))))
  have CA := Lib.hid CA.out.drew
  have CB := Lib.hid CB.out.drew
  have TT : Hid (Tb (w3.alloc (.cells #[.int .i64 y, .int .i64 m, .int .i64 d, .int .i64 h, .int .i64 i, .int .i64 s] 27)).drew) := TT.out.below (Below.refl _ _).drew
  have BB := Lib.hid BB.out.drew
  obtain ⟨a0, a1, a2, a3, a4, a5⟩ := CA.out.six
  obtain ⟨b0, b1, b2, b3, b4, b5⟩ := CB.out.six
  go_region_held (fun W => (W.cell? ⟨w.heap.size, 0, none⟩ = some (.int .i64 y) ∧ W.cell? ⟨w.heap.size, 1, none⟩ = some (.int .i64 m) ∧ W.cell? ⟨w.heap.size, 2, none⟩ = some (.int .i64 d) ∧ W.cell? ⟨w.heap.size, 3, none⟩ = some (.int .i64 h) ∧ W.cell? ⟨w.heap.size, 4, none⟩ = some (.int .i64 i) ∧ W.cell? ⟨w.heap.size, 5, none⟩ = some (.int .i64 s)) ∧ W.cell? ⟨w3.heap.size, 0, none⟩ = some (.int .i64 y) ∧ W.cell? ⟨w3.heap.size, 1, none⟩ = some (.int .i64 m) ∧ W.cell? ⟨w3.heap.size, 2, none⟩ = some (.int .i64 d) ∧ W.cell? ⟨w3.heap.size, 3, none⟩ = some (.int .i64 h) ∧ W.cell? ⟨w3.heap.size, 4, none⟩ = some (.int .i64 i) ∧ W.cell? ⟨w3.heap.size, 5, none⟩ = some (.int .i64 s))
    (first
      | (exact ⟨⟨a0, a1, a2, a3, a4, a5⟩, b0, b1, b2, b3, b4, b5⟩))
    (first
      | (go_at_call 14; refine (OU.out _).mono ?_; rintro x wa ⟨rfl, hb⟩; have CA := Lib.hid (CA.out.below hb); have CB := Lib.hid (CB.out.below hb); have BB := Lib.hid (BB.out.trans (hb.mono BB.out.size)); have TT := Lib.hid (TT.out.below hb); clear hb; obtain ⟨a0, a1, a2, a3, a4, a5⟩ := CA.out.six; obtain ⟨b0, b1, b2, b3, b4, b5⟩ := CB.out.six))
  all_goals
    go_wp2_with (first
      | (go_at_call 12; refine (O2.out _).mono ?_; rintro x w5 ⟨rfl, hb⟩; have BB := Lib.hid (BB.out.trans (hb.mono BB.out.size)); have TT := Lib.hid (TT.out.below hb); clear hb; have TT := Lib.hid (TT.out.below ((Below.refl _ w5).alloc (Nat.le_refl _) (.cells #[.int .i64 0, .int .i64 0, .int .i64 0, .int .i64 0, .int .i64 0, .int .i64 0] 27))); have BB := Lib.hid (BB.out.alloc BB.out.size (.cells #[.int .i64 0, .int .i64 0, .int .i64 0, .int .i64 0, .int .i64 0, .int .i64 0] 27)))
      | (go_at_call 17; refine (AL.out _ TT.out).mono ?_; rintro x w9 ⟨rfl, hb⟩; have BB := Lib.hid (BB.out.trans (hb.mono BB.out.size)); clear hb))
    go_ret
    exact ⟨rfl, BB.out⟩

set_option maxHeartbeats 8000000 in
theorem back_n0 (y m d h i s : Int) (n : Int) (w : World) (ht : Tb w) (hr : rightB ⟨y, m, d, h, i, s⟩ = false) (y' m' d' h' i' s' : Int) (hr2 : rightB ⟨y', m', d', h', i', s'⟩ = true) (hn : numI ⟨y', m', d', h', i', s'⟩ = n) :
    Calls Tryd.prog 5 #[.agg #[.int .i64 y, .int .i64 m, .int .i64 d, .int .i64 h, .int .i64 i, .int .i64 s], .int .i64 n] w (Yes w) := by
  have TT : Hid (Tb (w.alloc (.cells #[.int .i64 y, .int .i64 m, .int .i64 d, .int .i64 h, .int .i64 i, .int .i64 s] 23))) := ht.below ((Below.refl _ w).alloc (Nat.le_refl _) _)
  have BB := Lib.hid ((Below.refl w.heap.size w).alloc (Nat.le_refl _) (.cells #[.int .i64 y, .int .i64 m, .int .i64 d, .int .i64 h, .int .i64 i, .int .i64 s] 23))
  have CA := Lib.hid (Cs.made w #[.int .i64 y, .int .i64 m, .int .i64 d, .int .i64 h, .int .i64 i, .int .i64 s] 23)
  have AL := Lib.hid (fun W hW => alive_any W hW)
  have TH := Lib.hid (fun W => theirs_any y m d h i s W)
  have N1 := Lib.hid (fun W => number_no y m d h i s W hr)
  have hin := num_in hr2
  rw [hn, in_iff] at hin
  have e1 : decide (n ≥ -62167219200) = true := decide_eq_true hin.1
  have e2 : decide (n ≤ 253402300799) = true := decide_eq_true hin.2
  have O2 := Lib.hid (fun W => of_yes y' m' d' h' i' s' n W hr2 hn)
  have N2 := Lib.hid (fun W => number_yes y' m' d' h' i' s' W hr2)
  rw [hn] at N2
  clear hin hr2 hn
  clear hr ht
  obtain ⟨a0, a1, a2, a3, a4, a5⟩ := CA.out.six
  go_enter Tryd.func5, Tryd.ntmps5
  go_wp2_with (first
    | (go_at_call 10; refine (TH.out _).mono ?_; rintro x w1 ⟨rfl, hb⟩; have CA := Lib.hid (CA.out.below hb); have BB := Lib.hid (BB.out.trans (hb.mono BB.out.size)); have TT := Lib.hid (TT.out.below hb); clear hb; obtain ⟨a0, a1, a2, a3, a4, a5⟩ := CA.out.six)
    | (go_at_call 12; refine (O2.out _).mono ?_; rintro x w5 ⟨rfl, hb⟩; have BB := Lib.hid (BB.out.trans (hb.mono BB.out.size)); have TT := Lib.hid (TT.out.below hb); clear hb; have CE := Lib.hid (Cs.made w5 #[.int .i64 y', .int .i64 m', .int .i64 d', .int .i64 h', .int .i64 i', .int .i64 s'] 27); have TT := Lib.hid (TT.out.below ((Below.refl _ w5).alloc (Nat.le_refl _) (.cells #[.int .i64 y', .int .i64 m', .int .i64 d', .int .i64 h', .int .i64 i', .int .i64 s'] 27))); have BB := Lib.hid (BB.out.alloc BB.out.size (.cells #[.int .i64 y', .int .i64 m', .int .i64 d', .int .i64 h', .int .i64 i', .int .i64 s'] 27)); obtain ⟨g0, g1, g2, g3, g4, g5⟩ := CE.out.six)
    | (go_at_call_of 9 (Value.agg #[.int .i64 y, .int .i64 m, .int .i64 d, .int .i64 h, .int .i64 i, .int .i64 s]); refine (N1.out _).mono ?_; rintro x w2 ⟨rfl, hb⟩; have BB := Lib.hid (BB.out.trans (hb.mono BB.out.size)); have TT := Lib.hid (TT.out.below hb); clear hb)
    | (go_at_call_of 9 (Value.agg #[.int .i64 y', .int .i64 m', .int .i64 d', .int .i64 h', .int .i64 i', .int .i64 s']); refine (N2.out _).mono ?_; rintro x w6 ⟨rfl, hb⟩; have BB := Lib.hid (BB.out.trans (hb.mono BB.out.size)); have TT := Lib.hid (TT.out.below hb); clear hb)
    | (go_at_call 17; refine (AL.out _ TT.out).mono ?_; rintro x w9 ⟨rfl, hb⟩; have BB := Lib.hid (BB.out.trans (hb.mono BB.out.size)); clear hb))
  go_ret
  exact ⟨rfl, BB.out⟩

set_option maxHeartbeats 8000000 in
theorem back_n1 (y m d h i s : Int) (n : Int) (w : World) (ht : Tb w) (hr : rightB ⟨y, m, d, h, i, s⟩ = false) (h1 : ¬ n ≥ -62167219200) :
    Calls Tryd.prog 5 #[.agg #[.int .i64 y, .int .i64 m, .int .i64 d, .int .i64 h, .int .i64 i, .int .i64 s], .int .i64 n] w (Yes w) := by
  have TT : Hid (Tb (w.alloc (.cells #[.int .i64 y, .int .i64 m, .int .i64 d, .int .i64 h, .int .i64 i, .int .i64 s] 23))) := ht.below ((Below.refl _ w).alloc (Nat.le_refl _) _)
  have BB := Lib.hid ((Below.refl w.heap.size w).alloc (Nat.le_refl _) (.cells #[.int .i64 y, .int .i64 m, .int .i64 d, .int .i64 h, .int .i64 i, .int .i64 s] 23))
  have CA := Lib.hid (Cs.made w #[.int .i64 y, .int .i64 m, .int .i64 d, .int .i64 h, .int .i64 i, .int .i64 s] 23)
  have AL := Lib.hid (fun W hW => alive_any W hW)
  have TH := Lib.hid (fun W => theirs_any y m d h i s W)
  have N1 := Lib.hid (fun W => number_no y m d h i s W hr)
  have e1 : decide (n ≥ -62167219200) = false := decide_eq_false h1
  have hno : inB n = false := by
    cases hin : inB n
    · rfl
    · rw [in_iff] at hin
      omega
  have O2 := Lib.hid (fun W => of_no n W hno)
  clear hno h1
  clear hr ht
  obtain ⟨a0, a1, a2, a3, a4, a5⟩ := CA.out.six
  go_enter Tryd.func5, Tryd.ntmps5
  go_wp2_with (first
    | (go_at_call 10; refine (TH.out _).mono ?_; rintro x w1 ⟨rfl, hb⟩; have CA := Lib.hid (CA.out.below hb); have BB := Lib.hid (BB.out.trans (hb.mono BB.out.size)); have TT := Lib.hid (TT.out.below hb); clear hb; obtain ⟨a0, a1, a2, a3, a4, a5⟩ := CA.out.six)
    | (go_at_call 9; refine (N1.out _).mono ?_; rintro x w2 ⟨rfl, hb⟩; have CA := Lib.hid (CA.out.below hb); have BB := Lib.hid (BB.out.trans (hb.mono BB.out.size)); have TT := Lib.hid (TT.out.below hb); clear hb; obtain ⟨a0, a1, a2, a3, a4, a5⟩ := CA.out.six)
    | (go_at_call 12; refine (O2.out _).mono ?_; rintro x w5 ⟨rfl, hb⟩; have BB := Lib.hid (BB.out.trans (hb.mono BB.out.size)); have TT := Lib.hid (TT.out.below hb); clear hb; have TT := Lib.hid (TT.out.below ((Below.refl _ w5).alloc (Nat.le_refl _) (.cells #[.int .i64 0, .int .i64 0, .int .i64 0, .int .i64 0, .int .i64 0, .int .i64 0] 27))); have BB := Lib.hid (BB.out.alloc BB.out.size (.cells #[.int .i64 0, .int .i64 0, .int .i64 0, .int .i64 0, .int .i64 0, .int .i64 0] 27)))
    | (go_at_call 17; refine (AL.out _ TT.out).mono ?_; rintro x w9 ⟨rfl, hb⟩; have BB := Lib.hid (BB.out.trans (hb.mono BB.out.size)); clear hb))
  go_ret
  exact ⟨rfl, BB.out⟩

set_option maxHeartbeats 8000000 in
theorem back_n2 (y m d h i s : Int) (n : Int) (w : World) (ht : Tb w) (hr : rightB ⟨y, m, d, h, i, s⟩ = false) (h1 : n ≥ -62167219200) (h2 : ¬ n ≤ 253402300799) :
    Calls Tryd.prog 5 #[.agg #[.int .i64 y, .int .i64 m, .int .i64 d, .int .i64 h, .int .i64 i, .int .i64 s], .int .i64 n] w (Yes w) := by
  have TT : Hid (Tb (w.alloc (.cells #[.int .i64 y, .int .i64 m, .int .i64 d, .int .i64 h, .int .i64 i, .int .i64 s] 23))) := ht.below ((Below.refl _ w).alloc (Nat.le_refl _) _)
  have BB := Lib.hid ((Below.refl w.heap.size w).alloc (Nat.le_refl _) (.cells #[.int .i64 y, .int .i64 m, .int .i64 d, .int .i64 h, .int .i64 i, .int .i64 s] 23))
  have CA := Lib.hid (Cs.made w #[.int .i64 y, .int .i64 m, .int .i64 d, .int .i64 h, .int .i64 i, .int .i64 s] 23)
  have AL := Lib.hid (fun W hW => alive_any W hW)
  have TH := Lib.hid (fun W => theirs_any y m d h i s W)
  have N1 := Lib.hid (fun W => number_no y m d h i s W hr)
  have e1 : decide (n ≥ -62167219200) = true := decide_eq_true h1
  have e2 : decide (n ≤ 253402300799) = false := decide_eq_false h2
  have hno : inB n = false := by
    cases hin : inB n
    · rfl
    · rw [in_iff] at hin
      omega
  have O2 := Lib.hid (fun W => of_no n W hno)
  clear hno h1 h2
  clear hr ht
  obtain ⟨a0, a1, a2, a3, a4, a5⟩ := CA.out.six
  go_enter Tryd.func5, Tryd.ntmps5
  go_wp2_with (first
    | (go_at_call 10; refine (TH.out _).mono ?_; rintro x w1 ⟨rfl, hb⟩; have CA := Lib.hid (CA.out.below hb); have BB := Lib.hid (BB.out.trans (hb.mono BB.out.size)); have TT := Lib.hid (TT.out.below hb); clear hb; obtain ⟨a0, a1, a2, a3, a4, a5⟩ := CA.out.six)
    | (go_at_call 9; refine (N1.out _).mono ?_; rintro x w2 ⟨rfl, hb⟩; have CA := Lib.hid (CA.out.below hb); have BB := Lib.hid (BB.out.trans (hb.mono BB.out.size)); have TT := Lib.hid (TT.out.below hb); clear hb; obtain ⟨a0, a1, a2, a3, a4, a5⟩ := CA.out.six)
    | (go_at_call 12; refine (O2.out _).mono ?_; rintro x w5 ⟨rfl, hb⟩; have BB := Lib.hid (BB.out.trans (hb.mono BB.out.size)); have TT := Lib.hid (TT.out.below hb); clear hb; have TT := Lib.hid (TT.out.below ((Below.refl _ w5).alloc (Nat.le_refl _) (.cells #[.int .i64 0, .int .i64 0, .int .i64 0, .int .i64 0, .int .i64 0, .int .i64 0] 27))); have BB := Lib.hid (BB.out.alloc BB.out.size (.cells #[.int .i64 0, .int .i64 0, .int .i64 0, .int .i64 0, .int .i64 0, .int .i64 0] 27)))
    | (go_at_call 17; refine (AL.out _ TT.out).mono ?_; rintro x w9 ⟨rfl, hb⟩; have BB := Lib.hid (BB.out.trans (hb.mono BB.out.size)); clear hb))
  go_ret
  exact ⟨rfl, BB.out⟩

theorem back_walk (y m d h i s : Int) (n : Int) (w : World) (ht : Tb w) :
    Calls Tryd.prog 5 #[.agg #[.int .i64 y, .int .i64 m, .int .i64 d, .int .i64 h, .int .i64 i, .int .i64 s], .int .i64 n] w (Yes w) := by
  cases hr : rightB ⟨y, m, d, h, i, s⟩
  · by_cases h1 : n ≥ -62167219200
    · by_cases h2 : n ≤ 253402300799
      · obtain ⟨t, hr2, hn⟩ := date_ex (in_iff.2 ⟨h1, h2⟩)
        exact back_n0 y m d h i s n w ht hr t.y t.m t.d t.h t.i t.s hr2 hn
      · exact back_n2 y m d h i s n w ht hr h1 h2
    · exact back_n1 y m d h i s n w ht hr h1
  · by_cases h1 : n ≥ -62167219200
    · by_cases h2 : n ≤ 253402300799
      · obtain ⟨t, hr2, hn⟩ := date_ex (in_iff.2 ⟨h1, h2⟩)
        exact back_r0 y m d h i s n w ht hr t.y t.m t.d t.h t.i t.s hr2 hn
      · exact back_r2 y m d h i s n w ht hr h1 h2
    · exact back_r1 y m d h i s n w ht hr h1
end Go.Proofs.YtgefnndegjpcpaaDoor
