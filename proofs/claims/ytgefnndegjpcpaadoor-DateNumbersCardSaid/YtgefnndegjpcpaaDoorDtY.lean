/- Layer 16: the laws Numbers and Back. -/
import Derived.Test.YtgefnndegjpcpaaDoorDtV
import Derived.Test.YtgefnndegjpcpaaDoorDtN
import Derived.Test.YtgefnndegjpcpaaDoorDtO
import Derived.Deep.RegionHeld
set_option maxRecDepth 100000
set_option linter.unusedSimpArgs false
set_option linter.unusedVariables false
namespace Go.Proofs.YtgefnndegjpcpaaDoor
open Go.RowKit

theorem ofs_both (n : Int) : ∃ (y m d h i s e : Int), (∀ W, Calls Tryd.prog 12 #[.int .i64 n] W fun x w' => x = .returned (.tuple #[.agg #[.int .i64 y, .int .i64 m, .int .i64 d, .int .i64 h, .int .i64 i, .int .i64 s], .int .i64 e]) ∧ Below W.heap.size W w') ∧
    (∀ W, Calls Tryd.prog 13 #[.int .i64 n] W fun x w' => x = .returned (.tuple #[.agg #[.int .i64 y, .int .i64 m, .int .i64 d, .int .i64 h, .int .i64 i, .int .i64 s], .int .i64 e]) ∧ Below W.heap.size W w') := by
  cases h : inB n
  · exact ⟨0, 0, 0, 0, 0, 0, 1, fun W => of_no n W h, fun W => rof_no n W h⟩
  · obtain ⟨t, hr, hn⟩ := date_ex h
    exact ⟨t.y, t.m, t.d, t.h, t.i, t.s, 0, fun W => of_at W hr hn, fun W => rof_at W hr hn⟩

set_option maxHeartbeats 8000000 in
theorem numbers_walk (y m d h i s : Int) (n : Int) (w : World) (ht : Tb w) :
    Calls Tryd.prog 3 #[.agg #[.int .i64 y, .int .i64 m, .int .i64 d, .int .i64 h, .int .i64 i, .int .i64 s], .int .i64 n] w (Yes w) := by
  have TT : Hid (Tb (w.alloc (.cells #[.int .i64 y, .int .i64 m, .int .i64 d, .int .i64 h, .int .i64 i, .int .i64 s] 23))) := ht.below ((Below.refl _ w).alloc (Nat.le_refl _) _)
  have BB := Lib.hid ((Below.refl w.heap.size w).alloc (Nat.le_refl _) (.cells #[.int .i64 y, .int .i64 m, .int .i64 d, .int .i64 h, .int .i64 i, .int .i64 s] 23))
  have CA := Lib.hid (Cs.made w #[.int .i64 y, .int .i64 m, .int .i64 d, .int .i64 h, .int .i64 i, .int .i64 s] 23)
  have AL := Lib.hid (fun W hW => alive_any W hW)
  have TH := Lib.hid (fun W => theirs_any y m d h i s W)
  have N1 := Lib.hid (fun W => number_any ⟨y, m, d, h, i, s⟩ W)
  have N2 := Lib.hid (fun W => rnumber_any ⟨y, m, d, h, i, s⟩ W)
  generalize (numE ⟨y, m, d, h, i, s⟩).1 = q1 at N1 N2
  generalize (numE ⟨y, m, d, h, i, s⟩).2 = q2 at N1 N2
  obtain ⟨y', m', d', h', i', s', e, o1, o2⟩ := ofs_both n
  have O1 := Lib.hid o1
  have O2 := Lib.hid o2
  have K1 := Lib.hid (fun W => week_any n W)
  have K2 := Lib.hid (fun W => rweek_any n W)
  generalize weekI n = wk at K1 K2
  have OU := Lib.hid (fun W => ours_any y' m' d' h' i' s' W)
  have hg := guard_date
  have qe := fun W => eql_date y' m' d' h' i' s' y' m' d' h' i' s' W
  simp only [decide_true] at qe
  have hb1 : (q1 == q1) = true := by simp
  have hb2 : (q2 == q2) = true := by simp
  have hb3 : (e == e) = true := by simp
  have hb4 : (wk == wk) = true := by simp
  clear o1 o2 ht
  obtain ⟨a0, a1, a2, a3, a4, a5⟩ := CA.out.six
  go_enter Tryd.func3, Tryd.ntmps3
  go_upto_region 5 with (first
    | (go_at_call 10; refine (TH.out _).mono ?_; rintro x w1 ⟨rfl, hb⟩; have CA := Lib.hid (CA.out.below hb); have BB := Lib.hid (BB.out.trans (hb.mono BB.out.size)); have TT := Lib.hid (TT.out.below hb); clear hb; obtain ⟨a0, a1, a2, a3, a4, a5⟩ := CA.out.six)
    | (go_at_call 9; refine (N1.out _).mono ?_; rintro x w2 ⟨rfl, hb⟩; have CA := Lib.hid (CA.out.below hb); have BB := Lib.hid (BB.out.trans (hb.mono BB.out.size)); have TT := Lib.hid (TT.out.below hb); clear hb; obtain ⟨a0, a1, a2, a3, a4, a5⟩ := CA.out.six)
    | (go_at_call 11; refine (N2.out _).mono ?_; rintro x w3 ⟨rfl, hb⟩; have CA := Lib.hid (CA.out.below hb); have BB := Lib.hid (BB.out.trans (hb.mono BB.out.size)); have TT := Lib.hid (TT.out.below hb); clear hb)
    | (go_at_call 12; refine (O1.out _).mono ?_; rintro x w4 ⟨rfl, hb⟩; have BB := Lib.hid (BB.out.trans (hb.mono BB.out.size)); have TT := Lib.hid (TT.out.below hb); clear hb; have CB := Lib.hid (Cs.made w4 #[.int .i64 y', .int .i64 m', .int .i64 d', .int .i64 h', .int .i64 i', .int .i64 s'] 27); have TT := Lib.hid (TT.out.below ((Below.refl _ w4).alloc (Nat.le_refl _) (.cells #[.int .i64 y', .int .i64 m', .int .i64 d', .int .i64 h', .int .i64 i', .int .i64 s'] 27))); have BB := Lib.hid (BB.out.alloc BB.out.size (.cells #[.int .i64 y', .int .i64 m', .int .i64 d', .int .i64 h', .int .i64 i', .int .i64 s'] 27)))
    | (go_at_call 13; refine (O2.out _).mono ?_; rintro x w5 ⟨rfl, hb⟩; have CB := Lib.hid (CB.out.below hb); have BB := Lib.hid (BB.out.trans (hb.mono BB.out.size)); have TT := Lib.hid (TT.out.below hb); clear hb; have CB := Lib.hid (CB.out.below ((Below.refl _ w5).alloc (Nat.le_refl _) (.cells #[.int .i64 y', .int .i64 m', .int .i64 d', .int .i64 h', .int .i64 i', .int .i64 s'] 23))); have CD := Lib.hid (Cs.made w5 #[.int .i64 y', .int .i64 m', .int .i64 d', .int .i64 h', .int .i64 i', .int .i64 s'] 23); have TT := Lib.hid (TT.out.below ((Below.refl _ w5).alloc (Nat.le_refl _) (.cells #[.int .i64 y', .int .i64 m', .int .i64 d', .int .i64 h', .int .i64 i', .int .i64 s'] 23))); have BB := Lib.hid (BB.out.alloc BB.out.size (.cells #[.int .i64 y', .int .i64 m', .int .i64 d', .int .i64 h', .int .i64 i', .int .i64 s'] 23))))
  have CB := Lib.hid CB.out.drew
  have CD := Lib.hid CD.out.drew
  have TT : Hid (Tb (w5.alloc (.cells #[.int .i64 y', .int .i64 m', .int .i64 d', .int .i64 h', .int .i64 i', .int .i64 s'] 23)).drew) := TT.out.below (Below.refl _ _).drew
  have BB := Lib.hid BB.out.drew
  obtain ⟨b0, b1, b2, b3, b4, b5⟩ := CB.out.six
  obtain ⟨c0, c1, c2, c3, c4, c5⟩ := CD.out.six
  go_region_held (fun W => (W.cell? ⟨w4.heap.size, 0, none⟩ = some (.int .i64 y') ∧ W.cell? ⟨w4.heap.size, 1, none⟩ = some (.int .i64 m') ∧ W.cell? ⟨w4.heap.size, 2, none⟩ = some (.int .i64 d') ∧ W.cell? ⟨w4.heap.size, 3, none⟩ = some (.int .i64 h') ∧ W.cell? ⟨w4.heap.size, 4, none⟩ = some (.int .i64 i') ∧ W.cell? ⟨w4.heap.size, 5, none⟩ = some (.int .i64 s')) ∧ W.cell? ⟨w5.heap.size, 0, none⟩ = some (.int .i64 y') ∧ W.cell? ⟨w5.heap.size, 1, none⟩ = some (.int .i64 m') ∧ W.cell? ⟨w5.heap.size, 2, none⟩ = some (.int .i64 d') ∧ W.cell? ⟨w5.heap.size, 3, none⟩ = some (.int .i64 h') ∧ W.cell? ⟨w5.heap.size, 4, none⟩ = some (.int .i64 i') ∧ W.cell? ⟨w5.heap.size, 5, none⟩ = some (.int .i64 s'))
    (first
      | (exact ⟨⟨b0, b1, b2, b3, b4, b5⟩, c0, c1, c2, c3, c4, c5⟩))
    (first
      | (go_at_call 14; refine (OU.out _).mono ?_; rintro x wa ⟨rfl, hb⟩; have CB := Lib.hid (CB.out.below hb); have CD := Lib.hid (CD.out.below hb); have BB := Lib.hid (BB.out.trans (hb.mono BB.out.size)); have TT := Lib.hid (TT.out.below hb); clear hb; obtain ⟨b0, b1, b2, b3, b4, b5⟩ := CB.out.six; obtain ⟨c0, c1, c2, c3, c4, c5⟩ := CD.out.six)
      | (go_at_call 15; refine (K1.out _).mono ?_; rintro x wb ⟨rfl, rfl⟩)
      | (go_at_call 16; refine (K2.out _).mono ?_; rintro x wc ⟨rfl, rfl⟩)
      | (go_at_call 17; refine (AL.out _ TT.out).mono ?_; rintro x wd ⟨rfl, hb⟩; have CB := Lib.hid (CB.out.below hb); have CD := Lib.hid (CD.out.below hb); have BB := Lib.hid (BB.out.trans (hb.mono BB.out.size)); have TT := Lib.hid (TT.out.below hb); clear hb; obtain ⟨b0, b1, b2, b3, b4, b5⟩ := CB.out.six; obtain ⟨c0, c1, c2, c3, c4, c5⟩ := CD.out.six))
  all_goals
    go_wp2
    go_ret
    exact ⟨rfl, BB.out⟩
end Go.Proofs.YtgefnndegjpcpaaDoor
