/- Walks of layer 6: Sample of the document, of an estimate that has a sample (2 of 4). -/
import Derived.Test.YtfcojlnbocncpaaRtD
set_option linter.unusedSimpArgs false
set_option linter.unusedVariables false
namespace Go.Proofs.Ytfcojlnbocncpaa
open Go.RowKit

set_option maxHeartbeats 800000 in
theorem rsample_d4 (l s v t n d : Int) (c x p : Int) (w : World) (hr : rightB ⟨true, l, s, v, t⟩ = true) (hn : tickB n = true) (hd : tickB d = true) (hA : ¬ n < l) (hB : ¬ 25 < d) (hc : c = n - d) (hC : c < l) (hD : ¬ x < 0) (hx : x = s - n) (hp : p = x) :
    Calls Try.prog 11 #[.agg #[.bool true, .int .i64 l, .int .i64 s, .int .i64 v, .int .i64 t], .int .i64 n, .int .i64 d] w fun e w' => e = .returned (.tuple #[.agg #[.bool true, .int .i64 l, .int .i64 ((7 * s + n).tdiv 8), .int .i64 ((3 * v + p).tdiv 4), .int .i64 n], .int .i64 0]) ∧ Below w.heap.size w w' := by
  have hn0 := tick_iff.1 hn
  have hd0 := tick_iff.1 hd
  obtain ⟨hl, hs, hv, ht, _⟩ := right_has hr rfl
  simp only at hl hs hv ht
  have w0 : IntKind.i64.wrap (n - d) = c := by rw [hc]; exact wraps_i64' _ (by omega) (by omega)
  have wx : IntKind.i64.wrap (s - n) = x := by rw [hx]; exact wraps_i64' _ (by omega) (by omega)
  obtain rfl := hp
  have w1 : IntKind.i64.wrap (7 * s) = 7 * s := wraps_i64' _ (by omega) (by omega)
  have w2 : IntKind.i64.wrap (7 * s + n) = 7 * s + n := wraps_i64' _ (by omega) (by omega)
  have w3 : IntKind.i64.wrap ((7 * s + n).tdiv 8) = (7 * s + n).tdiv 8 := by
    rw [Int.tdiv_eq_ediv_of_nonneg (by omega)]; exact wraps_i64' _ (by omega) (by omega)
  have w4 : IntKind.i64.wrap (3 * v) = 3 * v := wraps_i64' _ (by omega) (by omega)
  have w5 : IntKind.i64.wrap (3 * v + p) = 3 * v + p := wraps_i64' _ (by omega) (by omega)
  have w6 : IntKind.i64.wrap ((3 * v + p).tdiv 4) = (3 * v + p).tdiv 4 := by
    rw [Int.tdiv_eq_ediv_of_nonneg (by omega)]; exact wraps_i64' _ (by omega) (by omega)
  clear hl hs hv ht hn0 hd0 hc hx 
  have B := Lib.hid (below_two w (.cells #[.bool true, .int .i64 l, .int .i64 s, .int .i64 v, .int .i64 t] 23) (.cells #[.bool false, .int .i64 0, .int .i64 0, .int .i64 0, .int .i64 0] 23))
  have HR := Lib.hid (held_second false 0 0 0 0 23 w (.cells #[.bool true, .int .i64 l, .int .i64 s, .int .i64 v, .int .i64 t] 23))
  have HP := Lib.hid (held_first true l s v t 23 w (.cells #[.bool false, .int .i64 0, .int .i64 0, .int .i64 0, .int .i64 0] 23))
  have R := Lib.hid (fun w => rright_b true l s v t _ hr w)
  have Tn := Lib.hid (fun w => tick_b n _ w hn)
  have Td := Lib.hid (fun w => tick_b d _ w hd)
  clear hr hn hd
  go_enter Try.func11, Try.ntmps11
  go_wp2_with fail
  refine (R.out _).mono ?_
  rintro e w2 ⟨rfl, hb2⟩
  have BB := Lib.hid (B.out.trans (hb2.mono B.out.size))
  have HR3 := Lib.hid (HR.out.below hb2)
  have HP3 := Lib.hid (HP.out.below hb2)
  have hz : w.heap.size + 1 < w2.heap.size := (HR.out.below hb2).lt
  have hz0 : w.heap.size < w2.heap.size := by omega
  have hz1 : w.heap.size ≠ w2.heap.size := by omega
  have hz2 : w.heap.size + 1 ≠ w2.heap.size := by omega
  have hz3 : w2.heap.size ≠ w.heap.size := by omega
  have hz4 : w2.heap.size ≠ w.heap.size + 1 := by omega
  clear R hb2 HR B HP
  go_wp2_with fail
  refine (Tn.out _).mono ?_
  rintro e w3 ⟨rfl, rfl⟩
  clear Tn
  go_wp2_with fail
  refine (Td.out _).mono ?_
  rintro e w3 ⟨rfl, rfl⟩
  clear Td
  obtain ⟨r0, r1, r2, r3, r4⟩ := HR3.out.facts
  obtain ⟨f0, f1, f2, f3, f4⟩ := HR3.out.free
  obtain ⟨p0, p1, p2, p3, p4⟩ := HP3.out.facts
  have HR4_ := HR3
  have HP4_ := HP3
  clear HR3 HP3
  go_upto_region 12 with fail
  have HO := Lib.hid (held_last true l 0 0 n 23 w3)
  have BV := Lib.hid (BB.out.alloc (by omega) (.cells #[.bool true, .int .i64 l, .int .i64 0, .int .i64 0, .int .i64 n] 23))
  have HR4 := Lib.hid (HR4_.out.below ((Below.refl w3.heap.size w3).alloc (Nat.le_refl _) (.cells #[.bool true, .int .i64 l, .int .i64 0, .int .i64 0, .int .i64 n] 23)))
  have HP4 := Lib.hid (HP4_.out.below ((Below.refl w3.heap.size w3).alloc (Nat.le_refl _) (.cells #[.bool true, .int .i64 l, .int .i64 0, .int .i64 0, .int .i64 n] 23)))
  clear r0 r1 r2 r3 r4 f0 f1 f2 f3 f4 p0 p1 p2 p3 p4 BB HR4_ HP4_
  generalize hV : w3.alloc (.cells #[.bool true, .int .i64 l, .int .i64 0, .int .i64 0, .int .i64 n] 23) = V at HO BV HR4 HP4 ⊢
  clear hV
  generalize hO : w3.heap.size = O at hz hz0 HO ⊢
  clear hO
  obtain ⟨r0, r1, r2, r3, r4⟩ := HR4.out.facts
  obtain ⟨f0, f1, f2, f3, f4⟩ := HR4.out.free
  obtain ⟨p0, p1, p2, p3, p4⟩ := HP4.out.facts
  obtain ⟨o0, o1, o2, o3, o4⟩ := HO.out.facts
  obtain ⟨g0, g1, g2, g3, g4⟩ := HO.out.free
  have hz1 : w.heap.size ≠ O := by omega
  have hz2 : w.heap.size + 1 ≠ O := by omega
  have hz3 : O ≠ w.heap.size := by omega
  have hz4 : O ≠ w.heap.size + 1 := by omega
  have hz5 : w.heap.size ≤ O := by omega
  clear HR4 HP4 HO
  go_wp2
  exact bodyPost_ret (v := .tuple #[.agg #[.bool true, .int .i64 l, .int .i64 ((7 * s + n).tdiv 8), .int .i64 ((3 * v + p).tdiv 4), .int .i64 n], .int .i64 0]) (by simp [results, Try.results11, go_sem, r0, r1, r2, r3, r4]) rfl ⟨rfl, below_far BV.out O hz5 _ (Nat.le_succ _) _ _ _ _ _ _ _⟩

set_option maxHeartbeats 800000 in
theorem rsample_d5 (l s v t n d : Int) (c x p : Int) (w : World) (hr : rightB ⟨true, l, s, v, t⟩ = true) (hn : tickB n = true) (hd : tickB d = true) (hA : n < l) (hB : ¬ 25 < d) (hc : c = n - d) (hC : c < n) (hD : ¬ x < 0) (hx : x = s - n) (hp : p = x) :
    Calls Try.prog 11 #[.agg #[.bool true, .int .i64 l, .int .i64 s, .int .i64 v, .int .i64 t], .int .i64 n, .int .i64 d] w fun e w' => e = .returned (.tuple #[.agg #[.bool true, .int .i64 n, .int .i64 ((7 * s + n).tdiv 8), .int .i64 ((3 * v + p).tdiv 4), .int .i64 n], .int .i64 0]) ∧ Below w.heap.size w w' := by
  have hn0 := tick_iff.1 hn
  have hd0 := tick_iff.1 hd
  obtain ⟨hl, hs, hv, ht, _⟩ := right_has hr rfl
  simp only at hl hs hv ht
  have w0 : IntKind.i64.wrap (n - d) = c := by rw [hc]; exact wraps_i64' _ (by omega) (by omega)
  have wx : IntKind.i64.wrap (s - n) = x := by rw [hx]; exact wraps_i64' _ (by omega) (by omega)
  obtain rfl := hp
  have w1 : IntKind.i64.wrap (7 * s) = 7 * s := wraps_i64' _ (by omega) (by omega)
  have w2 : IntKind.i64.wrap (7 * s + n) = 7 * s + n := wraps_i64' _ (by omega) (by omega)
  have w3 : IntKind.i64.wrap ((7 * s + n).tdiv 8) = (7 * s + n).tdiv 8 := by
    rw [Int.tdiv_eq_ediv_of_nonneg (by omega)]; exact wraps_i64' _ (by omega) (by omega)
  have w4 : IntKind.i64.wrap (3 * v) = 3 * v := wraps_i64' _ (by omega) (by omega)
  have w5 : IntKind.i64.wrap (3 * v + p) = 3 * v + p := wraps_i64' _ (by omega) (by omega)
  have w6 : IntKind.i64.wrap ((3 * v + p).tdiv 4) = (3 * v + p).tdiv 4 := by
    rw [Int.tdiv_eq_ediv_of_nonneg (by omega)]; exact wraps_i64' _ (by omega) (by omega)
  clear hl hs hv ht hn0 hd0 hc hx 
  have B := Lib.hid (below_two w (.cells #[.bool true, .int .i64 l, .int .i64 s, .int .i64 v, .int .i64 t] 23) (.cells #[.bool false, .int .i64 0, .int .i64 0, .int .i64 0, .int .i64 0] 23))
  have HR := Lib.hid (held_second false 0 0 0 0 23 w (.cells #[.bool true, .int .i64 l, .int .i64 s, .int .i64 v, .int .i64 t] 23))
  have HP := Lib.hid (held_first true l s v t 23 w (.cells #[.bool false, .int .i64 0, .int .i64 0, .int .i64 0, .int .i64 0] 23))
  have R := Lib.hid (fun w => rright_b true l s v t _ hr w)
  have Tn := Lib.hid (fun w => tick_b n _ w hn)
  have Td := Lib.hid (fun w => tick_b d _ w hd)
  clear hr hn hd
  go_enter Try.func11, Try.ntmps11
  go_wp2_with fail
  refine (R.out _).mono ?_
  rintro e w2 ⟨rfl, hb2⟩
  have BB := Lib.hid (B.out.trans (hb2.mono B.out.size))
  have HR3 := Lib.hid (HR.out.below hb2)
  have HP3 := Lib.hid (HP.out.below hb2)
  have hz : w.heap.size + 1 < w2.heap.size := (HR.out.below hb2).lt
  have hz0 : w.heap.size < w2.heap.size := by omega
  have hz1 : w.heap.size ≠ w2.heap.size := by omega
  have hz2 : w.heap.size + 1 ≠ w2.heap.size := by omega
  have hz3 : w2.heap.size ≠ w.heap.size := by omega
  have hz4 : w2.heap.size ≠ w.heap.size + 1 := by omega
  clear R hb2 HR B HP
  go_wp2_with fail
  refine (Tn.out _).mono ?_
  rintro e w3 ⟨rfl, rfl⟩
  clear Tn
  go_wp2_with fail
  refine (Td.out _).mono ?_
  rintro e w3 ⟨rfl, rfl⟩
  clear Td
  obtain ⟨r0, r1, r2, r3, r4⟩ := HR3.out.facts
  obtain ⟨f0, f1, f2, f3, f4⟩ := HR3.out.free
  obtain ⟨p0, p1, p2, p3, p4⟩ := HP3.out.facts
  have HR4_ := HR3
  have HP4_ := HP3
  clear HR3 HP3
  go_upto_region 12 with fail
  have HO := Lib.hid (held_last true n 0 0 n 23 w3)
  have BV := Lib.hid (BB.out.alloc (by omega) (.cells #[.bool true, .int .i64 n, .int .i64 0, .int .i64 0, .int .i64 n] 23))
  have HR4 := Lib.hid (HR4_.out.below ((Below.refl w3.heap.size w3).alloc (Nat.le_refl _) (.cells #[.bool true, .int .i64 n, .int .i64 0, .int .i64 0, .int .i64 n] 23)))
  have HP4 := Lib.hid (HP4_.out.below ((Below.refl w3.heap.size w3).alloc (Nat.le_refl _) (.cells #[.bool true, .int .i64 n, .int .i64 0, .int .i64 0, .int .i64 n] 23)))
  clear r0 r1 r2 r3 r4 f0 f1 f2 f3 f4 p0 p1 p2 p3 p4 BB HR4_ HP4_
  generalize hV : w3.alloc (.cells #[.bool true, .int .i64 n, .int .i64 0, .int .i64 0, .int .i64 n] 23) = V at HO BV HR4 HP4 ⊢
  clear hV
  generalize hO : w3.heap.size = O at hz hz0 HO ⊢
  clear hO
  obtain ⟨r0, r1, r2, r3, r4⟩ := HR4.out.facts
  obtain ⟨f0, f1, f2, f3, f4⟩ := HR4.out.free
  obtain ⟨p0, p1, p2, p3, p4⟩ := HP4.out.facts
  obtain ⟨o0, o1, o2, o3, o4⟩ := HO.out.facts
  obtain ⟨g0, g1, g2, g3, g4⟩ := HO.out.free
  have hz1 : w.heap.size ≠ O := by omega
  have hz2 : w.heap.size + 1 ≠ O := by omega
  have hz3 : O ≠ w.heap.size := by omega
  have hz4 : O ≠ w.heap.size + 1 := by omega
  have hz5 : w.heap.size ≤ O := by omega
  clear HR4 HP4 HO
  go_wp2
  exact bodyPost_ret (v := .tuple #[.agg #[.bool true, .int .i64 n, .int .i64 ((7 * s + n).tdiv 8), .int .i64 ((3 * v + p).tdiv 4), .int .i64 n], .int .i64 0]) (by simp [results, Try.results11, go_sem, r0, r1, r2, r3, r4]) rfl ⟨rfl, below_far BV.out O hz5 _ (Nat.le_succ _) _ _ _ _ _ _ _⟩

set_option maxHeartbeats 800000 in
theorem rsample_d6 (l s v t n d : Int) (c x p : Int) (w : World) (hr : rightB ⟨true, l, s, v, t⟩ = true) (hn : tickB n = true) (hd : tickB d = true) (hA : ¬ n < l) (hB : 25 < d) (hc : c = n - 25) (hC : c < l) (hD : ¬ x < 0) (hx : x = s - n) (hp : p = x) :
    Calls Try.prog 11 #[.agg #[.bool true, .int .i64 l, .int .i64 s, .int .i64 v, .int .i64 t], .int .i64 n, .int .i64 d] w fun e w' => e = .returned (.tuple #[.agg #[.bool true, .int .i64 l, .int .i64 ((7 * s + n).tdiv 8), .int .i64 ((3 * v + p).tdiv 4), .int .i64 n], .int .i64 0]) ∧ Below w.heap.size w w' := by
  have hn0 := tick_iff.1 hn
  have hd0 := tick_iff.1 hd
  obtain ⟨hl, hs, hv, ht, _⟩ := right_has hr rfl
  simp only at hl hs hv ht
  have w0 : IntKind.i64.wrap (n - 25) = c := by rw [hc]; exact wraps_i64' _ (by omega) (by omega)
  have wx : IntKind.i64.wrap (s - n) = x := by rw [hx]; exact wraps_i64' _ (by omega) (by omega)
  obtain rfl := hp
  have w1 : IntKind.i64.wrap (7 * s) = 7 * s := wraps_i64' _ (by omega) (by omega)
  have w2 : IntKind.i64.wrap (7 * s + n) = 7 * s + n := wraps_i64' _ (by omega) (by omega)
  have w3 : IntKind.i64.wrap ((7 * s + n).tdiv 8) = (7 * s + n).tdiv 8 := by
    rw [Int.tdiv_eq_ediv_of_nonneg (by omega)]; exact wraps_i64' _ (by omega) (by omega)
  have w4 : IntKind.i64.wrap (3 * v) = 3 * v := wraps_i64' _ (by omega) (by omega)
  have w5 : IntKind.i64.wrap (3 * v + p) = 3 * v + p := wraps_i64' _ (by omega) (by omega)
  have w6 : IntKind.i64.wrap ((3 * v + p).tdiv 4) = (3 * v + p).tdiv 4 := by
    rw [Int.tdiv_eq_ediv_of_nonneg (by omega)]; exact wraps_i64' _ (by omega) (by omega)
  clear hl hs hv ht hn0 hd0 hc hx 
  have B := Lib.hid (below_two w (.cells #[.bool true, .int .i64 l, .int .i64 s, .int .i64 v, .int .i64 t] 23) (.cells #[.bool false, .int .i64 0, .int .i64 0, .int .i64 0, .int .i64 0] 23))
  have HR := Lib.hid (held_second false 0 0 0 0 23 w (.cells #[.bool true, .int .i64 l, .int .i64 s, .int .i64 v, .int .i64 t] 23))
  have HP := Lib.hid (held_first true l s v t 23 w (.cells #[.bool false, .int .i64 0, .int .i64 0, .int .i64 0, .int .i64 0] 23))
  have R := Lib.hid (fun w => rright_b true l s v t _ hr w)
  have Tn := Lib.hid (fun w => tick_b n _ w hn)
  have Td := Lib.hid (fun w => tick_b d _ w hd)
  clear hr hn hd
  go_enter Try.func11, Try.ntmps11
  go_wp2_with fail
  refine (R.out _).mono ?_
  rintro e w2 ⟨rfl, hb2⟩
  have BB := Lib.hid (B.out.trans (hb2.mono B.out.size))
  have HR3 := Lib.hid (HR.out.below hb2)
  have HP3 := Lib.hid (HP.out.below hb2)
  have hz : w.heap.size + 1 < w2.heap.size := (HR.out.below hb2).lt
  have hz0 : w.heap.size < w2.heap.size := by omega
  have hz1 : w.heap.size ≠ w2.heap.size := by omega
  have hz2 : w.heap.size + 1 ≠ w2.heap.size := by omega
  have hz3 : w2.heap.size ≠ w.heap.size := by omega
  have hz4 : w2.heap.size ≠ w.heap.size + 1 := by omega
  clear R hb2 HR B HP
  go_wp2_with fail
  refine (Tn.out _).mono ?_
  rintro e w3 ⟨rfl, rfl⟩
  clear Tn
  go_wp2_with fail
  refine (Td.out _).mono ?_
  rintro e w3 ⟨rfl, rfl⟩
  clear Td
  obtain ⟨r0, r1, r2, r3, r4⟩ := HR3.out.facts
  obtain ⟨f0, f1, f2, f3, f4⟩ := HR3.out.free
  obtain ⟨p0, p1, p2, p3, p4⟩ := HP3.out.facts
  have HR4_ := HR3
  have HP4_ := HP3
  clear HR3 HP3
  go_upto_region 12 with fail
  have HO := Lib.hid (held_last true l 0 0 n 23 w3)
  have BV := Lib.hid (BB.out.alloc (by omega) (.cells #[.bool true, .int .i64 l, .int .i64 0, .int .i64 0, .int .i64 n] 23))
  have HR4 := Lib.hid (HR4_.out.below ((Below.refl w3.heap.size w3).alloc (Nat.le_refl _) (.cells #[.bool true, .int .i64 l, .int .i64 0, .int .i64 0, .int .i64 n] 23)))
  have HP4 := Lib.hid (HP4_.out.below ((Below.refl w3.heap.size w3).alloc (Nat.le_refl _) (.cells #[.bool true, .int .i64 l, .int .i64 0, .int .i64 0, .int .i64 n] 23)))
  clear r0 r1 r2 r3 r4 f0 f1 f2 f3 f4 p0 p1 p2 p3 p4 BB HR4_ HP4_
  generalize hV : w3.alloc (.cells #[.bool true, .int .i64 l, .int .i64 0, .int .i64 0, .int .i64 n] 23) = V at HO BV HR4 HP4 ⊢
  clear hV
  generalize hO : w3.heap.size = O at hz hz0 HO ⊢
  clear hO
  obtain ⟨r0, r1, r2, r3, r4⟩ := HR4.out.facts
  obtain ⟨f0, f1, f2, f3, f4⟩ := HR4.out.free
  obtain ⟨p0, p1, p2, p3, p4⟩ := HP4.out.facts
  obtain ⟨o0, o1, o2, o3, o4⟩ := HO.out.facts
  obtain ⟨g0, g1, g2, g3, g4⟩ := HO.out.free
  have hz1 : w.heap.size ≠ O := by omega
  have hz2 : w.heap.size + 1 ≠ O := by omega
  have hz3 : O ≠ w.heap.size := by omega
  have hz4 : O ≠ w.heap.size + 1 := by omega
  have hz5 : w.heap.size ≤ O := by omega
  clear HR4 HP4 HO
  go_wp2
  exact bodyPost_ret (v := .tuple #[.agg #[.bool true, .int .i64 l, .int .i64 ((7 * s + n).tdiv 8), .int .i64 ((3 * v + p).tdiv 4), .int .i64 n], .int .i64 0]) (by simp [results, Try.results11, go_sem, r0, r1, r2, r3, r4]) rfl ⟨rfl, below_far BV.out O hz5 _ (Nat.le_succ _) _ _ _ _ _ _ _⟩

set_option maxHeartbeats 800000 in
theorem rsample_d7 (l s v t n d : Int) (c x p : Int) (w : World) (hr : rightB ⟨true, l, s, v, t⟩ = true) (hn : tickB n = true) (hd : tickB d = true) (hA : n < l) (hB : 25 < d) (hc : c = n - 25) (hC : c < n) (hD : ¬ x < 0) (hx : x = s - n) (hp : p = x) :
    Calls Try.prog 11 #[.agg #[.bool true, .int .i64 l, .int .i64 s, .int .i64 v, .int .i64 t], .int .i64 n, .int .i64 d] w fun e w' => e = .returned (.tuple #[.agg #[.bool true, .int .i64 n, .int .i64 ((7 * s + n).tdiv 8), .int .i64 ((3 * v + p).tdiv 4), .int .i64 n], .int .i64 0]) ∧ Below w.heap.size w w' := by
  have hn0 := tick_iff.1 hn
  have hd0 := tick_iff.1 hd
  obtain ⟨hl, hs, hv, ht, _⟩ := right_has hr rfl
  simp only at hl hs hv ht
  have w0 : IntKind.i64.wrap (n - 25) = c := by rw [hc]; exact wraps_i64' _ (by omega) (by omega)
  have wx : IntKind.i64.wrap (s - n) = x := by rw [hx]; exact wraps_i64' _ (by omega) (by omega)
  obtain rfl := hp
  have w1 : IntKind.i64.wrap (7 * s) = 7 * s := wraps_i64' _ (by omega) (by omega)
  have w2 : IntKind.i64.wrap (7 * s + n) = 7 * s + n := wraps_i64' _ (by omega) (by omega)
  have w3 : IntKind.i64.wrap ((7 * s + n).tdiv 8) = (7 * s + n).tdiv 8 := by
    rw [Int.tdiv_eq_ediv_of_nonneg (by omega)]; exact wraps_i64' _ (by omega) (by omega)
  have w4 : IntKind.i64.wrap (3 * v) = 3 * v := wraps_i64' _ (by omega) (by omega)
  have w5 : IntKind.i64.wrap (3 * v + p) = 3 * v + p := wraps_i64' _ (by omega) (by omega)
  have w6 : IntKind.i64.wrap ((3 * v + p).tdiv 4) = (3 * v + p).tdiv 4 := by
    rw [Int.tdiv_eq_ediv_of_nonneg (by omega)]; exact wraps_i64' _ (by omega) (by omega)
  clear hl hs hv ht hn0 hd0 hc hx 
  have B := Lib.hid (below_two w (.cells #[.bool true, .int .i64 l, .int .i64 s, .int .i64 v, .int .i64 t] 23) (.cells #[.bool false, .int .i64 0, .int .i64 0, .int .i64 0, .int .i64 0] 23))
  have HR := Lib.hid (held_second false 0 0 0 0 23 w (.cells #[.bool true, .int .i64 l, .int .i64 s, .int .i64 v, .int .i64 t] 23))
  have HP := Lib.hid (held_first true l s v t 23 w (.cells #[.bool false, .int .i64 0, .int .i64 0, .int .i64 0, .int .i64 0] 23))
  have R := Lib.hid (fun w => rright_b true l s v t _ hr w)
  have Tn := Lib.hid (fun w => tick_b n _ w hn)
  have Td := Lib.hid (fun w => tick_b d _ w hd)
  clear hr hn hd
  go_enter Try.func11, Try.ntmps11
  go_wp2_with fail
  refine (R.out _).mono ?_
  rintro e w2 ⟨rfl, hb2⟩
  have BB := Lib.hid (B.out.trans (hb2.mono B.out.size))
  have HR3 := Lib.hid (HR.out.below hb2)
  have HP3 := Lib.hid (HP.out.below hb2)
  have hz : w.heap.size + 1 < w2.heap.size := (HR.out.below hb2).lt
  have hz0 : w.heap.size < w2.heap.size := by omega
  have hz1 : w.heap.size ≠ w2.heap.size := by omega
  have hz2 : w.heap.size + 1 ≠ w2.heap.size := by omega
  have hz3 : w2.heap.size ≠ w.heap.size := by omega
  have hz4 : w2.heap.size ≠ w.heap.size + 1 := by omega
  clear R hb2 HR B HP
  go_wp2_with fail
  refine (Tn.out _).mono ?_
  rintro e w3 ⟨rfl, rfl⟩
  clear Tn
  go_wp2_with fail
  refine (Td.out _).mono ?_
  rintro e w3 ⟨rfl, rfl⟩
  clear Td
  obtain ⟨r0, r1, r2, r3, r4⟩ := HR3.out.facts
  obtain ⟨f0, f1, f2, f3, f4⟩ := HR3.out.free
  obtain ⟨p0, p1, p2, p3, p4⟩ := HP3.out.facts
  have HR4_ := HR3
  have HP4_ := HP3
  clear HR3 HP3
  go_upto_region 12 with fail
  have HO := Lib.hid (held_last true n 0 0 n 23 w3)
  have BV := Lib.hid (BB.out.alloc (by omega) (.cells #[.bool true, .int .i64 n, .int .i64 0, .int .i64 0, .int .i64 n] 23))
  have HR4 := Lib.hid (HR4_.out.below ((Below.refl w3.heap.size w3).alloc (Nat.le_refl _) (.cells #[.bool true, .int .i64 n, .int .i64 0, .int .i64 0, .int .i64 n] 23)))
  have HP4 := Lib.hid (HP4_.out.below ((Below.refl w3.heap.size w3).alloc (Nat.le_refl _) (.cells #[.bool true, .int .i64 n, .int .i64 0, .int .i64 0, .int .i64 n] 23)))
  clear r0 r1 r2 r3 r4 f0 f1 f2 f3 f4 p0 p1 p2 p3 p4 BB HR4_ HP4_
  generalize hV : w3.alloc (.cells #[.bool true, .int .i64 n, .int .i64 0, .int .i64 0, .int .i64 n] 23) = V at HO BV HR4 HP4 ⊢
  clear hV
  generalize hO : w3.heap.size = O at hz hz0 HO ⊢
  clear hO
  obtain ⟨r0, r1, r2, r3, r4⟩ := HR4.out.facts
  obtain ⟨f0, f1, f2, f3, f4⟩ := HR4.out.free
  obtain ⟨p0, p1, p2, p3, p4⟩ := HP4.out.facts
  obtain ⟨o0, o1, o2, o3, o4⟩ := HO.out.facts
  obtain ⟨g0, g1, g2, g3, g4⟩ := HO.out.free
  have hz1 : w.heap.size ≠ O := by omega
  have hz2 : w.heap.size + 1 ≠ O := by omega
  have hz3 : O ≠ w.heap.size := by omega
  have hz4 : O ≠ w.heap.size + 1 := by omega
  have hz5 : w.heap.size ≤ O := by omega
  clear HR4 HP4 HO
  go_wp2
  exact bodyPost_ret (v := .tuple #[.agg #[.bool true, .int .i64 n, .int .i64 ((7 * s + n).tdiv 8), .int .i64 ((3 * v + p).tdiv 4), .int .i64 n], .int .i64 0]) (by simp [results, Try.results11, go_sem, r0, r1, r2, r3, r4]) rfl ⟨rfl, below_far BV.out O hz5 _ (Nat.le_succ _) _ _ _ _ _ _ _⟩
end Go.Proofs.Ytfcojlnbocncpaa
