/- Walks of layer 6: Sample of the code, of an estimate that has a sample. -/
import Derived.Test.YtfcojlnbocncpaaRtC
import Derived.StillTailTactics
set_option linter.unusedSimpArgs false
set_option linter.unusedVariables false
namespace Go.Proofs.Ytfcojlnbocncpaa
open Go.RowKit

set_option maxHeartbeats 800000 in
theorem sample_d (l s v t n d a p : Int) (w : World) (hr : rightB ⟨true, l, s, v, t⟩ = true) (hn : (tickB n && tickB d) = true) (hm : n < l) (ha : adjI n d n = a) (hp : apartI s a = p) (ha0 : 0 ≤ a) (ha1 : a ≤ 1099511627776) (hp0 : 0 ≤ p) (hp1 : p ≤ 1099511627776) :
    Calls Try.prog 9 #[.agg #[.bool true, .int .i64 l, .int .i64 s, .int .i64 v, .int .i64 t], .int .i64 n, .int .i64 d] w fun e w' => e = .returned (.tuple #[.agg #[.bool true, .int .i64 n, .int .i64 ((7 * s + a).tdiv 8), .int .i64 ((3 * v + p).tdiv 4), .int .i64 n], .int .i64 0]) ∧ Below w.heap.size w w' := by
  obtain ⟨⟨hn0, hn1⟩, hd0, hd1⟩ : (0 ≤ n ∧ n ≤ 1099511627776) ∧ (0 ≤ d ∧ d ≤ 1099511627776) := by
    simp only [Bool.and_eq_true, tick_iff] at hn; exact hn
  obtain ⟨hl, hs, hv, ht, _⟩ := right_has hr rfl
  simp only at hl hs hv ht
  have AD := Lib.hid (fun w => adjust_any n d n w hn0 hn1 hd0 hd1)
  rw [ha] at AD
  have AP := Lib.hid (fun w => apart_any s a w hs.1 hs.2 ha0 ha1)
  rw [hp] at AP
  have w1 : IntKind.i64.wrap (7 * s) = 7 * s := wraps_i64' _ (by omega) (by omega)
  have w2 : IntKind.i64.wrap (7 * s + a) = 7 * s + a := wraps_i64' _ (by omega) (by omega)
  have w3 : IntKind.i64.wrap ((7 * s + a).tdiv 8) = (7 * s + a).tdiv 8 := by
    rw [Int.tdiv_eq_ediv_of_nonneg (by omega)]; exact wraps_i64' _ (by omega) (by omega)
  have w4 : IntKind.i64.wrap (3 * v) = 3 * v := wraps_i64' _ (by omega) (by omega)
  have w5 : IntKind.i64.wrap (3 * v + p) = 3 * v + p := wraps_i64' _ (by omega) (by omega)
  have w6 : IntKind.i64.wrap ((3 * v + p).tdiv 4) = (3 * v + p).tdiv 4 := by
    rw [Int.tdiv_eq_ediv_of_nonneg (by omega)]; exact wraps_i64' _ (by omega) (by omega)
  clear ha hp ha0 ha1 hp0 hp1 hl hs hv ht hn0 hn1 hd0 hd1
  have B := Lib.hid (below_two w (.cells #[.bool true, .int .i64 l, .int .i64 s, .int .i64 v, .int .i64 t] 24) (.cells #[.bool false, .int .i64 0, .int .i64 0, .int .i64 0, .int .i64 0] 24))
  have HR := Lib.hid (held_second false 0 0 0 0 24 w (.cells #[.bool true, .int .i64 l, .int .i64 s, .int .i64 v, .int .i64 t] 24))
  have HP := Lib.hid (held_first true l s v t 24 w (.cells #[.bool false, .int .i64 0, .int .i64 0, .int .i64 0, .int .i64 0] 24))
  have R := Lib.hid (fun w => right_b true l s v t _ hr w)
  have A := Lib.hid (ticks2 n d _ hn)
  clear hr hn
  go_enter Try.func9, Try.ntmps9
  go_wp2_with fail
  refine (R.out _).mono ?_
  rintro e w2 ⟨rfl, hb2⟩
  have hb3 := hb2.alloc hb2.size (.cells #[.int .i64 n, .int .i64 d] 3)
  have BB := Lib.hid (B.out.trans (hb3.mono B.out.size))
  have HR3 := Lib.hid (HR.out.below hb3)
  have HP3 := Lib.hid (HP.out.below hb3)
  have hz : w.heap.size + 1 < w2.heap.size := (HR.out.below hb2).lt
  clear R hb2 hb3 HR B HP
  go_wp2_with fail
  refine (A.out _ _ rfl).mono ?_
  rintro e w3 ⟨rfl, rfl⟩
  generalize w2.alloc (.cells #[.int .i64 n, .int .i64 d] 3) = w3 at BB HR3 HP3 ⊢
  clear A
  obtain ⟨r0, r1, r2, r3, r4⟩ := HR3.out.facts
  obtain ⟨f0, f1, f2, f3, f4⟩ := HR3.out.free
  obtain ⟨p0, p1, p2, p3, p4⟩ := HP3.out.facts
  clear HR3 HP3
  go_wp2_with fail
  refine (AD.out _).mono ?_
  rintro e w4 ⟨rfl, rfl⟩
  clear AD
  go_wp2_with fail
  go_still_tail 18, (by kernel_rfl)
  still_call (AP.out _)
  repeat still_step
  refine wpStill_nil ?_
  change wpList _ _ _ _ _ w4.drew
  have BD := Lib.hid (BB.out.drew)
  generalize hw : w4.drew = w5 at BD ⊢
  have q0 : w5.cell? ⟨w.heap.size + 1, 0, none⟩ = some (.bool false) := hw ▸ r0
  have g0 : w5.frozen? ⟨w.heap.size + 1, 0, none⟩ = false := hw ▸ f0
  have q1 : w5.cell? ⟨w.heap.size + 1, 1, none⟩ = some (.int .i64 0) := hw ▸ r1
  have g1 : w5.frozen? ⟨w.heap.size + 1, 1, none⟩ = false := hw ▸ f1
  have q2 : w5.cell? ⟨w.heap.size + 1, 2, none⟩ = some (.int .i64 0) := hw ▸ r2
  have g2 : w5.frozen? ⟨w.heap.size + 1, 2, none⟩ = false := hw ▸ f2
  have q3 : w5.cell? ⟨w.heap.size + 1, 3, none⟩ = some (.int .i64 0) := hw ▸ r3
  have g3 : w5.frozen? ⟨w.heap.size + 1, 3, none⟩ = false := hw ▸ f3
  have q4 : w5.cell? ⟨w.heap.size + 1, 4, none⟩ = some (.int .i64 0) := hw ▸ r4
  have g4 : w5.frozen? ⟨w.heap.size + 1, 4, none⟩ = false := hw ▸ f4
  clear r0 r1 r2 r3 r4 f0 f1 f2 f3 f4 p0 p1 p2 p3 p4 BB hw
  go_wp2
  exact bodyPost_ret (v := .tuple #[.agg #[.bool true, .int .i64 n, .int .i64 ((7 * s + a).tdiv 8), .int .i64 ((3 * v + p).tdiv 4), .int .i64 n], .int .i64 0]) (by simp [results, Try.results9, go_sem, q0, q1, q2, q3, q4]) rfl ⟨rfl, below_five BD.out _ (Nat.le_succ _) _ _ _ _ _⟩

set_option maxHeartbeats 800000 in
theorem sample_e (l s v t n d a p : Int) (w : World) (hr : rightB ⟨true, l, s, v, t⟩ = true) (hn : (tickB n && tickB d) = true) (hm : ¬ n < l) (ha : adjI n d l = a) (hp : apartI s a = p) (ha0 : 0 ≤ a) (ha1 : a ≤ 1099511627776) (hp0 : 0 ≤ p) (hp1 : p ≤ 1099511627776) :
    Calls Try.prog 9 #[.agg #[.bool true, .int .i64 l, .int .i64 s, .int .i64 v, .int .i64 t], .int .i64 n, .int .i64 d] w fun e w' => e = .returned (.tuple #[.agg #[.bool true, .int .i64 l, .int .i64 ((7 * s + a).tdiv 8), .int .i64 ((3 * v + p).tdiv 4), .int .i64 n], .int .i64 0]) ∧ Below w.heap.size w w' := by
  obtain ⟨⟨hn0, hn1⟩, hd0, hd1⟩ : (0 ≤ n ∧ n ≤ 1099511627776) ∧ (0 ≤ d ∧ d ≤ 1099511627776) := by
    simp only [Bool.and_eq_true, tick_iff] at hn; exact hn
  obtain ⟨hl, hs, hv, ht, _⟩ := right_has hr rfl
  simp only at hl hs hv ht
  have AD := Lib.hid (fun w => adjust_any n d l w hn0 hn1 hd0 hd1)
  rw [ha] at AD
  have AP := Lib.hid (fun w => apart_any s a w hs.1 hs.2 ha0 ha1)
  rw [hp] at AP
  have w1 : IntKind.i64.wrap (7 * s) = 7 * s := wraps_i64' _ (by omega) (by omega)
  have w2 : IntKind.i64.wrap (7 * s + a) = 7 * s + a := wraps_i64' _ (by omega) (by omega)
  have w3 : IntKind.i64.wrap ((7 * s + a).tdiv 8) = (7 * s + a).tdiv 8 := by
    rw [Int.tdiv_eq_ediv_of_nonneg (by omega)]; exact wraps_i64' _ (by omega) (by omega)
  have w4 : IntKind.i64.wrap (3 * v) = 3 * v := wraps_i64' _ (by omega) (by omega)
  have w5 : IntKind.i64.wrap (3 * v + p) = 3 * v + p := wraps_i64' _ (by omega) (by omega)
  have w6 : IntKind.i64.wrap ((3 * v + p).tdiv 4) = (3 * v + p).tdiv 4 := by
    rw [Int.tdiv_eq_ediv_of_nonneg (by omega)]; exact wraps_i64' _ (by omega) (by omega)
  clear ha hp ha0 ha1 hp0 hp1 hl hs hv ht hn0 hn1 hd0 hd1
  have B := Lib.hid (below_two w (.cells #[.bool true, .int .i64 l, .int .i64 s, .int .i64 v, .int .i64 t] 24) (.cells #[.bool false, .int .i64 0, .int .i64 0, .int .i64 0, .int .i64 0] 24))
  have HR := Lib.hid (held_second false 0 0 0 0 24 w (.cells #[.bool true, .int .i64 l, .int .i64 s, .int .i64 v, .int .i64 t] 24))
  have HP := Lib.hid (held_first true l s v t 24 w (.cells #[.bool false, .int .i64 0, .int .i64 0, .int .i64 0, .int .i64 0] 24))
  have R := Lib.hid (fun w => right_b true l s v t _ hr w)
  have A := Lib.hid (ticks2 n d _ hn)
  clear hr hn
  go_enter Try.func9, Try.ntmps9
  go_wp2_with fail
  refine (R.out _).mono ?_
  rintro e w2 ⟨rfl, hb2⟩
  have hb3 := hb2.alloc hb2.size (.cells #[.int .i64 n, .int .i64 d] 3)
  have BB := Lib.hid (B.out.trans (hb3.mono B.out.size))
  have HR3 := Lib.hid (HR.out.below hb3)
  have HP3 := Lib.hid (HP.out.below hb3)
  have hz : w.heap.size + 1 < w2.heap.size := (HR.out.below hb2).lt
  clear R hb2 hb3 HR B HP
  go_wp2_with fail
  refine (A.out _ _ rfl).mono ?_
  rintro e w3 ⟨rfl, rfl⟩
  generalize w2.alloc (.cells #[.int .i64 n, .int .i64 d] 3) = w3 at BB HR3 HP3 ⊢
  clear A
  obtain ⟨r0, r1, r2, r3, r4⟩ := HR3.out.facts
  obtain ⟨f0, f1, f2, f3, f4⟩ := HR3.out.free
  obtain ⟨p0, p1, p2, p3, p4⟩ := HP3.out.facts
  clear HR3 HP3
  go_wp2_with fail
  refine (AD.out _).mono ?_
  rintro e w4 ⟨rfl, rfl⟩
  clear AD
  go_wp2_with fail
  go_still_tail 18, (by kernel_rfl)
  still_call (AP.out _)
  repeat still_step
  refine wpStill_nil ?_
  change wpList _ _ _ _ _ w4.drew
  have BD := Lib.hid (BB.out.drew)
  generalize hw : w4.drew = w5 at BD ⊢
  have q0 : w5.cell? ⟨w.heap.size + 1, 0, none⟩ = some (.bool false) := hw ▸ r0
  have g0 : w5.frozen? ⟨w.heap.size + 1, 0, none⟩ = false := hw ▸ f0
  have q1 : w5.cell? ⟨w.heap.size + 1, 1, none⟩ = some (.int .i64 0) := hw ▸ r1
  have g1 : w5.frozen? ⟨w.heap.size + 1, 1, none⟩ = false := hw ▸ f1
  have q2 : w5.cell? ⟨w.heap.size + 1, 2, none⟩ = some (.int .i64 0) := hw ▸ r2
  have g2 : w5.frozen? ⟨w.heap.size + 1, 2, none⟩ = false := hw ▸ f2
  have q3 : w5.cell? ⟨w.heap.size + 1, 3, none⟩ = some (.int .i64 0) := hw ▸ r3
  have g3 : w5.frozen? ⟨w.heap.size + 1, 3, none⟩ = false := hw ▸ f3
  have q4 : w5.cell? ⟨w.heap.size + 1, 4, none⟩ = some (.int .i64 0) := hw ▸ r4
  have g4 : w5.frozen? ⟨w.heap.size + 1, 4, none⟩ = false := hw ▸ f4
  clear r0 r1 r2 r3 r4 f0 f1 f2 f3 f4 p0 p1 p2 p3 p4 BB hw
  go_wp2
  exact bodyPost_ret (v := .tuple #[.agg #[.bool true, .int .i64 l, .int .i64 ((7 * s + a).tdiv 8), .int .i64 ((3 * v + p).tdiv 4), .int .i64 n], .int .i64 0]) (by simp [results, Try.results9, go_sem, q0, q1, q2, q3, q4]) rfl ⟨rfl, below_five BD.out _ (Nat.le_succ _) _ _ _ _ _⟩

theorem adj_tick {n d l : Int} (h0 : 0 ≤ n) (h1 : n ≤ 1099511627776) (hd : 0 ≤ d) (hl : 0 ≤ l) : 0 ≤ adjI n d l ∧ adjI n d l ≤ 1099511627776 := by
  unfold adjI cutI
  repeat' split
  all_goals omega
theorem apart_tick {a b : Int} (h0 : 0 ≤ a) (h1 : a ≤ 1099511627776) (h2 : 0 ≤ b) (h3 : b ≤ 1099511627776) : 0 ≤ apartI a b ∧ apartI a b ≤ 1099511627776 := by
  unfold apartI
  split <;> omega
theorem sampleE_a {h : Bool} {l s v t n d : Int} (hr : rightB ⟨h, l, s, v, t⟩ = false) : sampleE ⟨h, l, s, v, t⟩ n d = (nul, 1) := by rw [sampleE, hr]; rfl
theorem sampleE_b {h : Bool} {l s v t n d : Int} (hr : rightB ⟨h, l, s, v, t⟩ = true) (hn : (tickB n && tickB d) = false) : sampleE ⟨h, l, s, v, t⟩ n d = (nul, 1) := by rw [sampleE, hr, hn]; rfl
theorem sampleE_c {l s v t n d : Int} (hr : rightB ⟨false, l, s, v, t⟩ = true) (hn : (tickB n && tickB d) = true) : sampleE ⟨false, l, s, v, t⟩ n d = (⟨true, n, n, n.tdiv 2, n⟩, 0) := by rw [sampleE, hr, hn]; rfl
theorem sampleE_d {l s v t n d : Int} (hr : rightB ⟨true, l, s, v, t⟩ = true) (hn : (tickB n && tickB d) = true) : sampleE ⟨true, l, s, v, t⟩ n d = (moreI ⟨true, l, s, v, t⟩ n d, 0) := by rw [sampleE, hr, hn]; rfl

/-- SAMPLE of the code -/
theorem sample_any (h : Bool) (l s v t n d : Int) (w : World) :
    Calls Try.prog 9 #[.agg #[.bool h, .int .i64 l, .int .i64 s, .int .i64 v, .int .i64 t], .int .i64 n, .int .i64 d] w fun e w' => e = .returned (.tuple #[.agg #[.bool (sampleE ⟨h, l, s, v, t⟩ n d).1.h, .int .i64 (sampleE ⟨h, l, s, v, t⟩ n d).1.l, .int .i64 (sampleE ⟨h, l, s, v, t⟩ n d).1.s, .int .i64 (sampleE ⟨h, l, s, v, t⟩ n d).1.v, .int .i64 (sampleE ⟨h, l, s, v, t⟩ n d).1.t], .int .i64 (sampleE ⟨h, l, s, v, t⟩ n d).2]) ∧ Below w.heap.size w w' := by
  cases hr : rightB ⟨h, l, s, v, t⟩
  · rw [sampleE_a hr]; exact sample_a h l s v t n d w hr
  cases hn : (tickB n && tickB d)
  · rw [sampleE_b hr hn]; exact sample_b h l s v t n d w hr hn
  cases h
  · rw [sampleE_c hr hn]; exact sample_c l s v t n d w hr hn
  · rw [sampleE_d hr hn]
    obtain ⟨⟨hn0, hn1⟩, hd0, hd1⟩ : (0 ≤ n ∧ n ≤ 1099511627776) ∧ (0 ≤ d ∧ d ≤ 1099511627776) := by
      simp only [Bool.and_eq_true, tick_iff] at hn; exact hn
    obtain ⟨hl, hs, hv, ht, _⟩ := right_has hr rfl
    simp only at hl hs hv ht
    by_cases hm : n < l
    · have e : lowI l n = n := if_pos hm
      have a0 := adj_tick (l := n) hn0 hn1 hd0 hn0
      have p0 := apart_tick hs.1 hs.2 a0.1 a0.2
      have := sample_d l s v t n d _ _ w hr hn hm rfl rfl a0.1 a0.2 p0.1 p0.2
      unfold moreI
      simp only [e]
      exact this
    · have e : lowI l n = l := if_neg hm
      have a0 := adj_tick (l := l) hn0 hn1 hd0 hl.1
      have p0 := apart_tick hs.1 hs.2 a0.1 a0.2
      have := sample_e l s v t n d _ _ w hr hn hm rfl rfl a0.1 a0.2 p0.1 p0.2
      unfold moreI
      simp only [e]
      exact this
end Go.Proofs.Ytfcojlnbocncpaa
