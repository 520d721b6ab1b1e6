/- The laws Bounds and Flight. -/
import Derived.Test.YtiglhdiclfknhaaCgR
import Derived.Test.YtiglhdiclfknhaaCgO
set_option linter.unusedSimpArgs false
set_option linter.unusedVariables false
namespace Go.Proofs.Ytiglhdiclfknhaa
open Go.RowKit
theorem not_low {q : St} (h : rightB q = true) : decide (q.z < 2400) = false := by
  obtain ⟨hz, _⟩ := right_iff.1 h
  simp only [decide_eq_false_iff_not]; omega
set_option maxHeartbeats 3200000 in
theorem bounds_some (b o c : Nat) (l : List ActV) (w : World) (hR : RdA w (.slice (some ⟨b, o, none⟩) l.length c) l) (hb : b < w.heap.size) (hc : l.length ≤ c) (hm : c ≤ maxLen) (hok : ActsOk l) : Calls Try.prog 6 #[.slice (some ⟨b, o, none⟩) l.length c] w (Yes w) := by
  unfold maxLen at hm
  have AT := Lib.hid (fun k (hk : k < l.length) W hW => hR.at hb k hk W hW)
  have OK := Lib.hid hok
  clear hR hok hb
  go_enter Try.func6, Try.ntmps6
  go_wp2_with fail
  refine (new_any _).mono ?_
  rintro e wk1 ⟨rfl, bn⟩
  have HQ := Lib.hid bn.size
  have HS := Lib.hid (held_last 12000 0 0 (-1) 0 25 wk1)
  have BB := Lib.hid (below_more bn (Nat.le_refl _) (.cells #[.int .i64 12000, .int .i64 0, .int .i64 0, .int .i64 (-1), .int .i64 0] 25))
  clear bn
  go_wp2_with fail
  generalize wk1.alloc (.cells #[.int .i64 12000, .int .i64 0, .int .i64 0, .int .i64 (-1), .int .i64 0] 25) = w5 at HS BB ⊢
  generalize wk1.heap.size = qS at HS HQ ⊢
  go_loopw [11] (fun i wr => ∃ (k : Nat) (z t f s p : Int), i = .int .i64 k ∧ k ≤ l.length ∧ rightB ⟨z, t, f, s, p⟩ = true ∧ Held qS z t f s p wr ∧ Below w.heap.size w wr) (fun i _ => l.length - (intOf i).toNat)
  case atStart => exact ⟨0, _, _, _, _, _, rfl, Nat.zero_le _, fresh_right, HS.out, BB.out⟩
  case round =>
    obtain ⟨k, z, t, f, s, p, rfl, hk, hr, hs, hbel⟩ := hrel
    have HS := Lib.hid hs
    have BB := Lib.hid hbel
    by_cases hlt : k < l.length
    · have hx0 : True := trivial
      have hi1 : (k : Int) < (l.length : Int) := by omega
      have hw1 : IntKind.i64.wrap ((k : Int) + 1) = (k : Int) + 1 := wraps_i64' _ (by omega) (by omega)
      obtain ⟨a0, a1, a2, a3⟩ := AT.out k hlt wr hbel
      have hkk := OK.out.at k hlt
      generalize l[k] = cc at a0 a1 a2 a3 hkk
      obtain ⟨kk, n, a, now⟩ := cc
      simp only at a0 a1 a2 a3 hkk
      obtain ⟨⟨⟨z', t', f', s', p'⟩, e'⟩, hd⟩ : ∃ r, doesE ⟨z, t, f, s, p⟩ kk n a now = r := ⟨_, rfl⟩
      have D := Lib.hid (fun w => does_eq hkk hd w)
      obtain ⟨hr', hways⟩ := does_ways hr hd
      have hmod : kk.tmod 4 = kk % 4 := Int.tmod_eq_emod_of_nonneg hkk.1
      have HR' := Lib.hid hr'
      simp only at hways
      have R2 := Lib.hid (fun w => rright_b z' t' f' s' p' _ hr' w)
      have l9 := not_low hr'
      simp only at l9
      have b3 := below_one wr (.cells #[.int .u8 kk, .int .i64 n, .int .i64 a, .int .i64 now] 48)
      have HX := Lib.hid (heldA_at (b := wr.heap.size) kk n a now 48 wr rfl)
      have HS := Lib.hid (HS.out.below b3)
      have BB := Lib.hid (BB.out.trans (b3.mono BB.out.size))
      clear b3 hd hr hs hbel
      obtain ⟨s0, s1, s2, s3, s4⟩ := HS.out.facts
      obtain ⟨c0, c1, c2, c3⟩ := HX.out.facts
      go_wp2_with fail
      refine (D.out _).mono ?_
      generalize wr.alloc (.cells #[.int .u8 kk, .int .i64 n, .int .i64 a, .int .i64 now] 48) = w6 at HS HX BB ⊢
      generalize wr.heap.size = qX at HX ⊢
      rintro e w7 ⟨rfl, bn⟩
      have HS := Lib.hid (HS.out.below bn)
      have HX := Lib.hid (HX.out.below bn)
      have BB := Lib.hid (BB.out.trans (bn.mono BB.out.size))
      clear bn D a0 a1 a2 a3 s0 s1 s2 s3 s4 c0 c1 c2 c3
      have b3 := below_one w7 (.cells #[.int .i64 z', .int .i64 t', .int .i64 f', .int .i64 s', .int .i64 p'] 25)
      have HT := Lib.hid (held_last z' t' f' s' p' 25 w7)
      have HS := Lib.hid (HS.out.below b3)
      have HX := Lib.hid (HX.out.below b3)
      have BB := Lib.hid (BB.out.trans (b3.mono BB.out.size))
      clear b3
      obtain ⟨s0, s1, s2, s3, s4⟩ := HS.out.facts
      obtain ⟨g0, g1, g2, g3, g4⟩ := HS.out.free
      obtain ⟨c0, c1, c2, c3⟩ := HX.out.facts
      obtain ⟨t0, t1, t2, t3, t4⟩ := HT.out.facts
      rcases hways with hA | ⟨he0, hn1, hn2, ⟨hk4, hf1, hf2⟩ | ⟨hk4, hf1⟩⟩
      · obtain ⟨h0, heq⟩ := hA
        have d1 : (e' == 0) = false := by simpa using h0
        clear h0 heq hmod hkk
        go_wp2_with fail
        refine (ours_any _ _ _ _ _ _).mono ?_
        generalize w7.alloc (.cells #[.int .i64 z', .int .i64 t', .int .i64 f', .int .i64 s', .int .i64 p'] 25) = w8 at HS HX HT BB s0 s1 s2 s3 s4 g0 g1 g2 g3 g4 c0 c1 c2 c3 t0 t1 t2 t3 t4 ⊢
        generalize w7.heap.size = qT at HT t0 t1 t2 t3 t4 ⊢
        rintro e w9 ⟨rfl, bn⟩
        have HS := Lib.hid (HS.out.below bn)
        have HT := Lib.hid (HT.out.below bn)
        have BB := Lib.hid (BB.out.trans (bn.mono BB.out.size))
        clear bn s0 s1 s2 s3 s4 g0 g1 g2 g3 g4 c0 c1 c2 c3 t0 t1 t2 t3 t4
        go_wp2_with fail
        refine (R2.out _).mono ?_
        rintro e w10 ⟨rfl, bn⟩
        have HS := Lib.hid (HS.out.below bn)
        have HT := Lib.hid (HT.out.below bn)
        have BB := Lib.hid (BB.out.trans (bn.mono BB.out.size))
        clear bn R2
        obtain ⟨s0, s1, s2, s3, s4⟩ := HS.out.facts
        obtain ⟨g0, g1, g2, g3, g4⟩ := HS.out.free
        obtain ⟨t0, t1, t2, t3, t4⟩ := HT.out.facts
        go_wp2
        exact ⟨⟨k + 1, z', t', f', s', p', by go_num, hlt, HR'.out, HS.out.set z' t' f' s' p', below_five BB.out qS HQ.out (.int .i64 z') (.int .i64 t') (.int .i64 f') (.int .i64 s') (.int .i64 p')⟩, by simp [intOf, hw1]; omega⟩
      · subst he0
        have m1 : (kk.tmod 4 == 0) = true := by rw [hmod, hk4]; rfl
        have g9 : decide (f' > z') = false := by simp only [decide_eq_false_iff_not]; omega
        clear hk4 hf1 hf2 hn1 hn2 hmod hkk
        go_wp2_with fail
        refine (ours_any _ _ _ _ _ _).mono ?_
        generalize w7.alloc (.cells #[.int .i64 z', .int .i64 t', .int .i64 f', .int .i64 s', .int .i64 p'] 25) = w8 at HS HX HT BB s0 s1 s2 s3 s4 g0 g1 g2 g3 g4 c0 c1 c2 c3 t0 t1 t2 t3 t4 ⊢
        generalize w7.heap.size = qT at HT t0 t1 t2 t3 t4 ⊢
        rintro e w9 ⟨rfl, bn⟩
        have HS := Lib.hid (HS.out.below bn)
        have HT := Lib.hid (HT.out.below bn)
        have BB := Lib.hid (BB.out.trans (bn.mono BB.out.size))
        clear bn s0 s1 s2 s3 s4 g0 g1 g2 g3 g4 c0 c1 c2 c3 t0 t1 t2 t3 t4
        go_wp2_with fail
        refine (R2.out _).mono ?_
        rintro e w10 ⟨rfl, bn⟩
        have HS := Lib.hid (HS.out.below bn)
        have HT := Lib.hid (HT.out.below bn)
        have BB := Lib.hid (BB.out.trans (bn.mono BB.out.size))
        clear bn R2
        obtain ⟨s0, s1, s2, s3, s4⟩ := HS.out.facts
        obtain ⟨g0, g1, g2, g3, g4⟩ := HS.out.free
        obtain ⟨t0, t1, t2, t3, t4⟩ := HT.out.facts
        go_wp2
        exact ⟨⟨k + 1, z', t', f', s', p', by go_num, hlt, HR'.out, HS.out.set z' t' f' s' p', below_five BB.out qS HQ.out (.int .i64 z') (.int .i64 t') (.int .i64 f') (.int .i64 s') (.int .i64 p')⟩, by simp [intOf, hw1]; omega⟩
      · subst he0
        have m1 : (kk.tmod 4 == 0) = false := by rw [hmod]; simpa using hk4
        clear hk4 hf1 hn1 hn2 hmod hkk
        go_wp2_with fail
        refine (ours_any _ _ _ _ _ _).mono ?_
        generalize w7.alloc (.cells #[.int .i64 z', .int .i64 t', .int .i64 f', .int .i64 s', .int .i64 p'] 25) = w8 at HS HX HT BB s0 s1 s2 s3 s4 g0 g1 g2 g3 g4 c0 c1 c2 c3 t0 t1 t2 t3 t4 ⊢
        generalize w7.heap.size = qT at HT t0 t1 t2 t3 t4 ⊢
        rintro e w9 ⟨rfl, bn⟩
        have HS := Lib.hid (HS.out.below bn)
        have HT := Lib.hid (HT.out.below bn)
        have BB := Lib.hid (BB.out.trans (bn.mono BB.out.size))
        clear bn s0 s1 s2 s3 s4 g0 g1 g2 g3 g4 c0 c1 c2 c3 t0 t1 t2 t3 t4
        go_wp2_with fail
        refine (R2.out _).mono ?_
        rintro e w10 ⟨rfl, bn⟩
        have HS := Lib.hid (HS.out.below bn)
        have HT := Lib.hid (HT.out.below bn)
        have BB := Lib.hid (BB.out.trans (bn.mono BB.out.size))
        clear bn R2
        obtain ⟨s0, s1, s2, s3, s4⟩ := HS.out.facts
        obtain ⟨g0, g1, g2, g3, g4⟩ := HS.out.free
        obtain ⟨t0, t1, t2, t3, t4⟩ := HT.out.facts
        go_wp2
        exact ⟨⟨k + 1, z', t', f', s', p', by go_num, hlt, HR'.out, HS.out.set z' t' f' s' p', below_five BB.out qS HQ.out (.int .i64 z') (.int .i64 t') (.int .i64 f') (.int .i64 s') (.int .i64 p')⟩, by simp [intOf, hw1]; omega⟩
    · have hi1 : ¬ ((k : Int) < (l.length : Int)) := by omega
      go_wp2_with fail
      refine (alive_any _).mono ?_
      rintro e w9 ⟨rfl, bn⟩
      have BB := Lib.hid (BB.out.trans (bn.mono BB.out.size))
      clear bn hs hbel
      go_wp2
      go_ret
      exact ⟨rfl, BB.out⟩
set_option maxHeartbeats 1600000 in
theorem bounds_none (a : Option Addr) (c : Nat) (w : World) : Calls Try.prog 6 #[.slice a 0 c] w (Yes w) := by
  go_enter Try.func6, Try.ntmps6
  go_wp2_with fail
  refine (new_any _).mono ?_
  rintro e wk1 ⟨rfl, bn⟩
  have HQ := Lib.hid bn.size
  have HS := Lib.hid (held_last 12000 0 0 (-1) 0 25 wk1)
  have BB := Lib.hid (below_more bn (Nat.le_refl _) (.cells #[.int .i64 12000, .int .i64 0, .int .i64 0, .int .i64 (-1), .int .i64 0] 25))
  clear bn
  go_wp2_with fail
  generalize wk1.alloc (.cells #[.int .i64 12000, .int .i64 0, .int .i64 0, .int .i64 (-1), .int .i64 0] 25) = w5 at HS BB ⊢
  generalize wk1.heap.size = qS at HS HQ ⊢
  refine wp_loop_rounds 1 ?_
  rw [rounds_succ]
  go_wp2_with fail
  refine (alive_any _).mono ?_
  rintro e w9 ⟨rfl, bn⟩
  have BB := Lib.hid (BB.out.trans (bn.mono BB.out.size))
  clear bn
  go_wp2
  go_ret
  exact ⟨rfl, BB.out⟩
/-- P7.5, P7.7 -/
theorem bounds_walk (v : Value) (l : List ActV) (w : World) (hR : RdA w v l) (hok : ActsOk l) : Calls Try.prog 6 #[v] w (Yes w) := by
  rcases hR.form with ⟨_, a, c, rfl⟩ | ⟨b, o, c, rfl, hb, hc, hm⟩
  · exact bounds_none a c w
  · exact bounds_some b o c l w hR hb hc hm hok
theorem not_neg {q : St} (h : rightB q = true) : decide (q.f < 0) = false := by
  obtain ⟨_, _, hf, _⟩ := right_iff.1 h
  simp only [decide_eq_false_iff_not]; omega
set_option maxHeartbeats 3200000 in
theorem flight_some (b o c : Nat) (l : List ActV) (w : World) (hR : RdA w (.slice (some ⟨b, o, none⟩) l.length c) l) (hb : b < w.heap.size) (hc : l.length ≤ c) (hm : c ≤ maxLen) (hok : ActsOk l) : Calls Try.prog 8 #[.slice (some ⟨b, o, none⟩) l.length c] w (Yes w) := by
  unfold maxLen at hm
  have AT := Lib.hid (fun k (hk : k < l.length) W hW => hR.at hb k hk W hW)
  have OK := Lib.hid hok
  clear hR hok hb
  go_enter Try.func8, Try.ntmps8
  go_wp2_with fail
  refine (new_any _).mono ?_
  rintro e wk1 ⟨rfl, bn⟩
  have HQ := Lib.hid bn.size
  have HS := Lib.hid (held_last 12000 0 0 (-1) 0 25 wk1)
  have BB := Lib.hid (below_more bn (Nat.le_refl _) (.cells #[.int .i64 12000, .int .i64 0, .int .i64 0, .int .i64 (-1), .int .i64 0] 25))
  clear bn
  go_wp2_with fail
  generalize wk1.alloc (.cells #[.int .i64 12000, .int .i64 0, .int .i64 0, .int .i64 (-1), .int .i64 0] 25) = w5 at HS BB ⊢
  generalize wk1.heap.size = qS at HS HQ ⊢
  go_loopw [4, 12] (fun fl i wr => ∃ (k : Nat) (z t f s p : Int), i = .int .i64 k ∧ fl = .int .i64 f ∧ k ≤ l.length ∧ rightB ⟨z, t, f, s, p⟩ = true ∧ Held qS z t f s p wr ∧ Below w.heap.size w wr) (fun _ i _ => l.length - (intOf i).toNat)
  case atStart => exact ⟨0, _, _, _, _, _, rfl, rfl, Nat.zero_le _, fresh_right, HS.out, BB.out⟩
  case round =>
    obtain ⟨k, z, t, f, s, p, rfl, rfl, hk, hr, hs, hbel⟩ := hrel
    have HS := Lib.hid hs
    have BB := Lib.hid hbel
    by_cases hlt : k < l.length
    · have ff : 0 ≤ f ∧ f ≤ 1099511627776 := (right_iff.1 hr).2.2.1
      have FF := Lib.hid ff
      have hi1 : (k : Int) < (l.length : Int) := by omega
      have hw1 : IntKind.i64.wrap ((k : Int) + 1) = (k : Int) + 1 := wraps_i64' _ (by omega) (by omega)
      obtain ⟨a0, a1, a2, a3⟩ := AT.out k hlt wr hbel
      have hkk := OK.out.at k hlt
      generalize l[k] = cc at a0 a1 a2 a3 hkk
      obtain ⟨kk, n, a, now⟩ := cc
      simp only at a0 a1 a2 a3 hkk
      obtain ⟨⟨⟨z', t', f', s', p'⟩, e'⟩, hd⟩ : ∃ r, doesE ⟨z, t, f, s, p⟩ kk n a now = r := ⟨_, rfl⟩
      have D := Lib.hid (fun w => does_eq hkk hd w)
      obtain ⟨hr', hways⟩ := does_ways hr hd
      have hmod : kk.tmod 4 = kk % 4 := Int.tmod_eq_emod_of_nonneg hkk.1
      have HR' := Lib.hid hr'
      simp only at hways
      have l9 := not_neg hr'
      simp only at l9
      clear ff
      have b3 := below_one wr (.cells #[.int .u8 kk, .int .i64 n, .int .i64 a, .int .i64 now] 48)
      have HX := Lib.hid (heldA_at (b := wr.heap.size) kk n a now 48 wr rfl)
      have HS := Lib.hid (HS.out.below b3)
      have BB := Lib.hid (BB.out.trans (b3.mono BB.out.size))
      clear b3 hd hr hs hbel
      obtain ⟨s0, s1, s2, s3, s4⟩ := HS.out.facts
      obtain ⟨c0, c1, c2, c3⟩ := HX.out.facts
      go_wp2_with fail
      refine (D.out _).mono ?_
      generalize wr.alloc (.cells #[.int .u8 kk, .int .i64 n, .int .i64 a, .int .i64 now] 48) = w6 at HS HX BB ⊢
      generalize wr.heap.size = qX at HX ⊢
      rintro e w7 ⟨rfl, bn⟩
      have HS := Lib.hid (HS.out.below bn)
      have HX := Lib.hid (HX.out.below bn)
      have BB := Lib.hid (BB.out.trans (bn.mono BB.out.size))
      clear bn D a0 a1 a2 a3 s0 s1 s2 s3 s4 c0 c1 c2 c3
      have b3 := below_one w7 (.cells #[.int .i64 z', .int .i64 t', .int .i64 f', .int .i64 s', .int .i64 p'] 25)
      have HT := Lib.hid (held_last z' t' f' s' p' 25 w7)
      have HS := Lib.hid (HS.out.below b3)
      have HX := Lib.hid (HX.out.below b3)
      have BB := Lib.hid (BB.out.trans (b3.mono BB.out.size))
      clear b3
      obtain ⟨s0, s1, s2, s3, s4⟩ := HS.out.facts
      obtain ⟨g0, g1, g2, g3, g4⟩ := HS.out.free
      obtain ⟨c0, c1, c2, c3⟩ := HX.out.facts
      obtain ⟨t0, t1, t2, t3, t4⟩ := HT.out.facts
      have ff := FF.out
      rcases hways with hA | ⟨he0, hn1, hn2, ⟨hk4, hf1, hf2⟩ | ⟨hk4, hf1⟩⟩
      · obtain ⟨h0, heq⟩ := hA
        simp only [St.mk.injEq] at heq
        obtain ⟨rfl, rfl, rfl, rfl, rfl⟩ := heq
        have d1 : (e' == 0) = false := by simpa using h0
        have q0 : (f' != f') = false := by simp
        clear ff h0 hmod hkk
        go_upto_region 7 with fail
        generalize w7.alloc (.cells #[.int .i64 z', .int .i64 t', .int .i64 f', .int .i64 s', .int .i64 p'] 25) = w8 at HS HX HT BB s0 s1 s2 s3 s4 g0 g1 g2 g3 g4 c0 c1 c2 c3 t0 t1 t2 t3 t4 ⊢
        generalize w7.heap.size = qT at HT t0 t1 t2 t3 t4 ⊢
        have HS := Lib.hid (HS.out.set z' t' f' s' p')
        have BB := Lib.hid (below_five BB.out qS HQ.out (.int .i64 z') (.int .i64 t') (.int .i64 f') (.int .i64 s') (.int .i64 p'))
        go_upto_region 12 with fail
        clear s0 s1 s2 s3 s4 g0 g1 g2 g3 g4 c0 c1 c2 c3 t0 t1 t2 t3 t4
        generalize (((((w8.setCell ⟨qS, 0, none⟩ (.int .i64 z')).setCell ⟨qS, 1, none⟩ (.int .i64 t')).setCell ⟨qS, 2, none⟩ (.int .i64 f')).setCell ⟨qS, 3, none⟩ (.int .i64 s')).setCell ⟨qS, 4, none⟩ (.int .i64 p')) = w9 at HS BB ⊢
        obtain ⟨s0, s1, s2, s3, s4⟩ := HS.out.facts
        go_wp2
        exact ⟨⟨k + 1, z', t', f', s', p', by go_num, rfl, hlt, HR'.out, HS.out, BB.out⟩, by simp [intOf, hw1]; omega⟩
      · subst he0
        have m1 : (kk.tmod 4 == 0) = true := by rw [hmod, hk4]; rfl
        subst hf1
        have hw2 : IntKind.i64.wrap (f + n) = f + n := wraps_i64' _ (by omega) (by omega)
        have q0 : (f + n != f + n) = false := by simp
        clear ff hk4 hf2 hn1 hn2 hmod hkk
        go_upto_region 7 with fail
        generalize w7.alloc (.cells #[.int .i64 z', .int .i64 t', .int .i64 (f + n), .int .i64 s', .int .i64 p'] 25) = w8 at HS HX HT BB s0 s1 s2 s3 s4 g0 g1 g2 g3 g4 c0 c1 c2 c3 t0 t1 t2 t3 t4 ⊢
        generalize w7.heap.size = qT at HT t0 t1 t2 t3 t4 ⊢
        have HS := Lib.hid (HS.out.set z' t' (f + n) s' p')
        have BB := Lib.hid (below_five BB.out qS HQ.out (.int .i64 z') (.int .i64 t') (.int .i64 (f + n)) (.int .i64 s') (.int .i64 p'))
        go_upto_region 12 with fail
        clear s0 s1 s2 s3 s4 g0 g1 g2 g3 g4 c0 c1 c2 c3 t0 t1 t2 t3 t4
        generalize (((((w8.setCell ⟨qS, 0, none⟩ (.int .i64 z')).setCell ⟨qS, 1, none⟩ (.int .i64 t')).setCell ⟨qS, 2, none⟩ (.int .i64 ((f + n)))).setCell ⟨qS, 3, none⟩ (.int .i64 s')).setCell ⟨qS, 4, none⟩ (.int .i64 p')) = w9 at HS BB ⊢
        obtain ⟨s0, s1, s2, s3, s4⟩ := HS.out.facts
        go_wp2
        exact ⟨⟨k + 1, z', t', (f + n), s', p', by go_num, rfl, hlt, HR'.out, HS.out, BB.out⟩, by simp [intOf, hw1]; omega⟩
      · subst he0
        have m1 : (kk.tmod 4 == 0) = false := by rw [hmod]; simpa using hk4
        subst hf1
        have hw2 : IntKind.i64.wrap (f - n) = f - n := wraps_i64' _ (by omega) (by omega)
        have q0 : (f - n != f - n) = false := by simp
        clear ff hk4 hn1 hn2 hmod hkk
        go_upto_region 7 with fail
        generalize w7.alloc (.cells #[.int .i64 z', .int .i64 t', .int .i64 (f - n), .int .i64 s', .int .i64 p'] 25) = w8 at HS HX HT BB s0 s1 s2 s3 s4 g0 g1 g2 g3 g4 c0 c1 c2 c3 t0 t1 t2 t3 t4 ⊢
        generalize w7.heap.size = qT at HT t0 t1 t2 t3 t4 ⊢
        have HS := Lib.hid (HS.out.set z' t' (f - n) s' p')
        have BB := Lib.hid (below_five BB.out qS HQ.out (.int .i64 z') (.int .i64 t') (.int .i64 (f - n)) (.int .i64 s') (.int .i64 p'))
        go_upto_region 12 with fail
        clear s0 s1 s2 s3 s4 g0 g1 g2 g3 g4 c0 c1 c2 c3 t0 t1 t2 t3 t4
        generalize (((((w8.setCell ⟨qS, 0, none⟩ (.int .i64 z')).setCell ⟨qS, 1, none⟩ (.int .i64 t')).setCell ⟨qS, 2, none⟩ (.int .i64 ((f - n)))).setCell ⟨qS, 3, none⟩ (.int .i64 s')).setCell ⟨qS, 4, none⟩ (.int .i64 p')) = w9 at HS BB ⊢
        obtain ⟨s0, s1, s2, s3, s4⟩ := HS.out.facts
        go_wp2
        exact ⟨⟨k + 1, z', t', (f - n), s', p', by go_num, rfl, hlt, HR'.out, HS.out, BB.out⟩, by simp [intOf, hw1]; omega⟩
    · have hi1 : ¬ ((k : Int) < (l.length : Int)) := by omega
      go_wp2_with fail
      refine (alive_any _).mono ?_
      rintro e w9 ⟨rfl, bn⟩
      have BB := Lib.hid (BB.out.trans (bn.mono BB.out.size))
      clear bn hs hbel
      go_wp2
      go_ret
      exact ⟨rfl, BB.out⟩
set_option maxHeartbeats 1600000 in
theorem flight_none (a : Option Addr) (c : Nat) (w : World) : Calls Try.prog 8 #[.slice a 0 c] w (Yes w) := by
  go_enter Try.func8, Try.ntmps8
  go_wp2_with fail
  refine (new_any _).mono ?_
  rintro e wk1 ⟨rfl, bn⟩
  have HQ := Lib.hid bn.size
  have HS := Lib.hid (held_last 12000 0 0 (-1) 0 25 wk1)
  have BB := Lib.hid (below_more bn (Nat.le_refl _) (.cells #[.int .i64 12000, .int .i64 0, .int .i64 0, .int .i64 (-1), .int .i64 0] 25))
  clear bn
  go_wp2_with fail
  generalize wk1.alloc (.cells #[.int .i64 12000, .int .i64 0, .int .i64 0, .int .i64 (-1), .int .i64 0] 25) = w5 at HS BB ⊢
  generalize wk1.heap.size = qS at HS HQ ⊢
  refine wp_loop_rounds 1 ?_
  rw [rounds_succ]
  go_wp2_with fail
  refine (alive_any _).mono ?_
  rintro e w9 ⟨rfl, bn⟩
  have BB := Lib.hid (BB.out.trans (bn.mono BB.out.size))
  clear bn
  go_wp2
  go_ret
  exact ⟨rfl, BB.out⟩
/-- P7.2 to P7.4 -/
theorem flight_walk (v : Value) (l : List ActV) (w : World) (hR : RdA w v l) (hok : ActsOk l) : Calls Try.prog 8 #[v] w (Yes w) := by
  rcases hR.form with ⟨_, a, c, rfl⟩ | ⟨b, o, c, rfl, hb, hc, hm⟩
  · exact flight_none a c w
  · exact flight_some b o c l w hR hb hc hm hok
end Go.Proofs.Ytiglhdiclfknhaa
