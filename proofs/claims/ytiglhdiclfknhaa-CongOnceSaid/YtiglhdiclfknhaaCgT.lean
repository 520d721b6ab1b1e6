/- The law Once. -/
import Derived.Test.YtiglhdiclfknhaaCgS
import Derived.Test.YtiglhdiclfknhaaCgL2
set_option linter.unusedSimpArgs false
set_option linter.unusedVariables false
namespace Go.Proofs.Ytiglhdiclfknhaa
open Go.RowKit
theorem lost_ok {q : St} {n a now : Int} (hr : rightB q = true) (hn : gramB n = true) (ha : timeB a = true) (hnow : timeB now = true) (hf : n ≤ q.f) :
    lostE q n a now = (lostQ q n a now, 0) ∧ rightB (lostQ q n a now) = true ∧ (lostQ q n a now).f = q.f - n := by
  have h1 := (in_iff.1 hn).1
  have hl := less_right hr h1 hf
  refine ⟨by rw [lostE, hr, hn, ha, hnow]; simp only [Bool.and_self, if_true]; rw [if_neg (by omega)], ?_, ?_⟩
  · unfold lostQ
    split
    · exact hl
    · exact fallen_right hl hnow
  · unfold lostQ
    split <;> rfl
theorem lost_less {q : St} {n a now : Int} (h : a < q.s) : lostQ q n a now = lessQ q n := by unfold lostQ; rw [if_pos h]
theorem sent_ways {q r : St} {e : Int} (hr : rightB q = true) (he : sentE q 100 = (r, e)) (h0 : e = 0) : rightB r = true ∧ r.f = q.f + 100 := by
  have h := call_ok (k := 0) (n := 100) (a := 0) (now := 0) hr (show (sentE q 100).2 = 0 by rw [he]; exact h0)
  have h4 : (sentE q 100).1.f = q.f + 100 := h.2.2.2.1
  have h1 : rightB (sentE q 100).1 = true := h.1
  rw [he] at h1 h4
  exact ⟨h1, h4⟩
theorem time_max {m now : Int} (h : 0 ≤ now ∧ now < 1099511627776) (h1 : now ≤ m) (h2 : m ≤ 1099511627776) : timeB m = true := in_iff.2 ⟨by omega, h2⟩
set_option maxHeartbeats 6400000 in
theorem once_some (b o c : Nat) (l : List ActV) (many now : Int) (w : World) (hR : RdA w (.slice (some ⟨b, o, none⟩) l.length c) l) (hb : b < w.heap.size) (hc : l.length ≤ c) (hm : c ≤ maxLen) (hok : ActsOk l) (r : Nat) (hmr : many.tmod 8 = (r : Int)) (hr8 : r < 8) : Calls Try.prog 7 #[.slice (some ⟨b, o, none⟩) l.length c, .int .u8 many, .int .i64 now] w (Yes w) := by
  have hw7 : IntKind.i64.wrap (r : Int) = (r : Int) := wraps_i64' _ (by omega) (by omega)
  have hw8 : IntKind.i64.wrap ((r : Int) + 2) = (r : Int) + 2 := wraps_i64' _ (by omega) (by omega)
  have HR8 := Lib.hid hr8
  clear hr8
  unfold maxLen at hm
  have AT := Lib.hid (fun k (hk : k < l.length) W hW => hR.at hb k hk W hW)
  have OK := Lib.hid hok
  clear hR hok hb
  go_enter Try.func7, Try.ntmps7
  go_wp2_with fail
  refine (new_any _).mono ?_
  rintro e wk1 ⟨rfl, bn⟩
  have HQ := Lib.hid bn.size
  have HS := Lib.hid (held_last 12000 0 0 (-1) 0 25 wk1)
  have BB := Lib.hid (below_more bn (Nat.le_refl _) (.cells #[.int .i64 12000, .int .i64 0, .int .i64 0, .int .i64 (-1), .int .i64 0] 25))
  clear bn
  go_wp2_with fail
  generalize wk1.alloc (.cells #[.int .i64 12000, .int .i64 0, .int .i64 0, .int .i64 (-1), .int .i64 0] 25) = w5 at HS BB ⊢
  generalize wk1.heap.size = qS at HS HQ ⊢
  go_loopw [21] (fun i wr => ∃ (k : Nat) (z t f s p : Int), i = .int .i64 k ∧ k ≤ l.length ∧ rightB ⟨z, t, f, s, p⟩ = true ∧ Held qS z t f s p wr ∧ Below w.heap.size w wr) (fun i _ => l.length - (intOf i).toNat)
  case atStart => exact ⟨0, _, _, _, _, _, rfl, Nat.zero_le _, fresh_right, HS.out, BB.out⟩
  case round =>
    obtain ⟨k, z, t, f, s, p, rfl, hk, hr, hs, hbel⟩ := hrel
    have HS := Lib.hid hs
    have BB := Lib.hid hbel
    by_cases hlt : k < l.length
    · clear hmr hw7 hw8
      have hi1 : (k : Int) < (l.length : Int) := by omega
      have hw1 : IntKind.i64.wrap ((k : Int) + 1) = (k : Int) + 1 := wraps_i64' _ (by omega) (by omega)
      obtain ⟨a0, a1, a2, a3⟩ := AT.out k hlt wr hbel
      have hkk := OK.out.at k hlt
      generalize l[k] = cc at a0 a1 a2 a3 hkk
      obtain ⟨kk, n, a, now⟩ := cc
      simp only at a0 a1 a2 a3 hkk
      obtain ⟨⟨⟨z', t', f', s', p'⟩, e'⟩, hd⟩ : ∃ r, doesE ⟨z, t, f, s, p⟩ kk n a now = r := ⟨_, rfl⟩
      have D := Lib.hid (fun w => does_eq hkk hd w)
      obtain ⟨hr', hways⟩ := does_ways hr hd
      have hmod : kk.tmod 4 = kk % 4 := Int.tmod_eq_emod_of_nonneg hkk.1
      have HR' := Lib.hid hr'
      simp only at hways
      have b3 := below_one wr (.cells #[.int .u8 kk, .int .i64 n, .int .i64 a, .int .i64 now] 48)
      have HX := Lib.hid (heldA_at (b := wr.heap.size) kk n a now 48 wr rfl)
      have HS := Lib.hid (HS.out.below b3)
      have BB := Lib.hid (BB.out.trans (b3.mono BB.out.size))
      clear b3 hd hr hs hbel
      obtain ⟨s0, s1, s2, s3, s4⟩ := HS.out.facts
      obtain ⟨c0, c1, c2, c3⟩ := HX.out.facts
      go_wp2_with fail
      refine (D.out _).mono ?_
      generalize wr.alloc (.cells #[.int .u8 kk, .int .i64 n, .int .i64 a, .int .i64 now] 48) = w6 at HS HX BB ⊢
      generalize wr.heap.size = qX at HX ⊢
      rintro e w7 ⟨rfl, bn⟩
      have HS := Lib.hid (HS.out.below bn)
      have HX := Lib.hid (HX.out.below bn)
      have BB := Lib.hid (BB.out.trans (bn.mono BB.out.size))
      clear bn D a0 a1 a2 a3 s0 s1 s2 s3 s4 c0 c1 c2 c3
      clear hways hmod hkk
      obtain ⟨s0, s1, s2, s3, s4⟩ := HS.out.facts
      obtain ⟨g0, g1, g2, g3, g4⟩ := HS.out.free
      go_wp2
      exact ⟨⟨k + 1, z', t', f', s', p', by go_num, hlt, HR'.out, HS.out.set z' t' f' s' p', below_five BB.out qS HQ.out (.int .i64 z') (.int .i64 t') (.int .i64 f') (.int .i64 s') (.int .i64 p')⟩, by simp [intOf, hw1]; omega⟩
    · have hx0 : True := trivial
      clear hx0
      have hi1 : ¬ ((k : Int) < (l.length : Int)) := by omega
      clear hs hbel hk hlt
      by_cases h0 : now < 0
      · have d0 : decide (now < 0) = true := decide_eq_true h0
        go_wp2_with fail
        refine (alive_any _).mono ?_
        rintro e w99 ⟨rfl, bn⟩
        have BB := Lib.hid (BB.out.trans (bn.mono BB.out.size))
        clear bn
        go_wp2
        go_ret
        exact ⟨rfl, BB.out⟩
      have d0 : decide (now < 0) = false := decide_eq_false h0
      by_cases h1 : now ≥ 1099511627776
      · have d1 : decide (now ≥ 1099511627776) = true := decide_eq_true h1
        go_wp2_with fail
        refine (alive_any _).mono ?_
        rintro e w99 ⟨rfl, bn⟩
        have BB := Lib.hid (BB.out.trans (bn.mono BB.out.size))
        clear bn
        go_wp2
        go_ret
        exact ⟨rfl, BB.out⟩
      have d1 : decide (now ≥ 1099511627776) = false := decide_eq_false h1
      have HNW : Hid (0 ≤ now ∧ now < 1099511627776) := Lib.hid ⟨by omega, by omega⟩
      have HR := Lib.hid hr
      clear h0 h1 hr
      go_wp2_with fail
      go_loopw [10, 43] (fun j i wx => ∃ (k : Nat) (c : Int) (z t f s p : Int), i = .int .i64 k ∧ j = .int .i64 c ∧ k ≤ r + 2 ∧ 0 ≤ c ∧ c ≤ k ∧ 100 * c ≤ f ∧ rightB ⟨z, t, f, s, p⟩ = true ∧ Held qS z t f s p wx ∧ Below w.heap.size w wx) (fun _ i _ => r + 2 - (intOf i).toNat)
      case atStart => exact ⟨0, 0, _, _, _, _, _, rfl, rfl, Nat.zero_le _, Int.le_refl _, Int.le_refl _, (right_iff.1 HR.out).2.2.1.1, HR.out, HS.out, BB.out⟩
      case round =>
        obtain ⟨k2, cc, z2, t2, f2, s2, p2, rfl, rfl, hk2, hc0, hck, hcf, hr2, hs2, hbel2⟩ := hrel
        have HS := Lib.hid hs2
        have BB := Lib.hid hbel2
        have hr8 := HR8.out
        clear hs2 hbel2
        by_cases hlt2 : k2 < r + 2
        · have hi2 : (k2 : Int) < (r : Int) + 2 := by omega
          have hw2 : IntKind.i64.wrap ((k2 : Int) + 1) = (k2 : Int) + 1 := wraps_i64' _ (by omega) (by omega)
          have hwc : IntKind.i64.wrap (cc + 1) = cc + 1 := wraps_i64' _ (by omega) (by omega)
          obtain ⟨⟨⟨z3, t3, f3, s3, p3⟩, e3⟩, hd⟩ : ∃ r, sentE ⟨z2, t2, f2, s2, p2⟩ 100 = r := ⟨_, rfl⟩
          have D := Lib.hid (fun w => sent_eq hd w)
          have HW := Lib.hid (sent_ways hr2 hd)
          have H2 := Lib.hid (show 0 ≤ cc ∧ cc ≤ (k2 : Int) ∧ 100 * cc ≤ f2 ∧ rightB ⟨z2, t2, f2, s2, p2⟩ = true from ⟨hc0, hck, hcf, hr2⟩)
          clear hd hr2 hc0 hck hcf hr8 hk2
          obtain ⟨x0, x1, x2, x3, x4⟩ := HS.out.facts
          go_wp2_with fail
          refine (D.out _).mono ?_
          rintro e w7 ⟨rfl, bn⟩
          have HS := Lib.hid (HS.out.below bn)
          have BB := Lib.hid (BB.out.trans (bn.mono BB.out.size))
          have bx := below_one w7 (.cells #[.int .i64 z3, .int .i64 t3, .int .i64 f3, .int .i64 s3, .int .i64 p3] 25)
          have HT := Lib.hid (held_last z3 t3 f3 s3 p3 25 w7)
          have HS := Lib.hid (HS.out.below bx)
          have BB := Lib.hid (BB.out.trans (bx.mono BB.out.size))
          clear bn bx D x0 x1 x2 x3 x4
          obtain ⟨x0, x1, x2, x3, x4⟩ := HS.out.facts
          obtain ⟨g0, g1, g2, g3, g4⟩ := HS.out.free
          obtain ⟨y0, y1, y2, y3, y4⟩ := HT.out.facts
          by_cases he3 : e3 = 0
          · subst he3
            have HR3 := Lib.hid (HW.out rfl)
            go_wp2
            exact ⟨⟨k2 + 1, cc + 1, z3, t3, f3, s3, p3, by go_num, rfl, hlt2, by (have := H2.out; omega), by (have := H2.out; push_cast; omega), by (have := H2.out; have h3 : f3 = f2 + 100 := HR3.out.2; omega), HR3.out.1, HS.out.set z3 t3 f3 s3 p3, below_five BB.out qS HQ.out (.int .i64 z3) (.int .i64 t3) (.int .i64 f3) (.int .i64 s3) (.int .i64 p3)⟩, by simp [intOf, hw2]; omega⟩
          · have d3 : (e3 == 0) = false := by simpa using he3
            clear he3
            go_wp2
            exact ⟨⟨k2 + 1, cc, z2, t2, f2, s2, p2, by go_num, rfl, hlt2, H2.out.1, by (have := H2.out; push_cast; omega), H2.out.2.2.1, H2.out.2.2.2, HS.out, BB.out⟩, by simp [intOf, hw2]; omega⟩
        · have hi2 : ¬ ((k2 : Int) < (r : Int) + 2) := by omega
          by_cases hc2 : cc < 2
          · have d2 : decide (cc < 2) = true := decide_eq_true hc2
            clear hr2 hc2 hc0 hck hcf hr8 hk2 hlt2
            go_wp2_with fail
            refine (alive_any _).mono ?_
            rintro e w99 ⟨rfl, bn⟩
            have BB := Lib.hid (BB.out.trans (bn.mono BB.out.size))
            clear bn
            go_wp2
            go_ret
            exact ⟨rfl, BB.out⟩
          have d2 : decide (cc < 2) = false := decide_eq_false hc2
          by_cases hm : s2 < now
          · obtain ⟨⟨⟨z4, t4, f4, s4, p4⟩, e4⟩, hL⟩ : ∃ r, lostE ⟨z2, t2, f2, s2, p2⟩ 100 (now) (now) = r := ⟨_, rfl⟩
            have hff2 := right_iff.1 hr2
            simp only at hff2
            have hTM : timeB (now) = true := time_max HNW.out (by omega) (by have := HNW.out; omega)
            obtain ⟨n, rfl⟩ : ∃ n : Nat, cc = (n : Int) + 1 := ⟨(cc - 1).toNat, by omega⟩
            have hK := lost_ok (n := 100) hr2 (by decide) hTM hTM (by simp only; omega)
            rw [hL] at hK
            obtain ⟨hK1, hK2, hK3⟩ := hK
            rw [← (Prod.mk.inj hK1).1] at hK2 hK3
            have he4 := (Prod.mk.inj hK1).2
            subst he4
            simp only at hK3
            have hn8 : (n : Int) + 1 ≤ 10 := by omega
            have HN8 := Lib.hid hn8
            have hw3 : IntKind.i64.wrap ((n : Int) + 1 - 1) = (n : Int) := by rw [show (n : Int) + 1 - 1 = (n : Int) by omega]; exact wraps_i64' _ (by omega) (by omega)
            have hw4 : IntKind.i64.wrap (n : Int) = (n : Int) := wraps_i64' _ (by omega) (by omega)
            have hf4 : 100 * (n : Int) ≤ f4 := by omega
            have HF4 := Lib.hid hf4
            have HR4 := Lib.hid hK2
            have HTM := Lib.hid hTM
            have D := Lib.hid (fun w => lost_eq hL w)
            clear hK1 hK2 hK3 hL hr2 hTM hn8 hf4 hcf hck hc0 hk2 hff2
            obtain ⟨x0, x1, x2, x3, x4⟩ := HS.out.facts
            go_wp2_with fail
            refine (D.out _).mono ?_
            rintro e wk7 ⟨rfl, bn⟩
            have HS := Lib.hid (HS.out.below bn)
            have BB := Lib.hid (BB.out.trans (bn.mono BB.out.size))
            clear bn D x0 x1 x2 x3 x4
            have HQB : Hid (w.heap.size ≤ wk7.heap.size + 1) := Lib.hid (Nat.le_trans BB.out.size (Nat.le_succ wk7.heap.size))
            have NSB : Hid (qS ≠ wk7.heap.size + 1) := Lib.hid (by have := HS.out.lt; omega)
            have NAB : Hid (wk7.heap.size ≠ wk7.heap.size + 1) := Lib.hid (by omega)
            have HA := Lib.hid (held_last z4 t4 f4 s4 p4 25 wk7)
            have HB := Lib.hid (held_at (b := wk7.heap.size + 1) z4 t4 f4 s4 p4 25 (wk7.alloc (.cells #[.int .i64 z4, .int .i64 t4, .int .i64 f4, .int .i64 s4, .int .i64 p4] 25)) (by simp))
            have HS := Lib.hid ((HS.out.alloc (.cells #[.int .i64 z4, .int .i64 t4, .int .i64 f4, .int .i64 s4, .int .i64 p4] 25)).alloc (.cells #[.int .i64 z4, .int .i64 t4, .int .i64 f4, .int .i64 s4, .int .i64 p4] 25))
            have BB := Lib.hid (below_more (below_more BB.out (Nat.le_refl _) (.cells #[.int .i64 z4, .int .i64 t4, .int .i64 f4, .int .i64 s4, .int .i64 p4] 25)) (Nat.le_refl _) (.cells #[.int .i64 z4, .int .i64 t4, .int .i64 f4, .int .i64 s4, .int .i64 p4] 25))
            obtain ⟨a0, a1, a2, a3, a4⟩ := HA.out.facts
            have HA := Lib.hid (HA.out.alloc (.cells #[.int .i64 z4, .int .i64 t4, .int .i64 f4, .int .i64 s4, .int .i64 p4] 25))
            go_wp2_with fail
            clear a0 a1 a2 a3 a4
            generalize (wk7.alloc (.cells #[.int .i64 z4, .int .i64 t4, .int .i64 f4, .int .i64 s4, .int .i64 p4] 25)).alloc (.cells #[.int .i64 z4, .int .i64 t4, .int .i64 f4, .int .i64 s4, .int .i64 p4] 25) = w9 at HS HA HB BB ⊢
            generalize wk7.heap.size + 1 = qB at HB HQB NSB NAB ⊢
            generalize wk7.heap.size = qA at HA NAB ⊢
            go_loopw [77] (fun i wx => ∃ (k : Nat) (z5 t5 f5 s5 p5 : Int), i = .int .i64 k ∧ k ≤ n ∧ rightB ⟨z5, t5, f5, s5, p5⟩ = true ∧ 100 * ((n : Int) - k) ≤ f5 ∧ (now < s4 → z5 = z4 ∧ t5 = t4 ∧ s5 = s4) ∧ Held qB z5 t5 f5 s5 p5 wx ∧ Held qA z4 t4 f4 s4 p4 wx ∧ Held qS z2 t2 f2 s2 p2 wx ∧ Below w.heap.size w wx) (fun i _ => n - (intOf i).toNat)
            case atStart => exact ⟨0, _, _, _, _, _, rfl, Nat.zero_le _, HR4.out, by (have := HF4.out; omega), fun _ => ⟨rfl, rfl, rfl⟩, HB.out, HA.out, HS.out, BB.out⟩
            case round =>
              obtain ⟨k5, z5, t5, f5, s5, p5, rfl, hk5, hr5, hf5, hw55, hb5, ha5, hs5, hbel5⟩ := hrel
              have HS := Lib.hid hs5
              have HA := Lib.hid ha5
              have HB := Lib.hid hb5
              have BB := Lib.hid hbel5
              have hn8 := HN8.out
              clear hs5 ha5 hb5 hbel5
              by_cases hlt5 : k5 < n
              · have hi5 : (k5 : Int) < (n : Int) := by omega
                have hw5 : IntKind.i64.wrap ((k5 : Int) + 1) = (k5 : Int) + 1 := wraps_i64' _ (by omega) (by omega)
                have hff := (right_iff.1 hr5).2.2.1
                simp only at hff
                have hw6 : IntKind.i64.wrap (f5 - 100) = f5 - 100 := wraps_i64' _ (by omega) (by omega)
                obtain ⟨⟨⟨z6, t6, f6, s6, p6⟩, e6⟩, hL⟩ : ∃ r, lostE ⟨z5, t5, f5, s5, p5⟩ 100 (now) 1099511627776 = r := ⟨_, rfl⟩
                have hK := lost_ok (n := 100) hr5 (by decide) HTM.out (show timeB 1099511627776 = true by decide) (by simp only; omega)
                rw [hL] at hK
                obtain ⟨hK1, hK2, hK3⟩ := hK
                have hK0 := (Prod.mk.inj hK1).1
                rw [← hK0] at hK2 hK3
                have he6 := (Prod.mk.inj hK1).2
                subst he6
                simp only at hK3
                subst hK3
                have D := Lib.hid (fun w => lost_eq hL w)
                have HR6 := Lib.hid hK2
                have HF6 : Hid (100 * ((n : Int) - ((k5 + 1 : Nat) : Int)) ≤ f5 - 100) := Lib.hid (by push_cast; omega)
                have q2 : (f5 - 100 != f5 - 100) = false := by simp
                obtain ⟨x0, x1, x2, x3, x4⟩ := HS.out.facts
                obtain ⟨b0, b1, b2, b3, b4⟩ := HB.out.facts
                clear hK1 hK2 hL hff hf5 hn8 hr5 hk5
                by_cases hms : now < s4
                · obtain ⟨y1, y2, y3⟩ := hw55 hms
                  rw [lost_less (q := ⟨z5, t5, f5, s5, p5⟩) (show now < s5 by omega)] at hK0
                  have v1 : z6 = z4 := (congrArg St.z hK0).trans y1
                  have v2 : t6 = t4 := (congrArg St.t hK0).trans y2
                  have v3 : s6 = s4 := (congrArg St.s hK0).trans y3
                  have HW6 : Hid (now < s4 → z6 = z4 ∧ t6 = t4 ∧ s6 = s4) := Lib.hid (fun _ => ⟨v1, v2, v3⟩)
                  have q0 : (z6 != z4) = false := by simp [v1]
                  have q1 : (t6 != t4) = false := by simp [v2]
                  have d9 : decide (now < s4) = true := decide_eq_true hms
                  clear hw55 hms hK0 v1 v2 v3 y1 y2 y3
                  go_wp2_with fail
                  refine (D.out _).mono ?_
                  rintro e w7 ⟨rfl, bn⟩
                  have HS := Lib.hid (HS.out.below bn)
                  have HA := Lib.hid (HA.out.below bn)
                  have HB := Lib.hid (HB.out.below bn)
                  have BB := Lib.hid (BB.out.trans (bn.mono BB.out.size))
                  have bx := below_one w7 (.cells #[.int .i64 z6, .int .i64 t6, .int .i64 (f5 - 100), .int .i64 s6, .int .i64 p6] 25)
                  have HS := Lib.hid (HS.out.below bx)
                  have HA := Lib.hid (HA.out.below bx)
                  have HB := Lib.hid (HB.out.below bx)
                  have BB := Lib.hid (BB.out.trans (bx.mono BB.out.size))
                  have HC := Lib.hid (held_last z6 t6 (f5 - 100) s6 p6 25 w7)
                  clear bn bx D b0 b1 b2 b3 b4 x0 x1 x2 x3 x4
                  obtain ⟨x0, x1, x2, x3, x4⟩ := HS.out.facts
                  obtain ⟨a0, a1, a2, a3, a4⟩ := HA.out.facts
                  obtain ⟨b0, b1, b2, b3, b4⟩ := HB.out.facts
                  obtain ⟨g0, g1, g2, g3, g4⟩ := HB.out.free
                  obtain ⟨c0, c1, c2, c3, c4⟩ := HC.out.facts
                  go_wp2
                  exact ⟨⟨k5 + 1, z6, t6, (f5 - 100), s6, p6, by go_num, hlt5, HR6.out, HF6.out, HW6.out, HB.out.set z6 t6 (f5 - 100) s6 p6, HA.out.others qB (fun e => NAB.out e.symm) (.int .i64 z6) (.int .i64 t6) (.int .i64 (f5 - 100)) (.int .i64 s6) (.int .i64 p6), HS.out.others qB (fun e => NSB.out e.symm) (.int .i64 z6) (.int .i64 t6) (.int .i64 (f5 - 100)) (.int .i64 s6) (.int .i64 p6), below_five BB.out qB HQB.out (.int .i64 z6) (.int .i64 t6) (.int .i64 (f5 - 100)) (.int .i64 s6) (.int .i64 p6)⟩, by simp [intOf, hw5]; omega⟩
                · have HW6 : Hid (now < s4 → z6 = z4 ∧ t6 = t4 ∧ s6 = s4) := Lib.hid (fun h => absurd h hms)
                  have d9 : decide (now < s4) = false := decide_eq_false hms
                  clear hw55 hms hK0
                  go_wp2_with fail
                  refine (D.out _).mono ?_
                  rintro e w7 ⟨rfl, bn⟩
                  have HS := Lib.hid (HS.out.below bn)
                  have HA := Lib.hid (HA.out.below bn)
                  have HB := Lib.hid (HB.out.below bn)
                  have BB := Lib.hid (BB.out.trans (bn.mono BB.out.size))
                  have bx := below_one w7 (.cells #[.int .i64 z6, .int .i64 t6, .int .i64 (f5 - 100), .int .i64 s6, .int .i64 p6] 25)
                  have HS := Lib.hid (HS.out.below bx)
                  have HA := Lib.hid (HA.out.below bx)
                  have HB := Lib.hid (HB.out.below bx)
                  have BB := Lib.hid (BB.out.trans (bx.mono BB.out.size))
                  have HC := Lib.hid (held_last z6 t6 (f5 - 100) s6 p6 25 w7)
                  clear bn bx D b0 b1 b2 b3 b4 x0 x1 x2 x3 x4
                  obtain ⟨x0, x1, x2, x3, x4⟩ := HS.out.facts
                  obtain ⟨a0, a1, a2, a3, a4⟩ := HA.out.facts
                  obtain ⟨b0, b1, b2, b3, b4⟩ := HB.out.facts
                  obtain ⟨g0, g1, g2, g3, g4⟩ := HB.out.free
                  obtain ⟨c0, c1, c2, c3, c4⟩ := HC.out.facts
                  go_wp2
                  exact ⟨⟨k5 + 1, z6, t6, (f5 - 100), s6, p6, by go_num, hlt5, HR6.out, HF6.out, HW6.out, HB.out.set z6 t6 (f5 - 100) s6 p6, HA.out.others qB (fun e => NAB.out e.symm) (.int .i64 z6) (.int .i64 t6) (.int .i64 (f5 - 100)) (.int .i64 s6) (.int .i64 p6), HS.out.others qB (fun e => NSB.out e.symm) (.int .i64 z6) (.int .i64 t6) (.int .i64 (f5 - 100)) (.int .i64 s6) (.int .i64 p6), below_five BB.out qB HQB.out (.int .i64 z6) (.int .i64 t6) (.int .i64 (f5 - 100)) (.int .i64 s6) (.int .i64 p6)⟩, by simp [intOf, hw5]; omega⟩
              · have hi5 : ¬ ((k5 : Int) < (n : Int)) := by omega
                clear hr5 hf5 hw55 hn8
                go_wp2_with fail
                refine (alive_any _).mono ?_
                rintro e w99 ⟨rfl, bn⟩
                have BB := Lib.hid (BB.out.trans (bn.mono BB.out.size))
                clear bn
                go_wp2
                go_ret
                exact ⟨rfl, BB.out⟩
          obtain ⟨⟨⟨z4, t4, f4, s4, p4⟩, e4⟩, hL⟩ : ∃ r, lostE ⟨z2, t2, f2, s2, p2⟩ 100 (s2) (s2) = r := ⟨_, rfl⟩
          have hff2 := right_iff.1 hr2
          simp only at hff2
          have hTM : timeB (s2) = true := time_max HNW.out (by omega) (by have := HNW.out; omega)
          obtain ⟨n, rfl⟩ : ∃ n : Nat, cc = (n : Int) + 1 := ⟨(cc - 1).toNat, by omega⟩
          have hK := lost_ok (n := 100) hr2 (by decide) hTM hTM (by simp only; omega)
          rw [hL] at hK
          obtain ⟨hK1, hK2, hK3⟩ := hK
          rw [← (Prod.mk.inj hK1).1] at hK2 hK3
          have he4 := (Prod.mk.inj hK1).2
          subst he4
          simp only at hK3
          have hn8 : (n : Int) + 1 ≤ 10 := by omega
          have HN8 := Lib.hid hn8
          have hw3 : IntKind.i64.wrap ((n : Int) + 1 - 1) = (n : Int) := by rw [show (n : Int) + 1 - 1 = (n : Int) by omega]; exact wraps_i64' _ (by omega) (by omega)
          have hw4 : IntKind.i64.wrap (n : Int) = (n : Int) := wraps_i64' _ (by omega) (by omega)
          have hf4 : 100 * (n : Int) ≤ f4 := by omega
          have HF4 := Lib.hid hf4
          have HR4 := Lib.hid hK2
          have HTM := Lib.hid hTM
          have D := Lib.hid (fun w => lost_eq hL w)
          clear hK1 hK2 hK3 hL hr2 hTM hn8 hf4 hcf hck hc0 hk2 hff2
          obtain ⟨x0, x1, x2, x3, x4⟩ := HS.out.facts
          go_wp2_with fail
          refine (D.out _).mono ?_
          rintro e wk7 ⟨rfl, bn⟩
          have HS := Lib.hid (HS.out.below bn)
          have BB := Lib.hid (BB.out.trans (bn.mono BB.out.size))
          clear bn D x0 x1 x2 x3 x4
          have HQB : Hid (w.heap.size ≤ wk7.heap.size + 1) := Lib.hid (Nat.le_trans BB.out.size (Nat.le_succ wk7.heap.size))
          have NSB : Hid (qS ≠ wk7.heap.size + 1) := Lib.hid (by have := HS.out.lt; omega)
          have NAB : Hid (wk7.heap.size ≠ wk7.heap.size + 1) := Lib.hid (by omega)
          have HA := Lib.hid (held_last z4 t4 f4 s4 p4 25 wk7)
          have HB := Lib.hid (held_at (b := wk7.heap.size + 1) z4 t4 f4 s4 p4 25 (wk7.alloc (.cells #[.int .i64 z4, .int .i64 t4, .int .i64 f4, .int .i64 s4, .int .i64 p4] 25)) (by simp))
          have HS := Lib.hid ((HS.out.alloc (.cells #[.int .i64 z4, .int .i64 t4, .int .i64 f4, .int .i64 s4, .int .i64 p4] 25)).alloc (.cells #[.int .i64 z4, .int .i64 t4, .int .i64 f4, .int .i64 s4, .int .i64 p4] 25))
          have BB := Lib.hid (below_more (below_more BB.out (Nat.le_refl _) (.cells #[.int .i64 z4, .int .i64 t4, .int .i64 f4, .int .i64 s4, .int .i64 p4] 25)) (Nat.le_refl _) (.cells #[.int .i64 z4, .int .i64 t4, .int .i64 f4, .int .i64 s4, .int .i64 p4] 25))
          obtain ⟨a0, a1, a2, a3, a4⟩ := HA.out.facts
          have HA := Lib.hid (HA.out.alloc (.cells #[.int .i64 z4, .int .i64 t4, .int .i64 f4, .int .i64 s4, .int .i64 p4] 25))
          go_wp2_with fail
          clear a0 a1 a2 a3 a4
          generalize (wk7.alloc (.cells #[.int .i64 z4, .int .i64 t4, .int .i64 f4, .int .i64 s4, .int .i64 p4] 25)).alloc (.cells #[.int .i64 z4, .int .i64 t4, .int .i64 f4, .int .i64 s4, .int .i64 p4] 25) = w9 at HS HA HB BB ⊢
          generalize wk7.heap.size + 1 = qB at HB HQB NSB NAB ⊢
          generalize wk7.heap.size = qA at HA NAB ⊢
          go_loopw [77] (fun i wx => ∃ (k : Nat) (z5 t5 f5 s5 p5 : Int), i = .int .i64 k ∧ k ≤ n ∧ rightB ⟨z5, t5, f5, s5, p5⟩ = true ∧ 100 * ((n : Int) - k) ≤ f5 ∧ (s2 < s4 → z5 = z4 ∧ t5 = t4 ∧ s5 = s4) ∧ Held qB z5 t5 f5 s5 p5 wx ∧ Held qA z4 t4 f4 s4 p4 wx ∧ Held qS z2 t2 f2 s2 p2 wx ∧ Below w.heap.size w wx) (fun i _ => n - (intOf i).toNat)
          case atStart => exact ⟨0, _, _, _, _, _, rfl, Nat.zero_le _, HR4.out, by (have := HF4.out; omega), fun _ => ⟨rfl, rfl, rfl⟩, HB.out, HA.out, HS.out, BB.out⟩
          case round =>
            obtain ⟨k5, z5, t5, f5, s5, p5, rfl, hk5, hr5, hf5, hw55, hb5, ha5, hs5, hbel5⟩ := hrel
            have HS := Lib.hid hs5
            have HA := Lib.hid ha5
            have HB := Lib.hid hb5
            have BB := Lib.hid hbel5
            have hn8 := HN8.out
            clear hs5 ha5 hb5 hbel5
            by_cases hlt5 : k5 < n
            · have hi5 : (k5 : Int) < (n : Int) := by omega
              have hw5 : IntKind.i64.wrap ((k5 : Int) + 1) = (k5 : Int) + 1 := wraps_i64' _ (by omega) (by omega)
              have hff := (right_iff.1 hr5).2.2.1
              simp only at hff
              have hw6 : IntKind.i64.wrap (f5 - 100) = f5 - 100 := wraps_i64' _ (by omega) (by omega)
              obtain ⟨⟨⟨z6, t6, f6, s6, p6⟩, e6⟩, hL⟩ : ∃ r, lostE ⟨z5, t5, f5, s5, p5⟩ 100 (s2) 1099511627776 = r := ⟨_, rfl⟩
              have hK := lost_ok (n := 100) hr5 (by decide) HTM.out (show timeB 1099511627776 = true by decide) (by simp only; omega)
              rw [hL] at hK
              obtain ⟨hK1, hK2, hK3⟩ := hK
              have hK0 := (Prod.mk.inj hK1).1
              rw [← hK0] at hK2 hK3
              have he6 := (Prod.mk.inj hK1).2
              subst he6
              simp only at hK3
              subst hK3
              have D := Lib.hid (fun w => lost_eq hL w)
              have HR6 := Lib.hid hK2
              have HF6 : Hid (100 * ((n : Int) - ((k5 + 1 : Nat) : Int)) ≤ f5 - 100) := Lib.hid (by push_cast; omega)
              have q2 : (f5 - 100 != f5 - 100) = false := by simp
              obtain ⟨x0, x1, x2, x3, x4⟩ := HS.out.facts
              obtain ⟨b0, b1, b2, b3, b4⟩ := HB.out.facts
              clear hK1 hK2 hL hff hf5 hn8 hr5 hk5
              by_cases hms : s2 < s4
              · obtain ⟨y1, y2, y3⟩ := hw55 hms
                rw [lost_less (q := ⟨z5, t5, f5, s5, p5⟩) (show s2 < s5 by omega)] at hK0
                have v1 : z6 = z4 := (congrArg St.z hK0).trans y1
                have v2 : t6 = t4 := (congrArg St.t hK0).trans y2
                have v3 : s6 = s4 := (congrArg St.s hK0).trans y3
                have HW6 : Hid (s2 < s4 → z6 = z4 ∧ t6 = t4 ∧ s6 = s4) := Lib.hid (fun _ => ⟨v1, v2, v3⟩)
                have q0 : (z6 != z4) = false := by simp [v1]
                have q1 : (t6 != t4) = false := by simp [v2]
                have d9 : decide (s2 < s4) = true := decide_eq_true hms
                clear hw55 hms hK0 v1 v2 v3 y1 y2 y3
                go_wp2_with fail
                refine (D.out _).mono ?_
                rintro e w7 ⟨rfl, bn⟩
                have HS := Lib.hid (HS.out.below bn)
                have HA := Lib.hid (HA.out.below bn)
                have HB := Lib.hid (HB.out.below bn)
                have BB := Lib.hid (BB.out.trans (bn.mono BB.out.size))
                have bx := below_one w7 (.cells #[.int .i64 z6, .int .i64 t6, .int .i64 (f5 - 100), .int .i64 s6, .int .i64 p6] 25)
                have HS := Lib.hid (HS.out.below bx)
                have HA := Lib.hid (HA.out.below bx)
                have HB := Lib.hid (HB.out.below bx)
                have BB := Lib.hid (BB.out.trans (bx.mono BB.out.size))
                have HC := Lib.hid (held_last z6 t6 (f5 - 100) s6 p6 25 w7)
                clear bn bx D b0 b1 b2 b3 b4 x0 x1 x2 x3 x4
                obtain ⟨x0, x1, x2, x3, x4⟩ := HS.out.facts
                obtain ⟨a0, a1, a2, a3, a4⟩ := HA.out.facts
                obtain ⟨b0, b1, b2, b3, b4⟩ := HB.out.facts
                obtain ⟨g0, g1, g2, g3, g4⟩ := HB.out.free
                obtain ⟨c0, c1, c2, c3, c4⟩ := HC.out.facts
                go_wp2
                exact ⟨⟨k5 + 1, z6, t6, (f5 - 100), s6, p6, by go_num, hlt5, HR6.out, HF6.out, HW6.out, HB.out.set z6 t6 (f5 - 100) s6 p6, HA.out.others qB (fun e => NAB.out e.symm) (.int .i64 z6) (.int .i64 t6) (.int .i64 (f5 - 100)) (.int .i64 s6) (.int .i64 p6), HS.out.others qB (fun e => NSB.out e.symm) (.int .i64 z6) (.int .i64 t6) (.int .i64 (f5 - 100)) (.int .i64 s6) (.int .i64 p6), below_five BB.out qB HQB.out (.int .i64 z6) (.int .i64 t6) (.int .i64 (f5 - 100)) (.int .i64 s6) (.int .i64 p6)⟩, by simp [intOf, hw5]; omega⟩
              · have HW6 : Hid (s2 < s4 → z6 = z4 ∧ t6 = t4 ∧ s6 = s4) := Lib.hid (fun h => absurd h hms)
                have d9 : decide (s2 < s4) = false := decide_eq_false hms
                clear hw55 hms hK0
                go_wp2_with fail
                refine (D.out _).mono ?_
                rintro e w7 ⟨rfl, bn⟩
                have HS := Lib.hid (HS.out.below bn)
                have HA := Lib.hid (HA.out.below bn)
                have HB := Lib.hid (HB.out.below bn)
                have BB := Lib.hid (BB.out.trans (bn.mono BB.out.size))
                have bx := below_one w7 (.cells #[.int .i64 z6, .int .i64 t6, .int .i64 (f5 - 100), .int .i64 s6, .int .i64 p6] 25)
                have HS := Lib.hid (HS.out.below bx)
                have HA := Lib.hid (HA.out.below bx)
                have HB := Lib.hid (HB.out.below bx)
                have BB := Lib.hid (BB.out.trans (bx.mono BB.out.size))
                have HC := Lib.hid (held_last z6 t6 (f5 - 100) s6 p6 25 w7)
                clear bn bx D b0 b1 b2 b3 b4 x0 x1 x2 x3 x4
                obtain ⟨x0, x1, x2, x3, x4⟩ := HS.out.facts
                obtain ⟨a0, a1, a2, a3, a4⟩ := HA.out.facts
                obtain ⟨b0, b1, b2, b3, b4⟩ := HB.out.facts
                obtain ⟨g0, g1, g2, g3, g4⟩ := HB.out.free
                obtain ⟨c0, c1, c2, c3, c4⟩ := HC.out.facts
                go_wp2
                exact ⟨⟨k5 + 1, z6, t6, (f5 - 100), s6, p6, by go_num, hlt5, HR6.out, HF6.out, HW6.out, HB.out.set z6 t6 (f5 - 100) s6 p6, HA.out.others qB (fun e => NAB.out e.symm) (.int .i64 z6) (.int .i64 t6) (.int .i64 (f5 - 100)) (.int .i64 s6) (.int .i64 p6), HS.out.others qB (fun e => NSB.out e.symm) (.int .i64 z6) (.int .i64 t6) (.int .i64 (f5 - 100)) (.int .i64 s6) (.int .i64 p6), below_five BB.out qB HQB.out (.int .i64 z6) (.int .i64 t6) (.int .i64 (f5 - 100)) (.int .i64 s6) (.int .i64 p6)⟩, by simp [intOf, hw5]; omega⟩
            · have hi5 : ¬ ((k5 : Int) < (n : Int)) := by omega
              clear hr5 hf5 hw55 hn8
              go_wp2_with fail
              refine (alive_any _).mono ?_
              rintro e w99 ⟨rfl, bn⟩
              have BB := Lib.hid (BB.out.trans (bn.mono BB.out.size))
              clear bn
              go_wp2
              go_ret
              exact ⟨rfl, BB.out⟩
set_option maxHeartbeats 6400000 in
theorem once_none (a : Option Addr) (c : Nat) (many now : Int) (w : World) (r : Nat) (hmr : many.tmod 8 = (r : Int)) (hr8 : r < 8) : Calls Try.prog 7 #[.slice a 0 c, .int .u8 many, .int .i64 now] w (Yes w) := by
  have hw7 : IntKind.i64.wrap (r : Int) = (r : Int) := wraps_i64' _ (by omega) (by omega)
  have hw8 : IntKind.i64.wrap ((r : Int) + 2) = (r : Int) + 2 := wraps_i64' _ (by omega) (by omega)
  have HR8 := Lib.hid hr8
  clear hr8
  go_enter Try.func7, Try.ntmps7
  go_wp2_with fail
  refine (new_any _).mono ?_
  rintro e wk1 ⟨rfl, bn⟩
  have HQ := Lib.hid bn.size
  have HS := Lib.hid (held_last 12000 0 0 (-1) 0 25 wk1)
  have BB := Lib.hid (below_more bn (Nat.le_refl _) (.cells #[.int .i64 12000, .int .i64 0, .int .i64 0, .int .i64 (-1), .int .i64 0] 25))
  clear bn
  go_wp2_with fail
  generalize wk1.alloc (.cells #[.int .i64 12000, .int .i64 0, .int .i64 0, .int .i64 (-1), .int .i64 0] 25) = w5 at HS BB ⊢
  generalize wk1.heap.size = qS at HS HQ ⊢
  refine wp_loop_rounds 1 ?_
  rw [rounds_succ]
  have hr := fresh_right
  by_cases h0 : now < 0
  · have d0 : decide (now < 0) = true := decide_eq_true h0
    go_wp2_with fail
    refine (alive_any _).mono ?_
    rintro e w99 ⟨rfl, bn⟩
    have BB := Lib.hid (BB.out.trans (bn.mono BB.out.size))
    clear bn
    go_wp2
    go_ret
    exact ⟨rfl, BB.out⟩
  have d0 : decide (now < 0) = false := decide_eq_false h0
  by_cases h1 : now ≥ 1099511627776
  · have d1 : decide (now ≥ 1099511627776) = true := decide_eq_true h1
    go_wp2_with fail
    refine (alive_any _).mono ?_
    rintro e w99 ⟨rfl, bn⟩
    have BB := Lib.hid (BB.out.trans (bn.mono BB.out.size))
    clear bn
    go_wp2
    go_ret
    exact ⟨rfl, BB.out⟩
  have d1 : decide (now ≥ 1099511627776) = false := decide_eq_false h1
  have HNW : Hid (0 ≤ now ∧ now < 1099511627776) := Lib.hid ⟨by omega, by omega⟩
  have HR := Lib.hid hr
  clear h0 h1 hr
  go_wp2_with fail
  go_loopw [10, 43] (fun j i wx => ∃ (k : Nat) (c : Int) (z t f s p : Int), i = .int .i64 k ∧ j = .int .i64 c ∧ k ≤ r + 2 ∧ 0 ≤ c ∧ c ≤ k ∧ 100 * c ≤ f ∧ rightB ⟨z, t, f, s, p⟩ = true ∧ Held qS z t f s p wx ∧ Below w.heap.size w wx) (fun _ i _ => r + 2 - (intOf i).toNat)
  case atStart => exact ⟨0, 0, _, _, _, _, _, rfl, rfl, Nat.zero_le _, Int.le_refl _, Int.le_refl _, (right_iff.1 HR.out).2.2.1.1, HR.out, HS.out, BB.out⟩
  case round =>
    obtain ⟨k2, cc, z2, t2, f2, s2, p2, rfl, rfl, hk2, hc0, hck, hcf, hr2, hs2, hbel2⟩ := hrel
    have HS := Lib.hid hs2
    have BB := Lib.hid hbel2
    have hr8 := HR8.out
    clear hs2 hbel2
    by_cases hlt2 : k2 < r + 2
    · have hi2 : (k2 : Int) < (r : Int) + 2 := by omega
      have hw2 : IntKind.i64.wrap ((k2 : Int) + 1) = (k2 : Int) + 1 := wraps_i64' _ (by omega) (by omega)
      have hwc : IntKind.i64.wrap (cc + 1) = cc + 1 := wraps_i64' _ (by omega) (by omega)
      obtain ⟨⟨⟨z3, t3, f3, s3, p3⟩, e3⟩, hd⟩ : ∃ r, sentE ⟨z2, t2, f2, s2, p2⟩ 100 = r := ⟨_, rfl⟩
      have D := Lib.hid (fun w => sent_eq hd w)
      have HW := Lib.hid (sent_ways hr2 hd)
      have H2 := Lib.hid (show 0 ≤ cc ∧ cc ≤ (k2 : Int) ∧ 100 * cc ≤ f2 ∧ rightB ⟨z2, t2, f2, s2, p2⟩ = true from ⟨hc0, hck, hcf, hr2⟩)
      clear hd hr2 hc0 hck hcf hr8 hk2
      obtain ⟨x0, x1, x2, x3, x4⟩ := HS.out.facts
      go_wp2_with fail
      refine (D.out _).mono ?_
      rintro e w7 ⟨rfl, bn⟩
      have HS := Lib.hid (HS.out.below bn)
      have BB := Lib.hid (BB.out.trans (bn.mono BB.out.size))
      have bx := below_one w7 (.cells #[.int .i64 z3, .int .i64 t3, .int .i64 f3, .int .i64 s3, .int .i64 p3] 25)
      have HT := Lib.hid (held_last z3 t3 f3 s3 p3 25 w7)
      have HS := Lib.hid (HS.out.below bx)
      have BB := Lib.hid (BB.out.trans (bx.mono BB.out.size))
      clear bn bx D x0 x1 x2 x3 x4
      obtain ⟨x0, x1, x2, x3, x4⟩ := HS.out.facts
      obtain ⟨g0, g1, g2, g3, g4⟩ := HS.out.free
      obtain ⟨y0, y1, y2, y3, y4⟩ := HT.out.facts
      by_cases he3 : e3 = 0
      · subst he3
        have HR3 := Lib.hid (HW.out rfl)
        go_wp2
        exact ⟨⟨k2 + 1, cc + 1, z3, t3, f3, s3, p3, by go_num, rfl, hlt2, by (have := H2.out; omega), by (have := H2.out; push_cast; omega), by (have := H2.out; have h3 : f3 = f2 + 100 := HR3.out.2; omega), HR3.out.1, HS.out.set z3 t3 f3 s3 p3, below_five BB.out qS HQ.out (.int .i64 z3) (.int .i64 t3) (.int .i64 f3) (.int .i64 s3) (.int .i64 p3)⟩, by simp [intOf, hw2]; omega⟩
      · have d3 : (e3 == 0) = false := by simpa using he3
        clear he3
        go_wp2
        exact ⟨⟨k2 + 1, cc, z2, t2, f2, s2, p2, by go_num, rfl, hlt2, H2.out.1, by (have := H2.out; push_cast; omega), H2.out.2.2.1, H2.out.2.2.2, HS.out, BB.out⟩, by simp [intOf, hw2]; omega⟩
    · have hi2 : ¬ ((k2 : Int) < (r : Int) + 2) := by omega
      by_cases hc2 : cc < 2
      · have d2 : decide (cc < 2) = true := decide_eq_true hc2
        clear hr2 hc2 hc0 hck hcf hr8 hk2 hlt2
        go_wp2_with fail
        refine (alive_any _).mono ?_
        rintro e w99 ⟨rfl, bn⟩
        have BB := Lib.hid (BB.out.trans (bn.mono BB.out.size))
        clear bn
        go_wp2
        go_ret
        exact ⟨rfl, BB.out⟩
      have d2 : decide (cc < 2) = false := decide_eq_false hc2
      by_cases hm : s2 < now
      · obtain ⟨⟨⟨z4, t4, f4, s4, p4⟩, e4⟩, hL⟩ : ∃ r, lostE ⟨z2, t2, f2, s2, p2⟩ 100 (now) (now) = r := ⟨_, rfl⟩
        have hff2 := right_iff.1 hr2
        simp only at hff2
        have hTM : timeB (now) = true := time_max HNW.out (by omega) (by have := HNW.out; omega)
        obtain ⟨n, rfl⟩ : ∃ n : Nat, cc = (n : Int) + 1 := ⟨(cc - 1).toNat, by omega⟩
        have hK := lost_ok (n := 100) hr2 (by decide) hTM hTM (by simp only; omega)
        rw [hL] at hK
        obtain ⟨hK1, hK2, hK3⟩ := hK
        rw [← (Prod.mk.inj hK1).1] at hK2 hK3
        have he4 := (Prod.mk.inj hK1).2
        subst he4
        simp only at hK3
        have hn8 : (n : Int) + 1 ≤ 10 := by omega
        have HN8 := Lib.hid hn8
        have hw3 : IntKind.i64.wrap ((n : Int) + 1 - 1) = (n : Int) := by rw [show (n : Int) + 1 - 1 = (n : Int) by omega]; exact wraps_i64' _ (by omega) (by omega)
        have hw4 : IntKind.i64.wrap (n : Int) = (n : Int) := wraps_i64' _ (by omega) (by omega)
        have hf4 : 100 * (n : Int) ≤ f4 := by omega
        have HF4 := Lib.hid hf4
        have HR4 := Lib.hid hK2
        have HTM := Lib.hid hTM
        have D := Lib.hid (fun w => lost_eq hL w)
        clear hK1 hK2 hK3 hL hr2 hTM hn8 hf4 hcf hck hc0 hk2 hff2
        obtain ⟨x0, x1, x2, x3, x4⟩ := HS.out.facts
        go_wp2_with fail
        refine (D.out _).mono ?_
        rintro e wk7 ⟨rfl, bn⟩
        have HS := Lib.hid (HS.out.below bn)
        have BB := Lib.hid (BB.out.trans (bn.mono BB.out.size))
        clear bn D x0 x1 x2 x3 x4
        have HQB : Hid (w.heap.size ≤ wk7.heap.size + 1) := Lib.hid (Nat.le_trans BB.out.size (Nat.le_succ wk7.heap.size))
        have NSB : Hid (qS ≠ wk7.heap.size + 1) := Lib.hid (by have := HS.out.lt; omega)
        have NAB : Hid (wk7.heap.size ≠ wk7.heap.size + 1) := Lib.hid (by omega)
        have HA := Lib.hid (held_last z4 t4 f4 s4 p4 25 wk7)
        have HB := Lib.hid (held_at (b := wk7.heap.size + 1) z4 t4 f4 s4 p4 25 (wk7.alloc (.cells #[.int .i64 z4, .int .i64 t4, .int .i64 f4, .int .i64 s4, .int .i64 p4] 25)) (by simp))
        have HS := Lib.hid ((HS.out.alloc (.cells #[.int .i64 z4, .int .i64 t4, .int .i64 f4, .int .i64 s4, .int .i64 p4] 25)).alloc (.cells #[.int .i64 z4, .int .i64 t4, .int .i64 f4, .int .i64 s4, .int .i64 p4] 25))
        have BB := Lib.hid (below_more (below_more BB.out (Nat.le_refl _) (.cells #[.int .i64 z4, .int .i64 t4, .int .i64 f4, .int .i64 s4, .int .i64 p4] 25)) (Nat.le_refl _) (.cells #[.int .i64 z4, .int .i64 t4, .int .i64 f4, .int .i64 s4, .int .i64 p4] 25))
        obtain ⟨a0, a1, a2, a3, a4⟩ := HA.out.facts
        have HA := Lib.hid (HA.out.alloc (.cells #[.int .i64 z4, .int .i64 t4, .int .i64 f4, .int .i64 s4, .int .i64 p4] 25))
        go_wp2_with fail
        clear a0 a1 a2 a3 a4
        generalize (wk7.alloc (.cells #[.int .i64 z4, .int .i64 t4, .int .i64 f4, .int .i64 s4, .int .i64 p4] 25)).alloc (.cells #[.int .i64 z4, .int .i64 t4, .int .i64 f4, .int .i64 s4, .int .i64 p4] 25) = w9 at HS HA HB BB ⊢
        generalize wk7.heap.size + 1 = qB at HB HQB NSB NAB ⊢
        generalize wk7.heap.size = qA at HA NAB ⊢
        go_loopw [77] (fun i wx => ∃ (k : Nat) (z5 t5 f5 s5 p5 : Int), i = .int .i64 k ∧ k ≤ n ∧ rightB ⟨z5, t5, f5, s5, p5⟩ = true ∧ 100 * ((n : Int) - k) ≤ f5 ∧ (now < s4 → z5 = z4 ∧ t5 = t4 ∧ s5 = s4) ∧ Held qB z5 t5 f5 s5 p5 wx ∧ Held qA z4 t4 f4 s4 p4 wx ∧ Held qS z2 t2 f2 s2 p2 wx ∧ Below w.heap.size w wx) (fun i _ => n - (intOf i).toNat)
        case atStart => exact ⟨0, _, _, _, _, _, rfl, Nat.zero_le _, HR4.out, by (have := HF4.out; omega), fun _ => ⟨rfl, rfl, rfl⟩, HB.out, HA.out, HS.out, BB.out⟩
        case round =>
          obtain ⟨k5, z5, t5, f5, s5, p5, rfl, hk5, hr5, hf5, hw55, hb5, ha5, hs5, hbel5⟩ := hrel
          have HS := Lib.hid hs5
          have HA := Lib.hid ha5
          have HB := Lib.hid hb5
          have BB := Lib.hid hbel5
          have hn8 := HN8.out
          clear hs5 ha5 hb5 hbel5
          by_cases hlt5 : k5 < n
          · have hi5 : (k5 : Int) < (n : Int) := by omega
            have hw5 : IntKind.i64.wrap ((k5 : Int) + 1) = (k5 : Int) + 1 := wraps_i64' _ (by omega) (by omega)
            have hff := (right_iff.1 hr5).2.2.1
            simp only at hff
            have hw6 : IntKind.i64.wrap (f5 - 100) = f5 - 100 := wraps_i64' _ (by omega) (by omega)
            obtain ⟨⟨⟨z6, t6, f6, s6, p6⟩, e6⟩, hL⟩ : ∃ r, lostE ⟨z5, t5, f5, s5, p5⟩ 100 (now) 1099511627776 = r := ⟨_, rfl⟩
            have hK := lost_ok (n := 100) hr5 (by decide) HTM.out (show timeB 1099511627776 = true by decide) (by simp only; omega)
            rw [hL] at hK
            obtain ⟨hK1, hK2, hK3⟩ := hK
            have hK0 := (Prod.mk.inj hK1).1
            rw [← hK0] at hK2 hK3
            have he6 := (Prod.mk.inj hK1).2
            subst he6
            simp only at hK3
            subst hK3
            have D := Lib.hid (fun w => lost_eq hL w)
            have HR6 := Lib.hid hK2
            have HF6 : Hid (100 * ((n : Int) - ((k5 + 1 : Nat) : Int)) ≤ f5 - 100) := Lib.hid (by push_cast; omega)
            have q2 : (f5 - 100 != f5 - 100) = false := by simp
            obtain ⟨x0, x1, x2, x3, x4⟩ := HS.out.facts
            obtain ⟨b0, b1, b2, b3, b4⟩ := HB.out.facts
            clear hK1 hK2 hL hff hf5 hn8 hr5 hk5
            by_cases hms : now < s4
            · obtain ⟨y1, y2, y3⟩ := hw55 hms
              rw [lost_less (q := ⟨z5, t5, f5, s5, p5⟩) (show now < s5 by omega)] at hK0
              have v1 : z6 = z4 := (congrArg St.z hK0).trans y1
              have v2 : t6 = t4 := (congrArg St.t hK0).trans y2
              have v3 : s6 = s4 := (congrArg St.s hK0).trans y3
              have HW6 : Hid (now < s4 → z6 = z4 ∧ t6 = t4 ∧ s6 = s4) := Lib.hid (fun _ => ⟨v1, v2, v3⟩)
              have q0 : (z6 != z4) = false := by simp [v1]
              have q1 : (t6 != t4) = false := by simp [v2]
              have d9 : decide (now < s4) = true := decide_eq_true hms
              clear hw55 hms hK0 v1 v2 v3 y1 y2 y3
              go_wp2_with fail
              refine (D.out _).mono ?_
              rintro e w7 ⟨rfl, bn⟩
              have HS := Lib.hid (HS.out.below bn)
              have HA := Lib.hid (HA.out.below bn)
              have HB := Lib.hid (HB.out.below bn)
              have BB := Lib.hid (BB.out.trans (bn.mono BB.out.size))
              have bx := below_one w7 (.cells #[.int .i64 z6, .int .i64 t6, .int .i64 (f5 - 100), .int .i64 s6, .int .i64 p6] 25)
              have HS := Lib.hid (HS.out.below bx)
              have HA := Lib.hid (HA.out.below bx)
              have HB := Lib.hid (HB.out.below bx)
              have BB := Lib.hid (BB.out.trans (bx.mono BB.out.size))
              have HC := Lib.hid (held_last z6 t6 (f5 - 100) s6 p6 25 w7)
              clear bn bx D b0 b1 b2 b3 b4 x0 x1 x2 x3 x4
              obtain ⟨x0, x1, x2, x3, x4⟩ := HS.out.facts
              obtain ⟨a0, a1, a2, a3, a4⟩ := HA.out.facts
              obtain ⟨b0, b1, b2, b3, b4⟩ := HB.out.facts
              obtain ⟨g0, g1, g2, g3, g4⟩ := HB.out.free
              obtain ⟨c0, c1, c2, c3, c4⟩ := HC.out.facts
              go_wp2
              exact ⟨⟨k5 + 1, z6, t6, (f5 - 100), s6, p6, by go_num, hlt5, HR6.out, HF6.out, HW6.out, HB.out.set z6 t6 (f5 - 100) s6 p6, HA.out.others qB (fun e => NAB.out e.symm) (.int .i64 z6) (.int .i64 t6) (.int .i64 (f5 - 100)) (.int .i64 s6) (.int .i64 p6), HS.out.others qB (fun e => NSB.out e.symm) (.int .i64 z6) (.int .i64 t6) (.int .i64 (f5 - 100)) (.int .i64 s6) (.int .i64 p6), below_five BB.out qB HQB.out (.int .i64 z6) (.int .i64 t6) (.int .i64 (f5 - 100)) (.int .i64 s6) (.int .i64 p6)⟩, by simp [intOf, hw5]; omega⟩
            · have HW6 : Hid (now < s4 → z6 = z4 ∧ t6 = t4 ∧ s6 = s4) := Lib.hid (fun h => absurd h hms)
              have d9 : decide (now < s4) = false := decide_eq_false hms
              clear hw55 hms hK0
              go_wp2_with fail
              refine (D.out _).mono ?_
              rintro e w7 ⟨rfl, bn⟩
              have HS := Lib.hid (HS.out.below bn)
              have HA := Lib.hid (HA.out.below bn)
              have HB := Lib.hid (HB.out.below bn)
              have BB := Lib.hid (BB.out.trans (bn.mono BB.out.size))
              have bx := below_one w7 (.cells #[.int .i64 z6, .int .i64 t6, .int .i64 (f5 - 100), .int .i64 s6, .int .i64 p6] 25)
              have HS := Lib.hid (HS.out.below bx)
              have HA := Lib.hid (HA.out.below bx)
              have HB := Lib.hid (HB.out.below bx)
              have BB := Lib.hid (BB.out.trans (bx.mono BB.out.size))
              have HC := Lib.hid (held_last z6 t6 (f5 - 100) s6 p6 25 w7)
              clear bn bx D b0 b1 b2 b3 b4 x0 x1 x2 x3 x4
              obtain ⟨x0, x1, x2, x3, x4⟩ := HS.out.facts
              obtain ⟨a0, a1, a2, a3, a4⟩ := HA.out.facts
              obtain ⟨b0, b1, b2, b3, b4⟩ := HB.out.facts
              obtain ⟨g0, g1, g2, g3, g4⟩ := HB.out.free
              obtain ⟨c0, c1, c2, c3, c4⟩ := HC.out.facts
              go_wp2
              exact ⟨⟨k5 + 1, z6, t6, (f5 - 100), s6, p6, by go_num, hlt5, HR6.out, HF6.out, HW6.out, HB.out.set z6 t6 (f5 - 100) s6 p6, HA.out.others qB (fun e => NAB.out e.symm) (.int .i64 z6) (.int .i64 t6) (.int .i64 (f5 - 100)) (.int .i64 s6) (.int .i64 p6), HS.out.others qB (fun e => NSB.out e.symm) (.int .i64 z6) (.int .i64 t6) (.int .i64 (f5 - 100)) (.int .i64 s6) (.int .i64 p6), below_five BB.out qB HQB.out (.int .i64 z6) (.int .i64 t6) (.int .i64 (f5 - 100)) (.int .i64 s6) (.int .i64 p6)⟩, by simp [intOf, hw5]; omega⟩
          · have hi5 : ¬ ((k5 : Int) < (n : Int)) := by omega
            clear hr5 hf5 hw55 hn8
            go_wp2_with fail
            refine (alive_any _).mono ?_
            rintro e w99 ⟨rfl, bn⟩
            have BB := Lib.hid (BB.out.trans (bn.mono BB.out.size))
            clear bn
            go_wp2
            go_ret
            exact ⟨rfl, BB.out⟩
      obtain ⟨⟨⟨z4, t4, f4, s4, p4⟩, e4⟩, hL⟩ : ∃ r, lostE ⟨z2, t2, f2, s2, p2⟩ 100 (s2) (s2) = r := ⟨_, rfl⟩
      have hff2 := right_iff.1 hr2
      simp only at hff2
      have hTM : timeB (s2) = true := time_max HNW.out (by omega) (by have := HNW.out; omega)
      obtain ⟨n, rfl⟩ : ∃ n : Nat, cc = (n : Int) + 1 := ⟨(cc - 1).toNat, by omega⟩
      have hK := lost_ok (n := 100) hr2 (by decide) hTM hTM (by simp only; omega)
      rw [hL] at hK
      obtain ⟨hK1, hK2, hK3⟩ := hK
      rw [← (Prod.mk.inj hK1).1] at hK2 hK3
      have he4 := (Prod.mk.inj hK1).2
      subst he4
      simp only at hK3
      have hn8 : (n : Int) + 1 ≤ 10 := by omega
      have HN8 := Lib.hid hn8
      have hw3 : IntKind.i64.wrap ((n : Int) + 1 - 1) = (n : Int) := by rw [show (n : Int) + 1 - 1 = (n : Int) by omega]; exact wraps_i64' _ (by omega) (by omega)
      have hw4 : IntKind.i64.wrap (n : Int) = (n : Int) := wraps_i64' _ (by omega) (by omega)
      have hf4 : 100 * (n : Int) ≤ f4 := by omega
      have HF4 := Lib.hid hf4
      have HR4 := Lib.hid hK2
      have HTM := Lib.hid hTM
      have D := Lib.hid (fun w => lost_eq hL w)
      clear hK1 hK2 hK3 hL hr2 hTM hn8 hf4 hcf hck hc0 hk2 hff2
      obtain ⟨x0, x1, x2, x3, x4⟩ := HS.out.facts
      go_wp2_with fail
      refine (D.out _).mono ?_
      rintro e wk7 ⟨rfl, bn⟩
      have HS := Lib.hid (HS.out.below bn)
      have BB := Lib.hid (BB.out.trans (bn.mono BB.out.size))
      clear bn D x0 x1 x2 x3 x4
      have HQB : Hid (w.heap.size ≤ wk7.heap.size + 1) := Lib.hid (Nat.le_trans BB.out.size (Nat.le_succ wk7.heap.size))
      have NSB : Hid (qS ≠ wk7.heap.size + 1) := Lib.hid (by have := HS.out.lt; omega)
      have NAB : Hid (wk7.heap.size ≠ wk7.heap.size + 1) := Lib.hid (by omega)
      have HA := Lib.hid (held_last z4 t4 f4 s4 p4 25 wk7)
      have HB := Lib.hid (held_at (b := wk7.heap.size + 1) z4 t4 f4 s4 p4 25 (wk7.alloc (.cells #[.int .i64 z4, .int .i64 t4, .int .i64 f4, .int .i64 s4, .int .i64 p4] 25)) (by simp))
      have HS := Lib.hid ((HS.out.alloc (.cells #[.int .i64 z4, .int .i64 t4, .int .i64 f4, .int .i64 s4, .int .i64 p4] 25)).alloc (.cells #[.int .i64 z4, .int .i64 t4, .int .i64 f4, .int .i64 s4, .int .i64 p4] 25))
      have BB := Lib.hid (below_more (below_more BB.out (Nat.le_refl _) (.cells #[.int .i64 z4, .int .i64 t4, .int .i64 f4, .int .i64 s4, .int .i64 p4] 25)) (Nat.le_refl _) (.cells #[.int .i64 z4, .int .i64 t4, .int .i64 f4, .int .i64 s4, .int .i64 p4] 25))
      obtain ⟨a0, a1, a2, a3, a4⟩ := HA.out.facts
      have HA := Lib.hid (HA.out.alloc (.cells #[.int .i64 z4, .int .i64 t4, .int .i64 f4, .int .i64 s4, .int .i64 p4] 25))
      go_wp2_with fail
      clear a0 a1 a2 a3 a4
      generalize (wk7.alloc (.cells #[.int .i64 z4, .int .i64 t4, .int .i64 f4, .int .i64 s4, .int .i64 p4] 25)).alloc (.cells #[.int .i64 z4, .int .i64 t4, .int .i64 f4, .int .i64 s4, .int .i64 p4] 25) = w9 at HS HA HB BB ⊢
      generalize wk7.heap.size + 1 = qB at HB HQB NSB NAB ⊢
      generalize wk7.heap.size = qA at HA NAB ⊢
      go_loopw [77] (fun i wx => ∃ (k : Nat) (z5 t5 f5 s5 p5 : Int), i = .int .i64 k ∧ k ≤ n ∧ rightB ⟨z5, t5, f5, s5, p5⟩ = true ∧ 100 * ((n : Int) - k) ≤ f5 ∧ (s2 < s4 → z5 = z4 ∧ t5 = t4 ∧ s5 = s4) ∧ Held qB z5 t5 f5 s5 p5 wx ∧ Held qA z4 t4 f4 s4 p4 wx ∧ Held qS z2 t2 f2 s2 p2 wx ∧ Below w.heap.size w wx) (fun i _ => n - (intOf i).toNat)
      case atStart => exact ⟨0, _, _, _, _, _, rfl, Nat.zero_le _, HR4.out, by (have := HF4.out; omega), fun _ => ⟨rfl, rfl, rfl⟩, HB.out, HA.out, HS.out, BB.out⟩
      case round =>
        obtain ⟨k5, z5, t5, f5, s5, p5, rfl, hk5, hr5, hf5, hw55, hb5, ha5, hs5, hbel5⟩ := hrel
        have HS := Lib.hid hs5
        have HA := Lib.hid ha5
        have HB := Lib.hid hb5
        have BB := Lib.hid hbel5
        have hn8 := HN8.out
        clear hs5 ha5 hb5 hbel5
        by_cases hlt5 : k5 < n
        · have hi5 : (k5 : Int) < (n : Int) := by omega
          have hw5 : IntKind.i64.wrap ((k5 : Int) + 1) = (k5 : Int) + 1 := wraps_i64' _ (by omega) (by omega)
          have hff := (right_iff.1 hr5).2.2.1
          simp only at hff
          have hw6 : IntKind.i64.wrap (f5 - 100) = f5 - 100 := wraps_i64' _ (by omega) (by omega)
          obtain ⟨⟨⟨z6, t6, f6, s6, p6⟩, e6⟩, hL⟩ : ∃ r, lostE ⟨z5, t5, f5, s5, p5⟩ 100 (s2) 1099511627776 = r := ⟨_, rfl⟩
          have hK := lost_ok (n := 100) hr5 (by decide) HTM.out (show timeB 1099511627776 = true by decide) (by simp only; omega)
          rw [hL] at hK
          obtain ⟨hK1, hK2, hK3⟩ := hK
          have hK0 := (Prod.mk.inj hK1).1
          rw [← hK0] at hK2 hK3
          have he6 := (Prod.mk.inj hK1).2
          subst he6
          simp only at hK3
          subst hK3
          have D := Lib.hid (fun w => lost_eq hL w)
          have HR6 := Lib.hid hK2
          have HF6 : Hid (100 * ((n : Int) - ((k5 + 1 : Nat) : Int)) ≤ f5 - 100) := Lib.hid (by push_cast; omega)
          have q2 : (f5 - 100 != f5 - 100) = false := by simp
          obtain ⟨x0, x1, x2, x3, x4⟩ := HS.out.facts
          obtain ⟨b0, b1, b2, b3, b4⟩ := HB.out.facts
          clear hK1 hK2 hL hff hf5 hn8 hr5 hk5
          by_cases hms : s2 < s4
          · obtain ⟨y1, y2, y3⟩ := hw55 hms
            rw [lost_less (q := ⟨z5, t5, f5, s5, p5⟩) (show s2 < s5 by omega)] at hK0
            have v1 : z6 = z4 := (congrArg St.z hK0).trans y1
            have v2 : t6 = t4 := (congrArg St.t hK0).trans y2
            have v3 : s6 = s4 := (congrArg St.s hK0).trans y3
            have HW6 : Hid (s2 < s4 → z6 = z4 ∧ t6 = t4 ∧ s6 = s4) := Lib.hid (fun _ => ⟨v1, v2, v3⟩)
            have q0 : (z6 != z4) = false := by simp [v1]
            have q1 : (t6 != t4) = false := by simp [v2]
            have d9 : decide (s2 < s4) = true := decide_eq_true hms
            clear hw55 hms hK0 v1 v2 v3 y1 y2 y3
            go_wp2_with fail
            refine (D.out _).mono ?_
            rintro e w7 ⟨rfl, bn⟩
            have HS := Lib.hid (HS.out.below bn)
            have HA := Lib.hid (HA.out.below bn)
            have HB := Lib.hid (HB.out.below bn)
            have BB := Lib.hid (BB.out.trans (bn.mono BB.out.size))
            have bx := below_one w7 (.cells #[.int .i64 z6, .int .i64 t6, .int .i64 (f5 - 100), .int .i64 s6, .int .i64 p6] 25)
            have HS := Lib.hid (HS.out.below bx)
            have HA := Lib.hid (HA.out.below bx)
            have HB := Lib.hid (HB.out.below bx)
            have BB := Lib.hid (BB.out.trans (bx.mono BB.out.size))
            have HC := Lib.hid (held_last z6 t6 (f5 - 100) s6 p6 25 w7)
            clear bn bx D b0 b1 b2 b3 b4 x0 x1 x2 x3 x4
            obtain ⟨x0, x1, x2, x3, x4⟩ := HS.out.facts
            obtain ⟨a0, a1, a2, a3, a4⟩ := HA.out.facts
            obtain ⟨b0, b1, b2, b3, b4⟩ := HB.out.facts
            obtain ⟨g0, g1, g2, g3, g4⟩ := HB.out.free
            obtain ⟨c0, c1, c2, c3, c4⟩ := HC.out.facts
            go_wp2
            exact ⟨⟨k5 + 1, z6, t6, (f5 - 100), s6, p6, by go_num, hlt5, HR6.out, HF6.out, HW6.out, HB.out.set z6 t6 (f5 - 100) s6 p6, HA.out.others qB (fun e => NAB.out e.symm) (.int .i64 z6) (.int .i64 t6) (.int .i64 (f5 - 100)) (.int .i64 s6) (.int .i64 p6), HS.out.others qB (fun e => NSB.out e.symm) (.int .i64 z6) (.int .i64 t6) (.int .i64 (f5 - 100)) (.int .i64 s6) (.int .i64 p6), below_five BB.out qB HQB.out (.int .i64 z6) (.int .i64 t6) (.int .i64 (f5 - 100)) (.int .i64 s6) (.int .i64 p6)⟩, by simp [intOf, hw5]; omega⟩
          · have HW6 : Hid (s2 < s4 → z6 = z4 ∧ t6 = t4 ∧ s6 = s4) := Lib.hid (fun h => absurd h hms)
            have d9 : decide (s2 < s4) = false := decide_eq_false hms
            clear hw55 hms hK0
            go_wp2_with fail
            refine (D.out _).mono ?_
            rintro e w7 ⟨rfl, bn⟩
            have HS := Lib.hid (HS.out.below bn)
            have HA := Lib.hid (HA.out.below bn)
            have HB := Lib.hid (HB.out.below bn)
            have BB := Lib.hid (BB.out.trans (bn.mono BB.out.size))
            have bx := below_one w7 (.cells #[.int .i64 z6, .int .i64 t6, .int .i64 (f5 - 100), .int .i64 s6, .int .i64 p6] 25)
            have HS := Lib.hid (HS.out.below bx)
            have HA := Lib.hid (HA.out.below bx)
            have HB := Lib.hid (HB.out.below bx)
            have BB := Lib.hid (BB.out.trans (bx.mono BB.out.size))
            have HC := Lib.hid (held_last z6 t6 (f5 - 100) s6 p6 25 w7)
            clear bn bx D b0 b1 b2 b3 b4 x0 x1 x2 x3 x4
            obtain ⟨x0, x1, x2, x3, x4⟩ := HS.out.facts
            obtain ⟨a0, a1, a2, a3, a4⟩ := HA.out.facts
            obtain ⟨b0, b1, b2, b3, b4⟩ := HB.out.facts
            obtain ⟨g0, g1, g2, g3, g4⟩ := HB.out.free
            obtain ⟨c0, c1, c2, c3, c4⟩ := HC.out.facts
            go_wp2
            exact ⟨⟨k5 + 1, z6, t6, (f5 - 100), s6, p6, by go_num, hlt5, HR6.out, HF6.out, HW6.out, HB.out.set z6 t6 (f5 - 100) s6 p6, HA.out.others qB (fun e => NAB.out e.symm) (.int .i64 z6) (.int .i64 t6) (.int .i64 (f5 - 100)) (.int .i64 s6) (.int .i64 p6), HS.out.others qB (fun e => NSB.out e.symm) (.int .i64 z6) (.int .i64 t6) (.int .i64 (f5 - 100)) (.int .i64 s6) (.int .i64 p6), below_five BB.out qB HQB.out (.int .i64 z6) (.int .i64 t6) (.int .i64 (f5 - 100)) (.int .i64 s6) (.int .i64 p6)⟩, by simp [intOf, hw5]; omega⟩
        · have hi5 : ¬ ((k5 : Int) < (n : Int)) := by omega
          clear hr5 hf5 hw55 hn8
          go_wp2_with fail
          refine (alive_any _).mono ?_
          rintro e w99 ⟨rfl, bn⟩
          have BB := Lib.hid (BB.out.trans (bn.mono BB.out.size))
          clear bn
          go_wp2
          go_ret
          exact ⟨rfl, BB.out⟩

/-- P7.6 -/
theorem once_walk (v : Value) (l : List ActV) (many now : Int) (w : World) (hR : RdA w v l) (hok : ActsOk l) (hmany : 0 ≤ many ∧ many < 256) : Calls Try.prog 7 #[v, .int .u8 many, .int .i64 now] w (Yes w) := by
  obtain ⟨r, hr⟩ : ∃ r : Nat, many.tmod 8 = (r : Int) := ⟨(many.tmod 8).toNat, by rw [Int.tmod_eq_emod_of_nonneg hmany.1]; omega⟩
  have hr8 : r < 8 := by rw [Int.tmod_eq_emod_of_nonneg hmany.1] at hr; omega
  rcases hR.form with ⟨_, a, c, rfl⟩ | ⟨b, o, c, rfl, hb, hc, hm⟩
  · exact once_none a c many now w r hr hr8
  · exact once_some b o c l many now w hR hb hc hm hok r hr hr8
end Go.Proofs.Ytiglhdiclfknhaa
