/- Walks of layer 8: datagrams taken over; the document's Sent and Drop. -/
import Derived.Test.YtobalbaieakcmaaSnR
set_option linter.unusedSimpArgs false
set_option linter.unusedVariables false
namespace Go.Proofs.Ytobalbaieakcmaa
open Go.RowKit Go.Maps

set_option maxRecDepth 100000 in
set_option maxHeartbeats 1600000 in
/-- ours are the same datagrams -/
theorem ours_any (v : Value) (l : List Pk) (w : World) (hr : RdP w v l) (hl : l.length ≤ 5000) :
    Calls Try.prog 16 #[v] w fun e w' => ∃ u, e = .returned u ∧ OwnP 67 w' w.heap.size u l ∧ Below w.heap.size w w' := by
  by_cases h0 : l = []
  · subst h0
    obtain ⟨va, vc, rfl, _, _⟩ := hr.slice
    clear hr
    go_enter Try.func16, Try.ntmps16
    go_wp2_with fail
    refine wp_loop_rounds 1 ?_
    rw [rounds_succ]
    go_wp2
    go_ret
    exact ⟨_, rfl, OwnP.nil _ _ _, Below.refl _ _⟩
  obtain ⟨b, o, c, rfl, hb⟩ := hr.form h0
  have HR := Lib.hid hr
  clear hr h0
  go_enter Try.func16, Try.ntmps16
  go_wp2_with fail
  go_loopw [3, 8] (fun g i wr => ∃ (k : Nat), i = .int .i64 k ∧ k ≤ l.length ∧ OwnP 67 wr w.heap.size g (l.take k) ∧ Below w.heap.size w wr) (fun _ i _ => l.length - (intOf i).toNat)
  case atStart => exact ⟨0, rfl, Nat.zero_le _, by rw [List.take_zero]; exact OwnP.nil _ _ _, Below.refl _ _⟩
  case round =>
    obtain ⟨k, rfl, hk, hO, hbel⟩ := hrel
    have HO := Lib.hid hO
    have BB := Lib.hid hbel
    have hsz := hbel.size
    by_cases hlt : k < l.length
    · obtain ⟨q0, q1, q2⟩ := (HR.out.below hbel).cells k hlt
      have hi1 : (k : Int) < (l.length : Int) := by omega
      have hi2 : (0 : Int) ≤ (k : Int) := by omega
      have hw1 : IntKind.i64.wrap ((k : Int) + 1) = (k : Int) + 1 := wraps_i64' _ (by omega) (by omega)
      have htk : Hid (l.take k ++ [l.getD k default] = l.take (k + 1)) := by
        show _ = _
        rw [List.take_succ_eq_append_getElem hlt]; simp [List.getD, hlt]
      generalize l.getD k default = x at q0 q1 q2 htk
      obtain ⟨x0, x1, x2⟩ := x
      simp only at q0 q1 q2
      have b1 := below_one wr (.cells #[.int .i64 x0, .int .i64 x1, .int .i64 x2] 54)
      have B1 := Lib.hid (BB.out.trans (b1.mono hsz))
      have HO1 := Lib.hid (HO.out.kept (grownBy_of_below (row := none) b1) (by simp))
      have CB : Hid ((wr.alloc (.cells #[.int .i64 x0, .int .i64 x1, .int .i64 x2] 54)).heap[wr.heap.size]? = some (.cells #[.int .i64 x0, .int .i64 x1, .int .i64 x2] 54 (0, 0))) := by
        show (wr.heap.push _)[wr.heap.size]? = _; simp
      have htl : (l.take k).length ≤ 5000 := by rw [List.length_take]; omega
      clear hO hbel b1
      go_upto_region 5 with fail
      generalize wr.alloc (.cells #[.int .i64 x0, .int .i64 x1, .int .i64 x2] 54) = w4 at B1 HO1 CB ⊢
      have y0 : w4.cell? ⟨wr.heap.size, 0, none⟩ = some (.int .i64 x0) := by simp [World.cell?, CB.out]
      have y1 : w4.cell? ⟨wr.heap.size, 1, none⟩ = some (.int .i64 x1) := by simp [World.cell?, CB.out]
      have y2 : w4.cell? ⟨wr.heap.size, 2, none⟩ = some (.int .i64 x2) := by simp [World.cell?, CB.out]
      clear q0 q1 q2
      go_wp2_with (at_builtin; refine wpList_append_pkR _ rfl _ _ rfl w.heap.size u3 (l.take k) rfl (HO1.out.kept (grownBy_of_below (row := none) (below_one w4 _)) (by simp)) _ [⟨x0, x1, x2⟩] rfl (RdP.built w4 ⟨x0, x1, x2⟩ _) (by simp; omega) (by have := B1.out.size; simp; omega) ?_; intro v' w6 hO6 hg6)
      rw [htk.out] at hO6
      have b5 := B1.out.trans ((below_one w4 (.cells #[.int .i64 x0, .int .i64 x1, .int .i64 x2] 67)).mono B1.out.size)
      refine ⟨⟨k + 1, by go_num, hlt, hO6, ?_⟩, by simp [intOf, hw1]; omega⟩
      exact b5.grown hg6 b5.size (fun j hj => HO1.out.blk j hj)
    · have hi1 : ¬ ((k : Int) < (l.length : Int)) := by omega
      have hkl : k = l.length := by omega
      have HT : Hid (l.take k = l) := by show _ = _; rw [hkl, List.take_length]
      clear hkl hO hbel
      go_wp2
      go_ret
      exact ⟨_, rfl, by have h := HO.out; rwa [HT.out] at h, BB.out⟩

/-- what a call of the document's ledger does to the world -/
def RDoes (rb B : Nat) (q' : Lg) (w : World) (w' : World) : Prop := RLed rb B q' w' ∧ Keep [rb] w w'

set_option maxRecDepth 100000 in
set_option maxHeartbeats 1600000 in
theorem rdrop_any (rb B : Nat) (q : Lg) (w : World) (hB : rb < B) (hL : RLed rb B q w) :
    Calls Try.prog 22 #[.pointer (some ⟨rb, 0, none⟩)] w fun e w' => ∃ v, e = .returned v ∧ OwnP 67 w' B v (dropE q).2 ∧ RDoes rb B (dropE q).1 w w' := by
  obtain ⟨v, hR, hO⟩ := hL
  obtain ⟨c0, c1, c2, c3⟩ := hR.facts
  obtain ⟨z0, z1, z2, z3⟩ := hR.free
  have HR := Lib.hid hR
  have HO := Lib.hid hO
  obtain ⟨va, vc, rfl, _, _⟩ := hO.slice
  have hne : Hid (∀ j, (Value.slice va q.l.length vc).ownBlock = some j → j ∉ [rb]) := fun j hj hn => by
    simp only [List.mem_singleton] at hn
    have := hO.blk j hj; omega
  clear hR hO
  go_enter Try.func22, Try.ntmps22
  go_wp2
  go_ret
  exact ⟨_, rfl, HO.out.keep (keep_set rb 0 w _) hne.out, ⟨_, HR.out.set0 _, OwnP.nil _ _ _⟩, keep_set rb 0 w _⟩

theorem send_split2 {n t s : Int} (h : sendB n t s = false) : n < 0 ∨ (¬ n < 0 ∧ n > 4611686018427387903) ∨ (¬ n < 0 ∧ ¬ n > 4611686018427387903 ∧ nowB t = false) ∨ (¬ n < 0 ∧ ¬ n > 4611686018427387903 ∧ nowB t = true ∧ s < 1) ∨ (¬ n < 0 ∧ ¬ n > 4611686018427387903 ∧ nowB t = true ∧ ¬ s < 1 ∧ s > 1200) := by
  rcases send_split h with h | ⟨h, h2⟩ | ⟨h, h2, h3⟩
  · have : ¬ (0 ≤ n ∧ n ≤ 4611686018427387903) := fun k => by rw [within_iff.2 k] at h; cases h
    omega
  · have := within_iff.1 h
    exact .inr (.inr (.inl ⟨by omega, by omega, h2⟩))
  · have := within_iff.1 h
    have : ¬ (1 ≤ s ∧ s ≤ 1200) := fun k => by rw [within_iff.2 k] at h3; cases h3
    by_cases h4 : s < 1
    · exact .inr (.inr (.inr (.inl ⟨by omega, by omega, h2, h4⟩)))
    · exact .inr (.inr (.inr (.inr ⟨by omega, by omega, h2, h4, by omega⟩)))
theorem keep_set3 (b : Nat) (w : World) (x y z : Value) : Keep [b] w (((w.setCell ⟨b, 0, none⟩ x).setCell ⟨b, 2, none⟩ y).setCell ⟨b, 3, none⟩ z) := ((keep_set b 0 w x).trans (keep_set b 2 _ y) (fun i hi => .inl hi)).trans (keep_set b 3 _ z) (fun i hi => .inl hi)

set_option maxRecDepth 100000 in
set_option maxHeartbeats 3200000 in
theorem rsent_any (rb B : Nat) (q : Lg) (n t s : Int) (w : World) (hq : q.l.length ≤ 512) (hB : rb < B) (hBs : B ≤ w.heap.size) (hL : RLed rb B q w) :
    Calls Try.prog 12 #[.pointer (some ⟨rb, 0, none⟩), .int .i64 n, .int .i64 t, .int .i64 s] w fun e w' => e = .returned (.int .i64 (sentE q n t s).2) ∧ RDoes rb B (sentE q n t s).1 w w' := by
  have HLed := Lib.hid hL
  obtain ⟨v, hR, hO⟩ := hL
  obtain ⟨c0, c1, c2, c3⟩ := hR.facts
  have HR := Lib.hid hR
  have HO := Lib.hid hO
  obtain ⟨va, vc, rfl, _, _⟩ := hO.slice
  unfold sentE
  cases hs : sendB n t s
  · rw [if_pos rfl]
    have hw := send_split2 hs
    clear hR hO hs
    rcases hw with h1 | ⟨h1, h2⟩ | ⟨h1, h2, h3⟩ | ⟨h1, h2, h3, h4⟩ | ⟨h1, h2, h3, h4, h5⟩
    · have e1 : decide (n < 0) = true := decide_eq_true h1
      clear h1
      go_enter Try.func12, Try.ntmps12
      go_wp2
      go_ret
      exact ⟨rfl, HLed.out, Keep.refl _ _⟩
    · have e1 : decide (n < 0) = false := decide_eq_false h1
      have e2 : decide (n > 4611686018427387903) = true := decide_eq_true h2
      clear h1 h2
      go_enter Try.func12, Try.ntmps12
      go_wp2
      go_ret
      exact ⟨rfl, HLed.out, Keep.refl _ _⟩
    all_goals
      have e1 : decide (n < 0) = false := decide_eq_false h1
      have e2 : decide (n > 4611686018427387903) = false := decide_eq_false h2
      have H3 := Lib.hid h3
      clear h1 h2 h3
    · go_enter Try.func12, Try.ntmps12
      go_wp2_with (go_at_call 29; refine (time_b _ _ H3.out _).mono ?_; rintro e w2 ⟨rfl, h⟩; obtain rfl : w = w2 := h.symm)
      go_ret
      exact ⟨rfl, HLed.out, Keep.refl _ _⟩
    · have e4 : decide (s < 1) = true := decide_eq_true h4
      clear h4
      go_enter Try.func12, Try.ntmps12
      go_wp2_with (go_at_call 29; refine (time_b _ _ H3.out _).mono ?_; rintro e w2 ⟨rfl, h⟩; obtain rfl : w = w2 := h.symm)
      go_ret
      exact ⟨rfl, HLed.out, Keep.refl _ _⟩
    · have e4 : decide (s < 1) = false := decide_eq_false h4
      have e5 : decide (s > 1200) = true := decide_eq_true h5
      clear h4 h5
      go_enter Try.func12, Try.ntmps12
      go_wp2_with (go_at_call 29; refine (time_b _ _ H3.out _).mono ?_; rintro e w2 ⟨rfl, h⟩; obtain rfl : w = w2 := h.symm)
      go_ret
      exact ⟨rfl, HLed.out, Keep.refl _ _⟩
  rw [if_neg (by decide)]
  have hw : (withinB n 0 4611686018427387903 = true ∧ nowB t = true) ∧ withinB s 1 1200 = true := by simpa only [sendB, Bool.and_eq_true] using hs
  have k1 := within_iff.1 hw.1.1
  have k2 := within_iff.1 hw.2
  have H3 := Lib.hid hw.1.2
  have e1 : decide (n < 0) = false := decide_eq_false (by omega)
  have e2 : decide (n > 4611686018427387903) = false := decide_eq_false (by omega)
  have e4 : decide (s < 1) = false := decide_eq_false (by omega)
  have e5 : decide (s > 1200) = false := decide_eq_false (by omega)
  clear hw hs k1 k2 hR hO
  obtain ⟨l, last, time, big⟩ := q
  simp only at hq c0 c1 c2 c3 HR HO ⊢
  by_cases h4 : n ≤ last
  · rw [if_pos (.inl h4)]
    have e6 : decide (n ≤ last) = true := decide_eq_true h4
    clear h4
    go_enter Try.func12, Try.ntmps12
    go_wp2_with (go_at_call 29; refine (time_b _ _ H3.out _).mono ?_; rintro e w2 ⟨rfl, h⟩; obtain rfl : w = w2 := h.symm)
    go_ret
    exact ⟨rfl, HLed.out, Keep.refl _ _⟩
  have e6 : decide (n ≤ last) = false := decide_eq_false h4
  by_cases h5 : t < time
  · rw [if_pos (.inr h5)]
    have e7 : decide (t < time) = true := decide_eq_true h5
    clear h4 h5
    go_enter Try.func12, Try.ntmps12
    go_wp2_with (go_at_call 29; refine (time_b _ _ H3.out _).mono ?_; rintro e w2 ⟨rfl, h⟩; obtain rfl : w = w2 := h.symm)
    go_ret
    exact ⟨rfl, HLed.out, Keep.refl _ _⟩
  have e7 : decide (t < time) = false := decide_eq_false h5
  rw [if_neg (by
    rintro (h | h)
    · exact h4 h
    · exact h5 h)]
  by_cases h6 : 512 ≤ l.length
  · rw [if_pos h6]
    have e8 : decide ((l.length : Int) ≥ 512) = true := decide_eq_true (by omega)
    have e8' : decide (l.length ≥ 512) = true := decide_eq_true (by omega)
    clear h4 h5 h6
    go_enter Try.func12, Try.ntmps12
    go_wp2_with (go_at_call 29; refine (time_b _ _ H3.out _).mono ?_; rintro e w2 ⟨rfl, h⟩; obtain rfl : w = w2 := h.symm)
    go_ret
    exact ⟨rfl, HLed.out, Keep.refl _ _⟩
  have e8 : decide ((l.length : Int) ≥ 512) = false := decide_eq_false (by omega)
  have e8' : decide (l.length ≥ 512) = false := decide_eq_false (by omega)
  rw [if_neg h6]
  have tok : True := trivial
  clear h4 h5 h6
  go_enter Try.func12, Try.ntmps12
  go_wp2_with (first
    | (go_at_call 29; refine (time_b _ _ H3.out _).mono ?_; rintro e w2 ⟨rfl, h⟩; obtain rfl : w = w2 := h.symm)
    | (at_builtin; have _t := tok; refine wpList_append_pkR _ rfl _ _ rfl w.heap.size (.slice none 0 0) [] rfl (OwnP.nil _ _ _) _ l rfl HO.out.rd (by simp; omega) (Nat.le_refl _) ?_; intro v1 w1 hO1 hg1
       have HO1 := Lib.hid hO1
       have HG1 := Lib.hid hg1
       have BL := Lib.hid (below_one w1 (.cells #[.int .i64 n, .int .i64 t, .int .i64 s] 67))
       clear tok hO1 hg1)
    | (at_builtin; refine wpList_append_pkR _ rfl _ _ rfl w.heap.size v1 ([] ++ l) rfl (HO1.out.kept (grownBy_of_below (row := none) BL.out) (by simp)) _ [⟨n, t, s⟩] rfl (RdP.built w1 ⟨n, t, s⟩ _) (by simp; omega) (by have := HG1.out.size; have := BL.out.size; omega) ?_; intro v2 w3 hO3 hg3
       obtain ⟨a2, n2, c2, rfl⟩ : ∃ a2 n2 c2, v2 = .slice a2 n2 c2 := by
         obtain ⟨a2, c2, e2, _⟩ := hO3.slice
         exact ⟨_, _, _, e2⟩
       have HO3 := Lib.hid hO3
       have hg0 : w.grownBy w1 none := HG1.out
       have HGG := Lib.hid ((hg0.andThen (grownBy_of_below (row := none) BL.out) (by simp)).andThen hg3 (row := none) (fun j hj => .inl (HO1.out.blk j hj)))
       have HR3 := Lib.hid (HR.out.grown HGG.out (by simp))
       obtain ⟨g0, g1, g2, g3⟩ := HR3.out.facts
       obtain ⟨z0, z1, z2, z3⟩ := HR3.out.free
       clear hO3 hg3 hg0))
  go_ret
  have k3 := keep_set3 rb w3 (.slice a2 n2 c2) (.int .i64 n) (.int .i64 t)
  refine ⟨rfl, ⟨.slice a2 n2 c2, (HR3.out.set0 _).set23 n t, ?_⟩, (Keep.of_grown HGG.out (fun j hj => by cases hj)).trans k3 (fun i hi => .inl hi)⟩
  exact (HO3.out.keep k3 fun j hj hn => by
    have := HO3.out.blk j hj
    simp only [List.mem_singleton] at hn
    omega).mono hBs
end Go.Proofs.Ytobalbaieakcmaa
