/- The law Due. -/
import Derived.Test.YtobalbaieakcmaaSnY
set_option linter.unusedSimpArgs false
set_option linter.unusedVariables false
namespace Go.Proofs.Ytobalbaieakcmaa
open Go.RowKit Go.Maps

/-- behind a Lose of nobody's time nothing that is left is lost by its number -/
theorem lose0 {q : Lg} : ∀ p ∈ (loseE q 0 1099511627776).1.l, p.n < (loseE q 0 1099511627776).1.big → (loseE q 0 1099511627776).1.big - p.n < 3 := by
  have e : loseE q 0 1099511627776 = (⟨q.l.filter (fun p => !lostB q.big 0 1099511627776 p), q.last, q.time, q.big⟩, q.l.filter (lostB q.big 0 1099511627776)) := by
    unfold loseE; rw [if_neg (by decide)]
  rw [e]
  intro p hp hb
  have h := (List.mem_filter.1 hp).2
  simp only at hb ⊢
  by_cases h3 : q.big - p.n ≥ 3
  · rw [lostB, decide_eq_true hb, decide_eq_true h3] at h; simp at h
  · omega
theorem lose_bad {q : Lg} {now wait : Int} (h : waitB wait = false) : loseE q now wait = (q, []) := by
  unfold loseE waitsB
  rw [h, Bool.and_false, if_pos rfl]
theorem lose_good {q : Lg} {now wait : Int} (h : waitB wait = true) (hn : 0 ≤ now ∧ now ≤ 1099511627776) : loseE q now wait = (⟨q.l.filter (fun p => !lostB q.big now wait p), q.last, q.time, q.big⟩, q.l.filter (lostB q.big now wait)) := by
  unfold loseE waitsB
  rw [h, Bool.and_true, show nowB now = true from within_iff.2 hn, if_neg (by decide)]
theorem due_bad {q : Lg} {wait : Int} (h : waitB wait = false) : dueE q wait = -1 := by unfold dueE; rw [if_pos h]
theorem due_neg {q : Lg} (hq : Ok q) {wait : Int} (h : dueE q wait < 0) : (loseE q 1099511627776 wait).2 = [] := by
  cases hw : waitB wait
  · rw [lose_bad hw]
  · rw [lose_good hw (by decide)]
    rcases due_is hq hw with ⟨_, hm⟩ | ⟨h0, _⟩
    · refine List.filter_eq_nil_iff.2 fun p hp => ?_
      rw [lostB, decide_eq_false (hm p hp), Bool.false_and]; decide
    · omega
/-- ahead of its time none is lost -/
theorem due_ahead {q : Lg} (hq : Ok q) {wait : Int} (h3 : ∀ p ∈ q.l, p.n < q.big → q.big - p.n < 3) (h : 0 < dueE q wait) (hM : dueE q wait ≤ 1099511627776) : loseE q (dueE q wait - 1) wait = (q, []) := by
  cases hw : waitB wait
  · rw [lose_bad hw]
  · rw [lose_good hw (by omega)]
    rcases due_is hq hw with ⟨h0, _⟩ | ⟨h0, _, hm⟩
    · omega
    · have hno : ∀ p ∈ q.l, lostB q.big (dueE q wait - 1) wait p = false := fun p hp => by
        by_cases hb : p.n < q.big
        · have := h3 p hp hb
          have := hm p hp hb
          rw [lostB, decide_eq_false (by omega : ¬ q.big - p.n ≥ 3), decide_eq_false (by omega : ¬ dueE q wait - 1 - p.t ≥ wait)]; simp
        · rw [lostB, decide_eq_false hb, Bool.false_and]
      rw [List.filter_eq_self.2 (fun p hp => by rw [hno p hp]; rfl), List.filter_eq_nil_iff.2 (fun p hp => by rw [hno p hp]; decide)]
/-- at its time one is -/
theorem due_at {q : Lg} (hq : Ok q) {wait : Int} (h : 0 ≤ dueE q wait) (hM : dueE q wait ≤ 1099511627776) : 0 < (loseE q (dueE q wait) wait).2.length := by
  cases hw : waitB wait
  · rw [due_bad hw] at h; omega
  · rw [lose_good hw ⟨h, hM⟩]
    rcases due_is hq hw with ⟨h0, _⟩ | ⟨h0, ⟨p, hp, hb, he⟩, hm⟩
    · omega
    · refine List.length_pos_of_mem (a := p) (List.mem_filter.2 ⟨hp, ?_⟩)
      rw [lostB, decide_eq_true hb, decide_eq_true (by omega : dueE q wait - p.t ≥ wait)]; simp

set_option maxRecDepth 100000 in
set_option maxHeartbeats 3200000 in
theorem due_some (b o c : Nat) (l : List ActV) (wait : Int) (w : World) (hR : RdA w (.slice (some ⟨b, o, none⟩) l.length c) l) (hb : b < w.heap.size) (hc : l.length ≤ c) (hm : c ≤ maxLen) (hok : ∀ x ∈ l, ActOk w x) : Calls Try.prog 6 #[.slice (some ⟨b, o, none⟩) l.length c, .int .i64 wait] w (Yes w) := by
  unfold maxLen at hm
  have AT := Lib.hid (fun k (hk : k < l.length) W hW => hR.at hb k hk W hW)
  have OK := Lib.hid (fun k (hk : k < l.length) => hok _ (List.getElem_mem hk))
  clear hR hok hb
  go_enter Try.func6, Try.ntmps6
  go_wp2_with (first
    | (go_at_call 8; refine (new_any _).mono ?_; rintro e w1 ⟨rfl, hL1, hb1⟩
       have HL1 := Lib.hid hL1
       have HB1 := Lib.hid hb1
       clear hL1 hb1)
    | (go_at_call 10; refine (alive_any _).mono ?_; rintro e w2 ⟨rfl, hb2⟩
       have HL2 := Lib.hid (HL1.out.below hb2)
       have HB2 := Lib.hid (HB1.out.trans (hb2.mono HB1.out.size))
       clear hb2))
  go_loopw [18] (fun i wr => ∃ (k : Nat) (q : Lg), i = .int .i64 k ∧ k ≤ l.length ∧ Ok q ∧ Led (w.heap.size + 1) w.heap.size q wr ∧ Below w.heap.size w wr) (fun i _ => l.length - (intOf i).toNat)
  case atStart => exact ⟨0, fresh, rfl, Nat.zero_le _, fresh_ok, HL2.out, HB2.out⟩
  case round =>
    obtain ⟨k, q, rfl, hk, hq, hL, hbel⟩ := hrel
    have HL := Lib.hid hL
    have HB := Lib.hid hbel
    have hz := hbel.size
    by_cases hlt : k < l.length
    · clear hL hbel
      have hi1 : (k : Int) < (l.length : Int) := by omega
      have hw1 : IntKind.i64.wrap ((k : Int) + 1) = (k : Int) + 1 := wraps_i64' _ (by omega) (by omega)
      obtain ⟨a0, a1, a2, a3, a4, a5⟩ := AT.out k hlt wr HB.out
      have hcc := OK.out k hlt
      generalize l[k] = cc at a0 a1 a2 a3 a4 a5 hcc
      obtain ⟨kk, n, now, size, wt, sp, ss⟩ := cc
      obtain ⟨hkk, hsp⟩ := hcc
      simp only at a0 a1 a2 a3 a4 a5 hkk hsp
      obtain ⟨sa, sc, rfl, _, _⟩ := hsp.isSlice
      have b6 := below_one wr (.cells #[.int .u8 kk, .int .i64 n, .int .i64 now, .int .i64 size, .int .i64 wt, .slice sa ss.length sc] 32)
      have HB6 := Lib.hid (HB.out.trans (b6.mono HB.out.size))
      have HL6 := Lib.hid (HL.out.below b6)
      have HS6 := Lib.hid (hsp.below HB6.out)
      have CB : Hid ((wr.alloc (.cells #[.int .u8 kk, .int .i64 n, .int .i64 now, .int .i64 size, .int .i64 wt, .slice sa ss.length sc] 32)).heap[wr.heap.size]? = some (.cells #[.int .u8 kk, .int .i64 n, .int .i64 now, .int .i64 size, .int .i64 wt, .slice sa ss.length sc] 32 (0, 0))) := by
        show (wr.heap.push _)[wr.heap.size]? = _; simp

      clear hsp b6
      go_upto_region 7 with fail
      generalize wr.alloc (.cells #[.int .u8 kk, .int .i64 n, .int .i64 now, .int .i64 size, .int .i64 wt, .slice sa ss.length sc] 32) = w6 at HB6 HL6 HS6 CB ⊢
      have c0 : w6.cell? ⟨wr.heap.size, 0, none⟩ = some (.int .u8 kk) := by simp [World.cell?, CB.out]
      have c1 : w6.cell? ⟨wr.heap.size, 1, none⟩ = some (.int .i64 n) := by simp [World.cell?, CB.out]
      have c2 : w6.cell? ⟨wr.heap.size, 2, none⟩ = some (.int .i64 now) := by simp [World.cell?, CB.out]
      have c3 : w6.cell? ⟨wr.heap.size, 3, none⟩ = some (.int .i64 size) := by simp [World.cell?, CB.out]
      have c4 : w6.cell? ⟨wr.heap.size, 4, none⟩ = some (.int .i64 wt) := by simp [World.cell?, CB.out]
      have c5 : w6.cell? ⟨wr.heap.size, 5, none⟩ = some (.slice sa ss.length sc) := by simp [World.cell?, CB.out]
      clear a0 a1 a2 a3 a4 a5
      go_wp2_with (go_at_call 25; refine (does_any (w.heap.size + 1) w.heap.size q kk n now size wt (.slice sa ss.length sc) ss w6 hq HL6.out hkk HS6.out).mono ?_; rintro e w7 ⟨v7, rfl, _, hD⟩)
      exact ⟨⟨k + 1, _, by go_num, hlt, does_ok hq _ _ _ _ _ _, hD.1, HB6.out.trans (hD.2.to_below (fun i hi => by simp at hi; omega) HB6.out.size)⟩, by simp [intOf, hw1]; omega⟩
    · have hi1 : ¬ ((k : Int) < (l.length : Int)) := by omega
      clear hL hbel
      have HQ := Lib.hid (hq)
      have HQ1 := Lib.hid (lose_ok HQ.out 0 1099511627776)
      have H3 := Lib.hid (lose0 (q := q))
      have C1 := Lib.hid (lose_any (w.heap.size + 1) w.heap.size q 0 1099511627776 wr HQ.out HL.out)
      generalize (loseE q 0 1099511627776).1 = q1 at HQ1 H3 C1
      generalize (loseE q 0 1099511627776).2 = l1 at C1
      have DN := Lib.hid (fun h => due_neg HQ1.out (wait := wait) h)
      have DA := Lib.hid (fun h1 h2 => due_ahead HQ1.out H3.out (wait := wait) h1 h2)
      have DT := Lib.hid (fun h1 h2 => due_at HQ1.out (wait := wait) h1 h2)
      have DG : dueE q1 wait = -1 ∨ 0 ≤ dueE q1 wait := by
        cases hw : waitB wait
        · exact .inl (due_bad hw)
        · exact due_ge (due_is HQ1.out hw)
      have C2 := Lib.hid (fun W hL => due_any (w.heap.size + 1) w.heap.size q1 wait W HQ1.out hL)
      generalize dueE q1 wait = due at DN DA DT DG C2
      clear H3
      have tok : True := trivial
      have tok8 : True := trivial
      have tok9 : True := trivial
      by_cases d1 : due < 0
      · have e1 : decide (due < 0) = true := decide_eq_true d1
        have HE := Lib.hid (DN.out d1)
        clear d1 DG DA DT DN
        go_wp2_with (first
        | (go_at_call 17; have _t := tok; refine C1.out.mono ?_; rintro e w7 ⟨v7, rfl, hv7, hD7⟩
           have HL7 := Lib.hid hD7.1
           have HB7 := Lib.hid (HB.out.trans (hD7.2.to_below (fun i hi => by simp at hi; omega) HB.out.size))
           clear tok hv7 hD7)
        | (go_at_call 19; refine (C2.out _ HL7.out).mono ?_; rintro e w8 ⟨rfl, hb8⟩
           have HL8 := Lib.hid (HL7.out.below hb8)
           have HB8 := Lib.hid (HB7.out.trans (hb8.mono HB7.out.size))
           clear hb8)
        | (go_at_call 17; have _t := tok8; refine (lose_any (w.heap.size + 1) w.heap.size q1 1099511627776 wait w8 HQ1.out HL8.out).mono ?_; rintro e w9 ⟨v9, rfl, hv9, hD9⟩
           have HB9 := Lib.hid (HB8.out.trans (hD9.2.to_below (fun i hi => by simp at hi; omega) HB8.out.size))
           rw [HE.out] at hv9
           obtain ⟨va9, vc9, rfl, _, _⟩ := hv9.slice
           clear tok8))
        go_ret
        exact ⟨rfl, HB9.out⟩
      have e1 : decide (due < 0) = false := decide_eq_false d1
      by_cases d2 : due > 1099511627776
      · have e2 : decide (due > 1099511627776) = true := decide_eq_true d2
        clear d1 d2 DG DA DT DN
        go_wp2_with (first
        | (go_at_call 17; have _t := tok; refine C1.out.mono ?_; rintro e w7 ⟨v7, rfl, hv7, hD7⟩
           have HL7 := Lib.hid hD7.1
           have HB7 := Lib.hid (HB.out.trans (hD7.2.to_below (fun i hi => by simp at hi; omega) HB.out.size))
           clear tok hv7 hD7)
        | (go_at_call 19; refine (C2.out _ HL7.out).mono ?_; rintro e w8 ⟨rfl, hb8⟩
           have HL8 := Lib.hid (HL7.out.below hb8)
           have HB8 := Lib.hid (HB7.out.trans (hb8.mono HB7.out.size))
           clear hb8))
        go_ret
        exact ⟨rfl, HB8.out⟩
      have e2 : decide (due > 1099511627776) = false := decide_eq_false d2
      have HT := Lib.hid (DT.out (by omega) (by omega))
      by_cases d3 : due > 0
      · have e3 : decide (due > 0) = true := decide_eq_true d3
        have hw9 : IntKind.i64.wrap (due - 1) = due - 1 := wraps_i64' _ (by omega) (by omega)
        have HA := Lib.hid (DA.out (by omega) (by omega))
        clear d1 d2 d3 DG DA DT DN
        go_wp2_with (first
        | (go_at_call 17; have _t := tok; refine C1.out.mono ?_; rintro e w7 ⟨v7, rfl, hv7, hD7⟩
           have HL7 := Lib.hid hD7.1
           have HB7 := Lib.hid (HB.out.trans (hD7.2.to_below (fun i hi => by simp at hi; omega) HB.out.size))
           clear tok hv7 hD7)
        | (go_at_call 19; refine (C2.out _ HL7.out).mono ?_; rintro e w8 ⟨rfl, hb8⟩
           have HL8 := Lib.hid (HL7.out.below hb8)
           have HB8 := Lib.hid (HB7.out.trans (hb8.mono HB7.out.size))
           clear hb8)
        | (go_at_call 17; have _t := tok8; refine (lose_any (w.heap.size + 1) w.heap.size q1 (due - 1) wait w8 HQ1.out HL8.out).mono ?_; rintro e w9 ⟨v9, rfl, hv9, hD9⟩
           have HB9 := Lib.hid (HB8.out.trans (hD9.2.to_below (fun i hi => by simp at hi; omega) HB8.out.size))
           rw [HA.out] at hv9 hD9
           have HL9 := Lib.hid hD9.1
           obtain ⟨va9, vc9, rfl, _, _⟩ := hv9.slice
           clear tok8)
        | (go_at_call 17; have _t := tok9; refine (lose_any (w.heap.size + 1) w.heap.size q1 due wait w9 HQ1.out HL9.out).mono ?_; rintro e w10 ⟨v10, rfl, hv10, hD10⟩
           have HB10 := Lib.hid (HB9.out.trans (hD10.2.to_below (fun i hi => by simp at hi; omega) HB9.out.size))
           have hp := HT.out
           have t9 : decide (((loseE q1 due wait).2.length : Int) > 0) = true := decide_eq_true (by omega)
           have t9' : decide ((loseE q1 due wait).2.length > 0) = true := decide_eq_true hp
           obtain ⟨va10, vc10, rfl, _, _⟩ := hv10.slice
           clear tok9))
        go_ret
        exact ⟨rfl, HB10.out⟩
      · have e3 : decide (due > 0) = false := decide_eq_false d3
        clear d1 d2 d3 DG DA DT DN
        go_wp2_with (first
        | (go_at_call 17; have _t := tok; refine C1.out.mono ?_; rintro e w7 ⟨v7, rfl, hv7, hD7⟩
           have HL7 := Lib.hid hD7.1
           have HB7 := Lib.hid (HB.out.trans (hD7.2.to_below (fun i hi => by simp at hi; omega) HB.out.size))
           clear tok hv7 hD7)
        | (go_at_call 19; refine (C2.out _ HL7.out).mono ?_; rintro e w8 ⟨rfl, hb8⟩
           have HL8 := Lib.hid (HL7.out.below hb8)
           have HB8 := Lib.hid (HB7.out.trans (hb8.mono HB7.out.size))
           clear hb8)
        | (go_at_call 17; have _t := tok8; refine (lose_any (w.heap.size + 1) w.heap.size q1 due wait w8 HQ1.out HL8.out).mono ?_; rintro e w9 ⟨v9, rfl, hv9, hD9⟩
           have HB9 := Lib.hid (HB8.out.trans (hD9.2.to_below (fun i hi => by simp at hi; omega) HB8.out.size))
           have hp := HT.out
           have t9 : decide (((loseE q1 due wait).2.length : Int) > 0) = true := decide_eq_true (by omega)
           have t9' : decide ((loseE q1 due wait).2.length > 0) = true := decide_eq_true hp
           obtain ⟨va9, vc9, rfl, _, _⟩ := hv9.slice
           clear tok8))
        go_ret
        exact ⟨rfl, HB9.out⟩
set_option maxRecDepth 100000 in
set_option maxHeartbeats 1600000 in
theorem due_none (a : Option Addr) (c : Nat) (wait : Int) (w : World) : Calls Try.prog 6 #[.slice a 0 c, .int .i64 wait] w (Yes w) := by
  go_enter Try.func6, Try.ntmps6
  go_wp2_with (first
    | (go_at_call 8; refine (new_any _).mono ?_; rintro e w1 ⟨rfl, hL1, hb1⟩
       have HL1 := Lib.hid hL1
       have HB1 := Lib.hid hb1
       clear hL1 hb1)
    | (go_at_call 10; refine (alive_any _).mono ?_; rintro e w2 ⟨rfl, hb2⟩
       have HL2 := Lib.hid (HL1.out.below hb2)
       have HB2 := Lib.hid (HB1.out.trans (hb2.mono HB1.out.size))
       clear hb2))
  refine wp_loop_rounds 1 ?_
  rw [rounds_succ]
  obtain ⟨q, hq0⟩ : ∃ q : Lg, q = fresh := ⟨_, rfl⟩
  rw [← hq0] at HL2
  have hq := fresh_ok
  rw [← hq0] at hq
  clear hq0
  have HQ := Lib.hid (hq)
  have HQ1 := Lib.hid (lose_ok HQ.out 0 1099511627776)
  have H3 := Lib.hid (lose0 (q := q))
  have C1 := Lib.hid (lose_any (w.heap.size + 1) w.heap.size q 0 1099511627776 w2 HQ.out HL2.out)
  generalize (loseE q 0 1099511627776).1 = q1 at HQ1 H3 C1
  generalize (loseE q 0 1099511627776).2 = l1 at C1
  have DN := Lib.hid (fun h => due_neg HQ1.out (wait := wait) h)
  have DA := Lib.hid (fun h1 h2 => due_ahead HQ1.out H3.out (wait := wait) h1 h2)
  have DT := Lib.hid (fun h1 h2 => due_at HQ1.out (wait := wait) h1 h2)
  have DG : dueE q1 wait = -1 ∨ 0 ≤ dueE q1 wait := by
    cases hw : waitB wait
    · exact .inl (due_bad hw)
    · exact due_ge (due_is HQ1.out hw)
  have C2 := Lib.hid (fun W hL => due_any (w.heap.size + 1) w.heap.size q1 wait W HQ1.out hL)
  generalize dueE q1 wait = due at DN DA DT DG C2
  clear H3
  have tok : True := trivial
  have tok8 : True := trivial
  have tok9 : True := trivial
  by_cases d1 : due < 0
  · have e1 : decide (due < 0) = true := decide_eq_true d1
    have HE := Lib.hid (DN.out d1)
    clear d1 DG DA DT DN
    go_wp2_with (first
    | (go_at_call 17; have _t := tok; refine C1.out.mono ?_; rintro e w7 ⟨v7, rfl, hv7, hD7⟩
       have HL7 := Lib.hid hD7.1
       have HB7 := Lib.hid (HB2.out.trans (hD7.2.to_below (fun i hi => by simp at hi; omega) HB2.out.size))
       clear tok hv7 hD7)
    | (go_at_call 19; refine (C2.out _ HL7.out).mono ?_; rintro e w8 ⟨rfl, hb8⟩
       have HL8 := Lib.hid (HL7.out.below hb8)
       have HB8 := Lib.hid (HB7.out.trans (hb8.mono HB7.out.size))
       clear hb8)
    | (go_at_call 17; have _t := tok8; refine (lose_any (w.heap.size + 1) w.heap.size q1 1099511627776 wait w8 HQ1.out HL8.out).mono ?_; rintro e w9 ⟨v9, rfl, hv9, hD9⟩
       have HB9 := Lib.hid (HB8.out.trans (hD9.2.to_below (fun i hi => by simp at hi; omega) HB8.out.size))
       rw [HE.out] at hv9
       obtain ⟨va9, vc9, rfl, _, _⟩ := hv9.slice
       clear tok8))
    go_ret
    exact ⟨rfl, HB9.out⟩
  have e1 : decide (due < 0) = false := decide_eq_false d1
  by_cases d2 : due > 1099511627776
  · have e2 : decide (due > 1099511627776) = true := decide_eq_true d2
    clear d1 d2 DG DA DT DN
    go_wp2_with (first
    | (go_at_call 17; have _t := tok; refine C1.out.mono ?_; rintro e w7 ⟨v7, rfl, hv7, hD7⟩
       have HL7 := Lib.hid hD7.1
       have HB7 := Lib.hid (HB2.out.trans (hD7.2.to_below (fun i hi => by simp at hi; omega) HB2.out.size))
       clear tok hv7 hD7)
    | (go_at_call 19; refine (C2.out _ HL7.out).mono ?_; rintro e w8 ⟨rfl, hb8⟩
       have HL8 := Lib.hid (HL7.out.below hb8)
       have HB8 := Lib.hid (HB7.out.trans (hb8.mono HB7.out.size))
       clear hb8))
    go_ret
    exact ⟨rfl, HB8.out⟩
  have e2 : decide (due > 1099511627776) = false := decide_eq_false d2
  have HT := Lib.hid (DT.out (by omega) (by omega))
  by_cases d3 : due > 0
  · have e3 : decide (due > 0) = true := decide_eq_true d3
    have hw9 : IntKind.i64.wrap (due - 1) = due - 1 := wraps_i64' _ (by omega) (by omega)
    have HA := Lib.hid (DA.out (by omega) (by omega))
    clear d1 d2 d3 DG DA DT DN
    go_wp2_with (first
    | (go_at_call 17; have _t := tok; refine C1.out.mono ?_; rintro e w7 ⟨v7, rfl, hv7, hD7⟩
       have HL7 := Lib.hid hD7.1
       have HB7 := Lib.hid (HB2.out.trans (hD7.2.to_below (fun i hi => by simp at hi; omega) HB2.out.size))
       clear tok hv7 hD7)
    | (go_at_call 19; refine (C2.out _ HL7.out).mono ?_; rintro e w8 ⟨rfl, hb8⟩
       have HL8 := Lib.hid (HL7.out.below hb8)
       have HB8 := Lib.hid (HB7.out.trans (hb8.mono HB7.out.size))
       clear hb8)
    | (go_at_call 17; have _t := tok8; refine (lose_any (w.heap.size + 1) w.heap.size q1 (due - 1) wait w8 HQ1.out HL8.out).mono ?_; rintro e w9 ⟨v9, rfl, hv9, hD9⟩
       have HB9 := Lib.hid (HB8.out.trans (hD9.2.to_below (fun i hi => by simp at hi; omega) HB8.out.size))
       rw [HA.out] at hv9 hD9
       have HL9 := Lib.hid hD9.1
       obtain ⟨va9, vc9, rfl, _, _⟩ := hv9.slice
       clear tok8)
    | (go_at_call 17; have _t := tok9; refine (lose_any (w.heap.size + 1) w.heap.size q1 due wait w9 HQ1.out HL9.out).mono ?_; rintro e w10 ⟨v10, rfl, hv10, hD10⟩
       have HB10 := Lib.hid (HB9.out.trans (hD10.2.to_below (fun i hi => by simp at hi; omega) HB9.out.size))
       have hp := HT.out
       have t9 : decide (((loseE q1 due wait).2.length : Int) > 0) = true := decide_eq_true (by omega)
       have t9' : decide ((loseE q1 due wait).2.length > 0) = true := decide_eq_true hp
       obtain ⟨va10, vc10, rfl, _, _⟩ := hv10.slice
       clear tok9))
    go_ret
    exact ⟨rfl, HB10.out⟩
  · have e3 : decide (due > 0) = false := decide_eq_false d3
    clear d1 d2 d3 DG DA DT DN
    go_wp2_with (first
    | (go_at_call 17; have _t := tok; refine C1.out.mono ?_; rintro e w7 ⟨v7, rfl, hv7, hD7⟩
       have HL7 := Lib.hid hD7.1
       have HB7 := Lib.hid (HB2.out.trans (hD7.2.to_below (fun i hi => by simp at hi; omega) HB2.out.size))
       clear tok hv7 hD7)
    | (go_at_call 19; refine (C2.out _ HL7.out).mono ?_; rintro e w8 ⟨rfl, hb8⟩
       have HL8 := Lib.hid (HL7.out.below hb8)
       have HB8 := Lib.hid (HB7.out.trans (hb8.mono HB7.out.size))
       clear hb8)
    | (go_at_call 17; have _t := tok8; refine (lose_any (w.heap.size + 1) w.heap.size q1 due wait w8 HQ1.out HL8.out).mono ?_; rintro e w9 ⟨v9, rfl, hv9, hD9⟩
       have HB9 := Lib.hid (HB8.out.trans (hD9.2.to_below (fun i hi => by simp at hi; omega) HB8.out.size))
       have hp := HT.out
       have t9 : decide (((loseE q1 due wait).2.length : Int) > 0) = true := decide_eq_true (by omega)
       have t9' : decide ((loseE q1 due wait).2.length > 0) = true := decide_eq_true hp
       obtain ⟨va9, vc9, rfl, _, _⟩ := hv9.slice
       clear tok8))
    go_ret
    exact ⟨rfl, HB9.out⟩
/-- P8.7 -/
theorem due_walk (v : Value) (l : List ActV) (wait : Int) (w : World) (hR : RdA w v l) (hok : ∀ x ∈ l, ActOk w x) : Calls Try.prog 6 #[v, .int .i64 wait] w (Yes w) := by
  rcases hR.form with ⟨_, a, c, rfl⟩ | ⟨b, o, c, rfl, hb, hc, hm⟩
  · exact due_none a c wait w
  · exact due_some b o c l wait w hR hb hc hm hok
end Go.Proofs.Ytobalbaieakcmaa
