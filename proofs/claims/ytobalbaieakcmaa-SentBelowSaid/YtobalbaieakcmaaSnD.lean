/- Walks of layer 8: Sent, Drop. -/
import Derived.Test.YtobalbaieakcmaaSnT
set_option linter.unusedSimpArgs false
set_option linter.unusedVariables false
namespace Go.Proofs.Ytobalbaieakcmaa
open Go.RowKit Go.Maps

/-- what a call of a ledger's does to the world -/
def Does (b mb : Nat) (q' : Lg) (w : World) (w' : World) : Prop := Led b mb q' w' ∧ Keep [b, mb] w w'

theorem send_split {n t s : Int} (h : sendB n t s = false) : withinB n 0 4611686018427387903 = false ∨ (withinB n 0 4611686018427387903 = true ∧ nowB t = false) ∨ (withinB n 0 4611686018427387903 = true ∧ nowB t = true ∧ withinB s 1 1200 = false) := by
  unfold sendB at h
  cases h1 : withinB n 0 4611686018427387903
  · exact .inl rfl
  · cases h2 : nowB t
    · exact .inr (.inl ⟨rfl, rfl⟩)
    · rw [h1, h2] at h
      exact .inr (.inr ⟨rfl, rfl, by simpa using h⟩)

theorem keep_set (b o : Nat) (w : World) (x : Value) : Keep [b] w (w.setCell ⟨b, o, none⟩ x) :=
  ⟨rfl, rfl, rfl, by simp [World.setCell], fun i hi hn => by
    have : b ≠ i := fun e => hn (by simp [e])
    simp [World.setCell, Array.getElem?_modify, this]⟩
theorem keep_set2 (b : Nat) (w : World) (x y : Value) : Keep [b] w ((w.setCell ⟨b, 1, none⟩ x).setCell ⟨b, 2, none⟩ y) := (keep_set b 1 w x).trans (keep_set b 2 _ y) (fun i hi => .inl hi)
set_option maxRecDepth 100000 in
set_option maxHeartbeats 1600000 in
theorem sent_any (b mb : Nat) (q : Lg) (n t s : Int) (w : World) (hq : Ok q) (hL : Led b mb q w) :
    Calls Try.prog 11 #[.pointer (some ⟨b, 0, none⟩), .int .i64 n, .int .i64 t, .int .i64 s] w fun e w' => e = .returned (.int .i64 (sentE q n t s).2) ∧ Does b mb (sentE q n t s).1 w w' := by
  have HLed := Lib.hid hL
  have HRow := Lib.hid hL.row
  have HM := Lib.hid hL.map
  have hbm := hL.ne
  obtain ⟨c0, c1, c2, c3⟩ := hL.row.facts
  have km := hL.map.lt
  unfold sentE
  cases hs : sendB n t s
  · rw [if_pos rfl]
    have hw := send_split hs
    clear hL hs
    rcases hw with h1 | ⟨h1, h2⟩ | ⟨h1, h2, h3⟩
    · have H1 := Lib.hid h1
      clear h1
      go_enter Try.func11, Try.ntmps11
      go_wp2_with (first
        | (go_at_call 26; refine (made_any _ HRow.out).mono ?_; rintro e w2 ⟨rfl, rfl⟩)
        | (go_at_call 27; refine (within_b _ _ _ _ H1.out _).mono ?_; rintro e w2 ⟨rfl, rfl⟩))
      go_ret
      exact ⟨rfl, HLed.out, Keep.refl _ _⟩
    · have H1 := Lib.hid h1
      have H2 := Lib.hid h2
      clear h1 h2
      go_enter Try.func11, Try.ntmps11
      go_wp2_with (first
        | (go_at_call 26; refine (made_any _ HRow.out).mono ?_; rintro e w2 ⟨rfl, rfl⟩)
        | (go_at_call 27; refine (within_b _ _ _ _ H1.out _).mono ?_; rintro e w2 ⟨rfl, rfl⟩)
        | (go_at_call 28; refine (mayNow_b _ _ H2.out _).mono ?_; rintro e w2 ⟨rfl, rfl⟩))
      go_ret
      exact ⟨rfl, HLed.out, Keep.refl _ _⟩
    · have H1 := Lib.hid h1
      have H2 := Lib.hid h2
      have H3 := Lib.hid h3
      clear h1 h2 h3
      go_enter Try.func11, Try.ntmps11
      go_wp2_with (first
        | (go_at_call 26; refine (made_any _ HRow.out).mono ?_; rintro e w2 ⟨rfl, rfl⟩)
        | (go_at_call 27; refine (within_any _ _ _ _).mono ?_; rintro e w2 ⟨rfl, rfl⟩; first | rw [H1.out] | rw [H3.out])
        | (go_at_call 28; refine (mayNow_b _ _ H2.out _).mono ?_; rintro e w2 ⟨rfl, rfl⟩))
      go_ret
      exact ⟨rfl, HLed.out, Keep.refl _ _⟩
  · rw [if_neg (by decide)]
    have hw : (withinB n 0 4611686018427387903 = true ∧ nowB t = true) ∧ withinB s 1 1200 = true := by simpa only [sendB, Bool.and_eq_true] using hs
    have H1 := Lib.hid hw.1.1
    have H2 := Lib.hid hw.1.2
    have H3 := Lib.hid hw.2
    clear hw hs
    obtain ⟨l, last, time, big⟩ := q
    simp only at c0 c1 c2 c3 ⊢
    by_cases h4 : n ≤ last
    · rw [if_pos (.inl h4)]
      have e1 : decide (n ≤ last) = true := decide_eq_true h4
      clear h4 hL
      go_enter Try.func11, Try.ntmps11
      go_wp2_with (first
        | (go_at_call 26; refine (made_any _ HRow.out).mono ?_; rintro e w2 ⟨rfl, rfl⟩)
        | (go_at_call 27; refine (within_any _ _ _ _).mono ?_; rintro e w2 ⟨rfl, rfl⟩; first | rw [H1.out] | rw [H3.out])
        | (go_at_call 28; refine (mayNow_b _ _ H2.out _).mono ?_; rintro e w2 ⟨rfl, rfl⟩))
      go_ret
      exact ⟨rfl, HLed.out, Keep.refl _ _⟩
    have e1 : decide (n ≤ last) = false := decide_eq_false h4
    by_cases h5 : t < time
    · rw [if_pos (.inr h5)]
      have e2 : decide (t < time) = true := decide_eq_true h5
      clear h4 h5 hL
      go_enter Try.func11, Try.ntmps11
      go_wp2_with (first
        | (go_at_call 26; refine (made_any _ HRow.out).mono ?_; rintro e w2 ⟨rfl, rfl⟩)
        | (go_at_call 27; refine (within_any _ _ _ _).mono ?_; rintro e w2 ⟨rfl, rfl⟩; first | rw [H1.out] | rw [H3.out])
        | (go_at_call 28; refine (mayNow_b _ _ H2.out _).mono ?_; rintro e w2 ⟨rfl, rfl⟩))
      go_ret
      exact ⟨rfl, HLed.out, Keep.refl _ _⟩
    have e2 : decide (t < time) = false := decide_eq_false h5
    rw [if_neg (by rintro (h | h)
                   · exact h4 h
                   · exact h5 h)]
    by_cases h6 : 512 ≤ l.length
    · rw [if_pos h6]
      have e3 : decide ((l.length : Int) ≥ 512) = true := decide_eq_true (by omega)
      have e3' : decide (l.length ≥ 512) = true := decide_eq_true (by omega)
      clear h4 h5 h6 hL
      go_enter Try.func11, Try.ntmps11
      go_wp2_with (first
        | (go_at_call 26; refine (made_any _ HRow.out).mono ?_; rintro e w2 ⟨rfl, rfl⟩)
        | (go_at_call 27; refine (within_any _ _ _ _).mono ?_; rintro e w2 ⟨rfl, rfl⟩; first | rw [H1.out] | rw [H3.out])
        | (go_at_call 28; refine (mayNow_b _ _ H2.out _).mono ?_; rintro e w2 ⟨rfl, rfl⟩)
        | (at_len; refine wpList_len_pk _ rfl _ rfl mb l rfl HM.out ?_))
      go_ret
      exact ⟨rfl, HLed.out, Keep.refl _ _⟩
    have e3 : decide ((l.length : Int) ≥ 512) = false := decide_eq_false (by omega)
    have e3' : decide (l.length ≥ 512) = false := decide_eq_false (by omega)
    rw [if_neg h6]
    have hl : l.length ≤ 512 := by omega
    have HN : Hid (0 ≤ (⟨n, t, s⟩ : Pk).n ∧ (⟨n, t, s⟩ : Pk).n ≤ 4611686018427387903) := within_iff.1 H1.out
    have HUp : Hid (∀ p ∈ l, p.n < (⟨n, t, s⟩ : Pk).n) := fun p hp => by have := hq.each p hp; simp only at this ⊢; omega
    clear h4 h5 h6 hL hq
    go_enter Try.func11, Try.ntmps11
    go_wp2_with (first
      | (go_at_call 26; refine (made_any _ HRow.out).mono ?_; rintro e w2 ⟨rfl, rfl⟩)
      | (go_at_call 27; refine (within_any _ _ _ _).mono ?_; rintro e w2 ⟨rfl, rfl⟩; first | rw [H1.out] | rw [H3.out])
      | (go_at_call 28; refine (mayNow_b _ _ H2.out _).mono ?_; rintro e w2 ⟨rfl, rfl⟩)
      | (at_len; refine wpList_len_pk _ rfl _ rfl mb l rfl HM.out ?_)
      | (at_mapUpdate; refine wpList_put_pk _ rfl _ _ _ rfl mb l ⟨n, t, s⟩ rfl HM.out hl rfl rfl HN.out HUp.out ?_; intro w1 hM1 ht1
         have HT1 := Lib.hid ht1.grown
         have HM1 := Lib.hid hM1
         have HR1 := Lib.hid (HRow.out.grown HT1.out (by simpa using hbm))
         obtain ⟨g0, g1, g2, g3⟩ := HR1.out.facts
         obtain ⟨z0, z1, z2, z3⟩ := HR1.out.free
         clear hM1 ht1))
    go_ret
    have k := HR1.out.set n t
    refine ⟨rfl, ⟨k, ?_⟩, ?_⟩
    · refine HM1.out.block ?_
      have : b ≠ mb := hbm
      simp [World.setCell, Array.getElem?_modify, this]
    · exact (Keep.of_grown HT1.out (fun j hj => .inl (by cases hj; simp))).trans (keep_set2 b w1 _ _) (fun i hi => .inl (by simp at hi; simp [hi]))
end Go.Proofs.Ytobalbaieakcmaa
