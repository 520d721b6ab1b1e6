/- Walks of layer 6: the law Samples. -/
import Derived.Test.YtfcojlnbocncpaaRtH
import Derived.Deep.RegionHeld3
set_option linter.unusedSimpArgs false
set_option linter.unusedVariables false
namespace Go.Proofs.Ytfcojlnbocncpaa
open Go.RowKit

theorem sampleE_err (q : St) (n d : Int) : (sampleE q n d).2 = 0 ∨ (sampleE q n d).2 = 1 := by
  unfold sampleE
  split
  · split
    · split
      · exact .inl rfl
      · exact .inl rfl
    · exact .inr rfl
  · exact .inr rfl

set_option maxHeartbeats 3200000 in
theorem rttSamples_walk (h : Bool) (l s v t n d : Int) (w : World) :
    Calls Try.prog 3 #[.agg #[.bool h, .int .i64 l, .int .i64 s, .int .i64 v, .int .i64 t], .int .i64 n, .int .i64 d] w (Yes w) := by
  obtain ⟨⟨⟨h', l', s', v', t'⟩, e'⟩, hp⟩ : ∃ r, sampleE ⟨h, l, s, v, t⟩ n d = r := ⟨_, rfl⟩
  have he := sampleE_err ⟨h, l, s, v, t⟩ n d
  rw [hp] at he
  simp only at he
  have hw1 : IntKind.i64.wrap e' = e' := by rcases he with rfl | rfl <;> decide
  cases hr : rightB ⟨h, l, s, v, t⟩
  · have P1 := Lib.hid (fun w => sample_eq hp w)
    have P2 := Lib.hid (fun w => rsample_eq hp w)
    have R1 := Lib.hid (fun w => right_b h l s v t _ hr w)
    have R2 := Lib.hid (fun w => rright_b h l s v t _ hr w)
    have hg := rguard_not
    have q23 := fun w => reql_any h' h' l' s' v' t' l' s' v' t' w
    rw [same_self] at q23
    have HA := Lib.hid (held_last h l s v t 23 w)
    have BB := Lib.hid ((Below.refl w.heap.size w).alloc (Nat.le_refl _) (.cells #[.bool h, .int .i64 l, .int .i64 s, .int .i64 v, .int .i64 t] 23))
    clear hp hr he
    go_enter Try.func3, Try.ntmps3
    go_wp2_with fail
    refine (theirs_any h l s v t _).mono ?_
    rintro e wn ⟨rfl, bn⟩
    have HA := Lib.hid (HA.out.below bn)
    have BB := Lib.hid (BB.out.trans (bn.mono BB.out.size))
    clear bn
    obtain ⟨a0, a1, a2, a3, a4⟩ := HA.out.facts
    go_wp2_with fail
    refine (P1.out _).mono ?_
    rintro e w2 ⟨rfl, bn⟩
    have HA := Lib.hid (HA.out.below bn)
    have BB := Lib.hid (BB.out.trans (bn.mono BB.out.size))
    clear bn P1
    have b3 := (Below.refl w2.heap.size w2).alloc (Nat.le_refl _) (.cells #[.bool h', .int .i64 l', .int .i64 s', .int .i64 v', .int .i64 t'] 24)
    have HA := Lib.hid (HA.out.below b3)
    have HB := Lib.hid (held_last h' l' s' v' t' 24 w2)
    have BB := Lib.hid (BB.out.trans (b3.mono BB.out.size))
    clear b3
    obtain ⟨a0, a1, a2, a3, a4⟩ := HA.out.facts
    go_wp2_with fail
    refine (P2.out _).mono ?_
    generalize w2.alloc (.cells #[.bool h', .int .i64 l', .int .i64 s', .int .i64 v', .int .i64 t'] 24) = w3 at HA HB BB ⊢
    generalize w2.heap.size = p at HB ⊢
    rintro e w4 ⟨rfl, bn⟩
    have HA := Lib.hid (HA.out.below bn)
    have HB := Lib.hid (HB.out.below bn)
    have BB := Lib.hid (BB.out.trans (bn.mono BB.out.size))
    clear bn P2
    have b3 := (Below.refl w4.heap.size w4).alloc (Nat.le_refl _) (.cells #[.bool h', .int .i64 l', .int .i64 s', .int .i64 v', .int .i64 t'] 23)
    have HA := Lib.hid (HA.out.below b3)
    have HB := Lib.hid (HB.out.below b3)
    have HC := Lib.hid (held_last h' l' s' v' t' 23 w4)
    have BB := Lib.hid (BB.out.trans (b3.mono BB.out.size))
    clear b3
    go_wp2_with fail
    generalize w4.alloc (.cells #[.bool h', .int .i64 l', .int .i64 s', .int .i64 v', .int .i64 t'] 23) = w5 at HA HB HC BB ⊢
    generalize w4.heap.size = q at HC ⊢
    have HA : Hid (Held w.heap.size h l s v t w5.drew) := HA
    have HB : Hid (Held p h' l' s' v' t' w5.drew) := HB
    have HC : Hid (Held q h' l' s' v' t' w5.drew) := HC
    have BB := Lib.hid (BB.out.drew)
    obtain ⟨a0, a1, a2, a3, a4⟩ := HA.out.facts
    obtain ⟨b0, b1, b2, b3, b4⟩ := HB.out.facts
    obtain ⟨c0, c1, c2, c3, c4⟩ := HC.out.facts
    go_region_held3 (fun w' => w'.cell? ⟨w.heap.size, 0, none⟩ = some (.bool h) ∧ w'.cell? ⟨w.heap.size, 1, none⟩ = some (.int .i64 l) ∧ w'.cell? ⟨w.heap.size, 2, none⟩ = some (.int .i64 s) ∧ w'.cell? ⟨w.heap.size, 3, none⟩ = some (.int .i64 v) ∧ w'.cell? ⟨w.heap.size, 4, none⟩ = some (.int .i64 t) ∧ w'.cell? ⟨p, 0, none⟩ = some (.bool h') ∧ w'.cell? ⟨p, 1, none⟩ = some (.int .i64 l') ∧ w'.cell? ⟨p, 2, none⟩ = some (.int .i64 s') ∧ w'.cell? ⟨p, 3, none⟩ = some (.int .i64 v') ∧ w'.cell? ⟨p, 4, none⟩ = some (.int .i64 t') ∧ w'.cell? ⟨q, 0, none⟩ = some (.bool h') ∧ w'.cell? ⟨q, 1, none⟩ = some (.int .i64 l') ∧ w'.cell? ⟨q, 2, none⟩ = some (.int .i64 s') ∧ w'.cell? ⟨q, 3, none⟩ = some (.int .i64 v') ∧ w'.cell? ⟨q, 4, none⟩ = some (.int .i64 t'))
      (first
        | (exact ⟨a0, a1, a2, a3, a4, b0, b1, b2, b3, b4, c0, c1, c2, c3, c4⟩))
      (first
        | (go_at_call 12; refine (ours_any h' l' s' v' t' _).mono ?_; rintro e wn ⟨rfl, bn⟩; have HA := Lib.hid (HA.out.below bn); have HB := Lib.hid (HB.out.below bn); have HC := Lib.hid (HC.out.below bn); have BB := Lib.hid (BB.out.trans (bn.mono BB.out.size)); clear bn; obtain ⟨a0, a1, a2, a3, a4⟩ := HA.out.facts; obtain ⟨b0, b1, b2, b3, b4⟩ := HB.out.facts; obtain ⟨c0, c1, c2, c3, c4⟩ := HC.out.facts)
        | (go_at_call 10; refine (theirs_any h l s v t _).mono ?_; rintro e wn ⟨rfl, bn⟩; have HA := Lib.hid (HA.out.below bn); have HB := Lib.hid (HB.out.below bn); have HC := Lib.hid (HC.out.below bn); have BB := Lib.hid (BB.out.trans (bn.mono BB.out.size)); clear bn; obtain ⟨a0, a1, a2, a3, a4⟩ := HA.out.facts; obtain ⟨b0, b1, b2, b3, b4⟩ := HB.out.facts; obtain ⟨c0, c1, c2, c3, c4⟩ := HC.out.facts)
        | (go_at_call 13; refine (R1.out _).mono ?_; rintro e wn ⟨rfl, bn⟩; have HA := Lib.hid (HA.out.below bn); have HB := Lib.hid (HB.out.below bn); have HC := Lib.hid (HC.out.below bn); have BB := Lib.hid (BB.out.trans (bn.mono BB.out.size)); clear bn; obtain ⟨a0, a1, a2, a3, a4⟩ := HA.out.facts; obtain ⟨b0, b1, b2, b3, b4⟩ := HB.out.facts; obtain ⟨c0, c1, c2, c3, c4⟩ := HC.out.facts)
        | (go_at_call 14; refine (R2.out _).mono ?_; rintro e wn ⟨rfl, bn⟩; have HA := Lib.hid (HA.out.below bn); have HB := Lib.hid (HB.out.below bn); have HC := Lib.hid (HC.out.below bn); have BB := Lib.hid (BB.out.trans (bn.mono BB.out.size)); clear bn; obtain ⟨a0, a1, a2, a3, a4⟩ := HA.out.facts; obtain ⟨b0, b1, b2, b3, b4⟩ := HB.out.facts; obtain ⟨c0, c1, c2, c3, c4⟩ := HC.out.facts)
        | (go_at_call 15; refine (alive_any _).mono ?_; rintro e wn ⟨rfl, bn⟩; have HA := Lib.hid (HA.out.below bn); have HB := Lib.hid (HB.out.below bn); have HC := Lib.hid (HC.out.below bn); have BB := Lib.hid (BB.out.trans (bn.mono BB.out.size)); clear bn; obtain ⟨a0, a1, a2, a3, a4⟩ := HA.out.facts; obtain ⟨b0, b1, b2, b3, b4⟩ := HB.out.facts; obtain ⟨c0, c1, c2, c3, c4⟩ := HC.out.facts))
    all_goals
      go_wp2
      go_ret
      exact ⟨rfl, BB.out⟩
  · have P1 := Lib.hid (fun w => sample_eq hp w)
    have P2 := Lib.hid (fun w => rsample_eq hp w)
    have R1 := Lib.hid (fun w => right_b h l s v t _ hr w)
    have R2 := Lib.hid (fun w => rright_b h l s v t _ hr w)
    have hg := rguard_not
    have q23 := fun w => reql_any h' h' l' s' v' t' l' s' v' t' w
    rw [same_self] at q23
    have HA := Lib.hid (held_last h l s v t 23 w)
    have BB := Lib.hid ((Below.refl w.heap.size w).alloc (Nat.le_refl _) (.cells #[.bool h, .int .i64 l, .int .i64 s, .int .i64 v, .int .i64 t] 23))
    clear hp hr he
    go_enter Try.func3, Try.ntmps3
    go_wp2_with fail
    refine (theirs_any h l s v t _).mono ?_
    rintro e wn ⟨rfl, bn⟩
    have HA := Lib.hid (HA.out.below bn)
    have BB := Lib.hid (BB.out.trans (bn.mono BB.out.size))
    clear bn
    obtain ⟨a0, a1, a2, a3, a4⟩ := HA.out.facts
    go_wp2_with fail
    refine (P1.out _).mono ?_
    rintro e w2 ⟨rfl, bn⟩
    have HA := Lib.hid (HA.out.below bn)
    have BB := Lib.hid (BB.out.trans (bn.mono BB.out.size))
    clear bn P1
    have b3 := (Below.refl w2.heap.size w2).alloc (Nat.le_refl _) (.cells #[.bool h', .int .i64 l', .int .i64 s', .int .i64 v', .int .i64 t'] 24)
    have HA := Lib.hid (HA.out.below b3)
    have HB := Lib.hid (held_last h' l' s' v' t' 24 w2)
    have BB := Lib.hid (BB.out.trans (b3.mono BB.out.size))
    clear b3
    obtain ⟨a0, a1, a2, a3, a4⟩ := HA.out.facts
    go_wp2_with fail
    refine (P2.out _).mono ?_
    generalize w2.alloc (.cells #[.bool h', .int .i64 l', .int .i64 s', .int .i64 v', .int .i64 t'] 24) = w3 at HA HB BB ⊢
    generalize w2.heap.size = p at HB ⊢
    rintro e w4 ⟨rfl, bn⟩
    have HA := Lib.hid (HA.out.below bn)
    have HB := Lib.hid (HB.out.below bn)
    have BB := Lib.hid (BB.out.trans (bn.mono BB.out.size))
    clear bn P2
    have b3 := (Below.refl w4.heap.size w4).alloc (Nat.le_refl _) (.cells #[.bool h', .int .i64 l', .int .i64 s', .int .i64 v', .int .i64 t'] 23)
    have HA := Lib.hid (HA.out.below b3)
    have HB := Lib.hid (HB.out.below b3)
    have HC := Lib.hid (held_last h' l' s' v' t' 23 w4)
    have BB := Lib.hid (BB.out.trans (b3.mono BB.out.size))
    clear b3
    go_wp2_with fail
    generalize w4.alloc (.cells #[.bool h', .int .i64 l', .int .i64 s', .int .i64 v', .int .i64 t'] 23) = w5 at HA HB HC BB ⊢
    generalize w4.heap.size = q at HC ⊢
    have HA : Hid (Held w.heap.size h l s v t w5.drew) := HA
    have HB : Hid (Held p h' l' s' v' t' w5.drew) := HB
    have HC : Hid (Held q h' l' s' v' t' w5.drew) := HC
    have BB := Lib.hid (BB.out.drew)
    obtain ⟨a0, a1, a2, a3, a4⟩ := HA.out.facts
    obtain ⟨b0, b1, b2, b3, b4⟩ := HB.out.facts
    obtain ⟨c0, c1, c2, c3, c4⟩ := HC.out.facts
    go_region_held3 (fun w' => w'.cell? ⟨w.heap.size, 0, none⟩ = some (.bool h) ∧ w'.cell? ⟨w.heap.size, 1, none⟩ = some (.int .i64 l) ∧ w'.cell? ⟨w.heap.size, 2, none⟩ = some (.int .i64 s) ∧ w'.cell? ⟨w.heap.size, 3, none⟩ = some (.int .i64 v) ∧ w'.cell? ⟨w.heap.size, 4, none⟩ = some (.int .i64 t) ∧ w'.cell? ⟨p, 0, none⟩ = some (.bool h') ∧ w'.cell? ⟨p, 1, none⟩ = some (.int .i64 l') ∧ w'.cell? ⟨p, 2, none⟩ = some (.int .i64 s') ∧ w'.cell? ⟨p, 3, none⟩ = some (.int .i64 v') ∧ w'.cell? ⟨p, 4, none⟩ = some (.int .i64 t') ∧ w'.cell? ⟨q, 0, none⟩ = some (.bool h') ∧ w'.cell? ⟨q, 1, none⟩ = some (.int .i64 l') ∧ w'.cell? ⟨q, 2, none⟩ = some (.int .i64 s') ∧ w'.cell? ⟨q, 3, none⟩ = some (.int .i64 v') ∧ w'.cell? ⟨q, 4, none⟩ = some (.int .i64 t'))
      (first
        | (exact ⟨a0, a1, a2, a3, a4, b0, b1, b2, b3, b4, c0, c1, c2, c3, c4⟩))
      (first
        | (go_at_call 12; refine (ours_any h' l' s' v' t' _).mono ?_; rintro e wn ⟨rfl, bn⟩; have HA := Lib.hid (HA.out.below bn); have HB := Lib.hid (HB.out.below bn); have HC := Lib.hid (HC.out.below bn); have BB := Lib.hid (BB.out.trans (bn.mono BB.out.size)); clear bn; obtain ⟨a0, a1, a2, a3, a4⟩ := HA.out.facts; obtain ⟨b0, b1, b2, b3, b4⟩ := HB.out.facts; obtain ⟨c0, c1, c2, c3, c4⟩ := HC.out.facts)
        | (go_at_call 10; refine (theirs_any h l s v t _).mono ?_; rintro e wn ⟨rfl, bn⟩; have HA := Lib.hid (HA.out.below bn); have HB := Lib.hid (HB.out.below bn); have HC := Lib.hid (HC.out.below bn); have BB := Lib.hid (BB.out.trans (bn.mono BB.out.size)); clear bn; obtain ⟨a0, a1, a2, a3, a4⟩ := HA.out.facts; obtain ⟨b0, b1, b2, b3, b4⟩ := HB.out.facts; obtain ⟨c0, c1, c2, c3, c4⟩ := HC.out.facts)
        | (go_at_call 13; refine (R1.out _).mono ?_; rintro e wn ⟨rfl, bn⟩; have HA := Lib.hid (HA.out.below bn); have HB := Lib.hid (HB.out.below bn); have HC := Lib.hid (HC.out.below bn); have BB := Lib.hid (BB.out.trans (bn.mono BB.out.size)); clear bn; obtain ⟨a0, a1, a2, a3, a4⟩ := HA.out.facts; obtain ⟨b0, b1, b2, b3, b4⟩ := HB.out.facts; obtain ⟨c0, c1, c2, c3, c4⟩ := HC.out.facts)
        | (go_at_call 14; refine (R2.out _).mono ?_; rintro e wn ⟨rfl, bn⟩; have HA := Lib.hid (HA.out.below bn); have HB := Lib.hid (HB.out.below bn); have HC := Lib.hid (HC.out.below bn); have BB := Lib.hid (BB.out.trans (bn.mono BB.out.size)); clear bn; obtain ⟨a0, a1, a2, a3, a4⟩ := HA.out.facts; obtain ⟨b0, b1, b2, b3, b4⟩ := HB.out.facts; obtain ⟨c0, c1, c2, c3, c4⟩ := HC.out.facts)
        | (go_at_call 15; refine (alive_any _).mono ?_; rintro e wn ⟨rfl, bn⟩; have HA := Lib.hid (HA.out.below bn); have HB := Lib.hid (HB.out.below bn); have HC := Lib.hid (HC.out.below bn); have BB := Lib.hid (BB.out.trans (bn.mono BB.out.size)); clear bn; obtain ⟨a0, a1, a2, a3, a4⟩ := HA.out.facts; obtain ⟨b0, b1, b2, b3, b4⟩ := HB.out.facts; obtain ⟨c0, c1, c2, c3, c4⟩ := HC.out.facts))
    all_goals
      go_wp2
      go_ret
      exact ⟨rfl, BB.out⟩
end Go.Proofs.Ytfcojlnbocncpaa
