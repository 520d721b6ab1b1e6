/- Walks of layer 11: the law Grows. -/
import Derived.Test.YtnjgnbdloeadgaaPiJ
set_option maxRecDepth 100000
namespace Go.Proofs.Ytnjgnbdloeadgaa
open Go.RowKit

theorem size_up (k : Int) {n m : Int} (h : n ≤ m) : sizeP k n = 0 ∨ sizeP k m = 0 ∨ sizeP k n ≤ sizeP k m := by
  unfold sizeP
  split
  · split
    · have := sizeN_mono (w := k) h
      omega
    · omega
  · omega
theorem size_wider (k n : Int) : sizeP k n = 0 ∨ sizeP (IntKind.i64.wrap (k + 1)) n = 0 ∨ sizeP (IntKind.i64.wrap (k + 1)) n ≤ sizeP k n := by
  by_cases hk : IsW k
  · have e : IntKind.i64.wrap (k + 1) = k + 1 := by
      have := hk.1; have := hk.2
      exact wrap_small _ (by omega) (by omega)
    rw [e]
    by_cases h1 : OkS (k + 1) n
    · have := sizeN_wider (n := n) hk h1.1
      unfold sizeP
      rw [if_pos h1]
      split <;> omega
    · exact .inr (.inl (if_neg h1))
  · exact .inl (if_neg fun h => hk h.1)

set_option maxHeartbeats 3200000 in
theorem pintGrows_core (n m k lo hi : Int) (w : World) (hlo : (m < n ∧ lo = m) ∨ (¬ m < n ∧ lo = n)) (hhi : (n < m ∧ hi = m) ∨ (¬ n < m ∧ hi = n)) (h : lo ≤ hi) :
    Calls Try.prog 6 #[.int .i64 n, .int .i64 m, .int .i64 k] w (Yes w) := by
  obtain ⟨k1, hk1⟩ : ∃ k1, k1 = IntKind.i64.wrap (k + 1) := ⟨_, rfl⟩
  obtain ⟨a, ha⟩ : ∃ a, a = sizeP k lo := ⟨_, rfl⟩
  obtain ⟨b, hb⟩ : ∃ b, b = sizeP k hi := ⟨_, rfl⟩
  obtain ⟨c, hc⟩ : ∃ c, c = sizeP k1 lo := ⟨_, rfl⟩
  have r1 := size_up k h
  have r2 := size_wider k lo
  rw [← hk1, ← hc, ← ha] at r2
  rw [← ha, ← hb] at r1
  have SA : Hid (∀ W : World, Calls Try.prog 11 #[.int .i64 k, .int .i64 lo] W fun e w' => e = .returned (.int .i64 a) ∧ W = w') := fun W => by have := size_any k lo W; rw [← ha] at this; exact this
  have SB : Hid (∀ W : World, Calls Try.prog 11 #[.int .i64 k, .int .i64 hi] W fun e w' => e = .returned (.int .i64 b) ∧ W = w') := fun W => by have := size_any k hi W; rw [← hb] at this; exact this
  have SC : Hid (∀ W : World, Calls Try.prog 11 #[.int .i64 k1, .int .i64 lo] W fun e w' => e = .returned (.int .i64 c) ∧ W = w') := fun W => by have := size_any k1 lo W; rw [← hc] at this; exact this
  have R1 := Lib.hid r1
  have R2 := Lib.hid r2
  clear ha hb hc r1 r2 h
  rcases hlo with ⟨q1, rfl⟩ | ⟨q1, rfl⟩
  all_goals
    rcases hhi with ⟨q2, rfl⟩ | ⟨q2, rfl⟩
  all_goals
    have hw := hk1.symm
    clear hk1
    go_enter Try.func6, Try.ntmps6
    go_wp2_with fail
    first
      | (exfalso; omega)
      | (refine (SA.out _).mono ?_
         rintro e wn ⟨rfl, rfl⟩
         go_wp2_with fail
         refine (SB.out _).mono ?_
         rintro e wn ⟨rfl, rfl⟩
         go_wp2_with fail
         refine (SC.out _).mono ?_
         rintro e wn ⟨rfl, rfl⟩
         go_wp2_with (go_at_call 13; refine (alive_any _).mono ?_; rintro e wn ⟨rfl, bn⟩)
         all_goals first
           | (exfalso; have := R1.out; have := R2.out; omega)
           | (go_ret
              exact ⟨rfl, bn⟩))
theorem pintGrows_walk (n m k : Int) (w : World) : Calls Try.prog 6 #[.int .i64 n, .int .i64 m, .int .i64 k] w (Yes w) := by
  by_cases h1 : m < n
  · exact pintGrows_core n m k m n w (.inl ⟨h1, rfl⟩) (.inr ⟨by omega, rfl⟩) (by omega)
  · by_cases h2 : n < m
    · exact pintGrows_core n m k n m w (.inr ⟨h1, rfl⟩) (.inl ⟨h2, rfl⟩) (by omega)
    · exact pintGrows_core n m k n n w (.inr ⟨h1, rfl⟩) (.inr ⟨h2, rfl⟩) (by omega)
end Go.Proofs.Ytnjgnbdloeadgaa
