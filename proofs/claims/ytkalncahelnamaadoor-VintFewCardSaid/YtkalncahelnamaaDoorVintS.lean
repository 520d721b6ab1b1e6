/- The walk of VintFew. -/
import Derived.Test.YtkalncahelnamaaDoorVintR
namespace Go.Proofs.YtkalncahelnamaaDoor
open Go.RowKit

theorem sizeI_le {n m : Int} (h : n ≤ m) (h0 : 0 ≤ n) (hm : fitsB m 8 = true) : sizeI n ≤ sizeI m := by
  have key : ∀ a, fitsB m a = true → fitsB n a = true := fun a ha => by
    have := fits_lt ha
    exact decide_eq_true ⟨h0, by omega⟩
  unfold sizeI
  by_cases a1 : fitsB m 1 = true
  · rw [if_pos (key 1 a1), if_pos a1]; decide
  · rw [if_neg a1]
    by_cases a2 : fitsB m 2 = true
    · rw [if_pos a2, if_pos (key 2 a2)]; split <;> decide
    · rw [if_neg a2]
      by_cases a4 : fitsB m 4 = true
      · rw [if_pos a4, if_pos (key 4 a4)]; split <;> (try split) <;> decide
      · rw [if_neg a4, if_pos hm, if_pos (key 8 hm)]; split <;> (try split) <;> (try split) <;> decide
theorem sizeI_small (n : Int) (a : Int) (ha : a = 1 ∨ a = 2 ∨ a = 4) (h : a < sizeI n) : fitsB n a = false := by
  cases hf : fitsB n a
  · rfl
  · exfalso
    unfold sizeI at h
    rcases ha with rfl | rfl | rfl
    · rw [if_pos hf] at h; omega
    · split at h <;> omega
    · split at h
      · omega
      · split at h <;> omega

set_option maxHeartbeats 2000000 in
theorem vintFew_walk (n m : Int) (w : World) (ht : Tab w) : Calls Tryd.prog 8 #[.int .i64 n, .int .i64 m] w (Yes w) := by
  have hp := ht.pos
  have hT := Lib.hid ht
  clear ht
  go_enter Tryd.func8, Tryd.ntmps8
  go_wp2_with fail
  refine (put_any _ [] n _ hT.out (Rd.nil _ _) (by simp)).mono ?_
  rintro e w1 ⟨u1, y1, c1, rfl, o1, b1, d1⟩
  have D1 := Lib.hid d1
  have z1 := b1.size
  clear d1
  go_wp2_with fail
  refine (put_any _ [] m _ (hT.out.below b1 hp) (Rd.nil _ _) (by simp)).mono ?_
  rintro e w2 ⟨u2, y2, c2, rfl, o2, b2, d2⟩
  have D2 := Lib.hid d2
  have B2 : Below w.heap.size w w2 := b1.trans (b2.mono z1)
  have z2 := B2.size
  have hT2 : Hid (Tab w2) := hT.out.below B2 hp
  obtain ⟨p1, q1, rfl⟩ := o1.len
  obtain ⟨p2, q2, rfl⟩ := o2.len
  clear d2 o1 o2 b1 b2
  rcases D1.out with ⟨zs, hz, rfl, rfl⟩ | ⟨_, rfl, rfl⟩
  · rcases D2.out with ⟨zs', hz', rfl, rfl⟩ | ⟨_, rfl, rfl⟩
    · have hs1 : fitsB n 8 = true ∧ y1 = enc n (sizeI n) := by
        unfold putS at hz
        split at hz
        · cases hz; exact ⟨by assumption, rfl⟩
        · cases hz
      have hs2 : fitsB m 8 = true ∧ y2 = enc m (sizeI m) := by
        unfold putS at hz'
        split at hz'
        · cases hz'; exact ⟨by assumption, rfl⟩
        · cases hz'
      have i1 := sizeI_in hs1.1
      have i2 := sizeI_in hs2.1
      have l1 : (y1.length : Int) = sizeI n := by
        rw [hs1.2, enc_len _ _ i1.1]; rcases i1.1 with h | h | h | h <;> rw [h] <;> rfl
      have l2 : (y2.length : Int) = sizeI m := by
        rw [hs2.2, enc_len _ _ i2.1]; rcases i2.1 with h | h | h | h <;> rw [h] <;> rfl
      have hcmp : n ≤ m → (y1.length : Int) ≤ y2.length := fun h => by
        rw [l1, l2]; exact sizeI_le h (fits_lt i1.2).1 hs2.1
      have hsm : ∀ a, (a = 1 ∨ a = 2 ∨ a = 4) → a < (y1.length : Int) → fitsB n a = false := fun a ha h => sizeI_small n a ha (by omega)
      have hsz : Hid (sizeI n = y1.length) := l1.symm
      obtain ⟨k1, hk1⟩ : ∃ k, k = y1.length := ⟨_, rfl⟩
      obtain ⟨k2, hk2⟩ : ∃ k, k = y2.length := ⟨_, rfl⟩
      rw [← hk1] at hcmp hsm hsz l1 ⊢
      rw [← hk2] at hcmp ⊢
      have hkk : k1 = 1 ∨ k1 = 2 ∨ k1 = 4 ∨ k1 = 8 := by rcases i1.1 with h | h | h | h <;> rw [h] at l1 <;> omega
      clear hz hz' hs1 hs2 i1 i2 l1 l2 D1 D2 hk1 hk2
      rcases hkk with rfl | rfl | rfl | rfl
      all_goals
        have HM := Lib.hid hsm
        have HC := Lib.hid hcmp
        clear hsm hcmp
        by_cases hnm : n ≤ m
        · have t1 : decide (m < n) = false := by simp; omega
          have HC' := HC.out hnm
          have t2 := decide_eq_true HC'
          clear HC hnm
          go_wp2_with fail
          refine wp_loop_rounds 5 ?_
          repeat any_goals (rw [rounds_succ]; go_wp2_with (first
            | (go_at_call 10; refine (putWide_no _ n _ _ hT2.out (by unfold okW; decide) (HM.out _ (by decide) (by decide))).mono ?_; rintro e w' ⟨rfl, rfl⟩)
            | (go_at_call 15; refine (size_any n _ hT2.out).mono ?_; rintro e w' ⟨rfl, rfl⟩; rw [hsz.out])
            | (go_at_call 17; refine (alive_any _ hT2.out).mono ?_; rintro e w5 ⟨rfl, b5⟩)))
          go_ret
          exact ⟨rfl, B2.trans (b5.mono z2)⟩
        · have t1 : decide (m < n) = true := by simp; omega
          clear HC hnm
          go_wp2_with fail
          refine wp_loop_rounds 5 ?_
          repeat any_goals (rw [rounds_succ]; go_wp2_with (first
            | (go_at_call 10; refine (putWide_no _ n _ _ hT2.out (by unfold okW; decide) (HM.out _ (by decide) (by decide))).mono ?_; rintro e w' ⟨rfl, rfl⟩)
            | (go_at_call 15; refine (size_any n _ hT2.out).mono ?_; rintro e w' ⟨rfl, rfl⟩; rw [hsz.out])
            | (go_at_call 17; refine (alive_any _ hT2.out).mono ?_; rintro e w5 ⟨rfl, b5⟩)))
          go_ret
          exact ⟨rfl, B2.trans (b5.mono z2)⟩
    · go_wp2_with fail
      refine (alive_any _ hT2.out).mono ?_
      rintro e w5 ⟨rfl, b5⟩
      go_wp2_with fail
      go_ret
      exact ⟨rfl, B2.trans (b5.mono z2)⟩
  · go_wp2_with fail
    refine (alive_any _ hT2.out).mono ?_
    rintro e w5 ⟨rfl, b5⟩
    go_wp2_with fail
    go_ret
    exact ⟨rfl, B2.trans (b5.mono z2)⟩
end Go.Proofs.YtkalncahelnamaaDoor
