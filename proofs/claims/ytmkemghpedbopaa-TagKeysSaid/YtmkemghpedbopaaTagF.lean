/- Walks of layer 2: the laws TagOf, TagOpens, TagBack, TagKeys. -/
import Derived.Test.YtmkemghpedbopaaTagE
namespace Go.Proofs.Ytmkemghpedbopaa
open Go.RowKit

theorem tagOf_walk (key : Int) (v : Value) (xs : List Int) (w : World) (hr : Rd .u8 w v xs) (hx : Bts xs) :
    Calls Try.prog 3 #[.int .u64 key, v] w (Yes w) := by
  have hR := Lib.hid hr
  clear hr
  go_enter Try.func3, Try.ntmps3
  go_wp2_with fail
  refine (of_any key v xs _ hR.out hx).mono ?_
  rintro e w' ⟨rfl, rfl⟩
  go_wp2_with fail
  refine (rof_any key v xs _ hR.out hx).mono ?_
  rintro e w' ⟨rfl, rfl⟩
  go_wp2_with fail
  refine (alive_any _).mono ?_
  rintro e w5 ⟨rfl, b5⟩
  go_wp2_with fail
  go_ret
  exact ⟨rfl, b5⟩

/-- two answers to one question are one -/
theorem OpenIs.one {o : Option (List Int)} {ys ys' : List Int} {c c' : Int} (h : (o = some ys ∧ c = 0) ∨ (o = none ∧ ys = [] ∧ c = 4)) (h' : (o = some ys' ∧ c' = 0) ∨ (o = none ∧ ys' = [] ∧ c' = 4)) : ys' = ys ∧ c' = c := by
  rcases h with ⟨rfl, rfl⟩ | ⟨rfl, rfl, rfl⟩
  · rcases h' with ⟨e, rfl⟩ | ⟨e, _⟩
    · cases e; exact ⟨rfl, rfl⟩
    · cases e
  · rcases h' with ⟨e, _⟩ | ⟨_, rfl, rfl⟩
    · cases e
    · exact ⟨rfl, rfl⟩
theorem OpenIs.bts {key : Int} {xs ys : List Int} {c : Int} (hx : Bts xs) (h : (openL key xs = some ys ∧ c = 0) ∨ (openL key xs = none ∧ ys = [] ∧ c = 4)) : Bts ys := by
  rcases h with ⟨h, _⟩ | ⟨_, rfl, _⟩
  · exact openL_bts hx h
  · intro x hx; simp at hx

set_option maxHeartbeats 800000 in
theorem tagOpens_walk (key : Int) (v : Value) (xs : List Int) (w : World) (hr : Rd .u8 w v xs) (hx : Bts xs) (hl : xs.length ≤ 140737488351232) :
    Calls Try.prog 4 #[.int .u64 key, v] w (Yes w) := by
  have hR := Lib.hid hr
  clear hr
  go_enter Try.func4, Try.ntmps4
  go_wp2_with fail
  refine (open_any key v xs _ hR.out hx (by omega)).mono ?_
  rintro e w1 ⟨u1, y1, c1, rfl, o1, b1, d1⟩
  have D1 := Lib.hid d1
  clear d1
  go_wp2_with fail
  refine (ropen_any key v xs _ (hR.out.below b1) hx (by omega)).mono ?_
  rintro e w2 ⟨u2, y2, c2, rfl, o2, b2, d2⟩
  obtain ⟨rfl, rfl⟩ := OpenIs.one D1.out d2
  have BY := Lib.hid (OpenIs.bts hx d2)
  clear d2 D1
  have b12 : Below w.heap.size w w2 := b1.trans (b2.mono b1.size)
  go_wp2_with fail
  refine (seal_any key v xs _ (hR.out.below b12) hx (by omega)).mono ?_
  rintro e w3 ⟨u3, rfl, o3, b3⟩
  have b13 : Below w.heap.size w w3 := b12.trans (b3.mono b12.size)
  go_wp2_with fail
  refine (rseal_any key v xs _ (hR.out.below b13) hx (by omega)).mono ?_
  rintro e w4 ⟨u4, rfl, o4, b4⟩
  have b14 : Below w.heap.size w w4 := b13.trans (b4.mono b13.size)
  go_wp2_with fail
  refine (same_yes u3 u4 _ _ (o3.rd.below b4) o4.rd (sealL_bts key hx)).mono ?_
  rintro e w5 ⟨rfl, rfl⟩
  go_wp2_with fail
  refine (same_yes u1 u2 _ _ (((o1.rd.below b2).below b3).below b4) ((o2.rd.below b3).below b4) BY.out).mono ?_
  rintro e w5 ⟨rfl, rfl⟩
  go_wp2_with fail
  refine (alive_any _).mono ?_
  rintro e w5 ⟨rfl, b5⟩
  go_wp2_with fail
  go_ret
  exact ⟨rfl, b14.trans (b5.mono b14.size)⟩

set_option maxHeartbeats 800000 in
theorem tagBack_walk (key : Int) (v : Value) (xs : List Int) (w : World) (hr : Rd .u8 w v xs) (hx : Bts xs) (hl : xs.length ≤ 140737488351232) :
    Calls Try.prog 5 #[.int .u64 key, v] w (Yes w) := by
  have hR := Lib.hid hr
  have hS := Lib.hid (open_seal key xs)
  clear hr
  go_enter Try.func5, Try.ntmps5
  go_wp2_with fail
  refine (seal_any key v xs _ hR.out hx (by omega)).mono ?_
  rintro e w1 ⟨u1, rfl, o1, b1⟩
  go_wp2_with fail
  refine (open_any key u1 _ _ o1.rd (sealL_bts key hx) (by rw [sealL_len]; omega)).mono ?_
  rintro e w2 ⟨u2, y2, c2, rfl, o2, b2, d2⟩
  obtain ⟨rfl, rfl⟩ := OpenIs.one (ys := xs) (c := 0) (.inl ⟨hS.out, rfl⟩) d2
  clear d2
  have b12 : Below w.heap.size w w2 := b1.trans (b2.mono b1.size)
  go_wp2_with fail
  refine (same_yes u2 v _ _ o2.rd (hR.out.below b12) hx).mono ?_
  rintro e w5 ⟨rfl, rfl⟩
  go_wp2_with fail
  refine (alive_any _).mono ?_
  rintro e w5 ⟨rfl, b5⟩
  go_wp2_with fail
  go_ret
  exact ⟨rfl, b12.trans (b5.mono b12.size)⟩

set_option maxHeartbeats 800000 in
theorem tagKeys_walk (key other : Int) (v : Value) (xs : List Int) (w : World) (hr : Rd .u8 w v xs) (hx : Bts xs) (hl : xs.length ≤ 140737488351232) (hk : 0 ≤ key ∧ key ≤ 18446744073709551615) (hk' : 0 ≤ other ∧ other ≤ 18446744073709551615) :
    Calls Try.prog 7 #[.int .u64 key, .int .u64 other, v] w (Yes w) := by
  have hR := Lib.hid hr
  have HK := Lib.hid hk
  have HK' := Lib.hid hk'
  clear hr hk hk'
  go_enter Try.func7, Try.ntmps7
  go_wp2_with fail
  refine (seal_any key v xs _ hR.out hx (by omega)).mono ?_
  rintro e w1 ⟨u1, rfl, o1, b1⟩
  go_wp2_with fail
  refine (open_any other u1 _ _ o1.rd (sealL_bts key hx) (by rw [sealL_len]; omega)).mono ?_
  rintro e w2 ⟨u2, y2, c2, rfl, o2, b2, d2⟩
  have b12 : Below w.heap.size w w2 := b1.trans (b2.mono b1.size)
  have hc : ((c2 == 0) == (key == other)) = true := by
    by_cases hko : key = other
    · subst hko
      obtain ⟨_, rfl⟩ := OpenIs.one (ys := xs) (c := 0) (.inl ⟨open_seal key xs, rfl⟩) d2
      simp
    · obtain ⟨_, rfl⟩ := OpenIs.one (ys := []) (c := 4) (.inr ⟨open_other xs HK.out HK'.out hko, rfl, rfl⟩) d2
      simp [hko]
  clear d2
  go_wp2_with fail
  refine (alive_any _).mono ?_
  rintro e w5 ⟨rfl, b5⟩
  go_wp2_with fail
  go_ret
  exact ⟨rfl, b12.trans (b5.mono b12.size)⟩
end Go.Proofs.Ytmkemghpedbopaa
