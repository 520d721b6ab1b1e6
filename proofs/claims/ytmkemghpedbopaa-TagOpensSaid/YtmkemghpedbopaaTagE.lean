/- Walks of layer 2: the reference's Open. -/
import Derived.Test.YtmkemghpedbopaaTagD
import Derived.Deep.RegionHeld
namespace Go.Proofs.Ytmkemghpedbopaa
open Go.RowKit

theorem ropen_short (key : Int) (v : Value) (xs : List Int) (w : World) (hr : Rd .u8 w v xs) (h : xs.length < 8) :
    Calls Try.prog 14 #[.int .u64 key, v] w (OpenIs w (openL key xs)) := by
  obtain ⟨va, vc, rfl⟩ := hr.isSlice
  have ho : openL key xs = none := by unfold openL; rw [if_pos h]
  rw [ho]
  clear hr ho
  have h1 : decide ((xs.length : Int) - 8 < 0) = true := by simp; omega
  go_enter Try.func14, Try.ntmps14
  go_wp2
  go_quiet (fail)
  go_wp2
  go_ret2
  exact ⟨_, [], 4, rfl, Own.nil _ _ _ _, below_drewN (Below.refl _ _) _, .inr ⟨rfl, rfl, rfl⟩⟩

set_option maxHeartbeats 1600000 in
theorem ropen_long (key : Int) (b o c n : Nat) (ys ts : List Int) (w : World) (hys : ys.length = n) (hts : ts.length = 8) (hx : Bts (ys ++ ts)) (hbig : n ≤ 140737488351232) (hr : Rd .u8 w (.slice (some ⟨b, o, none⟩) (n + 8) c) (ys ++ ts)) :
    Calls Try.prog 14 #[.int .u64 key, .slice (some ⟨b, o, none⟩) (n + 8) c] w (OpenIs w (openL key (ys ++ ts))) := by
  have hb : b < w.heap.size := by
    rcases hr with ⟨h0, _⟩ | ⟨h0, b, o, c, q, h2, h3, h4, h5⟩
    · have := congrArg List.length h0; simp [hts] at this
    · simp only [Value.slice.injEq, Option.some.injEq, Addr.mk.injEq, and_true] at q
      obtain ⟨⟨rfl, rfl⟩, q1, rfl⟩ := q
      exact h4
  have rY : Hid (Rd .u8 w (.slice (some ⟨b, o, none⟩) n c) ys) := by
    rcases hr with ⟨h0, _⟩ | ⟨h0, b, o, c, q, h2, h3, h4, h5⟩
    · have := congrArg List.length h0; simp [hts] at this
    · simp only [Value.slice.injEq, Option.some.injEq, Addr.mk.injEq, and_true] at q
      obtain ⟨⟨rfl, rfl⟩, q1, rfl⟩ := q
      by_cases hy0 : ys = []
      · subst hy0; subst hys; exact .inl ⟨rfl, _, _, rfl, h3, fun h => by cases h⟩
      · refine .inr ⟨hy0, b, o, c, by rw [hys], by omega, h3, h4, fun i hi => ?_⟩
        rw [h5 i (by rw [List.length_append]; omega), List.getD, List.getElem?_append_left hi]; rfl
  have hcap : n + 8 ≤ c := by
    rcases hr with ⟨h0, _⟩ | ⟨h0, b, o, c, q, h2, h3, h4, h5⟩
    · have := congrArg List.length h0; simp [hts] at this
    · simp only [Value.slice.injEq, Option.some.injEq, Addr.mk.injEq, and_true] at q
      obtain ⟨⟨rfl, rfl⟩, q1, rfl⟩ := q
      omega
  have hlen : n + 8 ≤ 9223372036854775807 := by omega
  have hbY : Bts ys := fun x h => hx x (List.mem_append_left _ h)
  have hs : ((strOfNums (sealL key ys)).toList == (strOfNums (ys ++ ts)).toList) = decide (ts = be (tagB key ys).toNat 8) := by
    rw [str_eq' (sealL_bts key hbY) hx, sealL]
    rw [Bool.eq_iff_iff, decide_eq_true_iff, decide_eq_true_iff]
    exact ⟨fun h => (List.append_cancel_left h).symm, fun h => by rw [h]⟩
  have HO := Lib.hid (openL_of key ys ts hts)
  obtain ⟨q, hq⟩ : ∃ q : Bool, decide (ts = be (tagB key ys).toNat 8) = q := ⟨_, rfl⟩
  rw [hq] at hs
  have HS := Lib.hid hs
  have HQ := Lib.hid hq
  have hR := Lib.hid hr
  have rYd : Hid (Rd .u8 w.drew (.slice (some ⟨b, o, none⟩) n c) ys) := rY.out.below (below_drewN (Below.refl _ _) 1)
  have rXd : Hid (Rd .u8 w.drew (.slice (some ⟨b, o, none⟩) (n + 8) c) (ys ++ ts)) := hr.below (below_drewN (Below.refl _ _) 1)
  have hyl : ys.length ≤ 140737488355320 := by omega
  have HY := Lib.hid hys
  clear hs hq hr hys hts
  have hn0 : (0 : Int) ≤ (n : Int) := by omega
  have hnl : decide ((n : Int) < 0) = false := by simp
  have hnc : n ≤ c := by omega
  have kx := rXd.out.conv Try.underlying23 Try.underlying5 Try.underlying9
  go_enter Try.func14, Try.ntmps14
  go_wp2
  have hs := HS.out
  go_region_held (fun _ => True) (trivial) ((go_at_call 17; refine (rseal_any key _ ys _ rYd.out hbY hyl).mono ?_; rintro e w7 ⟨u, rfl, o7, b7⟩; have k7 := o7.rd.conv Try.underlying23 Try.underlying5 Try.underlying9; have x7 := (rXd.out.below b7).conv Try.underlying23 Try.underlying5 Try.underlying9))
  all_goals
    clear hs kx k7 x7
    have b8 : Below w.heap.size w w7 := (below_drewN (Below.refl _ _) 1).trans b7
    have z8 := b8.size
    have rY7 : Hid (Rd .u8 w7 (.slice (some ⟨b, o, none⟩) n c) ys) := rY.out.below b8
    clear o7 b7
    cases q
    · have HE : Hid (openL key (ys ++ ts) = none) := by show _ = _; rw [HO.out, if_neg (of_decide_eq_false HQ.out)]
      go_wp2
      go_ret2
      exact ⟨_, [], 4, rfl, Own.nil _ _ _ _, b8, .inr ⟨HE.out, rfl, rfl⟩⟩
    · have HE : Hid (openL key (ys ++ ts) = some ys) := by show _ = _; rw [HO.out, if_pos (of_decide_eq_true HQ.out)]
      go_wp2_with (at_builtin; ((with_reducible refine wpList_append_rd _ ?_ (.const (.slice none 0 0)) (.tmp 25) 23 ?_ elemU8 Try.underlying23 w.heap.size (.slice none 0 0) [] ?_ (Own.nil _ _ _ _) (.slice (some ⟨b, o, none⟩) n c) ys ?_ rY7.out ?_ ?_ ?_ ?_); rfl; rfl; rfl; rfl; (simp only [List.length_nil]; omega); (simp only [List.length_nil]; unfold maxLen; omega); (exact z8); intro v9 w9 o9 g9))
      have b9 : Below w.heap.size w w9 := b8.grown g9 z8 (by simp [Value.ownBlock])
      go_ret2
      exact ⟨_, ys, 0, rfl, o9, b9, .inl ⟨HE.out, rfl⟩⟩

/-- THE REFERENCE's OPEN, WHATEVER THE BYTES -/
theorem ropen_any (key : Int) (v : Value) (xs : List Int) (w : World) (hr : Rd .u8 w v xs) (hx : Bts xs) (hl : xs.length ≤ 140737488351240) :
    Calls Try.prog 14 #[.int .u64 key, v] w (OpenIs w (openL key xs)) := by
  by_cases h : xs.length < 8
  · exact ropen_short key v xs w hr h
  · have hr' := hr
    rcases hr with ⟨rfl, _⟩ | ⟨h0, b, o, c, rfl, h2, h3, h4, h5⟩
    · simp at h
    · have e : xs = xs.take (xs.length - 8) ++ xs.drop (xs.length - 8) := (List.take_append_drop _ _).symm
      have el : (xs.take (xs.length - 8)).length = xs.length - 8 := by rw [List.length_take]; omega
      have et : (xs.drop (xs.length - 8)).length = 8 := by rw [List.length_drop]; omega
      generalize hn : xs.length - 8 = n at e el et
      have hn8 : xs.length = n + 8 := by omega
      rw [hn8] at hr' ⊢
      generalize xs.take n = ys at e el
      generalize xs.drop n = ts at e et
      subst e
      exact ropen_long key b o c n ys ts w el et hx (by omega) hr'
end Go.Proofs.Ytmkemghpedbopaa
