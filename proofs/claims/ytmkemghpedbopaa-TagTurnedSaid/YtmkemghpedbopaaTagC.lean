/- Walks of layer 2: the reference's Seal. -/
import Derived.Test.YtmkemghpedbopaaTagB
namespace Go.Proofs.Ytmkemghpedbopaa
open Go.RowKit

theorem tag_byte (key : Int) (xs : List Int) (j : Nat) : tagI key xs / 2 ^ (8 * j) % 256 = (((tagB key xs).toNat / 256 ^ j % 256 : Nat) : Int) := by
  unfold tagI
  rw [Int.pow_mul]
  simp

set_option maxHeartbeats 1600000 in
theorem rseal_any (key : Int) (v : Value) (xs : List Int) (w : World) (hr : Rd .u8 w v xs) (hx : Bts xs) (hl : xs.length ≤ 140737488355320) :
    Calls Try.prog 17 #[.int .u64 key, v] w (BytesIs w (sealL key xs)) := by
  have hR := Lib.hid hr
  clear hr
  have t0 := tagI_lo key xs
  have t1 := tagI_hi key xs
  go_enter Try.func17, Try.ntmps17
  go_wp2_with (first
    | (go_at_call 11; refine (rof_any key _ xs _ hR.out hx).mono ?_; rintro e w' ⟨rfl, rfl⟩)
    | (at_builtin; go_loud ((with_reducible refine wpList_append_rd _ ?_ (.const (.slice none 0 0)) (.tmp 11) 23 ?_ elemU8 Try.underlying23 w.heap.size (.slice none 0 0) [] ?_ (Own.nil _ _ _ _) v xs ?_ hR.out ?_ ?_ ?_ ?_); rfl; rfl; rfl; rfl; (simp; omega); (simp; unfold maxLen; omega); (exact Nat.le_refl _); intro v1 w1 hown hgr)))
  have hb1 : Below w.heap.size w w1 := (Below.refl _ _).grown hgr (Nat.le_refl _) (by simp [Value.ownBlock])
  have hown1 : Own .u8 5 w1 w.heap.size v1 (xs ++ (be (tagB key xs).toNat 8).take (8 - 8)) := by simpa using hown
  clear hown hgr
  go_loopw [6, 7] (fun o i wr => ∃ k : Nat, k ≤ 8 ∧ i = .int .i64 ((k : Int) - 1) ∧ Own .u8 5 wr w.heap.size o (xs ++ (be (tagB key xs).toNat 8).take (8 - k)) ∧ Below w.heap.size w wr) (fun _ i _ => (intOf i + 1).toNat)
  case atStart => exact ⟨8, Nat.le_refl _, rfl, hown1, hb1⟩
  case round =>
    obtain ⟨k, hk, hi, hown, hb⟩ := hrel
    clear hown1 hb1
    have hsz := hb.size
    by_cases hk0 : k = 0
    · subst hk0
      subst hi
      go_wp2
      go_ret
      exact ⟨_, rfl, by rw [Nat.sub_zero, be_all] at hown; exact hown, hb⟩
    · obtain ⟨j, rfl⟩ : ∃ j, k = j + 1 := ⟨k - 1, by omega⟩
      rw [show ((j + 1 : Nat) : Int) - 1 = (j : Int) by omega] at hi
      subst hi
      have HH := Lib.hid (tag_byte key xs j)
      have hxl : (xs ++ (be (tagB key xs).toNat 8).take (8 - (j + 1))).length ≤ xs.length + 7 := by
        rw [List.length_append, List.length_take, be_len]; omega
      have HT := Lib.hid (be_take (tagB key xs).toNat 8 (8 - (j + 1)) (by omega))
      have OW := Lib.hid hown
      clear hown
      go_wp2_with (at_builtin; go_loud ((with_reducible refine wpList_append_rd _ ?_ (.tmp 17) (.tmp 23) 23 ?_ elemU8 Try.underlying23 w.heap.size _ _ ?_ (OW.out.alloc _) _ _ ?_ (Rd.one _ _ _ _) ?_ ?_ ?_ ?_); rfl; rfl; rfl; rfl; (simp only [List.length_singleton]; omega); (simp only [List.length_singleton]; unfold maxLen; omega); (simp; omega); intro v2 w2 hown2 hgr2))
      have hown3 : Own .u8 5 w2 w.heap.size v2 (xs ++ (be (tagB key xs).toNat 8).take (8 - j)) := by
        have e1 : 8 - (j + 1) + 1 = 8 - j := by omega
        have e2 : 8 - 1 - (8 - (j + 1)) = j := by omega
        have e3 := HT.out
        rw [e1, e2] at e3
        rw [e3, ← List.append_assoc, ← HH.out]
        exact hown2
      have hb2 : Below w.heap.size w w2 := (hb.alloc (by omega) _).grown hgr2 (by simp; omega) OW.out.blk
      clear hown2 hgr2
      go_roundw
      case rel => exact ⟨j, by omega, rfl, hown3, hb2⟩
      case measure => simp [intOf]
end Go.Proofs.Ytmkemghpedbopaa
