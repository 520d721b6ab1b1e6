/- Walks of layer 1: the reference's PutWide where there is room. -/
import Derived.Test.YtfkkimaebhjneaaDoorVintF
namespace Go.Proofs.YtfkkimaebhjneaaDoor
open Go.RowKit

theorem be_take (m W j : Nat) (h : j < W) : (be m W).take (j + 1) = (be m W).take j ++ [((m / 256 ^ (W - 1 - j) % 256 : Nat) : Int)] := by
  induction W generalizing j with
  | zero => omega
  | succ W ih =>
    rw [be_cons]
    cases j with
    | zero => simp
    | succ j =>
      rw [List.take_succ_cons, ih j (by omega), List.take_succ_cons, List.cons_append, show W + 1 - 1 - (j + 1) = W - 1 - j by omega]
theorem be_all (m W : Nat) : (be m W).take W = be m W := List.take_of_length_le (by rw [be_len]; exact Nat.le_refl _)
theorem mark_is (width m : Int) (hm : markOf width = m) (w : World) (hw : width = 1 ∨ width = 2 ∨ width = 4 ∨ width = 8) :
    Calls Tryd.prog 68 #[.int .i64 width] w fun e w' => e = .returned (.int .i64 m) ∧ w = w' := by
  rw [← hm]; exact mark_any width w hw

theorem ror_1 (c : Int) (h0 : 0 ≤ c) (h1 : c < 64) : bits .or .u8 c 0 = 0 + c := by
  have hc : bits .or .u8 c 0 = bits .or .u8 0 c := by simp only [bits, BitVec.or_comm]
  rw [hc]; exact bits_join .u8 8 (by decide) wraps_u8 6 _ _ (by omega) (by decide) (by omega) h0 (by simpa using h1) (by omega)
theorem rbyte_1 (n : Int) (h0 : 0 ≤ n) (h1 : n < 64) : n = (((bm1 n).toNat / 256 ^ 0 % 256 : Nat) : Int) := by
  unfold bm1
  simp only [Nat.reducePow]
  omega

set_option maxHeartbeats 800000 in
theorem rputWide_1 (v : Value) (xs : List Int) (n : Int) (w : World) (hr : Rd .u8 w v xs) (hl : xs.length ≤ 140737488351232) (h0 : 0 ≤ n) (h1 : n < 64) (hn : n ≤ 9223372036854775807) (hf : fitsB n 1 = true) :
    Calls Tryd.prog 63 #[v, .int .i64 n, .int .i64 1] w (BytesOf w (xs ++ be (bm1 n).toNat 1)) := by
  go_enter Tryd.func63, Tryd.ntmps63
  go_wp2_with (first
    | (go_at_call 67; refine (room_any n _ _ hn (by decide)).mono ?_; rintro e w' ⟨rfl, rfl⟩)
    | (at_builtin; go_loud (with_reducible refine wpList_append_rd _ ?_ (.const (.slice none 0 0)) (.tmp 31) 23 ?_ elemU8 Tryd.underlying23 w.heap.size (.slice none 0 0) [] ?_ (Own.nil _ _ _ _) v xs ?_ hr ?_ ?_ ?_ ?_); go_loud (rfl); go_loud (rfl); go_loud (rfl); go_loud (rfl); (simp; omega); (simp; unfold maxLen; omega); (exact Nat.le_refl _); intro v1 w1 hown hgr))
  have hb1 : Below w.heap.size w w1 := (Below.refl _ _).grown hgr (Nat.le_refl _) (by simp [Value.ownBlock])
  have hown1 : Own .u8 5 w1 w.heap.size v1 (xs ++ (be (bm1 n).toNat 1).take (1 - 1)) := by simpa using hown
  clear hown hgr hr hf
  go_loopw [8, 9] (fun o i wr => ∃ k : Nat, k ≤ 1 ∧ i = .int .i64 ((k : Int) - 1) ∧ Own .u8 5 wr w.heap.size o (xs ++ (be (bm1 n).toNat 1).take (1 - k)) ∧ Below w.heap.size w wr) (fun _ i _ => (intOf i + 1).toNat)
  case atStart => exact ⟨1, Nat.le_refl _, rfl, hown1, hb1⟩
  case round =>
    obtain ⟨k, hk, rfl, hown, hb⟩ := hrel
    clear hown1 hb1
    have hsz := hb.size
    by_cases hk0 : k = 0
    · subst hk0
      go_wp2
      go_ret2
      exact ⟨_, rfl, by simpa [be_all] using hown, hb⟩
    · have hkk : k = 1 := by omega
      clear hk hk0
      rcases hkk with rfl
      · have HH := Lib.hid (rbyte_1 n h0 h1)
        have HT := Lib.hid (be_take (bm1 n).toNat 1 0 (by decide))
        have hor : bits .or .u8 n 0 = 0 + n := ror_1 _ (by omega) (by omega)
        go_wp2_with (first
          | (go_at_call 68; refine (mark_is _ 0 (by decide) _ (by decide)).mono ?_; rintro e w' ⟨rfl, rfl⟩)
          | (at_builtin; go_loud ((with_reducible refine wpList_append_rd _ ?_ (.tmp 54) (.tmp 56) 23 ?_ elemU8 Tryd.underlying23 w.heap.size _ _ ?_ (hown.alloc _) _ _ ?_ (Rd.one _ _ _ _) ?_ ?_ ?_ ?_)); rfl; rfl; rfl; rfl; (simp; omega); (simp; unfold maxLen; omega); (simp; omega); intro v2 w2 hown2 hgr2))
        have hown3 : Own .u8 5 w2 w.heap.size v2 (xs ++ (be (bm1 n).toNat 1).take (1 - 0)) := by
          have e : 1 - 0 = 0 + 1 := rfl
          rw [e, HT.out, ← List.append_assoc, ← HH.out]
          exact hown2
        have hb2 : Below w.heap.size w w2 := (hb.alloc (by omega) _).grown hgr2 (by simp; omega) hown.blk
        clear hown2 hgr2 hown hb
        go_wp2
        go_roundw
        case rel => exact ⟨0, by decide, rfl, hown3, hb2⟩
        case measure => simp [intOf]

theorem ror_2 (c : Int) (h0 : 0 ≤ c) (h1 : c < 64) : bits .or .u8 c 64 = 64 + c := by
  have hc : bits .or .u8 c 64 = bits .or .u8 64 c := by simp only [bits, BitVec.or_comm]
  rw [hc]; exact bits_join .u8 8 (by decide) wraps_u8 6 _ _ (by omega) (by decide) (by omega) h0 (by simpa using h1) (by omega)
theorem rbyte_2 (n : Int) (h0 : 0 ≤ n) (h1 : n < 16384) : 64 + n / 256 = (((bm2 n).toNat / 256 ^ 1 % 256 : Nat) : Int) := by
  unfold bm2
  simp only [Nat.reducePow]
  omega
theorem rlow_2_0 (n : Int) (h0 : 0 ≤ n) (h1 : n < 16384) : n % 256 = (((bm2 n).toNat / 256 ^ 0 % 256 : Nat) : Int) := by
  unfold bm2
  simp only [Nat.reducePow]
  omega

set_option maxHeartbeats 800000 in
theorem rputWide_2 (v : Value) (xs : List Int) (n : Int) (w : World) (hr : Rd .u8 w v xs) (hl : xs.length ≤ 140737488351232) (h0 : 0 ≤ n) (h1 : n < 16384) (hn : n ≤ 9223372036854775807) (hf : fitsB n 2 = true) :
    Calls Tryd.prog 63 #[v, .int .i64 n, .int .i64 2] w (BytesOf w (xs ++ be (bm2 n).toNat 2)) := by
  go_enter Tryd.func63, Tryd.ntmps63
  go_wp2_with (first
    | (go_at_call 67; refine (room_any n _ _ hn (by decide)).mono ?_; rintro e w' ⟨rfl, rfl⟩)
    | (at_builtin; go_loud (with_reducible refine wpList_append_rd _ ?_ (.const (.slice none 0 0)) (.tmp 31) 23 ?_ elemU8 Tryd.underlying23 w.heap.size (.slice none 0 0) [] ?_ (Own.nil _ _ _ _) v xs ?_ hr ?_ ?_ ?_ ?_); go_loud (rfl); go_loud (rfl); go_loud (rfl); go_loud (rfl); (simp; omega); (simp; unfold maxLen; omega); (exact Nat.le_refl _); intro v1 w1 hown hgr))
  have hb1 : Below w.heap.size w w1 := (Below.refl _ _).grown hgr (Nat.le_refl _) (by simp [Value.ownBlock])
  have hown1 : Own .u8 5 w1 w.heap.size v1 (xs ++ (be (bm2 n).toNat 2).take (2 - 2)) := by simpa using hown
  clear hown hgr hr hf
  go_loopw [8, 9] (fun o i wr => ∃ k : Nat, k ≤ 2 ∧ i = .int .i64 ((k : Int) - 1) ∧ Own .u8 5 wr w.heap.size o (xs ++ (be (bm2 n).toNat 2).take (2 - k)) ∧ Below w.heap.size w wr) (fun _ i _ => (intOf i + 1).toNat)
  case atStart => exact ⟨2, Nat.le_refl _, rfl, hown1, hb1⟩
  case round =>
    obtain ⟨k, hk, rfl, hown, hb⟩ := hrel
    clear hown1 hb1
    have hsz := hb.size
    by_cases hk0 : k = 0
    · subst hk0
      go_wp2
      go_ret2
      exact ⟨_, rfl, by simpa [be_all] using hown, hb⟩
    · have hkk : k = 1 ∨ k = 2 := by omega
      clear hk hk0
      rcases hkk with rfl | rfl
      · have HH := Lib.hid (rlow_2_0 n h0 h1)
        have HT := Lib.hid (be_take (bm2 n).toNat 2 1 (by decide))
        go_wp2_with (first
          | (go_at_call 68; refine (mark_is _ 1 (by decide) _ (by decide)).mono ?_; rintro e w' ⟨rfl, rfl⟩)
          | (at_builtin; go_loud ((with_reducible refine wpList_append_rd _ ?_ (.tmp 54) (.tmp 56) 23 ?_ elemU8 Tryd.underlying23 w.heap.size _ _ ?_ (hown.alloc _) _ _ ?_ (Rd.one _ _ _ _) ?_ ?_ ?_ ?_)); rfl; rfl; rfl; rfl; (simp; omega); (simp; unfold maxLen; omega); (simp; omega); intro v2 w2 hown2 hgr2))
        have hown3 : Own .u8 5 w2 w.heap.size v2 (xs ++ (be (bm2 n).toNat 2).take (2 - 0)) := by
          have e : 2 - 0 = 1 + 1 := rfl
          rw [e, HT.out, ← List.append_assoc, ← HH.out]
          exact hown2
        have hb2 : Below w.heap.size w w2 := (hb.alloc (by omega) _).grown hgr2 (by simp; omega) hown.blk
        clear hown2 hgr2 hown hb
        go_wp2
        go_roundw
        case rel => exact ⟨0, by decide, rfl, hown3, hb2⟩
        case measure => simp [intOf]
      · have HH := Lib.hid (rbyte_2 n h0 h1)
        have HT := Lib.hid (be_take (bm2 n).toNat 2 0 (by decide))
        have hor : bits .or .u8 (n / 256) 64 = 64 + n / 256 := ror_2 _ (by omega) (by omega)
        go_wp2_with (first
          | (go_at_call 68; refine (mark_is _ 1 (by decide) _ (by decide)).mono ?_; rintro e w' ⟨rfl, rfl⟩)
          | (at_builtin; go_loud ((with_reducible refine wpList_append_rd _ ?_ (.tmp 54) (.tmp 56) 23 ?_ elemU8 Tryd.underlying23 w.heap.size _ _ ?_ (hown.alloc _) _ _ ?_ (Rd.one _ _ _ _) ?_ ?_ ?_ ?_)); rfl; rfl; rfl; rfl; (simp; omega); (simp; unfold maxLen; omega); (simp; omega); intro v2 w2 hown2 hgr2))
        have hown3 : Own .u8 5 w2 w.heap.size v2 (xs ++ (be (bm2 n).toNat 2).take (2 - 1)) := by
          have e : 2 - 1 = 0 + 1 := rfl
          rw [e, HT.out, ← List.append_assoc, ← HH.out]
          exact hown2
        have hb2 : Below w.heap.size w w2 := (hb.alloc (by omega) _).grown hgr2 (by simp; omega) hown.blk
        clear hown2 hgr2 hown hb
        go_wp2
        go_roundw
        case rel => exact ⟨1, by decide, rfl, hown3, hb2⟩
        case measure => simp [intOf]

theorem ror_4 (c : Int) (h0 : 0 ≤ c) (h1 : c < 64) : bits .or .u8 c 128 = 128 + c := by
  have hc : bits .or .u8 c 128 = bits .or .u8 128 c := by simp only [bits, BitVec.or_comm]
  rw [hc]; exact bits_join .u8 8 (by decide) wraps_u8 6 _ _ (by omega) (by decide) (by omega) h0 (by simpa using h1) (by omega)
theorem rbyte_4 (n : Int) (h0 : 0 ≤ n) (h1 : n < 1073741824) : 128 + n / 16777216 = (((bm4 n).toNat / 256 ^ 3 % 256 : Nat) : Int) := by
  unfold bm4
  simp only [Nat.reducePow]
  omega
theorem rlow_4_0 (n : Int) (h0 : 0 ≤ n) (h1 : n < 1073741824) : n % 256 = (((bm4 n).toNat / 256 ^ 0 % 256 : Nat) : Int) := by
  unfold bm4
  simp only [Nat.reducePow]
  omega
theorem rlow_4_1 (n : Int) (h0 : 0 ≤ n) (h1 : n < 1073741824) : n / 256 % 256 = (((bm4 n).toNat / 256 ^ 1 % 256 : Nat) : Int) := by
  unfold bm4
  simp only [Nat.reducePow]
  omega
theorem rlow_4_2 (n : Int) (h0 : 0 ≤ n) (h1 : n < 1073741824) : n / 65536 % 256 = (((bm4 n).toNat / 256 ^ 2 % 256 : Nat) : Int) := by
  unfold bm4
  simp only [Nat.reducePow]
  omega

set_option maxHeartbeats 800000 in
theorem rputWide_4 (v : Value) (xs : List Int) (n : Int) (w : World) (hr : Rd .u8 w v xs) (hl : xs.length ≤ 140737488351232) (h0 : 0 ≤ n) (h1 : n < 1073741824) (hn : n ≤ 9223372036854775807) (hf : fitsB n 4 = true) :
    Calls Tryd.prog 63 #[v, .int .i64 n, .int .i64 4] w (BytesOf w (xs ++ be (bm4 n).toNat 4)) := by
  go_enter Tryd.func63, Tryd.ntmps63
  go_wp2_with (first
    | (go_at_call 67; refine (room_any n _ _ hn (by decide)).mono ?_; rintro e w' ⟨rfl, rfl⟩)
    | (at_builtin; go_loud (with_reducible refine wpList_append_rd _ ?_ (.const (.slice none 0 0)) (.tmp 31) 23 ?_ elemU8 Tryd.underlying23 w.heap.size (.slice none 0 0) [] ?_ (Own.nil _ _ _ _) v xs ?_ hr ?_ ?_ ?_ ?_); go_loud (rfl); go_loud (rfl); go_loud (rfl); go_loud (rfl); (simp; omega); (simp; unfold maxLen; omega); (exact Nat.le_refl _); intro v1 w1 hown hgr))
  have hb1 : Below w.heap.size w w1 := (Below.refl _ _).grown hgr (Nat.le_refl _) (by simp [Value.ownBlock])
  have hown1 : Own .u8 5 w1 w.heap.size v1 (xs ++ (be (bm4 n).toNat 4).take (4 - 4)) := by simpa using hown
  clear hown hgr hr hf
  go_loopw [8, 9] (fun o i wr => ∃ k : Nat, k ≤ 4 ∧ i = .int .i64 ((k : Int) - 1) ∧ Own .u8 5 wr w.heap.size o (xs ++ (be (bm4 n).toNat 4).take (4 - k)) ∧ Below w.heap.size w wr) (fun _ i _ => (intOf i + 1).toNat)
  case atStart => exact ⟨4, Nat.le_refl _, rfl, hown1, hb1⟩
  case round =>
    obtain ⟨k, hk, rfl, hown, hb⟩ := hrel
    clear hown1 hb1
    have hsz := hb.size
    by_cases hk0 : k = 0
    · subst hk0
      go_wp2
      go_ret2
      exact ⟨_, rfl, by simpa [be_all] using hown, hb⟩
    · have hkk : k = 1 ∨ k = 2 ∨ k = 3 ∨ k = 4 := by omega
      clear hk hk0
      rcases hkk with rfl | rfl | rfl | rfl
      · have HH := Lib.hid (rlow_4_0 n h0 h1)
        have HT := Lib.hid (be_take (bm4 n).toNat 4 3 (by decide))
        go_wp2_with (first
          | (go_at_call 68; refine (mark_is _ 2 (by decide) _ (by decide)).mono ?_; rintro e w' ⟨rfl, rfl⟩)
          | (at_builtin; go_loud ((with_reducible refine wpList_append_rd _ ?_ (.tmp 54) (.tmp 56) 23 ?_ elemU8 Tryd.underlying23 w.heap.size _ _ ?_ (hown.alloc _) _ _ ?_ (Rd.one _ _ _ _) ?_ ?_ ?_ ?_)); rfl; rfl; rfl; rfl; (simp; omega); (simp; unfold maxLen; omega); (simp; omega); intro v2 w2 hown2 hgr2))
        have hown3 : Own .u8 5 w2 w.heap.size v2 (xs ++ (be (bm4 n).toNat 4).take (4 - 0)) := by
          have e : 4 - 0 = 3 + 1 := rfl
          rw [e, HT.out, ← List.append_assoc, ← HH.out]
          exact hown2
        have hb2 : Below w.heap.size w w2 := (hb.alloc (by omega) _).grown hgr2 (by simp; omega) hown.blk
        clear hown2 hgr2 hown hb
        go_wp2
        go_roundw
        case rel => exact ⟨0, by decide, rfl, hown3, hb2⟩
        case measure => simp [intOf]
      · have HH := Lib.hid (rlow_4_1 n h0 h1)
        have HT := Lib.hid (be_take (bm4 n).toNat 4 2 (by decide))
        go_wp2_with (first
          | (go_at_call 68; refine (mark_is _ 2 (by decide) _ (by decide)).mono ?_; rintro e w' ⟨rfl, rfl⟩)
          | (at_builtin; go_loud ((with_reducible refine wpList_append_rd _ ?_ (.tmp 54) (.tmp 56) 23 ?_ elemU8 Tryd.underlying23 w.heap.size _ _ ?_ (hown.alloc _) _ _ ?_ (Rd.one _ _ _ _) ?_ ?_ ?_ ?_)); rfl; rfl; rfl; rfl; (simp; omega); (simp; unfold maxLen; omega); (simp; omega); intro v2 w2 hown2 hgr2))
        have hown3 : Own .u8 5 w2 w.heap.size v2 (xs ++ (be (bm4 n).toNat 4).take (4 - 1)) := by
          have e : 4 - 1 = 2 + 1 := rfl
          rw [e, HT.out, ← List.append_assoc, ← HH.out]
          exact hown2
        have hb2 : Below w.heap.size w w2 := (hb.alloc (by omega) _).grown hgr2 (by simp; omega) hown.blk
        clear hown2 hgr2 hown hb
        go_wp2
        go_roundw
        case rel => exact ⟨1, by decide, rfl, hown3, hb2⟩
        case measure => simp [intOf]
      · have HH := Lib.hid (rlow_4_2 n h0 h1)
        have HT := Lib.hid (be_take (bm4 n).toNat 4 1 (by decide))
        go_wp2_with (first
          | (go_at_call 68; refine (mark_is _ 2 (by decide) _ (by decide)).mono ?_; rintro e w' ⟨rfl, rfl⟩)
          | (at_builtin; go_loud ((with_reducible refine wpList_append_rd _ ?_ (.tmp 54) (.tmp 56) 23 ?_ elemU8 Tryd.underlying23 w.heap.size _ _ ?_ (hown.alloc _) _ _ ?_ (Rd.one _ _ _ _) ?_ ?_ ?_ ?_)); rfl; rfl; rfl; rfl; (simp; omega); (simp; unfold maxLen; omega); (simp; omega); intro v2 w2 hown2 hgr2))
        have hown3 : Own .u8 5 w2 w.heap.size v2 (xs ++ (be (bm4 n).toNat 4).take (4 - 2)) := by
          have e : 4 - 2 = 1 + 1 := rfl
          rw [e, HT.out, ← List.append_assoc, ← HH.out]
          exact hown2
        have hb2 : Below w.heap.size w w2 := (hb.alloc (by omega) _).grown hgr2 (by simp; omega) hown.blk
        clear hown2 hgr2 hown hb
        go_wp2
        go_roundw
        case rel => exact ⟨2, by decide, rfl, hown3, hb2⟩
        case measure => simp [intOf]
      · have HH := Lib.hid (rbyte_4 n h0 h1)
        have HT := Lib.hid (be_take (bm4 n).toNat 4 0 (by decide))
        have hor : bits .or .u8 (n / 16777216) 128 = 128 + n / 16777216 := ror_4 _ (by omega) (by omega)
        go_wp2_with (first
          | (go_at_call 68; refine (mark_is _ 2 (by decide) _ (by decide)).mono ?_; rintro e w' ⟨rfl, rfl⟩)
          | (at_builtin; go_loud ((with_reducible refine wpList_append_rd _ ?_ (.tmp 54) (.tmp 56) 23 ?_ elemU8 Tryd.underlying23 w.heap.size _ _ ?_ (hown.alloc _) _ _ ?_ (Rd.one _ _ _ _) ?_ ?_ ?_ ?_)); rfl; rfl; rfl; rfl; (simp; omega); (simp; unfold maxLen; omega); (simp; omega); intro v2 w2 hown2 hgr2))
        have hown3 : Own .u8 5 w2 w.heap.size v2 (xs ++ (be (bm4 n).toNat 4).take (4 - 3)) := by
          have e : 4 - 3 = 0 + 1 := rfl
          rw [e, HT.out, ← List.append_assoc, ← HH.out]
          exact hown2
        have hb2 : Below w.heap.size w w2 := (hb.alloc (by omega) _).grown hgr2 (by simp; omega) hown.blk
        clear hown2 hgr2 hown hb
        go_wp2
        go_roundw
        case rel => exact ⟨3, by decide, rfl, hown3, hb2⟩
        case measure => simp [intOf]

theorem ror_8 (c : Int) (h0 : 0 ≤ c) (h1 : c < 64) : bits .or .u8 c 192 = 192 + c := by
  have hc : bits .or .u8 c 192 = bits .or .u8 192 c := by simp only [bits, BitVec.or_comm]
  rw [hc]; exact bits_join .u8 8 (by decide) wraps_u8 6 _ _ (by omega) (by decide) (by omega) h0 (by simpa using h1) (by omega)
theorem rbyte_8 (n : Int) (h0 : 0 ≤ n) (h1 : n < 4611686018427387904) : 192 + n / 72057594037927936 = (((bm8 n).toNat / 256 ^ 7 % 256 : Nat) : Int) := by
  unfold bm8
  simp only [Nat.reducePow]
  omega
theorem rlow_8_0 (n : Int) (h0 : 0 ≤ n) (h1 : n < 4611686018427387904) : n % 256 = (((bm8 n).toNat / 256 ^ 0 % 256 : Nat) : Int) := by
  unfold bm8
  simp only [Nat.reducePow]
  omega
theorem rlow_8_1 (n : Int) (h0 : 0 ≤ n) (h1 : n < 4611686018427387904) : n / 256 % 256 = (((bm8 n).toNat / 256 ^ 1 % 256 : Nat) : Int) := by
  unfold bm8
  simp only [Nat.reducePow]
  omega
theorem rlow_8_2 (n : Int) (h0 : 0 ≤ n) (h1 : n < 4611686018427387904) : n / 65536 % 256 = (((bm8 n).toNat / 256 ^ 2 % 256 : Nat) : Int) := by
  unfold bm8
  simp only [Nat.reducePow]
  omega
theorem rlow_8_3 (n : Int) (h0 : 0 ≤ n) (h1 : n < 4611686018427387904) : n / 16777216 % 256 = (((bm8 n).toNat / 256 ^ 3 % 256 : Nat) : Int) := by
  unfold bm8
  simp only [Nat.reducePow]
  omega
theorem rlow_8_4 (n : Int) (h0 : 0 ≤ n) (h1 : n < 4611686018427387904) : n / 4294967296 % 256 = (((bm8 n).toNat / 256 ^ 4 % 256 : Nat) : Int) := by
  unfold bm8
  simp only [Nat.reducePow]
  omega
theorem rlow_8_5 (n : Int) (h0 : 0 ≤ n) (h1 : n < 4611686018427387904) : n / 1099511627776 % 256 = (((bm8 n).toNat / 256 ^ 5 % 256 : Nat) : Int) := by
  unfold bm8
  simp only [Nat.reducePow]
  omega
theorem rlow_8_6 (n : Int) (h0 : 0 ≤ n) (h1 : n < 4611686018427387904) : n / 281474976710656 % 256 = (((bm8 n).toNat / 256 ^ 6 % 256 : Nat) : Int) := by
  unfold bm8
  simp only [Nat.reducePow]
  omega

set_option maxHeartbeats 800000 in
theorem rputWide_8 (v : Value) (xs : List Int) (n : Int) (w : World) (hr : Rd .u8 w v xs) (hl : xs.length ≤ 140737488351232) (h0 : 0 ≤ n) (h1 : n < 4611686018427387904) (hn : n ≤ 9223372036854775807) (hf : fitsB n 8 = true) :
    Calls Tryd.prog 63 #[v, .int .i64 n, .int .i64 8] w (BytesOf w (xs ++ be (bm8 n).toNat 8)) := by
  go_enter Tryd.func63, Tryd.ntmps63
  go_wp2_with (first
    | (go_at_call 67; refine (room_any n _ _ hn (by decide)).mono ?_; rintro e w' ⟨rfl, rfl⟩)
    | (at_builtin; go_loud (with_reducible refine wpList_append_rd _ ?_ (.const (.slice none 0 0)) (.tmp 31) 23 ?_ elemU8 Tryd.underlying23 w.heap.size (.slice none 0 0) [] ?_ (Own.nil _ _ _ _) v xs ?_ hr ?_ ?_ ?_ ?_); go_loud (rfl); go_loud (rfl); go_loud (rfl); go_loud (rfl); (simp; omega); (simp; unfold maxLen; omega); (exact Nat.le_refl _); intro v1 w1 hown hgr))
  have hb1 : Below w.heap.size w w1 := (Below.refl _ _).grown hgr (Nat.le_refl _) (by simp [Value.ownBlock])
  have hown1 : Own .u8 5 w1 w.heap.size v1 (xs ++ (be (bm8 n).toNat 8).take (8 - 8)) := by simpa using hown
  clear hown hgr hr hf
  go_loopw [8, 9] (fun o i wr => ∃ k : Nat, k ≤ 8 ∧ i = .int .i64 ((k : Int) - 1) ∧ Own .u8 5 wr w.heap.size o (xs ++ (be (bm8 n).toNat 8).take (8 - k)) ∧ Below w.heap.size w wr) (fun _ i _ => (intOf i + 1).toNat)
  case atStart => exact ⟨8, Nat.le_refl _, rfl, hown1, hb1⟩
  case round =>
    obtain ⟨k, hk, rfl, hown, hb⟩ := hrel
    clear hown1 hb1
    have hsz := hb.size
    by_cases hk0 : k = 0
    · subst hk0
      go_wp2
      go_ret2
      exact ⟨_, rfl, by simpa [be_all] using hown, hb⟩
    · have hkk : k = 1 ∨ k = 2 ∨ k = 3 ∨ k = 4 ∨ k = 5 ∨ k = 6 ∨ k = 7 ∨ k = 8 := by omega
      clear hk hk0
      rcases hkk with rfl | rfl | rfl | rfl | rfl | rfl | rfl | rfl
      · have HH := Lib.hid (rlow_8_0 n h0 h1)
        have HT := Lib.hid (be_take (bm8 n).toNat 8 7 (by decide))
        go_wp2_with (first
          | (go_at_call 68; refine (mark_is _ 3 (by decide) _ (by decide)).mono ?_; rintro e w' ⟨rfl, rfl⟩)
          | (at_builtin; go_loud ((with_reducible refine wpList_append_rd _ ?_ (.tmp 54) (.tmp 56) 23 ?_ elemU8 Tryd.underlying23 w.heap.size _ _ ?_ (hown.alloc _) _ _ ?_ (Rd.one _ _ _ _) ?_ ?_ ?_ ?_)); rfl; rfl; rfl; rfl; (simp; omega); (simp; unfold maxLen; omega); (simp; omega); intro v2 w2 hown2 hgr2))
        have hown3 : Own .u8 5 w2 w.heap.size v2 (xs ++ (be (bm8 n).toNat 8).take (8 - 0)) := by
          have e : 8 - 0 = 7 + 1 := rfl
          rw [e, HT.out, ← List.append_assoc, ← HH.out]
          exact hown2
        have hb2 : Below w.heap.size w w2 := (hb.alloc (by omega) _).grown hgr2 (by simp; omega) hown.blk
        clear hown2 hgr2 hown hb
        go_wp2
        go_roundw
        case rel => exact ⟨0, by decide, rfl, hown3, hb2⟩
        case measure => simp [intOf]
      · have HH := Lib.hid (rlow_8_1 n h0 h1)
        have HT := Lib.hid (be_take (bm8 n).toNat 8 6 (by decide))
        go_wp2_with (first
          | (go_at_call 68; refine (mark_is _ 3 (by decide) _ (by decide)).mono ?_; rintro e w' ⟨rfl, rfl⟩)
          | (at_builtin; go_loud ((with_reducible refine wpList_append_rd _ ?_ (.tmp 54) (.tmp 56) 23 ?_ elemU8 Tryd.underlying23 w.heap.size _ _ ?_ (hown.alloc _) _ _ ?_ (Rd.one _ _ _ _) ?_ ?_ ?_ ?_)); rfl; rfl; rfl; rfl; (simp; omega); (simp; unfold maxLen; omega); (simp; omega); intro v2 w2 hown2 hgr2))
        have hown3 : Own .u8 5 w2 w.heap.size v2 (xs ++ (be (bm8 n).toNat 8).take (8 - 1)) := by
          have e : 8 - 1 = 6 + 1 := rfl
          rw [e, HT.out, ← List.append_assoc, ← HH.out]
          exact hown2
        have hb2 : Below w.heap.size w w2 := (hb.alloc (by omega) _).grown hgr2 (by simp; omega) hown.blk
        clear hown2 hgr2 hown hb
        go_wp2
        go_roundw
        case rel => exact ⟨1, by decide, rfl, hown3, hb2⟩
        case measure => simp [intOf]
      · have HH := Lib.hid (rlow_8_2 n h0 h1)
        have HT := Lib.hid (be_take (bm8 n).toNat 8 5 (by decide))
        go_wp2_with (first
          | (go_at_call 68; refine (mark_is _ 3 (by decide) _ (by decide)).mono ?_; rintro e w' ⟨rfl, rfl⟩)
          | (at_builtin; go_loud ((with_reducible refine wpList_append_rd _ ?_ (.tmp 54) (.tmp 56) 23 ?_ elemU8 Tryd.underlying23 w.heap.size _ _ ?_ (hown.alloc _) _ _ ?_ (Rd.one _ _ _ _) ?_ ?_ ?_ ?_)); rfl; rfl; rfl; rfl; (simp; omega); (simp; unfold maxLen; omega); (simp; omega); intro v2 w2 hown2 hgr2))
        have hown3 : Own .u8 5 w2 w.heap.size v2 (xs ++ (be (bm8 n).toNat 8).take (8 - 2)) := by
          have e : 8 - 2 = 5 + 1 := rfl
          rw [e, HT.out, ← List.append_assoc, ← HH.out]
          exact hown2
        have hb2 : Below w.heap.size w w2 := (hb.alloc (by omega) _).grown hgr2 (by simp; omega) hown.blk
        clear hown2 hgr2 hown hb
        go_wp2
        go_roundw
        case rel => exact ⟨2, by decide, rfl, hown3, hb2⟩
        case measure => simp [intOf]
      · have HH := Lib.hid (rlow_8_3 n h0 h1)
        have HT := Lib.hid (be_take (bm8 n).toNat 8 4 (by decide))
        go_wp2_with (first
          | (go_at_call 68; refine (mark_is _ 3 (by decide) _ (by decide)).mono ?_; rintro e w' ⟨rfl, rfl⟩)
          | (at_builtin; go_loud ((with_reducible refine wpList_append_rd _ ?_ (.tmp 54) (.tmp 56) 23 ?_ elemU8 Tryd.underlying23 w.heap.size _ _ ?_ (hown.alloc _) _ _ ?_ (Rd.one _ _ _ _) ?_ ?_ ?_ ?_)); rfl; rfl; rfl; rfl; (simp; omega); (simp; unfold maxLen; omega); (simp; omega); intro v2 w2 hown2 hgr2))
        have hown3 : Own .u8 5 w2 w.heap.size v2 (xs ++ (be (bm8 n).toNat 8).take (8 - 3)) := by
          have e : 8 - 3 = 4 + 1 := rfl
          rw [e, HT.out, ← List.append_assoc, ← HH.out]
          exact hown2
        have hb2 : Below w.heap.size w w2 := (hb.alloc (by omega) _).grown hgr2 (by simp; omega) hown.blk
        clear hown2 hgr2 hown hb
        go_wp2
        go_roundw
        case rel => exact ⟨3, by decide, rfl, hown3, hb2⟩
        case measure => simp [intOf]
      · have HH := Lib.hid (rlow_8_4 n h0 h1)
        have HT := Lib.hid (be_take (bm8 n).toNat 8 3 (by decide))
        go_wp2_with (first
          | (go_at_call 68; refine (mark_is _ 3 (by decide) _ (by decide)).mono ?_; rintro e w' ⟨rfl, rfl⟩)
          | (at_builtin; go_loud ((with_reducible refine wpList_append_rd _ ?_ (.tmp 54) (.tmp 56) 23 ?_ elemU8 Tryd.underlying23 w.heap.size _ _ ?_ (hown.alloc _) _ _ ?_ (Rd.one _ _ _ _) ?_ ?_ ?_ ?_)); rfl; rfl; rfl; rfl; (simp; omega); (simp; unfold maxLen; omega); (simp; omega); intro v2 w2 hown2 hgr2))
        have hown3 : Own .u8 5 w2 w.heap.size v2 (xs ++ (be (bm8 n).toNat 8).take (8 - 4)) := by
          have e : 8 - 4 = 3 + 1 := rfl
          rw [e, HT.out, ← List.append_assoc, ← HH.out]
          exact hown2
        have hb2 : Below w.heap.size w w2 := (hb.alloc (by omega) _).grown hgr2 (by simp; omega) hown.blk
        clear hown2 hgr2 hown hb
        go_wp2
        go_roundw
        case rel => exact ⟨4, by decide, rfl, hown3, hb2⟩
        case measure => simp [intOf]
      · have HH := Lib.hid (rlow_8_5 n h0 h1)
        have HT := Lib.hid (be_take (bm8 n).toNat 8 2 (by decide))
        go_wp2_with (first
          | (go_at_call 68; refine (mark_is _ 3 (by decide) _ (by decide)).mono ?_; rintro e w' ⟨rfl, rfl⟩)
          | (at_builtin; go_loud ((with_reducible refine wpList_append_rd _ ?_ (.tmp 54) (.tmp 56) 23 ?_ elemU8 Tryd.underlying23 w.heap.size _ _ ?_ (hown.alloc _) _ _ ?_ (Rd.one _ _ _ _) ?_ ?_ ?_ ?_)); rfl; rfl; rfl; rfl; (simp; omega); (simp; unfold maxLen; omega); (simp; omega); intro v2 w2 hown2 hgr2))
        have hown3 : Own .u8 5 w2 w.heap.size v2 (xs ++ (be (bm8 n).toNat 8).take (8 - 5)) := by
          have e : 8 - 5 = 2 + 1 := rfl
          rw [e, HT.out, ← List.append_assoc, ← HH.out]
          exact hown2
        have hb2 : Below w.heap.size w w2 := (hb.alloc (by omega) _).grown hgr2 (by simp; omega) hown.blk
        clear hown2 hgr2 hown hb
        go_wp2
        go_roundw
        case rel => exact ⟨5, by decide, rfl, hown3, hb2⟩
        case measure => simp [intOf]
      · have HH := Lib.hid (rlow_8_6 n h0 h1)
        have HT := Lib.hid (be_take (bm8 n).toNat 8 1 (by decide))
        go_wp2_with (first
          | (go_at_call 68; refine (mark_is _ 3 (by decide) _ (by decide)).mono ?_; rintro e w' ⟨rfl, rfl⟩)
          | (at_builtin; go_loud ((with_reducible refine wpList_append_rd _ ?_ (.tmp 54) (.tmp 56) 23 ?_ elemU8 Tryd.underlying23 w.heap.size _ _ ?_ (hown.alloc _) _ _ ?_ (Rd.one _ _ _ _) ?_ ?_ ?_ ?_)); rfl; rfl; rfl; rfl; (simp; omega); (simp; unfold maxLen; omega); (simp; omega); intro v2 w2 hown2 hgr2))
        have hown3 : Own .u8 5 w2 w.heap.size v2 (xs ++ (be (bm8 n).toNat 8).take (8 - 6)) := by
          have e : 8 - 6 = 1 + 1 := rfl
          rw [e, HT.out, ← List.append_assoc, ← HH.out]
          exact hown2
        have hb2 : Below w.heap.size w w2 := (hb.alloc (by omega) _).grown hgr2 (by simp; omega) hown.blk
        clear hown2 hgr2 hown hb
        go_wp2
        go_roundw
        case rel => exact ⟨6, by decide, rfl, hown3, hb2⟩
        case measure => simp [intOf]
      · have HH := Lib.hid (rbyte_8 n h0 h1)
        have HT := Lib.hid (be_take (bm8 n).toNat 8 0 (by decide))
        have hor : bits .or .u8 (n / 72057594037927936) 192 = 192 + n / 72057594037927936 := ror_8 _ (by omega) (by omega)
        go_wp2_with (first
          | (go_at_call 68; refine (mark_is _ 3 (by decide) _ (by decide)).mono ?_; rintro e w' ⟨rfl, rfl⟩)
          | (at_builtin; go_loud ((with_reducible refine wpList_append_rd _ ?_ (.tmp 54) (.tmp 56) 23 ?_ elemU8 Tryd.underlying23 w.heap.size _ _ ?_ (hown.alloc _) _ _ ?_ (Rd.one _ _ _ _) ?_ ?_ ?_ ?_)); rfl; rfl; rfl; rfl; (simp; omega); (simp; unfold maxLen; omega); (simp; omega); intro v2 w2 hown2 hgr2))
        have hown3 : Own .u8 5 w2 w.heap.size v2 (xs ++ (be (bm8 n).toNat 8).take (8 - 7)) := by
          have e : 8 - 7 = 0 + 1 := rfl
          rw [e, HT.out, ← List.append_assoc, ← HH.out]
          exact hown2
        have hb2 : Below w.heap.size w w2 := (hb.alloc (by omega) _).grown hgr2 (by simp; omega) hown.blk
        clear hown2 hgr2 hown hb
        go_wp2
        go_roundw
        case rel => exact ⟨7, by decide, rfl, hown3, hb2⟩
        case measure => simp [intOf]
end Go.Proofs.YtfkkimaebhjneaaDoor
