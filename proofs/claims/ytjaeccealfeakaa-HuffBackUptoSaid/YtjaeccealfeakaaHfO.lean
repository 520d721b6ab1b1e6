/- Walks of layer 12: alive; the laws Encodes, Decodes, Words. -/
import Derived.Test.YtjaeccealfeakaaHfN
set_option maxRecDepth 100000
set_option linter.unusedSimpArgs false
set_option linter.unusedVariables false
namespace Go.Proofs.Ytjaeccealfeakaa
open Go.RowKit

theorem right3 : RightL [1, 2, 3] := by decide
theorem has3 : HasN (wordsN ([1, 2, 3].map Int.toNat)) [1, 0, 2] := by
  have : ∀ s ∈ ([1, 0, 2] : List Int), s.toNat < (wordsN ([1, 2, 3].map Int.toNat)).length ∧ ((wordsN ([1, 2, 3].map Int.toNat)).getD s.toNat (0, 0)).2 ≠ 0 := by decide
  exact this
theorem enc3 : fillN (encN (wordsN ([1, 2, 3].map Int.toNat)) [1, 0, 2]) = unp [155] := by decide
theorem dec3 : decN (wordsN ([1, 2, 3].map Int.toNat)) (unp [155]) 0 0 = some [1, 0, 2] := by decide
theorem bts1 : Bts [155] := by intro x hx; simp at hx; omega
theorem bts3 : Bts [1, 0, 2] := by intro x hx; simp at hx; omega

set_option maxHeartbeats 4000000 in
theorem alive_any (w : World) : Calls Try.prog 19 #[] w (Yes w) := by
  have HE : Hid (∀ (v u : Value) (W : World), Rd .i64 W v [1, 2, 3] → Rd .u8 W u [1, 0, 2] → Calls Try.prog 20 #[v, u] W fun e w' => ∃ o, e = .returned (.tuple #[o, .int .i64 0]) ∧ Rd .u8 w' o [155] ∧ Below W.heap.size W w') := fun v u W h1 h2 => (enc_yes v u [1, 2, 3] [1, 0, 2] W h1 h2 bts3 (by decide) right3).mono fun e w' h => by
    obtain ⟨hb, ⟨_, o, l, rfl, hr, ht, he⟩ | ⟨hn, _⟩⟩ := h
    · refine ⟨o, rfl, ?_, hb⟩
      rw [enc3] at he
      rw [← unp_inj ht bts1 he]; exact hr
    · exact absurd has3 hn
  have HD : Hid (∀ (v u : Value) (W : World), Rd .i64 W v [1, 2, 3] → Rd .u8 W u [155] → Calls Try.prog 23 #[v, u] W fun e w' => ∃ o, e = .returned (.tuple #[o, .int .i64 0]) ∧ Rd .u8 w' o [1, 0, 2] ∧ Below W.heap.size W w') := fun v u W h1 h2 => (dec_yes v u [1, 2, 3] [155] W h1 h2 bts1 (by decide) right3).mono fun e w' h => by
    rw [dec3] at h
    obtain ⟨hb, ⟨ys, o, e1, rfl, hr, _⟩ | ⟨e1, _⟩⟩ := h
    · cases e1; exact ⟨o, rfl, hr, hb⟩
    · cases e1
  have HR : Hid (∀ (v : Value) (W : World), Rd .i64 W v [1, 2, 3] → Calls Try.prog 14 #[v] W fun e w' => e = .returned (.bool true) ∧ W = w') := fun v W h => by
    have := right_any v [1, 2, 3] W h
    rw [decide_eq_true right3] at this
    exact this
  have L0 := Lib.hid (Rd.lit (k := .i64) (e := 3) (w := w) [1, 2, 3] (by simp) 3 rfl (by decide) #[.int .i64 1, .int .i64 2, .int .i64 3] rfl)
  have B0 := Lib.hid ((Below.refl w.heap.size w).alloc (Nat.le_refl _) (.cells #[.int .i64 1, .int .i64 2, .int .i64 3] 3))
  go_enter Try.func19, Try.ntmps19
  go_upto_region 2 with fail
  have hz0 : w.heap.size < (w.alloc (.cells #[.int .i64 1, .int .i64 2, .int .i64 3] 3)).heap.size := by simp
  generalize w.alloc _ = w1 at *
  have S1 := Lib.hid (Rd.lit (k := .u8) (e := 5) (w := w1) [1, 0, 2] (by simp) 3 rfl (by decide) #[.int .u8 1, .int .u8 0, .int .u8 2] rfl)
  have L1 := Lib.hid (L0.out.below ((Below.refl w1.heap.size w1).alloc (Nat.le_refl _) (.cells #[.int .u8 1, .int .u8 0, .int .u8 2] 5)))
  have B1 := Lib.hid (B0.out.alloc B0.out.size (.cells #[.int .u8 1, .int .u8 0, .int .u8 2] 5))
  go_wp2_with fail
  refine (HE.out _ _ _ L1.out S1.out).mono ?_
  rintro e w2 ⟨b, rfl, hr, hb⟩
  have L2 := Lib.hid (L1.out.below hb)
  have R2 := Lib.hid hr
  have B2 := Lib.hid (B1.out.trans (hb.mono B1.out.size))
  clear hr hb L0 L1 S1 B0 B1
  go_upto_region 3 with fail
  have S3 := Lib.hid (Rd.one .u8 5 w2 155)
  have X3 := (Below.refl w2.heap.size w2).alloc (Nat.le_refl _) (.cells #[.int .u8 155] 5)
  have L3 := Lib.hid (L2.out.below X3)
  have R3 := Lib.hid (R2.out.below X3)
  have B3 := Lib.hid (B2.out.alloc B2.out.size (.cells #[.int .u8 155] 5))
  clear X3
  go_wp2_with fail
  refine (HD.out _ _ _ L3.out S3.out).mono ?_
  rintro e w4 ⟨c, rfl, hr, hb⟩
  have L4 := Lib.hid (L3.out.below hb)
  have R4 := Lib.hid (R3.out.below hb)
  have C4 := Lib.hid hr
  have B4 := Lib.hid (B3.out.trans (hb.mono B3.out.size))
  clear hr hb L2 R2 B2 L3 R3 S3 B3
  go_upto_region 4 with fail
  have S5 := Lib.hid (Rd.one .u8 5 w4 155)
  have X5 := (Below.refl w4.heap.size w4).alloc (Nat.le_refl _) (.cells #[.int .u8 155] 5)
  have L5 := Lib.hid (L4.out.below X5)
  have R5 := Lib.hid (R4.out.below X5)
  have C5 := Lib.hid (C4.out.below X5)
  have B5 := Lib.hid (B4.out.alloc B4.out.size (.cells #[.int .u8 155] 5))
  clear X5
  go_wp2_with fail
  refine (same_yes b _ [155] _ R5.out S5.out bts1).mono ?_
  rintro e w5 ⟨rfl, rfl⟩
  have S6 := Lib.hid (Rd.lit' (k := .u8) (e := 5) (w := w4.alloc (.cells #[.int .u8 155] 5)) [1, 0, 2] (by simp) 3 (w4.heap.size + 1) rfl (by decide) #[.int .u8 1, .int .u8 0, .int .u8 2] rfl (by simp))
  have X6 := (Below.refl (w4.alloc (.cells #[.int .u8 155] 5)).heap.size (w4.alloc (.cells #[.int .u8 155] 5))).alloc (Nat.le_refl _) (.cells #[.int .u8 1, .int .u8 0, .int .u8 2] 5)
  have L6 := Lib.hid (L5.out.below X6)
  have C6 := Lib.hid (C5.out.below X6)
  have B6 := Lib.hid (B5.out.alloc B5.out.size (.cells #[.int .u8 1, .int .u8 0, .int .u8 2] 5))
  clear X6
  go_wp2_with fail
  refine (same_yes c _ [1, 0, 2] _ C6.out S6.out bts3).mono ?_
  rintro e w6 ⟨rfl, rfl⟩
  go_wp2_with fail
  refine (HR.out _ _ L6.out).mono ?_
  rintro e w7 ⟨rfl, rfl⟩
  go_wp2_with fail
  go_ret
  exact ⟨rfl, B6.out⟩
end Go.Proofs.Ytjaeccealfeakaa
