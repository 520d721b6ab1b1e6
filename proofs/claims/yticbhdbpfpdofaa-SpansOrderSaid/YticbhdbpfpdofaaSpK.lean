/- Walks of layer 5: alive. -/
import Derived.Test.YticbhdbpfpdofaaSpE2
import Derived.Test.YticbhdbpfpdofaaSpD
set_option linter.unusedSimpArgs false
set_option linter.unusedVariables false
namespace Go.Proofs.Yticbhdbpfpdofaa
open Go.RowKit

theorem live_add : addE [(1, 3), (7, 9)] 4 6 = ([(1, 9)], 0) := by decide +kernel
theorem live_right : rightB [(1, 3), (7, 9)] = true := by decide +kernel
theorem live_count : countI [(1, 3), (7, 9)] = 6 := by decide +kernel
theorem live_has : (rightB [(1, 3), (7, 9)] && inB 8 [(1, 3), (7, 9)]) = true := by decide +kernel

set_option maxHeartbeats 1600000 in
theorem alive_any (w : World) : Calls Try.prog 16 #[] w (Yes w) := by
  have b1 : Below w.heap.size w (w.alloc (.cells #[.int .i64 1, .int .i64 3, .int .i64 7, .int .i64 9] 42)) := (Below.refl _ _).alloc (Nat.le_refl _) _
  have s1 : RdS (w.alloc (.cells #[.int .i64 1, .int .i64 3, .int .i64 7, .int .i64 9] 42)) (.slice (some ⟨w.heap.size, 0, none⟩) 2 2) [(1, 3), (7, 9)] := by
    refine ⟨rfl, .inr ⟨by decide, w.heap.size, 0, 2, rfl, Nat.le_refl _, by decide, by simp, fun j u hu => ?_⟩⟩
    rw [World.cell?_alloc_at _ _ _ _ rfl, Nat.zero_add]
    simpa [spC, spCell] using hu
  have S1 := Lib.hid s1
  have B1 := Lib.hid b1
  have HA := Lib.hid (add_any _ _ 4 6 _ s1)
  rw [live_add] at HA
  clear b1 s1
  go_enter Try.func16, Try.ntmps16
  go_wp2_with fail
  refine HA.out.mono ?_
  rintro e w2 ⟨v2, rfl, o2, b2⟩
  have B2 := Lib.hid (B1.out.trans (b2.mono B1.out.size))
  have S2 := Lib.hid (S1.out.below b2)
  obtain ⟨a2, n2, c2, rfl⟩ : ∃ a n c, v2 = .slice a n c := by obtain ⟨a, c, h, _⟩ := o2.slice; exact ⟨a, _, c, h⟩
  have O2 := Lib.hid (o2.rd.below ((Below.refl _ _).alloc (Nat.le_refl _) (.cells #[.int .i64 1, .int .i64 9] 42)))
  have R2 := Lib.hid (reads_built w2 1 9)
  have B3 := Lib.hid (B2.out.alloc B2.out.size (.cells #[.int .i64 1, .int .i64 9] 42))
  have S3 := Lib.hid (S2.out.below ((Below.refl _ _).alloc (Nat.le_refl _) (.cells #[.int .i64 1, .int .i64 9] 42)))
  clear o2 b2
  go_wp2_with fail
  refine (rsame_any _ _ _ _ _ O2.out R2.out).mono ?_
  rw [show decide ([((1 : Int), (9 : Int))] = [(1, 9)]) = true from rfl]
  rintro e w4 ⟨rfl, b4⟩
  have B4 := Lib.hid (B3.out.trans (b4.mono B3.out.size))
  have S4 := Lib.hid (S3.out.below b4)
  clear b4
  go_wp2_with fail
  refine (right_any _ _ _ S4.out).mono ?_
  rw [live_right]
  rintro e w5 ⟨rfl, b5⟩
  have B5 := Lib.hid (B4.out.trans (b5.mono B4.out.size))
  have S5 := Lib.hid (S4.out.below b5)
  clear b5
  go_wp2_with fail
  refine (count_any _ _ _ S5.out).mono ?_
  rw [live_count]
  rintro e w6 ⟨rfl, b6⟩
  have B6 := Lib.hid (B5.out.trans (b6.mono B5.out.size))
  have S6 := Lib.hid (S5.out.below b6)
  clear b6
  go_wp2_with fail
  refine (has_any _ _ 8 _ S6.out).mono ?_
  rw [live_has]
  rintro e w7 ⟨rfl, b7⟩
  have B7 := Lib.hid (B6.out.trans (b7.mono B6.out.size))
  clear b7
  go_wp2
  go_ret
  exact ⟨rfl, B7.out⟩
end Go.Proofs.Yticbhdbpfpdofaa
