/- Walks of the small functions of layer 1 and of its reference: fits, room, mark, Size, Same. -/
import Derived.Test.YtfkkimaebhjneaaDoorGen
import Derived.Deep.QuietTactic
import Derived.BigQuiet
namespace Go.Proofs.YtfkkimaebhjneaaDoor
open Go.RowKit

/-- has n room in so many bytes? -/
def fitsB (n width : Int) : Bool := decide (0 ≤ n ∧ n < 2 ^ (8 * width - 2).toNat)

theorem fitsB_no {n width : Int} (h : n < 0) : fitsB n width = false := by
  simp only [fitsB, decide_eq_false_iff_not]; omega
theorem fits_any (n width : Int) (w : World) (hw : width = 1 ∨ width = 2 ∨ width = 4 ∨ width = 8) :
    Calls Tryd.prog 65 #[.int .i64 n, .int .i64 width] w fun e w' => e = .returned (.bool (fitsB n width)) ∧ w = w' := by
  by_cases h : 0 ≤ n
  · have h2 : decide (0 ≤ n) = true := by simp; omega
    rcases hw with rfl | rfl | rfl | rfl
    all_goals
      go_enter Tryd.func65, Tryd.ntmps65
      go_wp2
      go_ret
      refine ⟨?_, rfl⟩
      simp [fitsB, h]
  · have h2 : decide (0 ≤ n) = false := by simp; omega
    go_enter Tryd.func65, Tryd.ntmps65
    go_wp2
    go_ret
    exact ⟨ret_bool (fitsB_no h).symm, rfl⟩

theorem room_any (n width : Int) (w : World) (hi : n ≤ 9223372036854775807) (hw : width = 1 ∨ width = 2 ∨ width = 4 ∨ width = 8) :
    Calls Tryd.prog 67 #[.int .i64 n, .int .i64 width] w fun e w' => e = .returned (.bool (fitsB n width)) ∧ w = w' := by
  by_cases h : 0 ≤ n
  · have h2 : decide (0 ≤ n) = true := by simp; omega
    rcases hw with rfl | rfl | rfl | rfl
    all_goals
      go_enter Tryd.func67, Tryd.ntmps67
      go_wp2
      go_ret
      refine ⟨ret_bool ?_, rfl⟩
      simp only [fitsB, h, true_and]
      rw [Bool.eq_iff_iff, beq_iff_eq, decide_eq_true_iff]
      simp only [Int.reduceMul, Int.reduceSub, Int.reduceToNat, Int.reducePow]
      omega
  · have h2 : decide (0 ≤ n) = false := by simp; omega
    go_enter Tryd.func67, Tryd.ntmps67
    go_wp2
    go_ret
    exact ⟨ret_bool (fitsB_no h).symm, rfl⟩

def markOf (width : Int) : Int := if width = 1 then 0 else if width = 2 then 1 else if width = 4 then 2 else 3
theorem mark_any (width : Int) (w : World) (hw : width = 1 ∨ width = 2 ∨ width = 4 ∨ width = 8) :
    Calls Tryd.prog 68 #[.int .i64 width] w fun e w' => e = .returned (.int .i64 (markOf width)) ∧ w = w' := by
  rcases hw with rfl | rfl | rfl | rfl
  all_goals
    go_enter Tryd.func68, Tryd.ntmps68
    go_wp2
    go_rounds 4
    go_ret
    exact ⟨by simp [markOf], rfl⟩

theorem same_any (a b : Value) (xs ys : List Int) (w : World) (ha : Rd .u8 w a xs) (hb : Rd .u8 w b ys) (bx : Bts xs) (by_ : Bts ys) :
    Calls Tryd.prog 11 #[a, b] w fun e w' => e = .returned (.bool (decide (xs = ys))) ∧ w = w' := by
  have h1 := ha.conv Tryd.underlying23 Tryd.underlying5 Tryd.underlying9
  have h2 := hb.conv Tryd.underlying23 Tryd.underlying5 Tryd.underlying9
  have h3 := Lib.hid (str_eq' bx by_)
  clear ha hb bx by_
  go_enter Tryd.func11, Tryd.ntmps11
  go_wp2
  go_ret
  exact ⟨ret_bool h3.out, rfl⟩
end Go.Proofs.YtfkkimaebhjneaaDoor
