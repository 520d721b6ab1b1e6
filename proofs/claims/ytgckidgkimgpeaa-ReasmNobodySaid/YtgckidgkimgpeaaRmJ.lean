/- Walks of layer 9: streams that nobody made. -/
import Derived.Test.YtgckidgkimgpeaaRmO
set_option linter.unusedSimpArgs false
set_option linter.unusedVariables false
namespace Go.Proofs.Ytgckidgkimgpeaa
open Go.RowKit

/-- p leads to no stream that New gave, in w and in what grows out of it -/
def NoOne (p : Option Addr) (w : World) : Prop := ∀ W, Below w.heap.size w W → Calls Try.prog 22 #[.pointer p] W fun e w' => e = .returned (.bool false) ∧ w' = W
theorem NoOne.below {p : Option Addr} {w w' : World} (h : NoOne p w) (hb : Below w.heap.size w w') : NoOne p w' := fun W hW => h W (hb.trans (hW.mono hb.size))
theorem noOne_nil (w : World) : NoOne none w := fun W _ => made_nil W
theorem noOne_zero (b : Nat) (w : World) (hb : b < w.heap.size) (c0 : w.cell? ⟨b, 0, none⟩ = some (.slice none 0 0)) : NoOne (some ⟨b, 0, none⟩) w := fun W hW => made_zero b W ((hW.cell (p := ⟨b, 0, none⟩) hb).trans c0)
set_option maxRecDepth 100000 in
theorem data_no (p : Option Addr) (off : Int) (v : Value) (fin : Bool) (w : World) (h : NoOne p w) : Calls Try.prog 10 #[.pointer p, .int .i64 off, v, .bool fin] w fun e w' => e = .returned (.int .i64 2) ∧ w' = w := by
  have H := Lib.hid (h w (Below.refl _ _))
  clear h
  go_enter Try.func10, Try.ntmps10
  go_wp2_with (go_at_call 22; refine H.out.mono ?_; rintro e w2 ⟨rfl, h⟩; obtain rfl : w = w2 := h.symm)
  go_ret
  exact ⟨rfl, rfl⟩
set_option maxRecDepth 100000 in
theorem reset_no (p : Option Addr) (x : Int) (w : World) (h : NoOne p w) : Calls Try.prog 15 #[.pointer p, .int .i64 x] w fun e w' => e = .returned (.int .i64 2) ∧ w' = w := by
  have H := Lib.hid (h w (Below.refl _ _))
  clear h
  go_enter Try.func15, Try.ntmps15
  go_wp2_with (go_at_call 22; refine H.out.mono ?_; rintro e w2 ⟨rfl, h⟩; obtain rfl : w = w2 := h.symm)
  go_ret
  exact ⟨rfl, rfl⟩
set_option maxRecDepth 100000 in
theorem ready_no (p : Option Addr) (w : World) (h : NoOne p w) : Calls Try.prog 17 #[.pointer p] w fun e w' => e = .returned (.int .i64 0) ∧ w' = w := by
  have H := Lib.hid (h w (Below.refl _ _))
  clear h
  go_enter Try.func17, Try.ntmps17
  go_wp2_with (go_at_call 22; refine H.out.mono ?_; rintro e w2 ⟨rfl, h⟩; obtain rfl : w = w2 := h.symm)
  go_ret
  exact ⟨rfl, rfl⟩
set_option maxRecDepth 100000 in
theorem limit_no (p : Option Addr) (w : World) (h : NoOne p w) : Calls Try.prog 14 #[.pointer p] w fun e w' => e = .returned (.int .i64 0) ∧ w' = w := by
  have H := Lib.hid (h w (Below.refl _ _))
  clear h
  go_enter Try.func14, Try.ntmps14
  go_wp2_with (go_at_call 22; refine H.out.mono ?_; rintro e w2 ⟨rfl, h⟩; obtain rfl : w = w2 := h.symm)
  go_ret
  exact ⟨rfl, rfl⟩
set_option maxRecDepth 100000 in
theorem at_no (p : Option Addr) (w : World) (h : NoOne p w) : Calls Try.prog 18 #[.pointer p] w fun e w' => e = .returned (.int .i64 0) ∧ w' = w := by
  have H := Lib.hid (h w (Below.refl _ _))
  clear h
  go_enter Try.func18, Try.ntmps18
  go_wp2_with (go_at_call 22; refine H.out.mono ?_; rintro e w2 ⟨rfl, h⟩; obtain rfl : w = w2 := h.symm)
  go_ret
  exact ⟨rfl, rfl⟩
set_option maxRecDepth 100000 in
theorem held_no (p : Option Addr) (w : World) (h : NoOne p w) : Calls Try.prog 16 #[.pointer p] w fun e w' => e = .returned (.int .i64 0) ∧ w' = w := by
  have H := Lib.hid (h w (Below.refl _ _))
  clear h
  go_enter Try.func16, Try.ntmps16
  go_wp2_with (go_at_call 22; refine H.out.mono ?_; rintro e w2 ⟨rfl, h⟩; obtain rfl : w = w2 := h.symm)
  go_ret
  exact ⟨rfl, rfl⟩
set_option maxRecDepth 100000 in
theorem end_no (p : Option Addr) (w : World) (h : NoOne p w) : Calls Try.prog 20 #[.pointer p] w fun e w' => e = .returned (.tuple #[.int .i64 0, .bool false]) ∧ w' = w := by
  have H := Lib.hid (h w (Below.refl _ _))
  clear h
  go_enter Try.func20, Try.ntmps20
  go_wp2_with (go_at_call 22; refine H.out.mono ?_; rintro e w2 ⟨rfl, h⟩; obtain rfl : w = w2 := h.symm)
  go_ret2
  exact ⟨rfl, rfl⟩
set_option maxRecDepth 100000 in
theorem broken_no (p : Option Addr) (w : World) (h : NoOne p w) : Calls Try.prog 19 #[.pointer p] w fun e w' => e = .returned (.bool false) ∧ w' = w := by
  have H := Lib.hid (h w (Below.refl _ _))
  clear h
  go_enter Try.func19, Try.ntmps19
  go_wp2_with (go_at_call 22; refine H.out.mono ?_; rintro e w2 ⟨rfl, h⟩; obtain rfl : w = w2 := h.symm)
  go_ret
  exact ⟨rfl, rfl⟩
set_option maxRecDepth 100000 in
theorem over_no (p : Option Addr) (w : World) (h : NoOne p w) : Calls Try.prog 13 #[.pointer p] w fun e w' => e = .returned (.bool true) ∧ ∃ n, w' = w.drewN n := by
  have H := Lib.hid (fun n => h (w.drewN n) (below_drewN (Below.refl _ _) n))
  clear h
  go_enter Try.func13, Try.ntmps13
  go_wp2_with fail
  go_quiet (first | (go_at_call 22; refine Calls.quiet_of_same (H.out _)))
  go_wp2
  go_ret
  exact ⟨rfl, _, rfl⟩
set_option maxRecDepth 100000 in
theorem read_no (p : Option Addr) (n : Int) (w : World) (h : NoOne p w) : Calls Try.prog 11 #[.pointer p, .int .i64 n] w fun e w' => e = .returned (.slice none 0 0) ∧ w' = w := by
  have H := Lib.hid (ready_no p w h)
  clear h
  by_cases hn : 0 < n
  · have j1 : ¬ n < 0 := by omega
    go_enter Try.func11, Try.ntmps11
    go_wp2_with (go_at_call 17; refine H.out.mono ?_; rintro e w2 ⟨rfl, h⟩; obtain rfl : w = w2 := h.symm)
    go_ret
    exact ⟨rfl, rfl⟩
  · have j1 : n < 1 := by omega
    by_cases h0 : n = 0
    · subst h0
      go_enter Try.func11, Try.ntmps11
      go_wp2_with (go_at_call 17; refine H.out.mono ?_; rintro e w2 ⟨rfl, h⟩; obtain rfl : w = w2 := h.symm)
      go_ret
      exact ⟨rfl, rfl⟩
    · have j2 : n < 0 := by omega
      go_enter Try.func11, Try.ntmps11
      go_wp2_with (go_at_call 17; refine H.out.mono ?_; rintro e w2 ⟨rfl, h⟩; obtain rfl : w = w2 := h.symm)
      go_ret
      exact ⟨rfl, rfl⟩
end Go.Proofs.Ytgckidgkimgpeaa
