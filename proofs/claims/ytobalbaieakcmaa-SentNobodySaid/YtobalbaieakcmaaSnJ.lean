/- Walks of layer 8: ledgers that nobody made. -/
import Derived.Test.YtobalbaieakcmaaSnY
set_option linter.unusedSimpArgs false
set_option linter.unusedVariables false
namespace Go.Proofs.Ytobalbaieakcmaa
open Go.RowKit Go.Maps

/-- p leads to no ledger that New gave, in w and in what grows out of it -/
def NoOne (p : Option Addr) (w : World) : Prop := ∀ W, Below w.heap.size w W → Calls Try.prog 26 #[.pointer p] W fun e w' => e = .returned (.bool false) ∧ w' = W
theorem NoOne.below {p : Option Addr} {w w' : World} (h : NoOne p w) (hb : Below w.heap.size w w') : NoOne p w' := fun W hW => h W (hb.trans (hW.mono hb.size))
theorem noOne_nil (w : World) : NoOne none w := fun W _ => made_nil W
theorem noOne_zero (b : Nat) (w : World) (hb : b < w.heap.size) (c0 : w.cell? ⟨b, 0, none⟩ = some (.map none)) : NoOne (some ⟨b, 0, none⟩) w := fun W hW => made_zero b W ((hW.cell (p := ⟨b, 0, none⟩) hb).trans c0)

set_option maxRecDepth 100000 in
theorem sent_no (p : Option Addr) (n t s : Int) (w : World) (h : NoOne p w) : Calls Try.prog 11 #[.pointer p, .int .i64 n, .int .i64 t, .int .i64 s] w fun e w' => e = .returned (.int .i64 2) ∧ w' = w := by
  have H := Lib.hid (h w (Below.refl _ _))
  clear h
  go_enter Try.func11, Try.ntmps11
  go_wp2_with (go_at_call 26; refine H.out.mono ?_; rintro e w2 ⟨rfl, rfl⟩)
  go_ret
  exact ⟨rfl, rfl⟩
set_option maxRecDepth 100000 in
theorem ack_no (p : Option Addr) (v : Value) (n m : Int) (w : World) (hv : ∃ a l c, v = .slice a l c) (h : NoOne p w) : Calls Try.prog 13 #[.pointer p, v, .int .i64 n, .int .i64 m] w fun e w' => e = .returned (.tuple #[.slice none 0 0, .slice none 0 0, .int .i64 2]) ∧ Below w.heap.size w w' := by
  obtain ⟨a, l, c, rfl⟩ := hv
  have BB := Lib.hid (below_one w (.cells #[.slice a l c] 30))
  have H := Lib.hid (h _ BB.out)
  clear h
  go_enter Try.func13, Try.ntmps13
  go_wp2_with (go_at_call 26; refine H.out.mono ?_; rintro e w2 ⟨rfl, rfl⟩)
  go_ret3
  exact ⟨rfl, BB.out⟩
theorem box3p_below (w : World) (p : Option Addr) (n m : Int) : Below w.heap.size w (((w.alloc (.cells #[.pointer p] 23)).alloc (.cells #[.int .i64 n] 3)).alloc (.cells #[.int .i64 m] 3)) := (((Below.refl _ w).alloc (Nat.le_refl _) _).alloc (by simp) _).alloc (by simp; omega) _
theorem box3p_cell (w : World) (p : Option Addr) (n m : Int) : (((w.alloc (.cells #[.pointer p] 23)).alloc (.cells #[.int .i64 n] 3)).alloc (.cells #[.int .i64 m] 3)).cell? ⟨w.heap.size, 0, none⟩ = some (.pointer p) := by
  have e : (((w.alloc (.cells #[.pointer p] 23)).alloc (.cells #[.int .i64 n] 3)).alloc (.cells #[.int .i64 m] 3)).heap[w.heap.size]? = some (.cells #[.pointer p] 23 (0, 0)) := by
    show (((w.heap.push _).push _).push _)[w.heap.size]? = _
    rw [Array.getElem?_push, if_neg (by simp; omega), Array.getElem?_push, if_neg (by simp), Array.getElem?_push, if_pos rfl]
  simp [World.cell?, e]
set_option maxRecDepth 100000 in
theorem lose_no (p : Option Addr) (n m : Int) (w : World) (h : NoOne p w) : Calls Try.prog 17 #[.pointer p, .int .i64 n, .int .i64 m] w fun e w' => e = .returned (.slice none 0 0) ∧ Below w.heap.size w w' := by
  have BB := Lib.hid (box3p_below w p n m)
  have HC := Lib.hid (box3p_cell w p n m)
  have H := Lib.hid (h _ BB.out)
  clear h
  go_enter Try.func17, Try.ntmps17
  go_upto_region 1 with fail
  have c0 := HC.out
  generalize ((w.alloc (.cells #[.pointer p] 23)).alloc (.cells #[.int .i64 n] 3)).alloc (.cells #[.int .i64 m] 3) = W at *
  go_wp2_with (go_at_call 26; refine H.out.mono ?_; rintro e w2 ⟨rfl, rfl⟩)
  go_ret
  exact ⟨rfl, BB.out⟩
set_option maxRecDepth 100000 in
theorem due_no (p : Option Addr) (m : Int) (w : World) (h : NoOne p w) : Calls Try.prog 19 #[.pointer p, .int .i64 m] w fun e w' => e = .returned (.int .i64 (-1)) ∧ w' = w := by
  have H := Lib.hid (h w (Below.refl _ _))
  clear h
  go_enter Try.func19, Try.ntmps19
  go_wp2_with (go_at_call 26; refine H.out.mono ?_; rintro e w2 ⟨rfl, rfl⟩)
  go_ret
  exact ⟨rfl, rfl⟩
set_option maxRecDepth 100000 in
theorem out_no (p : Option Addr) (w : World) (h : NoOne p w) : Calls Try.prog 24 #[.pointer p] w fun e w' => e = .returned (.slice none 0 0) ∧ w' = w := by
  have H := Lib.hid (h w (Below.refl _ _))
  clear h
  go_enter Try.func24, Try.ntmps24
  go_wp2_with (go_at_call 26; refine H.out.mono ?_; rintro e w2 ⟨rfl, rfl⟩)
  go_ret
  exact ⟨rfl, rfl⟩
set_option maxRecDepth 100000 in
theorem largest_no (p : Option Addr) (w : World) (h : NoOne p w) : Calls Try.prog 23 #[.pointer p] w fun e w' => e = .returned (.int .i64 (-1)) ∧ w' = w := by
  have H := Lib.hid (h w (Below.refl _ _))
  clear h
  go_enter Try.func23, Try.ntmps23
  go_wp2_with (go_at_call 26; refine H.out.mono ?_; rintro e w2 ⟨rfl, rfl⟩)
  go_ret
  exact ⟨rfl, rfl⟩
set_option maxRecDepth 100000 in
theorem drop_no (p : Option Addr) (w : World) (h : NoOne p w) : Calls Try.prog 21 #[.pointer p] w fun e w' => e = .returned (.slice none 0 0) ∧ w' = w := by
  have H := Lib.hid (h w (Below.refl _ _))
  clear h
  go_enter Try.func21, Try.ntmps21
  go_wp2_with (go_at_call 26; refine H.out.mono ?_; rintro e w2 ⟨rfl, rfl⟩)
  go_ret
  exact ⟨rfl, rfl⟩
end Go.Proofs.Ytobalbaieakcmaa
