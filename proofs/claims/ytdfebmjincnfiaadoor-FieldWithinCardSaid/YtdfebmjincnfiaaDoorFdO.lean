/- Layer 17: the law's own example of directives. -/
import Derived.Test.YtdfebmjincnfiaaDoorFdN
set_option maxRecDepth 100000
set_option linter.unusedSimpArgs false
set_option linter.unusedVariables false
namespace Go.Proofs.YtdfebmjincnfiaaDoor
open Go.RowKit

theorem txt_eqd (l : List UInt8) (c : List UInt8) : ((txt l).toList == c) = decide (l = c) := by
  rw [txt_list]
  by_cases h : l = c <;> simp [h]
set_option maxHeartbeats 3200000 in
theorem note_max (a : List UInt8) (g : Bool) (b : Nat) (w : World) (hc : Cs w b ctl0) (ha : digs a = true) (hl : a.length ≤ 1048576) :
    Calls Tryd.prog 25 #[.pointer (some ⟨b, 0, none⟩), dirV maxAge a g] w fun e w' => e = .returned (.tuple #[]) ∧ Cs w' b (ctl0.set 6 (.int .i64 (secE a))) ∧ w.grownBy w' (some b) := by
  have q1 : ((txt maxAge).toList == [110, 111, 45, 115, 116, 111, 114, 101]) = false := by rw [txt_list]; decide
  have q2 : ((txt maxAge).toList == [110, 111, 45, 99, 97, 99, 104, 101]) = false := by rw [txt_list]; decide
  have q3 : ((txt maxAge).toList == [109, 117, 115, 116, 45, 114, 101, 118, 97, 108, 105, 100, 97, 116, 101]) = false := by rw [txt_list]; decide
  have q4 : ((txt maxAge).toList == [112, 114, 111, 120, 121, 45, 114, 101, 118, 97, 108, 105, 100, 97, 116, 101]) = false := by rw [txt_list]; decide
  have q5 : ((txt maxAge).toList == [112, 117, 98, 108, 105, 99]) = false := by rw [txt_list]; decide
  have q6 : ((txt maxAge).toList == [112, 114, 105, 118, 97, 116, 101]) = false := by rw [txt_list]; decide
  have q7 : ((txt maxAge).toList == [111, 110, 108, 121, 45, 105, 102, 45, 99, 97, 99, 104, 101, 100]) = false := by rw [txt_list]; decide
  have q8 : ((txt maxAge).toList == [109, 97, 120, 45, 97, 103, 101]) = true := by rw [txt_list]; decide
  have hlt := hc.lt
  have B1 := Lib.hid ((Below.refl w.heap.size w).alloc (Nat.le_refl _) (.cells #[.string (txt maxAge), .string (txt a), .bool g] 61))
  have C1 := Lib.hid (hc.below B1.out)
  have D1 : Hid (Cs (w.alloc (.cells #[.string (txt maxAge), .string (txt a), .bool g] 61)) w.heap.size [.string (txt maxAge), .string (txt a), .bool g]) := Cs.made w _ _
  clear hc
  have SE := Lib.hid (fun W => secs_any maxAge a g W ha hl)
  unfold dirV at SE ⊢
  generalize maxAge = nm at *
  go_enter Tryd.func25, Tryd.ntmps25
  go_upto_region 1 with fail
  generalize w.alloc (.cells #[.string (txt nm), .string (txt a), .bool g] 61) = W at B1 C1 D1 ⊢
  have n0 := D1.out.get 0 _ rfl
  have n1 := D1.out.get 1 _ rfl
  have n2 := D1.out.get 2 _ rfl
  have k6 := C1.out.get 6 _ rfl
  have z6 := C1.out.free 6
  go_upto_region 16 with fail
  have C1d : Hid (Cs W.drew b ctl0) := C1.out
  have B1d : Hid (Below w.heap.size w W.drew) := B1.out.drew
  have d0 : W.drew.cell? ⟨w.heap.size, 0, none⟩ = some (.string (txt nm)) := n0
  have d1 : W.drew.cell? ⟨w.heap.size, 1, none⟩ = some (.string (txt a)) := n1
  have d2 : W.drew.cell? ⟨w.heap.size, 2, none⟩ = some (.bool g) := n2
  go_region_law (first
    | (go_simp; go_at_call 40; refine (SE.out _).mono ?_; rintro e w5 ⟨rfl, hb5⟩; have B5 := Lib.hid hb5; clear hb5; have C5 : Hid (Cs w5 b ctl0) := C1d.out.below B5.out; have k5 := C5.out.get 6 _ rfl; have z5 := C5.out.free 6)
    | (go_simp; go_at_call 39; refine (first_any b 6 (secE a) _ k5 z5).mono ?_; rintro e w6 ⟨rfl, rfl⟩))
  all_goals go_wp2
  all_goals go_end0
  all_goals exact ⟨rfl, C5.out.set 6 (.int .i64 (secE a)), grownBy_trans (grownBy_of_below (B1d.out.trans (B5.out.mono B1d.out.size))) (grown_set b 6 w5 (.int .i64 (secE a)))⟩
end Go.Proofs.YtdfebmjincnfiaaDoor
