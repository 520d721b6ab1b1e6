/- Layer 17: Directives, at the law's own example. -/
import Derived.Test.YtdfebmjincnfiaaDoorFdO
set_option maxRecDepth 100000
set_option linter.unusedSimpArgs false
set_option linter.unusedVariables false
namespace Go.Proofs.YtdfebmjincnfiaaDoor
open Go.RowKit

def el1 : List UInt8 := [109, 97, 120, 45, 97, 103, 101, 61, 34, 54, 48, 34]
def el2 : List UInt8 := [78, 111, 45, 83, 116, 111, 114, 101]
def ccN : List UInt8 := [99, 97, 99, 104, 101, 45, 99, 111, 110, 116, 114, 111, 108]
def ccV : List UInt8 := [109, 97, 120, 45, 97, 103, 101, 61, 34, 54, 48, 34, 44, 32, 78, 111, 45, 83, 116, 111, 114, 101]
theorem ccV_els : allE [ccV] = [el1, el2] := by decide +kernel
set_option maxHeartbeats 1600000 in
theorem dcl_one (b : Nat) (w : World) (hc : Cs w b ctl0) :
    Calls Tryd.prog 24 #[.string (txt el1), .pointer (some ⟨b, 0, none⟩)] w fun e w' => e = .returned (.bool false) ∧ Cs w' b ctl1 ∧ w.grownBy w' (some b) := by
  have DO : Hid (∀ W, Calls Tryd.prog 26 #[.string (txt el1)] W fun e w' => e = .returned (dirV maxAge [54, 48] true) ∧ Below W.heap.size W w') := fun W => by
    have h := dirof_any el1 (by decide) (by decide) W
    rw [show lowE (cutB 61 el1).1 = maxAge by decide +kernel, show unqE (cutB 61 el1).2.1 = [54, 48] by decide +kernel, show (cutB 61 el1).2.2 = true by decide +kernel] at h
    exact h
  have NO : Hid (∀ W, Cs W b ctl0 → Calls Tryd.prog 25 #[.pointer (some ⟨b, 0, none⟩), dirV maxAge [54, 48] true] W fun e w' => e = .returned (.tuple #[]) ∧ Cs w' b ctl1 ∧ W.grownBy w' (some b)) := fun W h => note_max [54, 48] true b W h (by decide +kernel) (by decide)
  have hlt := hc.lt
  have HC := Lib.hid hc
  clear hc
  generalize dirV maxAge [54, 48] true = dv at DO NO
  generalize el1 = x at *
  go_enter Tryd.func24, Tryd.ntmps24
  go_wp2_with (first
    | (go_at_call 26; refine (DO.out _).mono ?_; rintro e w2 ⟨rfl, hb2⟩; have C2 := Lib.hid (HC.out.below hb2); have B2 := Lib.hid hb2; clear hb2)
    | (go_at_call 25; refine (NO.out _ C2.out).mono ?_; rintro e w3 ⟨rfl, hc3, hb3⟩))
  go_ret
  exact ⟨rfl, hc3, grownBy_trans (grownBy_of_below B2.out) hb3⟩
set_option maxHeartbeats 1600000 in
theorem dcl_two (b : Nat) (w : World) (hc : Cs w b ctl1) :
    Calls Tryd.prog 24 #[.string (txt el2), .pointer (some ⟨b, 0, none⟩)] w fun e w' => e = .returned (.bool false) ∧ Cs w' b ctl2 ∧ w.grownBy w' (some b) := by
  have DO : Hid (∀ W, Calls Tryd.prog 26 #[.string (txt el2)] W fun e w' => e = .returned (dirV noStore [] false) ∧ Below W.heap.size W w') := fun W => by
    have h := dirof_any el2 (by decide) (by decide) W
    rw [show lowE (cutB 61 el2).1 = noStore by decide +kernel, show unqE (cutB 61 el2).2.1 = [] by decide +kernel, show (cutB 61 el2).2.2 = false by decide +kernel] at h
    exact h
  have NO : Hid (∀ W, Cs W b ctl1 → Calls Tryd.prog 25 #[.pointer (some ⟨b, 0, none⟩), dirV noStore [] false] W fun e w' => e = .returned (.tuple #[]) ∧ Cs w' b ctl2 ∧ W.grownBy w' (some b)) := fun W h => note_store [] false b W h
  have hlt := hc.lt
  have HC := Lib.hid hc
  clear hc
  generalize dirV noStore [] false = dv at DO NO
  generalize el2 = x at *
  go_enter Tryd.func24, Tryd.ntmps24
  go_wp2_with (first
    | (go_at_call 26; refine (DO.out _).mono ?_; rintro e w2 ⟨rfl, hb2⟩; have C2 := Lib.hid (HC.out.below hb2); have B2 := Lib.hid hb2; clear hb2)
    | (go_at_call 25; refine (NO.out _ C2.out).mono ?_; rintro e w3 ⟨rfl, hc3, hb3⟩))
  go_ret
  exact ⟨rfl, hc3, grownBy_trans (grownBy_of_below B2.out) hb3⟩
set_option maxHeartbeats 3200000 in
theorem all_one (nm val : List UInt8) (b : Nat) (w : World) (c0 : w.cell? ⟨b, 0, none⟩ = some (.string (txt nm))) (c1 : w.cell? ⟨b, 1, none⟩ = some (.string (txt val))) :
    Calls Tryd.prog 23 #[.slice (some ⟨b, 0, none⟩) 1 1, .string (txt nm)] w fun e w' => ∃ u, e = .returned u ∧ RdT w' u [val] ∧ Below w.heap.size w w' ∧ ∀ j, u.ownBlock = some j → w.heap.size ≤ j := by
  have he : ((txt nm).toList == (txt nm).toList) = true := by simp
  have B1 := Lib.hid (((Below.refl w.heap.size w).alloc (Nat.le_refl _) (.cells #[.string (txt nm), .string (txt val)] 44)).alloc (by simp) (.cells #[.string (txt val)] 9))
  have R1 : Hid (RdC 1 ((w.alloc (.cells #[.string (txt nm), .string (txt val)] 44)).alloc (.cells #[.string (txt val)] 9)) (.slice (some ⟨w.heap.size + 1, 0, none⟩) 1 1) 1 [.string (txt val)]) := by
    have h := RdC.built 1 (w.alloc (.cells #[.string (txt nm), .string (txt val)] 44)) #[.string (txt val)] 9 rfl
    rw [World.size_alloc] at h
    exact h
  go_enter Tryd.func23, Tryd.ntmps23
  go_wp2_with fail
  go_loopw [5, 10] (fun s i wx => (i = .int .i64 0 ∧ s = .slice none 0 0 ∧ wx = w) ∨ (i = .int .i64 1 ∧ RdT wx s [val] ∧ Below w.heap.size w wx ∧ ∀ j, s.ownBlock = some j → w.heap.size ≤ j)) (fun _ i _ => 1 - (intOf i).toNat)
  case atStart => exact .inl ⟨rfl, rfl, rfl⟩
  case round =>
    rcases hrel with ⟨rfl, rfl, rfl⟩ | ⟨rfl, hr, hb, hj⟩
    · go_wp2_with (at_builtin; ((with_reducible refine wpList_append_rows _ ?_ (.tmp 18) (.tmp 21) 22 ?_ elemStr Tryd.underlying22 wr.heap.size (.slice none 0 0) 0 [] ?_ (World.ownsRow_nil _ _ _ 1) _ 1 [.string (txt val)] ?_ R1.out ?_ ?_ ?_ ?_ ?_)); rfl; rfl; rfl; rfl; (intro u hu; cases hu with | head => rfl | tail _ h => cases h); (omega); (unfold maxLen; omega); (exact B1.out.size); intro v7 w7 o7 g7; have O7 := Lib.hid o7; have G7 := Lib.hid (B1.out.grown g7 B1.out.size (fun j hj => by cases hj)); clear o7 g7)
      refine ⟨.inr ⟨by simp, RdC.of_owns O7.out, G7.out, fun j hj => (World.ownsRow.lt O7.out j hj).1⟩, by simp [intOf]⟩
    · have RR := Lib.hid hr
      have BB := Lib.hid hb
      obtain ⟨ua, uc, rfl, _, _⟩ := RdC.isSlice hr
      have HJ := Lib.hid hj
      clear hj
      clear hr hb
      go_wp2_with fail
      go_ret
      exact ⟨_, rfl, RR.out, BB.out, HJ.out⟩
end Go.Proofs.YtdfebmjincnfiaaDoor
