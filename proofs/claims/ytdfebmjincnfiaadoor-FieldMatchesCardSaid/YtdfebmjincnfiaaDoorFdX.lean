/- Layer 17: the law that matching is the same both ways. -/
import Derived.Test.YtdfebmjincnfiaaDoorFdV
import Derived.Test.YtdfebmjincnfiaaDoorFdG
set_option maxRecDepth 100000
set_option linter.unusedSimpArgs false
set_option linter.unusedVariables false
namespace Go.Proofs.YtdfebmjincnfiaaDoor
open Go.RowKit

theorem tagV_form (l : List UInt8) : ∃ t u ok, tagV l = .tuple #[.string (txt t), .bool u, .bool ok] ∧ (ok = true → tagE 512 l = some (t, u)) := by
  unfold tagV
  cases h : tagE 512 l with
  | none => exact ⟨[], false, false, rfl, fun h => by cases h⟩
  | some p => exact ⟨p.1, p.2, true, rfl, fun _ => rfl⟩
theorem one_row (w : World) (l : List UInt8) : RdT (w.alloc (.cells #[.string (txt l)] 9)) (.slice (some ⟨w.heap.size, 0, none⟩) 1 1) [l] := RdC.built 1 w #[.string (txt l)] 9 rfl
theorem match_row (a b : List UInt8) (weak : Bool) (ha : a.length ≤ 4611686018427387904) (hb : b.length ≤ 4611686018427387904) (w : World) :
    Calls Tryd.prog 11 #[.slice (some ⟨w.heap.size, 0, none⟩) 1 1, .string (txt b), .bool weak] (w.alloc (.cells #[.string (txt a)] 9)) fun e w' => e = .returned (.bool (matchE 512 [a] b weak)) ∧ Below w.heap.size w w' := by
  have B1 : Below w.heap.size w (w.alloc (.cells #[.string (txt a)] 9)) := (Below.refl _ _).alloc (Nat.le_refl _) _
  refine (match_any [a] _ b weak _ (one_row w a) (fun t ht => by obtain rfl : t = a := List.mem_singleton.1 ht; exact ha) hb).mono fun e w' h => ⟨h.1, B1.trans (h.2.mono B1.size)⟩
set_option maxHeartbeats 6400000 in
theorem matches_walk (a b : List UInt8) (w : World) (ha : a.length ≤ 4611686018427387904) (hb : b.length ≤ 4611686018427387904) :
    Calls Tryd.prog 5 #[.string (txt a), .string (txt b)] w (Yes w) := by
  have AL := Lib.hid alive_any
  have TA := Lib.hid (tag_any a ha)
  have TB := Lib.hid (tag_any b hb)
  obtain ⟨ta, ua, oa, ea, fa⟩ := tagV_form a
  obtain ⟨tb, ub, ob, eb, fb⟩ := tagV_form b
  rw [ea] at TA
  rw [eb] at TB
  have MAB := Lib.hid (fun weak W => match_row a b weak ha hb W)
  have MBA := Lib.hid (fun weak W => match_row b a weak hb ha W)
  have EV : Hid (oa = true → ob = true → ∀ weak, matchE 512 [a] b weak = matchE 512 [b] a weak) := fun h1 h2 weak => match_even (fa h1) (fb h2)
  have MR : Hid (matchE 512 [a] b false = true → matchE 512 [a] b true = true) := fun h => match_more h
  clear ea eb fa fb ha hb
  generalize hmab : matchE 512 [a] b = mab at MAB EV MR
  generalize hmba : matchE 512 [b] a = mba at MBA EV
  clear hmab hmba
  have B1 : Hid (Below w.heap.size w (w.alloc (.cells #[.bool true, .bool false] 4))) := (Below.refl _ _).alloc (Nat.le_refl _) _
  have C1 : Hid (Cs (w.alloc (.cells #[.bool true, .bool false] 4)) w.heap.size [.bool true, .bool false]) := Cs.made w _ _
  go_enter Tryd.func5, Tryd.ntmps5
  go_wp2_with (first
    | (go_at_call_of 10 (Value.string (txt a)); refine (TA.out _).mono ?_; rintro e w2 ⟨rfl, rfl⟩)
    | (go_at_call_of 10 (Value.string (txt b)); refine (TB.out _).mono ?_; rintro e w3 ⟨rfl, rfl⟩))
  go_loopw [27] (fun i wx => ∃ k : Nat, i = .int .i64 (k : Int) ∧ k ≤ 2 ∧ Below w3.heap.size w3 wx ∧ Cs wx w3.heap.size [.bool true, .bool false]) (fun i _ => 2 - (intOf i).toNat)
  case atStart => exact ⟨0, rfl, by omega, B1.out, C1.out⟩
  case round =>
    obtain ⟨k, rfl, hk, hb, hc⟩ := hrel
    have BB := Lib.hid hb
    have CC := Lib.hid hc
    clear hb hc
    have hk3 : k = 0 ∨ k = 1 ∨ k = 2 := by omega
    have STEP : Hid (∀ (W : World), Below wr.heap.size wr W → Below w3.heap.size w3 W ∧ Cs W w3.heap.size [.bool true, .bool false]) := fun W h => ⟨BB.out.trans (h.mono BB.out.size), CC.out.below h⟩
    rcases hk3 with rfl | rfl | rfl
    · have c0 : wr.cell? ⟨w3.heap.size, 0, none⟩ = some (.bool true) := CC.out.get 0 _ rfl
      have MA := Lib.hid (MAB.out true)
      have MB := Lib.hid (MBA.out true)
      cases oa with
      | false =>
        clear MA MB
        go_wp2_with fail
        exact ⟨⟨1, by simp, by omega, BB.out, CC.out⟩, by simp [intOf]⟩
      | true =>
        cases ob with
        | false =>
          clear MA MB
          go_wp2_with fail
          exact ⟨⟨1, by simp, by omega, BB.out, CC.out⟩, by simp [intOf]⟩
        | true =>
          have EW := EV.out rfl rfl true
          rw [EW] at MA
          have heq : (mba true != mba true) = false := by simp
          generalize mba true = x at MA MB heq
          clear EW
          go_wp2_with (first
            | (go_at_call 11; refine (MA.out _).mono ?_; rintro e w5 ⟨rfl, hb5⟩; clear MA)
            | (go_at_call 11; refine (MB.out _).mono ?_; rintro e w6 ⟨rfl, hb6⟩; clear MB))
          exact ⟨⟨1, by simp, by omega, STEP.out _ (hb5.trans (hb6.mono hb5.size))⟩, by simp [intOf]⟩
    · have c0 : wr.cell? ⟨w3.heap.size, 1, none⟩ = some (.bool false) := CC.out.get 1 _ rfl
      have MA := Lib.hid (MAB.out false)
      have MB := Lib.hid (MBA.out false)
      cases oa with
      | false =>
        clear MA MB
        go_wp2_with fail
        exact ⟨⟨2, by simp, by omega, BB.out, CC.out⟩, by simp [intOf]⟩
      | true =>
        cases ob with
        | false =>
          clear MA MB
          go_wp2_with fail
          exact ⟨⟨2, by simp, by omega, BB.out, CC.out⟩, by simp [intOf]⟩
        | true =>
          have EW := EV.out rfl rfl false
          rw [EW] at MA
          have heq : (mba false != mba false) = false := by simp
          generalize mba false = x at MA MB heq
          clear EW
          go_wp2_with (first
            | (go_at_call 11; refine (MA.out _).mono ?_; rintro e w5 ⟨rfl, hb5⟩; clear MA)
            | (go_at_call 11; refine (MB.out _).mono ?_; rintro e w6 ⟨rfl, hb6⟩; clear MB))
          exact ⟨⟨2, by simp, by omega, STEP.out _ (hb5.trans (hb6.mono hb5.size))⟩, by simp [intOf]⟩
    · have MF := Lib.hid (MAB.out false)
      have MT := Lib.hid (MAB.out true)
      have MRR := Lib.hid MR.out
      generalize mab false = x at MF MRR
      generalize mab true = y at MT MRR
      clear MAB MBA EV MR CC STEP
      cases x with
      | false =>
        go_wp2_with (first
          | (go_at_call 11; refine (MF.out _).mono ?_; rintro e w5 ⟨rfl, hb5⟩; clear MF)
          | (go_at_call 8; refine (AL.out _).mono ?_; rintro e w7 ⟨rfl, hb7⟩))
        go_ret
        exact ⟨rfl, BB.out.trans ((hb5.trans (hb7.mono hb5.size)).mono BB.out.size)⟩
      | true =>
        obtain rfl : y = true := MRR.out rfl
        go_wp2_with (first
          | (go_at_call 11; refine (MF.out _).mono ?_; rintro e w5 ⟨rfl, hb5⟩; clear MF)
          | (go_at_call 11; refine (MT.out _).mono ?_; rintro e w6 ⟨rfl, hb6⟩; clear MT)
          | (go_at_call 8; refine (AL.out _).mono ?_; rintro e w7 ⟨rfl, hb7⟩))
        go_ret
        exact ⟨rfl, BB.out.trans (((hb5.trans (hb6.mono hb5.size)).trans (hb7.mono (Nat.le_trans hb5.size hb6.size))).mono BB.out.size)⟩
end Go.Proofs.YtdfebmjincnfiaaDoor
