/- Walks of layer 12: what the laws call: Ints, the same words, ours, alive. -/
import Derived.Test.YtjaeccealfeakaaHfJ
import Derived.Test.YtjaeccealfeakaaHfL
set_option maxRecDepth 100000
set_option linter.unusedSimpArgs false
set_option linter.unusedVariables false
namespace Go.Proofs.Ytjaeccealfeakaa
open Go.RowKit

set_option maxHeartbeats 4000000 in
theorem ints_yes (a b : Value) (xs : List Int) (w : World) (ha : Rd .i64 w a xs) (hb : Rd .i64 w b xs) (hl : xs.length ≤ 256) :
    Calls Try.prog 16 #[a, b] w fun e w' => e = .returned (.bool true) ∧ Below w.heap.size w w' := by
  have HA := Lib.hid ha
  have HB := Lib.hid hb
  obtain ⟨aa, ac, rfl⟩ := ha.isSlice
  obtain ⟨ba, bc, rfl⟩ := hb.isSlice
  clear ha hb
  go_enter Try.func16, Try.ntmps16
  go_wp2_with fail
  go_loopw [5] (fun i wr => ∃ k : Nat, k ≤ xs.length ∧ i = .int .i64 (k : Int) ∧ Below w.heap.size w wr) (fun i _ => xs.length - (intOf i).toNat)
  case atStart => exact ⟨0, Nat.zero_le _, rfl, Below.refl _ _⟩
  case round =>
    obtain ⟨k, hk, rfl, hbw⟩ := hrel
    have BB := Lib.hid hbw
    by_cases hlt : k < xs.length
    · obtain ⟨x, hx⟩ : ∃ x, x = xs.getD k 0 := ⟨_, rfl⟩
      have hca : ∃ b o, aa = some ⟨b, o, none⟩ ∧ wr.cell? ⟨b, o + k, none⟩ = some (.int .i64 x) := by
        rcases HA.out.below hbw with ⟨rfl, _⟩ | ⟨_, b, o, cp, he, h2, h3, h4, h5⟩
        · simp at hlt
        · simp only [Value.slice.injEq] at he
          exact ⟨b, o, he.1, by rw [hx]; exact h5 _ hlt⟩
      have hcb : ∃ b o, ba = some ⟨b, o, none⟩ ∧ wr.cell? ⟨b, o + k, none⟩ = some (.int .i64 x) := by
        rcases HB.out.below hbw with ⟨rfl, _⟩ | ⟨_, b, o, cp, he, h2, h3, h4, h5⟩
        · simp at hlt
        · simp only [Value.slice.injEq] at he
          exact ⟨b, o, he.1, by rw [hx]; exact h5 _ hlt⟩
      obtain ⟨b1, o1, rfl, c1⟩ := hca
      obtain ⟨b2, o2, rfl, c2⟩ := hcb
      have d1 : wr.drew.cell? ⟨b1, o1 + k, none⟩ = some (.int .i64 x) := c1
      have d2 : wr.drew.cell? ⟨b2, o2 + k, none⟩ = some (.int .i64 x) := c2
      clear hx hbw
      go_wp2_with fail
      go_quiet (fail)
      go_wp2_with fail
      exact ⟨⟨k + 1, by omega, by go_num, below_drewN BB.out _⟩, by simp [intOf]; omega⟩
    · have dl : decide ((k : Int) < (xs.length : Int)) = false := decide_eq_false (by omega)
      have dl' : decide (k < xs.length) = false := decide_eq_false (by omega)
      clear hbw
      go_wp2_with fail
      go_ret
      exact ⟨rfl, BB.out⟩

set_option maxHeartbeats 4000000 in
theorem same12_yes (a b : Value) (W : List (Nat × Nat)) (w : World) (ha : RdW w a W) (hb : RdW w b W) (hl : W.length ≤ 256) :
    Calls Try.prog 12 #[a, b] w fun e w' => e = .returned (.bool true) ∧ Below w.heap.size w w' := by
  have HA := Lib.hid ha
  have HB := Lib.hid hb
  obtain ⟨aa, ac, rfl, _, _⟩ := ha.isSlice
  obtain ⟨ba, bc, rfl, _, _⟩ := hb.isSlice
  clear ha hb
  go_enter Try.func12, Try.ntmps12
  go_wp2_with fail
  go_loopw [5] (fun i wr => ∃ k : Nat, k ≤ W.length ∧ i = .int .i64 (k : Int) ∧ Below w.heap.size w wr) (fun i _ => W.length - (intOf i).toNat)
  case atStart => exact ⟨0, Nat.zero_le _, rfl, Below.refl _ _⟩
  case round =>
    obtain ⟨k, hk, rfl, hbw⟩ := hrel
    have BB := Lib.hid hbw
    by_cases hlt : k < W.length
    · obtain ⟨g1, o1, gc1, hge, hgl1⟩ := (HA.out.below hbw).form (by omega)
      simp only [Value.slice.injEq, true_and] at hge
      obtain ⟨rfl, rfl⟩ := hge
      obtain ⟨g2, o2, gc2, hge, hgl2⟩ := (HB.out.below hbw).form (by omega)
      simp only [Value.slice.injEq, true_and] at hge
      obtain ⟨rfl, rfl⟩ := hge
      obtain ⟨c0, c1⟩ := (HA.out.below hbw).cells rfl k hlt
      obtain ⟨e0, e1⟩ := (HB.out.below hbw).cells rfl k hlt
      generalize ((W.getD k (0, 0)).1 : Int) = x at *
      generalize ((W.getD k (0, 0)).2 : Int) = y at *
      have d0 : wr.drew.cell? ⟨g1, o1 + k * 2, none⟩ = some (.int .i64 x) := c0
      have d1 : wr.drew.cell? ⟨g1, o1 + k * 2 + 1, none⟩ = some (.int .i64 y) := c1
      have f0 : wr.drew.cell? ⟨g2, o2 + k * 2, none⟩ = some (.int .i64 x) := e0
      have f1 : wr.drew.cell? ⟨g2, o2 + k * 2 + 1, none⟩ = some (.int .i64 y) := e1
      have q49 : ∀ w, (Op.equalIn 10000 49 (.agg #[.int .i64 x, .int .i64 y]) (.agg #[.int .i64 x, .int .i64 y])).run Try.prog w = .ok true w := fun w => by rw [reqw_any, decide_eq_true]; exact ⟨rfl, rfl⟩
      have g49 := rguardW
      clear hbw
      go_wp2_with fail
      go_quiet (fail)
      go_wp2_with fail
      exact ⟨⟨k + 1, by omega, by go_num, below_drewN BB.out _⟩, by simp [intOf]; omega⟩
    · have dl : decide ((k : Int) < (W.length : Int)) = false := decide_eq_false (by omega)
      have dl' : decide (k < W.length) = false := decide_eq_false (by omega)
      clear hbw
      go_wp2_with fail
      go_ret
      exact ⟨rfl, BB.out⟩

/-- rows of words of the call's own -/
def OursIs (w : World) (W : List (Nat × Nat)) (e : Ending) (w' : World) : Prop := ∃ v, e = .returned v ∧ RdW w' v W ∧ Below w.heap.size w w'
set_option maxHeartbeats 4000000 in
theorem ours_any (v : Value) (W : List (Nat × Nat)) (w : World) (hr : RdW w v W) (hl : W.length ≤ 256) : Calls Try.prog 13 #[v] w (OursIs w W) := by
  have HR := Lib.hid hr
  obtain ⟨va, vc, rfl, _, _⟩ := hr.isSlice
  clear hr
  go_enter Try.func13, Try.ntmps13
  go_wp2_with fail
  go_loopw [3, 8] (fun q i wr => ∃ k : Nat, k ≤ W.length ∧ i = .int .i64 (k : Int) ∧ OwnW 49 wr w.heap.size q (W.take k) ∧ Below w.heap.size w wr) (fun _ i _ => W.length - (intOf i).toNat)
  case atStart => exact ⟨0, Nat.zero_le _, rfl, OwnW.nil _ _ _, Below.refl _ _⟩
  case round =>
    obtain ⟨k, hk, rfl, ho, hb⟩ := hrel
    have OO := Lib.hid ho
    have BB := Lib.hid hb
    have hz := hb.size
    by_cases hlt : k < W.length
    · obtain ⟨g, go, gc, hge, hgl⟩ := (HR.out.below hb).form (by omega)
      simp only [Value.slice.injEq, true_and] at hge
      obtain ⟨rfl, rfl⟩ := hge
      obtain ⟨c0, c1⟩ := (HR.out.below hb).cells rfl k hlt
      have HT : Hid (W.take (k + 1) = W.take k ++ [((W.getD k (0, 0)).1, (W.getD k (0, 0)).2)]) := by
        show _ = _
        rw [List.take_succ_eq_append_getElem hlt]
        congr 1
        simp [List.getD, hlt]
      have HLN : Hid ((W.take k).length = k) := by show _ = _; rw [List.length_take]; omega
      generalize (W.getD k (0, 0)).1 = x at *
      generalize (W.getD k (0, 0)).2 = y at *
      clear ho hb
      have HE : Hid (RdC 2 ((wr.alloc (.cells #[.int .i64 (x : Int), .int .i64 (y : Int)] 44)).alloc (.cells #[.int .i64 (x : Int), .int .i64 (y : Int)] 49)) (.slice (some ⟨wr.heap.size + 1, 0, none⟩) 1 1) 1 (wdC [(x, y)])) := by
        have := RdC.built 2 (wr.alloc (.cells #[.int .i64 (x : Int), .int .i64 (y : Int)] 44)) #[.int .i64 (x : Int), .int .i64 (y : Int)] 49 rfl
        rw [show (wr.alloc (.cells #[.int .i64 (x : Int), .int .i64 (y : Int)] 44)).heap.size = wr.heap.size + 1 by simp] at this
        exact this
      have O2 : Hid (World.ownsRow ((wr.alloc (.cells #[.int .i64 (x : Int), .int .i64 (y : Int)] 44)).alloc (.cells #[.int .i64 (x : Int), .int .i64 (y : Int)] 49)) w.heap.size 49 2 u3 (W.take k).length (wdC (W.take k))) := World.ownsRow.alloc (World.ownsRow.alloc OO.out _) _
      have B2 := Lib.hid ((BB.out.alloc hz (.cells #[.int .i64 (x : Int), .int .i64 (y : Int)] 44)).alloc (by simp; omega) (.cells #[.int .i64 (x : Int), .int .i64 (y : Int)] 49))
      go_wp2_with (at_builtin; ((with_reducible refine wpList_append_rows _ ?_ (.tmp 12) (.tmp 18) 27 ?_ elemRW Try.underlying27 w.heap.size u3 (W.take k).length (wdC (W.take k)) ?_ O2.out (.slice (some ⟨wr.heap.size + 1, 0, none⟩) 1 1) 1 (wdC [(x, y)]) ?_ HE.out (wdC_one _) ?_ ?_ ?_ ?_)); rfl; rfl; rfl; rfl; (rw [HLN.out]; omega); (rw [HLN.out]; unfold maxLen; omega); (simp; omega); intro v9 w9 o9 g9; have O9 := Lib.hid o9; have G9 := Lib.hid g9; clear o9 g9)
      refine ⟨⟨k + 1, by omega, by go_num, ?_, B2.out.grown G9.out (by simp; omega) (fun j hj => (World.ownsRow.lt OO.out j hj).1)⟩, by simp [intOf]; omega⟩
      show World.ownsRow _ _ _ 2 _ (W.take (k + 1)).length (wdC (W.take (k + 1)))
      rw [HT.out, wdC_append, List.length_append]
      exact O9.out
    · have hend : k = W.length := by omega
      have dl : decide ((k : Int) < (W.length : Int)) = false := decide_eq_false (by omega)
      have dl' : decide (k < W.length) = false := decide_eq_false (by omega)
      have O3 : Hid (RdW wr u3 W) := by have := OO.out.rd; rw [hend, List.take_length] at this; exact this
      clear hend ho hb
      go_wp2_with fail
      go_ret
      exact ⟨u3, rfl, O3.out, BB.out⟩
end Go.Proofs.Ytjaeccealfeakaa
