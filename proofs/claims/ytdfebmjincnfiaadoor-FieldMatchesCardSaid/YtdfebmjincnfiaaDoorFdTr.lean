/- Layer 17: the library's Trim, CutPrefix, CutSuffix, Cut, Atoi, as texts of bytes. -/
import Derived.Test.YtdfebmjincnfiaaDoorFdC
import Derived.Test.YtdfebmjincnfiaaDoorFdS
set_option maxRecDepth 100000
set_option linter.unusedSimpArgs false
set_option linter.unusedVariables false
namespace Go.Proofs.YtdfebmjincnfiaaDoor
open Go.RowKit

theorem ltrim_drop (l : List UInt8) : l.dropWhile (fun b => [32, 9].contains b) = ltrim l := by
  induction l with
  | nil => rfl
  | cons b l ih =>
    rw [ltrim, List.dropWhile_cons, ← ih]
    have : ([32, 9].contains b) = blank b := by simp [blank, Bool.beq_eq_decide_eq]
    rw [this]
theorem trim_is (l : List UInt8) : Lib.trimS l [32, 9] = trim l := by
  unfold Lib.trimS Lib.trimLeftS Lib.trimRightS
  rw [ltrim_drop, ltrim_drop]
  obtain ⟨p, s, hl, hp, hs, h1, h2⟩ := trim_split l
  generalize trim l = t at hl h1 h2 ⊢
  subst hl
  rw [List.reverse_append, ltrim_blanks _ _ (fun b hb => hs b (by simpa using hb))]
  by_cases ht : t = []
  · subst ht
    have e1 := ltrim_blanks p.reverse [] (fun b hb => hp b (by simpa using hb))
    rw [List.append_nil] at e1 ⊢
    rw [e1]
    rfl
  · have h3 : solid (p ++ t).reverse := by
      intro b r h
      rw [List.reverse_append] at h
      cases hq : t.reverse with
      | nil => exact absurd (List.reverse_eq_nil_iff.1 hq) ht
      | cons c q =>
        rw [hq, List.cons_append] at h
        simp only [List.cons.injEq] at h
        exact h2 b q (by rw [hq, h.1])
    rw [ltrim_solid h3, List.reverse_reverse, ltrim_blanks p t hp, ltrim_solid h1]
theorem trim_len (l : List UInt8) : (trim l).length ≤ l.length := by
  obtain ⟨p, s, hl, _⟩ := trim_split l
  have := congrArg List.length hl
  simp only [List.length_append] at this
  omega

theorem trim_any (l : List UInt8) (hl : l.length ≤ 4611686018427387904) (w : World) :
    Calls Tryd.prog 22 #[.string (txt l), .string (txt [32, 9])] w fun e w' => e = .returned (.string (txt (trim l))) ∧ Below w.heap.size w w' := by
  refine (Any.strings_Trim_laid lays160 (by kernel_rfl) (txt l) (txt [32, 9]) w (by rw [txt_size]; omega) (by rw [txt_size]; decide) (fun j b hb => ?_)).mono ?_
  · have : b ∈ [32, 9] := List.mem_of_getElem? hb
    rcases List.mem_cons.1 this with rfl | h
    · decide
    · rcases List.mem_cons.1 h with rfl | h
      · decide
      · cases h
  · rintro e w' ⟨rfl, hb⟩
    refine ⟨?_, hb⟩
    rw [show Lib.trimS (txt l).data.toList (txt [32, 9]).data.toList = trim l from trim_is l]
    rfl

/-- before, and behind, the first byte c -/
def cutB (c : UInt8) : List UInt8 → List UInt8 × List UInt8 × Bool
  | [] => ([], [], false)
  | b :: l => if b = c then ([], l, true) else (b :: (cutB c l).1, (cutB c l).2.1, (cutB c l).2.2)
theorem cut_ix (c : UInt8) (l : List UInt8) : (Lib.indexByte l c = -1 ∧ cutB c l = (l, [], false)) ∨ ∃ i : Nat, Lib.indexByte l c = i ∧ i < l.length ∧ cutB c l = (l.take i, l.drop (i + 1), true) := by
  induction l with
  | nil => exact .inl ⟨rfl, rfl⟩
  | cons b l ih =>
    rw [Lib.indexByte, cutB]
    by_cases hb : b = c
    · right
      subst hb
      exact ⟨0, by simp, by simp, by simp⟩
    · rw [if_neg (by simpa using hb), if_neg hb]
      rcases ih with ⟨h1, h2⟩ | ⟨i, h1, h2, h3⟩
      · left
        rw [h1, h2]
        exact ⟨rfl, rfl⟩
      · right
        refine ⟨i + 1, ?_, by simp only [List.length_cons]; omega, ?_⟩
        · rw [h1, if_neg (by simp)]
          simp
        · rw [h3]; simp
set_option maxHeartbeats 1600000 in
theorem lcut_any (c : UInt8) (l : List UInt8) (hl : l.length ≤ 4611686018427387904) (w : World) :
    Calls Tryd.prog 52 #[.string (txt l), .string (txt [c])] w fun e w' => e = .returned (.tuple #[.string (txt (cutB c l).1), .string (txt (cutB c l).2.1), .bool (cutB c l).2.2]) ∧ Below w.heap.size w w' := by
  have sz := txt_size l
  have sz1 : (txt [c]).size = 1 := rfl
  have I := Lib.hid (Any.stringslite_Index_one { lays143 with } (txt l) c)
  rcases cut_ix c l with ⟨h1, h2⟩ | ⟨i, h1, h2, h3⟩
  · have I2 : Hid (∀ W, Calls Tryd.prog 61 #[.string (txt l), .string (txt [c])] W fun e w' => e = .returned (.int .i64 (-1)) ∧ w' = W) := fun W => (I.out W).mono fun e w' ⟨a, b⟩ => ⟨by rw [a, show (txt l).data.toList = l from rfl, h1], b⟩
    rw [h2]
    clear I h1 h2
    go_enter Tryd.func52, Tryd.ntmps52
    go_wp2_with (go_at_call 61; refine (I2.out _).mono ?_; rintro e w2 ⟨rfl, rfl⟩)
    go_ret3
    exact ⟨rfl, Below.refl _ _⟩
  · have I2 : Hid (∀ W, Calls Tryd.prog 61 #[.string (txt l), .string (txt [c])] W fun e w' => e = .returned (.int .i64 (i : Int)) ∧ w' = W) := fun W => (I.out W).mono fun e w' ⟨a, b⟩ => ⟨by rw [a, show (txt l).data.toList = l from rfl, h1], b⟩
    rw [h3]
    have x1 := txt_extract l 0 i
    rw [List.drop_zero, Nat.sub_zero] at x1
    have x2 := txt_extract l (i + 1) l.length
    rw [List.take_of_length_le (by rw [List.length_drop]; omega)] at x2
    have w0 := wr64 ((i : Int) + 1) (by omega) (by omega)
    have c1 : (0 : Int) ≤ (i : Int) := by omega
    have c2 : (i : Int) ≤ (l.length : Int) := by omega
    have c3 : (0 : Int) ≤ (i : Int) + 1 := by omega
    have c4 : (i : Int) + 1 ≤ (l.length : Int) := by omega
    have c5 : ((i : Int) + 1).toNat = i + 1 := by omega
    clear I h1 h2 h3
    go_enter Tryd.func52, Tryd.ntmps52
    go_wp2_with (go_at_call 61; refine (I2.out _).mono ?_; rintro e w2 ⟨rfl, rfl⟩)
    go_region
    go_wp2
    go_ret3
    exact ⟨rfl, (Below.refl _ _).drew⟩
theorem cut_any (c : UInt8) (l : List UInt8) (hl : l.length ≤ 4611686018427387904) (w : World) :
    Calls Tryd.prog 42 #[.string (txt l), .string (txt [c])] w fun e w' => e = .returned (.tuple #[.string (txt (cutB c l).1), .string (txt (cutB c l).2.1), .bool (cutB c l).2.2]) ∧ Below w.heap.size w w' := by
  have C := Lib.hid (lcut_any c l hl)
  go_enter Tryd.func42, Tryd.ntmps42
  go_wp2_with (go_at_call 52; refine (C.out _).mono ?_; rintro e w2 ⟨rfl, hb⟩)
  go_ret3
  exact ⟨rfl, hb⟩
end Go.Proofs.YtdfebmjincnfiaaDoor
