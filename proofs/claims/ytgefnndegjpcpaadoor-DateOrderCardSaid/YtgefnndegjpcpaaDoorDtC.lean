/- Walks of layer 16: zeros ahead of digits. -/
import Derived.Test.YtgefnndegjpcpaaDoorDtB
import Derived.Test.YtgefnndegjpcpaaDoorDtI
import Derived.Lib.SmallJoins
set_option maxRecDepth 100000
set_option linter.unusedSimpArgs false
set_option linter.unusedVariables false
namespace Go.Proofs.YtgefnndegjpcpaaDoor
open Go.RowKit

def zeros (n : Nat) : ByteArray := ⟨(List.replicate n 48).toArray⟩

theorem repeat_zero (w : World) :
    Calls Tryd.prog 41 #[.string ⟨#[48]⟩, .int .i64 0] w fun e w' => e = .returned (.string ⟨#[]⟩) ∧ w' = w := by
  go_enter Tryd.func41, Tryd.ntmps41
  go_wp2
  go_ret
  exact ⟨rfl, rfl⟩
theorem repeat_one (w : World) :
    Calls Tryd.prog 41 #[.string ⟨#[48]⟩, .int .i64 1] w fun e w' => e = .returned (.string ⟨#[48]⟩) ∧ w' = w := by
  go_enter Tryd.func41, Tryd.ntmps41
  go_wp2
  go_ret
  exact ⟨rfl, rfl⟩
theorem prefix_any (s t : ByteArray) (b : Bool) (hs : t.size ≤ s.size) (hm : s.size ≤ 9223372036854775807) (hb : ((s.extract 0 t.size).toList == t.toList) = b) (w : World) :
    Calls Tryd.prog 45 #[.string s, .string t] w fun e w' => e = .returned (.bool b) ∧ w' = w := by
  have h1 : decide ((s.size : Int) ≥ (t.size : Int)) = true := decide_eq_true (by omega)
  go_enter Tryd.func45, Tryd.ntmps45
  go_wp2
  go_ret
  exact ⟨rfl, rfl⟩

set_option maxHeartbeats 4000000 in
theorem repeat_two (w : World) :
    Calls Tryd.prog 41 #[.string ⟨#[48]⟩, .int .i64 2] w fun e w' => e = .returned (.string ⟨#[48, 48]⟩) ∧ w' = w := by
  have h48 : (⟨#[48]⟩ : ByteArray)[0]'(by decide) = 48 := rfl
  have k1 : (((48 : UInt8).toNat : Int) == 32) = false := by decide
  have k2 : (((48 : UInt8).toNat : Int) == 45) = false := by decide
  have k3 : (((48 : UInt8).toNat : Int) == 48) = true := by decide
  go_enter Tryd.func41, Tryd.ntmps41
  go_wp2_with (first
    | (go_at_call 45; first
      | (refine (prefix_any _ _ true (by decide +kernel) (by decide +kernel) (by decide +kernel) _).mono ?_; rintro x w2 ⟨rfl, rfl⟩)
      | (refine (prefix_any _ _ false (by decide +kernel) (by decide +kernel) (by decide +kernel) _).mono ?_; rintro x w2 ⟨rfl, rfl⟩))
    | go_in)
  go_ret
  exact ⟨congrArg (fun s => Ending.returned (.string s)) (by decide +kernel), rfl⟩
set_option maxHeartbeats 4000000 in
theorem repeat_three (w : World) :
    Calls Tryd.prog 41 #[.string ⟨#[48]⟩, .int .i64 3] w fun e w' => e = .returned (.string ⟨#[48, 48, 48]⟩) ∧ w' = w := by
  have h48 : (⟨#[48]⟩ : ByteArray)[0]'(by decide) = 48 := rfl
  have k1 : (((48 : UInt8).toNat : Int) == 32) = false := by decide
  have k2 : (((48 : UInt8).toNat : Int) == 45) = false := by decide
  have k3 : (((48 : UInt8).toNat : Int) == 48) = true := by decide
  go_enter Tryd.func41, Tryd.ntmps41
  go_wp2_with (first
    | (go_at_call 45; first
      | (refine (prefix_any _ _ true (by decide +kernel) (by decide +kernel) (by decide +kernel) _).mono ?_; rintro x w2 ⟨rfl, rfl⟩)
      | (refine (prefix_any _ _ false (by decide +kernel) (by decide +kernel) (by decide +kernel) _).mono ?_; rintro x w2 ⟨rfl, rfl⟩))
    | go_in)
  go_ret
  exact ⟨congrArg (fun s => Ending.returned (.string s)) (by decide +kernel), rfl⟩

/-- the zeros and the digits -/
theorem dec_one {u : Nat} (h : u < 10) : Lib.decDigits u = [dgI u] := by
  rw [Lib.decDigits, dif_pos h, dgI, show (((u : Nat) : Int) % 10).toNat = u by omega]
theorem dec_more {u : Nat} (h : ¬ u < 10) : Lib.decDigits u = Lib.decDigits (u / 10) ++ [dgI u] := by
  rw [Lib.decDigits, dif_neg h, dgI, show (((u : Nat) : Int) % 10).toNat = u % 10 by omega]
theorem dg_zero {n : Int} (h : n = 0) : dgI n = 48 := by rw [h]; rfl
theorem dec_two (u : Nat) (h : u < 100) : ((Lib.decDigits u).length = 1 ∧ 48 :: Lib.decDigits u = two u) ∨ ((Lib.decDigits u).length = 2 ∧ Lib.decDigits u = two u) := by
  unfold two
  by_cases h1 : u < 10
  · rw [dec_one h1, dg_zero (n := (u : Int) / 10) (by omega)]; exact .inl ⟨rfl, rfl⟩
  · rw [dec_more h1, dec_one (by omega)]; exact .inr ⟨rfl, rfl⟩
theorem dec_four (u : Nat) (h : u < 10000) : ((Lib.decDigits u).length = 1 ∧ 48 :: 48 :: 48 :: Lib.decDigits u = four u) ∨ ((Lib.decDigits u).length = 2 ∧ 48 :: 48 :: Lib.decDigits u = four u) ∨
    ((Lib.decDigits u).length = 3 ∧ 48 :: Lib.decDigits u = four u) ∨ ((Lib.decDigits u).length = 4 ∧ Lib.decDigits u = four u) := by
  unfold four
  by_cases h1 : u < 10
  · rw [dec_one h1, dg_zero (n := (u : Int) / 10) (by omega), dg_zero (n := (u : Int) / 100) (by omega), dg_zero (n := (u : Int) / 1000) (by omega)]; exact .inl ⟨rfl, rfl⟩
  · rw [dec_more h1]
    by_cases h2 : u / 10 < 10
    · rw [dec_one h2, dg_zero (n := (u : Int) / 100) (by omega), dg_zero (n := (u : Int) / 1000) (by omega)]; exact .inr (.inl ⟨rfl, rfl⟩)
    · rw [dec_more h2]
      by_cases h3 : u / 10 / 10 < 10
      · rw [dec_one h3, dg_zero (n := (u : Int) / 1000) (by omega), show ((u / 10 / 10 : Nat) : Int) = (u : Int) / 100 by omega]; exact .inr (.inr (.inl ⟨rfl, rfl⟩))
      · rw [dec_more h3, dec_one (by omega), show ((u / 10 / 10 : Nat) : Int) = (u : Int) / 100 by omega, show ((u / 10 / 10 / 10 : Nat) : Int) = (u : Int) / 1000 by omega]; exact .inr (.inr (.inr ⟨rfl, rfl⟩))

def txt (l : List UInt8) : ByteArray := ⟨l.toArray⟩
theorem txt_size (l : List UInt8) : (txt l).size = l.length := by show l.toArray.size = _; simp
theorem txt_app (a b : List UInt8) : txt a ++ txt b = txt (a ++ b) := by
  apply ByteArray.ext
  simp [txt, ByteArray.data_append]

set_option maxHeartbeats 1600000 in
theorem digits_two (n : Int) (w : World) (h0 : 0 ≤ n) (h1 : n < 100) :
    Calls Tryd.prog 32 #[.int .i64 n, .int .i64 2] w fun e w' => e = .returned (.string (txt (two n))) ∧ w' = w := by
  obtain ⟨k, rfl⟩ : ∃ k : Nat, n = k := ⟨n.toNat, by omega⟩
  have IT := Lib.hid (fun W => strconv_Itoa_small k (by omega) W)
  have R0 := Lib.hid repeat_zero
  have R1 := Lib.hid repeat_one
  have sz := txt_size (Lib.decDigits k)
  have hD := dec_two k (by omega)
  show Calls _ _ _ w fun e w' => e = .returned (.string (txt (two (k : Int)))) ∧ w' = w
  generalize two (k : Int) = T at hD ⊢
  rw [show (⟨(Lib.decDigits k).toArray⟩ : ByteArray) = txt (Lib.decDigits k) from rfl] at IT
  generalize Lib.decDigits k = l at IT sz hD
  rcases hD with ⟨hl, rfl⟩ | ⟨hl, rfl⟩
  · rw [hl] at sz
    go_enter Tryd.func32, Tryd.ntmps32
    go_wp2_with (first
      | (go_at_call 40; refine (IT.out _).mono ?_; rintro x w2 ⟨rfl, rfl⟩)
      | (go_at_call 41; refine (R1.out _).mono ?_; rintro x w2 ⟨rfl, rfl⟩))
    go_ret
    exact ⟨congrArg (fun s => Ending.returned (.string s)) (txt_app [48] l), rfl⟩
  · rw [hl] at sz
    go_enter Tryd.func32, Tryd.ntmps32
    go_wp2_with (first
      | (go_at_call 40; refine (IT.out _).mono ?_; rintro x w2 ⟨rfl, rfl⟩)
      | (go_at_call 41; refine (R0.out _).mono ?_; rintro x w2 ⟨rfl, rfl⟩))
    go_ret
    exact ⟨congrArg (fun s => Ending.returned (.string s)) (txt_app [] l), rfl⟩

/-- the library's table of powers -/
def Tb (w : World) : Prop := Lib.TabIs Tryd.prog w "internal/strconv.uint64pow10" .u64 Lib.pow10Tab
theorem gPow : Tryd.prog.globalNamed "internal/strconv.uint64pow10" = some 0 := by kernel_rfl
theorem Tb.below {w w' : World} (h : Tb w) (hb : Below w.heap.size w w') : Tb w' := Joins.tab_stays gPow h hb (Nat.le_refl _)
theorem below_grown (w : World) (k : Nat) (os : Array Obj) : Below w.heap.size w (Go.Sort.grow (w.drewN k) os) :=
  ⟨rfl, rfl, rfl, by show w.heap.size ≤ (w.heap ++ os).size; rw [Array.size_append]; omega, fun j hj => by show (w.heap ++ os)[j]? = w.heap[j]?; rw [Array.getElem?_append_left hj]⟩

set_option maxHeartbeats 1600000 in
theorem digits_four (n : Int) (w : World) (h0 : 0 ≤ n) (h1 : n < 10000) (ht : Tb w) :
    Calls Tryd.prog 32 #[.int .i64 n, .int .i64 4] w fun e w' => e = .returned (.string (txt (four n))) ∧ Below w.heap.size w w' := by
  obtain ⟨k, rfl⟩ : ∃ k : Nat, n = k := ⟨n.toNat, by omega⟩
  have IT := Lib.hid (strconv_Itoa k (by omega) (by omega) w ht)
  rw [Lib.itoa_nonneg] at IT
  have R0 := Lib.hid repeat_zero
  have R1 := Lib.hid repeat_one
  have R2 := Lib.hid repeat_two
  have R3 := Lib.hid repeat_three
  have sz := txt_size (Lib.decDigits k)
  have hD := dec_four k (by omega)
  have BG := Lib.hid (below_grown w)
  generalize four (k : Int) = T at hD ⊢
  rw [show (⟨(Lib.decDigits k).toArray⟩ : ByteArray) = txt (Lib.decDigits k) from rfl] at IT
  generalize Lib.decDigits k = l at IT sz hD
  rcases hD with ⟨hl, rfl⟩ | ⟨hl, rfl⟩ | ⟨hl, rfl⟩ | ⟨hl, rfl⟩
  · rw [hl] at sz
    go_enter Tryd.func32, Tryd.ntmps32
    go_wp2_with (first
      | (go_at_call 40; refine IT.out.mono ?_; rintro x w2 ⟨rfl, kk, os, rfl⟩)
      | (go_at_call 41; refine (R3.out _).mono ?_; rintro x w2 ⟨rfl, rfl⟩))
    go_ret
    exact ⟨congrArg (fun s => Ending.returned (.string s)) (txt_app [48, 48, 48] l), BG.out _ _⟩
  · rw [hl] at sz
    go_enter Tryd.func32, Tryd.ntmps32
    go_wp2_with (first
      | (go_at_call 40; refine IT.out.mono ?_; rintro x w2 ⟨rfl, kk, os, rfl⟩)
      | (go_at_call 41; refine (R2.out _).mono ?_; rintro x w2 ⟨rfl, rfl⟩))
    go_ret
    exact ⟨congrArg (fun s => Ending.returned (.string s)) (txt_app [48, 48] l), BG.out _ _⟩
  · rw [hl] at sz
    go_enter Tryd.func32, Tryd.ntmps32
    go_wp2_with (first
      | (go_at_call 40; refine IT.out.mono ?_; rintro x w2 ⟨rfl, kk, os, rfl⟩)
      | (go_at_call 41; refine (R1.out _).mono ?_; rintro x w2 ⟨rfl, rfl⟩))
    go_ret
    exact ⟨congrArg (fun s => Ending.returned (.string s)) (txt_app [48] l), BG.out _ _⟩
  · rw [hl] at sz
    go_enter Tryd.func32, Tryd.ntmps32
    go_wp2_with (first
      | (go_at_call 40; refine IT.out.mono ?_; rintro x w2 ⟨rfl, kk, os, rfl⟩)
      | (go_at_call 41; refine (R0.out _).mono ?_; rintro x w2 ⟨rfl, rfl⟩))
    go_ret
    exact ⟨congrArg (fun s => Ending.returned (.string s)) (txt_app [] l), BG.out _ _⟩
end Go.Proofs.YtgefnndegjpcpaaDoor
