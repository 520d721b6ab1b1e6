/- Walks of layer 12: the fields' code. -/
import Derived.Test.YtjaeccealfeakaaHfC
import Derived.Lib.OthersKept
set_option maxRecDepth 100000
set_option linter.unusedSimpArgs false
set_option linter.unusedVariables false
namespace Go.Proofs.Ytjaeccealfeakaa
open Go.RowKit

def baseN (n : Nat) : Nat := if (97 ≤ n ∧ n ≤ 122) ∨ (48 ≤ n ∧ n ≤ 57) then 7 else if 33 ≤ n ∧ n ≤ 126 then 9 else 13
abbrev sLong : ByteArray := { data := #[32, 58, 59, 61, 44, 37, 95, 42, 34, 63, 38, 43] }
abbrev sFew : ByteArray := { data := #[97, 99, 101, 105, 110, 111, 114, 115, 116, 47, 45, 46, 48, 49, 50] }
def chars (s : ByteArray) : List Nat := s.data.toList.map UInt8.toNat
/-- the length of a byte in the fields' code -/
def fldN (n : Nat) : Nat := if n ∈ chars sFew then 5 else if (97 ≤ n ∧ n ≤ 122) ∨ (48 ≤ n ∧ n ≤ 57) ∨ n ∈ chars sLong then 7 else if 33 ≤ n ∧ n ≤ 126 then 9 else 13
def fldL : List Int := (List.range 256).map fun n => (fldN n : Int)

theorem flen_any (n : Nat) (hn : n < 256) (w : World) : Calls Try.prog 27 #[.int .i64 (n : Int)] w fun e w' => e = .returned (.int .i64 ((baseN n : Nat) : Int)) ∧ w = w' := by
  obtain ⟨b, hb⟩ : ∃ b, b = baseN n := ⟨_, rfl⟩
  rw [← hb]
  have hcase : (n < 33 ∧ b = 13) ∨ (33 ≤ n ∧ n < 48 ∧ b = 9) ∨ (48 ≤ n ∧ n ≤ 57 ∧ b = 7) ∨ (58 ≤ n ∧ n < 97 ∧ b = 9) ∨ (97 ≤ n ∧ n ≤ 122 ∧ b = 7) ∨ (123 ≤ n ∧ n ≤ 126 ∧ b = 9) ∨ (127 ≤ n ∧ b = 13) := by
    rw [hb, baseN]
    by_cases h1 : (97 ≤ n ∧ n ≤ 122) ∨ (48 ≤ n ∧ n ≤ 57)
    · rw [if_pos h1]; omega
    · rw [if_neg h1]
      by_cases h2 : 33 ≤ n ∧ n ≤ 126
      · rw [if_pos h2]; omega
      · rw [if_neg h2]; omega
  clear hb
  rcases hcase with ⟨h1, rfl⟩ | ⟨h1, h2, rfl⟩ | ⟨h1, h2, rfl⟩ | ⟨h1, h2, rfl⟩ | ⟨h1, h2, rfl⟩ | ⟨h1, h2, rfl⟩ | ⟨h1, rfl⟩
  · have e1 : decide ((n : Int) ≥ 97) = false := decide_eq_false (by omega)
    have e2 : decide ((n : Int) ≥ 48) = false := decide_eq_false (by omega)
    have e3 : decide ((n : Int) ≥ 33) = false := decide_eq_false (by omega)
    go_enter Try.func27, Try.ntmps27
    go_wp2
    go_ret
    exact ⟨rfl, rfl⟩
  · have e1 : decide ((n : Int) ≥ 97) = false := decide_eq_false (by omega)
    have e2 : decide ((n : Int) ≥ 48) = false := decide_eq_false (by omega)
    have e3 : decide ((n : Int) ≥ 33) = true := decide_eq_true (by omega)
    have e4 : decide ((n : Int) ≤ 126) = true := decide_eq_true (by omega)
    go_enter Try.func27, Try.ntmps27
    go_wp2
    go_ret
    exact ⟨rfl, rfl⟩
  · have e1 : decide ((n : Int) ≥ 97) = false := decide_eq_false (by omega)
    have e2 : decide ((n : Int) ≥ 48) = true := decide_eq_true (by omega)
    have e3 : decide ((n : Int) ≤ 57) = true := decide_eq_true (by omega)
    go_enter Try.func27, Try.ntmps27
    go_wp2
    go_ret
    exact ⟨rfl, rfl⟩
  · have e1 : decide ((n : Int) ≥ 97) = false := decide_eq_false (by omega)
    have e2 : decide ((n : Int) ≥ 48) = true := decide_eq_true (by omega)
    have e3 : decide ((n : Int) ≤ 57) = false := decide_eq_false (by omega)
    have e4 : decide ((n : Int) ≥ 33) = true := decide_eq_true (by omega)
    have e5 : decide ((n : Int) ≤ 126) = true := decide_eq_true (by omega)
    go_enter Try.func27, Try.ntmps27
    go_wp2
    go_ret
    exact ⟨rfl, rfl⟩
  · have e1 : decide ((n : Int) ≥ 97) = true := decide_eq_true (by omega)
    have e2 : decide ((n : Int) ≤ 122) = true := decide_eq_true (by omega)
    go_enter Try.func27, Try.ntmps27
    go_wp2
    go_ret
    exact ⟨rfl, rfl⟩
  · have e1 : decide ((n : Int) ≥ 97) = true := decide_eq_true (by omega)
    have e2 : decide ((n : Int) ≤ 122) = false := decide_eq_false (by omega)
    have e3 : decide ((n : Int) ≥ 48) = true := decide_eq_true (by omega)
    have e6 : decide ((n : Int) ≤ 57) = false := decide_eq_false (by omega)
    have e4 : decide ((n : Int) ≥ 33) = true := decide_eq_true (by omega)
    have e5 : decide ((n : Int) ≤ 126) = true := decide_eq_true (by omega)
    go_enter Try.func27, Try.ntmps27
    go_wp2
    go_ret
    exact ⟨rfl, rfl⟩
  · have e1 : decide ((n : Int) ≥ 97) = true := decide_eq_true (by omega)
    have e2 : decide ((n : Int) ≤ 122) = false := decide_eq_false (by omega)
    have e3 : decide ((n : Int) ≥ 48) = true := decide_eq_true (by omega)
    have e6 : decide ((n : Int) ≤ 57) = false := decide_eq_false (by omega)
    have e4 : decide ((n : Int) ≥ 33) = true := decide_eq_true (by omega)
    have e5 : decide ((n : Int) ≤ 126) = false := decide_eq_false (by omega)
    go_enter Try.func27, Try.ntmps27
    go_wp2
    go_ret
    exact ⟨rfl, rfl⟩

set_option maxHeartbeats 1000000 in
theorem among_any (s : ByteArray) (c : Nat) (w : World) (hs : s.size ≤ 256) (hc : c < 256) : Calls Try.prog 28 #[.string s, .int .u8 (c : Int)] w fun e w' => e = .returned (.bool (decide (c ∈ chars s))) ∧ w = w' := by
  obtain ⟨ans, hans⟩ : ∃ ans, ans = decide (c ∈ chars s) := ⟨_, rfl⟩
  rw [← hans]
  have A0 := Lib.hid hans
  have HG : Hid (∀ k (h : k < s.size), (s[k]'h).toNat ∈ chars s ∧ ∀ x ∈ chars s, ∃ k, ∃ h : k < s.size, (s[k]'h).toNat = x) := fun k h => by
    have hl : s.data.toList.length = s.size := rfl
    refine ⟨List.mem_map.2 ⟨s.data.toList[k]'(by rw [hl]; exact h), List.getElem_mem _, rfl⟩, fun x hx => ?_⟩
    obtain ⟨y, hy, rfl⟩ := List.mem_map.1 hx
    obtain ⟨j, hj, rfl⟩ := List.mem_iff_getElem.1 hy
    exact ⟨j, by rw [← hl]; exact hj, rfl⟩
  clear hans
  go_enter Try.func28, Try.ntmps28
  go_wp2_with fail
  go_loop [5] (fun i => ∃ k : Nat, k ≤ s.size ∧ i = .int .i64 (k : Int) ∧ Hid (∀ j (h : j < s.size), j < k → (s[j]'h).toNat ≠ c)) (fun i => s.size - (intOf i).toNat)
  case atStart => exact ⟨0, Nat.zero_le _, rfl, fun j h hj => by omega⟩
  case round =>
    obtain ⟨k, hk, rfl, hno⟩ := hrel
    by_cases hlt : k < s.size
    · by_cases he : (s[k]'hlt).toNat = c
      · have AA : Hid (ans = true) := A0.out.trans (decide_eq_true (by rw [← he]; exact (HG.out k hlt).1))
        have de : (((s[k]'hlt).toNat : Int) == (c : Int)) = true := by simp; omega
        have de' : ((s[k]'hlt).toNat == c) = true := by simp; omega
        clear hno he A0
        go_wp2_with fail
        refine bodyPost_ret (v := .bool true) (by simp [results, Try.results28, go_sem]) rfl ⟨by rw [AA.out], rfl⟩
      · have de : (((s[k]'hlt).toNat : Int) == (c : Int)) = false := by simp; omega
        have de' : ((s[k]'hlt).toNat == c) = false := by simp; omega
        have de'' : decide ((s[k]'hlt).toNat = c) = false := decide_eq_false he
        have HN : Hid (∀ j (h : j < s.size), j < k + 1 → (s[j]'h).toNat ≠ c) := fun j h hj => by
          by_cases e : j = k
          · subst e; exact he
          · exact hno.out j h (by omega)
        clear hno he
        go_wp2_with fail
        go_round
        case rel => exact ⟨k + 1, by omega, by go_num, HN⟩
        case measure => simp [intOf]; omega
    · have AA : Hid (ans = false) := A0.out.trans (decide_eq_false fun h => by
        by_cases h0 : 0 < s.size
        · obtain ⟨j, hj, e⟩ := (HG.out 0 h0).2 c h
          exact hno.out j hj (by omega) e
        · have : chars s = [] := List.eq_nil_of_length_eq_zero (by simp only [chars, List.length_map]; show s.size = 0; omega)
          rw [this] at h; cases h)
      have dl : decide ((k : Int) < (s.size : Int)) = false := decide_eq_false (by omega)
      have dl' : decide (k < s.size) = false := decide_eq_false (by omega)
      clear hno A0
      go_wp2_with fail
      refine bodyPost_ret (v := .bool false) (by simp [results, Try.results28, go_sem]) rfl ⟨by rw [AA.out], rfl⟩
theorem among_b (s : ByteArray) (c : Nat) (b : Bool) (hb : decide (c ∈ chars s) = b) (hs : s.size ≤ 256) (hc : c < 256) (w : World) : Calls Try.prog 28 #[.string s, .int .u8 (c : Int)] w fun e w' => e = .returned (.bool b) ∧ w = w' := hb ▸ among_any s c w hs hc
end Go.Proofs.Ytjaeccealfeakaa
