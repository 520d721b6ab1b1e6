/- Layer 17: texts as lists of bytes; digits, seconds, small letters, where an element ends. -/
import Derived.Test.YtdfebmjincnfiaaDoorFdT
import Derived.Test.YtdfebmjincnfiaaDoorRow
import Derived.Lib.Strings
set_option maxRecDepth 100000
set_option linter.unusedSimpArgs false
set_option linter.unusedVariables false
namespace Go.Proofs.YtdfebmjincnfiaaDoor
open Go.RowKit

def txt (l : List UInt8) : ByteArray := ⟨l.toArray⟩
theorem txt_size (l : List UInt8) : (txt l).size = l.length := by show l.toArray.size = _; simp
theorem txt_app (a b : List UInt8) : txt a ++ txt b = txt (a ++ b) := by
  apply ByteArray.ext
  simp [txt, ByteArray.data_append]
theorem txt_list (l : List UInt8) : (txt l).toList = l := by
  show (ByteArray.mk l.toArray).toList = l
  rw [ByteArray.toList_eq]
theorem txt_eq (a b : List UInt8) : ((txt a).toList == (txt b).toList) = decide (a = b) := by
  rw [txt_list, txt_list]
  by_cases h : a = b <;> simp [h]
theorem txt_get {l : List UInt8} {k : Nat} (h : k < l.length) (h' : k < (txt l).size) : (txt l)[k]'h' = l[k] := by
  show (ByteArray.mk l.toArray)[k]'h' = l[k]
  rfl
theorem txt_extract (l : List UInt8) (a b : Nat) : (txt l).extract a b = txt ((l.drop a).take (b - a)) := by
  apply ByteArray.ext
  apply Array.toList_inj.1
  rw [Lib.extract_data]
  rfl
theorem txt_of (s : ByteArray) : ∃ l, s = txt l ∧ l.length = s.size := by
  refine ⟨s.data.toList, ?_, rfl⟩
  apply ByteArray.ext
  simp [txt]
theorem take_more {α : Type} {l : List α} {k : Nat} (h : k < l.length) : l.take (k + 1) = l.take k ++ [l[k]] := (List.take_append_getElem h).symm
theorem wr64 (n : Int) (h₀ : -9223372036854775808 ≤ n) (h₁ : n < 9223372036854775808) : IntKind.i64.wrap n = n := by rw [IntKind.wrap_i64]; omega

def isD (b : UInt8) : Bool := decide (48 ≤ b.toNat) && decide (b.toNat ≤ 57)
def digs (l : List UInt8) : Bool := !l.isEmpty && l.all isD
theorem digs_all {l : List UInt8} (h : digs l = true) : ∀ b ∈ l, 48 ≤ b.toNat ∧ b.toNat ≤ 57 := by
  intro b hb
  unfold digs at h
  rw [Bool.and_eq_true] at h
  have := List.all_eq_true.1 h.2 b hb
  unfold isD at this
  rw [Bool.and_eq_true, decide_eq_true_iff, decide_eq_true_iff] at this
  exact this

set_option maxHeartbeats 1600000 in
theorem digits_any (l : List UInt8) (hl : l.length ≤ 4611686018427387904) (w : World) :
    Calls Tryd.prog 56 #[.string (txt l)] w fun e w' => e = .returned (.bool (digs l)) ∧ w' = w := by
  have sz := txt_size l
  go_enter Tryd.func56, Tryd.ntmps56
  go_wp2_with fail
  go_loopw [6] (fun c wx => ∃ k : Nat, k ≤ l.length ∧ c = .int .i64 (k : Int) ∧ (l.take k).all isD = true ∧ wx = w) (fun c _ => l.length - (intOf c).toNat)
  case atStart => exact ⟨0, by omega, rfl, rfl, rfl⟩
  case round =>
    obtain ⟨k, hk, rfl, ha, rfl⟩ := hrel
    have HA := Lib.hid ha
    clear ha
    by_cases hlt : k < l.length
    · have hg := txt_get hlt (by rw [sz]; exact hlt)
      have hm : Hid (l[k] ∈ l) := List.getElem_mem hlt
      have hn : Hid (l.take (k + 1) = l.take k ++ [l[k]]) := take_more hlt
      generalize l[k] = x at hg hm hn
      have b2 := x.toNat_lt
      have hx : (k : Int) < (l.length : Int) := by omega
      have w0 := wr64 ((k : Int) + 1) (by omega) (by omega)
      have no : ¬ isD x = true → digs l = false := fun h => by
        unfold digs
        rw [show l.all isD = false by
          cases h2 : l.all isD with
          | false => rfl
          | true => exact absurd (List.all_eq_true.1 h2 x hm.out) h]
        simp
      have NO := Lib.hid no
      clear no
      by_cases h1 : (x.toNat : Int) < 48
      · go_wp2
        go_ret
        exact ⟨by rw [NO.out (by unfold isD; simp; omega)]; rfl, by trivial⟩
      · by_cases h2 : (57 : Int) < (x.toNat : Int)
        · go_wp2
          go_ret
          exact ⟨by rw [NO.out (by unfold isD; simp; omega)]; rfl, by trivial⟩
        · go_wp2
          go_round
          case rel => exact ⟨k + 1, by omega, by go_num, by rw [hn.out, List.all_append, HA.out]; unfold isD; simp; omega, by trivial⟩
          case measure => simp [intOf, w0]; omega
    · have hk2 : k = l.length := by omega
      subst hk2
      rw [List.take_length] at HA
      have he : ((txt l).toList == (txt []).toList) = decide (l = []) := txt_eq l []
      go_wp2
      go_ret
      refine ⟨?_, by trivial⟩
      unfold digs
      rw [HA.out]
      cases l <;> simp_all [txt, ByteArray.toList_eq]
end Go.Proofs.YtdfebmjincnfiaaDoor
