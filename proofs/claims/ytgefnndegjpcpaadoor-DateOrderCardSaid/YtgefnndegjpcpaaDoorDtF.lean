/- Walks of layer 16: what is read of a text. -/
import Derived.Test.YtgefnndegjpcpaaDoorDtC
set_option maxRecDepth 100000
set_option linter.unusedSimpArgs false
set_option linter.unusedVariables false
namespace Go.Proofs.YtgefnndegjpcpaaDoor
open Go.RowKit

theorem txt_list (l : List UInt8) : (txt l).toList = l := by
  show (ByteArray.mk l.toArray).toList = l
  rw [ByteArray.toList_eq]
theorem txt_eq (a b : List UInt8) : ((txt a).toList == (txt b).toList) = decide (a = b) := by
  rw [txt_list, txt_list]
  by_cases h : a = b <;> simp [h]

theorem valN_snoc (b : UInt8) : ∀ (l : List UInt8) (n : Int), valN (l ++ [b]) n = valN l n * 10 + (b.toNat : Int) - 48
  | [], n => rfl
  | x :: l, n => valN_snoc b l _
theorem valN_bound : ∀ (l : List UInt8), l.length ≤ 4 → -100000 ≤ valN l 0 ∧ valN l 0 ≤ 1000000
  | [], _ => by simp only [valN]; omega
  | [a], _ => by have := a.toNat_lt; simp only [valN]; omega
  | [a, b], _ => by have := a.toNat_lt; have := b.toNat_lt; simp only [valN]; omega
  | [a, b, c], _ => by have := a.toNat_lt; have := b.toNat_lt; have := c.toNat_lt; simp only [valN]; omega
  | [a, b, c, d], _ => by have := a.toNat_lt; have := b.toNat_lt; have := c.toNat_lt; have := d.toNat_lt; simp only [valN]; omega
theorem take_more {l : List UInt8} {k : Nat} (h : k < l.length) : l.take (k + 1) = l.take k ++ [l[k]] := by
  rw [List.take_add_one, List.getElem?_eq_getElem h]
  rfl
theorem txt_get {l : List UInt8} {k : Nat} (h : k < l.length) (h' : k < (txt l).size) : (txt l)[k]'h' = l[k] := by
  show (ByteArray.mk l.toArray)[k]'h' = l[k]
  rfl

set_option maxHeartbeats 1600000 in
theorem value_any (l : List UInt8) (hl : l.length ≤ 4) (w : World) :
    Calls Tryd.prog 35 #[.string (txt l)] w fun e w' => e = .returned (.int .i64 (valL l)) ∧ w' = w := by
  have sz := txt_size l
  unfold valL
  go_enter Tryd.func35, Tryd.ntmps35
  go_wp2_with fail
  go_loopw [3, 4, 7] (fun a _ c wx => ∃ k : Nat, k ≤ l.length ∧ a = .int .i64 (valN (l.take k) 0) ∧ c = .int .i64 (k : Int) ∧ wx = w) (fun _ _ c _ => 5 - (intOf c).toNat)
  case atStart => exact ⟨0, by omega, by simp [valN], rfl, rfl⟩
  case round =>
    obtain ⟨k, hk, rfl, rfl, rfl⟩ := hrel
    by_cases hlt : k < l.length
    · have hg := txt_get hlt (by rw [sz]; exact hlt)
      have hv := valN_snoc l[k] (l.take k) 0
      rw [← take_more hlt] at hv
      have b1 := valN_bound (l.take k) (by rw [List.length_take]; omega)
      have b2 := l[k].toNat_lt
      have HV := Lib.hid hv
      clear hv
      generalize valN (l.take k) 0 = v at b1 HV ⊢
      generalize l[k] = x at hg b2 HV
      have hx : (k : Int) < (l.length : Int) := by omega
      have w0 := wraps_i64' ((k : Int) + 1) (by omega) (by omega)
      have w1 := wraps_i64' (v * 10) (by omega) (by omega)
      have w2 := wraps_i64' (x.toNat : Int) (by omega) (by omega)
      have w3 := wraps_i64' (v * 10 + (x.toNat : Int)) (by omega) (by omega)
      have w4 := wraps_i64' (v * 10 + (x.toNat : Int) - 48) (by omega) (by omega)
      go_wp2
      go_round
      case rel => exact ⟨k + 1, by omega, by rw [HV.out], by go_num, by trivial⟩
      case measure => simp [intOf, w0]; omega
    · have hk2 : k = l.length := by omega
      subst hk2
      rw [List.take_length]
      go_wp2
      go_ret
      exact ⟨rfl, by trivial⟩

theorem index_month' (k : Nat) (W : World) (hk : k < 12) :
    (Instr.index 56 monthsV (.int .i64 (k : Int))).run Tryd.prog W = .ok (.agg #[.string (txt (mName ((k : Int) + 1))), .int .i64 (dim0 ((k : Int) + 1))]) W := by
  have := index_month ((k : Int) + 1) W (by omega) (by omega)
  rwa [show (k : Int) + 1 - 1 = k by omega] at this
theorem monL_ok {m : Int} (m0 : 1 ≤ m) (m1 : m ≤ 12) {l : List UInt8} (h : mName m = l) : monL l = m := by rw [← h]; exact (mon_ok m0 m1).2
theorem monL_no {l : List UInt8} (h : ∀ k : Nat, k < 12 → mName ((k : Int) + 1) ≠ l) : monL l = 0 := by
  have g : ∀ m : Int, 1 ≤ m → m ≤ 12 → ¬ l = mName m := fun m a b e => h (m - 1).toNat (by omega) (by rw [show (((m - 1).toNat : Nat) : Int) + 1 = m by omega]; exact e.symm)
  unfold monL
  rw [if_neg (g 1 (by omega) (by omega)), if_neg (g 2 (by omega) (by omega)), if_neg (g 3 (by omega) (by omega)), if_neg (g 4 (by omega) (by omega)), if_neg (g 5 (by omega) (by omega)), if_neg (g 6 (by omega) (by omega)), if_neg (g 7 (by omega) (by omega)), if_neg (g 8 (by omega) (by omega)), if_neg (g 9 (by omega) (by omega)), if_neg (g 10 (by omega) (by omega)), if_neg (g 11 (by omega) (by omega)), if_neg (g 12 (by omega) (by omega))]

set_option maxHeartbeats 1600000 in
theorem monthNamed_any (l : List UInt8) (w : World) :
    Calls Tryd.prog 36 #[.string (txt l)] w fun e w' => e = .returned (.int .i64 (monL l)) ∧ Below w.heap.size w w' := by
  go_enter Tryd.func36, Tryd.ntmps36
  go_wp2_with (go_at_call 33; refine (months_any _).mono ?_; rintro x w1 ⟨rfl, hb1⟩; have B1 := Lib.hid hb1; clear hb1)
  go_loopw [6] (fun a wx => ∃ k : Nat, k ≤ 12 ∧ a = .int .i64 (k : Int) ∧ (∀ j : Nat, j < k → mName ((j : Int) + 1) ≠ l) ∧ Below w.heap.size w wx) (fun a _ => 13 - (intOf a).toNat)
  case atStart => exact ⟨0, by omega, rfl, fun j hj => absurd hj (by omega), B1.out⟩
  case round =>
    obtain ⟨k, hk, rfl, hall, hb⟩ := hrel
    have HA := Lib.hid hall
    have BB := Lib.hid hb
    clear hall hb
    by_cases hlt : k < 12
    · have hix := fun W => index_month' k W hlt
      have hw := wraps_i64' ((k : Int) + 1) (by omega) (by omega)
      have hi : (k : Int) < 12 := by omega
      have hc := txt_eq (mName ((k : Int) + 1)) l
      by_cases he : mName ((k : Int) + 1) = l
      · have HM := Lib.hid (monL_ok (by omega) (by omega) he)
        rw [decide_eq_true he] at hc
        clear he
        generalize mName ((k : Int) + 1) = nm at hix hc
        generalize dim0 ((k : Int) + 1) = dd at hix
        go_wp2
        go_ret
        rw [HM.out]
        exact ⟨rfl, BB.out.alloc BB.out.size _⟩
      · have HE : Hid (∀ j : Nat, j < k + 1 → mName ((j : Int) + 1) ≠ l) := fun j hj e => by
          by_cases h : j = k
          · subst h; exact he e
          · exact HA.out j (by omega) e
        rw [decide_eq_false he] at hc
        clear he
        generalize mName ((k : Int) + 1) = nm at hix hc
        generalize dim0 ((k : Int) + 1) = dd at hix
        go_wp2
        go_round
        case rel => exact ⟨k + 1, by omega, by go_num, HE.out, BB.out.alloc BB.out.size _⟩
        case measure => simp [intOf, hw]; omega
    · have hk2 : k = 12 := by omega
      subst hk2
      have HM := Lib.hid (monL_no HA.out)
      go_wp2
      go_ret
      rw [HM.out]
      exact ⟨rfl, BB.out⟩
end Go.Proofs.YtgefnndegjpcpaaDoor
