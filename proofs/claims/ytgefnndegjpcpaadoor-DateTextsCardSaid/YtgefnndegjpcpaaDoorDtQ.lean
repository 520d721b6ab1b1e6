/- Walks of layer 16: a text's number, by the document (its parts). -/
import Derived.Test.YtgefnndegjpcpaaDoorDtF
set_option maxRecDepth 100000
set_option linter.unusedSimpArgs false
set_option linter.unusedVariables false
namespace Go.Proofs.YtgefnndegjpcpaaDoor
open Go.RowKit

theorem pow_bound {k : Nat} (h : k ≤ 4) : (10 : Int) ^ k ≤ 10000 := by
  obtain h | h | h | h | h : k = 0 ∨ k = 1 ∨ k = 2 ∨ k = 3 ∨ k = 4 := by omega
  all_goals subst h; decide
theorem pow_more (k : Nat) : (10 : Int) ^ (k + 1) = 10 ^ k * 10 := Int.pow_succ _ _

set_option maxHeartbeats 1600000 in
theorem rvalue_any (l : List UInt8) (hl : l.length ≤ 4) (w : World) :
    Calls Tryd.prog 37 #[.string (txt l)] w fun e w' => e = .returned (.int .i64 (numL l)) ∧ w' = w := by
  have sz := txt_size l
  unfold numL
  go_enter Tryd.func37, Tryd.ntmps37
  go_wp2_with fail
  go_loopw [3, 4] (fun a c wx => ∃ (k : Nat) (v : Int), k ≤ l.length ∧ a = .int .i64 v ∧ c = .int .i64 (k : Int) ∧ 0 ≤ v ∧ v < 10 ^ k ∧ numN (l.drop k) v = numN l 0 ∧ wx = w) (fun _ c _ => 5 - (intOf c).toNat)
  case atStart => exact ⟨0, 0, by omega, rfl, rfl, by omega, by decide, rfl, rfl⟩
  case round =>
    obtain ⟨k, v, hk, rfl, rfl, v0, v1, hv, rfl⟩ := hrel
    by_cases hlt : k < l.length
    · have hg := txt_get hlt (by rw [sz]; exact hlt)
      rw [List.drop_eq_getElem_cons hlt] at hv
      have b2 := l[k].toNat_lt
      have hp := pow_bound (k := k) (by omega)
      have hpm := pow_more k
      generalize l[k] = x at hg b2 hv
      have hx : (k : Int) < (l.length : Int) := by omega
      have w0 := wraps_i64' ((k : Int) + 1) (by omega) (by omega)
      by_cases h1 : (x.toNat : Int) < 48
      · have d1 : decide ((x.toNat : Int) < 48) = true := decide_eq_true h1
        have hv2 : numN l 0 = 0 := by
          rw [← hv, numN, if_pos (.inl (UInt8.lt_iff_toNat_lt.2 (by show x.toNat < 48; omega)))]
        have HV := Lib.hid hv2
        clear hv hv2
        go_wp2
        go_ret
        rw [HV.out]
        exact ⟨rfl, by trivial⟩
      · have d1 : decide ((x.toNat : Int) < 48) = false := decide_eq_false h1
        by_cases h2 : (x.toNat : Int) > 57
        · have d2 : decide ((x.toNat : Int) > 57) = true := decide_eq_true h2
          have hv2 : numN l 0 = 0 := by
            rw [← hv, numN, if_pos (.inr (UInt8.lt_iff_toNat_lt.2 (by show 57 < x.toNat; omega)))]
          have HV := Lib.hid hv2
          clear hv hv2
          go_wp2
          go_ret
          rw [HV.out]
          exact ⟨rfl, by trivial⟩
        · have d2 : decide ((x.toNat : Int) > 57) = false := decide_eq_false h2
          have w1 := wraps_i64' (v * 10) (by omega) (by omega)
          have w2 : IntKind.u8.wrap ((x.toNat : Int) - 48) = (x.toNat : Int) - 48 := by simp only [IntKind.wrap_u8]; omega
          have w3 := wraps_i64' ((x.toNat : Int) - 48) (by omega) (by omega)
          have w4 := wraps_i64' (v * 10 + ((x.toNat : Int) - 48)) (by omega) (by omega)
          have hv2 : numN (l.drop (k + 1)) (v * 10 + ((x.toNat : Int) - 48)) = numN l 0 := by
            rw [← hv]
            conv => rhs; rw [numN]
            rw [if_neg]
            rintro (h | h)
            · have := UInt8.lt_iff_toNat_lt.1 h
              have e : (48 : UInt8).toNat = 48 := rfl
              omega
            · have := UInt8.lt_iff_toNat_lt.1 h
              have e : (57 : UInt8).toNat = 57 := rfl
              omega
          have HV := Lib.hid hv2
          have HB : Hid (0 ≤ v * 10 + ((x.toNat : Int) - 48) ∧ v * 10 + ((x.toNat : Int) - 48) < 10 ^ (k + 1)) := ⟨by omega, by rw [hpm]; omega⟩
          clear hv hv2 hpm hp v1
          go_wp2
          go_round
          case rel => exact ⟨k + 1, v * 10 + ((x.toNat : Int) - 48), by omega, rfl, by go_num, HB.out.1, HB.out.2, HV.out, by trivial⟩
          case measure => simp [intOf, w0]; omega
    · have hk2 : k = l.length := by omega
      rw [hk2, List.drop_length, numN] at hv
      have HV := Lib.hid hv
      clear hv
      go_wp2
      go_ret
      rw [← HV.out]
      exact ⟨rfl, by trivial⟩

theorem slice_mon' (k : Nat) (W : World) (hk : k < 12) : (Instr.slice 9 (.string ⟨#[74, 97, 110, 70, 101, 98, 77, 97, 114, 65, 112, 114, 77, 97, 121, 74, 117, 110, 74, 117, 108, 65, 117, 103, 83, 101, 112, 79, 99, 116, 78, 111, 118, 68, 101, 99]⟩) (some (.int .i64 (3 * ((k : Int) + 1) - 3))) (some (.int .i64 (3 * ((k : Int) + 1)))) none).run Tryd.prog W = .ok (.string (txt (mName ((k : Int) + 1)))) W := by
  obtain h | h | h | h | h | h | h | h | h | h | h | h : k = 0 ∨ k = 1 ∨ k = 2 ∨ k = 3 ∨ k = 4 ∨ k = 5 ∨ k = 6 ∨ k = 7 ∨ k = 8 ∨ k = 9 ∨ k = 10 ∨ k = 11 := by omega
  all_goals subst h; kernel_rfl
/-- the month found among the first k -/
def monK (l : List UInt8) : Nat → Int
  | 0 => 0
  | k + 1 => if mName ((k : Int) + 1) = l then (k : Int) + 1 else monK l k
theorem monL_inv {l : List UInt8} : (monL l = 0 ∧ ∀ m : Int, 1 ≤ m → m ≤ 12 → mName m ≠ l) ∨ (1 ≤ monL l ∧ monL l ≤ 12 ∧ mName (monL l) = l) := by
  by_cases h : ∃ m : Int, 1 ≤ m ∧ m ≤ 12 ∧ mName m = l
  · obtain ⟨m, m0, m1, h⟩ := h
    rw [monL_ok m0 m1 h]
    exact .inr ⟨m0, m1, h⟩
  · have g : ∀ m : Int, 1 ≤ m → m ≤ 12 → mName m ≠ l := fun m a b e => h ⟨m, a, b, e⟩
    exact .inl ⟨monL_no fun k hk => g _ (by omega) (by omega), g⟩
theorem monK_eq (l : List UInt8) : ∀ k : Nat, k ≤ 12 → monK l k = if monL l ≤ (k : Int) then monL l else 0
  | 0, _ => by
    rcases monL_inv (l := l) with ⟨h, _⟩ | ⟨h, _⟩
    · rw [h]; rfl
    · rw [if_neg (by omega)]; rfl
  | k + 1, hk => by
    rw [monK]
    by_cases h : mName ((k : Int) + 1) = l
    · rw [if_pos h, monL_ok (by omega) (by omega) h, if_pos (by omega)]
    · rw [if_neg h, monK_eq l k (by omega)]
      have hne : monL l ≠ (k : Int) + 1 := fun e => by
        rcases monL_inv (l := l) with ⟨h0, _⟩ | ⟨_, _, h2⟩
        · omega
        · rw [e] at h2; exact h h2
      by_cases hc : monL l ≤ (k : Int)
      · rw [if_pos hc, if_pos (by omega)]
      · rw [if_neg hc, if_neg (by omega)]
theorem monK_all (l : List UInt8) : monK l 12 = monL l := by
  rw [monK_eq l 12 (by omega)]
  rcases monL_inv (l := l) with ⟨h, _⟩ | ⟨_, h, _⟩
  · rw [h]; rfl
  · rw [if_pos (by omega)]
theorem monK_bound (l : List UInt8) (k : Nat) (hk : k ≤ 12) : 0 ≤ monK l k ∧ monK l k ≤ 12 := by
  rw [monK_eq l k hk]
  split
  · rcases monL_inv (l := l) with ⟨h, _⟩ | ⟨_, h, _⟩ <;> omega
  · omega
end Go.Proofs.YtgefnndegjpcpaaDoor
