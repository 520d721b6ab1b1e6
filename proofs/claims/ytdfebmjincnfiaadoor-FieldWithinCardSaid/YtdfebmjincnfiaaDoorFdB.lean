/- Layer 17: seconds; where a quoted string, and an element, end. -/
import Derived.Test.YtdfebmjincnfiaaDoorFdA
set_option maxRecDepth 100000
set_option linter.unusedSimpArgs false
set_option linter.unusedVariables false
namespace Go.Proofs.YtdfebmjincnfiaaDoor
open Go.RowKit

/-! ## seconds -/
def secS (n : Int) (b : UInt8) : Int := if 2147483648 < 10 * n + ((b.toNat : Int) - 48) then 2147483648 else 10 * n + ((b.toNat : Int) - 48)
def secE (l : List UInt8) : Int := l.foldl secS 0
theorem sec_snoc (l : List UInt8) (b : UInt8) : secE (l ++ [b]) = secS (secE l) b := by unfold secE; rw [List.foldl_append]; rfl
theorem sec_bound : ∀ (l : List UInt8) (n : Int), 0 ≤ n → n ≤ 2147483648 → (∀ b ∈ l, 48 ≤ b.toNat ∧ b.toNat ≤ 57) → 0 ≤ l.foldl secS n ∧ l.foldl secS n ≤ 2147483648 := by
  intro l
  induction l with
  | nil => intro n h0 h1 _; exact ⟨h0, h1⟩
  | cons b l ih =>
    intro n h0 h1 h
    have hb := h b (by simp)
    exact ih (secS n b) (by unfold secS; split <;> omega) (by unfold secS; split <;> omega) (fun c hc => h c (by simp [hc]))
set_option maxHeartbeats 1600000 in
theorem seconds_any (l : List UInt8) (hl : l.length ≤ 4611686018427387904) (w : World) :
    Calls Tryd.prog 51 #[.string (txt l)] w fun e w' => e = .returned (.tuple #[.int .i64 (if digs l then secE l else 0), .bool (digs l)]) ∧ w' = w := by
  have sz := txt_size l
  have D := Lib.hid (digits_any l hl w)
  cases hd : digs l with
  | false =>
    rw [hd] at D
    go_enter Tryd.func51, Tryd.ntmps51
    go_wp2_with (go_at_call 56; refine D.out.mono ?_; rintro e w2 ⟨rfl, rfl⟩)
    go_ret2
    exact ⟨rfl, by trivial⟩
  | true =>
    rw [hd] at D
    have hall := Lib.hid (digs_all hd)
    go_enter Tryd.func51, Tryd.ntmps51
    go_wp2_with (go_at_call 56; refine D.out.mono ?_; rintro e w2 ⟨rfl, rfl⟩)
    go_loopw [4, 11] (fun a c wx => ∃ k : Nat, k ≤ l.length ∧ a = .int .i64 (secE (l.take k)) ∧ c = .int .i64 (k : Int) ∧ wx = w2) (fun _ c _ => l.length - (intOf c).toNat)
    case atStart => exact ⟨0, by omega, rfl, rfl, rfl⟩
    case round =>
      obtain ⟨k, hk, rfl, rfl, rfl⟩ := hrel
      by_cases hlt : k < l.length
      · have hg := txt_get hlt (by rw [sz]; exact hlt)
        have hb := hall.out _ (List.getElem_mem hlt)
        have hv := Lib.hid (sec_snoc (l.take k) l[k])
        rw [← take_more hlt] at hv
        have b1 : 0 ≤ secE (l.take k) ∧ secE (l.take k) ≤ 2147483648 := sec_bound (l.take k) 0 (by omega) (by omega) (fun c hc => hall.out c (List.mem_of_mem_take hc))
        generalize secE (l.take k) = v at b1 hv ⊢
        generalize l[k] = x at hg hb hv
        obtain ⟨b3, b4⟩ := b1
        obtain ⟨b5, b6⟩ := hb
        have b2 := x.toNat_lt
        have hx : (k : Int) < (l.length : Int) := by omega
        have w0 := wr64 ((k : Int) + 1) (by omega) (by omega)
        have w1 := wr64 (10 * v) (by omega) (by omega)
        have w2 : IntKind.u8.wrap ((x.toNat : Int) - 48) = (x.toNat : Int) - 48 := by rw [IntKind.wrap_u8]; omega
        have w3 := wr64 ((x.toNat : Int) - 48) (by omega) (by omega)
        have w4 := wr64 (10 * v + ((x.toNat : Int) - 48)) (by omega) (by omega)
        go_wp2
        go_round
        case rel => exact ⟨k + 1, by omega, by rw [hv.out]; rfl, by go_num, by trivial⟩
        case measure => simp [intOf, w0]; omega
      · have hk2 : k = l.length := by omega
        subst hk2
        rw [List.take_length]
        go_wp2
        go_ret2
        exact ⟨rfl, by trivial⟩

/-! ## where a quoted string, and an element, end -/
def qend : Nat → List UInt8 → Nat
  | _, [] => 0
  | q, b :: l => if nxt q b = 0 then 1 else 1 + qend (nxt q b) l
def endE : Nat → List UInt8 → Nat
  | _, [] => 0
  | q, b :: l => if q = 0 ∧ b = 44 then 0 else 1 + endE (nxt q b) l
theorem qend_le : ∀ (l : List UInt8) (q : Nat), qend q l ≤ l.length := by
  intro l
  induction l with
  | nil => intro q; exact Nat.le_refl _
  | cons b l ih =>
    intro q
    rw [qend, List.length_cons]
    split
    · omega
    · have := ih (nxt q b); omega
theorem endE_le : ∀ (l : List UInt8) (q : Nat), endE q l ≤ l.length := by
  intro l
  induction l with
  | nil => intro q; exact Nat.le_refl _
  | cons b l ih =>
    intro q
    rw [endE, List.length_cons]
    split
    · omega
    · have := ih (nxt q b); omega
theorem nxt_pos {q : Nat} (b : UInt8) (h : nxt q b ≠ 0) : nxt q b = 1 ∨ nxt q b = 2 := by
  unfold nxt at h ⊢
  split
  · split <;> simp_all
  · split
    · split
      · exact .inr rfl
      · split <;> simp_all
    · exact .inl rfl
theorem endE_q : ∀ (l : List UInt8) (q : Nat), q ≠ 0 → endE q l = qend q l + endE 0 (l.drop (qend q l)) := by
  intro l
  induction l with
  | nil => intro q _; rfl
  | cons b l ih =>
    intro q hq
    rw [endE, if_neg (by rintro ⟨h, _⟩; exact hq h), qend]
    split
    · rename_i h
      rw [h]
      show 1 + endE 0 l = 1 + endE 0 ((b :: l).drop 1)
      rfl
    · rename_i h
      rw [ih _ h, show 1 + qend (nxt q b) l = qend (nxt q b) l + 1 by omega, List.drop_succ_cons]
      omega
theorem drop_get {α : Type} {l : List α} {k : Nat} (h : k < l.length) : l.drop k = l[k] :: l.drop (k + 1) := List.drop_eq_getElem_cons h

set_option maxHeartbeats 1600000 in
theorem quoted_any (l : List UInt8) (p : Nat) (hp : p < l.length) (hl : l.length ≤ 4611686018427387904) (w : World) :
    Calls Tryd.prog 31 #[.string (txt l), .int .i64 (p : Int)] w fun e w' => e = .returned (.int .i64 ((p + 1 + qend 1 (l.drop (p + 1)) : Nat) : Int)) ∧ w' = w := by
  have sz := txt_size l
  have hq : Hid (∃ r : Nat, r = p + 1 + qend 1 (l.drop (p + 1))) := ⟨_, rfl⟩
  have wp := wr64 ((p : Int) + 1) (by omega) (by omega)
  have R0 : Hid (p + 1 + qend 1 (l.drop (p + 1)) = p + 1 + qend 1 (l.drop (p + 1))) := rfl
  obtain ⟨r, hr⟩ : ∃ r : Nat, r = p + 1 + qend 1 (l.drop (p + 1)) := ⟨_, rfl⟩
  have HR := Lib.hid hr
  rw [← hr]
  clear hr hq R0
  go_enter Tryd.func31, Tryd.ntmps31
  go_wp2_with fail
  go_loopw [5] (fun c wx => ∃ k : Nat, c = .int .i64 (k : Int) ∧ k ≤ l.length + 1 ∧ (k ≤ l.length → r = k + qend 1 (l.drop k)) ∧ (l.length < k → r = l.length) ∧ wx = w) (fun c _ => l.length + 2 - (intOf c).toNat)
  case atStart => exact ⟨p + 1, by simp, by omega, fun _ => HR.out, fun h => by omega, rfl⟩
  case round =>
    obtain ⟨k, rfl, hk, ha, hb, rfl⟩ := hrel
    have HA := Lib.hid ha
    have HB := Lib.hid hb
    clear ha hb
    by_cases hlt : k < l.length
    · have hg := txt_get hlt (by rw [sz]; exact hlt)
      have hdr := Lib.hid (drop_get hlt)
      have hsec := Lib.hid (HA.out (by omega))
      generalize l[k] = x at hg hdr
      have b2 := x.toNat_lt
      have hx : (k : Int) < (l.length : Int) := by omega
      have w0 := wr64 ((k : Int) + 1) (by omega) (by omega)
      have w2 := wr64 ((k : Int) + 1 + 1) (by omega) (by omega)
      by_cases h1 : x = 92
      · subst h1
        have hs2 : Hid (r = k + (1 + qend 2 (l.drop (k + 1)))) := by
          have := hsec.out
          rw [hdr.out, qend, show nxt 1 92 = 2 from rfl, if_neg (by decide)] at this
          exact this
        go_wp2
        go_round
        case rel =>
          refine ⟨k + 1 + 1, by go_num, by omega, fun h => ?_, fun h => ?_, by trivial⟩
          · have h3 : k + 1 < l.length := by omega
            have := hs2.out
            rw [drop_get h3, qend, show nxt 2 l[k + 1] = 1 from rfl, if_neg (by decide)] at this
            omega
          · have h3 : l.length = k + 1 := by omega
            have := hs2.out
            rw [List.drop_of_length_le (by omega)] at this
            simp only [qend] at this
            omega
        case measure => simp [intOf, w0, w2]; omega
      · have n1 : ¬ (x.toNat : Int) = 92 := fun h => h1 (UInt8.toNat_inj.1 (by simpa using (by omega : x.toNat = 92)))
        by_cases h2 : x = 34
        · subst h2
          go_wp2
          go_ret
          refine ⟨?_, by trivial⟩
          have := hsec.out
          rw [hdr.out, qend, show nxt 1 34 = 0 from rfl, if_pos rfl] at this
          rw [this]
          rfl
        · have n2 : ¬ (x.toNat : Int) = 34 := fun h => h2 (UInt8.toNat_inj.1 (by simpa using (by omega : x.toNat = 34)))
          have hn : nxt 1 x = 1 := by unfold nxt; rw [if_neg (by decide), if_pos rfl, if_neg h1, if_neg h2]
          go_wp2
          go_round
          case rel =>
            refine ⟨k + 1, by go_num, by omega, fun h => ?_, fun h => by omega, by trivial⟩
            have := hsec.out
            rw [hdr.out, qend, hn, if_neg (by decide)] at this
            omega
          case measure => simp [intOf, w0]; omega
    · have hend : Hid (r = l.length) := by
        by_cases h3 : l.length < k
        · exact HB.out h3
        · have := HA.out (by omega)
          rw [List.drop_of_length_le (by omega)] at this
          simp only [qend] at this
          show r = l.length
          omega
      have hx : ¬ (k : Int) < (l.length : Int) := by omega
      go_wp2
      go_ret
      exact ⟨by rw [hend.out]; rfl, by trivial⟩

set_option maxHeartbeats 1600000 in
theorem end_any (l : List UInt8) (hl : l.length ≤ 4611686018427387904) (w : World) :
    Calls Tryd.prog 21 #[.string (txt l)] w fun e w' => e = .returned (.int .i64 (endE 0 l : Int)) ∧ w' = w := by
  have sz := txt_size l
  have Q := Lib.hid (fun p hp => quoted_any l p hp hl)
  obtain ⟨r, hr⟩ : ∃ r : Nat, r = endE 0 l := ⟨_, rfl⟩
  have HR := Lib.hid hr
  rw [← hr]
  clear hr
  go_enter Tryd.func21, Tryd.ntmps21
  go_wp2_with fail
  go_loopw [3] (fun c wx => ∃ k : Nat, c = .int .i64 (k : Int) ∧ k ≤ l.length ∧ r = k + endE 0 (l.drop k) ∧ wx = w) (fun c _ => l.length - (intOf c).toNat)
  case atStart => exact ⟨0, rfl, by omega, by rw [HR.out]; simp, rfl⟩
  case round =>
    obtain ⟨k, rfl, hk, ha, rfl⟩ := hrel
    have HA := Lib.hid ha
    clear ha
    by_cases hlt : k < l.length
    · have hg := txt_get hlt (by rw [sz]; exact hlt)
      have hdr := Lib.hid (drop_get hlt)
      generalize l[k] = x at hg hdr
      have b2 := x.toNat_lt
      have hx : (k : Int) < (l.length : Int) := by omega
      have w0 := wr64 ((k : Int) + 1) (by omega) (by omega)
      by_cases h1 : x = 44
      · subst h1
        go_wp2
        go_ret
        refine ⟨?_, by trivial⟩
        have := HA.out
        rw [hdr.out, endE, if_pos ⟨rfl, rfl⟩] at this
        rw [this]
        rfl
      · have n1 : ¬ (x.toNat : Int) = 44 := fun h => h1 (UInt8.toNat_inj.1 (by simpa using (by omega : x.toNat = 44)))
        by_cases h2 : x = 34
        · subst h2
          have hle := qend_le (l.drop (k + 1)) 1
          rw [List.length_drop] at hle
          have hs := HA.out
          rw [hdr.out, endE, if_neg (by simp), show nxt 0 34 = 1 from rfl, endE_q _ 1 (by decide), List.drop_drop] at hs
          have HS := Lib.hid hs
          clear hs
          obtain ⟨m, hm⟩ : ∃ m : Nat, m = qend 1 (l.drop (k + 1)) := ⟨_, rfl⟩
          have QK := Lib.hid (Q.out k hlt wr)
          rw [← hm] at HS hle QK
          clear hm
          go_wp2_with (go_at_call 31; refine QK.out.mono ?_; rintro e w2 ⟨rfl, rfl⟩)
          go_round
          case rel => exact ⟨k + 1 + m, rfl, by omega, by have := HS.out; omega, by trivial⟩
          case measure => simp [intOf]; omega
        · have n2 : ¬ (x.toNat : Int) = 34 := fun h => h2 (UInt8.toNat_inj.1 (by simpa using (by omega : x.toNat = 34)))
          have hn : nxt 0 x = 0 := by unfold nxt; rw [if_pos rfl, if_neg h2]
          go_wp2
          go_round
          case rel =>
            refine ⟨k + 1, by go_num, by omega, ?_, by trivial⟩
            have := HA.out
            rw [hdr.out, endE, if_neg (by rintro ⟨_, h⟩; exact h1 h), hn] at this
            omega
          case measure => simp [intOf, w0]; omega
    · have hk2 : k = l.length := by omega
      subst hk2
      have := HA.out
      rw [List.drop_of_length_le (by omega)] at this
      simp only [endE, Nat.add_zero] at this
      subst this
      go_wp2
      go_ret
      exact ⟨rfl, by trivial⟩
end Go.Proofs.YtdfebmjincnfiaaDoor
