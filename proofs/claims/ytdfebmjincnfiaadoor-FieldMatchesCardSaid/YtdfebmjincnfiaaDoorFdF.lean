/- Layer 17: tags, and matching. -/
import Derived.Test.YtdfebmjincnfiaaDoorFdD
set_option maxRecDepth 100000
set_option linter.unusedSimpArgs false
set_option linter.unusedVariables false
namespace Go.Proofs.YtdfebmjincnfiaaDoor
open Go.RowKit

theorem strong_short {l : List UInt8} (h : l.length < 2) : strongT l = false := by
  match l, h with
  | [], _ => rfl
  | [b], _ => unfold strongT; split <;> simp_all
theorem strong_form (a z : UInt8) (m : List UInt8) : strongT (a :: (m ++ [z])) = (decide (a = 34) && (decide (z = 34) && m.all tagB)) := by
  by_cases ha : a = 34
  · subst ha
    by_cases hz : z = 34
    · subst hz
      unfold strongT
      simp
    · unfold strongT
      simp [hz]
  · unfold strongT
    split <;> simp_all
theorem long_form {l : List UInt8} (h : 2 ≤ l.length) : ∃ a m z, l = a :: (m ++ [z]) := by
  match l, h with
  | a :: r, h =>
    have hr : r ≠ [] := fun e => by subst e; simp at h
    exact ⟨a, r.dropLast, r.getLast hr, by rw [List.dropLast_concat_getLast]⟩
theorem tagB_nat (b : UInt8) : tagB b = (decide (33 ≤ b.toNat) && (decide (b.toNat ≤ 126) && !decide (b.toNat = 34))) := by
  unfold tagB
  congr 1
  congr 1
  congr 1
  rw [Bool.eq_iff_iff, beq_iff_eq, decide_eq_true_iff]
  constructor
  · rintro rfl; rfl
  · intro h; exact UInt8.toNat_inj.1 (by simpa using h)
set_option maxHeartbeats 3200000 in
theorem istag_any (l : List UInt8) (hl : l.length ≤ 4611686018427387904) (w : World) :
    Calls Tryd.prog 19 #[.string (txt l)] w fun e w' => e = .returned (.bool (strongT l)) ∧ w' = w := by
  have sz := txt_size l
  by_cases h2 : l.length < 2
  · rw [strong_short h2]
    have i1 : (l.length : Int) < 2 := by omega
    go_enter Tryd.func19, Tryd.ntmps19
    go_wp2_with fail
    go_ret
    exact ⟨rfl, by trivial⟩
  · obtain ⟨a, m, z, hlm⟩ := long_form (by omega : 2 ≤ l.length)
    have hS : strongT l = (decide (a = 34) && (decide (z = 34) && m.all tagB)) := by rw [hlm, strong_form]
    have HL : Hid (l.length = m.length + 2) := by show _ = _; rw [hlm]; simp
    have g0 : (txt l)[0]'(by omega) = a := by rw [txt_get (by omega)]; simp [hlm]
    have g1 : (txt l)[l.length - 1]'(by omega) = z := by
      rw [txt_get (by omega)]
      simp [hlm]
    have gk : Hid (∀ k (hk : k < m.length) (h' : k + 1 < (txt l).size), (txt l)[k + 1]'h' = m[k]) := fun k hk h' => by
      rw [txt_get (by omega)]
      simp [hlm, List.getElem_append_left hk]
    have wn := wr64 ((l.length : Int) - 1) (by omega) (by omega)
    have i1 : ¬ (l.length : Int) < 2 := by omega
    have t1 : ((l.length : Int) - 1).toNat = l.length - 1 := by omega
    have c1 : (0 : Int) ≤ (l.length : Int) - 1 := by omega
    have c2 : (l.length : Int) - 1 < (l.length : Int) := by omega
    have c3 : 0 < l.length := by omega
    have HS := Lib.hid hS
    clear hlm hS
    have b1 := a.toNat_lt
    have b2 := z.toNat_lt
    by_cases ha : a = 34
    · by_cases hz : z = 34
      · have HS2 : Hid (strongT l = m.all tagB) := by
          have := HS.out
          rw [ha, hz] at this
          show _ = _
          simpa using this
        have na : (a.toNat : Int) = 34 := by rw [ha]; rfl
        have nz : (z.toNat : Int) = 34 := by rw [hz]; rfl
        go_enter Tryd.func19, Tryd.ntmps19
        go_wp2_with fail
        go_loopw [3] (fun c wx => ∃ k : Nat, 1 ≤ k ∧ k ≤ m.length + 1 ∧ c = .int .i64 (k : Int) ∧ (m.take (k - 1)).all tagB = true ∧ wx = w) (fun c _ => m.length + 2 - (intOf c).toNat)
        case atStart => exact ⟨1, by omega, by omega, rfl, rfl, rfl⟩
        case round =>
          obtain ⟨k, hk1, hk, rfl, hall, rfl⟩ := hrel
          have HA := Lib.hid hall
          clear hall

          have w0 := wr64 ((k : Int) + 1) (by omega) (by have := HL.out; omega)
          by_cases hlt : k - 1 < m.length
          · have hg := gk.out (k - 1) hlt (by have := HL.out; omega)
            simp only [show k - 1 + 1 = k by omega] at hg
            have hm : Hid (m[k - 1] ∈ m) := List.getElem_mem hlt
            have hn : Hid (m.take k = m.take (k - 1) ++ [m[k - 1]]) := by
              have := take_more hlt
              rwa [show k - 1 + 1 = k by omega] at this
            generalize m[k - 1] = x at hg hm hn
            have hx : (k : Int) < (l.length : Int) - 1 := by have := HL.out; omega
            have b3 := x.toNat_lt
            have c4 : k < l.length := by have := HL.out; omega
            have NO : Hid (tagB x = false → strongT l = false) := fun h => by
              rw [HS2.out]
              cases h2 : m.all tagB with
              | false => rfl
              | true => rw [List.all_eq_true.1 h2 x hm.out] at h; cases h
            by_cases h1 : (x.toNat : Int) < 33
            · go_wp2_with fail
              go_ret
              exact ⟨by rw [NO.out (by rw [tagB_nat]; simp; omega)]; rfl, by trivial⟩
            · by_cases h2 : (126 : Int) < (x.toNat : Int)
              · go_wp2_with fail
                go_ret
                exact ⟨by rw [NO.out (by rw [tagB_nat]; simp; omega)]; rfl, by trivial⟩
              · by_cases h3 : (x.toNat : Int) = 34
                · go_wp2_with fail
                  go_ret
                  exact ⟨by rw [NO.out (by rw [tagB_nat]; simp; omega)]; rfl, by trivial⟩
                · go_wp2_with fail
                  go_round
                  case rel => exact ⟨k + 1, by omega, by omega, by go_num, by rw [show k + 1 - 1 = k by omega, hn.out, List.all_append, HA.out]; simp [tagB_nat]; omega, by trivial⟩
                  case measure => simp [intOf, w0]; omega
          · have hk2 : k - 1 = m.length := by omega
            have hx : ¬ (k : Int) < (l.length : Int) - 1 := by have := HL.out; omega
            rw [hk2, List.take_length] at HA
            go_wp2_with fail
            go_ret
            exact ⟨by rw [HS2.out, HA.out]; rfl, by trivial⟩
      · have HS2 : Hid (strongT l = false) := by
          have := HS.out
          rw [decide_eq_false hz] at this
          show _ = _
          simpa using this
        have na : (a.toNat : Int) = 34 := by rw [ha]; rfl
        have nz : ¬ (z.toNat : Int) = 34 := fun h => hz (UInt8.toNat_inj.1 (by simpa using (by omega : z.toNat = 34)))
        rw [HS2.out]
        go_enter Tryd.func19, Tryd.ntmps19
        go_wp2_with fail
        go_ret
        exact ⟨rfl, by trivial⟩
    · have HS2 : Hid (strongT l = false) := by
        have := HS.out
        rw [decide_eq_false ha] at this
        show _ = _
        simpa using this
      have na : ¬ (a.toNat : Int) = 34 := fun h => ha (UInt8.toNat_inj.1 (by simpa using (by omega : a.toNat = 34)))
      rw [HS2.out]
      go_enter Tryd.func19, Tryd.ntmps19
      go_wp2_with fail
      go_ret
      exact ⟨rfl, by trivial⟩

/-- what Tag answers -/
def tagV (l : List UInt8) : Value := match tagE 512 l with
  | none => .tuple #[.string (txt []), .bool false, .bool false]
  | some (t, u) => .tuple #[.string (txt t), .bool u, .bool true]
theorem tag_form (l : List UInt8) : tagE 512 l = if l.length ≤ 512 ∧ strongT (Lib.trimPrefix l [87, 47]) = true then some (Lib.trimPrefix l [87, 47], Lib.hasPrefix l [87, 47]) else none := by
  unfold tagE
  by_cases h5 : l.length ≤ 512
  · rw [if_pos h5]
    simp only [h5, true_and]
    split
    · rename_i t
      have h1 : Lib.hasPrefix (87 :: 47 :: t) [87, 47] = true := by simp [Lib.hasPrefix]
      have h2 : Lib.trimPrefix (87 :: 47 :: t) [87, 47] = t := by unfold Lib.trimPrefix; rw [if_pos h1]; rfl
      rw [h1, h2]
    · rename_i hno
      have h1 : Lib.hasPrefix l [87, 47] = false := by
        cases h : Lib.hasPrefix l [87, 47] with
        | false => rfl
        | true =>
          exfalso
          match l, h with
          | a :: b :: t, h =>
            simp [Lib.hasPrefix] at h
            exact hno t (by rw [h.1, h.2])
          | [a], h => simp [Lib.hasPrefix] at h
          | [], h => simp [Lib.hasPrefix] at h
      have h2 : Lib.trimPrefix l [87, 47] = l := by unfold Lib.trimPrefix; rw [if_neg (by rw [h1]; decide)]
      rw [h1, h2]
  · rw [if_neg h5, if_neg (fun h => h5 h.1)]
theorem tpre_len (l p : List UInt8) : (Lib.trimPrefix l p).length ≤ l.length := by
  unfold Lib.trimPrefix
  split
  · rw [List.length_drop]; omega
  · omega
set_option maxHeartbeats 1600000 in
theorem tag_any (l : List UInt8) (hl : l.length ≤ 4611686018427387904) (w : World) :
    Calls Tryd.prog 10 #[.string (txt l)] w fun e w' => e = .returned (tagV l) ∧ w' = w := by
  have sz := txt_size l
  have C : Hid (∀ W, Calls Tryd.prog 18 #[.string (txt l), .string (txt [87, 47])] W fun e w' => e = .returned (.tuple #[.string (txt (Lib.trimPrefix l [87, 47])), .bool (Lib.hasPrefix l [87, 47])]) ∧ w' = W) := fun W => strings_CutPrefix (txt l) (txt [87, 47]) W
  have I := Lib.hid (istag_any (Lib.trimPrefix l [87, 47]) (by have := tpre_len l [87, 47]; omega))
  have hf := tag_form l
  unfold tagV
  rw [hf]
  generalize Lib.trimPrefix l [87, 47] = t at C I ⊢
  generalize Lib.hasPrefix l [87, 47] = u at C ⊢
  clear hf
  by_cases h5 : l.length ≤ 512
  · have i1 : ¬ (512 : Int) < (l.length : Int) := by omega
    cases hs : strongT t with
    | true =>
      rw [hs] at I
      rw [if_pos ⟨h5, rfl⟩]
      go_enter Tryd.func10, Tryd.ntmps10
      go_wp2_with (first
        | (go_at_call 18; refine (C.out _).mono ?_; rintro e w2 ⟨rfl, rfl⟩)
        | (go_at_call 19; refine (I.out _).mono ?_; rintro e w2 ⟨rfl, rfl⟩))
      go_ret3
      exact ⟨rfl, by trivial⟩
    | false =>
      rw [hs] at I
      rw [if_neg (fun h => by cases h.2)]
      go_enter Tryd.func10, Tryd.ntmps10
      go_wp2_with (first
        | (go_at_call 18; refine (C.out _).mono ?_; rintro e w2 ⟨rfl, rfl⟩)
        | (go_at_call 19; refine (I.out _).mono ?_; rintro e w2 ⟨rfl, rfl⟩))
      go_ret3
      exact ⟨rfl, by trivial⟩
  · have i1 : (512 : Int) < (l.length : Int) := by omega
    rw [if_neg (fun h => h5 h.1)]
    go_enter Tryd.func10, Tryd.ntmps10
    go_wp2_with (go_at_call 18; refine (C.out _).mono ?_; rintro e w2 ⟨rfl, rfl⟩)
    go_ret3
    exact ⟨rfl, by trivial⟩
end Go.Proofs.YtdfebmjincnfiaaDoor
