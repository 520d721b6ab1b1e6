/- Walks of layer 12: room, Right, the reference's Right, ones, longer. -/
import Derived.Test.YtjaeccealfeakaaHfW
import Derived.Laws.BitsLemmas
set_option maxRecDepth 100000
set_option linter.unusedSimpArgs false
set_option linter.unusedVariables false
namespace Go.Proofs.Ytjaeccealfeakaa
open Go.RowKit

/-- WHICH LENGTHS MAY BE -/
def RightL (ls : List Int) : Prop := ls.length ≤ 256 ∧ (∀ x ∈ ls, 0 ≤ x ∧ x ≤ 24) ∧ sumN (ls.map Int.toNat) < 16777216
instance (ls : List Int) : Decidable (RightL ls) := by unfold RightL; exact inferInstance
theorem RightL.code {ls : List Int} (h : RightL ls) : CodeOk (ls.map Int.toNat) :=
  ⟨by rw [List.length_map]; exact h.1, fun n hn => by
    obtain ⟨x, hx, rfl⟩ := List.mem_map.1 hn
    have := h.2.1 x hx
    omega, h.2.2⟩
theorem RightL.at {ls : List Int} (h : RightL ls) (i : Nat) (hi : i < ls.length) : ls.getD i 0 = (((ls.map Int.toNat).getD i 0 : Nat) : Int) := by
  have := h.2.1 ls[i] (List.getElem_mem hi)
  simp [List.getD, hi]; omega
theorem sum_append (a b : List Nat) : sumN (a ++ b) = sumN a + sumN b := by
  induction a with
  | nil => simp [sumN]
  | cons m r ih => rw [List.cons_append, sumN, sumN, ih]; omega
theorem sum_take (ls : List Int) (k : Nat) (hk : k < ls.length) : sumN ((ls.take (k + 1)).map Int.toNat) = sumN ((ls.take k).map Int.toNat) + roomN (ls.getD k 0).toNat := by
  rw [List.take_succ_eq_append_getElem hk, List.map_append, sum_append]
  simp [sumN, List.getD, hk]
theorem room_le (n : Nat) : roomN n ≤ 8388608 := by
  unfold roomN
  by_cases h : n = 0
  · rw [if_pos h]; omega
  · rw [if_neg h]
    exact Nat.pow_le_pow_right (n := 2) (by decide) (show 24 - n ≤ 23 by omega)
theorem sum_le (l : List Nat) : sumN l ≤ 8388608 * l.length := by
  induction l with
  | nil => simp [sumN]
  | cons m r ih => have := room_le m; rw [sumN, List.length_cons]; omega
theorem all_take (ls : List Int) (k : Nat) (hk : k < ls.length) (p : Int → Prop) (h : ∀ x ∈ ls.take k, p x) (hx : p (ls.getD k 0)) : ∀ x ∈ ls.take (k + 1), p x := by
  rw [List.take_succ_eq_append_getElem hk]
  intro x hxx
  rcases List.mem_append.1 hxx with h1 | h1
  · exact h x h1
  · have : x = ls.getD k 0 := by simpa [List.getD, hk] using h1
    rw [this]; exact hx
theorem pow_cases (n : Nat) (h0 : 0 < n) (_ : n ≤ 24) : (2 : Int) ^ (24 - n) = ((roomN n : Nat) : Int) := by
  rw [room_pos h0]; simp

theorem room_any (n : Nat) (hn : n ≤ 24) (w : World) : Calls Try.prog 26 #[.int .i64 (n : Int)] w fun e w' => e = .returned (.int .i64 ((roomN n : Nat) : Int)) ∧ w = w' := by
  by_cases h0 : n = 0
  · subst h0
    go_enter Try.func26, Try.ntmps26
    go_wp2
    go_ret
    exact ⟨rfl, rfl⟩
  · have e0 : ((n : Int) == 0) = false := by simp; omega
    have hw : IntKind.i64.wrap (24 - (n : Int)) = ((24 - n : Nat) : Int) := by rw [IntKind.wrap_i64]; omega
    have hp := Lib.hid (pow_cases n (by omega) hn)
    have hr := room_le n
    have hw2 : IntKind.i64.wrap ((2 : Int) ^ (24 - n)) = (2 : Int) ^ (24 - n) := by rw [hp.out, IntKind.wrap_i64]; omega
    clear hr h0
    go_enter Try.func26, Try.ntmps26
    go_wp2
    go_ret
    exact ⟨ret_int hp.out, rfl⟩
theorem room_is {x : Int} {n : Nat} (hx : x = (n : Int)) (hn : n ≤ 24) (w : World) : Calls Try.prog 26 #[.int .i64 x] w fun e w' => e = .returned (.int .i64 ((roomN n : Nat) : Int)) ∧ w = w' := hx ▸ room_any n hn w

set_option maxHeartbeats 3000000 in
theorem right_any (v : Value) (ls : List Int) (w : World) (hr : Rd .i64 w v ls) : Calls Try.prog 14 #[v] w fun e w' => e = .returned (.bool (decide (RightL ls))) ∧ w = w' := by
  have hrl := hr.len
  have hml : maxLen = 9223372036854775807 := rfl
  rw [hml] at hrl
  have hR := Lib.hid hr
  obtain ⟨va, vc, rfl⟩ := hr.isSlice
  obtain ⟨ans, hans⟩ : ∃ ans, ans = decide (RightL ls) := ⟨_, rfl⟩
  rw [← hans]
  have A0 := Lib.hid hans
  clear hans hml hr
  by_cases h256 : ls.length ≤ 256
  · have d : decide ((ls.length : Int) > 256) = false := decide_eq_false (by omega)
    go_enter Try.func14, Try.ntmps14
    go_wp2_with fail
    go_loop [3, 11] (fun s i => ∃ (k : Nat), k ≤ ls.length ∧ s = .int .i64 ((sumN ((ls.take k).map Int.toNat) : Nat) : Int) ∧ i = .int .i64 k ∧ Hid (∀ x ∈ ls.take k, 0 ≤ x ∧ x ≤ 24)) (fun _ i => ls.length - (intOf i).toNat)
    case atStart => exact ⟨0, by omega, rfl, rfl, fun x hx => by simp at hx⟩
    case round =>
      obtain ⟨k, hk, rfl, rfl, hall⟩ := hrel
      by_cases hlt : k < ls.length
      · obtain ⟨x, hx⟩ : ∃ x, x = ls.getD k 0 := ⟨_, rfl⟩
        have hcell : ∃ b o, va = some ⟨b, o, none⟩ ∧ w.cell? ⟨b, o + k, none⟩ = some (.int .i64 x) := by
          rcases hR.out with ⟨rfl, _⟩ | ⟨_, b, o, cp, he, h2, h3, h4, h5⟩
          · simp at hlt
          · simp only [Value.slice.injEq] at he
            exact ⟨b, o, he.1, by rw [hx]; exact h5 _ hlt⟩
        obtain ⟨b, o, rfl, hcell⟩ := hcell
        have hmem : x ∈ ls := by rw [hx]; simp [List.getD, hlt]
        by_cases h0 : x < 0
        · have d0 : decide (x < 0) = true := decide_eq_true h0
          have AA : Hid (ans = false) := A0.out.trans (decide_eq_false fun h => by have := h.2.1 x hmem; omega)
          clear hall hx hmem h0 A0
          go_wp2_with fail
          refine bodyPost_ret (v := .bool false) (by simp [results, Try.results14, go_sem]) rfl ⟨by rw [AA.out], rfl⟩
        · have d0 : decide (x < 0) = false := decide_eq_false h0
          by_cases h1 : x > 24
          · have d1 : decide (x > 24) = true := decide_eq_true h1
            have AA : Hid (ans = false) := A0.out.trans (decide_eq_false fun h => by have := h.2.1 x hmem; omega)
            clear hall hx hmem h0 h1 A0
            go_wp2_with fail
            refine bodyPost_ret (v := .bool false) (by simp [results, Try.results14, go_sem]) rfl ⟨by rw [AA.out], rfl⟩
          · have d1 : decide (x > 24) = false := decide_eq_false h1
            have hs := Lib.hid (sum_take ls k hlt)
            have hle := sum_le ((ls.take k).map Int.toNat)
            have hl2 : ((ls.take k).map Int.toNat).length ≤ 256 := by simp; omega
            have hrm := room_le x.toNat
            have HA : Hid (∀ y ∈ ls.take (k + 1), 0 ≤ y ∧ y ≤ 24) := all_take ls k hlt _ hall.out (by rw [← hx]; omega)
            have HX := Lib.hid (show x = ((x.toNat : Nat) : Int) ∧ x.toNat ≤ 24 by omega)
            have HS : Hid (sumN ((ls.take (k + 1)).map Int.toNat) = sumN ((ls.take k).map Int.toNat) + roomN x.toNat) := by show _ = _; rw [hs.out, hx]
            clear hall hx hmem h0 h1 hs
            generalize sumN ((ls.take k).map Int.toNat) = S at *
            generalize hrr : roomN x.toNat = r at *
            have hadd : IntKind.i64.wrap ((S : Int) + (r : Int)) = (S : Int) + (r : Int) := by rw [IntKind.wrap_i64]; omega
            have HRR := Lib.hid hrr
            clear hle hl2 hrm hrr
            go_wp2_with (go_at_call 26; refine (room_is HX.out.1 HX.out.2 _).mono ?_; rintro e w' ⟨rfl, rfl⟩; rw [HRR.out])
            go_round
            case rel => exact ⟨k + 1, by omega, by rw [HS.out]; simp, by go_num, HA⟩
            case measure => simp [intOf]; omega
      · have hend : k = ls.length := by omega
        have dl : decide ((k : Int) < (ls.length : Int)) = false := decide_eq_false (by omega)
        have AA : Hid (ans = decide (((sumN ((ls.take k).map Int.toNat) : Nat) : Int) < 16777216)) := by
          show _ = _
          have ha := hall.out
          rw [A0.out, hend, List.take_length]
          rw [hend, List.take_length] at ha
          rw [decide_eq_decide]
          exact ⟨fun h => by have := h.2.2; omega, fun h => ⟨h256, ha, by omega⟩⟩
        clear hall hend A0
        generalize sumN ((ls.take k).map Int.toNat) = S at *
        go_wp2_with fail
        refine bodyPost_ret (v := .bool (decide ((S : Int) < 16777216))) (by simp [results, Try.results14, go_sem]) rfl ⟨by rw [AA.out], rfl⟩
  · have d : decide ((ls.length : Int) > 256) = true := decide_eq_true (by omega)
    have AA : Hid (ans = false) := A0.out.trans (decide_eq_false fun h => h256 h.1)
    clear h256 A0
    go_enter Try.func14, Try.ntmps14
    go_wp2
    go_ret
    exact ⟨by rw [AA.out]; rfl, rfl⟩

set_option maxHeartbeats 3000000 in
theorem rright_any (v : Value) (ls : List Int) (w : World) (hr : Rd .i64 w v ls) : Calls Try.prog 15 #[v] w fun e w' => e = .returned (.bool (decide (RightL ls))) ∧ w = w' := by
  have hrl := hr.len
  have hml : maxLen = 9223372036854775807 := rfl
  rw [hml] at hrl
  have hR := Lib.hid hr
  obtain ⟨va, vc, rfl⟩ := hr.isSlice
  obtain ⟨ans, hans⟩ : ∃ ans, ans = decide (RightL ls) := ⟨_, rfl⟩
  rw [← hans]
  have A0 := Lib.hid hans
  clear hans hml hr
  by_cases h256 : ls.length ≤ 256
  · have d : decide ((ls.length : Int) > 256) = false := decide_eq_false (by omega)
    go_enter Try.func15, Try.ntmps15
    go_wp2_with fail
    go_loop [3, 4] (fun s i => ∃ (k : Nat), k ≤ ls.length ∧ s = .int .i64 ((sumN ((ls.take k).map Int.toNat) : Nat) : Int) ∧ i = .int .i64 k ∧ Hid (∀ x ∈ ls.take k, 0 ≤ x ∧ x ≤ 24)) (fun _ i => ls.length - (intOf i).toNat)
    case atStart => exact ⟨0, by omega, rfl, rfl, fun x hx => by simp at hx⟩
    case round =>
      obtain ⟨k, hk, rfl, rfl, hall⟩ := hrel
      by_cases hlt : k < ls.length
      · obtain ⟨x, hx⟩ : ∃ x, x = ls.getD k 0 := ⟨_, rfl⟩
        have hcell : ∃ b o, va = some ⟨b, o, none⟩ ∧ w.cell? ⟨b, o + k, none⟩ = some (.int .i64 x) := by
          rcases hR.out with ⟨rfl, _⟩ | ⟨_, b, o, cp, he, h2, h3, h4, h5⟩
          · simp at hlt
          · simp only [Value.slice.injEq] at he
            exact ⟨b, o, he.1, by rw [hx]; exact h5 _ hlt⟩
        obtain ⟨b, o, rfl, hcell⟩ := hcell
        have hmem : x ∈ ls := by rw [hx]; simp [List.getD, hlt]
        by_cases h0 : x < 0
        · have d0 : decide (x < 0) = true := decide_eq_true h0
          have AA : Hid (ans = false) := A0.out.trans (decide_eq_false fun h => by have := h.2.1 x hmem; omega)
          clear hall hx hmem h0 A0
          go_wp2_with fail
          refine bodyPost_ret (v := .bool false) (by simp [results, Try.results15, go_sem]) rfl ⟨by rw [AA.out], rfl⟩
        · have d0 : decide (x < 0) = false := decide_eq_false h0
          by_cases h1 : x > 24
          · have d1 : decide (x > 24) = true := decide_eq_true h1
            have AA : Hid (ans = false) := A0.out.trans (decide_eq_false fun h => by have := h.2.1 x hmem; omega)
            clear hall hx hmem h0 h1 A0
            go_wp2_with fail
            refine bodyPost_ret (v := .bool false) (by simp [results, Try.results15, go_sem]) rfl ⟨by rw [AA.out], rfl⟩
          · have d1 : decide (x > 24) = false := decide_eq_false h1
            have hs := Lib.hid (sum_take ls k hlt)
            have hle := sum_le ((ls.take k).map Int.toNat)
            have hl2 : ((ls.take k).map Int.toNat).length ≤ 256 := by simp; omega
            have hrm := room_le x.toNat
            have HA : Hid (∀ y ∈ ls.take (k + 1), 0 ≤ y ∧ y ≤ 24) := all_take ls k hlt _ hall.out (by rw [← hx]; omega)
            have HS : Hid (sumN ((ls.take (k + 1)).map Int.toNat) = sumN ((ls.take k).map Int.toNat) + roomN x.toNat) := by show _ = _; rw [hs.out, hx]
            obtain ⟨n, rfl⟩ : ∃ n : Nat, x = (n : Int) := ⟨x.toNat, by omega⟩
            rw [Int.toNat_natCast] at HS hrm
            have hn : n ≤ 24 := by omega
            clear hall hx hmem h0 h1 hs
            generalize sumN ((ls.take k).map Int.toNat) = S at *
            by_cases hn0 : n = 0
            · subst hn0
              have HS0 : Hid (sumN ((ls.take (k + 1)).map Int.toNat) = S) := HS.out
              clear HS
              go_wp2_with fail
              go_round
              case rel => exact ⟨k + 1, by omega, by rw [HS0.out], by go_num, HA⟩
              case measure => simp [intOf]; omega
            · have dn : decide ((n : Int) > 0) = true := decide_eq_true (by omega)
              have dn' : decide (n > 0) = true := decide_eq_true (by omega)
              have dn'' : decide (0 < n) = true := decide_eq_true (by omega)
              have hw : IntKind.i64.wrap (24 - (n : Int)) = ((24 - n : Nat) : Int) := by rw [IntKind.wrap_i64]; omega
              have hp := Lib.hid (pow_cases n (by omega) hn)
              have hw2 : IntKind.i64.wrap ((2 : Int) ^ (24 - n)) = (2 : Int) ^ (24 - n) := by rw [hp.out, IntKind.wrap_i64]; omega
              have hadd : IntKind.i64.wrap ((S : Int) + (2 : Int) ^ (24 - n)) = (S : Int) + (2 : Int) ^ (24 - n) := by rw [hp.out, IntKind.wrap_i64]; omega
              clear hrm hle hl2 hn0
              go_wp2_with fail
              go_round
              case rel => exact ⟨k + 1, by omega, by rw [HS.out, hp.out]; simp, by go_num, HA⟩
              case measure => simp [intOf]; omega
      · have hend : k = ls.length := by omega
        have dl : decide ((k : Int) < (ls.length : Int)) = false := decide_eq_false (by omega)
        have AA : Hid (ans = decide (((sumN ((ls.take k).map Int.toNat) : Nat) : Int) < 16777216)) := by
          show _ = _
          have ha := hall.out
          rw [A0.out, hend, List.take_length]
          rw [hend, List.take_length] at ha
          rw [decide_eq_decide]
          exact ⟨fun h => by have := h.2.2; omega, fun h => ⟨h256, ha, by omega⟩⟩
        clear hall hend A0
        generalize sumN ((ls.take k).map Int.toNat) = S at *
        go_wp2_with fail
        refine bodyPost_ret (v := .bool (decide ((S : Int) < 16777216))) (by simp [results, Try.results15, go_sem]) rfl ⟨by rw [AA.out], rfl⟩
  · have d : decide ((ls.length : Int) > 256) = true := decide_eq_true (by omega)
    have AA : Hid (ans = false) := A0.out.trans (decide_eq_false fun h => h256 h.1)
    clear h256 A0
    go_enter Try.func15, Try.ntmps15
    go_wp2
    go_ret
    exact ⟨by rw [AA.out]; rfl, rfl⟩

/-! ### bits of numbers -/
theorem wraps62 (n : Int) (h₀ : 0 ≤ n) (h₁ : n < 2 ^ 62) : IntKind.i64.wrap n = n := by rw [IntKind.wrap_i64]; omega
theorem or_join (a x n : Nat) (hx : x < 2 ^ n) (hn : n ≤ 31) (ha : a * 2 ^ n < 2 ^ 62) : bits .or .i64 ((a : Int) * 2 ^ n) (x : Int) = ((a * 2 ^ n + x : Nat) : Int) := by
  have hp : 2 ^ n ≤ 2 ^ 31 := Nat.pow_le_pow_right (by decide) hn
  have e : (a : Int) * 2 ^ n = ((a * 2 ^ n : Nat) : Int) := by simp
  have hx' : (x : Int) < 2 ^ n := by exact_mod_cast hx
  have := bits_join .i64 62 (by decide) wraps62 n ((a : Int) * 2 ^ n) (x : Int) (by rw [e]; omega) (Int.mul_emod_left _ _) (by rw [e]; exact_mod_cast ha) (by omega) hx' (by
    have : x < 2 ^ 62 := by omega
    exact_mod_cast this)
  rw [this, e]; omega
theorem or_bit (b x : Nat) (hb : b < 16777216) (hx : x < 2) : bits .or .i64 ((b : Int) * 2) (x : Int) = ((2 * b + x : Nat) : Int) := by
  have := or_join b x 1 hx (by decide) (by omega)
  rw [Nat.pow_one, Int.pow_succ, Int.pow_zero, Int.one_mul] at this
  rw [this]; omega
theorem and_ones (a n : Nat) (ha : a < 2 ^ 62) (hn : n ≤ 31) : bits .and .i64 (a : Int) ((2 ^ n - 1 : Nat) : Int) = ((a % 2 ^ n : Nat) : Int) := by
  have hpos : 0 < 2 ^ n := Nat.pow_pos (by decide)
  have := bits_mask .i64 62 (by decide) wraps62 n (by omega) (a : Int) (by omega) (by exact_mod_cast ha)
  rw [show ((2 ^ n - 1 : Nat) : Int) = (2 : Int) ^ n - 1 by rw [Int.natCast_sub hpos]; simp, this]
  simp

theorem ones_any (n : Nat) (hn : n ≤ 24) (w : World) : Calls Try.prog 34 #[.int .i64 (n : Int)] w fun e w' => e = .returned (.agg #[.int .i64 ((2 ^ n - 1 : Nat) : Int), .int .i64 (n : Int)]) ∧ Below w.heap.size w w' := by
  have hpn : 0 < 2 ^ n := Nat.pow_pos (by decide)
  have hp2 : 2 ^ n ≤ 2 ^ 24 := Nat.pow_le_pow_right (by decide) hn
  have hp2' : 2 ^ n ≤ 16777216 := hp2
  have hp : (2 : Int) ^ n = ((2 ^ n : Nat) : Int) := by simp
  have e1 : ((2 ^ n - 1 : Nat) : Int) = (2 : Int) ^ n - 1 := by rw [hp]; omega
  rw [e1]
  have hw1 : IntKind.i64.wrap ((2 : Int) ^ n) = (2 : Int) ^ n := by rw [hp, IntKind.wrap_i64]; omega
  have hw2 : IntKind.i64.wrap ((2 : Int) ^ n - 1) = (2 : Int) ^ n - 1 := by rw [hp, IntKind.wrap_i64]; omega
  clear hp2 hp2' hp e1 hpn
  go_enter Try.func34, Try.ntmps34
  go_wp2
  refine bodyPost_ret (v := .agg #[.int .i64 ((2 : Int) ^ n - 1), .int .i64 (n : Int)]) (by simp [results, Try.results34, go_sem]) rfl ⟨rfl, ?_⟩
  go_grown

theorem field_w (a b : Int) (W : World) : (Instr.field 44 (.agg #[.int .i64 a, .int .i64 b]) 0).run Try.prog W = .ok (.int .i64 a) W := by
  simp only [Instr.field, Sem.run_bind, run_underlying Try.underlying44]
  go_simp
  simp [asAgg]
/-- a word with a bit more -/
theorem longer_any (b n x : Nat) (hn : n ≤ 24) (hb : b < 2 ^ 24) (hx : x < 2) (w : World) : Calls Try.prog 33 #[.agg #[.int .i64 (b : Int), .int .i64 (n : Int)], .int .i64 (x : Int)] w fun e w' => e = .returned (.agg #[.int .i64 ((2 * b + x : Nat) : Int), .int .i64 ((n + 1 : Nat) : Int)]) ∧ Below w.heap.size w w' := by
  have hb' : b < 16777216 := hb
  have hw1 : IntKind.i64.wrap ((b : Int) * 2) = (b : Int) * 2 := by rw [IntKind.wrap_i64]; omega
  have hw2 : IntKind.i64.wrap ((n : Int) + 1) = (n : Int) + 1 := by rw [IntKind.wrap_i64]; omega
  have ho : bits .or .i64 ((b : Int) * 2) (x : Int) = ((2 * b + x : Nat) : Int) := or_bit b x hb' hx
  have e1 : ((n + 1 : Nat) : Int) = (n : Int) + 1 := by omega
  rw [e1]
  clear hb e1
  go_enter Try.func33, Try.ntmps33
  go_wp2
  refine bodyPost_ret (v := .agg #[.int .i64 ((2 * b + x : Nat) : Int), .int .i64 ((n : Int) + 1)]) (by simp [results, Try.results33, go_sem]) rfl ⟨rfl, ?_⟩
  go_grown
end Go.Proofs.Ytjaeccealfeakaa
