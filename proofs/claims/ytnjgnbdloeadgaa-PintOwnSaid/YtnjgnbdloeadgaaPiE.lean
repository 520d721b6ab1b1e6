/- Walks of layer 11: addGroups, Get. -/
import Derived.Test.YtnjgnbdloeadgaaPiD
set_option maxRecDepth 100000
namespace Go.Proofs.Ytnjgnbdloeadgaa
open Go.RowKit

theorem and_127 : ∀ i : Fin 256, bits .and .u8 (i.val : Int) 127 = (i.val : Int) % 128 := by decide +kernel
theorem and_128 : ∀ i : Fin 256, (bits .and .u8 (i.val : Int) 128 == 0) = decide ((i.val : Int) < 128) := by decide +kernel
theorem low_u8 (x : Int) (h0 : 0 ≤ x) (h1 : x < 256) : bits .and .u8 x 127 = x % 128 := by
  have := and_127 ⟨x.toNat, by omega⟩
  simp only [Int.toNat_of_nonneg h0] at this
  exact this
theorem high_u8 (x : Int) (h0 : 0 ≤ x) (h1 : x < 256) : (bits .and .u8 x 128 == 0) = decide (x < 128) := by
  have := and_128 ⟨x.toNat, by omega⟩
  simp only [Int.toNat_of_nonneg h0] at this
  exact this
theorem two_pow7 (k : Nat) : (2 : Int) ^ (7 * k) = ((128 ^ k : Nat) : Int) := by rw [Int.pow_mul]; simp
theorem addG_end (i : Nat) (n : Int) : addG [] i n = .inr (3, i) := rfl
theorem addG_bad {c : Int} {cs : List Int} {i : Nat} {n : Int} (h : i = 9 ∨ (4611686018427387903 - n) / ((128 ^ i : Nat) : Int) < c % 128) : addG (c :: cs) i n = .inr (5, i) := by rw [addG, if_pos h]
theorem addG_last {c : Int} {cs : List Int} {i : Nat} {n : Int} (h : ¬ (i = 9 ∨ (4611686018427387903 - n) / ((128 ^ i : Nat) : Int) < c % 128)) (h1 : c < 128) : addG (c :: cs) i n = .inl (n + c % 128 * ((128 ^ i : Nat) : Int), i + 1) := by rw [addG, if_neg h, if_pos h1]
theorem addG_more {c : Int} {cs : List Int} {i : Nat} {n : Int} (h : ¬ (i = 9 ∨ (4611686018427387903 - n) / ((128 ^ i : Nat) : Int) < c % 128)) (h1 : ¬ c < 128) : addG (c :: cs) i n = addG cs (i + 1) (n + c % 128 * ((128 ^ i : Nat) : Int)) := by rw [addG, if_neg h, if_neg h1]

def fault (why at_ : Int) : Value := .agg #[.int .i64 why, .int .i64 at_]
/-- what addGroups answers -/
def addV (a : Nat) : Sum (Int × Nat) (Int × Nat) → Value
  | .inl (n, j) => .tuple #[.int .i64 n, .int .i64 ((a : Int) + j), fault 0 0]
  | .inr (y, j) => .tuple #[.int .i64 0, .int .i64 0, fault y ((a : Int) + j)]
theorem drop_at {xs : List Int} {j : Nat} (h : j < xs.length) : xs.drop j = xs.getD j 0 :: xs.drop (j + 1) := by
  rw [List.drop_eq_getElem_cons h]; simp [List.getD, List.getElem?_eq_getElem h]

set_option maxHeartbeats 2000000 in
theorem addGroups_any (v : Value) (xs : List Int) (a : Nat) (n : Int) (w : World) (hr : Rd .u8 w v xs) (hx : Bts xs) (ha : a ≤ xs.length) (h0 : 0 ≤ n) (h1 : n ≤ 4611686018427387903) :
    Calls Try.prog 21 #[v, .int .i64 a, .int .i64 n] w fun e w' => e = .returned (addV a (addG (xs.drop a) 0 n)) ∧ Below w.heap.size w w' := by
  have hrl := hr.len
  have hml : maxLen = 9223372036854775807 := rfl
  rw [hml] at hrl
  have hR := Lib.hid hr
  have hX := Lib.hid hx
  obtain ⟨va, vc, rfl⟩ := hr.isSlice
  clear hml hr hx
  have R := Lib.hid (rfl : addV a (addG (xs.drop a) 0 n) = addV a (addG (xs.drop a) 0 n))
  obtain ⟨ans, hans⟩ : ∃ ans, ans = addV a (addG (xs.drop a) 0 n) := ⟨_, rfl⟩
  rw [← hans]
  have A0 := Lib.hid hans
  clear hans R
  have hwd : IntKind.i64.wrap ((xs.length : Int) - a) = (xs.length : Int) - a := by rw [IntKind.wrap_i64]; omega
  go_enter Try.func21, Try.ntmps21
  go_wp2_with fail
  go_loop [2, 16] (fun m i => ∃ (k : Nat) (nk : Int), k ≤ 9 ∧ a + k ≤ xs.length ∧ 0 ≤ nk ∧ nk ≤ 4611686018427387903 ∧ m = .int .i64 nk ∧ i = .int .i64 k ∧ Hid (ans = addV a (addG (xs.drop (a + k)) k nk))) (fun _ i => xs.length - (intOf i).toNat)
  case atStart => exact ⟨0, n, by omega, by omega, h0, h1, rfl, rfl, A0⟩
  case round =>
    obtain ⟨k, nk, hk9, hk, n0, n1, rfl, rfl, A⟩ := hrel
    clear A0
    by_cases hlt : a + k < xs.length
    · have hc : ∃ c, c = xs.getD (a + k) 0 := ⟨_, rfl⟩
      obtain ⟨c, hc⟩ := hc
      have hcb := getD_bts hX.out (a + k)
      rw [← hc] at hcb
      have hcell : ∃ b o, va = some ⟨b, o, none⟩ ∧ b < w.heap.size ∧ w.cell? ⟨b, o + (a + k), none⟩ = some (.int .u8 c) := by
        rcases hR.out with ⟨rfl, _⟩ | ⟨_, b, o, cp, he, h2, h3, h4, h5⟩
        · simp at hlt
        · simp only [Value.slice.injEq] at he
          exact ⟨b, o, he.1, h4, by rw [hc]; exact h5 _ hlt⟩
      obtain ⟨b, o, rfl, hb, hcell⟩ := hcell
      have hD := drop_at hlt
      rw [← hc] at hD
      have hA := A.out
      rw [hD] at hA
      have b1 := low_u8 c hcb.1 hcb.2
      have b2 := high_u8 c hcb.1 hcb.2
      clear hD A hc
      have HA := Lib.hid hA
      clear hA
      by_cases h9 : k = 9
      · subst h9
        have AA : Hid (ans = .tuple #[.int .i64 0, .int .i64 0, fault 5 ((a : Int) + 9)]) := HA.out.trans (congrArg (addV a) (addG_bad (.inl rfl)))
        clear HA
        go_wp2_with fail
        refine bodyPost_ret (v := .tuple #[.int .i64 0, .int .i64 0, fault 5 ((a : Int) + 9)]) (by simp [results, Try.results21, go_sem, fault]) rfl ⟨by rw [AA.out], ?_⟩
        go_grown
      · have e9 : ((k : Int) == 9) = false := by simp; omega
        have hP : (0 : Int) < 2 ^ (7 * k) := by rw [two_pow7]; have : 0 < 128 ^ k := Nat.pow_pos (by decide); omega
        have hsub : IntKind.i64.wrap (4611686018427387903 - nk) = 4611686018427387903 - nk := by rw [IntKind.wrap_i64]; omega
        by_cases hg : (4611686018427387903 - nk) / 2 ^ (7 * k) < c % 128
        · have d1 : decide (c % 128 > (4611686018427387903 - nk) / 2 ^ (7 * k)) = true := decide_eq_true hg
          have AA : Hid (ans = .tuple #[.int .i64 0, .int .i64 0, fault 5 ((a : Int) + k)]) := HA.out.trans (congrArg (addV a) (addG_bad (.inr (by rw [← two_pow7]; exact hg))))
          clear HA hg
          go_wp2_with fail
          refine bodyPost_ret (v := .tuple #[.int .i64 0, .int .i64 0, fault 5 ((a : Int) + k)]) (by simp [results, Try.results21, go_sem, fault]) rfl ⟨by rw [AA.out], ?_⟩
          go_grown
        · have d1 : decide (c % 128 > (4611686018427387903 - nk) / 2 ^ (7 * k)) = false := decide_eq_false hg
          have hno : ¬ (k = 9 ∨ (4611686018427387903 - nk) / ((128 ^ k : Nat) : Int) < c % 128) := by rw [← two_pow7]; rintro (h | h) <;> contradiction
          have hroom := addG_room (n := nk) (c := c) (i := k) (fun h => hno (.inr h))
          have hm0 : 0 ≤ c % 128 * ((128 ^ k : Nat) : Int) := Int.mul_nonneg (by omega) (Int.natCast_nonneg _)
          rw [← two_pow7] at hroom hm0
          have hsh : IntKind.i64.wrap (c % 128 * 2 ^ (7 * k)) = c % 128 * 2 ^ (7 * k) := by
            generalize c % 128 * (2 : Int) ^ (7 * k) = q at hroom hm0 ⊢
            rw [IntKind.wrap_i64]; omega
          have hsum : IntKind.i64.wrap (nk + c % 128 * 2 ^ (7 * k)) = nk + c % 128 * 2 ^ (7 * k) := by
            generalize c % 128 * (2 : Int) ^ (7 * k) = q at hroom hm0 ⊢
            rw [IntKind.wrap_i64]; omega
          by_cases hl : c < 128
          · have AA : Hid (ans = .tuple #[.int .i64 (nk + c % 128 * 2 ^ (7 * k)), .int .i64 ((a : Int) + k + 1), fault 0 0]) := by
              refine HA.out.trans ?_
              rw [addG_last hno hl, two_pow7]
              simp only [addV]
              rw [Int.natCast_add, Int.add_assoc]; rfl
            have d2 : (bits .and .u8 c 128 == 0) = true := by rw [b2]; exact decide_eq_true hl
            clear HA hg hno b2 hl
            go_wp2_with fail
            refine bodyPost_ret (v := .tuple #[.int .i64 (nk + c % 128 * 2 ^ (7 * k)), .int .i64 ((a : Int) + k + 1), fault 0 0]) (by simp [results, Try.results21, go_sem, fault]) rfl ⟨by rw [AA.out], ?_⟩
            go_grown
          · have AA : Hid (ans = addV a (addG (xs.drop (a + (k + 1))) (k + 1) (nk + c % 128 * 2 ^ (7 * k)))) := by
              refine HA.out.trans ?_
              rw [addG_more hno hl, two_pow7, Nat.add_assoc]
            have d2 : (bits .and .u8 c 128 == 0) = false := by rw [b2]; exact decide_eq_false hl
            clear HA hg hno b2 hl
            go_wp2_with fail
            go_round
            case rel => exact ⟨k + 1, _, by omega, by omega, Int.add_nonneg n0 hm0, hroom, rfl, by go_num, AA⟩
            case measure => simp [intOf]; omega
    · have hend : a + k = xs.length := by omega
      have AA : Hid (ans = .tuple #[.int .i64 0, .int .i64 0, fault 3 xs.length]) := by
        refine A.out.trans ?_
        rw [hend, List.drop_length, addG_end]
        simp only [addV]
        rw [← hend]; simp
      have hk' : (k : Int) = (xs.length : Int) - a := by omega
      have dl : decide ((k : Int) < (xs.length : Int) - a) = false := decide_eq_false (by omega)
      clear A hk' hend
      go_wp2_with fail
      refine bodyPost_ret (v := .tuple #[.int .i64 0, .int .i64 0, fault 3 xs.length]) (by simp [results, Try.results21, go_sem, fault]) rfl ⟨by rw [AA.out], ?_⟩
      go_grown
end Go.Proofs.Ytnjgnbdloeadgaa
