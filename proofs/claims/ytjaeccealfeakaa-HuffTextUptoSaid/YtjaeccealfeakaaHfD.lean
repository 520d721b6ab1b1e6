/- Walks of layer 12: the reference's Words. -/
import Derived.Test.YtjaeccealfeakaaHfC
set_option maxRecDepth 100000
set_option linter.unusedSimpArgs false
set_option linter.unusedVariables false
namespace Go.Proofs.Ytjaeccealfeakaa
open Go.RowKit

/-- the words that are known when those of n bits are told up to symbol k -/
def rwL (ns : List Nat) (n k : Nat) : List (Nat × Nat) := (List.range ns.length).map fun j => if ns.getD j 0 < n ∨ (ns.getD j 0 = n ∧ j < k) then wordN ns j else (0, 0)
theorem rwL_len (ns : List Nat) (n k : Nat) : (rwL ns n k).length = ns.length := by simp [rwL]
theorem rwL_get (ns : List Nat) (n k j : Nat) (h : j < (rwL ns n k).length) : (rwL ns n k)[j] = if ns.getD j 0 < n ∨ (ns.getD j 0 = n ∧ j < k) then wordN ns j else (0, 0) := by simp only [rwL, List.getElem_map, List.getElem_range]
theorem rwL_start (ns : List Nat) : rwL ns 1 0 = List.replicate ns.length (0, 0) := by
  refine List.ext_getElem (by simp [rwL]) fun j h1 h2 => ?_
  rw [rwL_get, List.getElem_replicate]
  by_cases h : ns.getD j 0 < 1
  · rw [if_pos (.inl h), word_zero (by omega)]
  · rw [if_neg (by omega)]
theorem rwL_next (ns : List Nat) (n : Nat) : rwL ns n ns.length = rwL ns (n + 1) 0 := by
  refine List.ext_getElem (by simp [rwL]) fun j h1 h2 => ?_
  rw [rwL_get, rwL_get]
  have hj : j < ns.length := by rw [rwL_len] at h1; exact h1
  by_cases h : ns.getD j 0 < n + 1
  · rw [if_pos (by omega), if_pos (.inl h)]
  · rw [if_neg (by omega), if_neg (by omega)]
theorem rwL_end {ns : List Nat} (h : CodeOk ns) : rwL ns 25 0 = wordsN ns := by
  refine List.ext_getElem (by simp [rwL, words_len]) fun j h1 h2 => ?_
  rw [rwL_get, if_pos (.inl (by have := h.at j; omega))]
  simp [wordsN]
theorem rwL_set (ns : List Nat) (n k : Nat) (hk : k < ns.length) (hn : ns.getD k 0 = n) : (rwL ns n k).set k (wordN ns k) = rwL ns n (k + 1) := by
  refine List.ext_getElem (by simp [rwL]) fun j h1 h2 => ?_
  rw [List.getElem_set, rwL_get]
  by_cases e : k = j
  · subst e; rw [if_pos rfl, rwL_get, if_pos (by omega)]
  · rw [if_neg e, rwL_get]
    by_cases h : ns.getD j 0 < n ∨ (ns.getD j 0 = n ∧ j < k)
    · rw [if_pos h, if_pos (by omega)]
    · rw [if_neg h, if_neg (by omega)]
theorem rwL_skip (ns : List Nat) (n k : Nat) (hn : ns.getD k 0 ≠ n) : rwL ns n (k + 1) = rwL ns n k := by
  refine List.ext_getElem (by simp [rwL]) fun j h1 h2 => ?_
  rw [rwL_get, rwL_get]
  by_cases e : k = j
  · subst e
    by_cases h : ns.getD k 0 < n
    · rw [if_pos (.inl h), if_pos (.inl h)]
    · rw [if_neg (by omega), if_neg (by omega)]
  · by_cases h : ns.getD j 0 < n ∨ (ns.getD j 0 = n ∧ j < k)
    · rw [if_pos h, if_pos (by omega)]
    · rw [if_neg h, if_neg (by omega)]
theorem short_one (ns : List Nat) : shortN ns 1 = 0 := by
  rw [short_succ, short_zero]
  have : ∀ r : List Nat, evenN r 0 = 0 := fun r => by
    induction r with
    | nil => rfl
    | cons m r ih => rw [evenN, ih]; by_cases h : m = 0 <;> simp [h, roomN]
  rw [this]
theorem mul_lt (y n p : Nat) (h : y * 2 ^ (24 - n) = p) (hp : p ≤ 16777216) : y ≤ 16777216 := by
  have : 0 < 2 ^ (24 - n) := Nat.pow_pos (by decide)
  have := Nat.le_mul_of_pos_right y this
  omega

theorem rwords_no (v : Value) (ls : List Int) (w : World) (hr : Rd .i64 w v ls) (hc : ¬ RightL ls) : Calls Try.prog 11 #[v] w fun e w' => e = .returned (.tuple #[.slice none 0 0, .int .i64 1]) ∧ w = w' := by
  have H := Lib.hid (rright_any v ls w hr)
  rw [decide_eq_false hc] at H
  clear hr hc
  go_enter Try.func11, Try.ntmps11
  go_wp2_with (go_at_call 15; refine H.out.mono ?_; rintro e w' ⟨rfl, rfl⟩)
  go_ret2
  exact ⟨rfl, rfl⟩

set_option maxHeartbeats 4000000 in
theorem rwords_yes (v : Value) (ls : List Int) (w : World) (hr : Rd .i64 w v ls) (hc : RightL ls) : Calls Try.prog 11 #[v] w (WdIs 49 w (ls.map Int.toNat)) := by
  have H := Lib.hid (rright_any v ls w hr)
  rw [decide_eq_true hc] at H
  have hrl := hc.1
  have hR := Lib.hid hr
  have hC := Lib.hid hc
  obtain ⟨va, vc, rfl⟩ := hr.isSlice
  obtain ⟨ns, hns⟩ : ∃ ns, ns = ls.map Int.toNat := ⟨_, rfl⟩
  rw [← hns]
  have HN := Lib.hid hns
  have HNL : Hid (ns.length = ls.length) := by show _ = _; rw [hns, List.length_map]
  have HK : Hid (CodeOk ns) := by show CodeOk ns; rw [hns]; exact hc.code
  clear hr hc hns
  go_enter Try.func11, Try.ntmps11
  go_wp2_with (first
    | (go_at_call 15; refine H.out.mono ?_; rintro e w' ⟨rfl, rfl⟩)
    | ((with_reducible refine wpList_make_words _ ?_ (.tmp 12) (.tmp 12) 27 49 ?_ elemRW Try.underlying27 ls.length ?_ ?_ hrl w.heap.size ?_ ?_); rfl; rfl; rfl; rfl; (exact Nat.le_refl _); intro g w2 hg o2 g2; have O2 := Lib.hid o2; have G2 := Lib.hid g2; clear o2 g2))
  have hgl : g < w2.heap.size := O2.out.blt g rfl
  have OO : Hid (OwnW 49 w2 w.heap.size (.slice (some ⟨g, 0, none⟩) ls.length ls.length) (rwL ns 1 0)) := by
    rw [rwL_start, HNL.out]; exact O2.out
  have BB : Hid (Below w.heap.size w w2) := (Below.refl _ _).grown G2.out (Nat.le_refl _) (by simp)
  have HS : Hid (0 * 2 ^ (24 - 0) = shortN ns (0 + 1)) := by show _ = _; rw [short_one]
  clear O2 G2 H hgl
  go_loopw [5, 6, 7] (fun y i _ wr => ∃ (m Y : Nat), m ≤ 24 ∧ i = .int .i64 ((m + 1 : Nat) : Int) ∧ y = .int .i64 (Y : Int) ∧ Hid (Y * 2 ^ (24 - m) = shortN ns (m + 1)) ∧ OwnW 49 wr w.heap.size (.slice (some ⟨g, 0, none⟩) ls.length ls.length) (rwL ns (m + 1) 0) ∧ Below w.heap.size w wr) (fun _ i _ _ => 25 - (intOf i).toNat)
  case atStart => exact ⟨0, 0, by omega, rfl, rfl, HS, OO.out, BB.out⟩
  case round =>
    obtain ⟨m, Y, hm, rfl, rfl, hY, oo, hb⟩ := hrel
    clear OO BB HS
    have OO := Lib.hid oo
    have BB := Lib.hid hb
    clear oo hb
    obtain ⟨n, hn⟩ : ∃ n, n = m + 1 := ⟨_, rfl⟩
    rw [← hn] at OO ⊢
    by_cases hlt : m < 24
    · have dn : decide ((n : Int) ≤ 24) = true := decide_eq_true (by omega)
      have dn' : decide (n ≤ 24) = true := decide_eq_true (by omega)
      have hp0 : Y * 2 ^ (24 - m) ≤ 16777216 := by
        rw [hY.out]; have := HK.out.short_le (m + 1) (by omega); omega
      have hY24 := mul_lt Y m _ rfl hp0
      have hw2 : IntKind.i64.wrap (2 * (Y : Int)) = 2 * (Y : Int) := by rw [IntKind.wrap_i64]; omega
      have HY2 : Hid ((2 * Y) * 2 ^ (24 - n) = posN ns n 0) := by
        show _ = _
        rw [pos_zero, hn, ← hY.out, show 24 - m = (24 - (m + 1)) + 1 by omega, Nat.pow_succ, Nat.mul_comm 2 Y, Nat.mul_assoc, Nat.mul_comm 2]
      have hn24 : n ≤ 24 := by omega
      have hn1 : 1 ≤ n := by omega
      have HNM := Lib.hid hn
      clear hn hp0 hlt
      go_wp2_with fail
      clear hw2
      go_loopw [5, 7] (fun y i wq => ∃ (k Z : Nat), k ≤ ls.length ∧ i = .int .i64 (k : Int) ∧ y = .int .i64 (Z : Int) ∧ Hid (Z * 2 ^ (24 - n) = posN ns n k) ∧ OwnW 49 wq w.heap.size (.slice (some ⟨g, 0, none⟩) ls.length ls.length) (rwL ns n k) ∧ Below w.heap.size w wq) (fun _ i _ => ls.length - (intOf i).toNat)
      case atStart => exact ⟨0, 2 * Y, by omega, rfl, by go_num, HY2, OO.out, BB.out⟩
      case round =>
        obtain ⟨k, Z, hk, rfl, rfl, hZ, oo, hb⟩ := hrel
        clear OO BB HY2
        have OO := Lib.hid oo
        have BB := Lib.hid hb
        clear oo hb
        have hp1 : Z * 2 ^ (24 - n) ≤ 16777216 := by
          rw [hZ.out]
          have := pos_le ns n k
          have := HK.out.short_le (n + 1) (by omega)
          omega
        have hZ24 := mul_lt Z n _ rfl hp1
        by_cases hkl : k < ls.length
        · obtain ⟨x, hxn⟩ : ∃ x, x = ns.getD k 0 := ⟨_, rfl⟩
          have hx : ls.getD k 0 = (x : Int) := by rw [hC.out.at k hkl, hxn, HN.out]
          have hkn : k < ns.length := by rw [HNL.out]; exact hkl
          have hcell : ∃ b o, va = some ⟨b, o, none⟩ ∧ wr.cell? ⟨b, o + k, none⟩ = some (.int .i64 (x : Int)) := by
            rcases hR.out.below BB.out with ⟨rfl, _⟩ | ⟨_, b, o, cp, he, h2, h3, h4, h5⟩
            · simp at hkl
            · simp only [Value.slice.injEq] at he
              exact ⟨b, o, he.1, by rw [← hx]; exact h5 _ hkl⟩
          obtain ⟨b, o, rfl, hcell⟩ := hcell
          have hps := pos_step ns n k hkn
          rw [← getD_of hkn, ← hxn] at hps
          by_cases he : x = n
          · rw [if_pos he, room_pos (by omega)] at hps
            have hS : Hid ((rwL ns n k).set k (Z, n) = rwL ns n (k + 1)) := by
              have e : (Z, n) = wordN ns k := by
                rw [wordN, ← hxn, he, ← hZ.out, Nat.mul_div_cancel _ (Nat.pow_pos (by decide))]
              rw [e]
              exact rwL_set ns n k hkn (by rw [← hxn, he])
            have HZ : Hid ((Z + 1) * 2 ^ (24 - n) = posN ns n (k + 1)) := by
              show _ = _; rw [hps, ← hZ.out, Nat.add_mul, Nat.one_mul]
            have c0 := OO.out.at0 k (by rw [rwL_len]; exact hkn)
            have c1 := OO.out.at1 k (by rw [rwL_len]; exact hkn)
            have z0 := OO.out.fz (k * 2)
            have z1 := OO.out.fz (k * 2 + 1)
            subst he
            have hgs : g < wr.heap.size := OO.out.blt g rfl
            have OS := Lib.hid (OO.out.set k Z x)
            rw [hS.out] at OS
            have BS := Lib.hid ((BB.out.setCell (p := ⟨g, k * 2, none⟩) hg (.int .i64 (Z : Int))).setCell (p := ⟨g, k * 2 + 1, none⟩) hg (.int .i64 (x : Int)))
            clear hxn hx hkn hps OO BB hZ hp1 hS
            go_wp2_with fail
            go_roundw
            case rel => exact ⟨k + 1, Z + 1, by omega, by go_num, by go_num, HZ, OS.out, BS.out⟩
            case measure => simp [intOf]; omega
          · rw [if_neg he, Nat.add_zero] at hps
            have hS : Hid (rwL ns n (k + 1) = rwL ns n k) := rwL_skip ns n k (by rw [← hxn]; exact he)
            have HZ : Hid (Z * 2 ^ (24 - n) = posN ns n (k + 1)) := by show _ = _; rw [hps]; exact hZ.out
            have d1 : ((x : Int) == (n : Int)) = false := by simp; omega
            have d2 : (x == n) = false := by simp; omega
            have d3 : decide (x = n) = false := decide_eq_false he
            clear hxn hx hkn hps hZ hp1 he
            go_wp2_with fail
            go_roundw
            case rel => exact ⟨k + 1, Z, by omega, by go_num, rfl, HZ, by rw [hS.out]; exact OO.out, BB.out⟩
            case measure => simp [intOf]; omega
        · have hend : k = ls.length := by omega
          have dl : decide ((k : Int) < (ls.length : Int)) = false := decide_eq_false (by omega)
          have dl' : decide (k < ls.length) = false := decide_eq_false (by omega)
          have O3 : Hid (OwnW 49 wr w.heap.size (.slice (some ⟨g, 0, none⟩) ls.length ls.length) (rwL ns (n + 1) 0)) := by
            have := OO.out
            rw [hend, ← HNL.out, rwL_next, HNL.out] at this
            exact this
          have HZ : Hid (Z * 2 ^ (24 - n) = shortN ns (n + 1)) := by
            have := hZ.out
            rw [hend, ← HNL.out, pos_end] at this
            exact this
          clear hend OO hZ hp1
          go_wp2_with fail
          refine ⟨⟨n, Z, hn24, by go_num, rfl, HZ, O3.out, BB.out⟩, ?_⟩
          simp [intOf]; omega
    · have hm24 : m = 24 := by omega
      have dn : decide ((n : Int) ≤ 24) = false := decide_eq_false (by omega)
      have dn' : decide (n ≤ 24) = false := decide_eq_false (by omega)
      have O3 : Hid (OwnW 49 wr w.heap.size (.slice (some ⟨g, 0, none⟩) ls.length ls.length) (wordsN ns)) := by
        have := OO.out
        rw [hn, hm24, rwL_end HK.out] at this
        exact this
      clear hn hm24 OO hlt
      go_wp2_with fail
      go_ret2
      exact ⟨_, rfl, O3.out, BB.out⟩
end Go.Proofs.Ytjaeccealfeakaa
