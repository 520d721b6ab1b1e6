/- Layer 12: the law Free. -/
import Derived.Test.YtjaeccealfeakaaHfO
set_option maxRecDepth 100000
set_option linter.unusedSimpArgs false
set_option linter.unusedVariables false
namespace Go.Proofs.Ytjaeccealfeakaa
open Go.RowKit

set_option maxHeartbeats 8000000 in
theorem huffFree_walk (v : Value) (ls : List Int) (w : World) (hr : Rd .i64 w v ls) : Calls Try.prog 8 #[v] w (Yes w) := by
  have HR := Lib.hid hr
  by_cases hc : RightL ls
  · have HC := Lib.hid hc
    have HOK := Lib.hid hc.code
    obtain ⟨va, vc, rfl⟩ := hr.isSlice
    obtain ⟨ns, hns⟩ : ∃ ns, ns = ls.map Int.toNat := ⟨_, rfl⟩
    have HN := Lib.hid hns
    have hnl : ns.length = ls.length := by rw [hns, List.length_map]
    have hl256 := hc.1
    have HW := Lib.hid (words_yes (.slice va ls.length vc) ls w hr hc)
    rw [← hns] at HW HOK
    have HNL := Lib.hid hnl
    clear hr hc hns hnl
    go_enter Try.func8, Try.ntmps8
    go_wp2_with fail
    refine HW.out.mono ?_
    rintro e w1 ⟨u, rfl, ho, hb⟩
    have OO := Lib.hid ho
    have B1 := Lib.hid hb
    obtain ⟨ua, uc, rfl, _, _⟩ := ho.slice
    have hwl : (wordsN ns).length = ls.length := by rw [words_len, HNL.out]
    rw [hwl] at OO
    have HWL := Lib.hid hwl
    clear ho hb HW hwl
    rw [HWL.out]
    go_wp2_with fail
    have hz1 : w.heap.size ≤ w1.heap.size := B1.out.size
    go_loopw [29] (fun i wr => ∃ k : Nat, k ≤ ls.length ∧ i = .int .i64 (k : Int) ∧ Below w1.heap.size w1 wr) (fun i _ => ls.length - (intOf i).toNat)
    case atStart => exact ⟨0, Nat.zero_le _, rfl, Below.refl _ _⟩
    case round =>
      obtain ⟨i, hi, rfl, hbw⟩ := hrel
      have BB := Lib.hid hbw
      have hz := hbw.size
      have BW := Lib.hid (B1.out.trans (hbw.mono hz1))
      by_cases hlt : i < ls.length
      · have hin : i < ns.length := by rw [HNL.out]; exact hlt
        have hwi : (wordsN ns).getD i (0, 0) = wordN ns i := words_getD ns i hin
        obtain ⟨p, n, hpn⟩ : ∃ p n, wordN ns i = (p, n) := ⟨_, _, rfl⟩
        have hn : n = ns.getD i 0 := by have := congrArg Prod.snd hpn; exact this.symm
        have hx : ls.getD i 0 = (n : Int) := by rw [HC.out.at i hlt, ← HN.out, hn]
        have hn24 : n ≤ 24 := by rw [hn]; exact HOK.out.at i
        obtain ⟨g, rfl, hg, hgl⟩ := OO.out.shape (by rw [HWL.out]; omega)
        have c0 := (OO.out.below hbw).at0 i (by rw [HWL.out]; exact hlt)
        have c1 := (OO.out.below hbw).at1 i (by rw [HWL.out]; exact hlt)
        rw [hwi, hpn] at c0 c1
        simp only at c0 c1
        have hcell : ∃ b o, va = some ⟨b, o, none⟩ ∧ wr.cell? ⟨b, o + i, none⟩ = some (.int .i64 (n : Int)) ∧ b < wr.heap.size := by
          rcases HR.out.below BW.out with ⟨rfl, _⟩ | ⟨_, b, o, cp, he, h2, h3, h4, h5⟩
          · simp at hlt
          · simp only [Value.slice.injEq] at he
            exact ⟨b, o, he.1, by rw [← hx]; exact h5 _ hlt, h4⟩
        obtain ⟨b, o, rfl, hcell, hbl⟩ := hcell
        have hp0 : n = 0 → p = 0 := fun h => by
          have := word_zero (l := ns) (i := i) (by rw [← hn]; exact h)
          rw [hpn] at this
          exact congrArg Prod.fst this
        have hpr : 0 < n → p + 1 < 2 ^ n := fun h => by
          have := word_room HOK.out (i := i) (by rw [← hn]; exact h)
          rw [hpn, ← hn] at this
          exact this
        have hpp : 0 < 2 ^ n := Nat.pow_pos (by decide)
        have hp24 : 2 ^ n ≤ 16777216 := Nat.pow_le_pow_right (n := 2) (by decide) hn24
        have hplt : p < 2 ^ n := by
          by_cases h : n = 0
          · rw [hp0 h]; exact hpp
          · have := hpr (by omega); omega
        have hpc : (2 : Int) ^ n = ((2 ^ n : Nat) : Int) := by simp
        have hw1 : IntKind.i64.wrap ((2 : Int) ^ n) = (2 : Int) ^ n := by rw [hpc, IntKind.wrap_i64]; omega
        have hw2 : IntKind.i64.wrap ((2 : Int) ^ n - 1) = (2 : Int) ^ n - 1 := by rw [hpc, IntKind.wrap_i64]; omega
        have hmn : min n 64 = n := by omega
        have e1 : decide ((n : Int) < 0) = false := decide_eq_false (by omega)
        have e2 : decide ((n : Int) > 24) = false := decide_eq_false (by omega)
        have e2' : decide (n > 24) = false := decide_eq_false (by omega)
        have e3 : decide ((p : Int) < 0) = false := decide_eq_false (by omega)
        have e4 : decide ((p : Int) ≥ (2 : Int) ^ n) = false := decide_eq_false (by rw [hpc]; omega)
        have HFR : Hid (∀ k, k < ls.length → 0 < n → n ≤ ns.getD k 0 → i ≠ k → (wordN ns k).1 / 2 ^ (ns.getD k 0 - n) ≠ p) := fun k hk h0 hle hne => by
          have := word_free HOK.out (i := i) (k := k) (by rw [← hn]; exact h0) (by rw [← hn]; exact hle) hne
          rw [hpn, ← hn] at this
          exact this
        have e5 : 0 < n → ((p : Int) == (2 : Int) ^ n - 1) = false := fun h => by
          have := hpr h
          rw [hpc]; simp; omega
        have E5 := Lib.hid e5
        have B2 := Lib.hid (BB.out.alloc hz (.cells #[.int .i64 (p : Int), .int .i64 (n : Int)] 44))
        have A2 : Hid (Bg (wr.alloc (.cells #[.int .i64 (p : Int), .int .i64 (n : Int)] 44)) wr.heap.size p n) := alloc_at _ _
        have C2 : Hid ((wr.alloc (.cells #[.int .i64 (p : Int), .int .i64 (n : Int)] 44)).cell? ⟨b, o + i, none⟩ = some (.int .i64 (n : Int))) := by
          exact (((Below.refl wr.heap.size wr).alloc (Nat.le_refl _) _).cell (p := ⟨b, o + i, none⟩) hbl).trans hcell
        clear hn hx hwi hpn hp0 hpr hplt hpc e5 hpp hp24
        go_upto_region 9 with fail
        have hAl : wr.heap.size < (wr.alloc (.cells #[.int .i64 (p : Int), .int .i64 (n : Int)] 44)).heap.size := by simp
        clear c0 c1 hcell hbw
        generalize wr.alloc _ = w2 at *
        generalize wr.heap.size = A at *
        obtain ⟨a0, a1⟩ := A2.out.facts
        obtain ⟨a0d, a1d⟩ := A2.out.drew.facts
        have c2 := C2.out
        have c2d : w2.drew.cell? ⟨b, o + i, none⟩ = some (.int .i64 (n : Int)) := C2.out
        have hi1 : (0 : Int) ≤ (i : Int) := by omega
        have hi2 : (i : Int) < (ls.length : Int) := by omega
        have e7 : ∃ z : Bool, z = decide (0 < n) := ⟨_, rfl⟩
        obtain ⟨z, hz0⟩ := e7
        have e6 : z = true → ((p : Int) == (2 : Int) ^ n - 1) = false := fun h => E5.out (by rw [hz0] at h; simpa using h)
        have e7 : decide ((n : Int) > 0) = z := by rw [hz0]; simp
        have e7' : decide (n > 0) = z := hz0.symm
        have e7'' : decide (0 < n) = z := hz0.symm
        have HZ : Hid (z = false ↔ n = 0) := by
          show _ ↔ _
          rw [hz0]; simp
        clear hz0 E5
        go_cut [77] (fun v77 wc => v77 = .bool false ∧ Below w1.heap.size w1 wc ∧ Bg wc A p n)
        case first =>
          cases z with
          | false =>
            clear e6
            go_quiet (fail)
            go_wp2_with fail
            all_goals
              go_meet
              exact ⟨rfl, below_drewN B2.out _, A2.out⟩
          | true =>
            have e8 := e6 rfl
            clear e6
            go_quiet (fail)
            go_wp2_with fail
            all_goals
              go_meet
              exact ⟨rfl, below_drewN B2.out _, A2.out⟩
        case rest =>
          obtain ⟨rfl, hb2, hA2⟩ := hcut
          clear a0 a1 a0d a1d c2 c2d A2 B2 C2 e1 e2 e2' e3 e4 e6 hw1 hw2 hmn
          have B2 := Lib.hid hb2
          have A2 := Lib.hid hA2
          have hAl2 : A < wc.heap.size := hA2.lt
          clear hb2 hA2 hAl
          go_wp2_with fail
          go_loopw [80] (fun j wq => ∃ k : Nat, k ≤ ls.length ∧ j = .int .i64 (k : Int) ∧ Below w1.heap.size w1 wq ∧ Bg wq A p n) (fun j _ => ls.length - (intOf j).toNat)
          case atStart => exact ⟨0, Nat.zero_le _, rfl, B2.out, A2.out⟩
          case round =>
            obtain ⟨k, hk, rfl, hbq, hAq⟩ := hrel
            clear B2 A2 hAl2
            have B3 := Lib.hid hbq
            have A3 := Lib.hid hAq
            have hz3 := hbq.size
            have hAl3 : A < wr.heap.size := hAq.lt
            by_cases hlk : k < ls.length
            · have hkn : k < ns.length := by rw [HNL.out]; exact hlk
              have hwk : (wordsN ns).getD k (0, 0) = wordN ns k := words_getD ns k hkn
              obtain ⟨q, m, hqm⟩ : ∃ q m, wordN ns k = (q, m) := ⟨_, _, rfl⟩
              have hm : m = ns.getD k 0 := by have := congrArg Prod.snd hqm; exact this.symm
              have hm24 : m ≤ 24 := by rw [hm]; exact HOK.out.at k
              have d0 := (OO.out.below hbq).at0 k (by rw [HWL.out]; exact hlk)
              have d1 := (OO.out.below hbq).at1 k (by rw [HWL.out]; exact hlk)
              rw [hwk, hqm] at d0 d1
              simp only at d0 d1
              have HF2 : Hid (0 < n → n ≤ m → i ≠ k → q / 2 ^ (m - n) ≠ p) := fun h0 hle hne => by
                have := HFR.out k hlk h0 (by rw [← hm]; exact hle) hne
                rw [hqm, ← hm] at this
                exact this
              have B4 := Lib.hid (hbq.alloc hz3 (.cells #[.int .i64 (q : Int), .int .i64 (m : Int)] 44))
              have A4 := Lib.hid (hAq.alloc (.cells #[.int .i64 (q : Int), .int .i64 (m : Int)] 44))
              have C4 : Hid (Bg (wr.alloc (.cells #[.int .i64 (q : Int), .int .i64 (m : Int)] 44)) wr.heap.size q m) := alloc_at _ _
              clear hm hwk hqm hkn hbq hAq
              go_upto_region 14 with fail
              clear d0 d1
              have hCl : wr.heap.size < (wr.alloc (.cells #[.int .i64 (q : Int), .int .i64 (m : Int)] 44)).heap.size := by simp
              generalize wr.alloc _ = w4 at *
              generalize wr.heap.size = C at *
              obtain ⟨a0, a1⟩ := A4.out.facts
              obtain ⟨a0d, a1d⟩ := A4.out.drew.facts
              obtain ⟨b0, b1⟩ := C4.out.facts
              obtain ⟨b0d, b1d⟩ := C4.out.drew.facts
              go_cut [112] (fun v112 wc => v112 = .bool false ∧ Below w1.heap.size w1 wc ∧ Bg wc A p n)
              case first =>
                by_cases hik : i = k
                · have ei : ((i : Int) != (k : Int)) = false := by rw [hik]; simp
                  have ei' : (i != k) = false := by rw [hik]; simp
                  have ei2 : decide (i = k) = true := decide_eq_true hik
                  clear hik
                  go_quiet (fail)
                  go_wp2_with fail
                  all_goals
                    go_meet
                    exact ⟨rfl, below_drewN B4.out _, A4.out⟩
                · have ei : ((i : Int) != (k : Int)) = true := by simp; omega
                  have ei' : (i != k) = true := by simp; omega
                  have ei2 : decide (i = k) = false := decide_eq_false hik
                  have HIK := Lib.hid hik
                  clear hik
                  cases z with
                  | false =>
                    go_quiet (fail)
                    go_wp2_with fail
                    all_goals
                      go_meet
                      exact ⟨rfl, below_drewN B4.out _, A4.out⟩
                  | true =>
                    by_cases hnm : n ≤ m
                    · have ec : decide ((m : Int) ≥ (n : Int)) = true := decide_eq_true (by omega)
                      have ec' : decide (m ≥ n) = true := decide_eq_true hnm
                      have ec'' : decide (n ≤ m) = true := decide_eq_true hnm
                      have hw1 : IntKind.i64.wrap ((m : Int) - (n : Int)) = ((m - n : Nat) : Int) := by rw [IntKind.wrap_i64]; omega
                      have hmin : min (m - n) 64 = m - n := by omega
                      have h0 : 0 < n := by
                        have := HZ.out
                        by_cases h : n = 0
                        · exact absurd (this.2 h) (by decide)
                        · omega
                      obtain ⟨Y, hY⟩ : ∃ Y, Y = q / 2 ^ (m - n) := ⟨_, rfl⟩
                      have hdiv : (q : Int) / 2 ^ (m - n) = (Y : Int) := by rw [hY, Int.natCast_ediv]; simp
                      have hne := HF2.out h0 hnm HIK.out
                      rw [← hY] at hne
                      have ed : ((Y : Int) == (p : Int)) = false := by simp; omega
                      have ed' : (Y == p) = false := by simp; omega
                      have ed2 : decide (Y = p) = false := decide_eq_false hne
                      clear hY hne
                      go_quiet (fail)
                      go_wp2_with fail
                      all_goals
                        go_meet
                        exact ⟨rfl, below_drewN B4.out _, A4.out⟩
                    · have ec : decide ((m : Int) ≥ (n : Int)) = false := decide_eq_false (by omega)
                      have ec' : decide (m ≥ n) = false := decide_eq_false hnm
                      have ec'' : decide (n ≤ m) = false := decide_eq_false hnm
                      go_quiet (fail)
                      go_wp2_with fail
                      all_goals
                        go_meet
                        exact ⟨rfl, below_drewN B4.out _, A4.out⟩
              case rest =>
                obtain ⟨rfl, hb5, hA5⟩ := hcut
                have B5 := Lib.hid hb5
                have A5 := Lib.hid hA5
                clear hb5 hA5 a0 a1 a0d a1d b0 b1 b0d b1d A4 B4 C4
                go_wp2_with fail
                go_roundw
                case rel => exact ⟨k + 1, by omega, by go_num, B5.out, A5.out⟩
                case measure => simp [intOf]; omega
            · have dl : decide ((k : Int) < (ls.length : Int)) = false := decide_eq_false (by omega)
              have dl' : decide (k < ls.length) = false := decide_eq_false (by omega)
              clear hbq hAq
              go_wp2_with fail
              exact ⟨⟨i + 1, by omega, by go_num, B3.out⟩, by simp [intOf]; omega⟩
      · have dl : decide ((i : Int) < (ls.length : Int)) = false := decide_eq_false (by omega)
        have dl' : decide (i < ls.length) = false := decide_eq_false (by omega)
        clear hbw
        go_wp2_with fail
        refine (alive_any _).mono ?_
        rintro e w3 ⟨rfl, hb3⟩
        go_wp2_with fail
        go_ret
        exact ⟨rfl, BW.out.trans (hb3.mono BW.out.size)⟩
  · have HC := Lib.hid hc
    clear hr hc
    go_enter Try.func8, Try.ntmps8
    go_wp2_with fail
    refine (words_no v ls w HR.out HC.out).mono ?_
    rintro e w' ⟨rfl, rfl⟩
    go_wp2_with fail
    refine (alive_any _).mono ?_
    rintro e w3 ⟨rfl, hb3⟩
    go_wp2_with fail
    go_ret
    exact ⟨rfl, hb3⟩
end Go.Proofs.Ytjaeccealfeakaa
