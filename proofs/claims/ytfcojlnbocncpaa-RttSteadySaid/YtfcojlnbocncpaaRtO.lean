/- The law Steady. -/
import Derived.Test.YtfcojlnbocncpaaRtK
import Derived.Test.YtfcojlnbocncpaaRtP
set_option linter.unusedSimpArgs false
set_option linter.unusedVariables false
namespace Go.Proofs.Ytfcojlnbocncpaa
open Go.RowKit

set_option maxHeartbeats 1600000 in
theorem steady_a (n : Int) (m : Nat) (w : World) (hm : m < 256) (hn : tickB n = true) :
    Calls Try.prog 6 #[.int .i64 n, .int .u8 m] w (Yes w) := by
  obtain ⟨v', hq⟩ := steady_yes m hn
  have HQ := Lib.hid hq
  have H0 := Lib.hid (show takenL 0 (List.replicate (m + 1) n) = List.replicate (m + 1) n by rw [steady_taken, hn]; rfl)
  have hw0 : IntKind.i64.wrap (m : Int) = (m : Int) := wraps_i64' _ (by omega) (by omega)
  have hw1 : IntKind.i64.wrap ((m : Int) + 1) = (m : Int) + 1 := wraps_i64' _ (by omega) (by omega)
  clear hq hn
  go_enter Try.func6, Try.ntmps6
  go_wp2_with fail
  go_loopw [5, 12] (fun u i wr => ∃ (k : Nat), i = .int .i64 k ∧ k ≤ m + 1 ∧ Own .i64 3 wr w.heap.size u (List.replicate k n) ∧ Below w.heap.size w wr) (fun _ i _ => m + 1 - (intOf i).toNat)
  case atStart => exact ⟨0, rfl, Nat.zero_le _, Own.nil _ _ _ _, Below.refl _ _⟩
  case round =>
    obtain ⟨k, rfl, hk, hown, hbel⟩ := hrel
    have OW := Lib.hid hown
    have BB := Lib.hid hbel
    have hz := hbel.size
    by_cases hlt : k < m + 1
    · have hi1 : (k : Int) < (m : Int) + 1 := by omega
      have hw2 : IntKind.i64.wrap ((k : Int) + 1) = (k : Int) + 1 := wraps_i64' _ (by omega) (by omega)
      have O1 := Lib.hid (hown.alloc (.cells #[.int .i64 n] 3))
      have b6 := (Below.refl wr.heap.size wr).alloc (Nat.le_refl _) (.cells #[.int .i64 n] 3)
      have BB6 := Lib.hid (hbel.trans (b6.mono hz))
      have hz6 := Nat.le_trans hz b6.size
      clear b6 hown hbel
      go_wp2_with (at_builtin; go_loud ((with_reducible refine wpList_append_rd _ ?_ (.tmp 14) (.tmp 16) 43 ?_ elemInt Try.underlying43 w.heap.size _ _ ?_ O1.out (.slice (some ⟨wr.heap.size, 0, none⟩) 1 1) [n] ?_ (Rd.one' .i64 3 wr n wr.heap.size rfl) ?_ ?_ ?_ ?_)); rfl; rfl; go_loud (rfl); go_loud (rfl); go_loud (simp only [List.length_singleton, List.length_replicate]; omega); go_loud (simp only [List.length_singleton, List.length_replicate]; unfold maxLen; omega); go_loud (simpa using hz6); intro v7 w7 o7 g7)
      have hb7 := O1.out.blk
      have BB7 := BB6.out.grown g7 hz6 (fun k hk => hb7 k hk)
      have HX7 : Hid (Own .i64 3 w7 w.heap.size v7 (List.replicate (k + 1) n) ∧ Below w.heap.size w w7) := ⟨by rw [List.replicate_succ']; exact o7, BB7⟩
      clear BB7 o7 g7 hb7 BB6 hz6 O1
      go_wp2
      exact ⟨⟨k + 1, by go_num, by omega, HX7.out.1, HX7.out.2⟩, by simp [intOf, hw2]; omega⟩
    · obtain rfl : k = m + 1 := by omega
      obtain ⟨a, c, hu⟩ := hown.len
      rw [List.length_replicate] at hu
      subst hu
      have hi1 : ¬ ((m + 1 : Nat) : Int) < (m : Int) + 1 := by omega
      have hi2 : decide (((m + 1 : Nat) : Int) < (m : Int) + 1) = false := decide_eq_false hi1
      have P := Lib.hid (play_any _ _ 0 wr hown.rd (by rw [List.length_replicate]; omega))
      clear hown hbel hk hlt
      go_wp2_with fail
      refine P.out.mono ?_
      rintro e w1 ⟨u8, rfl, ow, b1⟩
      rw [HQ.out]
      rw [H0.out] at ow
      obtain ⟨ua, uc, hu⟩ := ow.len
      rw [List.length_replicate] at hu
      subst hu
      have BB := Lib.hid (BB.out.trans (b1.mono BB.out.size))
      have BB := Lib.hid (BB.out.alloc BB.out.size (.cells #[.bool true, .int .i64 n, .int .i64 n, .int .i64 v', .int .i64 n] 24))
      have HS := Lib.hid (held_last true n n v' n 24 w1)
      have hne : (((m + 1 : Nat) : Int) == 0) = false := by simp; omega
      have hne2 : (((m : Int) + 1) == 0) = false := by simp; omega
      clear b1 ow P HQ H0
      simp only
      generalize w1.heap.size = p at HS ⊢
      go_wp2_with fail
      refine (alive_any _).mono ?_
      rintro e w9 ⟨rfl, bn⟩
      have BB := Lib.hid (BB.out.trans (bn.mono BB.out.size))
      clear bn
      go_wp2
      go_ret
      exact ⟨rfl, BB.out⟩

set_option maxHeartbeats 1600000 in
theorem steady_b (n : Int) (m : Nat) (w : World) (hm : m < 256) (hn : tickB n = false) :
    Calls Try.prog 6 #[.int .i64 n, .int .u8 m] w (Yes w) := by
  have hq := steady_no (m + 1) hn
  have HQ := Lib.hid hq
  have H0 := Lib.hid (show takenL 0 (List.replicate (m + 1) n) = [] by rw [steady_taken, hn]; rfl)
  have hw0 : IntKind.i64.wrap (m : Int) = (m : Int) := wraps_i64' _ (by omega) (by omega)
  have hw1 : IntKind.i64.wrap ((m : Int) + 1) = (m : Int) + 1 := wraps_i64' _ (by omega) (by omega)
  clear hq hn
  go_enter Try.func6, Try.ntmps6
  go_wp2_with fail
  go_loopw [5, 12] (fun u i wr => ∃ (k : Nat), i = .int .i64 k ∧ k ≤ m + 1 ∧ Own .i64 3 wr w.heap.size u (List.replicate k n) ∧ Below w.heap.size w wr) (fun _ i _ => m + 1 - (intOf i).toNat)
  case atStart => exact ⟨0, rfl, Nat.zero_le _, Own.nil _ _ _ _, Below.refl _ _⟩
  case round =>
    obtain ⟨k, rfl, hk, hown, hbel⟩ := hrel
    have OW := Lib.hid hown
    have BB := Lib.hid hbel
    have hz := hbel.size
    by_cases hlt : k < m + 1
    · have hi1 : (k : Int) < (m : Int) + 1 := by omega
      have hw2 : IntKind.i64.wrap ((k : Int) + 1) = (k : Int) + 1 := wraps_i64' _ (by omega) (by omega)
      have O1 := Lib.hid (hown.alloc (.cells #[.int .i64 n] 3))
      have b6 := (Below.refl wr.heap.size wr).alloc (Nat.le_refl _) (.cells #[.int .i64 n] 3)
      have BB6 := Lib.hid (hbel.trans (b6.mono hz))
      have hz6 := Nat.le_trans hz b6.size
      clear b6 hown hbel
      go_wp2_with (at_builtin; go_loud ((with_reducible refine wpList_append_rd _ ?_ (.tmp 14) (.tmp 16) 43 ?_ elemInt Try.underlying43 w.heap.size _ _ ?_ O1.out (.slice (some ⟨wr.heap.size, 0, none⟩) 1 1) [n] ?_ (Rd.one' .i64 3 wr n wr.heap.size rfl) ?_ ?_ ?_ ?_)); rfl; rfl; go_loud (rfl); go_loud (rfl); go_loud (simp only [List.length_singleton, List.length_replicate]; omega); go_loud (simp only [List.length_singleton, List.length_replicate]; unfold maxLen; omega); go_loud (simpa using hz6); intro v7 w7 o7 g7)
      have hb7 := O1.out.blk
      have BB7 := BB6.out.grown g7 hz6 (fun k hk => hb7 k hk)
      have HX7 : Hid (Own .i64 3 w7 w.heap.size v7 (List.replicate (k + 1) n) ∧ Below w.heap.size w w7) := ⟨by rw [List.replicate_succ']; exact o7, BB7⟩
      clear BB7 o7 g7 hb7 BB6 hz6 O1
      go_wp2
      exact ⟨⟨k + 1, by go_num, by omega, HX7.out.1, HX7.out.2⟩, by simp [intOf, hw2]; omega⟩
    · obtain rfl : k = m + 1 := by omega
      obtain ⟨a, c, hu⟩ := hown.len
      rw [List.length_replicate] at hu
      subst hu
      have hi1 : ¬ ((m + 1 : Nat) : Int) < (m : Int) + 1 := by omega
      have hi2 : decide (((m + 1 : Nat) : Int) < (m : Int) + 1) = false := decide_eq_false hi1
      have P := Lib.hid (play_any _ _ 0 wr hown.rd (by rw [List.length_replicate]; omega))
      clear hown hbel hk hlt
      go_wp2_with fail
      refine P.out.mono ?_
      rintro e w1 ⟨u8, rfl, ow, b1⟩
      rw [HQ.out]
      rw [H0.out] at ow
      obtain ⟨ua, uc, hu⟩ := ow.len
      rw [List.length_nil] at hu
      subst hu
      have BB := Lib.hid (BB.out.trans (b1.mono BB.out.size))
      have BB := Lib.hid (BB.out.alloc BB.out.size (.cells #[.bool false, .int .i64 0, .int .i64 0, .int .i64 0, .int .i64 0] 24))
      have HS := Lib.hid (held_last false 0 0 0 0 24 w1)
      have hne : (((m + 1 : Nat) : Int) == 0) = false := by simp; omega
      have hne2 : (((m : Int) + 1) == 0) = false := by simp; omega
      clear b1 ow P HQ H0
      unfold nul
      simp only
      generalize w1.heap.size = p at HS ⊢
      go_wp2_with fail
      refine (alive_any _).mono ?_
      rintro e w9 ⟨rfl, bn⟩
      have BB := Lib.hid (BB.out.trans (bn.mono BB.out.size))
      clear bn
      go_wp2
      go_ret
      exact ⟨rfl, BB.out⟩

/-- P6.4 -/
theorem rttSteady_walk (n m : Int) (w : World) (hm : 0 ≤ m ∧ m < 256) :
    Calls Try.prog 6 #[.int .i64 n, .int .u8 m] w (Yes w) := by
  obtain ⟨k, rfl⟩ : ∃ k : Nat, m = k := ⟨m.toNat, by omega⟩
  cases hn : tickB n
  · exact steady_b n k w (by omega) hn
  · exact steady_a n k w (by omega) hn
end Go.Proofs.Ytfcojlnbocncpaa
