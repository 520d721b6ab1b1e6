/- Walks of layer 5: rows that are made. -/
import Derived.Test.YticbhdbpfpdofaaSpB2
import Derived.Lib.AppendZeros
import Derived.Lib.SliceRun
set_option linter.unusedSimpArgs false
set_option linter.unusedVariables false
namespace Go.Proofs.Yticbhdbpfpdofaa
open Go.RowKit

/-- a list of spans of the call's own comes back -/
def Gives (l : List (Int × Int)) (w : World) (e : Ending) (w' : World) : Prop := ∃ v, e = .returned v ∧ OwnS w' w.heap.size v l ∧ Below w.heap.size w w'
/-- a row of the call's own, from block B on, comes back; of what there was only that of v is written -/
def GivesOn (B : Nat) (v : Value) (l : List (Int × Int)) (w : World) (e : Ending) (w' : World) : Prop := ∃ v', e = .returned v' ∧ OwnS w' B v' l ∧ w.grownBy w' v.ownBlock
/-- spans of the call's own, and an error's number -/
def Gives2 (l : List (Int × Int)) (c : Int) (w : World) (e : Ending) (w' : World) : Prop := ∃ v, e = .returned (.tuple #[v, .int .i64 c]) ∧ OwnS w' w.heap.size v l ∧ Below w.heap.size w w'

set_option maxHeartbeats 800000 in
theorem grow_any (n : Nat) (w : World) (hn : n ≤ 8796093022208) :
    Calls Try.prog 42 #[.slice none 0 0, .int .i64 n] w (Gives [] w) := by
  by_cases h0 : n = 0
  · subst h0
    clear hn
    go_enter Try.func42, Try.ntmps42
    go_wp2
    go_ret
    exact ⟨_, rfl, OwnS.nil _ _, Below.refl _ _⟩
  · have HN := Lib.hid h0
    have h1 : ¬ ((n : Int) < 0) := by omega
    have h2 : (n : Int) > 0 := by omega
    have h2' : decide (0 < (n : Int)) = true := decide_eq_true h2
    have h2'' : decide (0 < n) = true := decide_eq_true (by omega)
    obtain ⟨i, hi, hz, hsz, hbs⟩ := elemSpanC.info
    have hrz : ∀ ty, (Builtin.append_ #[22, 3] ty #[.slice none 0 0, .int .i64 n]).run Try.prog w = _ := fun ty =>
      Lib.run_append_nil_zeros w 22 3 ty 42 i _ .i64 .i64 Try.underlying22 Try.underlying3 hi hz n (by omega) (by omega) (by omega) (by rw [hbs]; omega)
    obtain ⟨G, hG⟩ : ∃ G, G = grownCap w n 0 42 := ⟨_, rfl⟩
    rw [← hG] at hrz
    have hG1 : n ≤ G := by rw [hG]; exact grownCap_ge w _ _ _
    have hG2 : G ≤ maxLen := by rw [hG]; exact grownCap_le_maxLen w _ _ _ (by unfold maxLen; omega)
    unfold maxLen at hG2
    have HO : Hid (Gives [] w (.returned (.slice (some ⟨w.heap.size, 0, none⟩) 0 G)) (w.drew.alloc (.cells (Builtin.zeroCells (Value.cells (.agg #[.int .i64 0, .int .i64 0])) n ++ Builtin.zeroCells (Value.cells (.agg #[.int .i64 0, .int .i64 0])) (G - n)) 42))) :=
      ⟨_, rfl, ⟨by simp [spC], .inr ⟨w.heap.size, G, _, rfl, Nat.le_refl _, alloc_at w.drew _, Nat.zero_le _, by unfold maxLen; exact hG2, by rw [Array.size_append, size_zeroCells, size_zeroCells]; show n * 2 + (G - n) * 2 = G * 2; omega, by simp [spC]⟩⟩, (below_drewN (Below.refl _ w) 1).alloc (Nat.le_refl _) _⟩
    clear hG hi hz hsz hbs h0
    go_enter Try.func42, Try.ntmps42
    go_wp2_with (at_builtin; refine Lib.wpList_append_run _ rfl _ _ _ _ rfl _ _ rfl rfl _ _ (hrz _) ?_)
    all_goals (go_ret; exact HO.out)

set_option maxHeartbeats 800000 in
theorem clone_any (v : Value) (l : List (Int × Int)) (w : World) (hr : RdS w v l) (hl : l.length ≤ 8796093022208) :
    Calls Try.prog 38 #[v] w (Gives l w) := by
  obtain ⟨a, c, rfl, h1, h2⟩ := hr.isSlice
  have HR := Lib.hid hr
  cases a with
  | none =>
    obtain ⟨rfl, rfl⟩ := hr.nilCut
    have q22 : ∀ (w : World) (a : Option Addr) (n c n' c' : Nat), (binOp .eql 22 (.slice a n c) (.slice none n' c')).run Try.prog w = .ok (.bool a.isNone) w := fun w a n c n' c' => Lib.run_eql_slice_nil w _ _ a n c n' c' Try.underlying22
    clear hr
    go_enter Try.func38, Try.ntmps38
    go_wp2
    go_ret
    exact ⟨_, rfl, OwnS.nil _ _, Below.refl _ _⟩
  | some a =>
    have O0 : Hid (OwnS (w.alloc (.cells #[] 42)) w.heap.size (.slice (some ⟨w.heap.size, 0, none⟩) 0 0) []) := ⟨by simp [spC], .inr ⟨w.heap.size, 0, _, rfl, Nat.le_refl _, alloc_at w _, Nat.le_refl _, by decide, rfl, by simp [spC]⟩⟩
    have R0 : Hid (RdS (w.alloc (.cells #[] 42)) (.slice (some a) l.length c) l) := hr.below ((Below.refl _ w).alloc (Nat.le_refl _) _)
    have q22 : ∀ (w : World) (a : Option Addr) (n c n' c' : Nat), (binOp .eql 22 (.slice a n c) (.slice none n' c')).run Try.prog w = .ok (.bool a.isNone) w := fun w a n c n' c' => Lib.run_eql_slice_nil w _ _ a n c n' c' Try.underlying22
    clear hr
    go_enter Try.func38, Try.ntmps38
    go_wp2_with (at_builtin; refine wpList_append_spans _ rfl (.tmp 5) (.tmp 6) rfl w.heap.size _ [] rfl O0.out _ l rfl R0.out (by simp; omega) (by simp) ?_; intro v' w' o' g')
    go_ret
    exact ⟨v', rfl, o', ((Below.refl _ w).alloc (Nat.le_refl _) _).grown g' (by simp) (fun j h => by cases h; exact Nat.le_refl _)⟩

theorem notMany_ok (v : Value) (l : List (Int × Int)) (w : World) (hr : RdS w v l) (hl : l.length ≤ 256) :
    Calls Try.prog 34 #[v] w fun e w' => e = .returned (.tuple #[v, .int .i64 0]) ∧ w = w' := by
  obtain ⟨a, c, rfl, _, _⟩ := hr.isSlice
  have t1 : decide (256 < (l.length : Int)) = false := decide_eq_false (by omega)
  clear hr
  go_enter Try.func34, Try.ntmps34
  go_wp2
  go_ret2
  exact ⟨rfl, rfl⟩
theorem notMany_no (v : Value) (l : List (Int × Int)) (w : World) (hr : RdS w v l) (hl : 256 < l.length) :
    Calls Try.prog 34 #[v] w fun e w' => e = .returned (.tuple #[.slice none 0 0, .int .i64 6]) ∧ w = w' := by
  obtain ⟨a, c, rfl, _, _⟩ := hr.isSlice
  have t1 : decide (256 < (l.length : Int)) = true := decide_eq_true (by omega)
  clear hr
  go_enter Try.func34, Try.ntmps34
  go_wp2
  go_ret2
  exact ⟨rfl, rfl⟩

theorem mayBoth_any (v : Value) (l : List (Int × Int)) (x y : Int) (w : World) (hr : RdS w v l) :
    Calls Try.prog 32 #[v, .int .i64 x, .int .i64 y] w fun e w' => e = .returned (.bool (rightB l && spanB x y)) ∧ Below w.heap.size w w' := by
  obtain ⟨a, c, rfl, _, _⟩ := hr.isSlice
  have HR := right_any _ l w hr
  cases h : rightB l <;> rw [h] at HR
  · have HR' := Lib.hid HR
    clear HR hr h
    go_enter Try.func32, Try.ntmps32
    go_wp2_with (go_at_call 10; refine HR'.out.mono ?_; rintro e w2 ⟨rfl, hb2⟩)
    go_ret
    exact ⟨rfl, hb2⟩
  · have HR' := Lib.hid HR
    clear HR hr h
    generalize hs : spanB x y = s
    have HS := Lib.hid hs
    clear hs
    go_enter Try.func32, Try.ntmps32
    go_wp2_with (first
      | (go_at_call 10; refine HR'.out.mono ?_; rintro e w2 ⟨rfl, hb2⟩)
      | (go_at_call 29; refine (may_b x y s _ HS.out).mono ?_; rintro e w3 ⟨rfl, hb3⟩))
    go_ret
    exact ⟨rfl, hb2.trans (hb3.mono hb2.size)⟩

set_option maxHeartbeats 800000 in
theorem apSpan_any (B : Nat) (v : Value) (l : List (Int × Int)) (x y : Int) (w : World) (ho : OwnS w B v l) (hB : B ≤ w.heap.size) (hl : l.length ≤ 1000000) :
    Calls Try.prog 36 #[v, .int .i64 x, .int .i64 y] w (GivesOn B v (l ++ apS x y) w) := by
  obtain ⟨a, c, rfl, _, _⟩ := ho.slice
  have HO := Lib.hid ho
  by_cases h : y < x
  · have t1 : decide (y < x) = true := decide_eq_true h
    rw [ap_none h, List.append_nil]
    clear ho h
    go_enter Try.func36, Try.ntmps36
    go_wp2
    go_ret
    exact ⟨_, rfl, HO.out, World.grownBy.refl _ _⟩
  · have t1 : decide (y < x) = false := decide_eq_false h
    rw [ap_one (by omega)]
    have O0 : Hid (OwnS (w.alloc (.cells #[.int .i64 x, .int .i64 y] 42)) B (.slice a l.length c) l) := ho.below ((Below.refl _ w).alloc (Nat.le_refl _) _)
    have R0 : Hid (RdS (w.alloc (.cells #[.int .i64 x, .int .i64 y] 42)) (.slice (some ⟨w.heap.size, 0, none⟩) 1 1) [(x, y)]) := reads_built w x y
    clear ho h
    go_enter Try.func36, Try.ntmps36
    go_wp2_with (at_builtin; refine wpList_append_spans _ rfl (.tmp 11) (.tmp 15) rfl B _ l rfl O0.out _ [(x, y)] rfl R0.out (by simp; omega) (by simp; omega) ?_; intro v' w' o' g')
    go_ret
    exact ⟨v', rfl, o', grownBy_trans (World.grownBy_alloc w _ _) g'⟩

/-- lists, one behind the other -/
def catK (L : Nat → List (Int × Int)) : Nat → List (Int × Int)
  | 0 => []
  | k + 1 => catK L k ++ L k
theorem catK_le (L : Nat → List (Int × Int)) : ∀ {k m : Nat}, k ≤ m → (catK L k).length ≤ (catK L m).length
  | k, 0, h => by rw [Nat.le_zero.1 h]; exact Nat.le_refl _
  | k, m + 1, h => by
    rcases Nat.lt_or_eq_of_le h with h1 | rfl
    · have := catK_le L (Nat.le_of_lt_succ h1)
      rw [catK, List.length_append]; omega
    · exact Nat.le_refl _

set_option maxHeartbeats 1600000 in
theorem concat_any (p m : Nat) (V : Nat → Value) (L : Nat → List (Int × Int)) (w : World) (hp : p < w.heap.size) (hm : m < 1000000) (hc : ∀ k, k < m → w.cell? ⟨p, k, none⟩ = some (V k)) (hr : ∀ k, k < m → RdS w (V k) (L k))
    (hT : (catK L m).length ≤ 8796093022208) : Calls Try.prog 35 #[.slice (some ⟨p, 0, none⟩) m m] w (Gives (catK L m) w) := by
  have HC := Lib.hid hc
  have HR := Lib.hid hr
  clear hc hr
  go_enter Try.func35, Try.ntmps35
  go_wp2_with fail
  go_loop [3, 11] (fun s i => ∃ k : Nat, k ≤ m ∧ i = .int .i64 k ∧ s = .int .i64 (catK L k).length) (fun _ i => m - (intOf i).toNat)
  case atStart => exact ⟨0, Nat.zero_le _, rfl, rfl⟩
  case round =>
    obtain ⟨k, hk, rfl, rfl⟩ := hrel
    have hle := catK_le L hk
    by_cases hlt : k < m
    · have hle1 := catK_le L (show k + 1 ≤ m from hlt)
      obtain ⟨a, c, hv, _, _⟩ := (HR.out k hlt).isSlice
      have hcell := HC.out k hlt
      rw [hv] at hcell
      have e1 : (catK L (k + 1)).length = (catK L k).length + (L k).length := by rw [catK, List.length_append]
      have E1 := Lib.hid e1
      have hsum : ((catK L k).length : Int) + ((L k).length : Int) ≤ 8796093022208 := by have := E1.out; omega
      have t1 : decide (((catK L k).length : Int) + ((L k).length : Int) < 0) = false := decide_eq_false (by omega)
      clear e1 hv
      generalize (L k).length = ln at *
      generalize (catK L k).length = sn at *
      go_wp2
      go_round
      case rel => exact ⟨k + 1, hlt, by go_num, by rw [E1.out]; go_num⟩
      case measure => simp [intOf]; omega
    · obtain rfl : k = m := by omega
      go_wp2_with (go_at_call 42; refine (grow_any _ _ hT).mono ?_; rintro e w1 ⟨v1, rfl, o1, b1⟩)
      have O1 := Lib.hid o1
      have B1 := Lib.hid b1
      clear o1 b1
      go_loopw [6, 27] (fun s i wr => ∃ j : Nat, j ≤ k ∧ i = .int .i64 j ∧ OwnS wr w.heap.size s (catK L j) ∧ Below w.heap.size w wr) (fun _ i _ => k - (intOf i).toNat)
      case atStart => exact ⟨0, Nat.zero_le _, rfl, O1.out, B1.out⟩
      case round =>
        obtain ⟨j, hj, rfl, own, hbel⟩ := hrel
        have OW := Lib.hid own
        have HB := Lib.hid hbel
        have hz := hbel.size
        by_cases hlt2 : j < k
        · have hle2 := catK_le L (show j + 1 ≤ k from hlt2)
          obtain ⟨a, c, hv, _, _⟩ := (HR.out j hlt2).isSlice
          have hcell : wr.cell? ⟨p, j, none⟩ = some (V j) := (hbel.cell (p := ⟨p, j, none⟩) hp).trans (HC.out j hlt2)
          have hrd : Hid (RdS wr (V j) (L j)) := (HR.out j hlt2).below hbel
          rw [hv] at hcell hrd
          have e1 : (catK L j).length + (L j).length ≤ 8796093022208 := by have : (catK L (j + 1)).length = (catK L j).length + (L j).length := by rw [catK, List.length_append]
                                                                           omega
          have E1 := Lib.hid e1
          clear e1 hv own hbel
          go_wp2_with (at_builtin; refine wpList_append_spans _ rfl (.tmp 31) (.tmp 32) rfl w.heap.size _ (catK L j) rfl OW.out _ (L j) rfl hrd.out E1.out hz ?_; intro v' w' o' g')
          exact ⟨⟨j + 1, hlt2, by go_num, o', HB.out.grown g' hz (fun i hi => OW.out.blk i hi)⟩, by simp [intOf]; omega⟩
        · obtain rfl : j = k := by omega
          clear own hbel
          go_wp2
          go_ret
          exact ⟨_, rfl, OW.out, HB.out⟩
end Go.Proofs.Yticbhdbpfpdofaa
