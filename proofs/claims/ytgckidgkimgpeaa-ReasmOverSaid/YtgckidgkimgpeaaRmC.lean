/- Walks of layer 9: New, mark. -/
import Derived.Test.YtgckidgkimgpeaaRmB
set_option linter.unusedSimpArgs false
set_option linter.unusedVariables false
namespace Go.Proofs.Ytgckidgkimgpeaa
open Go.RowKit

theorem makeU8 (n : Nat) (h : n ≤ 4096) (w : World) : (Instr.makeSlice 22 (.int .i64 (n : Int)) (.int .i64 (n : Int))).run Try.prog w = .ok (.slice (some ⟨w.heap.size, 0, none⟩) n n) (w.alloc (.cells (madeCells #[.int .u8 0] n) 5)) :=
  run_make_row' (P := Try.prog) 22 5 (.int .u8 0) 1 Try.underlying22 (by kernel_rfl) rfl .i64 .i64 n (by omega) (by omega) w
theorem makeBool (n : Nat) (h : n ≤ 4096) (w : World) : (Instr.makeSlice 43 (.int .i64 (n : Int)) (.int .i64 (n : Int))).run Try.prog w = .ok (.slice (some ⟨w.heap.size, 0, none⟩) n n) (w.alloc (.cells (madeCells #[.bool false] n) 4)) :=
  run_make_row' (P := Try.prog) 43 4 (.bool false) 1 Try.underlying43 (by kernel_rfl) rfl .i64 .i64 n (by omega) (by omega) w
theorem Cs.made' (w : World) (z : Value) (n : Nat) (T : TypeId) : Cs (w.alloc (.cells (madeCells #[z] n) T)) w.heap.size (List.replicate n z) := by
  have := Cs.made w (madeCells #[z] n) T
  rwa [toList_madeCells_one] at this

theorem below1 (w : World) (o : Obj) : Below w.heap.size w (w.alloc o) := (Below.refl _ w).alloc (Nat.le_refl _) _
theorem rep_map {α β : Type} (f : α → β) (n : Nat) (x : α) : (List.replicate n x).map f = List.replicate n (f x) := by simp
theorem Str.built (w : World) (k : Nat) (TA TB TC : TypeId) :
    Str (w.heap.size + 1 + 1) w.heap.size (w.heap.size + 1) (fresh k) (((w.alloc (.cells (madeCells #[.int .u8 0] k) TA)).alloc (.cells (madeCells #[.bool false] k) TB)).alloc
      (.cells #[.slice (some ⟨w.heap.size, 0, none⟩) k k, .slice (some ⟨w.heap.size + 1, 0, none⟩) k k, .int .i64 0, .int .i64 0, .int .i64 (-1), .bool false] TC)) := by
  have a1 := Cs.made' w (.int .u8 0) k TA
  have a2 := Cs.made' (w.alloc (.cells (madeCells #[.int .u8 0] k) TA)) (.bool false) k TB
  have a3 := Cs.made ((w.alloc (.cells (madeCells #[.int .u8 0] k) TA)).alloc (.cells (madeCells #[.bool false] k) TB)) #[.slice (some ⟨w.heap.size, 0, none⟩) k k, .slice (some ⟨w.heap.size + 1, 0, none⟩) k k, .int .i64 0, .int .i64 0, .int .i64 (-1), .bool false] TC
  rw [World.size_alloc, World.size_alloc] at a3
  rw [World.size_alloc] at a2
  refine ⟨?_, ?_, ?_, by omega, by omega, by omega⟩
  · have e : (fresh k).row.length = k := List.length_replicate
    unfold StrC
    rw [e]
    exact a3
  · show Cs _ _ ((List.replicate k (0 : Int)).map _)
    rw [rep_map]
    exact (a1.below (below1 _ _)).below (below1 _ _)
  · show Cs _ _ ((List.replicate k false).map _)
    rw [rep_map]
    exact a2.below (below1 _ _)
theorem Str.built' (w : World) (k : Nat) (TA TB TC : TypeId) :
    Str (w.heap.size + 1 + 1) (w.heap.size + 1) w.heap.size (fresh k) (((w.alloc (.cells (madeCells #[.bool false] k) TB)).alloc (.cells (madeCells #[.int .u8 0] k) TA)).alloc
      (.cells #[.slice (some ⟨w.heap.size + 1, 0, none⟩) k k, .slice (some ⟨w.heap.size, 0, none⟩) k k, .int .i64 0, .int .i64 0, .int .i64 (-1), .bool false] TC)) := by
  have a1 := Cs.made' w (.bool false) k TB
  have a2 := Cs.made' (w.alloc (.cells (madeCells #[.bool false] k) TB)) (.int .u8 0) k TA
  have a3 := Cs.made ((w.alloc (.cells (madeCells #[.bool false] k) TB)).alloc (.cells (madeCells #[.int .u8 0] k) TA)) #[.slice (some ⟨w.heap.size + 1, 0, none⟩) k k, .slice (some ⟨w.heap.size, 0, none⟩) k k, .int .i64 0, .int .i64 0, .int .i64 (-1), .bool false] TC
  rw [World.size_alloc, World.size_alloc] at a3
  rw [World.size_alloc] at a2
  refine ⟨?_, ?_, ?_, by omega, by omega, by omega⟩
  · have e : (fresh k).row.length = k := List.length_replicate
    unfold StrC
    rw [e]
    exact a3
  · show Cs _ _ ((List.replicate k (0 : Int)).map _)
    rw [rep_map]
    exact a2.below (below1 _ _)
  · show Cs _ _ ((List.replicate k false).map _)
    rw [rep_map]
    exact (a1.below (below1 _ _)).below (below1 _ _)
theorem below3 (w : World) (a b c : Obj) : Below w.heap.size w (((w.alloc a).alloc b).alloc c).drew := below_drewN ((((Below.refl _ w).alloc (Nat.le_refl _) _).alloc (by simp) _).alloc (by simp; omega) _) 1

/-- what New hands back -/
def NewIs (n : Int) (w : World) (e : Ending) (w' : World) : Prop :=
  (withinB n 1 4096 = false ∧ e = .returned (.tuple #[.pointer none, .int .i64 1]) ∧ w' = w) ∨
  (withinB n 1 4096 = true ∧ ∃ b r m, e = .returned (.tuple #[.pointer (some ⟨b, 0, none⟩), .int .i64 0]) ∧ Str b r m (fresh n.toNat) w' ∧ (w.heap.size ≤ b ∧ w.heap.size ≤ r ∧ w.heap.size ≤ m) ∧ Below w.heap.size w w')
set_option maxRecDepth 100000 in
set_option maxHeartbeats 3200000 in
theorem new_any (n : Int) (w : World) : Calls Try.prog 8 #[.int .i64 n] w (NewIs n w) := by
  cases h1 : withinB n 1 4096
  · have H := Lib.hid h1
    have HN : Hid (withinB n 1 4096 = false) := h1
    clear h1
    go_enter Try.func8, Try.ntmps8
    go_wp2_with (go_at_call 21; refine (within_b _ _ _ _ H.out _).mono ?_; rintro e w2 ⟨rfl, h⟩; obtain rfl : w = w2 := h.symm)
    go_ret2
    exact .inl ⟨HN.out, rfl, rfl⟩
  · have H := Lib.hid h1
    have hw := within_iff.1 h1
    obtain ⟨k, rfl⟩ : ∃ k : Nat, n = (k : Int) := ⟨n.toNat, by omega⟩
    have hk : k ≤ 4096 := by omega
    have hm1 := makeU8 k hk
    have hm2 := makeBool k hk
    clear h1 hw
    go_enter Try.func8, Try.ntmps8
    go_wp2_with (go_at_call 21; refine (within_b _ _ _ _ H.out _).mono ?_; rintro e w2 ⟨rfl, h⟩; obtain rfl : w = w2 := h.symm)
    go_region
    all_goals (try go_wp2)
    all_goals go_ret2
    · exact .inr ⟨H.out, _, _, _, rfl, (Str.built w k _ _ _).drewN 1, ⟨by omega, by omega, by omega⟩, below3 _ _ _ _⟩
    · exact .inr ⟨H.out, _, _, _, rfl, (Str.built' w k _ _ _).drewN 1, ⟨by omega, by omega, by omega⟩, below3 _ _ _ _⟩
/-- m's marks from o on, so many, are set -/
theorem mark_step (L : List Bool) (o k : Nat) (h : o + k < L.length) : (splice L o (List.replicate k true)).set (o + k) true = splice L o (List.replicate (k + 1) true) := by
  have l1 : (splice L o (List.replicate k true)).length = L.length := length_splice _ _ _ (by simp; omega)
  refine ext_getD false (by rw [List.length_set, l1, length_splice _ _ _ (by simp; omega)]) fun i hi => ?_
  rw [List.length_set, l1] at hi
  rw [getD_splice _ _ _ _ _ (by simp; omega), List.length_replicate]
  have e : ((splice L o (List.replicate k true)).set (o + k) true).getD i false = if o + k = i then true else (splice L o (List.replicate k true)).getD i false := by
    rw [getD_lt (by rw [List.length_set, l1]; exact hi), List.getElem_set]
    split
    · rfl
    · rw [getD_lt (by rw [l1]; exact hi)]
  rw [e, getD_splice _ _ _ _ _ (by simp; omega), List.length_replicate]
  by_cases h1 : o + k = i
  · rw [if_pos h1, if_pos (by omega), getD_rep _ _ _ _ (by omega)]
  · rw [if_neg h1]
    by_cases h2 : o ≤ i ∧ i < o + k
    · rw [if_pos h2, if_pos (by omega), getD_rep _ _ _ _ (by omega), getD_rep _ _ _ _ (by omega)]
    · rw [if_neg h2, if_neg (by omega)]
set_option maxRecDepth 100000 in
set_option maxHeartbeats 1600000 in
theorem mark_any (m o n c : Nat) (L : List Bool) (w : World) (h : Cs w m (L.map Value.bool)) (ho : o + n ≤ L.length) (hm : n ≤ 4096) :
    Calls Try.prog 29 #[.slice (some ⟨m, o, none⟩) n c] w fun e w' => e = .returned (.tuple #[]) ∧ Cs w' m ((splice L o (List.replicate n true)).map Value.bool) ∧ w.grownBy w' (some m) := by
  have H := Lib.hid h
  clear h
  go_enter Try.func29, Try.ntmps29
  go_wp2_with fail
  go_loopw [5] (fun i wr => ∃ k : Nat, i = .int .i64 k ∧ k ≤ n ∧ Cs wr m ((splice L o (List.replicate k true)).map Value.bool) ∧ w.grownBy wr (some m)) (fun i _ => n - (intOf i).toNat)
  case atStart => exact ⟨0, rfl, Nat.zero_le _, by simpa [splice] using H.out, World.grownBy.refl _ _⟩
  case round =>
    obtain ⟨k, rfl, hk, hcs, hg⟩ := hrel
    have HCS := Lib.hid hcs
    have HG := Lib.hid hg
    by_cases hlt : k < n
    · have hi1 : (k : Int) < (n : Int) := by omega
      have hi2 : (0 : Int) ≤ (k : Int) := by omega
      have hw1 : IntKind.i64.wrap ((k : Int) + 1) = (k : Int) + 1 := wraps_i64' _ (by omega) (by omega)
      have l1 : (splice L o (List.replicate k true)).length = L.length := length_splice _ _ _ (by simp; omega)
      have q0 := hcs.get (o + k) (.bool ((splice L o (List.replicate k true)).getD (o + k) false)) (by rw [getD_lt (by omega)]; simp [show o + k < (splice L o (List.replicate k true)).length by omega])
      have f0 := hcs.free (o + k)
      have HS := Lib.hid (mark_step L o k (by omega))
      obtain ⟨x, hx⟩ : ∃ x, x = (splice L o (List.replicate k true)).getD (o + k) false := ⟨_, rfl⟩
      rw [← hx] at q0
      clear hx hcs hg l1
      go_wp2
      refine ⟨⟨k + 1, by go_num, hlt, ?_, grownBy_trans HG.out (grown_set m (o + k) wr _)⟩, by simp [intOf, hw1]; omega⟩
      have := HCS.out.set (o + k) (.bool true)
      rw [← HS.out, List.map_set]
      exact this
    · obtain rfl : k = n := by omega
      have hi1 : ¬ ((k : Int) < (k : Int)) := by omega
      clear hcs hg
      go_wp2
      go_end0
      exact ⟨rfl, HCS.out, HG.out⟩
end Go.Proofs.Ytgckidgkimgpeaa
