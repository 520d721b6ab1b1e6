/- Walks of layer 5: the document's clip, Take, Top, Gaps. -/
import Derived.Test.YticbhdbpfpdofaaSpF
import Derived.Test.YticbhdbpfpdofaaSpG
import Derived.Test.YticbhdbpfpdofaaSpR1
set_option linter.unusedSimpArgs false
set_option linter.unusedVariables false
namespace Go.Proofs.Yticbhdbpfpdofaa
open Go.RowKit

set_option maxHeartbeats 3200000 in
theorem rclip_any (v : Value) (ss : List (Int × Int)) (f t : Int) (w : World) (hr : RdS w v ss) (hm : ss.length ≤ 256) :
    Calls Try.prog 37 #[v, .int .i64 f, .int .i64 t] w (Gives (clipL f t ss) w) := by
  by_cases h0 : ss = []
  · subst h0
    obtain ⟨va, vc, rfl, _, _⟩ := hr.isSlice
    clear hr hm
    go_enter Try.func37, Try.ntmps37
    go_wp2_with fail
    refine wp_loop_rounds 1 ?_
    rw [rounds_succ]
    go_wp2
    go_ret
    exact ⟨_, rfl, OwnS.nil _ _, Below.refl _ _⟩
  obtain ⟨b, o, c, rfl, hb⟩ := hr.form h0
  have HR := Lib.hid hr
  clear hr h0
  go_enter Try.func37, Try.ntmps37
  go_wp2_with fail
  go_loopw [7, 8] (fun s7 i wr => ∃ (k : Nat) (a : Option Addr) (n8 c8 : Nat), i = .int .i64 k ∧ s7 = .slice a n8 c8 ∧ k ≤ ss.length ∧ OwnS wr w.heap.size (.slice a n8 c8) (clipL f t (ss.take k)) ∧ Below w.heap.size w wr) (fun _ i _ => ss.length - (intOf i).toNat)
  case atStart => exact ⟨0, none, 0, 0, rfl, rfl, Nat.zero_le _, by simpa [clipL] using OwnS.nil _ _, Below.refl _ _⟩
  case round =>
    obtain ⟨k, a, n8, c8, rfl, rfl, hk, own, hbel⟩ := hrel
    have OW := Lib.hid own
    have HB := Lib.hid hbel
    have hz := hbel.size
    have OD : ∀ n, OwnS (wr.drewN n) w.heap.size (.slice a n8 c8) (clipL f t (ss.take k)) := fun n => own.below (below_drewN (Below.refl _ _) n)
    have BD : ∀ n, Below w.heap.size w (wr.drewN n) := fun n => below_drewN hbel n
    have OD1 : Hid (OwnS wr.drew w.heap.size (.slice a n8 c8) (clipL f t (ss.take k))) := OD 1
    have BD1 : Hid (Below w.heap.size w wr.drew) := BD 1
    by_cases hlt : k < ss.length
    · obtain ⟨q0, q1⟩ := (HR.out.below hbel).cells rfl k hlt
      have hct := clip_take (a := f) (b := t) ss k hlt
      obtain ⟨⟨x, y⟩, hs⟩ : ∃ s, s = ss.getD k (0, 0) := ⟨_, rfl⟩
      rw [← hs] at q0 q1 hct
      simp only at q0 q1 hct
      have HCT := Lib.hid hct
      have hll : Hid ((clipL f t (ss.take k)).length ≤ 256) := by show _ ≤ _; have := clip_len (a := f) (b := t) (ss.take k); rw [List.length_take] at this; omega
      have hi1 : (k : Int) < (ss.length : Int) := by omega
      have hi2 : (0 : Int) ≤ (k : Int) := by omega
      have hw1 : IntKind.i64.wrap ((k : Int) + 1) = (k : Int) + 1 := wraps_i64' _ (by omega) (by omega)
      have d0 : wr.drew.cell? ⟨b, o + k * 2, none⟩ = some (.int .i64 x) := q0
      have d1 : wr.drew.cell? ⟨b, o + k * 2 + 1, none⟩ = some (.int .i64 y) := q1
      clear hs hct own hbel OD BD
      by_cases h1 : x < f
      · have HX : Hid (max x f = f) := by show _ = _; omega
        by_cases h2 : t < y
        · have HY : Hid (min y t = t) := by show _ = _; omega
          rw [HX.out, HY.out] at HCT
          by_cases hle : f ≤ t
          · have hd2 : decide (f ≤ t) = true := decide_eq_true hle
            have HC : Hid (clipL f t (ss.take (k + 1)) = clipL f t (ss.take k) ++ [(f, t)]) := by show _ = _; rw [HCT.out, if_pos hle]
            have OA : Hid (OwnS (wr.alloc (.cells #[.int .i64 f, .int .i64 t] 42)).drew w.heap.size (.slice a n8 c8) (clipL f t (ss.take k))) := OD1.out.below ((Below.refl _ _).alloc (Nat.le_refl _) _)
            have RA : Hid (RdS (wr.alloc (.cells #[.int .i64 f, .int .i64 t] 42)).drew (.slice (some ⟨wr.heap.size, 0, none⟩) 1 1) [(f, t)]) := reads_built wr.drew f t
            have BA : Hid (Below w.heap.size w (wr.alloc (.cells #[.int .i64 f, .int .i64 t] 42)).drew) := BD1.out.alloc hz _
            clear hle
            go_wp2_with fail
            go_region
            all_goals
              go_wp2_with (at_builtin; ((with_reducible refine wpList_append_spans _ ?_ (.tmp 34) (.tmp 38) ?_ w.heap.size _ (clipL f t (ss.take k)) ?_ OA.out _ [(f, t)] ?_ RA.out ?_ ?_ ?_); rfl; rfl; rfl; rfl; (have := hll.out; simp; omega); (exact BA.out.size); intro v4 w4 o4 g4; obtain ⟨a4, n4, c4, rfl⟩ : ∃ a n c, v4 = .slice a n c := (by obtain ⟨a, c, h, _⟩ := o4.slice; exact ⟨a, _, c, h⟩)))
              exact ⟨⟨k + 1, a4, n4, c4, by go_num, rfl, hlt, by rw [HC.out]; exact o4, BA.out.grown g4 BA.out.size (fun j h => OA.out.blk j h)⟩, by simp [intOf, hw1]; omega⟩
          · have hd2 : decide (f ≤ t) = false := decide_eq_false hle
            have HC : Hid (clipL f t (ss.take (k + 1)) = clipL f t (ss.take k)) := by show _ = _; rw [HCT.out, if_neg hle, List.append_nil]
            clear hle
            go_wp2_with fail
            go_region
            all_goals
              go_wp2
              exact ⟨⟨k + 1, a, n8, c8, by go_num, rfl, hlt, by rw [HC.out]; exact OD1.out, BD1.out⟩, by simp [intOf, hw1]; omega⟩

        · have HY : Hid (min y t = y) := by show _ = _; omega
          rw [HX.out, HY.out] at HCT
          by_cases hle : f ≤ y
          · have hd2 : decide (f ≤ y) = true := decide_eq_true hle
            have HC : Hid (clipL f t (ss.take (k + 1)) = clipL f t (ss.take k) ++ [(f, y)]) := by show _ = _; rw [HCT.out, if_pos hle]
            have OA : Hid (OwnS (wr.alloc (.cells #[.int .i64 f, .int .i64 y] 42)).drew w.heap.size (.slice a n8 c8) (clipL f t (ss.take k))) := OD1.out.below ((Below.refl _ _).alloc (Nat.le_refl _) _)
            have RA : Hid (RdS (wr.alloc (.cells #[.int .i64 f, .int .i64 y] 42)).drew (.slice (some ⟨wr.heap.size, 0, none⟩) 1 1) [(f, y)]) := reads_built wr.drew f y
            have BA : Hid (Below w.heap.size w (wr.alloc (.cells #[.int .i64 f, .int .i64 y] 42)).drew) := BD1.out.alloc hz _
            clear hle
            go_wp2_with fail
            go_region
            all_goals
              go_wp2_with (at_builtin; ((with_reducible refine wpList_append_spans _ ?_ (.tmp 34) (.tmp 38) ?_ w.heap.size _ (clipL f t (ss.take k)) ?_ OA.out _ [(f, y)] ?_ RA.out ?_ ?_ ?_); rfl; rfl; rfl; rfl; (have := hll.out; simp; omega); (exact BA.out.size); intro v4 w4 o4 g4; obtain ⟨a4, n4, c4, rfl⟩ : ∃ a n c, v4 = .slice a n c := (by obtain ⟨a, c, h, _⟩ := o4.slice; exact ⟨a, _, c, h⟩)))
              exact ⟨⟨k + 1, a4, n4, c4, by go_num, rfl, hlt, by rw [HC.out]; exact o4, BA.out.grown g4 BA.out.size (fun j h => OA.out.blk j h)⟩, by simp [intOf, hw1]; omega⟩
          · have hd2 : decide (f ≤ y) = false := decide_eq_false hle
            have HC : Hid (clipL f t (ss.take (k + 1)) = clipL f t (ss.take k)) := by show _ = _; rw [HCT.out, if_neg hle, List.append_nil]
            clear hle
            go_wp2_with fail
            go_region
            all_goals
              go_wp2
              exact ⟨⟨k + 1, a, n8, c8, by go_num, rfl, hlt, by rw [HC.out]; exact OD1.out, BD1.out⟩, by simp [intOf, hw1]; omega⟩

      · have HX : Hid (max x f = x) := by show _ = _; omega
        by_cases h2 : t < y
        · have HY : Hid (min y t = t) := by show _ = _; omega
          rw [HX.out, HY.out] at HCT
          by_cases hle : x ≤ t
          · have hd2 : decide (x ≤ t) = true := decide_eq_true hle
            have HC : Hid (clipL f t (ss.take (k + 1)) = clipL f t (ss.take k) ++ [(x, t)]) := by show _ = _; rw [HCT.out, if_pos hle]
            have OA : Hid (OwnS (wr.alloc (.cells #[.int .i64 x, .int .i64 t] 42)).drew w.heap.size (.slice a n8 c8) (clipL f t (ss.take k))) := OD1.out.below ((Below.refl _ _).alloc (Nat.le_refl _) _)
            have RA : Hid (RdS (wr.alloc (.cells #[.int .i64 x, .int .i64 t] 42)).drew (.slice (some ⟨wr.heap.size, 0, none⟩) 1 1) [(x, t)]) := reads_built wr.drew x t
            have BA : Hid (Below w.heap.size w (wr.alloc (.cells #[.int .i64 x, .int .i64 t] 42)).drew) := BD1.out.alloc hz _
            clear hle
            go_wp2_with fail
            go_region
            all_goals
              go_wp2_with (at_builtin; ((with_reducible refine wpList_append_spans _ ?_ (.tmp 34) (.tmp 38) ?_ w.heap.size _ (clipL f t (ss.take k)) ?_ OA.out _ [(x, t)] ?_ RA.out ?_ ?_ ?_); rfl; rfl; rfl; rfl; (have := hll.out; simp; omega); (exact BA.out.size); intro v4 w4 o4 g4; obtain ⟨a4, n4, c4, rfl⟩ : ∃ a n c, v4 = .slice a n c := (by obtain ⟨a, c, h, _⟩ := o4.slice; exact ⟨a, _, c, h⟩)))
              exact ⟨⟨k + 1, a4, n4, c4, by go_num, rfl, hlt, by rw [HC.out]; exact o4, BA.out.grown g4 BA.out.size (fun j h => OA.out.blk j h)⟩, by simp [intOf, hw1]; omega⟩
          · have hd2 : decide (x ≤ t) = false := decide_eq_false hle
            have HC : Hid (clipL f t (ss.take (k + 1)) = clipL f t (ss.take k)) := by show _ = _; rw [HCT.out, if_neg hle, List.append_nil]
            clear hle
            go_wp2_with fail
            go_region
            all_goals
              go_wp2
              exact ⟨⟨k + 1, a, n8, c8, by go_num, rfl, hlt, by rw [HC.out]; exact OD1.out, BD1.out⟩, by simp [intOf, hw1]; omega⟩

        · have HY : Hid (min y t = y) := by show _ = _; omega
          rw [HX.out, HY.out] at HCT
          by_cases hle : x ≤ y
          · have hd2 : decide (x ≤ y) = true := decide_eq_true hle
            have HC : Hid (clipL f t (ss.take (k + 1)) = clipL f t (ss.take k) ++ [(x, y)]) := by show _ = _; rw [HCT.out, if_pos hle]
            have OA : Hid (OwnS (wr.alloc (.cells #[.int .i64 x, .int .i64 y] 42)).drew w.heap.size (.slice a n8 c8) (clipL f t (ss.take k))) := OD1.out.below ((Below.refl _ _).alloc (Nat.le_refl _) _)
            have RA : Hid (RdS (wr.alloc (.cells #[.int .i64 x, .int .i64 y] 42)).drew (.slice (some ⟨wr.heap.size, 0, none⟩) 1 1) [(x, y)]) := reads_built wr.drew x y
            have BA : Hid (Below w.heap.size w (wr.alloc (.cells #[.int .i64 x, .int .i64 y] 42)).drew) := BD1.out.alloc hz _
            clear hle
            go_wp2_with fail
            go_region
            all_goals
              go_wp2_with (at_builtin; ((with_reducible refine wpList_append_spans _ ?_ (.tmp 34) (.tmp 38) ?_ w.heap.size _ (clipL f t (ss.take k)) ?_ OA.out _ [(x, y)] ?_ RA.out ?_ ?_ ?_); rfl; rfl; rfl; rfl; (have := hll.out; simp; omega); (exact BA.out.size); intro v4 w4 o4 g4; obtain ⟨a4, n4, c4, rfl⟩ : ∃ a n c, v4 = .slice a n c := (by obtain ⟨a, c, h, _⟩ := o4.slice; exact ⟨a, _, c, h⟩)))
              exact ⟨⟨k + 1, a4, n4, c4, by go_num, rfl, hlt, by rw [HC.out]; exact o4, BA.out.grown g4 BA.out.size (fun j h => OA.out.blk j h)⟩, by simp [intOf, hw1]; omega⟩
          · have hd2 : decide (x ≤ y) = false := decide_eq_false hle
            have HC : Hid (clipL f t (ss.take (k + 1)) = clipL f t (ss.take k)) := by show _ = _; rw [HCT.out, if_neg hle, List.append_nil]
            clear hle
            go_wp2_with fail
            go_region
            all_goals
              go_wp2
              exact ⟨⟨k + 1, a, n8, c8, by go_num, rfl, hlt, by rw [HC.out]; exact OD1.out, BD1.out⟩, by simp [intOf, hw1]; omega⟩

    · have hk2 : k = ss.length := by omega
      have HE : Hid (ss.take k = ss) := by show _ = _; rw [hk2, List.take_length]
      clear hk2 own hbel OD BD
      go_wp2
      go_ret
      have O9 := OW.out
      rw [HE.out] at O9
      exact ⟨_, rfl, O9, HB.out⟩

end Go.Proofs.Yticbhdbpfpdofaa
