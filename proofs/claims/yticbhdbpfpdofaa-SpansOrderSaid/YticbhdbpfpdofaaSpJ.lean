/- Walks of layer 5: the document's Add. -/
import Derived.Test.YticbhdbpfpdofaaSpR1
import Derived.Test.YticbhdbpfpdofaaSpE2
set_option linter.unusedSimpArgs false
set_option linter.unusedVariables false
namespace Go.Proofs.Yticbhdbpfpdofaa
open Go.RowKit

/-- what lies below, what above -/
def PhA (w : World) (X : Nat) (rest : List (Int × Int)) (t : Int) (low high : List (Int × Int)) (v8 v9 : Value) (wr : World) : Prop :=
  (high = [] ∧ v9 = .slice none 0 0 ∧ OwnS wr (X + 1) v8 low) ∨
  (∃ w2 : World, X < w2.heap.size ∧ Below w2.heap.size w2 wr ∧ OwnS w2 (X + 1) v8 low ∧ OwnS wr w2.heap.size v9 high ∧ ∃ l, t + 1 < l ∧ riseB l rest = true)

set_option maxHeartbeats 6400000 in
theorem radd_A (b o n c : Nat) (ss : List (Int × Int)) (f t : Int) (w : World) (hr : RdS w (.slice (some ⟨b, o, none⟩) n c) ss) (h0 : ss ≠ []) (hR : rightB ss = true) (hS : spanB f t = true) :
    Calls Try.prog 18 #[.slice (some ⟨b, o, none⟩) n c, .int .i64 f, .int .i64 t] w (Gives2 (addE ss f t).1 (addE ss f t).2 w) := by
  have hft : 0 ≤ f ∧ f ≤ t ∧ t ≤ 4611686018427387903 := by simpa [spanB] using hS
  have hRi : riseB 0 ss = true ∧ ss.length ≤ 256 := by simpa [rightB, and_comm] using hR
  have HM := rright_any _ ss w hr
  rw [hR] at HM
  have HRt := Lib.hid HM
  have HR := Lib.hid hr
  have HS := Lib.hid hS
  have HE : Hid (addE ss f t = if (addR ss f t).length ≤ 256 then (addR ss f t, 0) else ([], 6)) := by show _ = _; simp [addE, hR, hS]
  have HF : Hid (foldA f t ss [] [] f t = addR ss f t) := by have := fold_eq (low := []) hft.2.1 hRi.1; show _ = _; simpa using this
  have HRi := Lib.hid hRi.1
  have hl := hRi.2
  have HB := Lib.hid (show b < w.heap.size from (by
    obtain ⟨b', o', c', e, hb⟩ := hr.form h0
    simp only [Value.slice.injEq, Option.some.injEq, Addr.mk.injEq] at e
    rw [e.1.1]; exact hb))
  obtain ⟨a', c', e', hn1, hn2⟩ := hr.isSlice
  simp only [Value.slice.injEq] at e'
  obtain ⟨rfl, rfl, rfl⟩ := e'
  have hwf : IntKind.i64.wrap (f - 1) = f - 1 := by rw [IntKind.wrap_i64]; omega
  clear HM hr hR hS hRi h0
  go_enter Try.func18, Try.ntmps18
  go_wp2_with (first
    | (go_at_call 11; refine HRt.out.mono ?_; rintro e w1 ⟨rfl, hb1⟩; have B1 := Lib.hid hb1; clear hb1)
    | (go_at_call 26; refine (rspan_b f t true _ HS.out).mono ?_; rintro e w2 ⟨rfl, hw12⟩; obtain rfl : w1 = w2 := hw12.symm))
  have z1 := B1.out.size
  go_loopw [8, 9, 11] (fun s8 s9 i wr => ∃ (k : Nat) (low high : List (Int × Int)) (x0 x1 : Int) (a8 : Option Addr) (n8 c8 : Nat) (a9 : Option Addr) (n9 c9 : Nat) (l : Int), i = .int .i64 k ∧ s8 = .slice a8 n8 c8 ∧ s9 = .slice a9 n9 c9 ∧ k ≤ ss.length ∧ low.length ≤ k ∧ high.length ≤ k ∧ Hid (foldA f t (ss.drop k) low high x0 x1 = foldA f t ss [] [] f t) ∧ OwnS wr w1.heap.size (.slice (some ⟨w1.heap.size, 0, none⟩) 1 1) [(x0, x1)] ∧ 0 ≤ l ∧ riseB l (ss.drop k) = true ∧ PhA w w1.heap.size (ss.drop k) t low high (.slice a8 n8 c8) (.slice a9 n9 c9) wr ∧ Below w.heap.size w wr ∧ w1.heap.size < wr.heap.size) (fun _ _ i _ => ss.length - (intOf i).toNat)
  case atStart => exact ⟨0, [], [], f, t, none, 0, 0, none, 0, 0, 0, rfl, rfl, rfl, Nat.zero_le _, by simp, by simp, (rfl : _ = _), owns_built w1 _ f t (Nat.le_refl _), Int.le_refl _, HRi.out, .inl ⟨rfl, rfl, OwnS.nil _ _⟩, B1.out.alloc z1 _, by simp⟩
  case round =>
    obtain ⟨k, low, high, x0, x1, a8, n8, c8, a9, n9, c9, l, rfl, rfl, rfl, hk, hll, hhl, HA, ox, hl0, hri, ph, hbel, hxw⟩ := hrel
    have OX := Lib.hid ox
    have HB2 := Lib.hid hbel
    have HRl := Lib.hid hri
    have HPh := Lib.hid ph
    have hz := hbel.size
    have cx0 : wr.cell? ⟨w1.heap.size, 0, none⟩ = some (.int .i64 x0) := ox.at0 0 (by simp)
    have cx1 : wr.cell? ⟨w1.heap.size, 1, none⟩ = some (.int .i64 x1) := ox.at1 0 (by simp)
    have fx0 : wr.frozen? ⟨w1.heap.size, 0, none⟩ = false := ox.fz 0
    have fx1 : wr.frozen? ⟨w1.heap.size, 1, none⟩ = false := ox.fz 1
    have HLL := Lib.hid (show low.length + 1 ≤ 1000 by omega)
    have HHL := Lib.hid (show high.length + 1 ≤ 1000 by omega)
    by_cases hlt : k < ss.length
    · obtain ⟨q0, q1⟩ := (HR.out.below hbel).cells rfl k hlt
      have hd : ss.drop k = ss.getD k (0, 0) :: ss.drop (k + 1) := by rw [List.drop_eq_getElem_cons hlt]; simp [List.getD, hlt]
      obtain ⟨⟨x, y⟩, hs⟩ : ∃ s, s = ss.getD k (0, 0) := ⟨_, rfl⟩
      rw [← hs] at q0 q1 hd
      simp only at q0 q1
      have HD := Lib.hid hd
      rw [hd, rise_cons] at hri
      obtain ⟨hxy, hri2⟩ := hri
      simp only at hxy hri2
      have HRi2 := Lib.hid hri2
      have hi1 : (k : Int) < (ss.length : Int) := by omega
      have hi2 : (0 : Int) ≤ (k : Int) := by omega
      have hw1 : IntKind.i64.wrap ((k : Int) + 1) = (k : Int) + 1 := wraps_i64' _ (by omega) (by omega)
      have hw2 : IntKind.i64.wrap (x - 1) = x - 1 := by rw [IntKind.wrap_i64]; omega
      have hbX : b < w1.heap.size := Nat.lt_of_lt_of_le HB.out z1
      have OXA : Hid (OwnS (wr.alloc (.cells #[.int .i64 x, .int .i64 y] 42)) w1.heap.size (.slice (some ⟨w1.heap.size, 0, none⟩) 1 1) [(x0, x1)]) := ox.below ((Below.refl _ _).alloc (Nat.le_refl _) _)
      have RA : Hid (RdS (wr.alloc (.cells #[.int .i64 x, .int .i64 y] 42)) (.slice (some ⟨wr.heap.size, 0, none⟩) 1 1) [(x, y)]) := reads_built wr x y
      have BA : Hid (Below w.heap.size w (wr.alloc (.cells #[.int .i64 x, .int .i64 y] 42))) := hbel.alloc hz _
      clear hd hs ox hbel hri2
      rcases ph with ⟨hh, h9, o8⟩ | ⟨w2, hx2, hb2, o8, o9, l2, hl2, hr2⟩
      · subst hh
        simp only [Value.slice.injEq] at h9
        obtain ⟨rfl, rfl, rfl⟩ := h9
        have O8 := Lib.hid o8
        have O8A : Hid (OwnS (wr.alloc (.cells #[.int .i64 x, .int .i64 y] 42)) (w1.heap.size + 1) (.slice a8 n8 c8) low) := o8.below ((Below.refl _ _).alloc (Nat.le_refl _) _)
        clear o8
        by_cases t1 : y < f - 1
        · have d1 : decide (y < f - 1) = true := decide_eq_true t1
          have HE2 : Hid (foldA f t (ss.drop (k + 1)) (low ++ [(x, y)]) [] x0 x1 = foldA f t ss [] [] f t) := by
            show _ = _; rw [← HA.out, HD.out, foldA, if_pos t1]
          clear t1
          go_wp2_with (at_builtin; ((with_reducible refine wpList_append_spans _ ?_ (.tmp 58) (.tmp 63) ?_ (w1.heap.size + 1) _ low ?_ O8A.out _ [(x, y)] ?_ RA.out ?_ ?_ ?_); rfl; rfl; rfl; rfl; (have := HLL.out; simp; omega); (simp; omega); intro v4 w4 o4 g4; obtain ⟨a4, n4, c4, rfl⟩ : ∃ a n c, v4 = .slice a n c := (by obtain ⟨a, c, h, _⟩ := o4.slice; exact ⟨a, _, c, h⟩)))
          exact ⟨⟨k + 1, low ++ [(x, y)], [], x0, x1, a4, n4, c4, none, 0, 0, y + 2, by go_num, rfl, rfl, hlt, by simp; omega, by simp, HE2, OXA.out.kept g4 (fun j hj e => by cases hj; exact absurd (O8A.out.blk _ e) (Nat.not_succ_le_self _)), by omega, HRi2.out, .inl ⟨rfl, rfl, o4⟩, BA.out.grown g4 BA.out.size (fun j h => by have := O8A.out.blk j h; omega), Nat.lt_of_lt_of_le hxw (Nat.le_trans (by simp) g4.size)⟩, by simp [intOf, hw1]; omega⟩
        · have d1 : decide (y < f - 1) = false := decide_eq_false t1
          by_cases t2 : t < x - 1
          · have d2 : decide (t < x - 1) = true := decide_eq_true t2
            have HE2 : Hid (foldA f t (ss.drop (k + 1)) low ([] ++ [(x, y)]) x0 x1 = foldA f t ss [] [] f t) := by
              show _ = _; rw [← HA.out, HD.out, foldA, if_neg t1, if_pos t2]
            have HT2 := Lib.hid t2
            clear t1 t2
            go_wp2_with (at_builtin; ((with_reducible refine wpList_append_spans _ ?_ (.tmp 74) (.tmp 79) ?_ (wr.heap.size + 1) _ [] ?_ (OwnS.nil _ _) _ [(x, y)] ?_ RA.out ?_ ?_ ?_); rfl; rfl; rfl; rfl; (simp); (simp); intro v4 w4 o4 g4; obtain ⟨a4, n4, c4, rfl⟩ : ∃ a n c, v4 = .slice a n c := (by obtain ⟨a, c, h, _⟩ := o4.slice; exact ⟨a, _, c, h⟩)))
            have b4 : Below (wr.alloc (.cells #[.int .i64 x, .int .i64 y] 42)).heap.size (wr.alloc (.cells #[.int .i64 x, .int .i64 y] 42)) w4 := (Below.refl _ _).grown g4 (Nat.le_refl _) (fun j h => by cases h)
            exact ⟨⟨k + 1, low, [] ++ [(x, y)], x0, x1, a8, n8, c8, a4, n4, c4, y + 2, by go_num, rfl, rfl, hlt, by omega, by simp, HE2, OXA.out.below b4, by omega, HRi2.out, .inr ⟨_, by simp; omega, b4, O8A.out, by rw [World.size_alloc]; exact o4, y + 2, by have := HT2.out; omega, HRi2.out⟩, BA.out.trans (b4.mono BA.out.size), Nat.lt_of_lt_of_le hxw (Nat.le_trans (by simp) g4.size)⟩, by simp [intOf, hw1]; omega⟩
          · have d2 : decide (t < x - 1) = false := decide_eq_false t2
            have HE2 : Hid (foldA f t (ss.drop (k + 1)) low [] (min x0 x) (max x1 y) = foldA f t ss [] [] f t) := by
              show _ = _; rw [← HA.out, HD.out, foldA, if_neg t1, if_neg t2]
            clear t1 t2
            have hbx : Hid (b ≠ w1.heap.size) := by show _ ≠ _; omega
            have hbx' := hbx.out
            have hbx2 := hbx.out.symm
            have STORE : ∀ u m : Int, OwnS ((wr.setCell ⟨w1.heap.size, 0, none⟩ (.int .i64 u)).setCell ⟨w1.heap.size, 1, none⟩ (.int .i64 m)).drew w1.heap.size (.slice (some ⟨w1.heap.size, 0, none⟩) 1 1) [(u, m)] ∧
                OwnS ((wr.setCell ⟨w1.heap.size, 0, none⟩ (.int .i64 u)).setCell ⟨w1.heap.size, 1, none⟩ (.int .i64 m)).drew (w1.heap.size + 1) (.slice a8 n8 c8) low ∧
                Below w.heap.size w ((wr.setCell ⟨w1.heap.size, 0, none⟩ (.int .i64 u)).setCell ⟨w1.heap.size, 1, none⟩ (.int .i64 m)).drew ∧
                w1.heap.size < ((wr.setCell ⟨w1.heap.size, 0, none⟩ (.int .i64 u)).setCell ⟨w1.heap.size, 1, none⟩ (.int .i64 m)).drew.heap.size := fun u m => by
              have bS : Below w.heap.size w ((wr.setCell ⟨w1.heap.size, 0, none⟩ (.int .i64 u)).setCell ⟨w1.heap.size, 1, none⟩ (.int .i64 m)).drew := below_drewN ((HB2.out.setCell z1 _).setCell z1 _) 1
              have gS : wr.grownBy ((wr.setCell ⟨w1.heap.size, 0, none⟩ (.int .i64 u)).setCell ⟨w1.heap.size, 1, none⟩ (.int .i64 m)).drew (some w1.heap.size) := grownBy_drewN (grownBy_set (grownBy_set (World.grownBy.refl _ _) ⟨w1.heap.size, 0, none⟩ _ (.inl rfl)) ⟨w1.heap.size, 1, none⟩ _ (.inl rfl)) 1
              refine ⟨OX.out.set 0 u m, O8.out.kept gS (fun j hj e => ?_), bS, Nat.lt_of_lt_of_le hxw gS.size⟩
              cases e
              exact absurd (O8.out.blk _ hj) (Nat.not_succ_le_self _)
            have ST := Lib.hid STORE
            clear STORE
            by_cases h1 : x < x0
            · by_cases h2 : x1 < y
              · rw [show min x0 x = x by omega, show max x1 y = y by omega] at HE2
                go_wp2_with fail
                go_region
                all_goals
                  go_wp2
                  exact ⟨⟨k + 1, low, [], x, y, a8, n8, c8, none, 0, 0, y + 2, by go_num, rfl, rfl, hlt, by omega, by simp, HE2, (ST.out x y).1, by omega, HRi2.out, .inl ⟨rfl, rfl, (ST.out x y).2.1⟩, (ST.out x y).2.2.1, (ST.out x y).2.2.2⟩, by simp [intOf, hw1]; omega⟩
              · rw [show min x0 x = x by omega, show max x1 y = x1 by omega] at HE2
                go_wp2_with fail
                go_region
                all_goals
                  go_wp2
                  exact ⟨⟨k + 1, low, [], x, x1, a8, n8, c8, none, 0, 0, y + 2, by go_num, rfl, rfl, hlt, by omega, by simp, HE2, (ST.out x x1).1, by omega, HRi2.out, .inl ⟨rfl, rfl, (ST.out x x1).2.1⟩, (ST.out x x1).2.2.1, (ST.out x x1).2.2.2⟩, by simp [intOf, hw1]; omega⟩
            · by_cases h2 : x1 < y
              · rw [show min x0 x = x0 by omega, show max x1 y = y by omega] at HE2
                go_wp2_with fail
                go_region
                all_goals
                  go_wp2
                  exact ⟨⟨k + 1, low, [], x0, y, a8, n8, c8, none, 0, 0, y + 2, by go_num, rfl, rfl, hlt, by omega, by simp, HE2, (ST.out x0 y).1, by omega, HRi2.out, .inl ⟨rfl, rfl, (ST.out x0 y).2.1⟩, (ST.out x0 y).2.2.1, (ST.out x0 y).2.2.2⟩, by simp [intOf, hw1]; omega⟩
              · rw [show min x0 x = x0 by omega, show max x1 y = x1 by omega] at HE2
                go_wp2_with fail
                go_region
                all_goals
                  go_wp2
                  exact ⟨⟨k + 1, low, [], x0, x1, a8, n8, c8, none, 0, 0, y + 2, by go_num, rfl, rfl, hlt, by omega, by simp, HE2, (ST.out x0 x1).1, by omega, HRi2.out, .inl ⟨rfl, rfl, (ST.out x0 x1).2.1⟩, (ST.out x0 x1).2.2.1, (ST.out x0 x1).2.2.2⟩, by simp [intOf, hw1]; omega⟩
      · have hx2l : l2 ≤ x := by
          have := HD.out
          rw [this, rise_cons] at hr2
          exact hr2.1.1
        have t1 : ¬ y < f - 1 := by omega
        have t2 : t < x - 1 := by omega
        have d1 : decide (y < f - 1) = false := decide_eq_false t1
        have d2 : decide (t < x - 1) = true := decide_eq_true t2
        have HE2 : Hid (foldA f t (ss.drop (k + 1)) low (high ++ [(x, y)]) x0 x1 = foldA f t ss [] [] f t) := by
          show _ = _; rw [← HA.out, HD.out, foldA, if_neg t1, if_pos t2]
        have O8 := Lib.hid o8
        have O9A : Hid (OwnS (wr.alloc (.cells #[.int .i64 x, .int .i64 y] 42)) w2.heap.size (.slice a9 n9 c9) high) := o9.below ((Below.refl _ _).alloc (Nat.le_refl _) _)
        have B2A : Hid (Below w2.heap.size w2 (wr.alloc (.cells #[.int .i64 x, .int .i64 y] 42))) := hb2.alloc hb2.size _
        have HT2 : Hid (t + 1 < y + 2) := by show _ < _; omega
        clear o8 o9 hr2 t1 t2 hb2
        go_wp2_with (at_builtin; ((with_reducible refine wpList_append_spans _ ?_ (.tmp 74) (.tmp 79) ?_ w2.heap.size _ high ?_ O9A.out _ [(x, y)] ?_ RA.out ?_ ?_ ?_); rfl; rfl; rfl; rfl; (have := HHL.out; simp; omega); (exact B2A.out.size); intro v4 w4 o4 g4; obtain ⟨a4, n4, c4, rfl⟩ : ∃ a n c, v4 = .slice a n c := (by obtain ⟨a, c, h, _⟩ := o4.slice; exact ⟨a, _, c, h⟩)))
        have b4 : Below w2.heap.size w2 w4 := B2A.out.grown g4 B2A.out.size (fun j h => O9A.out.blk j h)
        exact ⟨⟨k + 1, low, high ++ [(x, y)], x0, x1, a8, n8, c8, a4, n4, c4, y + 2, by go_num, rfl, rfl, hlt, by omega, by simp; omega, HE2, OXA.out.kept g4 (fun j hj e => by cases hj; exact absurd (O9A.out.blk _ e) (Nat.not_le_of_lt hx2)), by omega, HRi2.out, .inr ⟨w2, hx2, b4, O8.out, o4, y + 2, HT2.out, HRi2.out⟩, BA.out.grown g4 BA.out.size (fun j h => Nat.le_trans (Nat.le_of_lt (Nat.lt_of_le_of_lt z1 hx2)) (O9A.out.blk j h)), Nat.lt_of_lt_of_le hxw (Nat.le_trans (by simp) g4.size)⟩, by simp [intOf, hw1]; omega⟩
    · have hk2 : k = ss.length := by omega
      have HL : Hid (low ++ (x0, x1) :: high = addR ss f t) := by
        show _ = _
        rw [← HF.out, ← HA.out, hk2, List.drop_length]; rfl
      have RA : Hid (RdS (wr.alloc (.cells #[.int .i64 x0, .int .i64 x1] 42)) (.slice (some ⟨wr.heap.size, 0, none⟩) 1 1) [(x0, x1)]) := reads_built wr x0 x1
      have BA : Hid (Below w.heap.size w (wr.alloc (.cells #[.int .i64 x0, .int .i64 x1] 42))) := hbel.alloc hz _
      have O8A : Hid (OwnS (wr.alloc (.cells #[.int .i64 x0, .int .i64 x1] 42)) (w1.heap.size + 1) (.slice a8 n8 c8) low) := by
        rcases ph with ⟨_, _, o8⟩ | ⟨w2, hx2, hb2, o8, o9, l2, hl2, hr2⟩
        · exact o8.below ((Below.refl _ _).alloc (Nat.le_refl _) _)
        · exact o8.below (hb2.alloc hb2.size _)
      have RH : Hid (∀ w4, (wr.alloc (.cells #[.int .i64 x0, .int .i64 x1] 42)).grownBy w4 (Value.slice a8 n8 c8).ownBlock → RdS w4 (.slice a9 n9 c9) high) := fun w4 g4 => by
        rcases ph with ⟨rfl, h9, o8⟩ | ⟨w2, hx2, hb2, o8, o9, l2, hl2, hr2⟩
        · rw [h9]; exact RdS.nil _
        · have o9A := o9.below ((Below.refl _ _).alloc (Nat.le_refl _) (.cells #[.int .i64 x0, .int .i64 x1] 42))
          exact o9A.rd.kept g4 (fun j hj e => by have h1 := o8.blt j e; have h2 := o9A.blk j hj; omega)
      have hwl : low.length + high.length ≤ 600 := by omega
      have HWL := Lib.hid hwl
      clear hk2 ph hbel ox hri hwl hll hhl
      go_wp2_with (at_builtin; (first
        | ((with_reducible refine wpList_append_spans _ ?_ (.tmp 81) (.tmp 83) ?_ (w1.heap.size + 1) _ low ?_ O8A.out _ [(x0, x1)] ?_ RA.out ?_ ?_ ?_); rfl; rfl; rfl; rfl; (have := HWL.out; simp; omega); (simp; omega); intro v4 w4 o4 g4; have O4 := Lib.hid o4; have R4 := Lib.hid (RH.out w4 g4); have B4 := Lib.hid (BA.out.grown g4 BA.out.size (fun j h => by have := O8A.out.blk j h; omega)); have z4 := Lib.hid g4.size; clear o4 g4)
        | ((with_reducible refine wpList_append_spans _ ?_ (.tmp 84) (.tmp 85) ?_ (w1.heap.size + 1) _ (low ++ [(x0, x1)]) ?_ O4.out _ high ?_ R4.out ?_ ?_ ?_); rfl; rfl; rfl; rfl; (have := HWL.out; simp; omega); (have := z4.out; simp at this; omega); intro v5 w5 o5 g5; rw [List.append_assoc, List.singleton_append, HL.out] at o5; obtain ⟨a5, c5, rfl, h51, h52⟩ := o5.slice; have O5 := Lib.hid o5; have B5 := Lib.hid (B4.out.grown g5 B4.out.size (fun j h => by have := O4.out.blk j h; omega)); clear o5 g5 h51 h52; generalize hN : (addR ss f t).length = N; have HN := Lib.hid hN; clear hN; by_cases hlen : N ≤ 256)))
      · have t1 : decide (256 < (N : Int)) = false := decide_eq_false (by omega)
        have HE2 : Hid (addE ss f t = (addR ss f t, 0)) := by show _ = _; rw [HE.out, if_pos (by rw [HN.out]; exact hlen)]
        clear hlen
        go_wp2
        go_ret2
        rw [HE2.out]
        exact ⟨_, rfl, by have := O5.out; rw [HN.out] at this; exact this.mono (by omega), B5.out⟩
      · have t1 : decide (256 < (N : Int)) = true := decide_eq_true (by omega)
        have HE2 : Hid (addE ss f t = ([], 6)) := by show _ = _; rw [HE.out, if_neg (by rw [HN.out]; exact hlen)]
        clear hlen
        go_wp2
        go_ret2
        rw [HE2.out]
        exact ⟨_, rfl, OwnS.nil _ _, B5.out⟩

set_option maxHeartbeats 1600000 in
theorem radd_B (v : Value) (f t : Int) (w : World) (hr : RdS w v []) (hS : spanB f t = true) :
    Calls Try.prog 18 #[v, .int .i64 f, .int .i64 t] w (Gives2 [(f, t)] 0 w) := by
  have HM := rright_any _ [] w hr
  rw [show rightB [] = true from rfl] at HM
  have HRt := Lib.hid HM
  have HS := Lib.hid hS
  obtain ⟨va, c, rfl, _, _⟩ := hr.isSlice
  clear HM hr hS
  go_enter Try.func18, Try.ntmps18
  go_wp2_with (first
    | (go_at_call 11; refine HRt.out.mono ?_; rintro e w1 ⟨rfl, hb1⟩; have B1 := Lib.hid hb1; clear hb1)
    | (go_at_call 26; refine (rspan_b f t true _ HS.out).mono ?_; rintro e w2 ⟨rfl, hw12⟩; obtain rfl : w1 = w2 := hw12.symm))
  have z1 := B1.out.size
  have cx0 : (w1.alloc (.cells #[.int .i64 f, .int .i64 t] 42)).cell? ⟨w1.heap.size, 0, none⟩ = some (.int .i64 f) := by rw [World.cell?_alloc_at _ _ _ _ rfl]; rfl
  have cx1 : (w1.alloc (.cells #[.int .i64 f, .int .i64 t] 42)).cell? ⟨w1.heap.size, 1, none⟩ = some (.int .i64 t) := by rw [World.cell?_alloc_at _ _ _ _ rfl]; rfl
  have hW : Below w.heap.size w (w1.alloc (.cells #[.int .i64 f, .int .i64 t] 42)) := B1.out.alloc z1 _
  generalize (w1.alloc (.cells #[.int .i64 f, .int .i64 t] 42)) = W at cx0 cx1 hW ⊢
  have HW := Lib.hid hW
  clear hW
  refine wp_loop_rounds 1 ?_
  rw [rounds_succ]
  have RA : Hid (RdS (W.alloc (.cells #[.int .i64 f, .int .i64 t] 42)) (.slice (some ⟨W.heap.size, 0, none⟩) 1 1) [(f, t)]) := reads_built W f t
  have BA : Hid (Below w.heap.size w (W.alloc (.cells #[.int .i64 f, .int .i64 t] 42))) := HW.out.alloc HW.out.size _
  go_wp2_with (at_builtin; (first
    | ((with_reducible refine wpList_append_spans _ ?_ (.tmp 81) (.tmp 83) ?_ w.heap.size _ [] ?_ (OwnS.nil _ _) _ [(f, t)] ?_ RA.out ?_ ?_ ?_); rfl; rfl; rfl; rfl; (simp); (exact BA.out.size); intro v4 w4 o4 g4; have O4 := Lib.hid o4; have B4 := Lib.hid (BA.out.grown g4 BA.out.size (fun j h => by cases h)); clear o4 g4)
    | ((with_reducible refine wpList_append_spans _ ?_ (.tmp 84) (.tmp 85) ?_ w.heap.size _ ([] ++ [(f, t)]) ?_ O4.out _ [] ?_ (RdS.nil _) ?_ ?_ ?_); rfl; rfl; rfl; rfl; (simp); (exact B4.out.size); intro v5 w5 o5 g5; obtain ⟨a5, c5, rfl, h51, h52⟩ := o5.slice; have O5 := Lib.hid o5; have B5 := Lib.hid (B4.out.grown g5 B4.out.size (fun j h => O4.out.blk j h)); clear o5 g5 h51 h52)))
  go_ret2
  exact ⟨_, rfl, O5.out, B5.out⟩

theorem radd_any (v : Value) (ss : List (Int × Int)) (f t : Int) (w : World) (hr : RdS w v ss) :
    Calls Try.prog 18 #[v, .int .i64 f, .int .i64 t] w (Gives2 (addE ss f t).1 (addE ss f t).2 w) := by
  by_cases h : (rightB ss && spanB f t) = true
  · obtain ⟨hR, hS⟩ := Bool.and_eq_true_iff.1 h
    by_cases h0 : ss = []
    · subst h0
      have HE : addE [] f t = ([(f, t)], 0) := by simp [addE, hS, addR, show rightB [] = true from rfl]
      rw [HE]
      exact radd_B v f t w hr hS
    · obtain ⟨b, o, c, rfl, _⟩ := hr.form h0
      exact radd_A b o _ c ss f t w hr h0 hR hS
  · have HE : Hid (addE ss f t = ([], 1)) := by show _ = _; rw [addE, if_neg h]
    have HM := rright_any _ ss w hr
    obtain ⟨a, c, rfl, _, _⟩ := hr.isSlice
    rw [HE.out]
    by_cases hR : rightB ss = true
    · rw [hR] at HM h
      rw [Bool.true_and] at h
      have HRt := Lib.hid HM
      have HS := Lib.hid (Bool.eq_false_iff.2 h)
      clear HM hr hR h
      go_enter Try.func18, Try.ntmps18
      go_wp2_with (first
        | (go_at_call 11; refine HRt.out.mono ?_; rintro e w1 ⟨rfl, hb1⟩)
        | (go_at_call 26; refine (rspan_b f t false _ HS.out).mono ?_; rintro e w2 ⟨rfl, rfl⟩))
      go_ret2
      exact ⟨_, rfl, OwnS.nil _ _, hb1⟩
    · rw [Bool.eq_false_iff.2 hR] at HM
      have HRt := Lib.hid HM
      clear HM hr hR h
      go_enter Try.func18, Try.ntmps18
      go_wp2_with (go_at_call 11; refine HRt.out.mono ?_; rintro e w1 ⟨rfl, hb1⟩)
      go_ret2
      exact ⟨_, rfl, OwnS.nil _ _, hb1⟩
end Go.Proofs.Yticbhdbpfpdofaa
