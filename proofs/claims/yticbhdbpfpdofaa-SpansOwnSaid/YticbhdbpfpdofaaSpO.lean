/- The law of layer 5: Own. -/
import Derived.Test.YticbhdbpfpdofaaSpL
set_option linter.unusedSimpArgs false
set_option linter.unusedVariables false
namespace Go.Proofs.Yticbhdbpfpdofaa
open Go.RowKit

theorem OwnS.shape {w : World} {B n c : Nat} {a : Option Addr} {l : List (Int × Int)} (h : OwnS w B (.slice a n c) l) (hn : 0 < n) : ∃ g, a = some ⟨g, 0, none⟩ := by
  rcases h.2 with ⟨q, h0⟩ | ⟨g', cap', cur, q, _⟩
  · simp only [Value.slice.injEq] at q; omega
  · simp only [Value.slice.injEq] at q; exact ⟨g', q.1⟩

/-- three rows of the call's own, each with its own block, from the k-th on as they were -/
def Rows3 (P : Nat) (V : Nat → Value) (L : Nat → List (Int × Int)) (Bb : Nat → Nat) (k : Nat) (wr : World) : Prop :=
  (∀ j, k ≤ j → j < 3 → OwnS wr (Bb j) (V j) (L j)) ∧ (∀ j, j < 3 → wr.cell? ⟨P, j, none⟩ = some (V j)) ∧ P < wr.heap.size
theorem Rows3.step {P : Nat} {V : Nat → Value} {L : Nat → List (Int × Int)} {Bb : Nat → Nat} {k : Nat} {wr w' : World} {q : Option Nat} (h : Rows3 P V L Bb (k + 1) wr) (hk : k < 3) (hV : ∀ j, j < 3 → ∀ g, (V j).ownBlock = some g → Bb j ≤ g ∧ g < Bb (j + 1))
    (hm : ∀ i j, i ≤ j → j ≤ 3 → Bb i ≤ Bb j) (hP : Bb 3 ≤ P) (hq : q = (V k).ownBlock) (hg : wr.grownBy w' q) : Rows3 P V L Bb (k + 1) w' := by
  obtain ⟨h1, h2, h3⟩ := h
  refine ⟨fun j hj hj3 => (h1 j hj hj3).kept hg fun g hgj e => ?_, fun j hj => hg.cell (h2 j hj) fun e => ?_, Nat.lt_of_lt_of_le h3 hg.size⟩
  · rw [hq] at e
    have q1 := (hV k hk g e).2
    have q2 := (hV j hj3 g hgj).1
    have := hm (k + 1) j hj (by omega)
    omega
  · rw [hq] at e
    have q1 := (hV k hk P e.symm).2
    have := hm (k + 1) 3 (by omega) (by omega)
    omega
theorem Rows3.weak {P : Nat} {V : Nat → Value} {L : Nat → List (Int × Int)} {Bb : Nat → Nat} {k : Nat} {wr : World} (h : Rows3 P V L Bb k wr) : Rows3 P V L Bb (k + 1) wr :=
  ⟨fun j hj hj3 => h.1 j (by omega) hj3, h.2⟩

set_option maxHeartbeats 6400000 in
theorem spansOwn_walk (v : Value) (ss : List (Int × Int)) (f t : Int) (w : World) (hr : RdS w v ss) (hl : ss.length ≤ 8796093021952) :
    Calls Try.prog 9 #[v, .agg #[.int .i64 f, .int .i64 t]] w (Yes w) := by
  obtain ⟨va, c, rfl, _, _⟩ := hr.isSlice
  have B1 := Lib.hid ((Below.refl w.heap.size w).alloc (Nat.le_refl _) (.cells #[.int .i64 f, .int .i64 t] 34))
  have R1 := Lib.hid (hr.below B1.out)
  generalize hq1 : addE ss f t = q1
  generalize hq2 : takeE ss f t = q2
  generalize hq3 : topE ss 2 = q3
  obtain ⟨l1, c1⟩ := q1
  obtain ⟨l2, c2⟩ := q2
  obtain ⟨l3, c3⟩ := q3
  have HQ1 := Lib.hid hq1
  have HQ2 := Lib.hid hq2
  have HQ3 := Lib.hid hq3
  have x0 : (w.alloc (.cells #[.int .i64 f, .int .i64 t] 34)).cell? ⟨w.heap.size, 0, none⟩ = some (.int .i64 f) := by rw [World.cell?_alloc_at _ _ _ _ rfl]; rfl
  have x1 : (w.alloc (.cells #[.int .i64 f, .int .i64 t] 34)).cell? ⟨w.heap.size, 1, none⟩ = some (.int .i64 t) := by rw [World.cell?_alloc_at _ _ _ _ rfl]; rfl
  have hx : w.heap.size < (w.alloc (.cells #[.int .i64 f, .int .i64 t] 34)).heap.size := by simp
  have HL := Lib.hid hl
  clear hr hq1 hq2 hq3
  go_enter Try.func9, Try.ntmps9
  go_wp2_with (at_builtin; ((with_reducible refine wpList_append_spans _ ?_ (.const (.slice none 0 0)) (.tmp 19) ?_ (w.heap.size + 1) _ [] ?_ (OwnS.nil _ _) _ ss ?_ R1.out ?_ ?_ ?_); rfl; rfl; rfl; rfl; (have := HL.out; simp; omega); (simp); intro v2 w2 o2 g2; rw [List.nil_append] at o2; have hb2 : Below (w.alloc (.cells #[.int .i64 f, .int .i64 t] 34)).heap.size (w.alloc (.cells #[.int .i64 f, .int .i64 t] 34)) w2 := (Below.refl _ _).grown g2 (Nat.le_refl _) (fun j h => by cases h); have y0 : w2.cell? ⟨w.heap.size, 0, none⟩ = some (.int .i64 f) := (hb2.cell (p := ⟨w.heap.size, 0, none⟩) hx).trans x0; have y1 : w2.cell? ⟨w.heap.size, 1, none⟩ = some (.int .i64 t) := (hb2.cell (p := ⟨w.heap.size, 1, none⟩) hx).trans x1; have hy : w.heap.size < w2.heap.size := Nat.lt_of_lt_of_le hx hb2.size; have L2 := Lib.hid (R1.out.below hb2); have U2 := Lib.hid o2.rd; have BB2 := Lib.hid (B1.out.trans (hb2.mono B1.out.size)); obtain ⟨a2, n2, c2', rfl⟩ : ∃ a n c, v2 = .slice a n c := (by obtain ⟨a, c, h, _⟩ := o2.slice; exact ⟨a, _, c, h⟩); clear o2 g2 hb2))
  go_wp2_with fail
  refine (add_any _ ss f t _ L2.out).mono ?_
  rw [HQ1.out]
  rintro e w3 ⟨v3, rfl, o3, hb3⟩
  have BB3 := Lib.hid (BB2.out.trans (hb3.mono BB2.out.size))
  have L3 := Lib.hid (L2.out.below hb3)
  have U3 := Lib.hid (U2.out.below hb3)
  have cc3_0 : w3.cell? ⟨w.heap.size, 0, none⟩ = some (.int .i64 f) := (hb3.cell (p := ⟨w.heap.size, 0, none⟩) hy).trans y0
  have cc3_1 : w3.cell? ⟨w.heap.size, 1, none⟩ = some (.int .i64 t) := (hb3.cell (p := ⟨w.heap.size, 1, none⟩) hy).trans y1
  have hbk3 : w.heap.size < w3.heap.size := (Nat.lt_of_lt_of_le hy hb3.size)
  have hz3 := hb3.size
  have HBl3 := Lib.hid hb3
  clear hb3
  obtain ⟨a3, n3, c3', rfl⟩ : ∃ a n c, v3 = .slice a n c := by obtain ⟨a, c, h, _⟩ := o3.slice; exact ⟨a, _, c, h⟩
  have A3 := Lib.hid o3
  clear o3
  go_wp2_with fail
  refine (take_any _ ss f t _ L3.out).mono ?_
  rw [HQ2.out]
  rintro e w4 ⟨v4, rfl, o4, hb4⟩
  have BB4 := Lib.hid (BB3.out.trans (hb4.mono BB3.out.size))
  have L4 := Lib.hid (L3.out.below hb4)
  have U4 := Lib.hid (U3.out.below hb4)
  have A4 := Lib.hid (A3.out.below hb4)
  have cc4_0 : w4.cell? ⟨w.heap.size, 0, none⟩ = some (.int .i64 f) := (hb4.cell (p := ⟨w.heap.size, 0, none⟩) hbk3).trans cc3_0
  have cc4_1 : w4.cell? ⟨w.heap.size, 1, none⟩ = some (.int .i64 t) := (hb4.cell (p := ⟨w.heap.size, 1, none⟩) hbk3).trans cc3_1
  have hbk4 : w.heap.size < w4.heap.size := (Nat.lt_of_lt_of_le hbk3 hb4.size)
  have hz4 := hb4.size
  have HBl4 := Lib.hid hb4
  clear hb4
  obtain ⟨a4, n4, c4', rfl⟩ : ∃ a n c, v4 = .slice a n c := by obtain ⟨a, c, h, _⟩ := o4.slice; exact ⟨a, _, c, h⟩
  have C4 := Lib.hid o4
  clear o4
  go_wp2_with fail
  refine (top_any _ ss 2 _ L4.out (by decide)).mono ?_
  rw [HQ3.out]
  rintro e w5 ⟨v5, rfl, o5, hb5⟩
  have BB5 := Lib.hid (BB4.out.trans (hb5.mono BB4.out.size))
  have L5 := Lib.hid (L4.out.below hb5)
  have U5 := Lib.hid (U4.out.below hb5)
  have A5 := Lib.hid (A4.out.below hb5)
  have C5 := Lib.hid (C4.out.below hb5)
  have cc5_0 : w5.cell? ⟨w.heap.size, 0, none⟩ = some (.int .i64 f) := (hb5.cell (p := ⟨w.heap.size, 0, none⟩) hbk4).trans cc4_0
  have cc5_1 : w5.cell? ⟨w.heap.size, 1, none⟩ = some (.int .i64 t) := (hb5.cell (p := ⟨w.heap.size, 1, none⟩) hbk4).trans cc4_1
  have hbk5 : w.heap.size < w5.heap.size := (Nat.lt_of_lt_of_le hbk4 hb5.size)
  have hz5 := hb5.size
  have HBl5 := Lib.hid hb5
  clear hb5
  obtain ⟨a5, n5, c5', rfl⟩ : ∃ a n c, v5 = .slice a n c := by obtain ⟨a, c, h, _⟩ := o5.slice; exact ⟨a, _, c, h⟩
  have D5 := Lib.hid o5
  clear o5
  -- the rows are written over
  obtain ⟨V, hV⟩ : ∃ V : Nat → Value, V = fun k => if k = 0 then .slice a3 n3 c3' else if k = 1 then .slice a4 n4 c4' else .slice a5 n5 c5' := ⟨_, rfl⟩
  obtain ⟨LL, hLL⟩ : ∃ LL : Nat → List (Int × Int), LL = fun k => if k = 0 then l1 else if k = 1 then l2 else l3 := ⟨_, rfl⟩
  obtain ⟨Bb, hBb⟩ : ∃ Bb : Nat → Nat, Bb = fun k => if k = 0 then w2.heap.size else if k = 1 then w3.heap.size else if k = 2 then w4.heap.size else w5.heap.size := ⟨_, rfl⟩
  have OA : Hid (OwnS w5 w2.heap.size (.slice a3 n3 c3') l1) := A5.out
  have OC : Hid (OwnS w5 w3.heap.size (.slice a4 n4 c4') l2) := C5.out
  have OD : Hid (OwnS w5 w4.heap.size (.slice a5 n5 c5') l3) := D5.out
  have HV : Hid (∀ j, j < 3 → ∀ g, (V j).ownBlock = some g → Bb j ≤ g ∧ g < Bb (j + 1)) := fun j hj g hg => by
    rcases (show j = 0 ∨ j = 1 ∨ j = 2 by omega) with rfl | rfl | rfl
    · rw [hV] at hg; rw [hBb]; exact ⟨OA.out.blk g hg, A3.out.blt g hg⟩
    · rw [hV] at hg; rw [hBb]; exact ⟨OC.out.blk g hg, C4.out.blt g hg⟩
    · rw [hV] at hg; rw [hBb]; exact ⟨OD.out.blk g hg, D5.out.blt g hg⟩
  have HM : Hid (∀ i j, i ≤ j → j ≤ 3 → Bb i ≤ Bb j) := fun i j hij hj => by
    rw [hBb]
    rcases (show j = 0 ∨ j = 1 ∨ j = 2 ∨ j = 3 by omega) with rfl | rfl | rfl | rfl <;> rcases (show i = 0 ∨ i = 1 ∨ i = 2 ∨ i = 3 by omega) with rfl | rfl | rfl | rfl <;> simp <;> omega
  have HP : Hid (Bb 3 ≤ w5.heap.size) := by show _ ≤ _; rw [hBb]; simp
  have B25 : Hid (Below w2.heap.size w2 w5) := HBl3.out.trans ((HBl4.out.mono hz3).trans (HBl5.out.mono (Nat.le_trans hz3 hz4)))
  have HB0 : Hid (w2.heap.size ≤ Bb 0) := by show _ ≤ _; rw [hBb]; simp
  have R0 : Hid (Rows3 w5.heap.size V LL Bb 0 (w5.alloc (.cells #[.slice a3 n3 c3', .slice a4 n4 c4', .slice a5 n5 c5'] 22))) := by
    refine ⟨fun j _ hj => ?_, fun j hj => ?_, by simp⟩
    · refine OwnS.below (w := w5) ?_ ((Below.refl _ _).alloc (Nat.le_refl _) _)
      rcases (show j = 0 ∨ j = 1 ∨ j = 2 by omega) with rfl | rfl | rfl
      · rw [hV, hBb, hLL]; exact OA.out
      · rw [hV, hBb, hLL]; exact OC.out
      · rw [hV, hBb, hLL]; exact OD.out
    · rw [World.cell?_alloc_at _ _ _ _ rfl]
      rcases (show j = 0 ∨ j = 1 ∨ j = 2 by omega) with rfl | rfl | rfl <;> rw [hV] <;> rfl
  have B26 : Hid (Below w2.heap.size w2 (w5.alloc (.cells #[.slice a3 n3 c3', .slice a4 n4 c4', .slice a5 n5 c5'] 22))) := B25.out.alloc B25.out.size _
  have HSl : Hid (∀ j, ∃ a n c, V j = .slice a n c) := fun j => by
    rw [hV]
    by_cases h0 : j = 0
    · exact ⟨a3, n3, c3', by simp [h0]⟩
    · by_cases h1 : j = 1
      · exact ⟨a4, n4, c4', by simp [h1]⟩
      · exact ⟨a5, n5, c5', by simp [h0, h1]⟩
  have HLn : Hid (∀ j, (LL j).length ≤ 257) := fun j => by
    have q1 : l1.length ≤ 257 := by
      have := HQ1.out
      unfold addE at this
      split at this
      · split at this
        · simp only [Prod.mk.injEq] at this; rw [← this.1]; omega
        · simp only [Prod.mk.injEq] at this; rw [← this.1]; simp
      · simp only [Prod.mk.injEq] at this; rw [← this.1]; simp
    have q2 : l2.length ≤ 257 := by
      have := HQ2.out
      unfold takeE at this
      split at this
      · split at this
        · simp only [Prod.mk.injEq] at this; rw [← this.1]; omega
        · simp only [Prod.mk.injEq] at this; rw [← this.1]; simp
      · simp only [Prod.mk.injEq] at this; rw [← this.1]; simp
    have q3 : l3.length ≤ 257 := by
      have := HQ3.out
      unfold topE at this
      split at this
      · rename_i h
        have hRi : riseB 0 ss = true ∧ ss.length ≤ 256 := by simpa [rightB, and_comm] using h.1
        simp only [Prod.mk.injEq] at this; rw [← this.1, List.length_drop]; omega
      · simp only [Prod.mk.injEq] at this; rw [← this.1]; simp
    rw [hLL]
    by_cases h0 : j = 0
    · simp [h0, q1]
    · by_cases h1 : j = 1
      · simp [h1, q2]
      · simp [h0, h1, q3]
  clear hV hLL hBb cc3_0 cc3_1 cc4_0 cc4_1 cc5_0 cc5_1
  go_wp2_with fail
  go_loopw [49] (fun i wr => ∃ k : Nat, i = .int .i64 k ∧ k ≤ 3 ∧ Rows3 w5.heap.size V LL Bb k wr ∧ Below w2.heap.size w2 wr) (fun i _ => 3 - (intOf i).toNat)
  case atStart => exact ⟨0, rfl, Nat.zero_le _, R0.out, B26.out⟩
  case round =>
    obtain ⟨k, rfl, hk, rows, hbel⟩ := hrel
    have ROW := Lib.hid rows
    have HBel := Lib.hid hbel
    by_cases hlt : k < 3
    · obtain ⟨a, n, cc, hVk⟩ := HSl.out k
      have hcell := rows.2.1 k hlt
      rw [hVk] at hcell
      have ok := rows.1 k (Nat.le_refl _) hlt
      rw [hVk] at ok
      obtain ⟨_, _, en, hn1, hn2⟩ := ok.slice
      simp only [Value.slice.injEq] at en
      have OK := Lib.hid ok
      have HVk := Lib.hid hVk
      have hln := HLn.out k
      have HN := Lib.hid en.2.1
      have hnn : n ≤ 257 := by rw [en.2.1]; exact hln
      have HW := Lib.hid (ROW.out.weak)
      have hi1 : (k : Int) < 3 := by omega
      have hw1 : IntKind.i64.wrap ((k : Int) + 1) = (k : Int) + 1 := wraps_i64' _ (by omega) (by omega)
      clear hVk ok en rows hbel hn1 hn2 hln
      go_wp2_with fail
      go_loopw [55] (fun i wi => ∃ (j : Nat) (l : List (Int × Int)), i = .int .i64 j ∧ j ≤ n ∧ l.length = n ∧ OwnS wi (Bb k) (.slice a n cc) l ∧ Rows3 w5.heap.size V LL Bb (k + 1) wi ∧ Below w2.heap.size w2 wi) (fun i _ => n - (intOf i).toNat)
      case atStart => exact ⟨0, LL k, rfl, Nat.zero_le _, HN.out.symm, OK.out, HW.out, HBel.out⟩
      case round =>
        obtain ⟨j, l, rfl, hj, hll, own, rw3, hb⟩ := hrel
        have OW := Lib.hid own
        have RW := Lib.hid rw3
        have HB := Lib.hid hb
        have HLL := Lib.hid hll
        have hz := hb.size
        by_cases hjn : j < n
        · obtain ⟨g, rfl⟩ := own.shape (by omega)
          have c0 := own.at0 j (by omega)
          have c1 := own.at1 j (by omega)
          have f0 := own.fz (j * 2)
          have f1 := own.fz (j * 2 + 1)
          generalize (l.getD j (0, 0)).1 = q0 at c0
          generalize (l.getD j (0, 0)).2 = q1 at c1
          have hg : Bb k ≤ g := own.blk g rfl
          have hgb : Hid (w2.heap.size ≤ g) := Nat.le_trans HB0.out (Nat.le_trans (HM.out 0 k (Nat.zero_le _) (by omega)) hg)
          have hi2 : (j : Int) < (n : Int) := by omega
          have hw2 : IntKind.i64.wrap ((j : Int) + 1) = (j : Int) + 1 := wraps_i64' _ (by omega) (by omega)
          clear own rw3 hb hll
          go_wp2_with fail
          refine ⟨⟨j + 1, l.set j (-1, 0), by go_num, hjn, by rw [List.length_set]; exact HLL.out, OW.out.set j (-1) 0, RW.out.step hlt HV.out HM.out HP.out (q := some g) (by rw [HVk.out]; rfl) (grownBy_set (grownBy_set (World.grownBy.refl _ _) ⟨g, j * 2, none⟩ _ (.inl rfl)) ⟨g, j * 2 + 1, none⟩ _ (.inl rfl)), (HB.out.setCell hgb.out _).setCell hgb.out _⟩, by simp [intOf, hw2]; omega⟩
        · have OA2 := Lib.hid (own.below ((Below.refl _ _).alloc (Nat.le_refl _) (.cells #[.int .i64 (-2), .int .i64 0] 42)))
          have RA2 := Lib.hid (reads_built wr (-2) 0)
          have BA2 := Lib.hid (hb.alloc hz (.cells #[.int .i64 (-2), .int .i64 0] 42))
          have RWA : Hid (Rows3 w5.heap.size V LL Bb (k + 1) (wr.alloc (.cells #[.int .i64 (-2), .int .i64 0] 42))) := rw3.step hlt HV.out HM.out HP.out rfl (World.grownBy_alloc _ _ _)
          have hbk : Hid (∀ g, (Value.slice a n cc).ownBlock = some g → w2.heap.size ≤ g) := fun g hg => Nat.le_trans HB0.out (Nat.le_trans (HM.out 0 k (Nat.zero_le _) (by omega)) (own.blk g hg))
          have hBk : Hid (Bb k ≤ (wr.alloc (.cells #[.int .i64 (-2), .int .i64 0] 42)).heap.size) := by
            show _ ≤ _
            have h1 := HM.out k 3 (by omega) (Nat.le_refl _)
            have h2 := rw3.2.2
            have h3 := HP.out
            simp; omega
          clear own rw3 hb hll
          go_wp2_with (at_builtin; ((with_reducible refine wpList_append_spans _ ?_ (.tmp 63) (.tmp 65) ?_ (Bb k) _ l ?_ OA2.out _ [(-2, 0)] ?_ RA2.out ?_ ?_ ?_); rfl; rfl; rfl; rfl; (have := HLL.out; simp; omega); (exact hBk.out); intro v7 w7 o7 g7; clear o7))
          exact ⟨⟨k + 1, by go_num, hlt, RWA.out.step hlt HV.out HM.out HP.out (by rw [HVk.out]) g7, BA2.out.grown g7 BA2.out.size (fun g hg => hbk.out g hg)⟩, by simp [intOf, hw1]; omega⟩
    · have hk3 : k = 3 := by omega
      subst hk3
      have L6 := Lib.hid (L2.out.below hbel)
      have U6 := Lib.hid (U2.out.below hbel)
      have z0 : wr.cell? ⟨w.heap.size, 0, none⟩ = some (.int .i64 f) := (hbel.cell (p := ⟨w.heap.size, 0, none⟩) hy).trans y0
      have z1 : wr.cell? ⟨w.heap.size, 1, none⟩ = some (.int .i64 t) := (hbel.cell (p := ⟨w.heap.size, 1, none⟩) hy).trans y1
      have hzz : w.heap.size < wr.heap.size := Nat.lt_of_lt_of_le hy hbel.size
      have BB6 := Lib.hid (BB2.out.trans (hbel.mono BB2.out.size))
      clear rows hbel
      go_wp2_with fail
      refine (add_any _ ss f t _ L6.out).mono ?_
      rw [HQ1.out]
      rintro e w7 ⟨v7, rfl, o7, hb7⟩
      have BB7 := Lib.hid (BB6.out.trans (hb7.mono BB6.out.size))
      have L7 := Lib.hid (L6.out.below hb7)
      have U7 := Lib.hid (U6.out.below hb7)
      have cc7_0 : w7.cell? ⟨w.heap.size, 0, none⟩ = some (.int .i64 f) := (hb7.cell (p := ⟨w.heap.size, 0, none⟩) hzz).trans z0
      have cc7_1 : w7.cell? ⟨w.heap.size, 1, none⟩ = some (.int .i64 t) := (hb7.cell (p := ⟨w.heap.size, 1, none⟩) hzz).trans z1
      have X7 := Lib.hid (o7.rd)
      have hbk7 : w.heap.size < w7.heap.size := (Nat.lt_of_lt_of_le hzz hb7.size)
      clear hb7
      obtain ⟨a7, n7, c7, rfl⟩ : ∃ a n c, v7 = .slice a n c := by obtain ⟨a, c, h, _⟩ := o7.slice; exact ⟨a, _, c, h⟩
      clear o7
      go_wp2_with fail
      refine (radd_any _ ss f t _ U7.out).mono ?_
      rw [HQ1.out]
      rintro e w8 ⟨v8, rfl, o8, hb8⟩
      have BB8 := Lib.hid (BB7.out.trans (hb8.mono BB7.out.size))
      have L8 := Lib.hid (L7.out.below hb8)
      have U8 := Lib.hid (U7.out.below hb8)
      have X8 := Lib.hid (X7.out.below hb8)
      have cc8_0 : w8.cell? ⟨w.heap.size, 0, none⟩ = some (.int .i64 f) := (hb8.cell (p := ⟨w.heap.size, 0, none⟩) hbk7).trans cc7_0
      have cc8_1 : w8.cell? ⟨w.heap.size, 1, none⟩ = some (.int .i64 t) := (hb8.cell (p := ⟨w.heap.size, 1, none⟩) hbk7).trans cc7_1
      have Y8 := Lib.hid (o8.rd)
      have hbk8 : w.heap.size < w8.heap.size := (Nat.lt_of_lt_of_le hbk7 hb8.size)
      clear hb8
      obtain ⟨a8, n8, c8, rfl⟩ : ∃ a n c, v8 = .slice a n c := by obtain ⟨a, c, h, _⟩ := o8.slice; exact ⟨a, _, c, h⟩
      clear o8
      go_wp2_with fail
      refine (rsame_any _ _ ss ss _ L8.out U8.out).mono ?_
      rw [same_lists]
      rintro e w9 ⟨rfl, hb9⟩
      have BB9 := Lib.hid (BB8.out.trans (hb9.mono BB8.out.size))
      have L9 := Lib.hid (L8.out.below hb9)
      have U9 := Lib.hid (U8.out.below hb9)
      have X9 := Lib.hid (X8.out.below hb9)
      have Y9 := Lib.hid (Y8.out.below hb9)
      clear hb9
      go_wp2_with fail
      refine (rsame_any _ _ l1 l1 _ X9.out Y9.out).mono ?_
      rw [same_lists]
      rintro e w10 ⟨rfl, hb10⟩
      have BB10 := Lib.hid (BB9.out.trans (hb10.mono BB9.out.size))
      have L10 := Lib.hid (L9.out.below hb10)
      have U10 := Lib.hid (U9.out.below hb10)
      have X10 := Lib.hid (X9.out.below hb10)
      have Y10 := Lib.hid (Y9.out.below hb10)
      clear hb10
      go_wp2_with fail
      refine (alive_any _).mono ?_
      rintro e w11 ⟨rfl, hb11⟩
      have BB11 := Lib.hid (BB10.out.trans (hb11.mono BB10.out.size))
      have L11 := Lib.hid (L10.out.below hb11)
      have U11 := Lib.hid (U10.out.below hb11)
      have X11 := Lib.hid (X10.out.below hb11)
      have Y11 := Lib.hid (Y10.out.below hb11)
      clear hb11
      go_wp2
      go_ret
      exact ⟨rfl, BB11.out⟩
end Go.Proofs.Yticbhdbpfpdofaa
