/- Walks of layer 4: the reference's reader.frame, the kinds of numbers alone (written by genRef.py). -/
import Derived.Test.YtfkkimaebhjneaaDoorFwA
set_option linter.unusedSimpArgs false
set_option linter.unusedVariables false
namespace Go.Proofs.YtfkkimaebhjneaaDoor
open Go.RowKit

/-- WHAT frame COMES TO -/
def RFrIs (w : World) (p : Nat) (v : Value) (L : Nat) (r : Except (Int × Int) (Fr × Nat)) (e : Ending) (w' : World) : Prop :=
  ∃ (k s o n c : Int) (fin : Bool) (da sa : Option Addr) (dl dc sl sc : Nat), e = .returned (.agg #[.int .i64 k, .int .i64 s, .int .i64 o, .int .i64 n, .int .i64 c, .bool fin, .slice da dl dc, .slice sa sl sc]) ∧ w.grownBy w' (some p) ∧ RS w' p v L (stE r) ∧
    ∀ f j, r = .ok (f, j) → f.kind = k ∧ f.stream = s ∧ f.offset = o ∧ f.n = n ∧ f.code = c ∧ f.fin = fin ∧ Own .u8 5 w' w.heap.size (.slice da dl dc) f.data ∧ OwnS w' w.heap.size (.slice sa sl sc) f.spans

theorem RS.keptG {w w' : World} {p : Nat} {v : Value} {L : Nat} {s : Except (Int × Int) Nat} {row : Option Nat} (h : RS w p v L s) (hg : w.grownBy w' row) (hne : row ≠ some p) : RS w' p v L s := by
  obtain ⟨a, y, z, h1, h2, h3⟩ := h
  exact ⟨a, y, z, h1, ⟨block_kept h2.is hg hne⟩, h3⟩

/-- WHERE THE READING OF A FRAME STANDS; R: the block of the result -/
structure RQ (w0 W : World) (p : Nat) (v : Value) (xs : List Int) (R : Nat) (s : Except (Int × Int) Nat) : Prop where
  at_ : RS W p v xs.length s
  gr : w0.grownBy W (some p)
  rd : Rd .u8 W v xs
  res : W.heap[R]? = some (.cells #[.int .i64 0, .int .i64 0, .int .i64 0, .int .i64 0, .int .i64 0, .bool false, .slice none 0 0, .slice none 0 0] 33 (0, 0))
  pR : p < R
  hR : w0.heap.size ≤ R
  free : ∀ j, v.ownBlock = some j → some p ≠ some j
theorem RQ.step {w0 W W' : World} {p : Nat} {v : Value} {xs : List Int} {R : Nat} {s s' : Except (Int × Int) Nat} (h : RQ w0 W p v xs R s) (hg : W.grownBy W' (some p)) (hS : RS W' p v xs.length s') : RQ w0 W' p v xs R s' :=
  ⟨hS, grownBy_trans h.gr hg, h.rd.kept hg h.free, block_kept h.res hg (by have := h.pR; simp; omega), h.pR, h.hR, h.free⟩
theorem RQ.done {w0 W W' : World} {p : Nat} {v : Value} {xs : List Int} {R : Nat} {s : Except (Int × Int) Nat} (h : RQ w0 W p v xs R s) (hg : W.grownBy W' (some R)) : w0.grownBy W' (some p) ∧ RS W' p v xs.length s :=
  ⟨grownBy_trans_new h.gr hg h.hR, h.at_.keptG hg (by have := h.pR; simp; omega)⟩
theorem RQ.start (p b o cp : Nat) (xs : List Int) (a : Nat) (w : World) (hA : RA w p (.slice (some ⟨b, o, none⟩) xs.length cp) a 0 0) (hr : Rd .u8 w (.slice (some ⟨b, o, none⟩) xs.length cp) xs) (ha : a < xs.length) (hbp : b ≠ p) : RQ w ((w.setCell ⟨p, 1, none⟩ (.int .i64 ((a : Int) + 1))).alloc (.cells #[.int .i64 0, .int .i64 0, .int .i64 0, .int .i64 0, .int .i64 0, .bool false, .slice none 0 0, .slice none 0 0] 33)) p (.slice (some ⟨b, o, none⟩) xs.length cp) xs w.heap.size (.ok (a + 1)) := by
  have hlt := hA.lt
  have hg : w.grownBy (w.setCell ⟨p, 1, none⟩ (.int .i64 ((a : Int) + 1))) (some p) := grownBy_set (World.grownBy.refl _ _) _ _ (.inl rfl)
  have hz : (w.setCell ⟨p, 1, none⟩ (.int .i64 ((a : Int) + 1))).heap.size = w.heap.size := by simp
  refine ⟨⟨a + 1, 0, 0, ha, (hA.at' ((a : Int) + 1) (a + 1) (by simp)).alloc _, .inl ⟨rfl, rfl, rfl⟩⟩, grownBy_alloc' hg _, ?_, ?_, hlt, Nat.le_refl _, ?_⟩
  · refine Rd.kept hr (grownBy_alloc' hg _) ?_
    intro j hj e
    simp only [Value.ownBlock, Option.some.injEq] at hj
    cases e; exact hbp hj
  · have h := alloc_at (w.setCell ⟨p, 1, none⟩ (.int .i64 ((a : Int) + 1))) (.cells #[.int .i64 0, .int .i64 0, .int .i64 0, .int .i64 0, .int .i64 0, .bool false, .slice none 0 0, .slice none 0 0] 33)
    rw [hz] at h
    exact h
  · intro j hj e
    simp only [Value.ownBlock, Option.some.injEq] at hj
    cases e; exact hbp hj
theorem Rd.form' {k : IntKind} {w : World} {v : Value} {xs : List Int} (h : Rd k w v xs) (hx : xs ≠ []) : ∃ b o c, v = .slice (some ⟨b, o, none⟩) xs.length c ∧ b < w.heap.size ∧ ∀ i, i < xs.length → w.cell? ⟨b, o + i, none⟩ = some (.int k (xs.getD i 0)) := by
  rcases h with ⟨h, _⟩ | ⟨_, b, o, c, rfl, _, _, h4, h5⟩
  · exact absurd h hx
  · exact ⟨b, o, c, rfl, h4, h5⟩

set_option maxHeartbeats 1600000 in
theorem rframe_4 (p b o cp : Nat) (xs : List Int) (a : Nat) (w : World) (hA : RA w p (.slice (some ⟨b, o, none⟩) xs.length cp) a 0 0) (hr : Rd .u8 w (.slice (some ⟨b, o, none⟩) xs.length cp) xs) (hx : Bts xs) (ha : a < xs.length) (hbig : xs.length ≤ 1048576) (hbp : b ≠ p) (hb : b < w.heap.size) (hc : xs.getD a 0 = 4) :
    Calls Tryd.prog 37 #[.pointer (some ⟨p, 0, none⟩)] w (RFrIs w p (.slice (some ⟨b, o, none⟩) xs.length cp) xs.length (restR xs a 4 7 (a + 1))) := by
  have hlt := hA.lt
  have c0 := (hA.alloc (.cells #[.int .i64 0, .int .i64 0, .int .i64 0, .int .i64 0, .int .i64 0, .bool false, .slice none 0 0, .slice none 0 0] 33)).c0
  have c1 := (hA.alloc (.cells #[.int .i64 0, .int .i64 0, .int .i64 0, .int .i64 0, .int .i64 0, .bool false, .slice none 0 0, .slice none 0 0] 33)).c1
  have f1 := (hA.alloc (.cells #[.int .i64 0, .int .i64 0, .int .i64 0, .int .i64 0, .int .i64 0, .bool false, .slice none 0 0, .slice none 0 0] 33)).fz 1
  have hbc : (w.alloc (.cells #[.int .i64 0, .int .i64 0, .int .i64 0, .int .i64 0, .int .i64 0, .bool false, .slice none 0 0, .slice none 0 0] 33)).cell? ⟨b, o + a, none⟩ = some (.int .u8 4) := by
    obtain ⟨b', o', c', hq, hb', hcell⟩ := Rd.form' hr (by intro h; rw [h] at ha; simp at ha)
    simp only [Value.slice.injEq, Option.some.injEq, Addr.mk.injEq, and_true, true_and] at hq
    obtain ⟨⟨rfl, rfl⟩, rfl⟩ := hq
    have h := hcell a ha
    rw [hc] at h
    exact (((Below.refl w.heap.size w).alloc (Nat.le_refl _) (.cells #[.int .i64 0, .int .i64 0, .int .i64 0, .int .i64 0, .int .i64 0, .bool false, .slice none 0 0, .slice none 0 0] 33)).cell (p := ⟨b, o + a, none⟩) hb).trans h
  have Q0 := Lib.hid (RQ.start p b o cp xs a w hA hr ha hbp)
  have hw1 : IntKind.i64.wrap ((a : Int) + 1) = (a : Int) + 1 := wraps_i64' _ (by omega) (by omega)
  have hi1 : (a : Int) < (xs.length : Int) := by omega
  have HX := Lib.hid hx
  have n1w : p ≠ w.heap.size := by omega
  clear hA hr hc hx
  go_enter Tryd.func37, Tryd.ntmps37
  go_wp2_with fail
  refine (rnumber_s p _ xs (.ok (a + 1)) _ Q0.out.at_ Q0.out.rd HX.out).mono ?_
  rintro e w2 ⟨n1, rfl, g1, s1, v1, u1⟩
  have Q1 := Lib.hid (Q0.out.step g1 s1)
  have V1 := Lib.hid v1
  clear g1 s1 v1 u1
  go_wp2_with fail
  refine (rnumber_s p _ xs (stE (bnd (.ok (a + 1)) (num xs))) _ Q1.out.at_ Q1.out.rd HX.out).mono ?_
  rintro e w3 ⟨n2, rfl, g2, s2, v2, u2⟩
  have Q2 := Lib.hid (Q1.out.step g2 s2)
  have V2 := Lib.hid v2
  clear g2 s2 v2 u2
  go_wp2_with fail
  refine (rnumber_s p _ xs (stE (bnd (stE (bnd (.ok (a + 1)) (num xs))) (num xs))) _ Q2.out.at_ Q2.out.rd HX.out).mono ?_
  rintro e w4 ⟨n3, rfl, g3, s3, v3, u3⟩
  have Q3 := Lib.hid (Q2.out.step g3 s3)
  have V3 := Lib.hid v3
  have kc := fun i => Joins.cell_of_block Q3.out.res i
  have kc0 := kc 0
  have kc1 := kc 1
  have kc2 := kc 2
  have kc3 := kc 3
  have kc4 := kc 4
  have kc5 := kc 5
  have kc6 := kc 6
  have kc7 := kc 7
  have kf := Joins.unfrozen_of_block Q3.out.res
  clear g3 s3 v3 u3 kc
  go_wp2
  refine bodyPost_ret (v := .agg #[.int .i64 4, .int .i64 n1, .int .i64 n3, .int .i64 0, .int .i64 n2, .bool false, .slice none 0 0, .slice none 0 0]) (by simp [results, Tryd.results37, go_sem, kc0, kc1, kc2, kc3, kc4, kc5, kc6, kc7]) rfl ?_
  obtain ⟨D1, D2⟩ := RQ.done Q3.out (set8 _ w.heap.size _ _ _ _ _ _ _ _)
  refine ⟨4, n1, n3, 0, n2, false, none, none, 0, 0, 0, 0, rfl, D1, ?_, ?_⟩
  · have e : stE (restR xs a 4 7 (a + 1)) = stE (bnd (stE (bnd (stE (bnd (.ok (a + 1)) (num xs))) (num xs))) (num xs)) := by
      unfold restR
      simp only [Int.reduceEq, if_false, if_true, or_false, or_true, false_or, true_or, reduceIte]
      cases h1 : num xs (a + 1) with
      | error e => simp only [bnd, stE, thn, h1]
      | ok y =>
        obtain ⟨x1, j1⟩ := y
        cases h2 : num xs j1 with
        | error e => simp only [bnd, stE, thn, h1, h2]
        | ok y =>
          obtain ⟨x2, j2⟩ := y
          cases h3 : num xs j2 with
          | error e => simp only [bnd, stE, thn, h1, h2, h3]
          | ok y =>
            obtain ⟨x3, j3⟩ := y
            simp only [bnd, stE, thn, h1, h2, h3]
    rw [e]; exact D2
  · intro f j hf
    unfold restR at hf
    simp only [Int.reduceEq, if_false, if_true, or_false, or_true, false_or, true_or, reduceIte] at hf
    obtain ⟨x1, j1, h1, hf⟩ := thn_inv hf
    obtain ⟨x2, j2, h2, hf⟩ := thn_inv hf
    obtain ⟨x3, j3, h3, hf⟩ := thn_inv hf
    have e1 := V1.out x1 j1 (by simp only [bnd, stE, h1])
    have e2 := V2.out x2 j2 (by simp only [bnd, stE, h1, h2])
    have e3 := V3.out x3 j3 (by simp only [bnd, stE, h1, h2, h3])
    cases hf
    exact ⟨rfl, e1, e3, rfl, e2, rfl, Own.nil _ _ _ _, OwnS.nil _ _⟩

set_option maxHeartbeats 1600000 in
theorem rframe_5 (p b o cp : Nat) (xs : List Int) (a : Nat) (w : World) (hA : RA w p (.slice (some ⟨b, o, none⟩) xs.length cp) a 0 0) (hr : Rd .u8 w (.slice (some ⟨b, o, none⟩) xs.length cp) xs) (hx : Bts xs) (ha : a < xs.length) (hbig : xs.length ≤ 1048576) (hbp : b ≠ p) (hb : b < w.heap.size) (hc : xs.getD a 0 = 5) :
    Calls Tryd.prog 37 #[.pointer (some ⟨p, 0, none⟩)] w (RFrIs w p (.slice (some ⟨b, o, none⟩) xs.length cp) xs.length (restR xs a 5 7 (a + 1))) := by
  have hlt := hA.lt
  have c0 := (hA.alloc (.cells #[.int .i64 0, .int .i64 0, .int .i64 0, .int .i64 0, .int .i64 0, .bool false, .slice none 0 0, .slice none 0 0] 33)).c0
  have c1 := (hA.alloc (.cells #[.int .i64 0, .int .i64 0, .int .i64 0, .int .i64 0, .int .i64 0, .bool false, .slice none 0 0, .slice none 0 0] 33)).c1
  have f1 := (hA.alloc (.cells #[.int .i64 0, .int .i64 0, .int .i64 0, .int .i64 0, .int .i64 0, .bool false, .slice none 0 0, .slice none 0 0] 33)).fz 1
  have hbc : (w.alloc (.cells #[.int .i64 0, .int .i64 0, .int .i64 0, .int .i64 0, .int .i64 0, .bool false, .slice none 0 0, .slice none 0 0] 33)).cell? ⟨b, o + a, none⟩ = some (.int .u8 5) := by
    obtain ⟨b', o', c', hq, hb', hcell⟩ := Rd.form' hr (by intro h; rw [h] at ha; simp at ha)
    simp only [Value.slice.injEq, Option.some.injEq, Addr.mk.injEq, and_true, true_and] at hq
    obtain ⟨⟨rfl, rfl⟩, rfl⟩ := hq
    have h := hcell a ha
    rw [hc] at h
    exact (((Below.refl w.heap.size w).alloc (Nat.le_refl _) (.cells #[.int .i64 0, .int .i64 0, .int .i64 0, .int .i64 0, .int .i64 0, .bool false, .slice none 0 0, .slice none 0 0] 33)).cell (p := ⟨b, o + a, none⟩) hb).trans h
  have Q0 := Lib.hid (RQ.start p b o cp xs a w hA hr ha hbp)
  have hw1 : IntKind.i64.wrap ((a : Int) + 1) = (a : Int) + 1 := wraps_i64' _ (by omega) (by omega)
  have hi1 : (a : Int) < (xs.length : Int) := by omega
  have HX := Lib.hid hx
  have n1w : p ≠ w.heap.size := by omega
  clear hA hr hc hx
  go_enter Tryd.func37, Tryd.ntmps37
  go_wp2_with fail
  refine (rnumber_s p _ xs (.ok (a + 1)) _ Q0.out.at_ Q0.out.rd HX.out).mono ?_
  rintro e w2 ⟨n1, rfl, g1, s1, v1, u1⟩
  have Q1 := Lib.hid (Q0.out.step g1 s1)
  have V1 := Lib.hid v1
  clear g1 s1 v1 u1
  go_wp2_with fail
  refine (rnumber_s p _ xs (stE (bnd (.ok (a + 1)) (num xs))) _ Q1.out.at_ Q1.out.rd HX.out).mono ?_
  rintro e w3 ⟨n2, rfl, g2, s2, v2, u2⟩
  have Q2 := Lib.hid (Q1.out.step g2 s2)
  have V2 := Lib.hid v2
  have kc := fun i => Joins.cell_of_block Q2.out.res i
  have kc0 := kc 0
  have kc1 := kc 1
  have kc2 := kc 2
  have kc3 := kc 3
  have kc4 := kc 4
  have kc5 := kc 5
  have kc6 := kc 6
  have kc7 := kc 7
  have kf := Joins.unfrozen_of_block Q2.out.res
  clear g2 s2 v2 u2 kc
  go_wp2
  refine bodyPost_ret (v := .agg #[.int .i64 5, .int .i64 n1, .int .i64 0, .int .i64 0, .int .i64 n2, .bool false, .slice none 0 0, .slice none 0 0]) (by simp [results, Tryd.results37, go_sem, kc0, kc1, kc2, kc3, kc4, kc5, kc6, kc7]) rfl ?_
  obtain ⟨D1, D2⟩ := RQ.done Q2.out (set8 _ w.heap.size _ _ _ _ _ _ _ _)
  refine ⟨5, n1, 0, 0, n2, false, none, none, 0, 0, 0, 0, rfl, D1, ?_, ?_⟩
  · have e : stE (restR xs a 5 7 (a + 1)) = stE (bnd (stE (bnd (.ok (a + 1)) (num xs))) (num xs)) := by
      unfold restR
      simp only [Int.reduceEq, if_false, if_true, or_false, or_true, false_or, true_or, reduceIte]
      cases h1 : num xs (a + 1) with
      | error e => simp only [bnd, stE, thn, h1]
      | ok y =>
        obtain ⟨x1, j1⟩ := y
        cases h2 : num xs j1 with
        | error e => simp only [bnd, stE, thn, h1, h2]
        | ok y =>
          obtain ⟨x2, j2⟩ := y
          simp only [bnd, stE, thn, h1, h2]
    rw [e]; exact D2
  · intro f j hf
    unfold restR at hf
    simp only [Int.reduceEq, if_false, if_true, or_false, or_true, false_or, true_or, reduceIte] at hf
    obtain ⟨x1, j1, h1, hf⟩ := thn_inv hf
    obtain ⟨x2, j2, h2, hf⟩ := thn_inv hf
    have e1 := V1.out x1 j1 (by simp only [bnd, stE, h1])
    have e2 := V2.out x2 j2 (by simp only [bnd, stE, h1, h2])
    cases hf
    exact ⟨rfl, e1, rfl, rfl, e2, rfl, Own.nil _ _ _ _, OwnS.nil _ _⟩

set_option maxHeartbeats 1600000 in
theorem rframe_16 (p b o cp : Nat) (xs : List Int) (a : Nat) (w : World) (hA : RA w p (.slice (some ⟨b, o, none⟩) xs.length cp) a 0 0) (hr : Rd .u8 w (.slice (some ⟨b, o, none⟩) xs.length cp) xs) (hx : Bts xs) (ha : a < xs.length) (hbig : xs.length ≤ 1048576) (hbp : b ≠ p) (hb : b < w.heap.size) (hc : xs.getD a 0 = 16) :
    Calls Tryd.prog 37 #[.pointer (some ⟨p, 0, none⟩)] w (RFrIs w p (.slice (some ⟨b, o, none⟩) xs.length cp) xs.length (restR xs a 16 7 (a + 1))) := by
  have hlt := hA.lt
  have c0 := (hA.alloc (.cells #[.int .i64 0, .int .i64 0, .int .i64 0, .int .i64 0, .int .i64 0, .bool false, .slice none 0 0, .slice none 0 0] 33)).c0
  have c1 := (hA.alloc (.cells #[.int .i64 0, .int .i64 0, .int .i64 0, .int .i64 0, .int .i64 0, .bool false, .slice none 0 0, .slice none 0 0] 33)).c1
  have f1 := (hA.alloc (.cells #[.int .i64 0, .int .i64 0, .int .i64 0, .int .i64 0, .int .i64 0, .bool false, .slice none 0 0, .slice none 0 0] 33)).fz 1
  have hbc : (w.alloc (.cells #[.int .i64 0, .int .i64 0, .int .i64 0, .int .i64 0, .int .i64 0, .bool false, .slice none 0 0, .slice none 0 0] 33)).cell? ⟨b, o + a, none⟩ = some (.int .u8 16) := by
    obtain ⟨b', o', c', hq, hb', hcell⟩ := Rd.form' hr (by intro h; rw [h] at ha; simp at ha)
    simp only [Value.slice.injEq, Option.some.injEq, Addr.mk.injEq, and_true, true_and] at hq
    obtain ⟨⟨rfl, rfl⟩, rfl⟩ := hq
    have h := hcell a ha
    rw [hc] at h
    exact (((Below.refl w.heap.size w).alloc (Nat.le_refl _) (.cells #[.int .i64 0, .int .i64 0, .int .i64 0, .int .i64 0, .int .i64 0, .bool false, .slice none 0 0, .slice none 0 0] 33)).cell (p := ⟨b, o + a, none⟩) hb).trans h
  have Q0 := Lib.hid (RQ.start p b o cp xs a w hA hr ha hbp)
  have hw1 : IntKind.i64.wrap ((a : Int) + 1) = (a : Int) + 1 := wraps_i64' _ (by omega) (by omega)
  have hi1 : (a : Int) < (xs.length : Int) := by omega
  have HX := Lib.hid hx
  have n1w : p ≠ w.heap.size := by omega
  clear hA hr hc hx
  go_enter Tryd.func37, Tryd.ntmps37
  go_wp2_with fail
  refine (rnumber_s p _ xs (.ok (a + 1)) _ Q0.out.at_ Q0.out.rd HX.out).mono ?_
  rintro e w2 ⟨n1, rfl, g1, s1, v1, u1⟩
  have Q1 := Lib.hid (Q0.out.step g1 s1)
  have V1 := Lib.hid v1
  have kc := fun i => Joins.cell_of_block Q1.out.res i
  have kc0 := kc 0
  have kc1 := kc 1
  have kc2 := kc 2
  have kc3 := kc 3
  have kc4 := kc 4
  have kc5 := kc 5
  have kc6 := kc 6
  have kc7 := kc 7
  have kf := Joins.unfrozen_of_block Q1.out.res
  clear g1 s1 v1 u1 kc
  go_wp2
  refine bodyPost_ret (v := .agg #[.int .i64 16, .int .i64 0, .int .i64 0, .int .i64 n1, .int .i64 0, .bool false, .slice none 0 0, .slice none 0 0]) (by simp [results, Tryd.results37, go_sem, kc0, kc1, kc2, kc3, kc4, kc5, kc6, kc7]) rfl ?_
  obtain ⟨D1, D2⟩ := RQ.done Q1.out (set8 _ w.heap.size _ _ _ _ _ _ _ _)
  refine ⟨16, 0, 0, n1, 0, false, none, none, 0, 0, 0, 0, rfl, D1, ?_, ?_⟩
  · have e : stE (restR xs a 16 7 (a + 1)) = stE (bnd (.ok (a + 1)) (num xs)) := by
      unfold restR
      simp only [Int.reduceEq, if_false, if_true, or_false, or_true, false_or, true_or, reduceIte]
      cases h1 : num xs (a + 1) with
      | error e => simp only [bnd, stE, thn, h1]
      | ok y =>
        obtain ⟨x1, j1⟩ := y
        simp only [bnd, stE, thn, h1]
    rw [e]; exact D2
  · intro f j hf
    unfold restR at hf
    simp only [Int.reduceEq, if_false, if_true, or_false, or_true, false_or, true_or, reduceIte] at hf
    obtain ⟨x1, j1, h1, hf⟩ := thn_inv hf
    have e1 := V1.out x1 j1 (by simp only [bnd, stE, h1])
    cases hf
    exact ⟨rfl, rfl, rfl, e1, rfl, rfl, Own.nil _ _ _ _, OwnS.nil _ _⟩

set_option maxHeartbeats 1600000 in
theorem rframe_18 (p b o cp : Nat) (xs : List Int) (a : Nat) (w : World) (hA : RA w p (.slice (some ⟨b, o, none⟩) xs.length cp) a 0 0) (hr : Rd .u8 w (.slice (some ⟨b, o, none⟩) xs.length cp) xs) (hx : Bts xs) (ha : a < xs.length) (hbig : xs.length ≤ 1048576) (hbp : b ≠ p) (hb : b < w.heap.size) (hc : xs.getD a 0 = 18) :
    Calls Tryd.prog 37 #[.pointer (some ⟨p, 0, none⟩)] w (RFrIs w p (.slice (some ⟨b, o, none⟩) xs.length cp) xs.length (restR xs a 18 7 (a + 1))) := by
  have hlt := hA.lt
  have c0 := (hA.alloc (.cells #[.int .i64 0, .int .i64 0, .int .i64 0, .int .i64 0, .int .i64 0, .bool false, .slice none 0 0, .slice none 0 0] 33)).c0
  have c1 := (hA.alloc (.cells #[.int .i64 0, .int .i64 0, .int .i64 0, .int .i64 0, .int .i64 0, .bool false, .slice none 0 0, .slice none 0 0] 33)).c1
  have f1 := (hA.alloc (.cells #[.int .i64 0, .int .i64 0, .int .i64 0, .int .i64 0, .int .i64 0, .bool false, .slice none 0 0, .slice none 0 0] 33)).fz 1
  have hbc : (w.alloc (.cells #[.int .i64 0, .int .i64 0, .int .i64 0, .int .i64 0, .int .i64 0, .bool false, .slice none 0 0, .slice none 0 0] 33)).cell? ⟨b, o + a, none⟩ = some (.int .u8 18) := by
    obtain ⟨b', o', c', hq, hb', hcell⟩ := Rd.form' hr (by intro h; rw [h] at ha; simp at ha)
    simp only [Value.slice.injEq, Option.some.injEq, Addr.mk.injEq, and_true, true_and] at hq
    obtain ⟨⟨rfl, rfl⟩, rfl⟩ := hq
    have h := hcell a ha
    rw [hc] at h
    exact (((Below.refl w.heap.size w).alloc (Nat.le_refl _) (.cells #[.int .i64 0, .int .i64 0, .int .i64 0, .int .i64 0, .int .i64 0, .bool false, .slice none 0 0, .slice none 0 0] 33)).cell (p := ⟨b, o + a, none⟩) hb).trans h
  have Q0 := Lib.hid (RQ.start p b o cp xs a w hA hr ha hbp)
  have hw1 : IntKind.i64.wrap ((a : Int) + 1) = (a : Int) + 1 := wraps_i64' _ (by omega) (by omega)
  have hi1 : (a : Int) < (xs.length : Int) := by omega
  have HX := Lib.hid hx
  have n1w : p ≠ w.heap.size := by omega
  clear hA hr hc hx
  go_enter Tryd.func37, Tryd.ntmps37
  go_wp2_with fail
  refine (rnumber_s p _ xs (.ok (a + 1)) _ Q0.out.at_ Q0.out.rd HX.out).mono ?_
  rintro e w2 ⟨n1, rfl, g1, s1, v1, u1⟩
  have Q1 := Lib.hid (Q0.out.step g1 s1)
  have V1 := Lib.hid v1
  have kc := fun i => Joins.cell_of_block Q1.out.res i
  have kc0 := kc 0
  have kc1 := kc 1
  have kc2 := kc 2
  have kc3 := kc 3
  have kc4 := kc 4
  have kc5 := kc 5
  have kc6 := kc 6
  have kc7 := kc 7
  have kf := Joins.unfrozen_of_block Q1.out.res
  clear g1 s1 v1 u1 kc
  go_wp2
  refine bodyPost_ret (v := .agg #[.int .i64 18, .int .i64 0, .int .i64 0, .int .i64 n1, .int .i64 0, .bool false, .slice none 0 0, .slice none 0 0]) (by simp [results, Tryd.results37, go_sem, kc0, kc1, kc2, kc3, kc4, kc5, kc6, kc7]) rfl ?_
  obtain ⟨D1, D2⟩ := RQ.done Q1.out (set8 _ w.heap.size _ _ _ _ _ _ _ _)
  refine ⟨18, 0, 0, n1, 0, false, none, none, 0, 0, 0, 0, rfl, D1, ?_, ?_⟩
  · have e : stE (restR xs a 18 7 (a + 1)) = stE (bnd (.ok (a + 1)) (num xs)) := by
      unfold restR
      simp only [Int.reduceEq, if_false, if_true, or_false, or_true, false_or, true_or, reduceIte]
      cases h1 : num xs (a + 1) with
      | error e => simp only [bnd, stE, thn, h1]
      | ok y =>
        obtain ⟨x1, j1⟩ := y
        simp only [bnd, stE, thn, h1]
    rw [e]; exact D2
  · intro f j hf
    unfold restR at hf
    simp only [Int.reduceEq, if_false, if_true, or_false, or_true, false_or, true_or, reduceIte] at hf
    obtain ⟨x1, j1, h1, hf⟩ := thn_inv hf
    have e1 := V1.out x1 j1 (by simp only [bnd, stE, h1])
    cases hf
    exact ⟨rfl, rfl, rfl, e1, rfl, rfl, Own.nil _ _ _ _, OwnS.nil _ _⟩

set_option maxHeartbeats 1600000 in
theorem rframe_17 (p b o cp : Nat) (xs : List Int) (a : Nat) (w : World) (hA : RA w p (.slice (some ⟨b, o, none⟩) xs.length cp) a 0 0) (hr : Rd .u8 w (.slice (some ⟨b, o, none⟩) xs.length cp) xs) (hx : Bts xs) (ha : a < xs.length) (hbig : xs.length ≤ 1048576) (hbp : b ≠ p) (hb : b < w.heap.size) (hc : xs.getD a 0 = 17) :
    Calls Tryd.prog 37 #[.pointer (some ⟨p, 0, none⟩)] w (RFrIs w p (.slice (some ⟨b, o, none⟩) xs.length cp) xs.length (restR xs a 17 7 (a + 1))) := by
  have hlt := hA.lt
  have c0 := (hA.alloc (.cells #[.int .i64 0, .int .i64 0, .int .i64 0, .int .i64 0, .int .i64 0, .bool false, .slice none 0 0, .slice none 0 0] 33)).c0
  have c1 := (hA.alloc (.cells #[.int .i64 0, .int .i64 0, .int .i64 0, .int .i64 0, .int .i64 0, .bool false, .slice none 0 0, .slice none 0 0] 33)).c1
  have f1 := (hA.alloc (.cells #[.int .i64 0, .int .i64 0, .int .i64 0, .int .i64 0, .int .i64 0, .bool false, .slice none 0 0, .slice none 0 0] 33)).fz 1
  have hbc : (w.alloc (.cells #[.int .i64 0, .int .i64 0, .int .i64 0, .int .i64 0, .int .i64 0, .bool false, .slice none 0 0, .slice none 0 0] 33)).cell? ⟨b, o + a, none⟩ = some (.int .u8 17) := by
    obtain ⟨b', o', c', hq, hb', hcell⟩ := Rd.form' hr (by intro h; rw [h] at ha; simp at ha)
    simp only [Value.slice.injEq, Option.some.injEq, Addr.mk.injEq, and_true, true_and] at hq
    obtain ⟨⟨rfl, rfl⟩, rfl⟩ := hq
    have h := hcell a ha
    rw [hc] at h
    exact (((Below.refl w.heap.size w).alloc (Nat.le_refl _) (.cells #[.int .i64 0, .int .i64 0, .int .i64 0, .int .i64 0, .int .i64 0, .bool false, .slice none 0 0, .slice none 0 0] 33)).cell (p := ⟨b, o + a, none⟩) hb).trans h
  have Q0 := Lib.hid (RQ.start p b o cp xs a w hA hr ha hbp)
  have hw1 : IntKind.i64.wrap ((a : Int) + 1) = (a : Int) + 1 := wraps_i64' _ (by omega) (by omega)
  have hi1 : (a : Int) < (xs.length : Int) := by omega
  have HX := Lib.hid hx
  have n1w : p ≠ w.heap.size := by omega
  clear hA hr hc hx
  go_enter Tryd.func37, Tryd.ntmps37
  go_wp2_with fail
  refine (rnumber_s p _ xs (.ok (a + 1)) _ Q0.out.at_ Q0.out.rd HX.out).mono ?_
  rintro e w2 ⟨n1, rfl, g1, s1, v1, u1⟩
  have Q1 := Lib.hid (Q0.out.step g1 s1)
  have V1 := Lib.hid v1
  clear g1 s1 v1 u1
  go_wp2_with fail
  refine (rnumber_s p _ xs (stE (bnd (.ok (a + 1)) (num xs))) _ Q1.out.at_ Q1.out.rd HX.out).mono ?_
  rintro e w3 ⟨n2, rfl, g2, s2, v2, u2⟩
  have Q2 := Lib.hid (Q1.out.step g2 s2)
  have V2 := Lib.hid v2
  have kc := fun i => Joins.cell_of_block Q2.out.res i
  have kc0 := kc 0
  have kc1 := kc 1
  have kc2 := kc 2
  have kc3 := kc 3
  have kc4 := kc 4
  have kc5 := kc 5
  have kc6 := kc 6
  have kc7 := kc 7
  have kf := Joins.unfrozen_of_block Q2.out.res
  clear g2 s2 v2 u2 kc
  go_wp2
  refine bodyPost_ret (v := .agg #[.int .i64 17, .int .i64 n1, .int .i64 0, .int .i64 n2, .int .i64 0, .bool false, .slice none 0 0, .slice none 0 0]) (by simp [results, Tryd.results37, go_sem, kc0, kc1, kc2, kc3, kc4, kc5, kc6, kc7]) rfl ?_
  obtain ⟨D1, D2⟩ := RQ.done Q2.out (set8 _ w.heap.size _ _ _ _ _ _ _ _)
  refine ⟨17, n1, 0, n2, 0, false, none, none, 0, 0, 0, 0, rfl, D1, ?_, ?_⟩
  · have e : stE (restR xs a 17 7 (a + 1)) = stE (bnd (stE (bnd (.ok (a + 1)) (num xs))) (num xs)) := by
      unfold restR
      simp only [Int.reduceEq, if_false, if_true, or_false, or_true, false_or, true_or, reduceIte]
      cases h1 : num xs (a + 1) with
      | error e => simp only [bnd, stE, thn, h1]
      | ok y =>
        obtain ⟨x1, j1⟩ := y
        cases h2 : num xs j1 with
        | error e => simp only [bnd, stE, thn, h1, h2]
        | ok y =>
          obtain ⟨x2, j2⟩ := y
          simp only [bnd, stE, thn, h1, h2]
    rw [e]; exact D2
  · intro f j hf
    unfold restR at hf
    simp only [Int.reduceEq, if_false, if_true, or_false, or_true, false_or, true_or, reduceIte] at hf
    obtain ⟨x1, j1, h1, hf⟩ := thn_inv hf
    obtain ⟨x2, j2, h2, hf⟩ := thn_inv hf
    have e1 := V1.out x1 j1 (by simp only [bnd, stE, h1])
    have e2 := V2.out x2 j2 (by simp only [bnd, stE, h1, h2])
    cases hf
    exact ⟨rfl, e1, rfl, e2, rfl, rfl, Own.nil _ _ _ _, OwnS.nil _ _⟩
end Go.Proofs.YtfkkimaebhjneaaDoor
