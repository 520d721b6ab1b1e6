/- Walks of layer 4: the reference's stream (written by genRef2.py). -/
import Derived.Test.YtfkkimaebhjneaaDoorFwB
set_option linter.unusedSimpArgs false
set_option linter.unusedVariables false
namespace Go.Proofs.YtfkkimaebhjneaaDoor
open Go.RowKit

def streamR (xs : List Int) (i : Nat) (bt : Int) (j0 : Nat) : Except (Int × Int) (Fr × Nat) := thn (num xs j0) fun s j => thn (offR xs bt j) fun o j => thn (countR xs bt j) fun c j => thn (tailR xs i o c j) fun d j => .ok (⟨8, s, o, 0, 0, (bt % 2 != 0), d, []⟩, j)
theorem bnd_ok {α : Type} {s : Except (Int × Int) Nat} {f : Nat → Except (Int × Int) (α × Nat)} {i : Nat} {r : Except (Int × Int) (α × Nat)} (h : s = .ok i) (hf : f i = r) : bnd s f = r := by subst h; exact hf
theorem stE_ok {α : Type} {s : Except (Int × Int) Nat} {f : Nat → Except (Int × Int) (α × Nat)} {j : Nat} (h : stE (bnd s f) = .ok j) : ∃ i x, s = .ok i ∧ f i = .ok (x, j) := by
  cases s with
  | error e => cases h
  | ok i =>
    simp only [bnd] at h
    cases hf : f i with
    | error e => rw [hf] at h; cases h
    | ok y => obtain ⟨x, k⟩ := y; rw [hf] at h; cases h; exact ⟨i, x, rfl, hf⟩
theorem stE_err {α : Type} {s : Except (Int × Int) Nat} {f : Nat → Except (Int × Int) (α × Nat)} {e : Int × Int} (h : stE (bnd s f) = .error e) : s = .error e ∨ ∃ i, s = .ok i ∧ f i = .error e := by
  cases s with
  | error e => cases h; exact .inl rfl
  | ok i =>
    simp only [bnd] at h
    cases hf : f i with
    | error e => rw [hf] at h; cases h; exact .inr ⟨i, rfl, hf⟩
    | ok y => obtain ⟨x, k⟩ := y; rw [hf] at h; cases h

/-- THE SAME WITH A FRAME UNDER WAY at block X -/
structure RX (w0 W : World) (p : Nat) (v : Value) (xs : List Int) (R X : Nat) (cs : Array Value) (s : Except (Int × Int) Nat) : Prop where
  base : RQ w0 W p v xs R s
  frm : W.heap[X]? = some (.cells cs 33 (0, 0))
  lt : R < X
  old : ∀ j, v.ownBlock = some j → j < w0.heap.size
section
variable {w0 W W' : World} {p : Nat} {v : Value} {xs : List Int} {R X : Nat} {cs : Array Value} {s s' : Except (Int × Int) Nat}
theorem RX.step (h : RX w0 W p v xs R X cs s) (hg : W.grownBy W' (some p)) (hS : RS W' p v xs.length s') : RX w0 W' p v xs R X cs s' :=
  ⟨h.base.step hg hS, block_kept h.frm hg (by have := h.base.pR; have := h.lt; simp; omega), h.lt, h.old⟩
theorem RX.put (h : RX w0 W p v xs R X cs s) (i : Nat) (x : Value) : RX w0 (W.setCell ⟨X, i, none⟩ x) p v xs R X (cs.setIfInBounds i x) s := by
  have a := h.base.pR; have b := h.lt; have c := h.base.hR
  have hg : W.grownBy (W.setCell ⟨X, i, none⟩ x) (some X) := grownBy_set (World.grownBy.refl _ _) _ _ (.inl rfl)
  refine ⟨⟨h.base.at_.keptG hg (by simp; omega), grownBy_set h.base.gr _ _ (.inr (by show w0.heap.size ≤ X; omega)), h.base.rd.kept hg (fun j hj e => ?_), block_kept h.base.res hg (by simp; omega), h.base.pR, h.base.hR, h.base.free⟩, Joins.block_setCell h.frm _, h.lt, h.old⟩
  have := h.old j hj
  cases e; omega
theorem RX.drewN (h : RX w0 W p v xs R X cs s) (n : Nat) : RX w0 (W.drewN n) p v xs R X cs s := by
  obtain ⟨a, y, z, h1, h2, h3⟩ := h.base.at_
  exact ⟨⟨⟨a, y, z, h1, h2.heap rfl, h3⟩, grownBy_drewN h.base.gr n, h.base.rd.heap rfl, h.base.res, h.base.pR, h.base.hR, h.base.free⟩, h.frm, h.lt, h.old⟩
theorem RX.start (h : RQ w0 W p v xs R s) (hold : ∀ j, v.ownBlock = some j → j < w0.heap.size) : RX w0 (W.alloc (.cells cs 33)) p v xs R W.heap.size cs s := by
  obtain ⟨a, y, z, h1, h2, h3⟩ := h.at_
  have hR : R < W.heap.size := (Array.getElem?_eq_some_iff.1 h.res).1
  refine ⟨⟨⟨a, y, z, h1, h2.alloc _, h3⟩, grownBy_alloc' h.gr _, h.rd.below ((Below.refl _ _).alloc (Nat.le_refl _) _), (Below.heap_alloc _ _ _ hR).trans h.res, h.pR, h.hR, h.free⟩, alloc_at _ _, hR, hold⟩
end
theorem RQ.start0 (p : Nat) (v : Value) (xs : List Int) (s : Except (Int × Int) Nat) (w : World) (hA : RS w p v xs.length s) (hr : Rd .u8 w v xs) (hfree : ∀ j, v.ownBlock = some j → some p ≠ some j) : RQ w (w.alloc (.cells #[.int .i64 0, .int .i64 0, .int .i64 0, .int .i64 0, .int .i64 0, .bool false, .slice none 0 0, .slice none 0 0] 33)) p v xs w.heap.size s := by
  have hlt := hA.lt
  exact ⟨hA.kept ((Below.refl _ _).alloc (Nat.le_refl _) _), World.grownBy_alloc _ _ _, hr.below ((Below.refl _ _).alloc (Nat.le_refl _) _), alloc_at _ _, hlt, Nat.le_refl _, hfree⟩

set_option maxHeartbeats 1600000 in
theorem rstream_00 (p b o cp : Nat) (xs : List Int) (j0 i : Nat) (bt : Int) (w : World) (hA : RS w p (.slice (some ⟨b, o, none⟩) xs.length cp) xs.length (.ok j0)) (hr : Rd .u8 w (.slice (some ⟨b, o, none⟩) xs.length cp) xs) (hx : Bts xs) (hbig : xs.length ≤ 1048576) (hbp : b ≠ p) (hb : b < w.heap.size)
    (h1 : bits .and .i64 (8 + bt) 1 = bt % 2) (h4 : bits .and .i64 (8 + bt) 4 = 0) (h2 : bits .and .i64 (8 + bt) 2 = 0) (e4 : bt / 4 % 2 = 0) (e2 : bt / 2 % 2 = 0) :
    Calls Tryd.prog 53 #[.pointer (some ⟨p, 0, none⟩), .int .i64 (8 + bt), .int .i64 i] w (RFrIs w p (.slice (some ⟨b, o, none⟩) xs.length cp) xs.length (streamR xs i bt j0)) := by
  have hfree : ∀ j, ((.slice (some ⟨b, o, none⟩) xs.length cp) : Value).ownBlock = some j → some p ≠ some j := by
    intro j hj e
    simp only [Value.ownBlock, Option.some.injEq] at hj
    cases e; exact hbp hj
  have hold : ∀ j, ((.slice (some ⟨b, o, none⟩) xs.length cp) : Value).ownBlock = some j → j < w.heap.size := by
    intro j hj
    simp only [Value.ownBlock, Option.some.injEq] at hj
    omega
  have Q0 := Lib.hid (RQ.start0 p _ xs (.ok j0) w hA hr hfree)
  have hfin : (bt % 2 == 1) = (bt % 2 != 0) := by rw [Bool.eq_iff_iff]; simp; omega
  have HX := Lib.hid hx
  have HOLD := Lib.hid hold
  have hEO : Hid (∀ j, offR xs bt j = .ok (0, j)) := by
    intro j; unfold offR; rw [if_pos e4]
  have hEC : Hid (∀ j, countR xs bt j = .ok ((xs.length : Int) - j, j)) := by
    intro j; unfold countR; rw [if_pos e2]
  clear hA hr hx hfree hold e4 e2
  go_enter Tryd.func53, Tryd.ntmps53
  go_wp2_with fail
  refine (rnumber_s p _ xs (.ok j0) _ Q0.out.at_ Q0.out.rd HX.out).mono ?_
  rintro e w2 ⟨n1, rfl, g1, s1, v1, u1⟩
  have X1 := Lib.hid (RX.start (cs := #[.int .i64 8, .int .i64 n1, .int .i64 0, .int .i64 0, .int .i64 0, .bool (bt % 2 != 0), .slice none 0 0, .slice none 0 0]) (Q0.out.step g1 s1) HOLD.out)
  have V1 := Lib.hid v1
  clear g1 s1 v1 u1
  obtain ⟨a1, y1, z1, hle1, hra1, hcase1⟩ := X1.out.base.at_
  have pc0 := hra1.c0
  have pc1 := hra1.c1
  have hw1 : IntKind.i64.wrap ((xs.length : Int) - a1) = (xs.length : Int) - a1 := by rw [IntKind.wrap_i64]; omega
  have HC1 := Lib.hid hcase1
  have HLE := Lib.hid hle1
  clear hra1 hcase1
  go_wp2_with fail
  go_quiet (fail)
  have X4 := Lib.hid (X1.out.drewN nq)
  obtain ⟨a2, y2, z2, hle2, hra2, hcase2⟩ := X4.out.base.at_
  have RO := Lib.hid (rok_any p _ a2 y2 z2 _ hra2)
  have fd := fun i => Joins.cell_of_block X4.out.frm i
  have fd0 := fd 0
  have fd1 := fd 1
  have fd2 := fd 2
  have fd3 := fd 3
  have fd4 := fd 4
  have fd5 := fd 5
  have fd6 := fd 6
  have fd7 := fd 7
  have fdf := Joins.unfrozen_of_block X4.out.frm
  clear fd
  clear hra2
  rcases hcase2 with ⟨hs2, rfl, rfl⟩ | ⟨hs2, hy2⟩
  · -- a place
    obtain ⟨k0, x1, hk0, hq1⟩ := stE_ok hs2
    cases hk0
    have r1 := V1.out x1 a2 (by simp only [bnd, hq1])
    have ha12 : a1 = a2 := by
      rcases HC1.out with ⟨h, _, _⟩ | ⟨h, _⟩
      · rw [h] at hs2; cases hs2; rfl
      · rw [h] at hs2; cases hs2
    subst ha12
    subst r1
    have HR : Hid ((streamR xs i bt j0) = thn (tailR xs i 0 ((xs.length : Int) - a1) a1) fun d j => (.ok (⟨8, x1, 0, 0, 0, (bt % 2 != 0), d, []⟩, j) : Except (Int × Int) (Fr × Nat))) := by
      show _ = _
      unfold streamR
      rw [thn_ok hq1, hEO.out, thn_ok (show (Except.ok (0, _) : Except (Int × Int) (Int × Nat)) = .ok (0, _) from rfl), hEC.out, thn_ok (show (Except.ok (_, _) : Except (Int × Int) (Int × Nat)) = .ok (_, _) from rfl)]
    by_cases hfl : (4611686018427387903 : Int) - 0 < ((xs.length : Int) - a1)
    · have tfl : decide (4611686018427387903 < ((xs.length : Int) - a1)) = true := decide_eq_true (by omega)
      have HT : Hid (tailR xs i 0 ((xs.length : Int) - a1) a1 = .error (7, i)) := if_pos hfl
      have FA := Lib.hid (rfails_any p _ xs.length (.ok a1) 7 i _ (hs2 ▸ X4.out.base.at_) (by omega))
      clear hfl
      go_wp2_with (go_at_call 38; refine RO.out.mono ?_; rintro e w' ⟨rfl, rfl⟩)
      go_wp2_with (go_at_call 36; refine FA.out.mono ?_; rintro e w6 ⟨rfl, g6, s6⟩; have X6 := Lib.hid (X4.out.step g6 s6))
      refine (rtake_s p b o cp xs (.error (7, (i : Int))) _ _ X6.out.base.at_ X6.out.base.rd hbig hbp (fun j h => by cases h)).mono ?_
      rintro e w7 ⟨ua, un, uc, rfl, g7, s7, o7⟩
      have X7 := Lib.hid (X6.out.step g7 s7)
      have hRX := X7.out.lt
      have hX7 := (Array.getElem?_eq_some_iff.1 X7.out.frm).1
      have hpR := X7.out.base.pR
      have hne1 : w.heap.size ≠ w2.heap.size := Nat.ne_of_lt hRX
      have hne2 : w2.heap.size ≠ w.heap.size := (Nat.ne_of_lt hRX).symm
      clear g6 s6 g7 s7 o7
      have fe := fun i => Joins.cell_of_block X7.out.frm i
      have fe0 := fe 0
      have fe1 := fe 1
      have fe2 := fe 2
      have fe3 := fe 3
      have fe4 := fe 4
      have fe5 := fe 5
      have fe6 := fe 6
      have fe7 := fe 7
      have fef := Joins.unfrozen_of_block X7.out.frm
      clear fe
      have rc := fun i => Joins.cell_of_block X7.out.base.res i
      have rc0 := rc 0
      have rc1 := rc 1
      have rc2 := rc 2
      have rc3 := rc 3
      have rc4 := rc 4
      have rc5 := rc 5
      have rc6 := rc 6
      have rc7 := rc 7
      have rcf := Joins.unfrozen_of_block X7.out.base.res
      clear rc
      go_wp2
      obtain ⟨D1, D2⟩ := RQ.done (X7.out.put 6 (.slice ua un uc)).base (set8 _ w.heap.size _ _ _ _ _ _ _ _)
      refine bodyPost_ret (v := .agg #[.int .i64 8, .int .i64 x1, .int .i64 0, .int .i64 0, .int .i64 0, .bool (bt % 2 != 0), .slice ua un uc, .slice none 0 0]) (by simp [results, Tryd.results53, go_sem, rc0, rc1, rc2, rc3, rc4, rc5, rc6, rc7]) rfl ?_
      refine ⟨8, x1, 0, 0, 0, (bt % 2 != 0), ua, none, un, uc, 0, 0, rfl, D1, ?_, ?_⟩
      · rw [HR.out, thn_err HT.out]; exact D2
      · intro f j hf; rw [HR.out, thn_err HT.out] at hf; cases hf
    · have tfl : decide (4611686018427387903 < ((xs.length : Int) - a1)) = false := decide_eq_false (by omega)
      have HT : Hid (tailR xs i 0 ((xs.length : Int) - a1) a1 = dataR xs a1 ((xs.length : Int) - a1)) := if_neg hfl
      have TA := Lib.hid (rtake_s p b o cp xs (.ok a1) ((xs.length : Int) - a1) _ (hs2 ▸ X4.out.base.at_) X4.out.base.rd hbig hbp (fun j h => by omega))
      clear hfl
      go_wp2_with (go_at_call 38; refine RO.out.mono ?_; rintro e w' ⟨rfl, rfl⟩)
      refine TA.out.mono ?_
      rintro e w7 ⟨ua, un, uc, rfl, g7, s7, o7⟩
      have X7 := Lib.hid (X4.out.step g7 s7)
      have W7 := Lib.hid (grownBy_trans X4.out.base.gr g7).size
      have O7 := Lib.hid o7
      have Z7 := Lib.hid X4.out.base.gr.size
      have hRX := X7.out.lt
      have hX7 := (Array.getElem?_eq_some_iff.1 X7.out.frm).1
      have hpR := X7.out.base.pR
      have hne1 : w.heap.size ≠ w2.heap.size := Nat.ne_of_lt hRX
      have hne2 : w2.heap.size ≠ w.heap.size := (Nat.ne_of_lt hRX).symm
      clear g7 s7 o7
      have fe := fun i => Joins.cell_of_block X7.out.frm i
      have fe0 := fe 0
      have fe1 := fe 1
      have fe2 := fe 2
      have fe3 := fe 3
      have fe4 := fe 4
      have fe5 := fe 5
      have fe6 := fe 6
      have fe7 := fe 7
      have fef := Joins.unfrozen_of_block X7.out.frm
      clear fe
      have rc := fun i => Joins.cell_of_block X7.out.base.res i
      have rc0 := rc 0
      have rc1 := rc 1
      have rc2 := rc 2
      have rc3 := rc 3
      have rc4 := rc 4
      have rc5 := rc 5
      have rc6 := rc 6
      have rc7 := rc 7
      have rcf := Joins.unfrozen_of_block X7.out.base.res
      clear rc
      go_wp2
      obtain ⟨D1, D2⟩ := RQ.done (X7.out.put 6 (.slice ua un uc)).base (set8 _ w.heap.size _ _ _ _ _ _ _ _)
      refine bodyPost_ret (v := .agg #[.int .i64 8, .int .i64 x1, .int .i64 0, .int .i64 0, .int .i64 0, .bool (bt % 2 != 0), .slice ua un uc, .slice none 0 0]) (by simp [results, Tryd.results53, go_sem, rc0, rc1, rc2, rc3, rc4, rc5, rc6, rc7]) rfl ?_
      refine ⟨8, x1, 0, 0, 0, (bt % 2 != 0), ua, none, un, uc, 0, 0, rfl, D1, ?_, ?_⟩
      · rw [HR.out, HT.out]
        have e : stE (thn (dataR xs a1 ((xs.length : Int) - a1)) fun d j => (.ok (⟨8, x1, 0, 0, 0, (bt % 2 != 0), d, []⟩, j) : Except (Int × Int) (Fr × Nat))) = stE (bnd (.ok a1) fun j => dataR xs j ((xs.length : Int) - a1)) := by
          simp only [bnd]
          cases dataR xs a1 ((xs.length : Int) - a1) <;> rfl
        rw [e]; exact D2
      · intro f j hf
        rw [HR.out, HT.out] at hf
        obtain ⟨d, k, hd, hf⟩ := thn_inv hf
        cases hf
        refine ⟨rfl, rfl, rfl, rfl, rfl, rfl, ?_, OwnS.nil _ _⟩
        have OW := O7.out d _ hd
        have hXB := (Array.getElem?_eq_some_iff.1 X4.out.frm).1
        have hRX := X4.out.lt
        exact (Own.kept (Own.kept OW (grownBy_set (row := some w2.heap.size) (World.grownBy.refl _ _) _ _ (.inl rfl)) (fun j hj e => by have h1 := OW.blk j hj; have h2 := Option.some.inj e; omega)) (set8 _ w.heap.size _ _ _ _ _ _ _ _) (fun j hj e => by have h1 := OW.blk j hj; have h2 := Option.some.inj e; omega)).mono Z7.out
  · -- a fault
    have e0 : (y2 == 0) = false := by simpa using hy2
    rw [e0] at RO
    have HR : Hid ((streamR xs i bt j0) = .error (y2, z2)) := by
      show _ = _
      unfold streamR
      rcases stE_err hs2 with h | ⟨k0, hk0, hq1⟩
      · cases h
      · cases hk0; rw [thn_err hq1]
    have TA := Lib.hid (rtake_s p b o cp xs (.error (y2, z2)) ((xs.length : Int) - a1) _ (hs2 ▸ X4.out.base.at_) X4.out.base.rd hbig hbp (fun j h => by cases h))
    go_wp2_with (go_at_call 38; refine RO.out.mono ?_; rintro e w' ⟨rfl, rfl⟩)
    refine TA.out.mono ?_
    rintro e w7 ⟨ua, un, uc, rfl, g7, s7, o7⟩
    have X7 := Lib.hid (X4.out.step g7 s7)
    have hRX := X7.out.lt
    have hX7 := (Array.getElem?_eq_some_iff.1 X7.out.frm).1
    have hpR := X7.out.base.pR
    have hne1 : w.heap.size ≠ w2.heap.size := Nat.ne_of_lt hRX
    have hne2 : w2.heap.size ≠ w.heap.size := (Nat.ne_of_lt hRX).symm
    clear g7 s7 o7
    have fe := fun i => Joins.cell_of_block X7.out.frm i
    have fe0 := fe 0
    have fe1 := fe 1
    have fe2 := fe 2
    have fe3 := fe 3
    have fe4 := fe 4
    have fe5 := fe 5
    have fe6 := fe 6
    have fe7 := fe 7
    have fef := Joins.unfrozen_of_block X7.out.frm
    clear fe
    have rc := fun i => Joins.cell_of_block X7.out.base.res i
    have rc0 := rc 0
    have rc1 := rc 1
    have rc2 := rc 2
    have rc3 := rc 3
    have rc4 := rc 4
    have rc5 := rc 5
    have rc6 := rc 6
    have rc7 := rc 7
    have rcf := Joins.unfrozen_of_block X7.out.base.res
    clear rc
    go_wp2
    obtain ⟨D1, D2⟩ := RQ.done (X7.out.put 6 (.slice ua un uc)).base (set8 _ w.heap.size _ _ _ _ _ _ _ _)
    refine bodyPost_ret (v := .agg #[.int .i64 8, .int .i64 n1, .int .i64 0, .int .i64 0, .int .i64 0, .bool (bt % 2 != 0), .slice ua un uc, .slice none 0 0]) (by simp [results, Tryd.results53, go_sem, rc0, rc1, rc2, rc3, rc4, rc5, rc6, rc7]) rfl ?_
    refine ⟨8, n1, 0, 0, 0, (bt % 2 != 0), ua, none, un, uc, 0, 0, rfl, D1, ?_, ?_⟩
    · rw [HR.out]; exact D2
    · intro f j hf; rw [HR.out] at hf; cases hf

set_option maxHeartbeats 1600000 in
theorem rstream_01 (p b o cp : Nat) (xs : List Int) (j0 i : Nat) (bt : Int) (w : World) (hA : RS w p (.slice (some ⟨b, o, none⟩) xs.length cp) xs.length (.ok j0)) (hr : Rd .u8 w (.slice (some ⟨b, o, none⟩) xs.length cp) xs) (hx : Bts xs) (hbig : xs.length ≤ 1048576) (hbp : b ≠ p) (hb : b < w.heap.size)
    (h1 : bits .and .i64 (8 + bt) 1 = bt % 2) (h4 : bits .and .i64 (8 + bt) 4 = 0) (h2 : bits .and .i64 (8 + bt) 2 = 2) (e4 : bt / 4 % 2 = 0) (e2 : bt / 2 % 2 = 1) :
    Calls Tryd.prog 53 #[.pointer (some ⟨p, 0, none⟩), .int .i64 (8 + bt), .int .i64 i] w (RFrIs w p (.slice (some ⟨b, o, none⟩) xs.length cp) xs.length (streamR xs i bt j0)) := by
  have hfree : ∀ j, ((.slice (some ⟨b, o, none⟩) xs.length cp) : Value).ownBlock = some j → some p ≠ some j := by
    intro j hj e
    simp only [Value.ownBlock, Option.some.injEq] at hj
    cases e; exact hbp hj
  have hold : ∀ j, ((.slice (some ⟨b, o, none⟩) xs.length cp) : Value).ownBlock = some j → j < w.heap.size := by
    intro j hj
    simp only [Value.ownBlock, Option.some.injEq] at hj
    omega
  have Q0 := Lib.hid (RQ.start0 p _ xs (.ok j0) w hA hr hfree)
  have hfin : (bt % 2 == 1) = (bt % 2 != 0) := by rw [Bool.eq_iff_iff]; simp; omega
  have HX := Lib.hid hx
  have HOLD := Lib.hid hold
  have hEO : Hid (∀ j, offR xs bt j = .ok (0, j)) := by
    intro j; unfold offR; rw [if_pos e4]
  have hEC : Hid (∀ j, countR xs bt j = num xs j) := by
    intro j; unfold countR; rw [if_neg (by omega)]
  clear hA hr hx hfree hold e4 e2
  go_enter Tryd.func53, Tryd.ntmps53
  go_wp2_with fail
  refine (rnumber_s p _ xs (.ok j0) _ Q0.out.at_ Q0.out.rd HX.out).mono ?_
  rintro e w2 ⟨n1, rfl, g1, s1, v1, u1⟩
  have X1 := Lib.hid (RX.start (cs := #[.int .i64 8, .int .i64 n1, .int .i64 0, .int .i64 0, .int .i64 0, .bool (bt % 2 != 0), .slice none 0 0, .slice none 0 0]) (Q0.out.step g1 s1) HOLD.out)
  have V1 := Lib.hid v1
  clear g1 s1 v1 u1
  obtain ⟨a1, y1, z1, hle1, hra1, hcase1⟩ := X1.out.base.at_
  have pc0 := hra1.c0
  have pc1 := hra1.c1
  have hw1 : IntKind.i64.wrap ((xs.length : Int) - a1) = (xs.length : Int) - a1 := by rw [IntKind.wrap_i64]; omega
  have HC1 := Lib.hid hcase1
  have HLE := Lib.hid hle1
  clear hra1 hcase1
  go_wp2_with fail
  go_quiet (fail)
  have X4 := Lib.hid (X1.out.drewN nq)
  go_wp2_with fail
  refine (rnumber_s p _ xs (stE (bnd (.ok j0) (num xs))) _ X4.out.base.at_ X4.out.base.rd HX.out).mono ?_
  rintro e w4 ⟨n3, rfl, g3, s3, v3, u3⟩
  have X5 := Lib.hid (X4.out.step g3 s3)
  have V3 := Lib.hid v3
  clear g3 s3 v3 u3
  obtain ⟨a2, y2, z2, hle2, hra2, hcase2⟩ := X5.out.base.at_
  have RO := Lib.hid (rok_any p _ a2 y2 z2 _ hra2)
  have fd := fun i => Joins.cell_of_block X5.out.frm i
  have fd0 := fd 0
  have fd1 := fd 1
  have fd2 := fd 2
  have fd3 := fd 3
  have fd4 := fd 4
  have fd5 := fd 5
  have fd6 := fd 6
  have fd7 := fd 7
  have fdf := Joins.unfrozen_of_block X5.out.frm
  clear fd
  clear hra2
  rcases hcase2 with ⟨hs2, rfl, rfl⟩ | ⟨hs2, hy2⟩
  · -- a place
    obtain ⟨k1, x3, hk1, hq3⟩ := stE_ok hs2
    obtain ⟨k0, x1, hk0, hq1⟩ := stE_ok hk1
    cases hk0
    have r3 := V3.out x3 a2 (bnd_ok hk1 hq3)
    have r1 := V1.out x1 k1 (by simp only [bnd, hq1])
    have m3 := num_ok HX.out hq3
    subst r3
    subst r1
    have HR : Hid ((streamR xs i bt j0) = thn (tailR xs i 0 x3 a2) fun d j => (.ok (⟨8, x1, 0, 0, 0, (bt % 2 != 0), d, []⟩, j) : Except (Int × Int) (Fr × Nat))) := by
      show _ = _
      unfold streamR
      rw [thn_ok hq1, hEO.out, thn_ok (show (Except.ok (0, _) : Except (Int × Int) (Int × Nat)) = .ok (0, _) from rfl), hEC.out, thn_ok hq3]
    by_cases hfl : (4611686018427387903 : Int) - 0 < x3
    · have tfl : decide (4611686018427387903 < x3) = true := decide_eq_true (by omega)
      have HT : Hid (tailR xs i 0 x3 a2 = .error (7, i)) := if_pos hfl
      have FA := Lib.hid (rfails_any p _ xs.length (.ok a2) 7 i _ (hs2 ▸ X5.out.base.at_) (by omega))
      clear hfl
      go_wp2_with (go_at_call 38; refine RO.out.mono ?_; rintro e w' ⟨rfl, rfl⟩)
      go_wp2_with (go_at_call 36; refine FA.out.mono ?_; rintro e w6 ⟨rfl, g6, s6⟩; have X6 := Lib.hid (X5.out.step g6 s6))
      refine (rtake_s p b o cp xs (.error (7, (i : Int))) _ _ X6.out.base.at_ X6.out.base.rd hbig hbp (fun j h => by cases h)).mono ?_
      rintro e w7 ⟨ua, un, uc, rfl, g7, s7, o7⟩
      have X7 := Lib.hid (X6.out.step g7 s7)
      have hRX := X7.out.lt
      have hX7 := (Array.getElem?_eq_some_iff.1 X7.out.frm).1
      have hpR := X7.out.base.pR
      have hne1 : w.heap.size ≠ w2.heap.size := Nat.ne_of_lt hRX
      have hne2 : w2.heap.size ≠ w.heap.size := (Nat.ne_of_lt hRX).symm
      clear g6 s6 g7 s7 o7
      have fe := fun i => Joins.cell_of_block X7.out.frm i
      have fe0 := fe 0
      have fe1 := fe 1
      have fe2 := fe 2
      have fe3 := fe 3
      have fe4 := fe 4
      have fe5 := fe 5
      have fe6 := fe 6
      have fe7 := fe 7
      have fef := Joins.unfrozen_of_block X7.out.frm
      clear fe
      have rc := fun i => Joins.cell_of_block X7.out.base.res i
      have rc0 := rc 0
      have rc1 := rc 1
      have rc2 := rc 2
      have rc3 := rc 3
      have rc4 := rc 4
      have rc5 := rc 5
      have rc6 := rc 6
      have rc7 := rc 7
      have rcf := Joins.unfrozen_of_block X7.out.base.res
      clear rc
      go_wp2
      obtain ⟨D1, D2⟩ := RQ.done (X7.out.put 6 (.slice ua un uc)).base (set8 _ w.heap.size _ _ _ _ _ _ _ _)
      refine bodyPost_ret (v := .agg #[.int .i64 8, .int .i64 x1, .int .i64 0, .int .i64 0, .int .i64 0, .bool (bt % 2 != 0), .slice ua un uc, .slice none 0 0]) (by simp [results, Tryd.results53, go_sem, rc0, rc1, rc2, rc3, rc4, rc5, rc6, rc7]) rfl ?_
      refine ⟨8, x1, 0, 0, 0, (bt % 2 != 0), ua, none, un, uc, 0, 0, rfl, D1, ?_, ?_⟩
      · rw [HR.out, thn_err HT.out]; exact D2
      · intro f j hf; rw [HR.out, thn_err HT.out] at hf; cases hf
    · have tfl : decide (4611686018427387903 < x3) = false := decide_eq_false (by omega)
      have HT : Hid (tailR xs i 0 x3 a2 = dataR xs a2 x3) := if_neg hfl
      have TA := Lib.hid (rtake_s p b o cp xs (.ok a2) x3 _ (hs2 ▸ X5.out.base.at_) X5.out.base.rd hbig hbp (fun j h => by omega))
      clear hfl
      go_wp2_with (go_at_call 38; refine RO.out.mono ?_; rintro e w' ⟨rfl, rfl⟩)
      refine TA.out.mono ?_
      rintro e w7 ⟨ua, un, uc, rfl, g7, s7, o7⟩
      have X7 := Lib.hid (X5.out.step g7 s7)
      have W7 := Lib.hid (grownBy_trans X5.out.base.gr g7).size
      have O7 := Lib.hid o7
      have Z7 := Lib.hid X5.out.base.gr.size
      have hRX := X7.out.lt
      have hX7 := (Array.getElem?_eq_some_iff.1 X7.out.frm).1
      have hpR := X7.out.base.pR
      have hne1 : w.heap.size ≠ w2.heap.size := Nat.ne_of_lt hRX
      have hne2 : w2.heap.size ≠ w.heap.size := (Nat.ne_of_lt hRX).symm
      clear g7 s7 o7
      have fe := fun i => Joins.cell_of_block X7.out.frm i
      have fe0 := fe 0
      have fe1 := fe 1
      have fe2 := fe 2
      have fe3 := fe 3
      have fe4 := fe 4
      have fe5 := fe 5
      have fe6 := fe 6
      have fe7 := fe 7
      have fef := Joins.unfrozen_of_block X7.out.frm
      clear fe
      have rc := fun i => Joins.cell_of_block X7.out.base.res i
      have rc0 := rc 0
      have rc1 := rc 1
      have rc2 := rc 2
      have rc3 := rc 3
      have rc4 := rc 4
      have rc5 := rc 5
      have rc6 := rc 6
      have rc7 := rc 7
      have rcf := Joins.unfrozen_of_block X7.out.base.res
      clear rc
      go_wp2
      obtain ⟨D1, D2⟩ := RQ.done (X7.out.put 6 (.slice ua un uc)).base (set8 _ w.heap.size _ _ _ _ _ _ _ _)
      refine bodyPost_ret (v := .agg #[.int .i64 8, .int .i64 x1, .int .i64 0, .int .i64 0, .int .i64 0, .bool (bt % 2 != 0), .slice ua un uc, .slice none 0 0]) (by simp [results, Tryd.results53, go_sem, rc0, rc1, rc2, rc3, rc4, rc5, rc6, rc7]) rfl ?_
      refine ⟨8, x1, 0, 0, 0, (bt % 2 != 0), ua, none, un, uc, 0, 0, rfl, D1, ?_, ?_⟩
      · rw [HR.out, HT.out]
        have e : stE (thn (dataR xs a2 x3) fun d j => (.ok (⟨8, x1, 0, 0, 0, (bt % 2 != 0), d, []⟩, j) : Except (Int × Int) (Fr × Nat))) = stE (bnd (.ok a2) fun j => dataR xs j x3) := by
          simp only [bnd]
          cases dataR xs a2 x3 <;> rfl
        rw [e]; exact D2
      · intro f j hf
        rw [HR.out, HT.out] at hf
        obtain ⟨d, k, hd, hf⟩ := thn_inv hf
        cases hf
        refine ⟨rfl, rfl, rfl, rfl, rfl, rfl, ?_, OwnS.nil _ _⟩
        have OW := O7.out d _ hd
        have hXB := (Array.getElem?_eq_some_iff.1 X5.out.frm).1
        have hRX := X5.out.lt
        exact (Own.kept (Own.kept OW (grownBy_set (row := some w2.heap.size) (World.grownBy.refl _ _) _ _ (.inl rfl)) (fun j hj e => by have h1 := OW.blk j hj; have h2 := Option.some.inj e; omega)) (set8 _ w.heap.size _ _ _ _ _ _ _ _) (fun j hj e => by have h1 := OW.blk j hj; have h2 := Option.some.inj e; omega)).mono Z7.out
  · -- a fault
    have e0 : (y2 == 0) = false := by simpa using hy2
    rw [e0] at RO
    have HR : Hid ((streamR xs i bt j0) = .error (y2, z2)) := by
      show _ = _
      unfold streamR
      rcases stE_err hs2 with h | ⟨k1, hk1, hq3⟩
      · rcases stE_err h with h | ⟨k0, hk0, hq1⟩
        · cases h
        · cases hk0; rw [thn_err hq1]
      · obtain ⟨k0, x1, hk0, hq1⟩ := stE_ok hk1
        cases hk0; rw [thn_ok hq1, hEO.out, thn_ok (show (Except.ok (0, _) : Except (Int × Int) (Int × Nat)) = .ok (0, _) from rfl), hEC.out, thn_err hq3]
    have TA := Lib.hid (rtake_s p b o cp xs (.error (y2, z2)) n3 _ (hs2 ▸ X5.out.base.at_) X5.out.base.rd hbig hbp (fun j h => by cases h))
    go_wp2_with (go_at_call 38; refine RO.out.mono ?_; rintro e w' ⟨rfl, rfl⟩)
    refine TA.out.mono ?_
    rintro e w7 ⟨ua, un, uc, rfl, g7, s7, o7⟩
    have X7 := Lib.hid (X5.out.step g7 s7)
    have hRX := X7.out.lt
    have hX7 := (Array.getElem?_eq_some_iff.1 X7.out.frm).1
    have hpR := X7.out.base.pR
    have hne1 : w.heap.size ≠ w2.heap.size := Nat.ne_of_lt hRX
    have hne2 : w2.heap.size ≠ w.heap.size := (Nat.ne_of_lt hRX).symm
    clear g7 s7 o7
    have fe := fun i => Joins.cell_of_block X7.out.frm i
    have fe0 := fe 0
    have fe1 := fe 1
    have fe2 := fe 2
    have fe3 := fe 3
    have fe4 := fe 4
    have fe5 := fe 5
    have fe6 := fe 6
    have fe7 := fe 7
    have fef := Joins.unfrozen_of_block X7.out.frm
    clear fe
    have rc := fun i => Joins.cell_of_block X7.out.base.res i
    have rc0 := rc 0
    have rc1 := rc 1
    have rc2 := rc 2
    have rc3 := rc 3
    have rc4 := rc 4
    have rc5 := rc 5
    have rc6 := rc 6
    have rc7 := rc 7
    have rcf := Joins.unfrozen_of_block X7.out.base.res
    clear rc
    go_wp2
    obtain ⟨D1, D2⟩ := RQ.done (X7.out.put 6 (.slice ua un uc)).base (set8 _ w.heap.size _ _ _ _ _ _ _ _)
    refine bodyPost_ret (v := .agg #[.int .i64 8, .int .i64 n1, .int .i64 0, .int .i64 0, .int .i64 0, .bool (bt % 2 != 0), .slice ua un uc, .slice none 0 0]) (by simp [results, Tryd.results53, go_sem, rc0, rc1, rc2, rc3, rc4, rc5, rc6, rc7]) rfl ?_
    refine ⟨8, n1, 0, 0, 0, (bt % 2 != 0), ua, none, un, uc, 0, 0, rfl, D1, ?_, ?_⟩
    · rw [HR.out]; exact D2
    · intro f j hf; rw [HR.out] at hf; cases hf

set_option maxHeartbeats 1600000 in
theorem rstream_10 (p b o cp : Nat) (xs : List Int) (j0 i : Nat) (bt : Int) (w : World) (hA : RS w p (.slice (some ⟨b, o, none⟩) xs.length cp) xs.length (.ok j0)) (hr : Rd .u8 w (.slice (some ⟨b, o, none⟩) xs.length cp) xs) (hx : Bts xs) (hbig : xs.length ≤ 1048576) (hbp : b ≠ p) (hb : b < w.heap.size)
    (h1 : bits .and .i64 (8 + bt) 1 = bt % 2) (h4 : bits .and .i64 (8 + bt) 4 = 4) (h2 : bits .and .i64 (8 + bt) 2 = 0) (e4 : bt / 4 % 2 = 1) (e2 : bt / 2 % 2 = 0) :
    Calls Tryd.prog 53 #[.pointer (some ⟨p, 0, none⟩), .int .i64 (8 + bt), .int .i64 i] w (RFrIs w p (.slice (some ⟨b, o, none⟩) xs.length cp) xs.length (streamR xs i bt j0)) := by
  have hfree : ∀ j, ((.slice (some ⟨b, o, none⟩) xs.length cp) : Value).ownBlock = some j → some p ≠ some j := by
    intro j hj e
    simp only [Value.ownBlock, Option.some.injEq] at hj
    cases e; exact hbp hj
  have hold : ∀ j, ((.slice (some ⟨b, o, none⟩) xs.length cp) : Value).ownBlock = some j → j < w.heap.size := by
    intro j hj
    simp only [Value.ownBlock, Option.some.injEq] at hj
    omega
  have Q0 := Lib.hid (RQ.start0 p _ xs (.ok j0) w hA hr hfree)
  have hfin : (bt % 2 == 1) = (bt % 2 != 0) := by rw [Bool.eq_iff_iff]; simp; omega
  have HX := Lib.hid hx
  have HOLD := Lib.hid hold
  have hEO : Hid (∀ j, offR xs bt j = num xs j) := by
    intro j; unfold offR; rw [if_neg (by omega)]
  have hEC : Hid (∀ j, countR xs bt j = .ok ((xs.length : Int) - j, j)) := by
    intro j; unfold countR; rw [if_pos e2]
  clear hA hr hx hfree hold e4 e2
  go_enter Tryd.func53, Tryd.ntmps53
  go_wp2_with fail
  refine (rnumber_s p _ xs (.ok j0) _ Q0.out.at_ Q0.out.rd HX.out).mono ?_
  rintro e w2 ⟨n1, rfl, g1, s1, v1, u1⟩
  have X1 := Lib.hid (RX.start (cs := #[.int .i64 8, .int .i64 n1, .int .i64 0, .int .i64 0, .int .i64 0, .bool (bt % 2 != 0), .slice none 0 0, .slice none 0 0]) (Q0.out.step g1 s1) HOLD.out)
  have V1 := Lib.hid v1
  clear g1 s1 v1 u1
  go_wp2_with fail
  refine (rnumber_s p _ xs (stE (bnd (.ok j0) (num xs))) _ X1.out.base.at_ X1.out.base.rd HX.out).mono ?_
  rintro e w3 ⟨n2, rfl, g2, s2, v2, u2⟩
  have X2 := Lib.hid (X1.out.step g2 s2)
  have V2 := Lib.hid v2
  have U2 := Lib.hid u2
  clear g2 s2 v2 u2
  have fc := fun i => Joins.cell_of_block X2.out.frm i
  have fc0 := fc 0
  have fc1 := fc 1
  have fc2 := fc 2
  have fc3 := fc 3
  have fc4 := fc 4
  have fc5 := fc 5
  have fc6 := fc 6
  have fc7 := fc 7
  have fcf := Joins.unfrozen_of_block X2.out.frm
  clear fc
  have X3 := Lib.hid (X2.out.put 2 (.int .i64 n2))
  obtain ⟨a1, y1, z1, hle1, hra1, hcase1⟩ := X3.out.base.at_
  have pc0 := hra1.c0
  have pc1 := hra1.c1
  have hw1 : IntKind.i64.wrap ((xs.length : Int) - a1) = (xs.length : Int) - a1 := by rw [IntKind.wrap_i64]; omega
  have HC1 := Lib.hid hcase1
  have HLE := Lib.hid hle1
  clear hra1 hcase1
  go_wp2_with fail
  go_quiet (fail)
  have X4 := Lib.hid (X3.out.drewN nq)
  obtain ⟨a2, y2, z2, hle2, hra2, hcase2⟩ := X4.out.base.at_
  have RO := Lib.hid (rok_any p _ a2 y2 z2 _ hra2)
  have fd := fun i => Joins.cell_of_block X4.out.frm i
  have fd0 := fd 0
  have fd1 := fd 1
  have fd2 := fd 2
  have fd3 := fd 3
  have fd4 := fd 4
  have fd5 := fd 5
  have fd6 := fd 6
  have fd7 := fd 7
  have fdf := Joins.unfrozen_of_block X4.out.frm
  clear fd
  clear hra2
  rcases hcase2 with ⟨hs2, rfl, rfl⟩ | ⟨hs2, hy2⟩
  · -- a place
    obtain ⟨k1, x2, hk1, hq2⟩ := stE_ok hs2
    obtain ⟨k0, x1, hk0, hq1⟩ := stE_ok hk1
    cases hk0
    have r2 := V2.out x2 a2 (bnd_ok hk1 hq2)
    have r1 := V1.out x1 k1 (by simp only [bnd, hq1])
    have m2 := num_ok HX.out hq2
    have ha12 : a1 = a2 := by
      rcases HC1.out with ⟨h, _, _⟩ | ⟨h, _⟩
      · rw [h] at hs2; cases hs2; rfl
      · rw [h] at hs2; cases hs2
    subst ha12
    subst r2
    subst r1
    have HR : Hid ((streamR xs i bt j0) = thn (tailR xs i x2 ((xs.length : Int) - a1) a1) fun d j => (.ok (⟨8, x1, x2, 0, 0, (bt % 2 != 0), d, []⟩, j) : Except (Int × Int) (Fr × Nat))) := by
      show _ = _
      unfold streamR
      rw [thn_ok hq1, hEO.out, thn_ok hq2, hEC.out, thn_ok (show (Except.ok (_, _) : Except (Int × Int) (Int × Nat)) = .ok (_, _) from rfl)]
    have hwo : IntKind.i64.wrap (4611686018427387903 - x2) = 4611686018427387903 - x2 := by rw [IntKind.wrap_i64]; omega
    by_cases hfl : (4611686018427387903 : Int) - x2 < ((xs.length : Int) - a1)
    · have tfl : decide (4611686018427387903 - x2 < ((xs.length : Int) - a1)) = true := decide_eq_true (by omega)
      have HT : Hid (tailR xs i x2 ((xs.length : Int) - a1) a1 = .error (7, i)) := if_pos hfl
      have FA := Lib.hid (rfails_any p _ xs.length (.ok a1) 7 i _ (hs2 ▸ X4.out.base.at_) (by omega))
      clear hfl
      go_wp2_with (go_at_call 38; refine RO.out.mono ?_; rintro e w' ⟨rfl, rfl⟩)
      go_wp2_with (go_at_call 36; refine FA.out.mono ?_; rintro e w6 ⟨rfl, g6, s6⟩; have X6 := Lib.hid (X4.out.step g6 s6))
      refine (rtake_s p b o cp xs (.error (7, (i : Int))) _ _ X6.out.base.at_ X6.out.base.rd hbig hbp (fun j h => by cases h)).mono ?_
      rintro e w7 ⟨ua, un, uc, rfl, g7, s7, o7⟩
      have X7 := Lib.hid (X6.out.step g7 s7)
      have hRX := X7.out.lt
      have hX7 := (Array.getElem?_eq_some_iff.1 X7.out.frm).1
      have hpR := X7.out.base.pR
      have hne1 : w.heap.size ≠ w2.heap.size := Nat.ne_of_lt hRX
      have hne2 : w2.heap.size ≠ w.heap.size := (Nat.ne_of_lt hRX).symm
      clear g6 s6 g7 s7 o7
      have fe := fun i => Joins.cell_of_block X7.out.frm i
      have fe0 := fe 0
      have fe1 := fe 1
      have fe2 := fe 2
      have fe3 := fe 3
      have fe4 := fe 4
      have fe5 := fe 5
      have fe6 := fe 6
      have fe7 := fe 7
      have fef := Joins.unfrozen_of_block X7.out.frm
      clear fe
      have rc := fun i => Joins.cell_of_block X7.out.base.res i
      have rc0 := rc 0
      have rc1 := rc 1
      have rc2 := rc 2
      have rc3 := rc 3
      have rc4 := rc 4
      have rc5 := rc 5
      have rc6 := rc 6
      have rc7 := rc 7
      have rcf := Joins.unfrozen_of_block X7.out.base.res
      clear rc
      go_wp2
      obtain ⟨D1, D2⟩ := RQ.done (X7.out.put 6 (.slice ua un uc)).base (set8 _ w.heap.size _ _ _ _ _ _ _ _)
      refine bodyPost_ret (v := .agg #[.int .i64 8, .int .i64 x1, .int .i64 x2, .int .i64 0, .int .i64 0, .bool (bt % 2 != 0), .slice ua un uc, .slice none 0 0]) (by simp [results, Tryd.results53, go_sem, rc0, rc1, rc2, rc3, rc4, rc5, rc6, rc7]) rfl ?_
      refine ⟨8, x1, x2, 0, 0, (bt % 2 != 0), ua, none, un, uc, 0, 0, rfl, D1, ?_, ?_⟩
      · rw [HR.out, thn_err HT.out]; exact D2
      · intro f j hf; rw [HR.out, thn_err HT.out] at hf; cases hf
    · have tfl : decide (4611686018427387903 - x2 < ((xs.length : Int) - a1)) = false := decide_eq_false (by omega)
      have HT : Hid (tailR xs i x2 ((xs.length : Int) - a1) a1 = dataR xs a1 ((xs.length : Int) - a1)) := if_neg hfl
      have TA := Lib.hid (rtake_s p b o cp xs (.ok a1) ((xs.length : Int) - a1) _ (hs2 ▸ X4.out.base.at_) X4.out.base.rd hbig hbp (fun j h => by omega))
      clear hfl
      go_wp2_with (go_at_call 38; refine RO.out.mono ?_; rintro e w' ⟨rfl, rfl⟩)
      refine TA.out.mono ?_
      rintro e w7 ⟨ua, un, uc, rfl, g7, s7, o7⟩
      have X7 := Lib.hid (X4.out.step g7 s7)
      have W7 := Lib.hid (grownBy_trans X4.out.base.gr g7).size
      have O7 := Lib.hid o7
      have Z7 := Lib.hid X4.out.base.gr.size
      have hRX := X7.out.lt
      have hX7 := (Array.getElem?_eq_some_iff.1 X7.out.frm).1
      have hpR := X7.out.base.pR
      have hne1 : w.heap.size ≠ w2.heap.size := Nat.ne_of_lt hRX
      have hne2 : w2.heap.size ≠ w.heap.size := (Nat.ne_of_lt hRX).symm
      clear g7 s7 o7
      have fe := fun i => Joins.cell_of_block X7.out.frm i
      have fe0 := fe 0
      have fe1 := fe 1
      have fe2 := fe 2
      have fe3 := fe 3
      have fe4 := fe 4
      have fe5 := fe 5
      have fe6 := fe 6
      have fe7 := fe 7
      have fef := Joins.unfrozen_of_block X7.out.frm
      clear fe
      have rc := fun i => Joins.cell_of_block X7.out.base.res i
      have rc0 := rc 0
      have rc1 := rc 1
      have rc2 := rc 2
      have rc3 := rc 3
      have rc4 := rc 4
      have rc5 := rc 5
      have rc6 := rc 6
      have rc7 := rc 7
      have rcf := Joins.unfrozen_of_block X7.out.base.res
      clear rc
      go_wp2
      obtain ⟨D1, D2⟩ := RQ.done (X7.out.put 6 (.slice ua un uc)).base (set8 _ w.heap.size _ _ _ _ _ _ _ _)
      refine bodyPost_ret (v := .agg #[.int .i64 8, .int .i64 x1, .int .i64 x2, .int .i64 0, .int .i64 0, .bool (bt % 2 != 0), .slice ua un uc, .slice none 0 0]) (by simp [results, Tryd.results53, go_sem, rc0, rc1, rc2, rc3, rc4, rc5, rc6, rc7]) rfl ?_
      refine ⟨8, x1, x2, 0, 0, (bt % 2 != 0), ua, none, un, uc, 0, 0, rfl, D1, ?_, ?_⟩
      · rw [HR.out, HT.out]
        have e : stE (thn (dataR xs a1 ((xs.length : Int) - a1)) fun d j => (.ok (⟨8, x1, x2, 0, 0, (bt % 2 != 0), d, []⟩, j) : Except (Int × Int) (Fr × Nat))) = stE (bnd (.ok a1) fun j => dataR xs j ((xs.length : Int) - a1)) := by
          simp only [bnd]
          cases dataR xs a1 ((xs.length : Int) - a1) <;> rfl
        rw [e]; exact D2
      · intro f j hf
        rw [HR.out, HT.out] at hf
        obtain ⟨d, k, hd, hf⟩ := thn_inv hf
        cases hf
        refine ⟨rfl, rfl, rfl, rfl, rfl, rfl, ?_, OwnS.nil _ _⟩
        have OW := O7.out d _ hd
        have hXB := (Array.getElem?_eq_some_iff.1 X4.out.frm).1
        have hRX := X4.out.lt
        exact (Own.kept (Own.kept OW (grownBy_set (row := some w2.heap.size) (World.grownBy.refl _ _) _ _ (.inl rfl)) (fun j hj e => by have h1 := OW.blk j hj; have h2 := Option.some.inj e; omega)) (set8 _ w.heap.size _ _ _ _ _ _ _ _) (fun j hj e => by have h1 := OW.blk j hj; have h2 := Option.some.inj e; omega)).mono Z7.out
  · -- a fault
    have e0 : (y2 == 0) = false := by simpa using hy2
    rw [e0] at RO
    have HR : Hid ((streamR xs i bt j0) = .error (y2, z2)) := by
      show _ = _
      unfold streamR
      rcases stE_err hs2 with h | ⟨k1, hk1, hq2⟩
      · rcases stE_err h with h | ⟨k0, hk0, hq1⟩
        · cases h
        · cases hk0; rw [thn_err hq1]
      · obtain ⟨k0, x1, hk0, hq1⟩ := stE_ok hk1
        cases hk0; rw [thn_ok hq1, hEO.out, thn_err hq2]
    have TA := Lib.hid (rtake_s p b o cp xs (.error (y2, z2)) ((xs.length : Int) - a1) _ (hs2 ▸ X4.out.base.at_) X4.out.base.rd hbig hbp (fun j h => by cases h))
    go_wp2_with (go_at_call 38; refine RO.out.mono ?_; rintro e w' ⟨rfl, rfl⟩)
    refine TA.out.mono ?_
    rintro e w7 ⟨ua, un, uc, rfl, g7, s7, o7⟩
    have X7 := Lib.hid (X4.out.step g7 s7)
    have hRX := X7.out.lt
    have hX7 := (Array.getElem?_eq_some_iff.1 X7.out.frm).1
    have hpR := X7.out.base.pR
    have hne1 : w.heap.size ≠ w2.heap.size := Nat.ne_of_lt hRX
    have hne2 : w2.heap.size ≠ w.heap.size := (Nat.ne_of_lt hRX).symm
    clear g7 s7 o7
    have fe := fun i => Joins.cell_of_block X7.out.frm i
    have fe0 := fe 0
    have fe1 := fe 1
    have fe2 := fe 2
    have fe3 := fe 3
    have fe4 := fe 4
    have fe5 := fe 5
    have fe6 := fe 6
    have fe7 := fe 7
    have fef := Joins.unfrozen_of_block X7.out.frm
    clear fe
    have rc := fun i => Joins.cell_of_block X7.out.base.res i
    have rc0 := rc 0
    have rc1 := rc 1
    have rc2 := rc 2
    have rc3 := rc 3
    have rc4 := rc 4
    have rc5 := rc 5
    have rc6 := rc 6
    have rc7 := rc 7
    have rcf := Joins.unfrozen_of_block X7.out.base.res
    clear rc
    go_wp2
    obtain ⟨D1, D2⟩ := RQ.done (X7.out.put 6 (.slice ua un uc)).base (set8 _ w.heap.size _ _ _ _ _ _ _ _)
    refine bodyPost_ret (v := .agg #[.int .i64 8, .int .i64 n1, .int .i64 n2, .int .i64 0, .int .i64 0, .bool (bt % 2 != 0), .slice ua un uc, .slice none 0 0]) (by simp [results, Tryd.results53, go_sem, rc0, rc1, rc2, rc3, rc4, rc5, rc6, rc7]) rfl ?_
    refine ⟨8, n1, n2, 0, 0, (bt % 2 != 0), ua, none, un, uc, 0, 0, rfl, D1, ?_, ?_⟩
    · rw [HR.out]; exact D2
    · intro f j hf; rw [HR.out] at hf; cases hf

set_option maxHeartbeats 1600000 in
theorem rstream_11 (p b o cp : Nat) (xs : List Int) (j0 i : Nat) (bt : Int) (w : World) (hA : RS w p (.slice (some ⟨b, o, none⟩) xs.length cp) xs.length (.ok j0)) (hr : Rd .u8 w (.slice (some ⟨b, o, none⟩) xs.length cp) xs) (hx : Bts xs) (hbig : xs.length ≤ 1048576) (hbp : b ≠ p) (hb : b < w.heap.size)
    (h1 : bits .and .i64 (8 + bt) 1 = bt % 2) (h4 : bits .and .i64 (8 + bt) 4 = 4) (h2 : bits .and .i64 (8 + bt) 2 = 2) (e4 : bt / 4 % 2 = 1) (e2 : bt / 2 % 2 = 1) :
    Calls Tryd.prog 53 #[.pointer (some ⟨p, 0, none⟩), .int .i64 (8 + bt), .int .i64 i] w (RFrIs w p (.slice (some ⟨b, o, none⟩) xs.length cp) xs.length (streamR xs i bt j0)) := by
  have hfree : ∀ j, ((.slice (some ⟨b, o, none⟩) xs.length cp) : Value).ownBlock = some j → some p ≠ some j := by
    intro j hj e
    simp only [Value.ownBlock, Option.some.injEq] at hj
    cases e; exact hbp hj
  have hold : ∀ j, ((.slice (some ⟨b, o, none⟩) xs.length cp) : Value).ownBlock = some j → j < w.heap.size := by
    intro j hj
    simp only [Value.ownBlock, Option.some.injEq] at hj
    omega
  have Q0 := Lib.hid (RQ.start0 p _ xs (.ok j0) w hA hr hfree)
  have hfin : (bt % 2 == 1) = (bt % 2 != 0) := by rw [Bool.eq_iff_iff]; simp; omega
  have HX := Lib.hid hx
  have HOLD := Lib.hid hold
  have hEO : Hid (∀ j, offR xs bt j = num xs j) := by
    intro j; unfold offR; rw [if_neg (by omega)]
  have hEC : Hid (∀ j, countR xs bt j = num xs j) := by
    intro j; unfold countR; rw [if_neg (by omega)]
  clear hA hr hx hfree hold e4 e2
  go_enter Tryd.func53, Tryd.ntmps53
  go_wp2_with fail
  refine (rnumber_s p _ xs (.ok j0) _ Q0.out.at_ Q0.out.rd HX.out).mono ?_
  rintro e w2 ⟨n1, rfl, g1, s1, v1, u1⟩
  have X1 := Lib.hid (RX.start (cs := #[.int .i64 8, .int .i64 n1, .int .i64 0, .int .i64 0, .int .i64 0, .bool (bt % 2 != 0), .slice none 0 0, .slice none 0 0]) (Q0.out.step g1 s1) HOLD.out)
  have V1 := Lib.hid v1
  clear g1 s1 v1 u1
  go_wp2_with fail
  refine (rnumber_s p _ xs (stE (bnd (.ok j0) (num xs))) _ X1.out.base.at_ X1.out.base.rd HX.out).mono ?_
  rintro e w3 ⟨n2, rfl, g2, s2, v2, u2⟩
  have X2 := Lib.hid (X1.out.step g2 s2)
  have V2 := Lib.hid v2
  have U2 := Lib.hid u2
  clear g2 s2 v2 u2
  have fc := fun i => Joins.cell_of_block X2.out.frm i
  have fc0 := fc 0
  have fc1 := fc 1
  have fc2 := fc 2
  have fc3 := fc 3
  have fc4 := fc 4
  have fc5 := fc 5
  have fc6 := fc 6
  have fc7 := fc 7
  have fcf := Joins.unfrozen_of_block X2.out.frm
  clear fc
  have X3 := Lib.hid (X2.out.put 2 (.int .i64 n2))
  obtain ⟨a1, y1, z1, hle1, hra1, hcase1⟩ := X3.out.base.at_
  have pc0 := hra1.c0
  have pc1 := hra1.c1
  have hw1 : IntKind.i64.wrap ((xs.length : Int) - a1) = (xs.length : Int) - a1 := by rw [IntKind.wrap_i64]; omega
  have HC1 := Lib.hid hcase1
  have HLE := Lib.hid hle1
  clear hra1 hcase1
  go_wp2_with fail
  go_quiet (fail)
  have X4 := Lib.hid (X3.out.drewN nq)
  go_wp2_with fail
  refine (rnumber_s p _ xs (stE (bnd (stE (bnd (.ok j0) (num xs))) (num xs))) _ X4.out.base.at_ X4.out.base.rd HX.out).mono ?_
  rintro e w4 ⟨n3, rfl, g3, s3, v3, u3⟩
  have X5 := Lib.hid (X4.out.step g3 s3)
  have V3 := Lib.hid v3
  clear g3 s3 v3 u3
  obtain ⟨a2, y2, z2, hle2, hra2, hcase2⟩ := X5.out.base.at_
  have RO := Lib.hid (rok_any p _ a2 y2 z2 _ hra2)
  have fd := fun i => Joins.cell_of_block X5.out.frm i
  have fd0 := fd 0
  have fd1 := fd 1
  have fd2 := fd 2
  have fd3 := fd 3
  have fd4 := fd 4
  have fd5 := fd 5
  have fd6 := fd 6
  have fd7 := fd 7
  have fdf := Joins.unfrozen_of_block X5.out.frm
  clear fd
  clear hra2
  rcases hcase2 with ⟨hs2, rfl, rfl⟩ | ⟨hs2, hy2⟩
  · -- a place
    obtain ⟨k2, x3, hk2, hq3⟩ := stE_ok hs2
    obtain ⟨k1, x2, hk1, hq2⟩ := stE_ok hk2
    obtain ⟨k0, x1, hk0, hq1⟩ := stE_ok hk1
    cases hk0
    have r3 := V3.out x3 a2 (bnd_ok hk2 hq3)
    have r2 := V2.out x2 k2 (bnd_ok hk1 hq2)
    have r1 := V1.out x1 k1 (by simp only [bnd, hq1])
    have m3 := num_ok HX.out hq3
    have m2 := num_ok HX.out hq2
    subst r3
    subst r2
    subst r1
    have HR : Hid ((streamR xs i bt j0) = thn (tailR xs i x2 x3 a2) fun d j => (.ok (⟨8, x1, x2, 0, 0, (bt % 2 != 0), d, []⟩, j) : Except (Int × Int) (Fr × Nat))) := by
      show _ = _
      unfold streamR
      rw [thn_ok hq1, hEO.out, thn_ok hq2, hEC.out, thn_ok hq3]
    have hwo : IntKind.i64.wrap (4611686018427387903 - x2) = 4611686018427387903 - x2 := by rw [IntKind.wrap_i64]; omega
    by_cases hfl : (4611686018427387903 : Int) - x2 < x3
    · have tfl : decide (4611686018427387903 - x2 < x3) = true := decide_eq_true (by omega)
      have HT : Hid (tailR xs i x2 x3 a2 = .error (7, i)) := if_pos hfl
      have FA := Lib.hid (rfails_any p _ xs.length (.ok a2) 7 i _ (hs2 ▸ X5.out.base.at_) (by omega))
      clear hfl
      go_wp2_with (go_at_call 38; refine RO.out.mono ?_; rintro e w' ⟨rfl, rfl⟩)
      go_wp2_with (go_at_call 36; refine FA.out.mono ?_; rintro e w6 ⟨rfl, g6, s6⟩; have X6 := Lib.hid (X5.out.step g6 s6))
      refine (rtake_s p b o cp xs (.error (7, (i : Int))) _ _ X6.out.base.at_ X6.out.base.rd hbig hbp (fun j h => by cases h)).mono ?_
      rintro e w7 ⟨ua, un, uc, rfl, g7, s7, o7⟩
      have X7 := Lib.hid (X6.out.step g7 s7)
      have hRX := X7.out.lt
      have hX7 := (Array.getElem?_eq_some_iff.1 X7.out.frm).1
      have hpR := X7.out.base.pR
      have hne1 : w.heap.size ≠ w2.heap.size := Nat.ne_of_lt hRX
      have hne2 : w2.heap.size ≠ w.heap.size := (Nat.ne_of_lt hRX).symm
      clear g6 s6 g7 s7 o7
      have fe := fun i => Joins.cell_of_block X7.out.frm i
      have fe0 := fe 0
      have fe1 := fe 1
      have fe2 := fe 2
      have fe3 := fe 3
      have fe4 := fe 4
      have fe5 := fe 5
      have fe6 := fe 6
      have fe7 := fe 7
      have fef := Joins.unfrozen_of_block X7.out.frm
      clear fe
      have rc := fun i => Joins.cell_of_block X7.out.base.res i
      have rc0 := rc 0
      have rc1 := rc 1
      have rc2 := rc 2
      have rc3 := rc 3
      have rc4 := rc 4
      have rc5 := rc 5
      have rc6 := rc 6
      have rc7 := rc 7
      have rcf := Joins.unfrozen_of_block X7.out.base.res
      clear rc
      go_wp2
      obtain ⟨D1, D2⟩ := RQ.done (X7.out.put 6 (.slice ua un uc)).base (set8 _ w.heap.size _ _ _ _ _ _ _ _)
      refine bodyPost_ret (v := .agg #[.int .i64 8, .int .i64 x1, .int .i64 x2, .int .i64 0, .int .i64 0, .bool (bt % 2 != 0), .slice ua un uc, .slice none 0 0]) (by simp [results, Tryd.results53, go_sem, rc0, rc1, rc2, rc3, rc4, rc5, rc6, rc7]) rfl ?_
      refine ⟨8, x1, x2, 0, 0, (bt % 2 != 0), ua, none, un, uc, 0, 0, rfl, D1, ?_, ?_⟩
      · rw [HR.out, thn_err HT.out]; exact D2
      · intro f j hf; rw [HR.out, thn_err HT.out] at hf; cases hf
    · have tfl : decide (4611686018427387903 - x2 < x3) = false := decide_eq_false (by omega)
      have HT : Hid (tailR xs i x2 x3 a2 = dataR xs a2 x3) := if_neg hfl
      have TA := Lib.hid (rtake_s p b o cp xs (.ok a2) x3 _ (hs2 ▸ X5.out.base.at_) X5.out.base.rd hbig hbp (fun j h => by omega))
      clear hfl
      go_wp2_with (go_at_call 38; refine RO.out.mono ?_; rintro e w' ⟨rfl, rfl⟩)
      refine TA.out.mono ?_
      rintro e w7 ⟨ua, un, uc, rfl, g7, s7, o7⟩
      have X7 := Lib.hid (X5.out.step g7 s7)
      have W7 := Lib.hid (grownBy_trans X5.out.base.gr g7).size
      have O7 := Lib.hid o7
      have Z7 := Lib.hid X5.out.base.gr.size
      have hRX := X7.out.lt
      have hX7 := (Array.getElem?_eq_some_iff.1 X7.out.frm).1
      have hpR := X7.out.base.pR
      have hne1 : w.heap.size ≠ w2.heap.size := Nat.ne_of_lt hRX
      have hne2 : w2.heap.size ≠ w.heap.size := (Nat.ne_of_lt hRX).symm
      clear g7 s7 o7
      have fe := fun i => Joins.cell_of_block X7.out.frm i
      have fe0 := fe 0
      have fe1 := fe 1
      have fe2 := fe 2
      have fe3 := fe 3
      have fe4 := fe 4
      have fe5 := fe 5
      have fe6 := fe 6
      have fe7 := fe 7
      have fef := Joins.unfrozen_of_block X7.out.frm
      clear fe
      have rc := fun i => Joins.cell_of_block X7.out.base.res i
      have rc0 := rc 0
      have rc1 := rc 1
      have rc2 := rc 2
      have rc3 := rc 3
      have rc4 := rc 4
      have rc5 := rc 5
      have rc6 := rc 6
      have rc7 := rc 7
      have rcf := Joins.unfrozen_of_block X7.out.base.res
      clear rc
      go_wp2
      obtain ⟨D1, D2⟩ := RQ.done (X7.out.put 6 (.slice ua un uc)).base (set8 _ w.heap.size _ _ _ _ _ _ _ _)
      refine bodyPost_ret (v := .agg #[.int .i64 8, .int .i64 x1, .int .i64 x2, .int .i64 0, .int .i64 0, .bool (bt % 2 != 0), .slice ua un uc, .slice none 0 0]) (by simp [results, Tryd.results53, go_sem, rc0, rc1, rc2, rc3, rc4, rc5, rc6, rc7]) rfl ?_
      refine ⟨8, x1, x2, 0, 0, (bt % 2 != 0), ua, none, un, uc, 0, 0, rfl, D1, ?_, ?_⟩
      · rw [HR.out, HT.out]
        have e : stE (thn (dataR xs a2 x3) fun d j => (.ok (⟨8, x1, x2, 0, 0, (bt % 2 != 0), d, []⟩, j) : Except (Int × Int) (Fr × Nat))) = stE (bnd (.ok a2) fun j => dataR xs j x3) := by
          simp only [bnd]
          cases dataR xs a2 x3 <;> rfl
        rw [e]; exact D2
      · intro f j hf
        rw [HR.out, HT.out] at hf
        obtain ⟨d, k, hd, hf⟩ := thn_inv hf
        cases hf
        refine ⟨rfl, rfl, rfl, rfl, rfl, rfl, ?_, OwnS.nil _ _⟩
        have OW := O7.out d _ hd
        have hXB := (Array.getElem?_eq_some_iff.1 X5.out.frm).1
        have hRX := X5.out.lt
        exact (Own.kept (Own.kept OW (grownBy_set (row := some w2.heap.size) (World.grownBy.refl _ _) _ _ (.inl rfl)) (fun j hj e => by have h1 := OW.blk j hj; have h2 := Option.some.inj e; omega)) (set8 _ w.heap.size _ _ _ _ _ _ _ _) (fun j hj e => by have h1 := OW.blk j hj; have h2 := Option.some.inj e; omega)).mono Z7.out
  · -- a fault
    have e0 : (y2 == 0) = false := by simpa using hy2
    rw [e0] at RO
    have HR : Hid ((streamR xs i bt j0) = .error (y2, z2)) := by
      show _ = _
      unfold streamR
      rcases stE_err hs2 with h | ⟨k2, hk2, hq3⟩
      · rcases stE_err h with h | ⟨k1, hk1, hq2⟩
        · rcases stE_err h with h | ⟨k0, hk0, hq1⟩
          · cases h
          · cases hk0; rw [thn_err hq1]
        · obtain ⟨k0, x1, hk0, hq1⟩ := stE_ok hk1
          cases hk0; rw [thn_ok hq1, hEO.out, thn_err hq2]
      · obtain ⟨k1, x2, hk1, hq2⟩ := stE_ok hk2
        obtain ⟨k0, x1, hk0, hq1⟩ := stE_ok hk1
        cases hk0; rw [thn_ok hq1, hEO.out, thn_ok hq2, hEC.out, thn_err hq3]
    have TA := Lib.hid (rtake_s p b o cp xs (.error (y2, z2)) n3 _ (hs2 ▸ X5.out.base.at_) X5.out.base.rd hbig hbp (fun j h => by cases h))
    go_wp2_with (go_at_call 38; refine RO.out.mono ?_; rintro e w' ⟨rfl, rfl⟩)
    refine TA.out.mono ?_
    rintro e w7 ⟨ua, un, uc, rfl, g7, s7, o7⟩
    have X7 := Lib.hid (X5.out.step g7 s7)
    have hRX := X7.out.lt
    have hX7 := (Array.getElem?_eq_some_iff.1 X7.out.frm).1
    have hpR := X7.out.base.pR
    have hne1 : w.heap.size ≠ w2.heap.size := Nat.ne_of_lt hRX
    have hne2 : w2.heap.size ≠ w.heap.size := (Nat.ne_of_lt hRX).symm
    clear g7 s7 o7
    have fe := fun i => Joins.cell_of_block X7.out.frm i
    have fe0 := fe 0
    have fe1 := fe 1
    have fe2 := fe 2
    have fe3 := fe 3
    have fe4 := fe 4
    have fe5 := fe 5
    have fe6 := fe 6
    have fe7 := fe 7
    have fef := Joins.unfrozen_of_block X7.out.frm
    clear fe
    have rc := fun i => Joins.cell_of_block X7.out.base.res i
    have rc0 := rc 0
    have rc1 := rc 1
    have rc2 := rc 2
    have rc3 := rc 3
    have rc4 := rc 4
    have rc5 := rc 5
    have rc6 := rc 6
    have rc7 := rc 7
    have rcf := Joins.unfrozen_of_block X7.out.base.res
    clear rc
    go_wp2
    obtain ⟨D1, D2⟩ := RQ.done (X7.out.put 6 (.slice ua un uc)).base (set8 _ w.heap.size _ _ _ _ _ _ _ _)
    refine bodyPost_ret (v := .agg #[.int .i64 8, .int .i64 n1, .int .i64 n2, .int .i64 0, .int .i64 0, .bool (bt % 2 != 0), .slice ua un uc, .slice none 0 0]) (by simp [results, Tryd.results53, go_sem, rc0, rc1, rc2, rc3, rc4, rc5, rc6, rc7]) rfl ?_
    refine ⟨8, n1, n2, 0, 0, (bt % 2 != 0), ua, none, un, uc, 0, 0, rfl, D1, ?_, ?_⟩
    · rw [HR.out]; exact D2
    · intro f j hf; rw [HR.out] at hf; cases hf
end Go.Proofs.YtfkkimaebhjneaaDoor
