/- Walks of layer 4: one frame, kind by kind (written by genFrame.py). -/
import Derived.Test.YtfkkimaebhjneaaDoorFrF
set_option linter.unusedSimpArgs false
set_option linter.unusedVariables false
namespace Go.Proofs.YtfkkimaebhjneaaDoor
open Go.RowKit

set_option maxHeartbeats 3200000 in
theorem frame_28 (p b o cp : Nat) (xs : List Int) (a : Nat) (w : World) (ht : Tab w) (hA : At w p (.slice (some ⟨b, o, none⟩) xs.length cp) a) (hr : Rd .u8 w (.slice (some ⟨b, o, none⟩) xs.length cp) xs) (hx : Bts xs) (ha : a < xs.length) (hbig : xs.length ≤ 1048576) (hp0 : 0 < p) (hbp : b ≠ p) (hb : b < w.heap.size)
    (hk : kindR xs a = .ok ((28, 7), a + 1)) :
    Calls Tryd.prog 35 #[.pointer (some ⟨p, 0, none⟩)] w (StepIs (frV w.heap.size) w p (.slice (some ⟨b, o, none⟩) xs.length cp) (restR xs a 28 7 (a + 1))) := by
  have hlt := hA.lt
  have c1 := hA.c1
  have HK := Lib.hid hk
  have HX := Lib.hid hx
  have bW : Below w.heap.size w (w.alloc (.cells #[.int .i64 0, .int .i64 0, .int .i64 0, .int .i64 0, .int .i64 0, .bool false, .slice none 0 0, .slice none 0 0] 33)) := (Below.refl _ _).alloc (Nat.le_refl _) _
  have HT := Lib.hid (ht.below bW ht.pos)
  have HR := Lib.hid (hr.below bW)
  have HA := Lib.hid (hA.alloc (.cells #[.int .i64 0, .int .i64 0, .int .i64 0, .int .i64 0, .int .i64 0, .bool false, .slice none 0 0, .slice none 0 0] 33))
  have hfree : Hid (∀ j, (Value.slice (some ⟨b, o, none⟩) xs.length cp).ownBlock = some j → some p ≠ some j) := fun j hj e => hbp (by simp only [Value.ownBlock, Option.some.injEq] at hj; cases e; exact hj)
  have hold : Hid (∀ j, (Value.slice (some ⟨b, o, none⟩) xs.length cp).ownBlock = some j → j < w.heap.size) := fun j hj => by simp only [Value.ownBlock, Option.some.injEq] at hj; omega
  have KA := Lib.hid (kind_any p b o xs.length cp xs a _ HA.out HR.out rfl hx ha hbig)
  have PA : Hid (∀ V : World, Calls Tryd.prog 26 #[.int .i64 28] V fun e w' => e = .returned (.tuple #[.agg #[.bool false, .bool true, .bool false, .bool false, .bool false, .bool true, .bool false], .bool true]) ∧ Below V.heap.size V w') := fun V => partsOf_any 28 V
  have FN : Hid (∀ e W', StepIs (frV w.heap.size) w p (.slice (some ⟨b, o, none⟩) xs.length cp) (restR xs a 28 7 (a + 1)) e W' → StepIs (frV w.heap.size) w p (.slice (some ⟨b, o, none⟩) xs.length cp) (restR xs a 28 7 (a + 1)) e W') := fun _ _ h => h
  clear hk hx ht hr hA bW FN
  go_enter Tryd.func35, Tryd.ntmps35
  go_wp2_with fail
  refine KA.out.mono ?_
  rintro e w1 h1
  obtain ⟨g1, ⟨u, rfl, rfl⟩, A1⟩ := h1.ok HK.out
  go_wp2_with fail
  refine (PA.out _).mono ?_
  rintro e w2 ⟨rfl, b2⟩
  have q1 := block_kept (alloc_at w (.cells #[.int .i64 0, .int .i64 0, .int .i64 0, .int .i64 0, .int .i64 0, .bool false, .slice none 0 0, .slice none 0 0] 33)) g1 (by simp; omega)
  have S0 := Lib.hid (FS.start (cs := #[.int .i64 28, .int .i64 0, .int .i64 0, .int .i64 0, .int .i64 0, .bool false, .slice none 0 0, .slice none 0 0]) (ps := #[.bool false, .bool true, .bool false, .bool false, .bool false, .bool true, .bool false]) (A1.kept b2) (grownBy_trans (grownBy_trans (World.grownBy_alloc w _ _) g1) (grownBy_of_below b2)) ((HT.out.kept g1 hp0).below b2 (HT.out.kept g1 hp0).pos) ((HR.out.kept g1 hfree.out).below b2) ((b2.block _ (Array.getElem?_eq_some_iff.1 q1).1).trans q1) hlt (Nat.le_refl _) hp0 hfree.out hold.out)
  have z1 : w.heap.size < w1.heap.size := (Array.getElem?_eq_some_iff.1 q1).1
  have z2 := b2.size
  clear g1 q1 A1 KA HT HR HA
  go_wp2_with fail
  refine (Calls.mono (number_any p _ xs (a + 1) _ S0.out.tab S0.out.at_ S0.out.rd HX.out (by omega)) ?_)
  rintro e w3 h
  cases r1 : num xs (a + 1) with
  | error y =>
    obtain ⟨y, z⟩ := y
    have HE : Hid (restR xs a 28 7 (a + 1) = .error (y, z)) := by show _ = _; unfold restR; simp only [Int.reduceEq, if_false, if_true, or_false, or_true, false_or, true_or, reduceIte]; exact thn_err r1
    obtain ⟨g, rfl⟩ := h.err r1
    refine ⟨rfl, ?_⟩
    rw [HE.out]
    exact ⟨grownBy_trans S0.out.gr g, rfl⟩
  | ok y =>
    obtain ⟨x1, j1⟩ := y
    obtain ⟨g, ⟨u, rfl, rfl⟩, A⟩ := h.ok r1
    obtain ⟨lo1, hi1, mv1, le1⟩ := num_ok HX.out r1
    have E1 := Lib.hid r1
    have Q1 := Lib.hid (S0.out.step g A)
    have pc1 := fun i => Joins.cell_of_block Q1.out.par i
    have pc10 := pc1 0
    have pc11 := pc1 1
    have pc12 := pc1 2
    have pc13 := pc1 3
    have pc14 := pc1 4
    have pc15 := pc1 5
    have pc16 := pc1 6
    have fc1 := fun i => Joins.cell_of_block Q1.out.frm i
    have fc10 := fc1 0
    have fc11 := fc1 1
    have fc12 := fc1 2
    have fc13 := fc1 3
    have fc14 := fc1 4
    have fc15 := fc1 5
    have fc16 := fc1 6
    have fc17 := fc1 7
    have ff1 := Joins.unfrozen_of_block Q1.out.frm
    have S1 := Lib.hid (Q1.out.put 4 (.int .i64 x1))
    clear h g A r1
    go_wp2_with fail
    refine (Calls.mono (count_num p _ xs j1 7 _ (by decide) S1.out.tab S1.out.at_ S1.out.rd HX.out (by omega)) ?_)
    rintro e w4 h
    cases r2 : num xs j1 with
    | error y =>
      obtain ⟨y, z⟩ := y
      have HE : Hid (restR xs a 28 7 (a + 1) = .error (y, z)) := by show _ = _; unfold restR; simp only [Int.reduceEq, if_false, if_true, or_false, or_true, false_or, true_or, reduceIte]; rw [thn_ok E1.out]; exact thn_err r2
      obtain ⟨g, rfl⟩ := h.err r2
      refine ⟨rfl, ?_⟩
      rw [HE.out]
      exact ⟨grownBy_trans S1.out.gr g, rfl⟩
    | ok y =>
      obtain ⟨x2, j2⟩ := y
      obtain ⟨g, ⟨u, rfl, rfl⟩, A⟩ := h.ok r2
      obtain ⟨lo2, hi2, mv2, le2⟩ := num_ok HX.out r2
      have E2 := Lib.hid r2
      have Q2 := Lib.hid (S1.out.step g A)
      have pc2 := fun i => Joins.cell_of_block Q2.out.par i
      have pc20 := pc2 0
      have pc21 := pc2 1
      have pc22 := pc2 2
      have pc23 := pc2 3
      have pc24 := pc2 4
      have pc25 := pc2 5
      have pc26 := pc2 6
      have fc2 := fun i => Joins.cell_of_block Q2.out.frm i
      have fc20 := fc2 0
      have fc21 := fc2 1
      have fc22 := fc2 2
      have fc23 := fc2 3
      have fc24 := fc2 4
      have fc25 := fc2 5
      have fc26 := fc2 6
      have fc27 := fc2 7
      have ff2 := Joins.unfrozen_of_block Q2.out.frm
      have S2 := Q2
      clear h g A r2
      skip
      have tfl : decide (4611686018427387903 < x2) = false := decide_eq_false (by omega)
      go_wp2_with fail
      refine (Calls.mono (data_any p b o cp xs j2 x2 _ S2.out.at_ S2.out.rd (by omega) (by omega) hbig hbp) ?_)
      rintro e w5 h
      cases r3 : dataR xs j2 x2 with
      | error y =>
        obtain ⟨y, z⟩ := y
        have HE : Hid (restR xs a 28 7 (a + 1) = .error (y, z)) := by show _ = _; unfold restR; simp only [Int.reduceEq, if_false, if_true, or_false, or_true, false_or, true_or, reduceIte]; rw [thn_ok E1.out]; rw [thn_ok E2.out]; exact thn_err r3
        obtain ⟨g, rfl⟩ := h.err r3
        refine ⟨rfl, ?_⟩
        rw [HE.out]
        exact ⟨grownBy_trans S2.out.gr g, rfl⟩
      | ok y =>
        obtain ⟨x3, j3⟩ := y
        obtain ⟨g, ⟨u3, rfl, O3⟩, A⟩ := h.ok r3
        have E3 := Lib.hid r3
        obtain ⟨ua, uc, rfl⟩ := Own.len O3
        have Q3 := Lib.hid (S2.out.step g A)
        have pc3 := fun i => Joins.cell_of_block Q3.out.par i
        have pc30 := pc3 0
        have pc31 := pc3 1
        have pc32 := pc3 2
        have pc33 := pc3 3
        have pc34 := pc3 4
        have pc35 := pc3 5
        have pc36 := pc3 6
        have fc3 := fun i => Joins.cell_of_block Q3.out.frm i
        have fc30 := fc3 0
        have fc31 := fc3 1
        have fc32 := fc3 2
        have fc33 := fc3 3
        have fc34 := fc3 4
        have fc35 := fc3 5
        have fc36 := fc3 6
        have fc37 := fc3 7
        have ff3 := Joins.unfrozen_of_block Q3.out.frm
        have S3 := Lib.hid (Q3.out.put 6 (.slice ua x3.length uc))
        clear h g A r3
        have rc := fun i => Joins.cell_of_block Q3.out.res i
        have rc0 := rc 0
        have rc1 := rc 1
        have rc2 := rc 2
        have rc3 := rc 3
        have rc4 := rc 4
        have rc5 := rc 5
        have rc6 := rc 6
        have rc7 := rc 7
        have rf := Joins.unfrozen_of_block Q3.out.res
        have HE : Hid (restR xs a 28 7 (a + 1) = .ok ((⟨28, 0, 0, 0, x1, false, x3, []⟩ : Fr), j3)) := by show _ = _; unfold restR; simp only [Int.reduceEq, if_false, if_true, or_false, or_true, false_or, true_or, reduceIte]; rw [thn_ok E1.out]; rw [thn_ok E2.out]; rw [thn_ok E3.out]
        go_wp2_with fail
        have nRF : ¬ (w.heap.size = w2.heap.size + 1) := by omega
        refine bodyPost_ret (v := .agg #[.int .i64 28, .int .i64 0, .int .i64 0, .int .i64 0, .int .i64 x1, .bool false, .slice ua x3.length uc, .slice none 0 0]) (by simp [results, Tryd.results35, go_sem, rc0, rc1, rc2, rc3, rc4, rc5, rc6, rc7, nRF]) rfl ?_
        rw [HE.out]
        obtain ⟨G, A⟩ := S3.out.done (set8 _ w.heap.size (.int .i64 28) (.int .i64 0) (.int .i64 0) (.int .i64 0) (.int .i64 x1) (.bool false) (.slice ua x3.length uc) (.slice none 0 0))
        have lF := (Array.getElem?_eq_some_iff.1 S2.out.frm).1
        have bl := Own.blk O3
        have OF := Own.mono (Own.kept (Own.kept O3 (row := some (w2.heap.size + 1)) (grownBy_set (World.grownBy.refl _ _) ⟨w2.heap.size + 1, 6, none⟩ (.slice ua x3.length uc) (.inl rfl)) (fun jj hj e => by have := bl jj hj; simp only [Option.some.injEq] at e; omega)) (set8 _ w.heap.size (.int .i64 28) (.int .i64 0) (.int .i64 0) (.int .i64 0) (.int .i64 x1) (.bool false) (.slice ua x3.length uc) (.slice none 0 0)) (fun jj hj e => by have := bl jj hj; simp only [Option.some.injEq] at e; omega)) S2.out.gr.size
        exact ⟨G, ⟨_, rfl, _, _, rfl, OF, OwnS.nil _ _⟩, A⟩

set_option maxHeartbeats 3200000 in
theorem frame_800 (p b o cp : Nat) (xs : List Int) (a : Nat)
    (bt : Int) (hb1 : bits .and .i64 bt 1 = bt % 2) (hb4 : bits .and .i64 bt 4 = 0) (e4 : bt / 4 % 2 = 0) (hb2 : bits .and .i64 bt 2 = 0) (e2 : bt / 2 % 2 = 0) (w : World) (ht : Tab w) (hA : At w p (.slice (some ⟨b, o, none⟩) xs.length cp) a) (hr : Rd .u8 w (.slice (some ⟨b, o, none⟩) xs.length cp) xs) (hx : Bts xs) (ha : a < xs.length) (hbig : xs.length ≤ 1048576) (hp0 : 0 < p) (hbp : b ≠ p) (hb : b < w.heap.size)
    (hk : kindR xs a = .ok ((8, bt), a + 1)) :
    Calls Tryd.prog 35 #[.pointer (some ⟨p, 0, none⟩)] w (StepIs (frV w.heap.size) w p (.slice (some ⟨b, o, none⟩) xs.length cp) (restR xs a 8 bt (a + 1))) := by
  have hlt := hA.lt
  have c1 := hA.c1
  have HK := Lib.hid hk
  have HX := Lib.hid hx
  have bW : Below w.heap.size w (w.alloc (.cells #[.int .i64 0, .int .i64 0, .int .i64 0, .int .i64 0, .int .i64 0, .bool false, .slice none 0 0, .slice none 0 0] 33)) := (Below.refl _ _).alloc (Nat.le_refl _) _
  have HT := Lib.hid (ht.below bW ht.pos)
  have HR := Lib.hid (hr.below bW)
  have HA := Lib.hid (hA.alloc (.cells #[.int .i64 0, .int .i64 0, .int .i64 0, .int .i64 0, .int .i64 0, .bool false, .slice none 0 0, .slice none 0 0] 33))
  have hfree : Hid (∀ j, (Value.slice (some ⟨b, o, none⟩) xs.length cp).ownBlock = some j → some p ≠ some j) := fun j hj e => hbp (by simp only [Value.ownBlock, Option.some.injEq] at hj; cases e; exact hj)
  have hold : Hid (∀ j, (Value.slice (some ⟨b, o, none⟩) xs.length cp).ownBlock = some j → j < w.heap.size) := fun j hj => by simp only [Value.ownBlock, Option.some.injEq] at hj; omega
  have KA := Lib.hid (kind_any p b o xs.length cp xs a _ HA.out HR.out rfl hx ha hbig)
  have PA : Hid (∀ V : World, Calls Tryd.prog 26 #[.int .i64 8] V fun e w' => e = .returned (.tuple #[.agg #[.bool true, .bool false, .bool true, .bool false, .bool false, .bool true, .bool true], .bool true]) ∧ Below V.heap.size V w') := fun V => partsOf_any 8 V
  have FN : Hid (∀ e W', StepIs (frV w.heap.size) w p (.slice (some ⟨b, o, none⟩) xs.length cp) (restR xs a 8 bt (a + 1)) e W' → StepIs (frV w.heap.size) w p (.slice (some ⟨b, o, none⟩) xs.length cp) (restR xs a 8 bt (a + 1)) e W') := fun _ _ h => h
  clear hk hx ht hr hA bW FN
  go_enter Tryd.func35, Tryd.ntmps35
  go_wp2_with fail
  refine KA.out.mono ?_
  rintro e w1 h1
  obtain ⟨g1, ⟨u, rfl, rfl⟩, A1⟩ := h1.ok HK.out
  go_wp2_with fail
  refine (PA.out _).mono ?_
  rintro e w2 ⟨rfl, b2⟩
  have q1 := block_kept (alloc_at w (.cells #[.int .i64 0, .int .i64 0, .int .i64 0, .int .i64 0, .int .i64 0, .bool false, .slice none 0 0, .slice none 0 0] 33)) g1 (by simp; omega)
  have S0 := Lib.hid (FS.start (cs := #[.int .i64 8, .int .i64 0, .int .i64 0, .int .i64 0, .int .i64 0, .bool (bt % 2 != 0), .slice none 0 0, .slice none 0 0]) (ps := #[.bool true, .bool false, .bool true, .bool false, .bool false, .bool true, .bool true]) (A1.kept b2) (grownBy_trans (grownBy_trans (World.grownBy_alloc w _ _) g1) (grownBy_of_below b2)) ((HT.out.kept g1 hp0).below b2 (HT.out.kept g1 hp0).pos) ((HR.out.kept g1 hfree.out).below b2) ((b2.block _ (Array.getElem?_eq_some_iff.1 q1).1).trans q1) hlt (Nat.le_refl _) hp0 hfree.out hold.out)
  have z1 : w.heap.size < w1.heap.size := (Array.getElem?_eq_some_iff.1 q1).1
  have z2 := b2.size
  clear g1 q1 A1 KA HT HR HA
  go_wp2_with fail
  refine (Calls.mono (number_any p _ xs (a + 1) _ S0.out.tab S0.out.at_ S0.out.rd HX.out (by omega)) ?_)
  rintro e w3 h
  cases r1 : num xs (a + 1) with
  | error y =>
    obtain ⟨y, z⟩ := y
    have HE : Hid (restR xs a 8 bt (a + 1) = .error (y, z)) := by show _ = _; unfold restR; simp only [Int.reduceEq, if_false, if_true, or_false, or_true, false_or, true_or, reduceIte]; exact thn_err r1
    obtain ⟨g, rfl⟩ := h.err r1
    refine ⟨rfl, ?_⟩
    rw [HE.out]
    exact ⟨grownBy_trans S0.out.gr g, rfl⟩
  | ok y =>
    obtain ⟨x1, j1⟩ := y
    obtain ⟨g, ⟨u, rfl, rfl⟩, A⟩ := h.ok r1
    obtain ⟨lo1, hi1, mv1, le1⟩ := num_ok HX.out r1
    have E1 := Lib.hid r1
    have Q1 := Lib.hid (S0.out.step g A)
    have pc1 := fun i => Joins.cell_of_block Q1.out.par i
    have pc10 := pc1 0
    have pc11 := pc1 1
    have pc12 := pc1 2
    have pc13 := pc1 3
    have pc14 := pc1 4
    have pc15 := pc1 5
    have pc16 := pc1 6
    have fc1 := fun i => Joins.cell_of_block Q1.out.frm i
    have fc10 := fc1 0
    have fc11 := fc1 1
    have fc12 := fc1 2
    have fc13 := fc1 3
    have fc14 := fc1 4
    have fc15 := fc1 5
    have fc16 := fc1 6
    have fc17 := fc1 7
    have ff1 := Joins.unfrozen_of_block Q1.out.frm
    have S1 := Lib.hid (Q1.out.put 1 (.int .i64 x1))
    clear h g A r1
    have EO : Hid (offR xs bt j1 = .ok (0, j1)) := by show _ = _; unfold offR; exact if_pos e4
    go_wp2_with fail
    refine (Calls.mono (count_left p _ xs j1 bt _ hb2 S1.out.at_ S1.out.rd (by omega)) ?_)
    rintro e w4 h
    obtain ⟨g, ⟨u, rfl, rfl⟩, A⟩ := h.ok rfl
    have EC : Hid (countR xs bt j1 = .ok ((xs.length : Int) - j1, j1)) := by show _ = _; unfold countR; exact if_pos e2
    have Q2 := Lib.hid (S1.out.step g A)
    have pc2 := fun i => Joins.cell_of_block Q2.out.par i
    have pc20 := pc2 0
    have pc21 := pc2 1
    have pc22 := pc2 2
    have pc23 := pc2 3
    have pc24 := pc2 4
    have pc25 := pc2 5
    have pc26 := pc2 6
    have fc2 := fun i => Joins.cell_of_block Q2.out.frm i
    have fc20 := fc2 0
    have fc21 := fc2 1
    have fc22 := fc2 2
    have fc23 := fc2 3
    have fc24 := fc2 4
    have fc25 := fc2 5
    have fc26 := fc2 6
    have fc27 := fc2 7
    have ff2 := Joins.unfrozen_of_block Q2.out.frm
    have S2 := Q2
    clear h g A
    skip
    have hfl : ¬ ((4611686018427387903 : Int) - 0 < ((xs.length : Int) - j1)) := by omega
    have ET0 : ∀ jj, Hid (tailR xs a 0 ((xs.length : Int) - j1) jj = dataR xs jj ((xs.length : Int) - j1)) := fun jj => if_neg hfl
    have tfl : decide (4611686018427387903 < ((xs.length : Int) - j1)) = false := decide_eq_false (by omega)
    go_wp2_with fail
    refine (Calls.mono (data_any p b o cp xs j1 ((xs.length : Int) - j1) _ S2.out.at_ S2.out.rd (by omega) (by omega) hbig hbp) ?_)
    rintro e w5 h
    cases r3 : dataR xs j1 ((xs.length : Int) - j1) with
    | error y =>
      obtain ⟨y, z⟩ := y
      have HE : Hid (restR xs a 8 bt (a + 1) = .error (y, z)) := by show _ = _; unfold restR; simp only [Int.reduceEq, if_false, if_true, or_false, or_true, false_or, true_or, reduceIte]; rw [thn_ok E1.out]; rw [thn_ok EO.out]; rw [thn_ok EC.out]; exact thn_err ((ET0 _).out.trans r3)
      obtain ⟨g, rfl⟩ := h.err r3
      refine ⟨rfl, ?_⟩
      rw [HE.out]
      exact ⟨grownBy_trans S2.out.gr g, rfl⟩
    | ok y =>
      obtain ⟨x3, j3⟩ := y
      obtain ⟨g, ⟨u3, rfl, O3⟩, A⟩ := h.ok r3
      have E3 := Lib.hid r3
      obtain ⟨ua, uc, rfl⟩ := Own.len O3
      have Q3 := Lib.hid (S2.out.step g A)
      have pc3 := fun i => Joins.cell_of_block Q3.out.par i
      have pc30 := pc3 0
      have pc31 := pc3 1
      have pc32 := pc3 2
      have pc33 := pc3 3
      have pc34 := pc3 4
      have pc35 := pc3 5
      have pc36 := pc3 6
      have fc3 := fun i => Joins.cell_of_block Q3.out.frm i
      have fc30 := fc3 0
      have fc31 := fc3 1
      have fc32 := fc3 2
      have fc33 := fc3 3
      have fc34 := fc3 4
      have fc35 := fc3 5
      have fc36 := fc3 6
      have fc37 := fc3 7
      have ff3 := Joins.unfrozen_of_block Q3.out.frm
      have S3 := Lib.hid (Q3.out.put 6 (.slice ua x3.length uc))
      clear h g A r3
      have rc := fun i => Joins.cell_of_block Q3.out.res i
      have rc0 := rc 0
      have rc1 := rc 1
      have rc2 := rc 2
      have rc3 := rc 3
      have rc4 := rc 4
      have rc5 := rc 5
      have rc6 := rc 6
      have rc7 := rc 7
      have rf := Joins.unfrozen_of_block Q3.out.res
      have HE : Hid (restR xs a 8 bt (a + 1) = .ok ((⟨8, x1, 0, 0, 0, (bt % 2 != 0), x3, []⟩ : Fr), j3)) := by show _ = _; unfold restR; simp only [Int.reduceEq, if_false, if_true, or_false, or_true, false_or, true_or, reduceIte]; rw [thn_ok E1.out]; rw [thn_ok EO.out]; rw [thn_ok EC.out]; rw [thn_ok ((ET0 _).out.trans E3.out)]
      go_wp2_with fail
      have nRF : ¬ (w.heap.size = w2.heap.size + 1) := by omega
      refine bodyPost_ret (v := .agg #[.int .i64 8, .int .i64 x1, .int .i64 0, .int .i64 0, .int .i64 0, .bool (bt % 2 != 0), .slice ua x3.length uc, .slice none 0 0]) (by simp [results, Tryd.results35, go_sem, rc0, rc1, rc2, rc3, rc4, rc5, rc6, rc7, nRF]) rfl ?_
      rw [HE.out]
      obtain ⟨G, A⟩ := S3.out.done (set8 _ w.heap.size (.int .i64 8) (.int .i64 x1) (.int .i64 0) (.int .i64 0) (.int .i64 0) (.bool (bt % 2 != 0)) (.slice ua x3.length uc) (.slice none 0 0))
      have lF := (Array.getElem?_eq_some_iff.1 S2.out.frm).1
      have bl := Own.blk O3
      have OF := Own.mono (Own.kept (Own.kept O3 (row := some (w2.heap.size + 1)) (grownBy_set (World.grownBy.refl _ _) ⟨w2.heap.size + 1, 6, none⟩ (.slice ua x3.length uc) (.inl rfl)) (fun jj hj e => by have := bl jj hj; simp only [Option.some.injEq] at e; omega)) (set8 _ w.heap.size (.int .i64 8) (.int .i64 x1) (.int .i64 0) (.int .i64 0) (.int .i64 0) (.bool (bt % 2 != 0)) (.slice ua x3.length uc) (.slice none 0 0)) (fun jj hj e => by have := bl jj hj; simp only [Option.some.injEq] at e; omega)) S2.out.gr.size
      exact ⟨G, ⟨_, rfl, _, _, rfl, OF, OwnS.nil _ _⟩, A⟩
end Go.Proofs.YtfkkimaebhjneaaDoor
