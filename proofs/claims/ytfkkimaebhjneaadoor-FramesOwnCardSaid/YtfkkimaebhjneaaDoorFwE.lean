/- Walks of layer 4: the reference's reader.frame, the other kinds (written by genRef4.py). -/
import Derived.Test.YtfkkimaebhjneaaDoorFwD
set_option linter.unusedSimpArgs false
set_option linter.unusedVariables false
namespace Go.Proofs.YtfkkimaebhjneaaDoor
open Go.RowKit

theorem rs_start (p : Nat) (v : Value) (xs : List Int) (a : Nat) (w : World) (O : Obj) (hA : RA w p v a 0 0) (ha : a < xs.length) : w.grownBy ((w.setCell ⟨p, 1, none⟩ (.int .i64 ((a : Int) + 1))).alloc O) (some p) ∧ RS ((w.setCell ⟨p, 1, none⟩ (.int .i64 ((a : Int) + 1))).alloc O) p v xs.length (.ok (a + 1)) :=
  ⟨grownBy_alloc' (grownBy_set (World.grownBy.refl _ _) _ _ (.inl rfl)) _, a + 1, 0, 0, ha, (hA.at' ((a : Int) + 1) (a + 1) (by simp)).alloc _, .inl ⟨rfl, rfl, rfl⟩⟩
theorem RFrIs.over {w w1 w2 w3 : World} {p R : Nat} {v : Value} {xs : List Int} {s0 : Except (Int × Int) Nat} {r : Except (Int × Int) (Fr × Nat)} (Q : RQ w w1 p v xs R s0) (hR : R < w1.heap.size) (g2 : w1.grownBy w2 (some p)) (s2 : RS w2 p v xs.length (stE r)) (g3 : w2.grownBy w3 (some R)) {k s o n c : Int} {fin : Bool} {da sa : Option Addr} {dl dc sl sc : Nat}
    (h : ∀ f j, r = .ok (f, j) → f.kind = k ∧ f.stream = s ∧ f.offset = o ∧ f.n = n ∧ f.code = c ∧ f.fin = fin ∧ Own .u8 5 w2 w1.heap.size (.slice da dl dc) f.data ∧ OwnS w2 w1.heap.size (.slice sa sl sc) f.spans) :
    RFrIs w p v xs.length r (.returned (.agg #[.int .i64 k, .int .i64 s, .int .i64 o, .int .i64 n, .int .i64 c, .bool fin, .slice da dl dc, .slice sa sl sc])) w3 := by
  obtain ⟨D1, D2⟩ := (Q.step g2 s2).done g3
  refine ⟨k, s, o, n, c, fin, da, sa, dl, dc, sl, sc, rfl, D1, D2, fun f j hf => ?_⟩
  obtain ⟨h1, h2, h3, h4, h5, h6, h7, h8⟩ := h f j hf
  have hs := Q.gr.size
  exact ⟨h1, h2, h3, h4, h5, h6, (Own.kept h7 g3 (fun j hj e => by have h1 := h7.blk j hj; have h2 := Option.some.inj e; omega)).mono hs, (OwnS.kept h8 g3 (fun j hj e => by have h1 := h8.blk j hj; have h2 := Option.some.inj e; omega)).mono hs⟩

set_option maxHeartbeats 1600000 in
theorem rframe_0 (p b o cp : Nat) (xs : List Int) (a : Nat) (w : World) (hA : RA w p (.slice (some ⟨b, o, none⟩) xs.length cp) a 0 0) (hr : Rd .u8 w (.slice (some ⟨b, o, none⟩) xs.length cp) xs) (hx : Bts xs) (ha : a < xs.length) (hbig : xs.length ≤ 1048576) (hbp : b ≠ p) (hb : b < w.heap.size) (hc : xs.getD a 0 = 0) :
    Calls Tryd.prog 37 #[.pointer (some ⟨p, 0, none⟩)] w (RFrIs w p (.slice (some ⟨b, o, none⟩) xs.length cp) xs.length (restR xs a 0 7 (a + 1))) := by
  have HD := Lib.hid (rs_start p (.slice (some ⟨b, o, none⟩) xs.length cp) xs a w (.cells #[.int .i64 0, .int .i64 0, .int .i64 0, .int .i64 0, .int .i64 0, .bool false, .slice none 0 0, .slice none 0 0] 33) hA ha)
  have hlt := hA.lt
  have c0 := (hA.alloc (.cells #[.int .i64 0, .int .i64 0, .int .i64 0, .int .i64 0, .int .i64 0, .bool false, .slice none 0 0, .slice none 0 0] 33)).c0
  have c1 := (hA.alloc (.cells #[.int .i64 0, .int .i64 0, .int .i64 0, .int .i64 0, .int .i64 0, .bool false, .slice none 0 0, .slice none 0 0] 33)).c1
  have f1 := (hA.alloc (.cells #[.int .i64 0, .int .i64 0, .int .i64 0, .int .i64 0, .int .i64 0, .bool false, .slice none 0 0, .slice none 0 0] 33)).fz 1
  have hbc : (w.alloc (.cells #[.int .i64 0, .int .i64 0, .int .i64 0, .int .i64 0, .int .i64 0, .bool false, .slice none 0 0, .slice none 0 0] 33)).cell? ⟨b, o + a, none⟩ = some (.int .u8 0) := by
    obtain ⟨b', o', c', hq, hb', hcell⟩ := Rd.form' hr (by intro h; rw [h] at ha; simp at ha)
    simp only [Value.slice.injEq, Option.some.injEq, Addr.mk.injEq, and_true, true_and] at hq
    obtain ⟨⟨rfl, rfl⟩, rfl⟩ := hq
    have h := hcell a ha
    rw [hc] at h
    exact (((Below.refl w.heap.size w).alloc (Nat.le_refl _) (.cells #[.int .i64 0, .int .i64 0, .int .i64 0, .int .i64 0, .int .i64 0, .bool false, .slice none 0 0, .slice none 0 0] 33)).cell (p := ⟨b, o + a, none⟩) hb).trans h
  have Q0 := Lib.hid (RQ.start p b o cp xs a w hA hr ha hbp)
  have hw1 : IntKind.i64.wrap ((a : Int) + 1) = (a : Int) + 1 := wraps_i64' _ (by omega) (by omega)
  have hi1 : (a : Int) < (xs.length : Int) := by omega
  have HX := Lib.hid hx
  have n1w : p ≠ w.heap.size := by omega
  clear hA hr hc hx
  go_enter Tryd.func37, Tryd.ntmps37
  go_wp2
  obtain ⟨D1, D2⟩ := HD.out
  refine bodyPost_ret (v := .agg #[.int .i64 0, .int .i64 0, .int .i64 0, .int .i64 0, .int .i64 0, .bool false, .slice none 0 0, .slice none 0 0]) (by simp [results, Tryd.results37, go_sem]) rfl ?_
  refine ⟨0, 0, 0, 0, 0, false, none, none, 0, 0, 0, 0, rfl, D1, D2, ?_⟩
  intro f j hf
  cases hf
  exact ⟨rfl, rfl, rfl, rfl, rfl, rfl, Own.nil _ _ _ _, OwnS.nil _ _⟩

set_option maxHeartbeats 1600000 in
theorem rframe_1 (p b o cp : Nat) (xs : List Int) (a : Nat) (w : World) (hA : RA w p (.slice (some ⟨b, o, none⟩) xs.length cp) a 0 0) (hr : Rd .u8 w (.slice (some ⟨b, o, none⟩) xs.length cp) xs) (hx : Bts xs) (ha : a < xs.length) (hbig : xs.length ≤ 1048576) (hbp : b ≠ p) (hb : b < w.heap.size) (hc : xs.getD a 0 = 1) :
    Calls Tryd.prog 37 #[.pointer (some ⟨p, 0, none⟩)] w (RFrIs w p (.slice (some ⟨b, o, none⟩) xs.length cp) xs.length (restR xs a 1 7 (a + 1))) := by
  have HD := Lib.hid (rs_start p (.slice (some ⟨b, o, none⟩) xs.length cp) xs a w (.cells #[.int .i64 1, .int .i64 0, .int .i64 0, .int .i64 0, .int .i64 0, .bool false, .slice none 0 0, .slice none 0 0] 33) hA ha)
  have hlt := hA.lt
  have c0 := (hA.alloc (.cells #[.int .i64 0, .int .i64 0, .int .i64 0, .int .i64 0, .int .i64 0, .bool false, .slice none 0 0, .slice none 0 0] 33)).c0
  have c1 := (hA.alloc (.cells #[.int .i64 0, .int .i64 0, .int .i64 0, .int .i64 0, .int .i64 0, .bool false, .slice none 0 0, .slice none 0 0] 33)).c1
  have f1 := (hA.alloc (.cells #[.int .i64 0, .int .i64 0, .int .i64 0, .int .i64 0, .int .i64 0, .bool false, .slice none 0 0, .slice none 0 0] 33)).fz 1
  have hbc : (w.alloc (.cells #[.int .i64 0, .int .i64 0, .int .i64 0, .int .i64 0, .int .i64 0, .bool false, .slice none 0 0, .slice none 0 0] 33)).cell? ⟨b, o + a, none⟩ = some (.int .u8 1) := by
    obtain ⟨b', o', c', hq, hb', hcell⟩ := Rd.form' hr (by intro h; rw [h] at ha; simp at ha)
    simp only [Value.slice.injEq, Option.some.injEq, Addr.mk.injEq, and_true, true_and] at hq
    obtain ⟨⟨rfl, rfl⟩, rfl⟩ := hq
    have h := hcell a ha
    rw [hc] at h
    exact (((Below.refl w.heap.size w).alloc (Nat.le_refl _) (.cells #[.int .i64 0, .int .i64 0, .int .i64 0, .int .i64 0, .int .i64 0, .bool false, .slice none 0 0, .slice none 0 0] 33)).cell (p := ⟨b, o + a, none⟩) hb).trans h
  have Q0 := Lib.hid (RQ.start p b o cp xs a w hA hr ha hbp)
  have hw1 : IntKind.i64.wrap ((a : Int) + 1) = (a : Int) + 1 := wraps_i64' _ (by omega) (by omega)
  have hi1 : (a : Int) < (xs.length : Int) := by omega
  have HX := Lib.hid hx
  have n1w : p ≠ w.heap.size := by omega
  clear hA hr hc hx
  go_enter Tryd.func37, Tryd.ntmps37
  go_wp2
  obtain ⟨D1, D2⟩ := HD.out
  refine bodyPost_ret (v := .agg #[.int .i64 1, .int .i64 0, .int .i64 0, .int .i64 0, .int .i64 0, .bool false, .slice none 0 0, .slice none 0 0]) (by simp [results, Tryd.results37, go_sem]) rfl ?_
  refine ⟨1, 0, 0, 0, 0, false, none, none, 0, 0, 0, 0, rfl, D1, D2, ?_⟩
  intro f j hf
  cases hf
  exact ⟨rfl, rfl, rfl, rfl, rfl, rfl, Own.nil _ _ _ _, OwnS.nil _ _⟩

set_option maxHeartbeats 1600000 in
theorem rframe_30 (p b o cp : Nat) (xs : List Int) (a : Nat) (w : World) (hA : RA w p (.slice (some ⟨b, o, none⟩) xs.length cp) a 0 0) (hr : Rd .u8 w (.slice (some ⟨b, o, none⟩) xs.length cp) xs) (hx : Bts xs) (ha : a < xs.length) (hbig : xs.length ≤ 1048576) (hbp : b ≠ p) (hb : b < w.heap.size) (hc : xs.getD a 0 = 30) :
    Calls Tryd.prog 37 #[.pointer (some ⟨p, 0, none⟩)] w (RFrIs w p (.slice (some ⟨b, o, none⟩) xs.length cp) xs.length (restR xs a 30 7 (a + 1))) := by
  have HD := Lib.hid (rs_start p (.slice (some ⟨b, o, none⟩) xs.length cp) xs a w (.cells #[.int .i64 30, .int .i64 0, .int .i64 0, .int .i64 0, .int .i64 0, .bool false, .slice none 0 0, .slice none 0 0] 33) hA ha)
  have hlt := hA.lt
  have c0 := (hA.alloc (.cells #[.int .i64 0, .int .i64 0, .int .i64 0, .int .i64 0, .int .i64 0, .bool false, .slice none 0 0, .slice none 0 0] 33)).c0
  have c1 := (hA.alloc (.cells #[.int .i64 0, .int .i64 0, .int .i64 0, .int .i64 0, .int .i64 0, .bool false, .slice none 0 0, .slice none 0 0] 33)).c1
  have f1 := (hA.alloc (.cells #[.int .i64 0, .int .i64 0, .int .i64 0, .int .i64 0, .int .i64 0, .bool false, .slice none 0 0, .slice none 0 0] 33)).fz 1
  have hbc : (w.alloc (.cells #[.int .i64 0, .int .i64 0, .int .i64 0, .int .i64 0, .int .i64 0, .bool false, .slice none 0 0, .slice none 0 0] 33)).cell? ⟨b, o + a, none⟩ = some (.int .u8 30) := by
    obtain ⟨b', o', c', hq, hb', hcell⟩ := Rd.form' hr (by intro h; rw [h] at ha; simp at ha)
    simp only [Value.slice.injEq, Option.some.injEq, Addr.mk.injEq, and_true, true_and] at hq
    obtain ⟨⟨rfl, rfl⟩, rfl⟩ := hq
    have h := hcell a ha
    rw [hc] at h
    exact (((Below.refl w.heap.size w).alloc (Nat.le_refl _) (.cells #[.int .i64 0, .int .i64 0, .int .i64 0, .int .i64 0, .int .i64 0, .bool false, .slice none 0 0, .slice none 0 0] 33)).cell (p := ⟨b, o + a, none⟩) hb).trans h
  have Q0 := Lib.hid (RQ.start p b o cp xs a w hA hr ha hbp)
  have hw1 : IntKind.i64.wrap ((a : Int) + 1) = (a : Int) + 1 := wraps_i64' _ (by omega) (by omega)
  have hi1 : (a : Int) < (xs.length : Int) := by omega
  have HX := Lib.hid hx
  have n1w : p ≠ w.heap.size := by omega
  clear hA hr hc hx
  go_enter Tryd.func37, Tryd.ntmps37
  go_wp2
  obtain ⟨D1, D2⟩ := HD.out
  refine bodyPost_ret (v := .agg #[.int .i64 30, .int .i64 0, .int .i64 0, .int .i64 0, .int .i64 0, .bool false, .slice none 0 0, .slice none 0 0]) (by simp [results, Tryd.results37, go_sem]) rfl ?_
  refine ⟨30, 0, 0, 0, 0, false, none, none, 0, 0, 0, 0, rfl, D1, D2, ?_⟩
  intro f j hf
  cases hf
  exact ⟨rfl, rfl, rfl, rfl, rfl, rfl, Own.nil _ _ _ _, OwnS.nil _ _⟩

set_option maxHeartbeats 1600000 in
theorem rframe_un (p b o cp : Nat) (xs : List Int) (a : Nat) (w : World) (hA : RA w p (.slice (some ⟨b, o, none⟩) xs.length cp) a 0 0) (hr : Rd .u8 w (.slice (some ⟨b, o, none⟩) xs.length cp) xs) (hx : Bts xs) (ha : a < xs.length) (hbig : xs.length ≤ 1048576) (hbp : b ≠ p) (hb : b < w.heap.size) (c : Int) (hc : xs.getD a 0 = c) (hu : ¬ (isStream c ∨ knownK c)) :
    Calls Tryd.prog 37 #[.pointer (some ⟨p, 0, none⟩)] w (RFrIs w p (.slice (some ⟨b, o, none⟩) xs.length cp) xs.length (.error (5, (a : Int)))) := by
  have hcb := getD_bts hx a
  rw [hc] at hcb
  obtain ⟨hcb0, hcb1⟩ := hcb
  have hlt := hA.lt
  have c0 := (hA.alloc (.cells #[.int .i64 0, .int .i64 0, .int .i64 0, .int .i64 0, .int .i64 0, .bool false, .slice none 0 0, .slice none 0 0] 33)).c0
  have c1 := (hA.alloc (.cells #[.int .i64 0, .int .i64 0, .int .i64 0, .int .i64 0, .int .i64 0, .bool false, .slice none 0 0, .slice none 0 0] 33)).c1
  have f1 := (hA.alloc (.cells #[.int .i64 0, .int .i64 0, .int .i64 0, .int .i64 0, .int .i64 0, .bool false, .slice none 0 0, .slice none 0 0] 33)).fz 1
  have hbc : (w.alloc (.cells #[.int .i64 0, .int .i64 0, .int .i64 0, .int .i64 0, .int .i64 0, .bool false, .slice none 0 0, .slice none 0 0] 33)).cell? ⟨b, o + a, none⟩ = some (.int .u8 c) := by
    obtain ⟨b', o', c', hq, hb', hcell⟩ := Rd.form' hr (by intro h; rw [h] at ha; simp at ha)
    simp only [Value.slice.injEq, Option.some.injEq, Addr.mk.injEq, and_true, true_and] at hq
    obtain ⟨⟨rfl, rfl⟩, rfl⟩ := hq
    have h := hcell a ha
    rw [hc] at h
    exact (((Below.refl w.heap.size w).alloc (Nat.le_refl _) (.cells #[.int .i64 0, .int .i64 0, .int .i64 0, .int .i64 0, .int .i64 0, .bool false, .slice none 0 0, .slice none 0 0] 33)).cell (p := ⟨b, o + a, none⟩) hb).trans h
  have Q0 := Lib.hid (RQ.start p b o cp xs a w hA hr ha hbp)
  have hw1 : IntKind.i64.wrap ((a : Int) + 1) = (a : Int) + 1 := wraps_i64' _ (by omega) (by omega)
  have hi1 : (a : Int) < (xs.length : Int) := by omega
  have HX := Lib.hid hx
  have n1w : p ≠ w.heap.size := by omega
  clear hA hr hc hx
  have k0 : (c == 0) = false := by simp; intro h; exact hu (by rw [h]; decide)
  have k1 : (c == 1) = false := by simp; intro h; exact hu (by rw [h]; decide)
  have k30 : (c == 30) = false := by simp; intro h; exact hu (by rw [h]; decide)
  have k2 : (c == 2) = false := by simp; intro h; exact hu (by rw [h]; decide)
  have k4 : (c == 4) = false := by simp; intro h; exact hu (by rw [h]; decide)
  have k5 : (c == 5) = false := by simp; intro h; exact hu (by rw [h]; decide)
  have k8 : (c == 8) = false := by simp; intro h; exact hu (by rw [h]; decide)
  have k9 : (c == 9) = false := by simp; intro h; exact hu (by rw [h]; decide)
  have k10 : (c == 10) = false := by simp; intro h; exact hu (by rw [h]; decide)
  have k11 : (c == 11) = false := by simp; intro h; exact hu (by rw [h]; decide)
  have k12 : (c == 12) = false := by simp; intro h; exact hu (by rw [h]; decide)
  have k13 : (c == 13) = false := by simp; intro h; exact hu (by rw [h]; decide)
  have k14 : (c == 14) = false := by simp; intro h; exact hu (by rw [h]; decide)
  have k15 : (c == 15) = false := by simp; intro h; exact hu (by rw [h]; decide)
  have k16 : (c == 16) = false := by simp; intro h; exact hu (by rw [h]; decide)
  have k18 : (c == 18) = false := by simp; intro h; exact hu (by rw [h]; decide)
  have k17 : (c == 17) = false := by simp; intro h; exact hu (by rw [h]; decide)
  have k28 : (c == 28) = false := by simp; intro h; exact hu (by rw [h]; decide)
  have FA := Lib.hid (rfails_any p _ xs.length (.ok (a + 1)) 5 a _ Q0.out.at_ (by omega))
  clear hu
  go_enter Tryd.func37, Tryd.ntmps37
  go_wp2_with fail
  refine FA.out.mono ?_
  rintro e w2 ⟨rfl, g2, s2⟩
  have Q1 := Lib.hid (Q0.out.step g2 s2)
  have kc := fun i => Joins.cell_of_block Q1.out.res i
  have kc0 := kc 0
  have kc1 := kc 1
  have kc2 := kc 2
  have kc3 := kc 3
  have kc4 := kc 4
  have kc5 := kc 5
  have kc6 := kc 6
  have kc7 := kc 7
  have kcf := Joins.unfrozen_of_block Q1.out.res
  clear kc
  clear g2 s2
  go_wp2
  obtain ⟨D1, D2⟩ := RQ.done Q1.out (set8 _ w.heap.size _ _ _ _ _ _ _ _)
  refine bodyPost_ret (v := .agg #[.int .i64 0, .int .i64 0, .int .i64 0, .int .i64 0, .int .i64 0, .bool false, .slice none 0 0, .slice none 0 0]) (by simp [results, Tryd.results37, go_sem, kc0, kc1, kc2, kc3, kc4, kc5, kc6, kc7]) rfl ?_
  exact ⟨0, 0, 0, 0, 0, false, none, none, 0, 0, 0, 0, rfl, D1, D2, fun f j hf => (by cases hf)⟩

set_option maxHeartbeats 1600000 in
theorem rframe_2 (p b o cp : Nat) (xs : List Int) (a : Nat) (w : World) (hA : RA w p (.slice (some ⟨b, o, none⟩) xs.length cp) a 0 0) (hr : Rd .u8 w (.slice (some ⟨b, o, none⟩) xs.length cp) xs) (hx : Bts xs) (ha : a < xs.length) (hbig : xs.length ≤ 1048576) (hbp : b ≠ p) (hb : b < w.heap.size) (hc : xs.getD a 0 = 2) :
    Calls Tryd.prog 37 #[.pointer (some ⟨p, 0, none⟩)] w (RFrIs w p (.slice (some ⟨b, o, none⟩) xs.length cp) xs.length (restR xs a 2 7 (a + 1))) := by
  have hlt := hA.lt
  have c0 := (hA.alloc (.cells #[.int .i64 0, .int .i64 0, .int .i64 0, .int .i64 0, .int .i64 0, .bool false, .slice none 0 0, .slice none 0 0] 33)).c0
  have c1 := (hA.alloc (.cells #[.int .i64 0, .int .i64 0, .int .i64 0, .int .i64 0, .int .i64 0, .bool false, .slice none 0 0, .slice none 0 0] 33)).c1
  have f1 := (hA.alloc (.cells #[.int .i64 0, .int .i64 0, .int .i64 0, .int .i64 0, .int .i64 0, .bool false, .slice none 0 0, .slice none 0 0] 33)).fz 1
  have hbc : (w.alloc (.cells #[.int .i64 0, .int .i64 0, .int .i64 0, .int .i64 0, .int .i64 0, .bool false, .slice none 0 0, .slice none 0 0] 33)).cell? ⟨b, o + a, none⟩ = some (.int .u8 2) := by
    obtain ⟨b', o', c', hq, hb', hcell⟩ := Rd.form' hr (by intro h; rw [h] at ha; simp at ha)
    simp only [Value.slice.injEq, Option.some.injEq, Addr.mk.injEq, and_true, true_and] at hq
    obtain ⟨⟨rfl, rfl⟩, rfl⟩ := hq
    have h := hcell a ha
    rw [hc] at h
    exact (((Below.refl w.heap.size w).alloc (Nat.le_refl _) (.cells #[.int .i64 0, .int .i64 0, .int .i64 0, .int .i64 0, .int .i64 0, .bool false, .slice none 0 0, .slice none 0 0] 33)).cell (p := ⟨b, o + a, none⟩) hb).trans h
  have Q0 := Lib.hid (RQ.start p b o cp xs a w hA hr ha hbp)
  have hw1 : IntKind.i64.wrap ((a : Int) + 1) = (a : Int) + 1 := wraps_i64' _ (by omega) (by omega)
  have hi1 : (a : Int) < (xs.length : Int) := by omega
  have HX := Lib.hid hx
  have n1w : p ≠ w.heap.size := by omega
  clear hA hr hc hx
  have hW := Q0.out.gr.size
  have hWR := (Array.getElem?_eq_some_iff.1 Q0.out.res).1
  have SA := Lib.hid (rack_any p b o cp xs (a + 1) _ Q0.out.at_ Q0.out.rd HX.out hbig hbp (Nat.lt_of_lt_of_le hb hW))
  go_enter Tryd.func37, Tryd.ntmps37
  go_wp2_with fail
  refine SA.out.mono ?_
  rintro e w2 ⟨k', s', o', n', c', fin', da', sa', dl', dc', sl', sc', rfl, g2, s2, h2⟩
  have Q1 := Lib.hid (Q0.out.step g2 s2)
  have G2 := Lib.hid g2
  have S2 := Lib.hid s2
  have H2 := Lib.hid h2
  have kc := fun i => Joins.cell_of_block Q1.out.res i
  have kc0 := kc 0
  have kc1 := kc 1
  have kc2 := kc 2
  have kc3 := kc 3
  have kc4 := kc 4
  have kc5 := kc 5
  have kc6 := kc 6
  have kc7 := kc 7
  have kcf := Joins.unfrozen_of_block Q1.out.res
  clear kc
  clear g2 s2 h2
  go_wp2
  refine bodyPost_ret (v := .agg #[.int .i64 k', .int .i64 s', .int .i64 o', .int .i64 n', .int .i64 c', .bool fin', .slice da' dl' dc', .slice sa' sl' sc']) (by simp [results, Tryd.results37, go_sem, kc0, kc1, kc2, kc3, kc4, kc5, kc6, kc7]) rfl ?_
  exact RFrIs.over Q0.out hWR G2.out S2.out (set8 _ w.heap.size _ _ _ _ _ _ _ _) H2.out

set_option maxHeartbeats 1600000 in
theorem rframe_s0 (p b o cp : Nat) (xs : List Int) (a : Nat) (w : World) (hA : RA w p (.slice (some ⟨b, o, none⟩) xs.length cp) a 0 0) (hr : Rd .u8 w (.slice (some ⟨b, o, none⟩) xs.length cp) xs) (hx : Bts xs) (ha : a < xs.length) (hbig : xs.length ≤ 1048576) (hbp : b ≠ p) (hb : b < w.heap.size) (hc : xs.getD a 0 = 8) :
    Calls Tryd.prog 37 #[.pointer (some ⟨p, 0, none⟩)] w (RFrIs w p (.slice (some ⟨b, o, none⟩) xs.length cp) xs.length (restR xs a 8 0 (a + 1))) := by
  have hlt := hA.lt
  have c0 := (hA.alloc (.cells #[.int .i64 0, .int .i64 0, .int .i64 0, .int .i64 0, .int .i64 0, .bool false, .slice none 0 0, .slice none 0 0] 33)).c0
  have c1 := (hA.alloc (.cells #[.int .i64 0, .int .i64 0, .int .i64 0, .int .i64 0, .int .i64 0, .bool false, .slice none 0 0, .slice none 0 0] 33)).c1
  have f1 := (hA.alloc (.cells #[.int .i64 0, .int .i64 0, .int .i64 0, .int .i64 0, .int .i64 0, .bool false, .slice none 0 0, .slice none 0 0] 33)).fz 1
  have hbc : (w.alloc (.cells #[.int .i64 0, .int .i64 0, .int .i64 0, .int .i64 0, .int .i64 0, .bool false, .slice none 0 0, .slice none 0 0] 33)).cell? ⟨b, o + a, none⟩ = some (.int .u8 8) := by
    obtain ⟨b', o', c', hq, hb', hcell⟩ := Rd.form' hr (by intro h; rw [h] at ha; simp at ha)
    simp only [Value.slice.injEq, Option.some.injEq, Addr.mk.injEq, and_true, true_and] at hq
    obtain ⟨⟨rfl, rfl⟩, rfl⟩ := hq
    have h := hcell a ha
    rw [hc] at h
    exact (((Below.refl w.heap.size w).alloc (Nat.le_refl _) (.cells #[.int .i64 0, .int .i64 0, .int .i64 0, .int .i64 0, .int .i64 0, .bool false, .slice none 0 0, .slice none 0 0] 33)).cell (p := ⟨b, o + a, none⟩) hb).trans h
  have Q0 := Lib.hid (RQ.start p b o cp xs a w hA hr ha hbp)
  have hw1 : IntKind.i64.wrap ((a : Int) + 1) = (a : Int) + 1 := wraps_i64' _ (by omega) (by omega)
  have hi1 : (a : Int) < (xs.length : Int) := by omega
  have HX := Lib.hid hx
  have n1w : p ≠ w.heap.size := by omega
  clear hA hr hc hx
  have hW := Q0.out.gr.size
  have hWR := (Array.getElem?_eq_some_iff.1 Q0.out.res).1
  have SA0 := rstream_00 p b o cp xs (a + 1) a 0 _ Q0.out.at_ Q0.out.rd HX.out hbig hbp (Nat.lt_of_lt_of_le hb hW) (by decide +kernel) (by decide +kernel) (by decide +kernel) (by decide) (by decide)
  rw [show ((8 : Int) + 0) = 8 from rfl] at SA0
  have SA := Lib.hid SA0
  clear SA0
  go_enter Tryd.func37, Tryd.ntmps37
  go_wp2_with fail
  refine SA.out.mono ?_
  rintro e w2 ⟨k', s', o', n', c', fin', da', sa', dl', dc', sl', sc', rfl, g2, s2, h2⟩
  have Q1 := Lib.hid (Q0.out.step g2 s2)
  have G2 := Lib.hid g2
  have S2 := Lib.hid s2
  have H2 := Lib.hid h2
  have kc := fun i => Joins.cell_of_block Q1.out.res i
  have kc0 := kc 0
  have kc1 := kc 1
  have kc2 := kc 2
  have kc3 := kc 3
  have kc4 := kc 4
  have kc5 := kc 5
  have kc6 := kc 6
  have kc7 := kc 7
  have kcf := Joins.unfrozen_of_block Q1.out.res
  clear kc
  clear g2 s2 h2
  go_wp2
  refine bodyPost_ret (v := .agg #[.int .i64 k', .int .i64 s', .int .i64 o', .int .i64 n', .int .i64 c', .bool fin', .slice da' dl' dc', .slice sa' sl' sc']) (by simp [results, Tryd.results37, go_sem, kc0, kc1, kc2, kc3, kc4, kc5, kc6, kc7]) rfl ?_
  exact RFrIs.over Q0.out hWR G2.out S2.out (set8 _ w.heap.size _ _ _ _ _ _ _ _) H2.out

set_option maxHeartbeats 1600000 in
theorem rframe_s1 (p b o cp : Nat) (xs : List Int) (a : Nat) (w : World) (hA : RA w p (.slice (some ⟨b, o, none⟩) xs.length cp) a 0 0) (hr : Rd .u8 w (.slice (some ⟨b, o, none⟩) xs.length cp) xs) (hx : Bts xs) (ha : a < xs.length) (hbig : xs.length ≤ 1048576) (hbp : b ≠ p) (hb : b < w.heap.size) (hc : xs.getD a 0 = 9) :
    Calls Tryd.prog 37 #[.pointer (some ⟨p, 0, none⟩)] w (RFrIs w p (.slice (some ⟨b, o, none⟩) xs.length cp) xs.length (restR xs a 8 1 (a + 1))) := by
  have hlt := hA.lt
  have c0 := (hA.alloc (.cells #[.int .i64 0, .int .i64 0, .int .i64 0, .int .i64 0, .int .i64 0, .bool false, .slice none 0 0, .slice none 0 0] 33)).c0
  have c1 := (hA.alloc (.cells #[.int .i64 0, .int .i64 0, .int .i64 0, .int .i64 0, .int .i64 0, .bool false, .slice none 0 0, .slice none 0 0] 33)).c1
  have f1 := (hA.alloc (.cells #[.int .i64 0, .int .i64 0, .int .i64 0, .int .i64 0, .int .i64 0, .bool false, .slice none 0 0, .slice none 0 0] 33)).fz 1
  have hbc : (w.alloc (.cells #[.int .i64 0, .int .i64 0, .int .i64 0, .int .i64 0, .int .i64 0, .bool false, .slice none 0 0, .slice none 0 0] 33)).cell? ⟨b, o + a, none⟩ = some (.int .u8 9) := by
    obtain ⟨b', o', c', hq, hb', hcell⟩ := Rd.form' hr (by intro h; rw [h] at ha; simp at ha)
    simp only [Value.slice.injEq, Option.some.injEq, Addr.mk.injEq, and_true, true_and] at hq
    obtain ⟨⟨rfl, rfl⟩, rfl⟩ := hq
    have h := hcell a ha
    rw [hc] at h
    exact (((Below.refl w.heap.size w).alloc (Nat.le_refl _) (.cells #[.int .i64 0, .int .i64 0, .int .i64 0, .int .i64 0, .int .i64 0, .bool false, .slice none 0 0, .slice none 0 0] 33)).cell (p := ⟨b, o + a, none⟩) hb).trans h
  have Q0 := Lib.hid (RQ.start p b o cp xs a w hA hr ha hbp)
  have hw1 : IntKind.i64.wrap ((a : Int) + 1) = (a : Int) + 1 := wraps_i64' _ (by omega) (by omega)
  have hi1 : (a : Int) < (xs.length : Int) := by omega
  have HX := Lib.hid hx
  have n1w : p ≠ w.heap.size := by omega
  clear hA hr hc hx
  have hW := Q0.out.gr.size
  have hWR := (Array.getElem?_eq_some_iff.1 Q0.out.res).1
  have SA0 := rstream_00 p b o cp xs (a + 1) a 1 _ Q0.out.at_ Q0.out.rd HX.out hbig hbp (Nat.lt_of_lt_of_le hb hW) (by decide +kernel) (by decide +kernel) (by decide +kernel) (by decide) (by decide)
  rw [show ((8 : Int) + 1) = 9 from rfl] at SA0
  have SA := Lib.hid SA0
  clear SA0
  go_enter Tryd.func37, Tryd.ntmps37
  go_wp2_with fail
  refine SA.out.mono ?_
  rintro e w2 ⟨k', s', o', n', c', fin', da', sa', dl', dc', sl', sc', rfl, g2, s2, h2⟩
  have Q1 := Lib.hid (Q0.out.step g2 s2)
  have G2 := Lib.hid g2
  have S2 := Lib.hid s2
  have H2 := Lib.hid h2
  have kc := fun i => Joins.cell_of_block Q1.out.res i
  have kc0 := kc 0
  have kc1 := kc 1
  have kc2 := kc 2
  have kc3 := kc 3
  have kc4 := kc 4
  have kc5 := kc 5
  have kc6 := kc 6
  have kc7 := kc 7
  have kcf := Joins.unfrozen_of_block Q1.out.res
  clear kc
  clear g2 s2 h2
  go_wp2
  refine bodyPost_ret (v := .agg #[.int .i64 k', .int .i64 s', .int .i64 o', .int .i64 n', .int .i64 c', .bool fin', .slice da' dl' dc', .slice sa' sl' sc']) (by simp [results, Tryd.results37, go_sem, kc0, kc1, kc2, kc3, kc4, kc5, kc6, kc7]) rfl ?_
  exact RFrIs.over Q0.out hWR G2.out S2.out (set8 _ w.heap.size _ _ _ _ _ _ _ _) H2.out

set_option maxHeartbeats 1600000 in
theorem rframe_s2 (p b o cp : Nat) (xs : List Int) (a : Nat) (w : World) (hA : RA w p (.slice (some ⟨b, o, none⟩) xs.length cp) a 0 0) (hr : Rd .u8 w (.slice (some ⟨b, o, none⟩) xs.length cp) xs) (hx : Bts xs) (ha : a < xs.length) (hbig : xs.length ≤ 1048576) (hbp : b ≠ p) (hb : b < w.heap.size) (hc : xs.getD a 0 = 10) :
    Calls Tryd.prog 37 #[.pointer (some ⟨p, 0, none⟩)] w (RFrIs w p (.slice (some ⟨b, o, none⟩) xs.length cp) xs.length (restR xs a 8 2 (a + 1))) := by
  have hlt := hA.lt
  have c0 := (hA.alloc (.cells #[.int .i64 0, .int .i64 0, .int .i64 0, .int .i64 0, .int .i64 0, .bool false, .slice none 0 0, .slice none 0 0] 33)).c0
  have c1 := (hA.alloc (.cells #[.int .i64 0, .int .i64 0, .int .i64 0, .int .i64 0, .int .i64 0, .bool false, .slice none 0 0, .slice none 0 0] 33)).c1
  have f1 := (hA.alloc (.cells #[.int .i64 0, .int .i64 0, .int .i64 0, .int .i64 0, .int .i64 0, .bool false, .slice none 0 0, .slice none 0 0] 33)).fz 1
  have hbc : (w.alloc (.cells #[.int .i64 0, .int .i64 0, .int .i64 0, .int .i64 0, .int .i64 0, .bool false, .slice none 0 0, .slice none 0 0] 33)).cell? ⟨b, o + a, none⟩ = some (.int .u8 10) := by
    obtain ⟨b', o', c', hq, hb', hcell⟩ := Rd.form' hr (by intro h; rw [h] at ha; simp at ha)
    simp only [Value.slice.injEq, Option.some.injEq, Addr.mk.injEq, and_true, true_and] at hq
    obtain ⟨⟨rfl, rfl⟩, rfl⟩ := hq
    have h := hcell a ha
    rw [hc] at h
    exact (((Below.refl w.heap.size w).alloc (Nat.le_refl _) (.cells #[.int .i64 0, .int .i64 0, .int .i64 0, .int .i64 0, .int .i64 0, .bool false, .slice none 0 0, .slice none 0 0] 33)).cell (p := ⟨b, o + a, none⟩) hb).trans h
  have Q0 := Lib.hid (RQ.start p b o cp xs a w hA hr ha hbp)
  have hw1 : IntKind.i64.wrap ((a : Int) + 1) = (a : Int) + 1 := wraps_i64' _ (by omega) (by omega)
  have hi1 : (a : Int) < (xs.length : Int) := by omega
  have HX := Lib.hid hx
  have n1w : p ≠ w.heap.size := by omega
  clear hA hr hc hx
  have hW := Q0.out.gr.size
  have hWR := (Array.getElem?_eq_some_iff.1 Q0.out.res).1
  have SA0 := rstream_01 p b o cp xs (a + 1) a 2 _ Q0.out.at_ Q0.out.rd HX.out hbig hbp (Nat.lt_of_lt_of_le hb hW) (by decide +kernel) (by decide +kernel) (by decide +kernel) (by decide) (by decide)
  rw [show ((8 : Int) + 2) = 10 from rfl] at SA0
  have SA := Lib.hid SA0
  clear SA0
  go_enter Tryd.func37, Tryd.ntmps37
  go_wp2_with fail
  refine SA.out.mono ?_
  rintro e w2 ⟨k', s', o', n', c', fin', da', sa', dl', dc', sl', sc', rfl, g2, s2, h2⟩
  have Q1 := Lib.hid (Q0.out.step g2 s2)
  have G2 := Lib.hid g2
  have S2 := Lib.hid s2
  have H2 := Lib.hid h2
  have kc := fun i => Joins.cell_of_block Q1.out.res i
  have kc0 := kc 0
  have kc1 := kc 1
  have kc2 := kc 2
  have kc3 := kc 3
  have kc4 := kc 4
  have kc5 := kc 5
  have kc6 := kc 6
  have kc7 := kc 7
  have kcf := Joins.unfrozen_of_block Q1.out.res
  clear kc
  clear g2 s2 h2
  go_wp2
  refine bodyPost_ret (v := .agg #[.int .i64 k', .int .i64 s', .int .i64 o', .int .i64 n', .int .i64 c', .bool fin', .slice da' dl' dc', .slice sa' sl' sc']) (by simp [results, Tryd.results37, go_sem, kc0, kc1, kc2, kc3, kc4, kc5, kc6, kc7]) rfl ?_
  exact RFrIs.over Q0.out hWR G2.out S2.out (set8 _ w.heap.size _ _ _ _ _ _ _ _) H2.out

set_option maxHeartbeats 1600000 in
theorem rframe_s3 (p b o cp : Nat) (xs : List Int) (a : Nat) (w : World) (hA : RA w p (.slice (some ⟨b, o, none⟩) xs.length cp) a 0 0) (hr : Rd .u8 w (.slice (some ⟨b, o, none⟩) xs.length cp) xs) (hx : Bts xs) (ha : a < xs.length) (hbig : xs.length ≤ 1048576) (hbp : b ≠ p) (hb : b < w.heap.size) (hc : xs.getD a 0 = 11) :
    Calls Tryd.prog 37 #[.pointer (some ⟨p, 0, none⟩)] w (RFrIs w p (.slice (some ⟨b, o, none⟩) xs.length cp) xs.length (restR xs a 8 3 (a + 1))) := by
  have hlt := hA.lt
  have c0 := (hA.alloc (.cells #[.int .i64 0, .int .i64 0, .int .i64 0, .int .i64 0, .int .i64 0, .bool false, .slice none 0 0, .slice none 0 0] 33)).c0
  have c1 := (hA.alloc (.cells #[.int .i64 0, .int .i64 0, .int .i64 0, .int .i64 0, .int .i64 0, .bool false, .slice none 0 0, .slice none 0 0] 33)).c1
  have f1 := (hA.alloc (.cells #[.int .i64 0, .int .i64 0, .int .i64 0, .int .i64 0, .int .i64 0, .bool false, .slice none 0 0, .slice none 0 0] 33)).fz 1
  have hbc : (w.alloc (.cells #[.int .i64 0, .int .i64 0, .int .i64 0, .int .i64 0, .int .i64 0, .bool false, .slice none 0 0, .slice none 0 0] 33)).cell? ⟨b, o + a, none⟩ = some (.int .u8 11) := by
    obtain ⟨b', o', c', hq, hb', hcell⟩ := Rd.form' hr (by intro h; rw [h] at ha; simp at ha)
    simp only [Value.slice.injEq, Option.some.injEq, Addr.mk.injEq, and_true, true_and] at hq
    obtain ⟨⟨rfl, rfl⟩, rfl⟩ := hq
    have h := hcell a ha
    rw [hc] at h
    exact (((Below.refl w.heap.size w).alloc (Nat.le_refl _) (.cells #[.int .i64 0, .int .i64 0, .int .i64 0, .int .i64 0, .int .i64 0, .bool false, .slice none 0 0, .slice none 0 0] 33)).cell (p := ⟨b, o + a, none⟩) hb).trans h
  have Q0 := Lib.hid (RQ.start p b o cp xs a w hA hr ha hbp)
  have hw1 : IntKind.i64.wrap ((a : Int) + 1) = (a : Int) + 1 := wraps_i64' _ (by omega) (by omega)
  have hi1 : (a : Int) < (xs.length : Int) := by omega
  have HX := Lib.hid hx
  have n1w : p ≠ w.heap.size := by omega
  clear hA hr hc hx
  have hW := Q0.out.gr.size
  have hWR := (Array.getElem?_eq_some_iff.1 Q0.out.res).1
  have SA0 := rstream_01 p b o cp xs (a + 1) a 3 _ Q0.out.at_ Q0.out.rd HX.out hbig hbp (Nat.lt_of_lt_of_le hb hW) (by decide +kernel) (by decide +kernel) (by decide +kernel) (by decide) (by decide)
  rw [show ((8 : Int) + 3) = 11 from rfl] at SA0
  have SA := Lib.hid SA0
  clear SA0
  go_enter Tryd.func37, Tryd.ntmps37
  go_wp2_with fail
  refine SA.out.mono ?_
  rintro e w2 ⟨k', s', o', n', c', fin', da', sa', dl', dc', sl', sc', rfl, g2, s2, h2⟩
  have Q1 := Lib.hid (Q0.out.step g2 s2)
  have G2 := Lib.hid g2
  have S2 := Lib.hid s2
  have H2 := Lib.hid h2
  have kc := fun i => Joins.cell_of_block Q1.out.res i
  have kc0 := kc 0
  have kc1 := kc 1
  have kc2 := kc 2
  have kc3 := kc 3
  have kc4 := kc 4
  have kc5 := kc 5
  have kc6 := kc 6
  have kc7 := kc 7
  have kcf := Joins.unfrozen_of_block Q1.out.res
  clear kc
  clear g2 s2 h2
  go_wp2
  refine bodyPost_ret (v := .agg #[.int .i64 k', .int .i64 s', .int .i64 o', .int .i64 n', .int .i64 c', .bool fin', .slice da' dl' dc', .slice sa' sl' sc']) (by simp [results, Tryd.results37, go_sem, kc0, kc1, kc2, kc3, kc4, kc5, kc6, kc7]) rfl ?_
  exact RFrIs.over Q0.out hWR G2.out S2.out (set8 _ w.heap.size _ _ _ _ _ _ _ _) H2.out

set_option maxHeartbeats 1600000 in
theorem rframe_s4 (p b o cp : Nat) (xs : List Int) (a : Nat) (w : World) (hA : RA w p (.slice (some ⟨b, o, none⟩) xs.length cp) a 0 0) (hr : Rd .u8 w (.slice (some ⟨b, o, none⟩) xs.length cp) xs) (hx : Bts xs) (ha : a < xs.length) (hbig : xs.length ≤ 1048576) (hbp : b ≠ p) (hb : b < w.heap.size) (hc : xs.getD a 0 = 12) :
    Calls Tryd.prog 37 #[.pointer (some ⟨p, 0, none⟩)] w (RFrIs w p (.slice (some ⟨b, o, none⟩) xs.length cp) xs.length (restR xs a 8 4 (a + 1))) := by
  have hlt := hA.lt
  have c0 := (hA.alloc (.cells #[.int .i64 0, .int .i64 0, .int .i64 0, .int .i64 0, .int .i64 0, .bool false, .slice none 0 0, .slice none 0 0] 33)).c0
  have c1 := (hA.alloc (.cells #[.int .i64 0, .int .i64 0, .int .i64 0, .int .i64 0, .int .i64 0, .bool false, .slice none 0 0, .slice none 0 0] 33)).c1
  have f1 := (hA.alloc (.cells #[.int .i64 0, .int .i64 0, .int .i64 0, .int .i64 0, .int .i64 0, .bool false, .slice none 0 0, .slice none 0 0] 33)).fz 1
  have hbc : (w.alloc (.cells #[.int .i64 0, .int .i64 0, .int .i64 0, .int .i64 0, .int .i64 0, .bool false, .slice none 0 0, .slice none 0 0] 33)).cell? ⟨b, o + a, none⟩ = some (.int .u8 12) := by
    obtain ⟨b', o', c', hq, hb', hcell⟩ := Rd.form' hr (by intro h; rw [h] at ha; simp at ha)
    simp only [Value.slice.injEq, Option.some.injEq, Addr.mk.injEq, and_true, true_and] at hq
    obtain ⟨⟨rfl, rfl⟩, rfl⟩ := hq
    have h := hcell a ha
    rw [hc] at h
    exact (((Below.refl w.heap.size w).alloc (Nat.le_refl _) (.cells #[.int .i64 0, .int .i64 0, .int .i64 0, .int .i64 0, .int .i64 0, .bool false, .slice none 0 0, .slice none 0 0] 33)).cell (p := ⟨b, o + a, none⟩) hb).trans h
  have Q0 := Lib.hid (RQ.start p b o cp xs a w hA hr ha hbp)
  have hw1 : IntKind.i64.wrap ((a : Int) + 1) = (a : Int) + 1 := wraps_i64' _ (by omega) (by omega)
  have hi1 : (a : Int) < (xs.length : Int) := by omega
  have HX := Lib.hid hx
  have n1w : p ≠ w.heap.size := by omega
  clear hA hr hc hx
  have hW := Q0.out.gr.size
  have hWR := (Array.getElem?_eq_some_iff.1 Q0.out.res).1
  have SA0 := rstream_10 p b o cp xs (a + 1) a 4 _ Q0.out.at_ Q0.out.rd HX.out hbig hbp (Nat.lt_of_lt_of_le hb hW) (by decide +kernel) (by decide +kernel) (by decide +kernel) (by decide) (by decide)
  rw [show ((8 : Int) + 4) = 12 from rfl] at SA0
  have SA := Lib.hid SA0
  clear SA0
  go_enter Tryd.func37, Tryd.ntmps37
  go_wp2_with fail
  refine SA.out.mono ?_
  rintro e w2 ⟨k', s', o', n', c', fin', da', sa', dl', dc', sl', sc', rfl, g2, s2, h2⟩
  have Q1 := Lib.hid (Q0.out.step g2 s2)
  have G2 := Lib.hid g2
  have S2 := Lib.hid s2
  have H2 := Lib.hid h2
  have kc := fun i => Joins.cell_of_block Q1.out.res i
  have kc0 := kc 0
  have kc1 := kc 1
  have kc2 := kc 2
  have kc3 := kc 3
  have kc4 := kc 4
  have kc5 := kc 5
  have kc6 := kc 6
  have kc7 := kc 7
  have kcf := Joins.unfrozen_of_block Q1.out.res
  clear kc
  clear g2 s2 h2
  go_wp2
  refine bodyPost_ret (v := .agg #[.int .i64 k', .int .i64 s', .int .i64 o', .int .i64 n', .int .i64 c', .bool fin', .slice da' dl' dc', .slice sa' sl' sc']) (by simp [results, Tryd.results37, go_sem, kc0, kc1, kc2, kc3, kc4, kc5, kc6, kc7]) rfl ?_
  exact RFrIs.over Q0.out hWR G2.out S2.out (set8 _ w.heap.size _ _ _ _ _ _ _ _) H2.out

set_option maxHeartbeats 1600000 in
theorem rframe_s5 (p b o cp : Nat) (xs : List Int) (a : Nat) (w : World) (hA : RA w p (.slice (some ⟨b, o, none⟩) xs.length cp) a 0 0) (hr : Rd .u8 w (.slice (some ⟨b, o, none⟩) xs.length cp) xs) (hx : Bts xs) (ha : a < xs.length) (hbig : xs.length ≤ 1048576) (hbp : b ≠ p) (hb : b < w.heap.size) (hc : xs.getD a 0 = 13) :
    Calls Tryd.prog 37 #[.pointer (some ⟨p, 0, none⟩)] w (RFrIs w p (.slice (some ⟨b, o, none⟩) xs.length cp) xs.length (restR xs a 8 5 (a + 1))) := by
  have hlt := hA.lt
  have c0 := (hA.alloc (.cells #[.int .i64 0, .int .i64 0, .int .i64 0, .int .i64 0, .int .i64 0, .bool false, .slice none 0 0, .slice none 0 0] 33)).c0
  have c1 := (hA.alloc (.cells #[.int .i64 0, .int .i64 0, .int .i64 0, .int .i64 0, .int .i64 0, .bool false, .slice none 0 0, .slice none 0 0] 33)).c1
  have f1 := (hA.alloc (.cells #[.int .i64 0, .int .i64 0, .int .i64 0, .int .i64 0, .int .i64 0, .bool false, .slice none 0 0, .slice none 0 0] 33)).fz 1
  have hbc : (w.alloc (.cells #[.int .i64 0, .int .i64 0, .int .i64 0, .int .i64 0, .int .i64 0, .bool false, .slice none 0 0, .slice none 0 0] 33)).cell? ⟨b, o + a, none⟩ = some (.int .u8 13) := by
    obtain ⟨b', o', c', hq, hb', hcell⟩ := Rd.form' hr (by intro h; rw [h] at ha; simp at ha)
    simp only [Value.slice.injEq, Option.some.injEq, Addr.mk.injEq, and_true, true_and] at hq
    obtain ⟨⟨rfl, rfl⟩, rfl⟩ := hq
    have h := hcell a ha
    rw [hc] at h
    exact (((Below.refl w.heap.size w).alloc (Nat.le_refl _) (.cells #[.int .i64 0, .int .i64 0, .int .i64 0, .int .i64 0, .int .i64 0, .bool false, .slice none 0 0, .slice none 0 0] 33)).cell (p := ⟨b, o + a, none⟩) hb).trans h
  have Q0 := Lib.hid (RQ.start p b o cp xs a w hA hr ha hbp)
  have hw1 : IntKind.i64.wrap ((a : Int) + 1) = (a : Int) + 1 := wraps_i64' _ (by omega) (by omega)
  have hi1 : (a : Int) < (xs.length : Int) := by omega
  have HX := Lib.hid hx
  have n1w : p ≠ w.heap.size := by omega
  clear hA hr hc hx
  have hW := Q0.out.gr.size
  have hWR := (Array.getElem?_eq_some_iff.1 Q0.out.res).1
  have SA0 := rstream_10 p b o cp xs (a + 1) a 5 _ Q0.out.at_ Q0.out.rd HX.out hbig hbp (Nat.lt_of_lt_of_le hb hW) (by decide +kernel) (by decide +kernel) (by decide +kernel) (by decide) (by decide)
  rw [show ((8 : Int) + 5) = 13 from rfl] at SA0
  have SA := Lib.hid SA0
  clear SA0
  go_enter Tryd.func37, Tryd.ntmps37
  go_wp2_with fail
  refine SA.out.mono ?_
  rintro e w2 ⟨k', s', o', n', c', fin', da', sa', dl', dc', sl', sc', rfl, g2, s2, h2⟩
  have Q1 := Lib.hid (Q0.out.step g2 s2)
  have G2 := Lib.hid g2
  have S2 := Lib.hid s2
  have H2 := Lib.hid h2
  have kc := fun i => Joins.cell_of_block Q1.out.res i
  have kc0 := kc 0
  have kc1 := kc 1
  have kc2 := kc 2
  have kc3 := kc 3
  have kc4 := kc 4
  have kc5 := kc 5
  have kc6 := kc 6
  have kc7 := kc 7
  have kcf := Joins.unfrozen_of_block Q1.out.res
  clear kc
  clear g2 s2 h2
  go_wp2
  refine bodyPost_ret (v := .agg #[.int .i64 k', .int .i64 s', .int .i64 o', .int .i64 n', .int .i64 c', .bool fin', .slice da' dl' dc', .slice sa' sl' sc']) (by simp [results, Tryd.results37, go_sem, kc0, kc1, kc2, kc3, kc4, kc5, kc6, kc7]) rfl ?_
  exact RFrIs.over Q0.out hWR G2.out S2.out (set8 _ w.heap.size _ _ _ _ _ _ _ _) H2.out

set_option maxHeartbeats 1600000 in
theorem rframe_s6 (p b o cp : Nat) (xs : List Int) (a : Nat) (w : World) (hA : RA w p (.slice (some ⟨b, o, none⟩) xs.length cp) a 0 0) (hr : Rd .u8 w (.slice (some ⟨b, o, none⟩) xs.length cp) xs) (hx : Bts xs) (ha : a < xs.length) (hbig : xs.length ≤ 1048576) (hbp : b ≠ p) (hb : b < w.heap.size) (hc : xs.getD a 0 = 14) :
    Calls Tryd.prog 37 #[.pointer (some ⟨p, 0, none⟩)] w (RFrIs w p (.slice (some ⟨b, o, none⟩) xs.length cp) xs.length (restR xs a 8 6 (a + 1))) := by
  have hlt := hA.lt
  have c0 := (hA.alloc (.cells #[.int .i64 0, .int .i64 0, .int .i64 0, .int .i64 0, .int .i64 0, .bool false, .slice none 0 0, .slice none 0 0] 33)).c0
  have c1 := (hA.alloc (.cells #[.int .i64 0, .int .i64 0, .int .i64 0, .int .i64 0, .int .i64 0, .bool false, .slice none 0 0, .slice none 0 0] 33)).c1
  have f1 := (hA.alloc (.cells #[.int .i64 0, .int .i64 0, .int .i64 0, .int .i64 0, .int .i64 0, .bool false, .slice none 0 0, .slice none 0 0] 33)).fz 1
  have hbc : (w.alloc (.cells #[.int .i64 0, .int .i64 0, .int .i64 0, .int .i64 0, .int .i64 0, .bool false, .slice none 0 0, .slice none 0 0] 33)).cell? ⟨b, o + a, none⟩ = some (.int .u8 14) := by
    obtain ⟨b', o', c', hq, hb', hcell⟩ := Rd.form' hr (by intro h; rw [h] at ha; simp at ha)
    simp only [Value.slice.injEq, Option.some.injEq, Addr.mk.injEq, and_true, true_and] at hq
    obtain ⟨⟨rfl, rfl⟩, rfl⟩ := hq
    have h := hcell a ha
    rw [hc] at h
    exact (((Below.refl w.heap.size w).alloc (Nat.le_refl _) (.cells #[.int .i64 0, .int .i64 0, .int .i64 0, .int .i64 0, .int .i64 0, .bool false, .slice none 0 0, .slice none 0 0] 33)).cell (p := ⟨b, o + a, none⟩) hb).trans h
  have Q0 := Lib.hid (RQ.start p b o cp xs a w hA hr ha hbp)
  have hw1 : IntKind.i64.wrap ((a : Int) + 1) = (a : Int) + 1 := wraps_i64' _ (by omega) (by omega)
  have hi1 : (a : Int) < (xs.length : Int) := by omega
  have HX := Lib.hid hx
  have n1w : p ≠ w.heap.size := by omega
  clear hA hr hc hx
  have hW := Q0.out.gr.size
  have hWR := (Array.getElem?_eq_some_iff.1 Q0.out.res).1
  have SA0 := rstream_11 p b o cp xs (a + 1) a 6 _ Q0.out.at_ Q0.out.rd HX.out hbig hbp (Nat.lt_of_lt_of_le hb hW) (by decide +kernel) (by decide +kernel) (by decide +kernel) (by decide) (by decide)
  rw [show ((8 : Int) + 6) = 14 from rfl] at SA0
  have SA := Lib.hid SA0
  clear SA0
  go_enter Tryd.func37, Tryd.ntmps37
  go_wp2_with fail
  refine SA.out.mono ?_
  rintro e w2 ⟨k', s', o', n', c', fin', da', sa', dl', dc', sl', sc', rfl, g2, s2, h2⟩
  have Q1 := Lib.hid (Q0.out.step g2 s2)
  have G2 := Lib.hid g2
  have S2 := Lib.hid s2
  have H2 := Lib.hid h2
  have kc := fun i => Joins.cell_of_block Q1.out.res i
  have kc0 := kc 0
  have kc1 := kc 1
  have kc2 := kc 2
  have kc3 := kc 3
  have kc4 := kc 4
  have kc5 := kc 5
  have kc6 := kc 6
  have kc7 := kc 7
  have kcf := Joins.unfrozen_of_block Q1.out.res
  clear kc
  clear g2 s2 h2
  go_wp2
  refine bodyPost_ret (v := .agg #[.int .i64 k', .int .i64 s', .int .i64 o', .int .i64 n', .int .i64 c', .bool fin', .slice da' dl' dc', .slice sa' sl' sc']) (by simp [results, Tryd.results37, go_sem, kc0, kc1, kc2, kc3, kc4, kc5, kc6, kc7]) rfl ?_
  exact RFrIs.over Q0.out hWR G2.out S2.out (set8 _ w.heap.size _ _ _ _ _ _ _ _) H2.out

set_option maxHeartbeats 1600000 in
theorem rframe_s7 (p b o cp : Nat) (xs : List Int) (a : Nat) (w : World) (hA : RA w p (.slice (some ⟨b, o, none⟩) xs.length cp) a 0 0) (hr : Rd .u8 w (.slice (some ⟨b, o, none⟩) xs.length cp) xs) (hx : Bts xs) (ha : a < xs.length) (hbig : xs.length ≤ 1048576) (hbp : b ≠ p) (hb : b < w.heap.size) (hc : xs.getD a 0 = 15) :
    Calls Tryd.prog 37 #[.pointer (some ⟨p, 0, none⟩)] w (RFrIs w p (.slice (some ⟨b, o, none⟩) xs.length cp) xs.length (restR xs a 8 7 (a + 1))) := by
  have hlt := hA.lt
  have c0 := (hA.alloc (.cells #[.int .i64 0, .int .i64 0, .int .i64 0, .int .i64 0, .int .i64 0, .bool false, .slice none 0 0, .slice none 0 0] 33)).c0
  have c1 := (hA.alloc (.cells #[.int .i64 0, .int .i64 0, .int .i64 0, .int .i64 0, .int .i64 0, .bool false, .slice none 0 0, .slice none 0 0] 33)).c1
  have f1 := (hA.alloc (.cells #[.int .i64 0, .int .i64 0, .int .i64 0, .int .i64 0, .int .i64 0, .bool false, .slice none 0 0, .slice none 0 0] 33)).fz 1
  have hbc : (w.alloc (.cells #[.int .i64 0, .int .i64 0, .int .i64 0, .int .i64 0, .int .i64 0, .bool false, .slice none 0 0, .slice none 0 0] 33)).cell? ⟨b, o + a, none⟩ = some (.int .u8 15) := by
    obtain ⟨b', o', c', hq, hb', hcell⟩ := Rd.form' hr (by intro h; rw [h] at ha; simp at ha)
    simp only [Value.slice.injEq, Option.some.injEq, Addr.mk.injEq, and_true, true_and] at hq
    obtain ⟨⟨rfl, rfl⟩, rfl⟩ := hq
    have h := hcell a ha
    rw [hc] at h
    exact (((Below.refl w.heap.size w).alloc (Nat.le_refl _) (.cells #[.int .i64 0, .int .i64 0, .int .i64 0, .int .i64 0, .int .i64 0, .bool false, .slice none 0 0, .slice none 0 0] 33)).cell (p := ⟨b, o + a, none⟩) hb).trans h
  have Q0 := Lib.hid (RQ.start p b o cp xs a w hA hr ha hbp)
  have hw1 : IntKind.i64.wrap ((a : Int) + 1) = (a : Int) + 1 := wraps_i64' _ (by omega) (by omega)
  have hi1 : (a : Int) < (xs.length : Int) := by omega
  have HX := Lib.hid hx
  have n1w : p ≠ w.heap.size := by omega
  clear hA hr hc hx
  have hW := Q0.out.gr.size
  have hWR := (Array.getElem?_eq_some_iff.1 Q0.out.res).1
  have SA0 := rstream_11 p b o cp xs (a + 1) a 7 _ Q0.out.at_ Q0.out.rd HX.out hbig hbp (Nat.lt_of_lt_of_le hb hW) (by decide +kernel) (by decide +kernel) (by decide +kernel) (by decide) (by decide)
  rw [show ((8 : Int) + 7) = 15 from rfl] at SA0
  have SA := Lib.hid SA0
  clear SA0
  go_enter Tryd.func37, Tryd.ntmps37
  go_wp2_with fail
  refine SA.out.mono ?_
  rintro e w2 ⟨k', s', o', n', c', fin', da', sa', dl', dc', sl', sc', rfl, g2, s2, h2⟩
  have Q1 := Lib.hid (Q0.out.step g2 s2)
  have G2 := Lib.hid g2
  have S2 := Lib.hid s2
  have H2 := Lib.hid h2
  have kc := fun i => Joins.cell_of_block Q1.out.res i
  have kc0 := kc 0
  have kc1 := kc 1
  have kc2 := kc 2
  have kc3 := kc 3
  have kc4 := kc 4
  have kc5 := kc 5
  have kc6 := kc 6
  have kc7 := kc 7
  have kcf := Joins.unfrozen_of_block Q1.out.res
  clear kc
  clear g2 s2 h2
  go_wp2
  refine bodyPost_ret (v := .agg #[.int .i64 k', .int .i64 s', .int .i64 o', .int .i64 n', .int .i64 c', .bool fin', .slice da' dl' dc', .slice sa' sl' sc']) (by simp [results, Tryd.results37, go_sem, kc0, kc1, kc2, kc3, kc4, kc5, kc6, kc7]) rfl ?_
  exact RFrIs.over Q0.out hWR G2.out S2.out (set8 _ w.heap.size _ _ _ _ _ _ _ _) H2.out

set_option maxHeartbeats 1600000 in
theorem rframe_28 (p b o cp : Nat) (xs : List Int) (a : Nat) (w : World) (hA : RA w p (.slice (some ⟨b, o, none⟩) xs.length cp) a 0 0) (hr : Rd .u8 w (.slice (some ⟨b, o, none⟩) xs.length cp) xs) (hx : Bts xs) (ha : a < xs.length) (hbig : xs.length ≤ 1048576) (hbp : b ≠ p) (hb : b < w.heap.size) (hc : xs.getD a 0 = 28) :
    Calls Tryd.prog 37 #[.pointer (some ⟨p, 0, none⟩)] w (RFrIs w p (.slice (some ⟨b, o, none⟩) xs.length cp) xs.length (restR xs a 28 7 (a + 1))) := by
  have hlt := hA.lt
  have c0 := (hA.alloc (.cells #[.int .i64 0, .int .i64 0, .int .i64 0, .int .i64 0, .int .i64 0, .bool false, .slice none 0 0, .slice none 0 0] 33)).c0
  have c1 := (hA.alloc (.cells #[.int .i64 0, .int .i64 0, .int .i64 0, .int .i64 0, .int .i64 0, .bool false, .slice none 0 0, .slice none 0 0] 33)).c1
  have f1 := (hA.alloc (.cells #[.int .i64 0, .int .i64 0, .int .i64 0, .int .i64 0, .int .i64 0, .bool false, .slice none 0 0, .slice none 0 0] 33)).fz 1
  have hbc : (w.alloc (.cells #[.int .i64 0, .int .i64 0, .int .i64 0, .int .i64 0, .int .i64 0, .bool false, .slice none 0 0, .slice none 0 0] 33)).cell? ⟨b, o + a, none⟩ = some (.int .u8 28) := by
    obtain ⟨b', o', c', hq, hb', hcell⟩ := Rd.form' hr (by intro h; rw [h] at ha; simp at ha)
    simp only [Value.slice.injEq, Option.some.injEq, Addr.mk.injEq, and_true, true_and] at hq
    obtain ⟨⟨rfl, rfl⟩, rfl⟩ := hq
    have h := hcell a ha
    rw [hc] at h
    exact (((Below.refl w.heap.size w).alloc (Nat.le_refl _) (.cells #[.int .i64 0, .int .i64 0, .int .i64 0, .int .i64 0, .int .i64 0, .bool false, .slice none 0 0, .slice none 0 0] 33)).cell (p := ⟨b, o + a, none⟩) hb).trans h
  have Q0 := Lib.hid (RQ.start p b o cp xs a w hA hr ha hbp)
  have hw1 : IntKind.i64.wrap ((a : Int) + 1) = (a : Int) + 1 := wraps_i64' _ (by omega) (by omega)
  have hi1 : (a : Int) < (xs.length : Int) := by omega
  have HX := Lib.hid hx
  have n1w : p ≠ w.heap.size := by omega
  clear hA hr hc hx
  have hold : ∀ j, ((.slice (some ⟨b, o, none⟩) xs.length cp) : Value).ownBlock = some j → j < w.heap.size := by
    intro j hj
    simp only [Value.ownBlock, Option.some.injEq] at hj
    omega
  have HOLD := Lib.hid hold
  clear hold
  go_enter Tryd.func37, Tryd.ntmps37
  go_wp2_with fail
  refine (rnumber_s p _ xs (.ok (a + 1)) _ Q0.out.at_ Q0.out.rd HX.out).mono ?_
  rintro e w2 ⟨n1, rfl, g1, s1, v1, u1⟩
  have X1 := Lib.hid (RX.start (cs := #[.int .i64 28, .int .i64 0, .int .i64 0, .int .i64 0, .int .i64 n1, .bool false, .slice none 0 0, .slice none 0 0]) (Q0.out.step g1 s1) HOLD.out)
  have V1 := Lib.hid v1
  clear g1 s1 v1 u1
  go_wp2_with fail
  refine (rnumber_s p _ xs _ _ X1.out.base.at_ X1.out.base.rd HX.out).mono ?_
  rintro e w3 ⟨n2, rfl, g2, s2, v2, u2⟩
  have X2 := Lib.hid (X1.out.step g2 s2)
  have hm : ∀ j, stE (bnd (stE (bnd (.ok (a + 1)) (num xs))) (num xs)) = .ok j → 0 ≤ n2 := by
    intro j hj
    obtain ⟨k1, x2, hk1, hq2⟩ := stE_ok hj
    have h1 := v2 x2 j (bnd_ok hk1 hq2)
    have h2 := num_ok HX.out hq2
    omega
  have TA := Lib.hid (rtake_s p b o cp xs _ n2 _ X2.out.base.at_ X2.out.base.rd hbig hbp hm)
  have V2 := Lib.hid v2
  clear g2 s2 v2 u2 hm
  go_wp2_with fail
  refine TA.out.mono ?_
  rintro e w7 ⟨ua, un, uc, rfl, g7, s7, o7⟩
  have X7 := Lib.hid (X2.out.step g7 s7)
  have O7 := Lib.hid o7
  have Z7 := Lib.hid X2.out.base.gr.size
  have hRX := X7.out.lt
  have hX7 := (Array.getElem?_eq_some_iff.1 X7.out.frm).1
  have hpR := X7.out.base.pR
  have hne1 : w.heap.size ≠ w2.heap.size := Nat.ne_of_lt hRX
  have hne2 : w2.heap.size ≠ w.heap.size := (Nat.ne_of_lt hRX).symm
  clear g7 s7 o7
  have fe := fun i => Joins.cell_of_block X7.out.frm i
  have fe0 := fe 0
  have fe1 := fe 1
  have fe2 := fe 2
  have fe3 := fe 3
  have fe4 := fe 4
  have fe5 := fe 5
  have fe6 := fe 6
  have fe7 := fe 7
  have fef := Joins.unfrozen_of_block X7.out.frm
  clear fe
  have rc := fun i => Joins.cell_of_block X7.out.base.res i
  have rc0 := rc 0
  have rc1 := rc 1
  have rc2 := rc 2
  have rc3 := rc 3
  have rc4 := rc 4
  have rc5 := rc 5
  have rc6 := rc 6
  have rc7 := rc 7
  have rcf := Joins.unfrozen_of_block X7.out.base.res
  clear rc
  go_wp2
  obtain ⟨D1, D2⟩ := RQ.done (X7.out.put 6 (.slice ua un uc)).base (set8 _ w.heap.size _ _ _ _ _ _ _ _)
  refine bodyPost_ret (v := .agg #[.int .i64 28, .int .i64 0, .int .i64 0, .int .i64 0, .int .i64 n1, .bool false, .slice ua un uc, .slice none 0 0]) (by simp [results, Tryd.results37, go_sem, rc0, rc1, rc2, rc3, rc4, rc5, rc6, rc7]) rfl ?_
  refine ⟨28, 0, 0, 0, n1, false, ua, none, un, uc, 0, 0, rfl, D1, ?_, ?_⟩
  · have e : stE (restR xs a 28 7 (a + 1)) = stE (bnd (stE (bnd (stE (bnd (.ok (a + 1)) (num xs))) (num xs))) fun j => dataR xs j n2) := by
      have V2' := V2.out
      unfold restR
      simp only [Int.reduceEq, if_false, if_true, or_false, or_true, false_or, true_or, reduceIte]
      cases h1 : num xs (a + 1) with
      | error e => simp only [bnd, stE, thn, h1]
      | ok y =>
        obtain ⟨x1, j1⟩ := y
        cases h2 : num xs j1 with
        | error e => simp only [bnd, stE, thn, h1, h2]
        | ok y =>
          obtain ⟨x2, j2⟩ := y
          have e2 := V2' x2 j2 (bnd_ok (by simp only [bnd, stE, h1]) h2)
          subst e2
          cases h3 : dataR xs j2 x2 with
          | error e => simp only [bnd, stE, thn, h1, h2, h3]
          | ok y => obtain ⟨x3, j3⟩ := y; simp only [bnd, stE, thn, h1, h2, h3]
    rw [e]; exact D2
  · intro f j hf
    unfold restR at hf
    simp only [Int.reduceEq, if_false, if_true, or_false, or_true, false_or, true_or, reduceIte] at hf
    obtain ⟨x1, j1, h1, hf⟩ := thn_inv hf
    obtain ⟨x2, j2, h2, hf⟩ := thn_inv hf
    obtain ⟨d, j3, h3, hf⟩ := thn_inv hf
    have e1 := V1.out x1 j1 (bnd_ok rfl h1)
    have hk : stE (bnd (.ok (a + 1)) (num xs)) = .ok j1 := by simp only [bnd, stE, h1]
    have e2 := V2.out x2 j2 (bnd_ok hk h2)
    have hk2 : stE (bnd (stE (bnd (.ok (a + 1)) (num xs))) (num xs)) = .ok j2 := by rw [hk]; simp only [bnd, stE, h2]
    subst e2
    have OW := O7.out d j3 (bnd_ok hk2 h3)
    cases hf
    have hXB := (Array.getElem?_eq_some_iff.1 X2.out.frm).1
    refine ⟨rfl, rfl, rfl, rfl, e1, rfl, ?_, OwnS.nil _ _⟩
    exact (Own.kept (Own.kept OW (grownBy_set (row := some w2.heap.size) (World.grownBy.refl _ _) _ _ (.inl rfl)) (fun j hj e => by have h1 := OW.blk j hj; have h2 := Option.some.inj e; omega)) (set8 _ w.heap.size _ _ _ _ _ _ _ _) (fun j hj e => by have h1 := OW.blk j hj; have h2 := Option.some.inj e; omega)).mono Z7.out

/-- THE REFERENCE's FRAME, WHATEVER STANDS THERE -/
theorem refFrame_any (p b o cp : Nat) (xs : List Int) (a : Nat) (w : World) (hA : RA w p (.slice (some ⟨b, o, none⟩) xs.length cp) a 0 0) (hr : Rd .u8 w (.slice (some ⟨b, o, none⟩) xs.length cp) xs) (hx : Bts xs) (ha : a < xs.length) (hbig : xs.length ≤ 1048576) (hbp : b ≠ p) (hb : b < w.heap.size) : Calls Tryd.prog 37 #[.pointer (some ⟨p, 0, none⟩)] w (RFrIs w p (.slice (some ⟨b, o, none⟩) xs.length cp) xs.length (frameR xs a)) := by
  cases hk : kindR xs a with
  | error e =>
    obtain ⟨y, z⟩ := e
    have e : frameR xs a = .error (y, z) := by unfold frameR; rw [hk]
    rw [e]
    unfold kindR at hk
    split at hk
    · cases hk
    · split at hk
      · cases hk
      · rename_i h1 h2
        cases hk
        exact rframe_un p b o cp xs a w hA hr hx ha hbig hbp hb _ rfl (fun h => h.elim h1 h2)
  | ok q =>
    obtain ⟨⟨k, bt⟩, j⟩ := q
    have e : frameR xs a = restR xs a k bt j := by unfold frameR; rw [hk]
    rw [e]
    unfold kindR at hk
    split at hk
    · rename_i hs
      unfold isStream at hs
      simp only [Except.ok.injEq, Prod.mk.injEq] at hk
      obtain ⟨⟨rfl, rfl⟩, rfl⟩ := hk
      have hcs : xs.getD a 0 = 8 ∨ xs.getD a 0 = 9 ∨ xs.getD a 0 = 10 ∨ xs.getD a 0 = 11 ∨ xs.getD a 0 = 12 ∨ xs.getD a 0 = 13 ∨ xs.getD a 0 = 14 ∨ xs.getD a 0 = 15 := by omega
      rcases hcs with h | h | h | h | h | h | h | h
      · have t := rframe_s0 p b o cp xs a w hA hr hx ha hbig hbp hb h; rw [h]; exact t
      · have t := rframe_s1 p b o cp xs a w hA hr hx ha hbig hbp hb h; rw [h]; exact t
      · have t := rframe_s2 p b o cp xs a w hA hr hx ha hbig hbp hb h; rw [h]; exact t
      · have t := rframe_s3 p b o cp xs a w hA hr hx ha hbig hbp hb h; rw [h]; exact t
      · have t := rframe_s4 p b o cp xs a w hA hr hx ha hbig hbp hb h; rw [h]; exact t
      · have t := rframe_s5 p b o cp xs a w hA hr hx ha hbig hbp hb h; rw [h]; exact t
      · have t := rframe_s6 p b o cp xs a w hA hr hx ha hbig hbp hb h; rw [h]; exact t
      · have t := rframe_s7 p b o cp xs a w hA hr hx ha hbig hbp hb h; rw [h]; exact t
    · split at hk
      · rename_i hs hn
        simp only [Except.ok.injEq, Prod.mk.injEq] at hk
        obtain ⟨⟨rfl, rfl⟩, rfl⟩ := hk
        unfold knownK at hn
        rcases hn with h | h | h | h | h | h | h | h | h | h | h
        · rw [h]; exact rframe_4 p b o cp xs a w hA hr hx ha hbig hbp hb h
        · rw [h]; exact rframe_5 p b o cp xs a w hA hr hx ha hbig hbp hb h
        · exact absurd (by unfold isStream; omega) hs
        · rw [h]; exact rframe_17 p b o cp xs a w hA hr hx ha hbig hbp hb h
        · rw [h]; exact rframe_16 p b o cp xs a w hA hr hx ha hbig hbp hb h
        · rw [h]; exact rframe_18 p b o cp xs a w hA hr hx ha hbig hbp hb h
        · rw [h]; exact rframe_2 p b o cp xs a w hA hr hx ha hbig hbp hb h
        · rw [h]; exact rframe_28 p b o cp xs a w hA hr hx ha hbig hbp hb h
        · rw [h]; exact rframe_0 p b o cp xs a w hA hr hx ha hbig hbp hb h
        · rw [h]; exact rframe_1 p b o cp xs a w hA hr hx ha hbig hbp hb h
        · rw [h]; exact rframe_30 p b o cp xs a w hA hr hx ha hbig hbp hb h
      · cases hk
end Go.Proofs.YtfkkimaebhjneaaDoor
