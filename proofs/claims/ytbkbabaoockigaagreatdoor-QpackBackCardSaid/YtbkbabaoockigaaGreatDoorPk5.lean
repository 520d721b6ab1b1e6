/- Walks of layer 14: a line of a section. -/
/- Walks of layer 14: the beginning of a section. -/
/- Layer 14: what is written is read: numbers, texts, instructions, lines. -/
/- Layer 14: the mathematics of a teller: what it has told so far is read back. -/
/- Walks of layer 14: bytes put behind bytes: numbers, texts. -/
/- Walks of layer 14: a teller in the world. -/
/- Walks of layer 14: a teller's keep, named, hasRoom. -/
/- Walks of layer 14: a teller puts a field in. -/
/- Walks of layer 14: a field told of the growing table. -/
import Derived.Test.YtbkbabaoockigaaGreatDoorPk4
import Derived.Test.YtbkbabaoockigaaGreatDoorPk3
import Derived.Lib.AppendStr
import Derived.Maps.AppendAt
set_option maxRecDepth 100000
set_option linter.unusedSimpArgs false
set_option linter.unusedVariables false
namespace Go.Proofs.YtbkbabaoockigaaGreatDoor
open Go.RowKit

theorem ln_results {W : World} {tmps : Array Value} {A : Nat} {v0 v1 x : Value} (h4 : tmps[2]?.getD undef = .pointer (some ⟨A, 0, none⟩)) (h5 : tmps[3]?.getD undef = x)
    (c0 : W.cell? ⟨A, 0, none⟩ = some v0) (c1 : W.cell? ⟨A, 1, none⟩ = some v1) : (results Tryz.f41 tmps).run Tryz.prog W = .ok (.tuple #[.agg #[v0, v1], x]) W := by
  have hr : Tryz.f41.results = #[.cell 2 74, .tmp 3] := rfl
  simp only [results, hr]
  go_simp
theorem ln_keep {g : Nat} {w w1 w0 w2 w3 : World} {x y : Value} (B1 : Below w.heap.size w w1) (B0 : Below w1.heap.size w1 w0) (K2 : Keep [g] w0 w2) (B3 : Below w2.heap.size w2 w3) : Keep [g] w ((w3.setCell ⟨w.heap.size, 0, none⟩ x).setCell ⟨w.heap.size, 1, none⟩ y) :=
  keep_less ((((((Keep.of_below (S := [w.heap.size, g]) (B1.trans (B0.mono B1.size))).trans K2 (by simp)).then_below B3).trans (keep_set _ _ _ _) (by simp)).trans (keep_set _ _ _ _) (by simp)))
/-- a cell that was made behind is written -/
theorem Sc.new {g d b : Nat} {sl : Value} {q : TQ} {v : Value} {xs : List Int} {a a' need : Nat} {base : Int} {w w' : World} (h : Sc g d b sl q v xs a need base w) (h' : Sc g d b sl q v xs a' need base w') {A : Nat} (hA : w.heap.size ≤ A) (x y : Value) : Sc g d b sl q v xs a' need base ((w'.setCell ⟨A, 0, none⟩ x).setCell ⟨A, 1, none⟩ y) := by
  have k : Keep [A] w' ((w'.setCell ⟨A, 0, none⟩ x).setCell ⟨A, 1, none⟩ y) := (keep_set _ _ _ _).trans (keep_set _ _ _ _) (by simp)
  have l1 := h.cells.lt
  have l2 := h.dcd.lt
  have l3 := h.dcd.tbl.lt
  have l4 := h.fix.pos
  exact ⟨h'.cells.keep k (by simp; omega), h'.dcd.keep k (by simp; omega) (by simp; omega) (fun j hj => by have := h.dcd.tbl.slt j hj; simp; omega), rd_keep h'.read k (fun h0 j hj => by have := h.read.blt h0 j hj; simp; omega), h'.ne, h'.ap, h'.fix.keep k (by simp; omega), h'.fg, h'.cnt, h'.ned, h'.bas⟩
theorem flag4_all : ∀ i : Fin 256, bits .and .i64 ((i.val : Int) - (i.val : Int) % 16) 16 = if (i.val : Int) / 16 % 2 = 1 then 16 else 0 := by decide +kernel
theorem flag4 (c : Int) (h0 : 0 ≤ c) (h1 : c < 256) : bits .and .i64 (c - c % (fullI 4 + 1)) 16 = if c / 16 % 2 = 1 then 16 else 0 := by
  obtain ⟨n, rfl⟩ := Int.eq_ofNat_of_zero_le h0
  exact flag4_all ⟨n, by omega⟩
/-- WHAT A LINE'S READER ANSWERS AND LEAVES -/
def LineIs (g d b : Nat) (sl : Value) (q : TQ) (v : Value) (xs : List Int) (need : Nat) (base : Int) (r : Fd × Nat × Int) (w : World) (e : Ending) (w' : World) : Prop :=
  ∃ f' : Fd, e = .returned (.tuple #[.agg #[.string f'.n, .string f'.v], errO r.2.2]) ∧ Keep [g] w w' ∧ (r.2.2 = 0 → f' = r.1 ∧ Sc g d b sl q v xs r.2.1 need base w')

set_option maxHeartbeats 12800000 in
theorem line_any {g d b : Nat} {sl : Value} {q : TQ} {v : Value} {xs : List Int} {a need : Nat} {base : Int} (w : World) (hS : Sc g d b sl q v xs a need base w) (hx : Bts xs) (hl : xs.length ≤ 1048576) (ha : a < xs.length) :
    Calls Tryz.prog 41 #[.pointer (some ⟨g, 0, none⟩)] w (LineIs g d b sl q v xs need base (lineE q need base xs a) w) := by
  obtain ⟨r, hr⟩ : ∃ r, r = lineE q need base xs a := ⟨_, rfl⟩
  rw [← hr]
  have hz := zeroFv
  have hglt := hS.cells.lt
  obtain ⟨w1, hw1⟩ : ∃ W, W = w.alloc (.cells #[.string ⟨#[]⟩, .string ⟨#[]⟩] 74) := ⟨_, rfl⟩
  have B1 : Hid (Below w.heap.size w w1) := (by rw [hw1]; exact below1 w _ : Below _ _ _)
  have R1 : Hid (Cs w1 w.heap.size [.string ⟨#[]⟩, .string ⟨#[]⟩]) := (by rw [hw1]; exact Cs.made w #[.string ⟨#[]⟩, .string ⟨#[]⟩] 74 : Cs _ _ _)
  have HS : Hid (∀ V, Below w1.heap.size w1 V → Sc g d b sl q v xs a need base V) := fun V hV => hS.below (B1.out.trans (hV.mono B1.out.size))
  have HS0 := Lib.hid hS
  have HF1 := Lib.hid (rdFirst_any w1 (HS.out w1 (Below.refl _ _)).rdr ha)
  have hcb := getD_bts hx a
  obtain ⟨c, hcc⟩ : ∃ c, c = xs.getD a 0 := ⟨_, rfl⟩
  rw [← hcc] at HF1 hcb
  have HGA : Hid (w.heap.size ∉ [g]) := by
    show w.heap.size ∉ [g]
    simp; omega
  have HX0 : Hid (Bts xs ∧ xs.length ≤ 1048576) := ⟨hx, hl⟩
  have HW1 := Lib.hid hw1
  unfold lineE at hr
  rw [← hcc] at hr
  clear hx hl ha hglt
  by_cases hc128 : 128 ≤ c
  · rw [if_pos hc128] at hr
    have e128 : decide (c ≥ 128) = true := decide_eq_true (by omega)
    have f128 : decide (128 ≤ c) = true := decide_eq_true (by omega)
    obtain ⟨⟨f, n, x, y⟩, hN⟩ : ∃ r, numE xs a 6 = r := ⟨_, rfl⟩
    simp only [hN] at hr
    by_cases hy : y = 0
    · subst hy
      rw [if_neg (fun h => h rfl)] at hr
      have hn62 := (num_ok HX0.out.1 hN).2.2.2.1
      have hfl := (num_flags HX0.out.1 hN).2
      rw [← hcc] at hfl
      have H6 := flag6 (show 128 ≤ c by omega) hcb.2
      by_cases h192 : 192 ≤ c
      · rw [if_pos h192] at hr
        rw [H6.1 h192] at hfl
        subst hfl
        have hand : bits .and .i64 192 64 = 64 := by decide
        obtain ⟨⟨⟨fn, fv⟩, y2⟩, hi⟩ : ∃ r, fixedE (n : Int) = r := ⟨_, rfl⟩
        rw [hi] at hr
        simp only at hr
        subst hr
        have HN : Hid (∀ W, Below w1.heap.size w1 W → _) := fun W hW => number_yes 6 W (HS.out W hW).rdr HX0.out.1 hN
        have HL : Hid (∀ W, Sc g d b sl q v xs x need base W → Calls Tryz.prog 66 #[.pointer (some ⟨g, 0, none⟩), .bool true, .int .i64 (n : Int)] W fun e w' => e = .returned (.tuple #[.agg #[.string fn, .string fv], errO y2]) ∧ Below W.heap.size W w') := fun W hW => ahead_any true n W hW hn62 (⟨fn, fv⟩, y2) (by simpa using hi)
        skip
        obtain ⟨ev, hev⟩ : ∃ ev, errO y2 = ev := ⟨_, rfl⟩
        rw [hev] at HL
        have HEV := Lib.hid hev
        clear hev
        clear hc128 hS hw1 hcc hcb HX0 hN H6 h192 hi hn62
        go_enter Tryz.func41, Tryz.ntmps41
        go_upto_region 1 with fail
        rw [← HW1.out]
        go_wp2_with (first
          | (go_at_call 58; refine HF1.out.mono ?_; rintro e w0 ⟨rfl, nd, hw0⟩; have hb0 : Below w1.heap.size w1 w0 := (by rw [hw0]; exact below_drewN (Below.refl _ _) nd : Below _ _ _); have B0 := Lib.hid hb0; have R0 := Lib.hid (R1.out.below hb0); clear hw0 hb0)
          | (go_at_call 62; refine (HN.out _ B0.out).mono ?_; rintro e w2 ⟨rfl, hk, hr2⟩; have K2 := Lib.hid hk; have S2 := Lib.hid ((HS.out _ B0.out).move hk hr2); have R2 := Lib.hid (R0.out.keep hk HGA.out); clear hk hr2)
          | (go_at_call 66; refine (HL.out _ S2.out).mono ?_; rintro e w3 ⟨rfl, hb3⟩; have B3 := Lib.hid hb3; have S3 := Lib.hid (S2.out.below hb3); have QA := Lib.hid (R2.out.below hb3); have x0 := QA.out.get 0 _ rfl; have x1 := QA.out.get 1 _ rfl; have z0 := QA.out.free 0; have z1 := QA.out.free 1; have hlz := QA.out.lt; clear hb3))
        have QD := (QA.out.set 0 (.string fn)).set 1 (.string fv)
        refine bodyPost_ret (ln_results rfl rfl (QD.get 0 _ rfl) (QD.get 1 _ rfl)) rfl ⟨⟨fn, fv⟩, by (have h9 := HEV.out; subst h9; rfl), ln_keep B1.out B0.out K2.out B3.out, fun _ => ⟨rfl, HS0.out.new S3.out (Nat.le_refl _) _ _⟩⟩
      · rw [if_neg h192] at hr
        rw [H6.2 h192] at hfl
        subst hfl
        have hand : bits .and .i64 128 64 = 0 := by decide
        obtain ⟨⟨⟨fn, fv⟩, y2⟩, hi⟩ : ∃ r, getB q need (base - 1 - (n : Int)) = r := ⟨_, rfl⟩
        rw [hi] at hr
        simp only at hr
        subst hr
        have HN : Hid (∀ W, Below w1.heap.size w1 W → _) := fun W hW => number_yes 6 W (HS.out W hW).rdr HX0.out.1 hN
        have HL : Hid (∀ W, Sc g d b sl q v xs x need base W → Calls Tryz.prog 66 #[.pointer (some ⟨g, 0, none⟩), .bool false, .int .i64 (n : Int)] W fun e w' => e = .returned (.tuple #[.agg #[.string fn, .string fv], errO y2]) ∧ Below W.heap.size W w') := fun W hW => ahead_any false n W hW hn62 (⟨fn, fv⟩, y2) (by simpa using hi)
        skip
        obtain ⟨ev, hev⟩ : ∃ ev, errO y2 = ev := ⟨_, rfl⟩
        rw [hev] at HL
        have HEV := Lib.hid hev
        clear hev
        clear hc128 hS hw1 hcc hcb HX0 hN H6 h192 hi hn62
        go_enter Tryz.func41, Tryz.ntmps41
        go_upto_region 1 with fail
        rw [← HW1.out]
        go_wp2_with (first
          | (go_at_call 58; refine HF1.out.mono ?_; rintro e w0 ⟨rfl, nd, hw0⟩; have hb0 : Below w1.heap.size w1 w0 := (by rw [hw0]; exact below_drewN (Below.refl _ _) nd : Below _ _ _); have B0 := Lib.hid hb0; have R0 := Lib.hid (R1.out.below hb0); clear hw0 hb0)
          | (go_at_call 62; refine (HN.out _ B0.out).mono ?_; rintro e w2 ⟨rfl, hk, hr2⟩; have K2 := Lib.hid hk; have S2 := Lib.hid ((HS.out _ B0.out).move hk hr2); have R2 := Lib.hid (R0.out.keep hk HGA.out); clear hk hr2)
          | (go_at_call 66; refine (HL.out _ S2.out).mono ?_; rintro e w3 ⟨rfl, hb3⟩; have B3 := Lib.hid hb3; have S3 := Lib.hid (S2.out.below hb3); have QA := Lib.hid (R2.out.below hb3); have x0 := QA.out.get 0 _ rfl; have x1 := QA.out.get 1 _ rfl; have z0 := QA.out.free 0; have z1 := QA.out.free 1; have hlz := QA.out.lt; clear hb3))
        have QD := (QA.out.set 0 (.string fn)).set 1 (.string fv)
        refine bodyPost_ret (ln_results rfl rfl (QD.get 0 _ rfl) (QD.get 1 _ rfl)) rfl ⟨⟨fn, fv⟩, by (have h9 := HEV.out; subst h9; rfl), ln_keep B1.out B0.out K2.out B3.out, fun _ => ⟨rfl, HS0.out.new S3.out (Nat.le_refl _) _ _⟩⟩
    · rw [if_pos hy] at hr
      subst hr
      have HN : Hid (∀ W, Below w1.heap.size w1 W → _) := fun W hW => number_no 6 W (HS.out W hW).rdr HX0.out.1 hN hy
      have HY := Lib.hid hy
      unfold errV at HN
      clear hc128 hS hw1 hcc hcb HX0 hN hy
      go_enter Tryz.func41, Tryz.ntmps41
      go_upto_region 1 with fail
      rw [← HW1.out]
      go_wp2_with (first
        | (go_at_call 58; refine HF1.out.mono ?_; rintro e w0 ⟨rfl, nd, hw0⟩; have hb0 : Below w1.heap.size w1 w0 := (by rw [hw0]; exact below_drewN (Below.refl _ _) nd : Below _ _ _); have B0 := Lib.hid hb0; have R0 := Lib.hid (R1.out.below hb0); clear hw0 hb0)
        | (go_at_call 62; refine (HN.out _ B0.out).mono ?_; rintro e w2 ⟨rfl, hk⟩; have K2 : Hid (Keep [g] w0 w2) := Keep.of_below hk; have QA := Lib.hid (R0.out.keep K2.out HGA.out); have x0 := QA.out.get 0 _ rfl; have x1 := QA.out.get 1 _ rfl; have z0 := QA.out.free 0; have z1 := QA.out.free 1; have hlz := QA.out.lt; clear hk))
      have QD := (QA.out.set 0 (.string ⟨#[]⟩)).set 1 (.string ⟨#[]⟩)
      refine bodyPost_ret (ln_results rfl rfl (QD.get 0 _ rfl) (QD.get 1 _ rfl)) rfl ⟨⟨⟨#[]⟩, ⟨#[]⟩⟩, by rw [errO_ne HY.out]; rfl, ln_keep B1.out B0.out K2.out (Below.refl _ _), fun h => absurd h HY.out⟩
  · by_cases hc64 : 64 ≤ c
    · rw [if_neg hc128, if_pos hc64] at hr
      have e128 : decide (c ≥ 128) = false := decide_eq_false (by omega)
      have f128 : decide (128 ≤ c) = false := decide_eq_false (by omega)
      have e64 : decide (c ≥ 64) = true := decide_eq_true (by omega)
      have f64 : decide (64 ≤ c) = true := decide_eq_true (by omega)
      obtain ⟨⟨f, n, x, y⟩, hN⟩ : ∃ r, numE xs a 4 = r := ⟨_, rfl⟩
      simp only [hN] at hr
      by_cases hy : y = 0
      · subst hy
        rw [if_neg (fun h => h rfl)] at hr
        obtain ⟨⟨s, x', y⟩, hT⟩ : ∃ r, textE xs x 8 512 = r := ⟨_, rfl⟩
        simp only [hT] at hr
        by_cases hy : y = 0
        · subst hy
          rw [if_neg (fun h => h rfl)] at hr
          have hn62 := (num_ok HX0.out.1 hN).2.2.2.1
          have hfl := (num_flags HX0.out.1 hN).2
          rw [← hcc] at hfl
          have H4 := flag4 c (by omega) hcb.2
          by_cases h16 : c / 16 % 2 = 1
          · rw [if_pos h16] at hr
            rw [if_pos h16] at H4
            have hand : bits .and .i64 f 16 = 16 := by rw [hfl]; exact H4
            obtain ⟨⟨⟨fn, fv⟩, y2⟩, hi⟩ : ∃ r, fixedE (n : Int) = r := ⟨_, rfl⟩
            rw [hi] at hr
            simp only at hr
            subst hr
            have HN : Hid (∀ W, Below w1.heap.size w1 W → _) := fun W hW => nv_yes 4 W (HS.out W hW).rdr HX0.out.1 HX0.out.2 hN hT
            have HL : Hid (∀ W, Sc g d b sl q v xs x' need base W → Calls Tryz.prog 66 #[.pointer (some ⟨g, 0, none⟩), .bool true, .int .i64 (n : Int)] W fun e w' => e = .returned (.tuple #[.agg #[.string fn, .string fv], errO y2]) ∧ Below W.heap.size W w') := fun W hW => ahead_any true n W hW hn62 (⟨fn, fv⟩, y2) (by simpa using hi)
            skip
            obtain ⟨ev, hev⟩ : ∃ ev, errO y2 = ev := ⟨_, rfl⟩
            rw [hev] at HL
            have HEV := Lib.hid hev
            clear hev
            clear hc128 hc64 hS hw1 hcc hcb HX0 hN hT H4 hfl h16 hi hn62
            go_enter Tryz.func41, Tryz.ntmps41
            go_upto_region 1 with fail
            rw [← HW1.out]
            go_upto_region 12 with (first
              | (go_at_call 58; refine HF1.out.mono ?_; rintro e w0 ⟨rfl, nd, hw0⟩; have hb0 : Below w1.heap.size w1 w0 := (by rw [hw0]; exact below_drewN (Below.refl _ _) nd : Below _ _ _); have B0 := Lib.hid hb0; have R0 := Lib.hid (R1.out.below hb0); clear hw0 hb0)
              | (go_at_call 67; refine (HN.out _ B0.out).mono ?_; rintro e w2 ⟨rfl, hk, hr2⟩; have K2 := Lib.hid hk; have S2 := Lib.hid ((HS.out _ B0.out).move hk hr2); have R2 := Lib.hid (R0.out.keep hk HGA.out); clear hk hr2)
              | (go_at_call 66; refine (HL.out _ S2.out).mono ?_; rintro e w3 ⟨rfl, hb3⟩; have B3 := Lib.hid hb3; have R3 := Lib.hid (R2.out.below hb3); clear hb3))
            have N4 := Lib.hid (Cs.made w3 #[.string fn, .string fv] 74)
            have B4 := Lib.hid (B3.out.trans ((below1 w3 (.cells #[.string fn, .string fv] 74)).mono B3.out.size))
            have R4 := Lib.hid (R3.out.below (below1 w3 (.cells #[.string fn, .string fv] 74)))
            have hne : Hid (w.heap.size ≠ w3.heap.size) := Nat.ne_of_lt (Nat.lt_of_lt_of_le R3.out.lt (Nat.le_refl _))
            generalize w3.alloc (.cells #[.string fn, .string fv] 74) = w4 at N4 B4 R4 ⊢
            have n0 := N4.out.get 0 _ rfl
            have n1 := N4.out.get 1 _ rfl
            have y1 := N4.out.free 1
            have hlt4 := N4.out.lt
            go_upto_region 13 with fail
            have N5 := Lib.hid (N4.out.set 1 (.string s))
            have B5 : Hid (Below w2.heap.size w2 (w4.setCell ⟨w3.heap.size, 1, none⟩ (.string s))) := B4.out.setCell (p := ⟨w3.heap.size, 1, none⟩) B3.out.size (.string s)
            have R5 : Hid (Cs (w4.setCell ⟨w3.heap.size, 1, none⟩ (.string s)) w.heap.size [.string ⟨#[]⟩, .string ⟨#[]⟩]) := R4.out.keep (keep_set _ _ _ _) (by simpa using hne.out)
            clear n0 n1 y1 hlt4
            generalize w4.setCell ⟨w3.heap.size, 1, none⟩ (.string s) = w5 at N5 B5 R5 ⊢
            have n0 := N5.out.get 0 _ rfl
            have n1 := N5.out.get 1 _ rfl
            have x0 := R5.out.get 0 _ rfl
            have x1 := R5.out.get 1 _ rfl
            have z0 := R5.out.free 0
            have z1 := R5.out.free 1
            have hlz := R5.out.lt
            go_wp2_with fail
            have QD := (R5.out.set 0 (.string fn)).set 1 (.string s)
            refine bodyPost_ret (ln_results rfl rfl (QD.get 0 _ rfl) (QD.get 1 _ rfl)) rfl ⟨⟨fn, s⟩, by (have h9 := HEV.out; subst h9; rfl), ln_keep B1.out B0.out K2.out B5.out, fun _ => ⟨rfl, HS0.out.new (S2.out.below B5.out) (Nat.le_refl _) _ _⟩⟩
          · rw [if_neg h16] at hr
            rw [if_neg h16] at H4
            have hand : bits .and .i64 f 16 = 0 := by rw [hfl]; exact H4
            obtain ⟨⟨⟨fn, fv⟩, y2⟩, hi⟩ : ∃ r, getB q need (base - 1 - (n : Int)) = r := ⟨_, rfl⟩
            rw [hi] at hr
            simp only at hr
            subst hr
            have HN : Hid (∀ W, Below w1.heap.size w1 W → _) := fun W hW => nv_yes 4 W (HS.out W hW).rdr HX0.out.1 HX0.out.2 hN hT
            have HL : Hid (∀ W, Sc g d b sl q v xs x' need base W → Calls Tryz.prog 66 #[.pointer (some ⟨g, 0, none⟩), .bool false, .int .i64 (n : Int)] W fun e w' => e = .returned (.tuple #[.agg #[.string fn, .string fv], errO y2]) ∧ Below W.heap.size W w') := fun W hW => ahead_any false n W hW hn62 (⟨fn, fv⟩, y2) (by simpa using hi)
            skip
            obtain ⟨ev, hev⟩ : ∃ ev, errO y2 = ev := ⟨_, rfl⟩
            rw [hev] at HL
            have HEV := Lib.hid hev
            clear hev
            clear hc128 hc64 hS hw1 hcc hcb HX0 hN hT H4 hfl h16 hi hn62
            go_enter Tryz.func41, Tryz.ntmps41
            go_upto_region 1 with fail
            rw [← HW1.out]
            go_upto_region 12 with (first
              | (go_at_call 58; refine HF1.out.mono ?_; rintro e w0 ⟨rfl, nd, hw0⟩; have hb0 : Below w1.heap.size w1 w0 := (by rw [hw0]; exact below_drewN (Below.refl _ _) nd : Below _ _ _); have B0 := Lib.hid hb0; have R0 := Lib.hid (R1.out.below hb0); clear hw0 hb0)
              | (go_at_call 67; refine (HN.out _ B0.out).mono ?_; rintro e w2 ⟨rfl, hk, hr2⟩; have K2 := Lib.hid hk; have S2 := Lib.hid ((HS.out _ B0.out).move hk hr2); have R2 := Lib.hid (R0.out.keep hk HGA.out); clear hk hr2)
              | (go_at_call 66; refine (HL.out _ S2.out).mono ?_; rintro e w3 ⟨rfl, hb3⟩; have B3 := Lib.hid hb3; have R3 := Lib.hid (R2.out.below hb3); clear hb3))
            have N4 := Lib.hid (Cs.made w3 #[.string fn, .string fv] 74)
            have B4 := Lib.hid (B3.out.trans ((below1 w3 (.cells #[.string fn, .string fv] 74)).mono B3.out.size))
            have R4 := Lib.hid (R3.out.below (below1 w3 (.cells #[.string fn, .string fv] 74)))
            have hne : Hid (w.heap.size ≠ w3.heap.size) := Nat.ne_of_lt (Nat.lt_of_lt_of_le R3.out.lt (Nat.le_refl _))
            generalize w3.alloc (.cells #[.string fn, .string fv] 74) = w4 at N4 B4 R4 ⊢
            have n0 := N4.out.get 0 _ rfl
            have n1 := N4.out.get 1 _ rfl
            have y1 := N4.out.free 1
            have hlt4 := N4.out.lt
            go_upto_region 13 with fail
            have N5 := Lib.hid (N4.out.set 1 (.string s))
            have B5 : Hid (Below w2.heap.size w2 (w4.setCell ⟨w3.heap.size, 1, none⟩ (.string s))) := B4.out.setCell (p := ⟨w3.heap.size, 1, none⟩) B3.out.size (.string s)
            have R5 : Hid (Cs (w4.setCell ⟨w3.heap.size, 1, none⟩ (.string s)) w.heap.size [.string ⟨#[]⟩, .string ⟨#[]⟩]) := R4.out.keep (keep_set _ _ _ _) (by simpa using hne.out)
            clear n0 n1 y1 hlt4
            generalize w4.setCell ⟨w3.heap.size, 1, none⟩ (.string s) = w5 at N5 B5 R5 ⊢
            have n0 := N5.out.get 0 _ rfl
            have n1 := N5.out.get 1 _ rfl
            have x0 := R5.out.get 0 _ rfl
            have x1 := R5.out.get 1 _ rfl
            have z0 := R5.out.free 0
            have z1 := R5.out.free 1
            have hlz := R5.out.lt
            go_wp2_with fail
            have QD := (R5.out.set 0 (.string fn)).set 1 (.string s)
            refine bodyPost_ret (ln_results rfl rfl (QD.get 0 _ rfl) (QD.get 1 _ rfl)) rfl ⟨⟨fn, s⟩, by (have h9 := HEV.out; subst h9; rfl), ln_keep B1.out B0.out K2.out B5.out, fun _ => ⟨rfl, HS0.out.new (S2.out.below B5.out) (Nat.le_refl _) _ _⟩⟩
        · rw [if_pos hy] at hr
          subst hr
          have HN : Hid (∀ W, Below w1.heap.size w1 W → _) := fun W hW => nv_no2 4 W (HS.out W hW).rdr HX0.out.1 HX0.out.2 hN hT hy
          have HY := Lib.hid hy
          unfold errV at HN
          clear hc128 hc64 hS hw1 hcc hcb HX0 hN hT hy
          go_enter Tryz.func41, Tryz.ntmps41
          go_upto_region 1 with fail
          rw [← HW1.out]
          go_wp2_with (first
            | (go_at_call 58; refine HF1.out.mono ?_; rintro e w0 ⟨rfl, nd, hw0⟩; have hb0 : Below w1.heap.size w1 w0 := (by rw [hw0]; exact below_drewN (Below.refl _ _) nd : Below _ _ _); have B0 := Lib.hid hb0; have R0 := Lib.hid (R1.out.below hb0); clear hw0 hb0)
            | (go_at_call 67; refine (HN.out _ B0.out).mono ?_; rintro e w2 ⟨f', n', s', rfl, hk⟩; have K2 : Hid (Keep [g] w0 w2) := hk; have QA := Lib.hid (R0.out.keep K2.out HGA.out); have x0 := QA.out.get 0 _ rfl; have x1 := QA.out.get 1 _ rfl; have z0 := QA.out.free 0; have z1 := QA.out.free 1; have hlz := QA.out.lt; clear hk))
          have QD := (QA.out.set 0 (.string ⟨#[]⟩)).set 1 (.string ⟨#[]⟩)
          refine bodyPost_ret (ln_results rfl rfl (QD.get 0 _ rfl) (QD.get 1 _ rfl)) rfl ⟨⟨⟨#[]⟩, ⟨#[]⟩⟩, by rw [errO_ne HY.out]; rfl, ln_keep B1.out B0.out K2.out (Below.refl _ _), fun h => absurd h HY.out⟩
      · rw [if_pos hy] at hr
        subst hr
        have HN : Hid (∀ W, Below w1.heap.size w1 W → _) := fun W hW => nv_no1 4 W (HS.out W hW).rdr HX0.out.1 HX0.out.2 hN hy
        have HY := Lib.hid hy
        unfold errV at HN
        clear hc128 hc64 hS hw1 hcc hcb HX0 hN hy
        go_enter Tryz.func41, Tryz.ntmps41
        go_upto_region 1 with fail
        rw [← HW1.out]
        go_wp2_with (first
          | (go_at_call 58; refine HF1.out.mono ?_; rintro e w0 ⟨rfl, nd, hw0⟩; have hb0 : Below w1.heap.size w1 w0 := (by rw [hw0]; exact below_drewN (Below.refl _ _) nd : Below _ _ _); have B0 := Lib.hid hb0; have R0 := Lib.hid (R1.out.below hb0); clear hw0 hb0)
          | (go_at_call 67; refine (HN.out _ B0.out).mono ?_; rintro e w2 ⟨f', n', s', rfl, hk⟩; have K2 : Hid (Keep [g] w0 w2) := hk; have QA := Lib.hid (R0.out.keep K2.out HGA.out); have x0 := QA.out.get 0 _ rfl; have x1 := QA.out.get 1 _ rfl; have z0 := QA.out.free 0; have z1 := QA.out.free 1; have hlz := QA.out.lt; clear hk))
        have QD := (QA.out.set 0 (.string ⟨#[]⟩)).set 1 (.string ⟨#[]⟩)
        refine bodyPost_ret (ln_results rfl rfl (QD.get 0 _ rfl) (QD.get 1 _ rfl)) rfl ⟨⟨⟨#[]⟩, ⟨#[]⟩⟩, by rw [errO_ne HY.out]; rfl, ln_keep B1.out B0.out K2.out (Below.refl _ _), fun h => absurd h HY.out⟩
    · by_cases hc32 : 32 ≤ c
      · rw [if_neg hc128, if_neg hc64, if_pos hc32] at hr
        have e128 : decide (c ≥ 128) = false := decide_eq_false (by omega)
        have f128 : decide (128 ≤ c) = false := decide_eq_false (by omega)
        have e64 : decide (c ≥ 64) = false := decide_eq_false (by omega)
        have f64 : decide (64 ≤ c) = false := decide_eq_false (by omega)
        have e32 : decide (c ≥ 32) = true := decide_eq_true (by omega)
        have f32 : decide (32 ≤ c) = true := decide_eq_true (by omega)
        obtain ⟨⟨nm, x, y⟩, hT1⟩ : ∃ r, textE xs a 4 64 = r := ⟨_, rfl⟩
        simp only [hT1] at hr
        by_cases hy : y = 0
        · subst hy
          rw [if_neg (fun h => h rfl)] at hr
          obtain ⟨⟨s, x', y⟩, hT2⟩ : ∃ r, textE xs x 8 512 = r := ⟨_, rfl⟩
          simp only [hT2] at hr
          subst hr
          by_cases hy : y = 0
          · subst hy
            have HN : Hid (∀ W, Below w1.heap.size w1 W → _) := fun W hW => av_yes 4 W (HS.out W hW).rdr HX0.out.1 HX0.out.2 (by decide) (by decide) hT1 hT2
            clear hc128 hc64 hc32 hS hw1 hcc hcb HX0 hT1 hT2
            go_enter Tryz.func41, Tryz.ntmps41
            go_upto_region 1 with fail
            rw [← HW1.out]
            go_wp2_with (first
              | (go_at_call 58; refine HF1.out.mono ?_; rintro e w0 ⟨rfl, nd, hw0⟩; have hb0 : Below w1.heap.size w1 w0 := (by rw [hw0]; exact below_drewN (Below.refl _ _) nd : Below _ _ _); have B0 := Lib.hid hb0; have R0 := Lib.hid (R1.out.below hb0); clear hw0 hb0)
              | (go_at_call 60; refine (HN.out _ B0.out).mono ?_; rintro e w2 ⟨rfl, hk, hr2⟩; have K2 := Lib.hid hk; have S2 := Lib.hid ((HS.out _ B0.out).move hk hr2); have QA := Lib.hid (R0.out.keep hk HGA.out); have x0 := QA.out.get 0 _ rfl; have x1 := QA.out.get 1 _ rfl; have z0 := QA.out.free 0; have z1 := QA.out.free 1; have hlz := QA.out.lt; clear hk hr2))
            have QD := (QA.out.set 0 (.string nm)).set 1 (.string s)
            refine bodyPost_ret (ln_results rfl rfl (QD.get 0 _ rfl) (QD.get 1 _ rfl)) rfl ⟨⟨nm, s⟩, rfl, ln_keep B1.out B0.out K2.out (Below.refl _ _), fun _ => ⟨rfl, HS0.out.new S2.out (Nat.le_refl _) _ _⟩⟩
          ·
            have HN : Hid (∀ W, Below w1.heap.size w1 W → _) := fun W hW => av_no2 4 W (HS.out W hW).rdr HX0.out.1 HX0.out.2 (by decide) (by decide) hT1 hT2 hy
            have HY := Lib.hid hy
            unfold errV at HN
            clear hc128 hc64 hc32 hS hw1 hcc hcb HX0 hT1 hT2 hy
            go_enter Tryz.func41, Tryz.ntmps41
            go_upto_region 1 with fail
            rw [← HW1.out]
            go_wp2_with (first
              | (go_at_call 58; refine HF1.out.mono ?_; rintro e w0 ⟨rfl, nd, hw0⟩; have hb0 : Below w1.heap.size w1 w0 := (by rw [hw0]; exact below_drewN (Below.refl _ _) nd : Below _ _ _); have B0 := Lib.hid hb0; have R0 := Lib.hid (R1.out.below hb0); clear hw0 hb0)
              | (go_at_call 60; refine (HN.out _ B0.out).mono ?_; rintro e w2 ⟨f1, rfl, hk⟩; have K2 : Hid (Keep [g] w0 w2) := hk; have QA := Lib.hid (R0.out.keep K2.out HGA.out); have x0 := QA.out.get 0 _ rfl; have x1 := QA.out.get 1 _ rfl; have z0 := QA.out.free 0; have z1 := QA.out.free 1; have hlz := QA.out.lt; clear hk))
            have QD := (QA.out.set 0 (.string f1.n)).set 1 (.string f1.v)
            refine bodyPost_ret (ln_results rfl rfl (QD.get 0 _ rfl) (QD.get 1 _ rfl)) rfl ⟨⟨f1.n, f1.v⟩, by rw [errO_ne HY.out]; rfl, ln_keep B1.out B0.out K2.out (Below.refl _ _), fun h => absurd h HY.out⟩
        · rw [if_pos hy] at hr
          subst hr
          have HN : Hid (∀ W, Below w1.heap.size w1 W → _) := fun W hW => av_no1 4 W (HS.out W hW).rdr HX0.out.1 HX0.out.2 (by decide) (by decide) hT1 hy
          have HY := Lib.hid hy
          unfold errV at HN
          clear hc128 hc64 hc32 hS hw1 hcc hcb HX0 hT1 hy
          go_enter Tryz.func41, Tryz.ntmps41
          go_upto_region 1 with fail
          rw [← HW1.out]
          go_wp2_with (first
            | (go_at_call 58; refine HF1.out.mono ?_; rintro e w0 ⟨rfl, nd, hw0⟩; have hb0 : Below w1.heap.size w1 w0 := (by rw [hw0]; exact below_drewN (Below.refl _ _) nd : Below _ _ _); have B0 := Lib.hid hb0; have R0 := Lib.hid (R1.out.below hb0); clear hw0 hb0)
            | (go_at_call 60; refine (HN.out _ B0.out).mono ?_; rintro e w2 ⟨f1, rfl, hk⟩; have K2 : Hid (Keep [g] w0 w2) := hk; have QA := Lib.hid (R0.out.keep K2.out HGA.out); have x0 := QA.out.get 0 _ rfl; have x1 := QA.out.get 1 _ rfl; have z0 := QA.out.free 0; have z1 := QA.out.free 1; have hlz := QA.out.lt; clear hk))
          have QD := (QA.out.set 0 (.string f1.n)).set 1 (.string f1.v)
          refine bodyPost_ret (ln_results rfl rfl (QD.get 0 _ rfl) (QD.get 1 _ rfl)) rfl ⟨⟨f1.n, f1.v⟩, by rw [errO_ne HY.out]; rfl, ln_keep B1.out B0.out K2.out (Below.refl _ _), fun h => absurd h HY.out⟩
      · by_cases hc16 : 16 ≤ c
        · rw [if_neg hc128, if_neg hc64, if_neg hc32, if_pos hc16] at hr
          have e128 : decide (c ≥ 128) = false := decide_eq_false (by omega)
          have f128 : decide (128 ≤ c) = false := decide_eq_false (by omega)
          have e64 : decide (c ≥ 64) = false := decide_eq_false (by omega)
          have f64 : decide (64 ≤ c) = false := decide_eq_false (by omega)
          have e32 : decide (c ≥ 32) = false := decide_eq_false (by omega)
          have f32 : decide (32 ≤ c) = false := decide_eq_false (by omega)
          have e16 : decide (c ≥ 16) = true := decide_eq_true (by omega)
          have f16 : decide (16 ≤ c) = true := decide_eq_true (by omega)
          obtain ⟨⟨f, n, x, y⟩, hN⟩ : ∃ r, numE xs a 4 = r := ⟨_, rfl⟩
          simp only [hN] at hr
          by_cases hy : y = 0
          · subst hy
            rw [if_neg (fun h => h rfl)] at hr
            have hn62 := (num_ok HX0.out.1 hN).2.2.2.1
            have hfl := (num_flags HX0.out.1 hN).2
            rw [← hcc] at hfl
            obtain ⟨⟨⟨fn, fv⟩, y2⟩, hi⟩ : ∃ r, getB q need (base + (n : Int)) = r := ⟨_, rfl⟩
            rw [hi] at hr
            simp only at hr
            subst hr
            have HN : Hid (∀ W, Below w1.heap.size w1 W → _) := fun W hW => number_yes 4 W (HS.out W hW).rdr HX0.out.1 hN
            have HL : Hid (∀ W, Sc g d b sl q v xs x need base W → Calls Tryz.prog 68 #[.pointer (some ⟨g, 0, none⟩), .int .i64 (n : Int)] W fun e w' => e = .returned (.tuple #[.agg #[.string fn, .string fv], errO y2]) ∧ Below W.heap.size W w') := fun W hW => past_any n W hW hn62 (⟨fn, fv⟩, y2) hi
            skip
            obtain ⟨ev, hev⟩ : ∃ ev, errO y2 = ev := ⟨_, rfl⟩
            rw [hev] at HL
            have HEV := Lib.hid hev
            clear hev
            clear hc128 hc64 hc32 hc16 hS hw1 hcc hcb HX0 hN hfl hi hn62
            go_enter Tryz.func41, Tryz.ntmps41
            go_upto_region 1 with fail
            rw [← HW1.out]
            go_wp2_with (first
              | (go_at_call 58; refine HF1.out.mono ?_; rintro e w0 ⟨rfl, nd, hw0⟩; have hb0 : Below w1.heap.size w1 w0 := (by rw [hw0]; exact below_drewN (Below.refl _ _) nd : Below _ _ _); have B0 := Lib.hid hb0; have R0 := Lib.hid (R1.out.below hb0); clear hw0 hb0)
              | (go_at_call 62; refine (HN.out _ B0.out).mono ?_; rintro e w2 ⟨rfl, hk, hr2⟩; have K2 := Lib.hid hk; have S2 := Lib.hid ((HS.out _ B0.out).move hk hr2); have R2 := Lib.hid (R0.out.keep hk HGA.out); clear hk hr2)
              | (go_at_call 68; refine (HL.out _ S2.out).mono ?_; rintro e w3 ⟨rfl, hb3⟩; have B3 := Lib.hid hb3; have S3 := Lib.hid (S2.out.below hb3); have QA := Lib.hid (R2.out.below hb3); have x0 := QA.out.get 0 _ rfl; have x1 := QA.out.get 1 _ rfl; have z0 := QA.out.free 0; have z1 := QA.out.free 1; have hlz := QA.out.lt; clear hb3))
            have QD := (QA.out.set 0 (.string fn)).set 1 (.string fv)
            refine bodyPost_ret (ln_results rfl rfl (QD.get 0 _ rfl) (QD.get 1 _ rfl)) rfl ⟨⟨fn, fv⟩, by (have h9 := HEV.out; subst h9; rfl), ln_keep B1.out B0.out K2.out B3.out, fun _ => ⟨rfl, HS0.out.new S3.out (Nat.le_refl _) _ _⟩⟩
          · rw [if_pos hy] at hr
            subst hr
            have HN : Hid (∀ W, Below w1.heap.size w1 W → _) := fun W hW => number_no 4 W (HS.out W hW).rdr HX0.out.1 hN hy
            have HY := Lib.hid hy
            unfold errV at HN
            clear hc128 hc64 hc32 hc16 hS hw1 hcc hcb HX0 hN hy
            go_enter Tryz.func41, Tryz.ntmps41
            go_upto_region 1 with fail
            rw [← HW1.out]
            go_wp2_with (first
              | (go_at_call 58; refine HF1.out.mono ?_; rintro e w0 ⟨rfl, nd, hw0⟩; have hb0 : Below w1.heap.size w1 w0 := (by rw [hw0]; exact below_drewN (Below.refl _ _) nd : Below _ _ _); have B0 := Lib.hid hb0; have R0 := Lib.hid (R1.out.below hb0); clear hw0 hb0)
              | (go_at_call 62; refine (HN.out _ B0.out).mono ?_; rintro e w2 ⟨rfl, hk⟩; have K2 : Hid (Keep [g] w0 w2) := Keep.of_below hk; have QA := Lib.hid (R0.out.keep K2.out HGA.out); have x0 := QA.out.get 0 _ rfl; have x1 := QA.out.get 1 _ rfl; have z0 := QA.out.free 0; have z1 := QA.out.free 1; have hlz := QA.out.lt; clear hk))
            have QD := (QA.out.set 0 (.string ⟨#[]⟩)).set 1 (.string ⟨#[]⟩)
            refine bodyPost_ret (ln_results rfl rfl (QD.get 0 _ rfl) (QD.get 1 _ rfl)) rfl ⟨⟨⟨#[]⟩, ⟨#[]⟩⟩, by rw [errO_ne HY.out]; rfl, ln_keep B1.out B0.out K2.out (Below.refl _ _), fun h => absurd h HY.out⟩
        · rw [if_neg hc128, if_neg hc64, if_neg hc32, if_neg hc16] at hr
          have e128 : decide (c ≥ 128) = false := decide_eq_false (by omega)
          have f128 : decide (128 ≤ c) = false := decide_eq_false (by omega)
          have e64 : decide (c ≥ 64) = false := decide_eq_false (by omega)
          have f64 : decide (64 ≤ c) = false := decide_eq_false (by omega)
          have e32 : decide (c ≥ 32) = false := decide_eq_false (by omega)
          have f32 : decide (32 ≤ c) = false := decide_eq_false (by omega)
          have e16 : decide (c ≥ 16) = false := decide_eq_false (by omega)
          have f16 : decide (16 ≤ c) = false := decide_eq_false (by omega)
          obtain ⟨⟨f, n, x, y⟩, hN⟩ : ∃ r, numE xs a 3 = r := ⟨_, rfl⟩
          simp only [hN] at hr
          by_cases hy : y = 0
          · subst hy
            rw [if_neg (fun h => h rfl)] at hr
            obtain ⟨⟨s, x', y⟩, hT⟩ : ∃ r, textE xs x 8 512 = r := ⟨_, rfl⟩
            simp only [hT] at hr
            by_cases hy : y = 0
            · subst hy
              rw [if_neg (fun h => h rfl)] at hr
              have hn62 := (num_ok HX0.out.1 hN).2.2.2.1
              have hfl := (num_flags HX0.out.1 hN).2
              rw [← hcc] at hfl
              obtain ⟨⟨⟨fn, fv⟩, y2⟩, hi⟩ : ∃ r, getB q need (base + (n : Int)) = r := ⟨_, rfl⟩
              rw [hi] at hr
              simp only at hr
              subst hr
              have HN : Hid (∀ W, Below w1.heap.size w1 W → _) := fun W hW => nv_yes 3 W (HS.out W hW).rdr HX0.out.1 HX0.out.2 hN hT
              have HL : Hid (∀ W, Sc g d b sl q v xs x' need base W → Calls Tryz.prog 68 #[.pointer (some ⟨g, 0, none⟩), .int .i64 (n : Int)] W fun e w' => e = .returned (.tuple #[.agg #[.string fn, .string fv], errO y2]) ∧ Below W.heap.size W w') := fun W hW => past_any n W hW hn62 (⟨fn, fv⟩, y2) hi
              skip
              obtain ⟨ev, hev⟩ : ∃ ev, errO y2 = ev := ⟨_, rfl⟩
              rw [hev] at HL
              have HEV := Lib.hid hev
              clear hev
              clear hc128 hc64 hc32 hc16 hS hw1 hcc hcb HX0 hN hT hfl hi hn62
              go_enter Tryz.func41, Tryz.ntmps41
              go_upto_region 1 with fail
              rw [← HW1.out]
              go_upto_region 25 with (first
                | (go_at_call 58; refine HF1.out.mono ?_; rintro e w0 ⟨rfl, nd, hw0⟩; have hb0 : Below w1.heap.size w1 w0 := (by rw [hw0]; exact below_drewN (Below.refl _ _) nd : Below _ _ _); have B0 := Lib.hid hb0; have R0 := Lib.hid (R1.out.below hb0); clear hw0 hb0)
                | (go_at_call 67; refine (HN.out _ B0.out).mono ?_; rintro e w2 ⟨rfl, hk, hr2⟩; have K2 := Lib.hid hk; have S2 := Lib.hid ((HS.out _ B0.out).move hk hr2); have R2 := Lib.hid (R0.out.keep hk HGA.out); clear hk hr2)
                | (go_at_call 68; refine (HL.out _ S2.out).mono ?_; rintro e w3 ⟨rfl, hb3⟩; have B3 := Lib.hid hb3; have R3 := Lib.hid (R2.out.below hb3); clear hb3))
              have N4 := Lib.hid (Cs.made w3 #[.string fn, .string fv] 74)
              have B4 := Lib.hid (B3.out.trans ((below1 w3 (.cells #[.string fn, .string fv] 74)).mono B3.out.size))
              have R4 := Lib.hid (R3.out.below (below1 w3 (.cells #[.string fn, .string fv] 74)))
              have hne : Hid (w.heap.size ≠ w3.heap.size) := Nat.ne_of_lt (Nat.lt_of_lt_of_le R3.out.lt (Nat.le_refl _))
              generalize w3.alloc (.cells #[.string fn, .string fv] 74) = w4 at N4 B4 R4 ⊢
              have n0 := N4.out.get 0 _ rfl
              have n1 := N4.out.get 1 _ rfl
              have y1 := N4.out.free 1
              have hlt4 := N4.out.lt
              go_upto_region 26 with fail
              have N5 := Lib.hid (N4.out.set 1 (.string s))
              have B5 : Hid (Below w2.heap.size w2 (w4.setCell ⟨w3.heap.size, 1, none⟩ (.string s))) := B4.out.setCell (p := ⟨w3.heap.size, 1, none⟩) B3.out.size (.string s)
              have R5 : Hid (Cs (w4.setCell ⟨w3.heap.size, 1, none⟩ (.string s)) w.heap.size [.string ⟨#[]⟩, .string ⟨#[]⟩]) := R4.out.keep (keep_set _ _ _ _) (by simpa using hne.out)
              clear n0 n1 y1 hlt4
              generalize w4.setCell ⟨w3.heap.size, 1, none⟩ (.string s) = w5 at N5 B5 R5 ⊢
              have n0 := N5.out.get 0 _ rfl
              have n1 := N5.out.get 1 _ rfl
              have x0 := R5.out.get 0 _ rfl
              have x1 := R5.out.get 1 _ rfl
              have z0 := R5.out.free 0
              have z1 := R5.out.free 1
              have hlz := R5.out.lt
              go_wp2_with fail
              have QD := (R5.out.set 0 (.string fn)).set 1 (.string s)
              refine bodyPost_ret (ln_results rfl rfl (QD.get 0 _ rfl) (QD.get 1 _ rfl)) rfl ⟨⟨fn, s⟩, by (have h9 := HEV.out; subst h9; rfl), ln_keep B1.out B0.out K2.out B5.out, fun _ => ⟨rfl, HS0.out.new (S2.out.below B5.out) (Nat.le_refl _) _ _⟩⟩
            · rw [if_pos hy] at hr
              subst hr
              have HN : Hid (∀ W, Below w1.heap.size w1 W → _) := fun W hW => nv_no2 3 W (HS.out W hW).rdr HX0.out.1 HX0.out.2 hN hT hy
              have HY := Lib.hid hy
              unfold errV at HN
              clear hc128 hc64 hc32 hc16 hS hw1 hcc hcb HX0 hN hT hy
              go_enter Tryz.func41, Tryz.ntmps41
              go_upto_region 1 with fail
              rw [← HW1.out]
              go_wp2_with (first
                | (go_at_call 58; refine HF1.out.mono ?_; rintro e w0 ⟨rfl, nd, hw0⟩; have hb0 : Below w1.heap.size w1 w0 := (by rw [hw0]; exact below_drewN (Below.refl _ _) nd : Below _ _ _); have B0 := Lib.hid hb0; have R0 := Lib.hid (R1.out.below hb0); clear hw0 hb0)
                | (go_at_call 67; refine (HN.out _ B0.out).mono ?_; rintro e w2 ⟨f', n', s', rfl, hk⟩; have K2 : Hid (Keep [g] w0 w2) := hk; have QA := Lib.hid (R0.out.keep K2.out HGA.out); have x0 := QA.out.get 0 _ rfl; have x1 := QA.out.get 1 _ rfl; have z0 := QA.out.free 0; have z1 := QA.out.free 1; have hlz := QA.out.lt; clear hk))
              have QD := (QA.out.set 0 (.string ⟨#[]⟩)).set 1 (.string ⟨#[]⟩)
              refine bodyPost_ret (ln_results rfl rfl (QD.get 0 _ rfl) (QD.get 1 _ rfl)) rfl ⟨⟨⟨#[]⟩, ⟨#[]⟩⟩, by rw [errO_ne HY.out]; rfl, ln_keep B1.out B0.out K2.out (Below.refl _ _), fun h => absurd h HY.out⟩
          · rw [if_pos hy] at hr
            subst hr
            have HN : Hid (∀ W, Below w1.heap.size w1 W → _) := fun W hW => nv_no1 3 W (HS.out W hW).rdr HX0.out.1 HX0.out.2 hN hy
            have HY := Lib.hid hy
            unfold errV at HN
            clear hc128 hc64 hc32 hc16 hS hw1 hcc hcb HX0 hN hy
            go_enter Tryz.func41, Tryz.ntmps41
            go_upto_region 1 with fail
            rw [← HW1.out]
            go_wp2_with (first
              | (go_at_call 58; refine HF1.out.mono ?_; rintro e w0 ⟨rfl, nd, hw0⟩; have hb0 : Below w1.heap.size w1 w0 := (by rw [hw0]; exact below_drewN (Below.refl _ _) nd : Below _ _ _); have B0 := Lib.hid hb0; have R0 := Lib.hid (R1.out.below hb0); clear hw0 hb0)
              | (go_at_call 67; refine (HN.out _ B0.out).mono ?_; rintro e w2 ⟨f', n', s', rfl, hk⟩; have K2 : Hid (Keep [g] w0 w2) := hk; have QA := Lib.hid (R0.out.keep K2.out HGA.out); have x0 := QA.out.get 0 _ rfl; have x1 := QA.out.get 1 _ rfl; have z0 := QA.out.free 0; have z1 := QA.out.free 1; have hlz := QA.out.lt; clear hk))
            have QD := (QA.out.set 0 (.string ⟨#[]⟩)).set 1 (.string ⟨#[]⟩)
            refine bodyPost_ret (ln_results rfl rfl (QD.get 0 _ rfl) (QD.get 1 _ rfl)) rfl ⟨⟨⟨#[]⟩, ⟨#[]⟩⟩, by rw [errO_ne HY.out]; rfl, ln_keep B1.out B0.out K2.out (Below.refl _ _), fun h => absurd h HY.out⟩
end Go.Proofs.YtbkbabaoockigaaGreatDoor

set_option maxRecDepth 100000
set_option linter.unusedSimpArgs false
set_option linter.unusedVariables false
namespace Go.Proofs.YtbkbabaoockigaaGreatDoor
open Go.RowKit

/-- what stands ahead of the lines: what is needed, the base, the place behind, what is wrong -/
def headE (q : TQ) (xs : List Int) : Nat × Int × Nat × Int :=
  match numE xs 0 8 with
  | (_, need, x, y) => if y ≠ 0 then (0, 0, 0, y) else if countN q < need then (0, 0, 0, 17) else
    match numE xs x 7 with
    | (f, d, x', y) => if y ≠ 0 then (0, 0, 0, y) else
      if (if f ≠ 0 then (need : Int) - d - 1 else (need : Int) + d) < 0 then (0, 0, 0, 5)
      else (need, (if f ≠ 0 then (need : Int) - d - 1 else (need : Int) + d), x', 0)
theorem decE_head (q : TQ) (xs : List Int) : decE q xs = if (headE q xs).2.2.2 ≠ 0 then ([], (headE q xs).2.2.2, 0) else linesE q (headE q xs).1 (headE q xs).2.1 xs (headE q xs).2.2.1 [] := by
  unfold decE headE
  obtain ⟨⟨f, need, x, y⟩, hN⟩ : ∃ r, numE xs 0 8 = r := ⟨_, rfl⟩
  simp only [hN]
  by_cases hy : y = 0
  · subst hy
    simp only [ne_eq, not_true, if_false]
    by_cases hc : countN q < need
    · simp only [if_pos hc]; rfl
    · simp only [if_neg hc]
      obtain ⟨⟨f', d, x', y'⟩, hN'⟩ : ∃ r, numE xs x 7 = r := ⟨_, rfl⟩
      simp only [hN']
      by_cases hy' : y' = 0
      · subst hy'
        simp only [not_true, if_false]
        by_cases hb : (if ¬f' = 0 then (need : Int) - d - 1 else (need : Int) + d) < 0
        · simp only [if_pos hb]; rfl
        · simp only [if_neg hb, not_true, if_false]
      · simp only [hy', not_false_iff, if_true]
  · simp only [ne_eq, hy, not_false_iff, if_true]
theorem flag7 {c : Int} (h0 : 0 ≤ c) (h1 : c < 256) : c - c % (fullI 7 + 1) = 0 ∨ c - c % (fullI 7 + 1) = 128 := by
  have : fullI 7 + 1 = 128 := rfl
  rw [this]; omega
theorem head_le (q : TQ) {xs : List Int} (hx : Bts xs) : (headE q xs).2.2.1 ≤ xs.length := by
  unfold headE
  obtain ⟨⟨f, need, x, y⟩, hN⟩ : ∃ r, numE xs 0 8 = r := ⟨_, rfl⟩
  simp only [hN]
  by_cases hy : y = 0
  · subst hy
    simp only [ne_eq, not_true, if_false]
    by_cases hc : countN q < need
    · simp only [if_pos hc]; exact Nat.zero_le _
    · simp only [if_neg hc]
      obtain ⟨⟨f', d, x', y'⟩, hN'⟩ : ∃ r, numE xs x 7 = r := ⟨_, rfl⟩
      simp only [hN']
      by_cases hy' : y' = 0
      · subst hy'
        simp only [not_true, if_false]
        by_cases hb : (if ¬f' = 0 then (need : Int) - d - 1 else (need : Int) + d) < 0
        · simp only [if_pos hb]; exact Nat.zero_le _
        · simp only [if_neg hb]; exact (num_ok hx hN').2.2.1
      · simp only [hy', not_false_iff, if_true]; exact Nat.zero_le _
  · simp only [ne_eq, hy, not_false_iff, if_true]; exact Nat.zero_le _
/-- what begin leaves -/
def BeginIs (g d b : Nat) (sl : Value) (q : TQ) (v : Value) (xs : List Int) (r : Nat × Int × Nat × Int) (w : World) (e : Ending) (w' : World) : Prop :=
  e = .returned (errO r.2.2.2) ∧ Keep [g] w w' ∧ (r.2.2.2 = 0 → Sc g d b sl q v xs r.2.2.1 r.1 r.2.1 w')
theorem Sc.put {g d b : Nat} {sl : Value} {q : TQ} {v : Value} {xs : List Int} {a need need' : Nat} {base base' : Int} {w w' : World} (h : Sc g d b sl q v xs a need base w) (k : Keep [g] w w') (hc : Cs w' g (scC d v a need' base')) (hn : need' ≤ countN q) (hb : 0 ≤ base' ∧ base' ≤ 5764607523034234880) : Sc g d b sl q v xs a need' base' w' :=
  ⟨hc, h.ap.keep h.dcd k, rd_keep h.read k (fun h0 j hj hm => h.ne h0 j hj (List.mem_singleton.1 hm)), h.ne, h.ap, h.fix.keep k (by simpa using h.fg), h.fg, h.cnt, hn, hb⟩

set_option maxHeartbeats 6400000 in
theorem secBegin_any {g d b : Nat} {sl : Value} {q : TQ} {v : Value} {xs : List Int} (w : World) (hS : Sc g d b sl q v xs 0 0 0 w) (hx : Bts xs) (hl : xs.length ≤ 1048576) :
    Calls Tryz.prog 40 #[.pointer (some ⟨g, 0, none⟩)] w (BeginIs g d b sl q v xs (headE q xs) w) := by
  obtain ⟨r, hr⟩ : ∃ r, r = headE q xs := ⟨_, rfl⟩
  rw [← hr]
  unfold headE at hr
  have hcnt := hS.cnt
  have HS0 := Lib.hid hS
  obtain ⟨⟨f0, need, x, y⟩, hN⟩ : ∃ r, numE xs 0 8 = r := ⟨_, rfl⟩
  simp only [hN] at hr
  by_cases hy : y = 0
  · subst hy
    rw [if_neg (fun h => h rfl)] at hr
    have hn62 := (num_ok hx hN).2.2.2.1
    have HN := Lib.hid (number_yes 8 w hS.rdr hx hN)
    have HC : Hid (∀ W, Sc g d b sl q v xs x 0 0 W → Calls Tryz.prog 22 #[.pointer (some ⟨d, 0, none⟩)] W fun e w' => e = .returned (.int .i64 (countN q : Int)) ∧ Below W.heap.size W w') := fun W hW => dcount_any W hW.dcd (by omega)
    obtain ⟨c, hcc⟩ : ∃ c, c = countN q := ⟨_, rfl⟩
    rw [← hcc] at HC hr hcnt
    by_cases hc : c < need
    · rw [if_pos hc] at hr
      subst hr
      have e1 : decide ((need : Int) > (c : Int)) = true := decide_eq_true (by omega)
      have e2 : decide (need > c) = true := decide_eq_true hc
      have e3 : decide (c < need) = true := decide_eq_true hc
      clear hS hN hcc hc hcnt
      go_enter Tryz.func40, Tryz.ntmps40
      go_wp2_with (first
        | (go_at_call 62; refine HN.out.mono ?_; rintro e w1 ⟨rfl, hk, hr1⟩; have K1 := Lib.hid hk; have S1 := Lib.hid (HS0.out.move hk hr1); obtain ⟨c0, c3, c4, cd⟩ := S1.out.facts; clear hk hr1)
        | (go_at_call 22; refine (HC.out _ S1.out).mono ?_; rintro e w2 ⟨rfl, hb2⟩; have B2 := Lib.hid hb2; clear hb2))
      go_ret
      exact ⟨rfl, K1.out.then_below B2.out, fun h => absurd h (show (17 : Int) ≠ 0 by decide)⟩
    · rw [if_neg hc] at hr
      have e1 : decide ((need : Int) > (c : Int)) = false := decide_eq_false (by omega)
      have e2 : decide (need > c) = false := decide_eq_false hc
      have e3 : decide (c < need) = false := decide_eq_false hc
      obtain ⟨⟨f, dd, x', y⟩, hN2⟩ : ∃ r, numE xs x 7 = r := ⟨_, rfl⟩
      simp only [hN2] at hr
      have hn0 : need ≤ c := by omega
      by_cases hy : y = 0
      · subst hy
        rw [if_neg (fun h => h rfl)] at hr
        have hd62 := (num_ok hx hN2).2.2.2.1
        have hfl := (num_flags hx hN2).2
        have hcb := getD_bts hx x
        have hf2 := flag7 hcb.1 hcb.2
        rw [← hfl] at hf2
        have HN2 : Hid (∀ W, Sc g d b sl q v xs x 0 0 W → _) := fun W hW => number_yes 7 W hW.rdr hx hN2
        have hw1 : IntKind.i64.wrap ((need : Int) + (dd : Int)) = (need : Int) + (dd : Int) := wraps_i64' _ (by omega) (by omega)
        have hw2 : IntKind.i64.wrap ((need : Int) - (dd : Int)) = (need : Int) - (dd : Int) := wraps_i64' _ (by omega) (by omega)
        have hw3 : IntKind.i64.wrap ((need : Int) - (dd : Int) - 1) = (need : Int) - (dd : Int) - 1 := wraps_i64' _ (by omega) (by omega)
        have HNC : Hid (need ≤ countN q ∧ need ≤ 1152921504606846976) := ⟨by omega, by omega⟩
        have HD62 := Lib.hid hd62
        clear hS hN hN2 hcc hc hcnt hn0 hfl hcb hn62 hd62
        rcases hf2 with rfl | rfl
        · simp only [ne_eq, not_true, if_false] at hr
          rw [if_neg (by omega)] at hr
          subst hr
          have hand : bits .and .i64 0 128 = 0 := by decide
          have g1 : decide ((need : Int) + (dd : Int) < 0) = false := decide_eq_false (by omega)
          go_enter Tryz.func40, Tryz.ntmps40
          go_upto_region 10 with (first
            | (go_at_call 62; have _t := HN; refine HN.out.mono ?_; rintro e w1 ⟨rfl, hk, hr1⟩; have K1 := Lib.hid hk; have S1 := Lib.hid (HS0.out.move hk hr1); obtain ⟨c0, c3, c4, cd⟩ := S1.out.facts; clear hk hr1 HN _t)
            | (go_at_call 22; refine (HC.out _ S1.out).mono ?_; rintro e w2 ⟨rfl, hb2⟩; have B2 := Lib.hid hb2; have S2 := Lib.hid (S1.out.below hb2); clear hb2)
            | (go_at_call 62; refine (HN2.out _ S2.out).mono ?_; rintro e w3 ⟨rfl, hk, hr3⟩; have K3 := Lib.hid hk; have S3 := Lib.hid (S2.out.move hk hr3); obtain ⟨c0', c3', c4', cd'⟩ := S3.out.facts; have z3 := S3.out.cells.free 3; have z4 := S3.out.cells.free 4; clear hk hr3))
          have Q4 := Lib.hid ((S3.out.cells.set 3 (.int .i64 (need : Int))).set 4 (.int .i64 ((need : Int) + (dd : Int))))
          have K4 : Hid (Keep [g] w3 ((w3.setCell ⟨g, 3, none⟩ (.int .i64 (need : Int))).setCell ⟨g, 4, none⟩ (.int .i64 ((need : Int) + (dd : Int))))) := (keep_set _ _ _ _).trans (keep_set _ _ _ _) (by simp)
          clear c0' c3' c4' cd' z3 z4
          generalize (w3.setCell ⟨g, 3, none⟩ (.int .i64 (need : Int))).setCell ⟨g, 4, none⟩ (.int .i64 ((need : Int) + (dd : Int))) = w4 at Q4 K4 ⊢
          have q4 : w4.cell? ⟨g, 4, none⟩ = some (.int .i64 ((need : Int) + (dd : Int))) := Q4.out.get 4 _ rfl
          go_wp2_with fail
          go_ret
          exact ⟨rfl, ((K1.out.then_below B2.out).trans K3.out (by simp)).trans K4.out (by simp), fun _ => S3.out.put K4.out Q4.out HNC.out.1 ⟨by show (0 : Int) ≤ (need : Int) + (dd : Int); omega, by have := HNC.out.2; have := HD62.out; show (need : Int) + (dd : Int) ≤ _; omega⟩⟩
        · rw [if_pos (show (128 : Int) ≠ 0 by decide)] at hr
          have hand : bits .and .i64 128 128 = 128 := by decide
          have HRr := Lib.hid hr
          clear hr
          go_enter Tryz.func40, Tryz.ntmps40
          go_upto_region 12 with (first
            | (go_at_call 62; have _t := HN; refine HN.out.mono ?_; rintro e w1 ⟨rfl, hk, hr1⟩; have K1 := Lib.hid hk; have S1 := Lib.hid (HS0.out.move hk hr1); obtain ⟨c0, c3, c4, cd⟩ := S1.out.facts; clear hk hr1 HN _t)
            | (go_at_call 22; refine (HC.out _ S1.out).mono ?_; rintro e w2 ⟨rfl, hb2⟩; have B2 := Lib.hid hb2; have S2 := Lib.hid (S1.out.below hb2); clear hb2)
            | (go_at_call 62; refine (HN2.out _ S2.out).mono ?_; rintro e w3 ⟨rfl, hk, hr3⟩; have K3 := Lib.hid hk; have S3 := Lib.hid (S2.out.move hk hr3); obtain ⟨c0', c3', c4', cd'⟩ := S3.out.facts; have z3 := S3.out.cells.free 3; have z4 := S3.out.cells.free 4; clear hk hr3))
          have Q4 := Lib.hid (((S3.out.cells.set 3 (.int .i64 (need : Int))).set 4 (.int .i64 ((need : Int) + (dd : Int)))).set 4 (.int .i64 ((need : Int) - (dd : Int) - 1)))
          have K4 : Hid (Keep [g] w3 (((w3.setCell ⟨g, 3, none⟩ (.int .i64 (need : Int))).setCell ⟨g, 4, none⟩ (.int .i64 ((need : Int) + (dd : Int)))).setCell ⟨g, 4, none⟩ (.int .i64 ((need : Int) - (dd : Int) - 1)))) := ((keep_set _ _ _ _).trans (keep_set _ _ _ _) (by simp)).trans (keep_set _ _ _ _) (by simp)
          clear c0' c3' c4' cd' z3 z4
          generalize ((w3.setCell ⟨g, 3, none⟩ (.int .i64 (need : Int))).setCell ⟨g, 4, none⟩ (.int .i64 ((need : Int) + (dd : Int)))).setCell ⟨g, 4, none⟩ (.int .i64 ((need : Int) - (dd : Int) - 1)) = w4 at Q4 K4 ⊢
          have q4 : w4.cell? ⟨g, 4, none⟩ = some (.int .i64 ((need : Int) - (dd : Int) - 1)) := Q4.out.get 4 _ rfl
          by_cases hneg : (need : Int) - (dd : Int) - 1 < 0
          · have g1 : decide ((need : Int) - (dd : Int) - 1 < 0) = true := decide_eq_true hneg
            have hr := HRr.out
            rw [if_pos hneg] at hr
            subst hr
            clear hneg
            go_wp2_with fail
            go_ret
            exact ⟨rfl, ((K1.out.then_below B2.out).trans K3.out (by simp)).trans K4.out (by simp), fun h => absurd h (show (5 : Int) ≠ 0 by decide)⟩
          · have g1 : decide ((need : Int) - (dd : Int) - 1 < 0) = false := decide_eq_false hneg
            have hr := HRr.out
            rw [if_neg hneg] at hr
            subst hr
            have HNG := Lib.hid hneg
            clear hneg
            go_wp2_with fail
            go_ret
            exact ⟨rfl, ((K1.out.then_below B2.out).trans K3.out (by simp)).trans K4.out (by simp), fun _ => S3.out.put K4.out Q4.out HNC.out.1 ⟨by have := HNG.out; show (0 : Int) ≤ (need : Int) - (dd : Int) - 1; omega, by have := HNC.out.2; show (need : Int) - (dd : Int) - 1 ≤ _; omega⟩⟩
      · rw [if_pos hy] at hr
        subst hr
        have HN2 : Hid (∀ W, Sc g d b sl q v xs x 0 0 W → _) := fun W hW => number_no 7 W hW.rdr hx hN2 hy
        have HY := Lib.hid hy
        unfold errV at HN2
        clear hS hN hN2 hcc hc hcnt hn0 hy
        go_enter Tryz.func40, Tryz.ntmps40
        go_wp2_with (first
          | (go_at_call 62; have _t := HN; refine HN.out.mono ?_; rintro e w1 ⟨rfl, hk, hr1⟩; have K1 := Lib.hid hk; have S1 := Lib.hid (HS0.out.move hk hr1); obtain ⟨c0, c3, c4, cd⟩ := S1.out.facts; clear hk hr1 HN _t)
          | (go_at_call 22; refine (HC.out _ S1.out).mono ?_; rintro e w2 ⟨rfl, hb2⟩; have B2 := Lib.hid hb2; have S2 := Lib.hid (S1.out.below hb2); obtain ⟨c0, c3, c4, cd⟩ := S2.out.facts; clear hb2)
          | (go_at_call 62; refine (HN2.out _ S2.out).mono ?_; rintro e w3 ⟨rfl, hk⟩; have B3 := Lib.hid hk; clear hk))
        go_ret
        exact ⟨by rw [errO_ne HY.out]; rfl, (K1.out.then_below B2.out).then_below B3.out, fun h => absurd h HY.out⟩
  · rw [if_pos hy] at hr
    subst hr
    have HN := Lib.hid (number_no 8 w hS.rdr hx hN hy)
    have HY := Lib.hid hy
    unfold errV at HN
    clear hS hN hy hcnt
    go_enter Tryz.func40, Tryz.ntmps40
    go_wp2_with (go_at_call 62; refine HN.out.mono ?_; rintro e w1 ⟨rfl, hk⟩)
    go_ret
    exact ⟨by rw [errO_ne HY.out]; rfl, Keep.of_below hk, fun h => absurd h HY.out⟩

theorem Sc.over {g d b : Nat} {sl : Value} {q : TQ} {v : Value} {xs : List Int} {a0 a need need0 : Nat} {base base0 : Int} {S : List Nat} {w2 w w' : World} (h0 : Sc g d b sl q v xs a0 need0 base0 w2) (h : Sc g d b sl q v xs a need base w) (k : Keep S w w') (hS : ∀ i ∈ S, w2.heap.size ≤ i) : Sc g d b sl q v xs a need base w' := by
  have l1 := h0.cells.lt
  have l2 := h0.dcd.lt
  have l3 := h0.dcd.tbl.lt
  have l4 := h0.fix.pos
  have no : ∀ i, i < w2.heap.size → i ∉ S := fun i hi hm => by have := hS i hm; omega
  exact ⟨h.cells.keep k (no _ l1), h.dcd.keep k (no _ l2) (no _ l3) (fun j hj => no _ (h0.dcd.tbl.slt j hj)), rd_keep h.read k (fun h9 j hj => no _ (h0.read.blt h9 j hj)), h.ne, h.ap, h.fix.keep k (no _ l4), h.fg, h.cnt, h.ned, h.bas⟩
theorem dc_results {W : World} {tmps : Array Value} {A : Nat} {v0 v1 x : Value} (h4 : tmps[4]?.getD undef = x) (h5 : tmps[5]?.getD undef = .pointer (some ⟨A, 0, none⟩))
    (c0 : W.cell? ⟨A, 0, none⟩ = some v0) (c1 : W.cell? ⟨A, 1, none⟩ = some v1) : (results Tryz.f21 tmps).run Tryz.prog W = .ok (.tuple #[x, .agg #[v0, v1]]) W := by
  have hr : Tryz.f21.results = #[.tmp 4, .cell 5 42] := rfl
  simp only [results, hr]
  go_simp
/-- a row of fields of the call's own, from block B on -/
def OwnB (B : Nat) (w : World) (v : Value) (l : List Fd) : Prop := w.ownsRow B 74 2 v l.length (fdC l)
theorem owns_mono {w : World} {B B' e m n : Nat} {v : Value} {fl : List Value} (h : w.ownsRow B e m v n fl) (hb : B' ≤ B) : w.ownsRow B' e m v n fl := by
  obtain ⟨h1, h2⟩ := h
  refine ⟨h1, ?_⟩
  rcases h2 with h2 | ⟨g, cap, cur, rfl, a2, a3⟩
  · exact .inl h2
  · exact .inr ⟨g, cap, cur, rfl, Nat.le_trans hb a2, a3⟩
/-- Decode under way -/
structure Lw (g d b : Nat) (sl : Value) (q : TQ) (v : Value) (xs : List Int) (need : Nat) (base : Int) (R : List Fd × Int × Nat) (w w2 wr : World) (u : Value) (a : Nat) (l : List Fd) : Prop where
  togo : linesE q need base xs a l = R
  few : a ≤ xs.length
  len : l.length ≤ 64
  sec : Sc g d b sl q v xs a need base wr
  row : OwnB w2.heap.size wr u l
  bel : Below w.heap.size w wr
  res : Cs wr w.heap.size [.int .i64 0, .int .i64 0]
  siz : w2.heap.size ≤ wr.heap.size
theorem Lw.next {g d b : Nat} {sl : Value} {q : TQ} {v : Value} {xs : List Int} {need : Nat} {base : Int} {R : List Fd × Int × Nat} {w w2 wr w7 w8 w9 : World} {u v9 : Value} {a x' : Nat} {l : List Fd} {fn fv : ByteArray} {base0 : Int} {a0 need0 : Nat} (L : Lw g d b sl q v xs need base R w w2 wr u a l)
    (S2 : Sc g d b sl q v xs a0 need0 base0 w2) (hz : w.heap.size < g ∧ w.heap.size < w2.heap.size ∧ g < w2.heap.size) (h64 : l.length ≠ 64) (K7 : Keep [g] wr w7) (S7 : Sc g d b sl q v xs x' need base w7) (B8 : Below w7.heap.size w7 w8)
    (o : w9.ownsRow w2.heap.size 74 2 v9 (l.length + 1) (fdC l ++ [.string fn, .string fv])) (hg : w8.grownBy w9 u.ownBlock) (ht : linesE q need base xs x' (l ++ [⟨fn, fv⟩]) = R) (hx : x' ≤ xs.length) : Lw g d b sl q v xs need base R w w2 w9 v9 x' (l ++ [⟨fn, fv⟩]) := by
  have hown : ∀ j, u.ownBlock = some j → w2.heap.size ≤ j := fun j hj => (World.ownsRow.lt L.row j hj).1
  have k9 : Keep u.ownBlock.toList w8 w9 := Keep.of_grown hg (fun j hj => .inl (by rw [hj]; simp))
  have hS : ∀ i ∈ u.ownBlock.toList, w2.heap.size ≤ i := fun i hi => hown i (by simpa using hi)
  have hlen := L.len
  refine ⟨ht, hx, by simp only [List.length_append, List.length_singleton]; omega, S2.over (S7.below B8) k9 hS, ?_, ?_, ?_, Nat.le_trans (Nat.le_trans (Nat.le_trans L.siz K7.size) B8.size) k9.size⟩
  · unfold OwnB
    rw [List.length_append, fdC_append]
    exact o
  · have h1 : Below w.heap.size w w7 := L.bel.trans (K7.to_below (fun i hi => by simp only [List.mem_singleton] at hi; omega) L.bel.size)
    have h2 : Below w.heap.size w w8 := h1.trans (B8.mono h1.size)
    exact h2.trans (k9.to_below (fun i hi => by have := hS i hi; omega) h2.size)
  · refine ((L.res.keep K7 (by simp; omega)).below B8).keep k9 (fun hm => by have := hS _ hm; omega)
/-- WHAT Decode ANSWERS -/
def DecIs14 (w : World) (R : List Fd × Int × Nat) (e : Ending) (w' : World) : Prop := ∃ u, e = .returned (.tuple #[u, .agg #[.int .i64 R.2.1, .int .i64 (R.2.2 : Int)]]) ∧ OwnB w.heap.size w' u R.1 ∧ Below w.heap.size w w'
theorem OwnB.set2 {B : Nat} {w : World} {u : Value} {l : List Fd} (h : OwnB B w u l) {A : Nat} (hA : A < B) (x y : Value) : OwnB B ((w.setCell ⟨A, 0, none⟩ x).setCell ⟨A, 1, none⟩ y) u l := by
  refine owns_keep h (S := [A]) ((keep_set _ _ _ _).trans (keep_set _ _ _ _) (by simp)) (fun j hj => ?_)
  have := World.ownsRow.lt h j hj
  simp; omega

set_option maxHeartbeats 12800000 in
theorem decode_any {d b : Nat} {sl : Value} {q : TQ} {v : Value} {xs : List Int} (w : World) (hD : Dcd d b sl q w) (hG : Gl b sl w) (hr : Rd .u8 w v xs) (hv : xs ≠ [] → ∀ j, v.ownBlock = some j → j ∉ TS b sl) (hx : Bts xs) (hl : xs.length ≤ 1048576) (hc : countN q ≤ 1152921504606846976) :
    Calls Tryz.prog 21 #[.pointer (some ⟨d, 0, none⟩), v] w (DecIs14 w (decE q xs)) := by
  obtain ⟨R, hR⟩ : ∃ R, decE q xs = R := ⟨_, rfl⟩
  rw [hR]
  rw [decE_head] at hR
  have hdz := hD.lt
  obtain ⟨w1, hw1⟩ : ∃ W, W = w.alloc (.cells #[.int .i64 0, .int .i64 0] 42) := ⟨_, rfl⟩
  have hb1 : Below w.heap.size w w1 := by rw [hw1]; exact below1 w _
  have hs1 : w1.heap.size = w.heap.size + 1 := by rw [hw1]; simp
  have hq1 : Cs w1 w.heap.size [.int .i64 0, .int .i64 0] := by rw [hw1]; exact Cs.made w #[.int .i64 0, .int .i64 0] 42
  have HGV := Lib.hid (dgiven_any w1 (hD.below hb1))
  obtain ⟨va, vc, rfl⟩ := hr.isSlice
  obtain ⟨w2, hw2⟩ : ∃ W, W = w1.alloc (.cells #[.pointer (some ⟨d, 0, none⟩), .slice va xs.length vc, .int .i64 0, .int .i64 0, .int .i64 0] 100) := ⟨_, rfl⟩
  have hb2 : Below w1.heap.size w1 w2 := by rw [hw2]; exact below1 w1 _
  have hq2 : Cs w2 w1.heap.size (scC d (.slice va xs.length vc) 0 0 0) := by
    have := Cs.made w1 #[.pointer (some ⟨d, 0, none⟩), .slice va xs.length vc, .int .i64 0, .int .i64 0, .int .i64 0] 100
    rw [hw2]; exact this
  have hbb : Below w.heap.size w w2 := hb1.trans (hb2.mono hb1.size)
  have hs2 : w2.heap.size = w.heap.size + 1 + 1 := by rw [hw2]; simp [hs1]
  have hap : Ap d b sl w1.heap.size (.slice va xs.length vc) xs := ⟨by omega, fun hm => by
    rcases mem_TS.1 hm with e | e
    · have := hD.tbl.lt; omega
    · have := hD.tbl.slt _ e; omega, hv⟩
  have hfp := hG.fix.pos
  have S2 : Hid (Sc w1.heap.size d b sl q (.slice va xs.length vc) xs 0 0 0 w2) := ⟨hq2, hD.below hbb, hr.below hbb, fun h0 j hj => by have := hr.blt h0 j hj; omega, hap, hG.fix.below hbb hfp, by omega, hc, Nat.zero_le _, by decide⟩
  have HB := Lib.hid hbb
  have HBG := Lib.hid (secBegin_any w2 S2.out hx hl)
  have HGE : Hid (∀ W, Below w.heap.size w W → ErrT W) := fun W hW => hG.err.below hW
  have HQ2 := Lib.hid (hq1.below hb2)
  have HSZ : Hid (w.heap.size < w1.heap.size ∧ w.heap.size < w2.heap.size ∧ w1.heap.size < w2.heap.size) := ⟨by omega, by omega, by omega⟩
  have HX : Hid (Bts xs ∧ xs.length ≤ 1048576) := ⟨hx, hl⟩
  have HW1 := Lib.hid hw1
  have HW2 := Lib.hid hw2
  obtain ⟨⟨need, base, x0, y⟩, hh⟩ : ∃ r, headE q xs = r := ⟨_, rfl⟩
  rw [hh] at hR HBG
  simp only at hR
  have HRr := Lib.hid hR
  have HXL : Hid (x0 ≤ xs.length) := (by have := head_le q hx; rw [hh] at this; exact this : x0 ≤ xs.length)
  clear hw1 hw2 hD hG hr hb1 hb2 hs1 hs2 hq1 hq2 hbb hR hv hc hfp hap hx hl hh
  by_cases hy : y = 0
  · subst hy
    have hR := HRr.out
    rw [if_neg (fun h => h rfl)] at hR
    have HR0 := Lib.hid hR
    clear hR
    go_enter Tryz.func21, Tryz.ntmps21
    go_upto_region 1 with fail
    rw [← HW1.out]
    go_upto_region 4 with (go_at_call 36; refine HGV.out.mono ?_; rintro e w5 ⟨rfl, h⟩; obtain rfl : w1 = w5 := h.symm)
    rw [← HW2.out]
    clear HGV
    go_wp2_with (go_at_call 40; refine HBG.out.mono ?_; rintro e w3 ⟨he, hk, hsc⟩; simp only [errO_0] at he; subst he; have K3 := Lib.hid hk; have hsc' := hsc rfl; simp only at hsc'; have S3 := Lib.hid hsc'; clear hk hsc hsc')
    have hx0 : Hid (x0 ≤ xs.length) := HXL.out
    have L0 : Hid (Lw w1.heap.size d b sl q (.slice va xs.length vc) xs need base R w w2 w3 (.slice none 0 0) x0 []) :=
      ⟨HR0.out, hx0.out, by simp, S3.out, World.ownsRow_nil _ _ _ _, HB.out.trans ((K3.out.to_below (B := w1.heap.size) (by simp) (Nat.le_of_lt HSZ.out.2.2)).mono (Nat.le_of_lt HSZ.out.1)), HQ2.out.keep K3.out (by simp; have := HSZ.out.1; omega), K3.out.size⟩
    clear hx0
    go_loopw [8] (fun u wr => ∃ a l, Lw w1.heap.size d b sl q (.slice va xs.length vc) xs need base R w w2 wr u a l) (fun _ wr => xs.length - posAt w1.heap.size 1 wr)
    case atStart => exact ⟨x0, [], L0.out⟩
    case round =>
      obtain ⟨a, l, hlw⟩ := hrel
      have LW := Lib.hid hlw
      clear hlw L0 S3 K3
      by_cases ha : a < xs.length
      · have HL : Hid (Calls Tryz.prog 37 #[.pointer (some ⟨w1.heap.size, 1, none⟩)] wr fun e w' => e = .returned (.bool true) ∧ ∃ n, w' = wr.drewN n) := rdLeft_any wr LW.out.sec.rdr true (decide_eq_true ha)
        obtain ⟨ua, uc, rfl, huc, hum⟩ := RdC.isSlice (RdC.of_owns LW.out.row)
        have HLEFT : Hid (∀ n, (wr.drewN n).cell? ⟨w1.heap.size, 2, none⟩ = some (.int .i64 (a : Int))) := fun n => (LW.out.sec.rdr.drewN n).facts.2.1
        have HA := Lib.hid ha
        clear ha
        by_cases h64 : l.length = 64
        · have HBAD : Hid (R = ([], 6, a)) := LW.out.togo.symm.trans (lines_many HA.out h64)
          have HRS : Hid (∀ n, Cs (wr.drewN n) w.heap.size [.int .i64 0, .int .i64 0]) := fun n => LW.out.res
          have e1 : ((l.length : Int) == 64) = true := by simp; omega
          have e2 : (l.length == 64) = true := by simp; omega
          clear h64
          go_wp2_with (go_at_call 37; refine HL.out.mono ?_; rintro e w6 ⟨rfl, nn, hw6⟩; have rd6 : w6.cell? ⟨w1.heap.size, 2, none⟩ = some (.int .i64 (a : Int)) := (by rw [hw6]; exact HLEFT.out nn : _); have B6 : Hid (Below w.heap.size w w6) := (by rw [hw6]; exact below_drewN LW.out.bel nn : Below _ _ _); have QB : Hid (Cs w6 w.heap.size [.int .i64 0, .int .i64 0]) := (by rw [hw6]; exact HRS.out nn : Cs _ _ _); have x0 := QB.out.get 0 _ rfl; have x1 := QB.out.get 1 _ rfl; have z0 := QB.out.free 0; have z1 := QB.out.free 1; have hlz := QB.out.lt; clear hw6)
          have QD := (QB.out.set 0 (.int .i64 6)).set 1 (.int .i64 (a : Int))
          refine bodyPost_ret (dc_results rfl rfl (QD.get 0 _ rfl) (QD.get 1 _ rfl)) rfl ⟨.slice none 0 0, by rw [HBAD.out]; rfl, by rw [HBAD.out]; exact World.ownsRow_nil _ _ _ _, (B6.out.setCell (p := ⟨w.heap.size, 0, none⟩) (Nat.le_refl _) _).setCell (p := ⟨w.heap.size, 1, none⟩) (Nat.le_refl _) _⟩
        · have e1 : ((l.length : Int) == 64) = false := by simp; omega
          have e2 : (l.length == 64) = false := by simp; omega
          have H64 := Lib.hid h64
          have HLN : Hid (∀ n, Calls Tryz.prog 41 #[.pointer (some ⟨w1.heap.size, 0, none⟩)] (wr.drewN n) (LineIs w1.heap.size d b sl q (.slice va xs.length vc) xs need base (lineE q need base xs a) (wr.drewN n))) := fun n => line_any (wr.drewN n) (LW.out.sec.below (below_drewN (Below.refl _ _) n)) HX.out.1 HX.out.2 HA.out
          clear h64
          go_upto_region 12 with (go_at_call 37; refine HL.out.mono ?_; rintro e w6 ⟨rfl, nn, hw6⟩; have rd6 : w6.cell? ⟨w1.heap.size, 2, none⟩ = some (.int .i64 (a : Int)) := (by rw [hw6]; exact HLEFT.out nn : _); have HL6 := HLN.out nn; rw [← hw6] at HL6; have HLN6 := Lib.hid HL6; have B6 : Hid (Below wr.heap.size wr w6) := (by rw [hw6]; exact below_drewN (Below.refl _ _) nn : Below _ _ _); clear hw6 HL6)
          clear HLN HLEFT rd6 HL
          by_cases hy : (lineE q need base xs a).2.2 = 0
          · have HST : Hid (linesE q need base xs (lineE q need base xs a).2.1 (l ++ [(lineE q need base xs a).1]) = R ∧ a < (lineE q need base xs a).2.1 ∧ (lineE q need base xs a).2.1 ≤ xs.length) := ⟨(lines_step HX.out.1 HA.out H64.out hy).symm.trans LW.out.togo, (line_ok HX.out.1 hy).1, (line_ok HX.out.1 hy).2⟩
            have HLI : Hid (∀ e w', LineIs w1.heap.size d b sl q (.slice va xs.length vc) xs need base (lineE q need base xs a) w6 e w' → e = .returned (.tuple #[.agg #[.string (lineE q need base xs a).1.n, .string (lineE q need base xs a).1.v], .nilIface]) ∧ Keep [w1.heap.size] w6 w' ∧ Sc w1.heap.size d b sl q (.slice va xs.length vc) xs (lineE q need base xs a).2.1 need base w') := fun e w' hli => by
              obtain ⟨f', h1, h2, h3⟩ := hli
              obtain ⟨h4, h5⟩ := h3 hy
              rw [hy, errO_0, h4] at h1
              exact ⟨h1, h2, h5⟩
            generalize lineE q need base xs a = I at HST HLI HLN6 hy
            obtain ⟨⟨fn, fv⟩, x', y'⟩ := I
            simp only at HST HLI hy
            clear hy
            go_wp2_with (first
              | (go_at_call 41; refine HLN6.out.mono ?_; rintro e w7 hli; obtain ⟨he, hk7, hs7⟩ := HLI.out _ _ hli; subst he; have K7 : Hid (Keep [w1.heap.size] wr w7) := (Keep.of_below B6.out).trans hk7 (fun i hi => .inl hi); have S7 := Lib.hid hs7; have ROW7 : Hid (OwnB w2.heap.size w7 (.slice ua l.length uc) l) := owns_keep LW.out.row K7.out (fun j hj => by have := World.ownsRow.lt LW.out.row j hj; have := HSZ.out.2.2; simp; omega); have B8 := Lib.hid ((below1 w7 (.cells #[.string fn, .string fv] 74)).trans ((below1 (w7.alloc (.cells #[.string fn, .string fv] 74)) (.cells #[.string fn, .string fv] 74)).mono (by simp))); have HZ2 : Hid (∀ W, Below w7.heap.size w7 W → w2.heap.size ≤ W.heap.size) := fun W hW => Nat.le_trans (Nat.le_trans LW.out.siz K7.out.size) hW.size; clear hli hk7 hs7)
              | (at_builtin; (refine wpList_append_rows _ rfl (.tmp 44) (.tmp 46) 27 rfl elemFd Tryz.underlying27 w2.heap.size (.slice ua l.length uc) l.length (fdC l) rfl (owns_keep ROW7.out (Keep.of_below (S := []) B8.out) (fun _ _ => by simp)) (.slice (some ⟨w7.heap.size + 1, 0, none⟩) 1 1) 1 [.string fn, .string fv] rfl (by have := RdC.built 2 (w7.alloc (.cells #[.string fn, .string fv] 74)) #[.string fn, .string fv] 74 rfl; simpa using this) (fdC_oneCell [⟨fn, fv⟩]) ?_ ?_ ?_ ?_; (have := LW.out.len; omega); (have := LW.out.len; unfold maxLen; omega); (exact HZ2.out _ B8.out); intro v9 w9 o9 g9; have O9 := Lib.hid o9; have G9 := Lib.hid g9; obtain ⟨va9, vc9, rfl, hu9, hu9'⟩ := (RdC.of_owns o9).isSlice; clear o9 g9)))
            have LN := LW.out.next S2.out HSZ.out H64.out K7.out S7.out B8.out O9.out G9.out HST.out.1 HST.out.2.2
            refine ⟨⟨_, _, LN⟩, ?_⟩
            rw [posAt_is LW.out.sec.rdr, posAt_is LN.sec.rdr]
            have := HST.out.2
            omega
          · have HBAD : Hid (R = ([], (lineE q need base xs a).2.2, a)) := LW.out.togo.symm.trans (lines_bad HA.out H64.out hy)
            have HFA : Hid (∀ W, ErrT W → Calls Tryz.prog 39 #[errV (lineE q need base xs a).2.2, .int .i64 (a : Int)] W fun e w' => e = .returned (.agg #[.int .i64 (lineE q need base xs a).2.2, .int .i64 (a : Int)]) ∧ Below W.heap.size W w') := fun W hW => faultAt_any _ _ W hW
            have HLI : Hid (∀ e w', LineIs w1.heap.size d b sl q (.slice va xs.length vc) xs need base (lineE q need base xs a) w6 e w' → ∃ f' : Fd, e = .returned (.tuple #[.agg #[.string f'.n, .string f'.v], errV (lineE q need base xs a).2.2]) ∧ Keep [w1.heap.size] w6 w') := fun e w' hli => by
              obtain ⟨f', h1, h2, _⟩ := hli
              rw [errO_ne hy] at h1
              exact ⟨f', h1, h2⟩
            generalize lineE q need base xs a = I at HBAD HFA HLI HLN6 hy
            obtain ⟨I1, I2, y'⟩ := I
            simp only at HBAD HFA HLI hy
            clear hy
            unfold errV at HFA HLI
            go_wp2_with (first
              | (go_at_call 41; refine HLN6.out.mono ?_; rintro e w7 hli; obtain ⟨⟨fn, fv⟩, he, hk7⟩ := HLI.out _ _ hli; subst he; have K7 : Hid (Keep [w1.heap.size] wr w7) := (Keep.of_below B6.out).trans hk7 (fun i hi => .inl hi); have B7 : Hid (Below w.heap.size w w7) := LW.out.bel.trans (K7.out.to_below (fun i hi => by simp only [List.mem_singleton] at hi; have := HSZ.out.1; omega) LW.out.bel.size); have QA := Lib.hid (LW.out.res.keep K7.out (by simp; have := HSZ.out.1; omega)); have B8 := Lib.hid (B7.out.alloc B7.out.size (.cells #[.string fn, .string fv] 74)); have QA2 := Lib.hid (QA.out.below (below1 w7 (.cells #[.string fn, .string fv] 74))); clear hli hk7)
              | (go_at_call 39; refine (HFA.out _ (HGE.out _ B8.out)).mono ?_; rintro e w9 ⟨rfl, hb9⟩; have B9 := Lib.hid (B8.out.trans (hb9.mono B8.out.size)); have QB := Lib.hid (QA2.out.below hb9); have x0 := QB.out.get 0 _ rfl; have x1 := QB.out.get 1 _ rfl; have z0 := QB.out.free 0; have z1 := QB.out.free 1; have hlz := QB.out.lt; clear hb9))
            have QD := (QB.out.set 0 (.int .i64 y')).set 1 (.int .i64 (a : Int))
            refine bodyPost_ret (dc_results rfl rfl (QD.get 0 _ rfl) (QD.get 1 _ rfl)) rfl ⟨.slice none 0 0, by rw [HBAD.out]; rfl, by rw [HBAD.out]; exact World.ownsRow_nil _ _ _ _, (B9.out.setCell (p := ⟨w.heap.size, 0, none⟩) (Nat.le_refl _) _).setCell (p := ⟨w.heap.size, 1, none⟩) (Nat.le_refl _) _⟩
      · have HL : Hid (Calls Tryz.prog 37 #[.pointer (some ⟨w1.heap.size, 1, none⟩)] wr fun e w' => e = .returned (.bool false) ∧ ∃ n, w' = wr.drewN n) := rdLeft_any wr LW.out.sec.rdr false (decide_eq_false ha)
        have HEND : Hid (R = (l, 0, 0)) := LW.out.togo.symm.trans (lines_end (by omega))
        obtain ⟨ua, uc, rfl, huc, hum⟩ := RdC.isSlice (RdC.of_owns LW.out.row)
        clear ha
        go_wp2_with (go_at_call 37; refine HL.out.mono ?_; rintro e w6 ⟨rfl, nn, hw6⟩; have B6 : Hid (Below w.heap.size w w6) := (by rw [hw6]; exact below_drewN LW.out.bel nn : Below _ _ _); have ROW : Hid (OwnB w2.heap.size w6 (.slice ua l.length uc) l) := (by rw [hw6]; exact LW.out.row : OwnB _ _ _ _); have QB : Hid (Cs w6 w.heap.size [.int .i64 0, .int .i64 0]) := (by rw [hw6]; exact LW.out.res : Cs _ _ _); have x0 := QB.out.get 0 _ rfl; have x1 := QB.out.get 1 _ rfl; have z0 := QB.out.free 0; have z1 := QB.out.free 1; have hlz := QB.out.lt; clear hw6)
        have QD := (QB.out.set 0 (.int .i64 0)).set 1 (.int .i64 0)
        refine bodyPost_ret (dc_results rfl rfl (QD.get 0 _ rfl) (QD.get 1 _ rfl)) rfl ⟨.slice ua l.length uc, by rw [HEND.out]; rfl, by rw [HEND.out]; exact owns_mono (ROW.out.set2 HSZ.out.2.1 _ _) (Nat.le_of_lt HSZ.out.2.1), (B6.out.setCell (p := ⟨w.heap.size, 0, none⟩) (Nat.le_refl _) _).setCell (p := ⟨w.heap.size, 1, none⟩) (Nat.le_refl _) _⟩
  · have hR := HRr.out
    rw [if_pos hy] at hR
    have HRR : Hid (R = ([], y, 0)) := hR.symm
    have HFA : Hid (∀ W, ErrT W → Calls Tryz.prog 39 #[errV y, .int .i64 0] W fun e w' => e = .returned (.agg #[.int .i64 y, .int .i64 0]) ∧ Below W.heap.size W w') := fun W hW => faultAt_any _ _ W hW
    have HBI : Hid (∀ e w', BeginIs w1.heap.size d b sl q (.slice va xs.length vc) xs (need, base, x0, y) w2 e w' → e = .returned (errV y) ∧ Keep [w1.heap.size] w2 w') := fun e w' hli => by
      obtain ⟨h1, h2, _⟩ := hli
      simp only [errO_ne hy] at h1
      exact ⟨h1, h2⟩
    unfold errV at HFA HBI
    clear hy hR
    go_enter Tryz.func21, Tryz.ntmps21
    go_upto_region 1 with fail
    rw [← HW1.out]
    go_upto_region 4 with (go_at_call 36; refine HGV.out.mono ?_; rintro e w5 ⟨rfl, h⟩; obtain rfl : w1 = w5 := h.symm)
    rw [← HW2.out]
    clear HGV
    go_wp2_with (first
      | (go_at_call 40; refine HBG.out.mono ?_; rintro e w3 hli; obtain ⟨he, hk⟩ := HBI.out _ _ hli; subst he; have B3 : Hid (Below w.heap.size w w3) := HB.out.trans (hk.to_below (fun i hi => by simp only [List.mem_singleton] at hi; have := HSZ.out.1; omega) HB.out.size); have QA := Lib.hid (HQ2.out.keep hk (by simp; have := HSZ.out.1; omega)); clear hk hli)
      | (go_at_call 39; refine (HFA.out _ (HGE.out _ B3.out)).mono ?_; rintro e w9 ⟨rfl, hb9⟩; have B9 := Lib.hid (B3.out.trans (hb9.mono B3.out.size)); have QB := Lib.hid (QA.out.below hb9); have x0 := QB.out.get 0 _ rfl; have x1 := QB.out.get 1 _ rfl; have z0 := QB.out.free 0; have z1 := QB.out.free 1; have hlz := QB.out.lt; clear hb9))
    have QD := (QB.out.set 0 (.int .i64 y)).set 1 (.int .i64 0)
    refine bodyPost_ret (dc_results rfl rfl (QD.get 0 _ rfl) (QD.get 1 _ rfl)) rfl ⟨.slice none 0 0, by rw [HRR.out]; rfl, by rw [HRR.out]; exact World.ownsRow_nil _ _ _ _, (B9.out.setCell (p := ⟨w.heap.size, 0, none⟩) (Nat.le_refl _) _).setCell (p := ⟨w.heap.size, 1, none⟩) (Nat.le_refl _) _⟩
end Go.Proofs.YtbkbabaoockigaaGreatDoor

set_option maxRecDepth 100000
set_option linter.unusedSimpArgs false
set_option linter.unusedVariables false
namespace Go.Proofs.YtbkbabaoockigaaGreatDoor
open Go.RowKit

/-- THE BYTES OF A TEXT of k + 1 bits, with flags f -/
def IsText (f k : Int) (s : ByteArray) (zs : List Int) : Prop :=
  (∃ o, Bts o ∧ decN (wdsOf fldL) (unp o) 0 0 = some (bytesOf s) ∧ o.length < s.size ∧ zs = encP (f + (fullI k + 1)) k o.length ++ o) ∨ zs = encP f k s.size ++ bytesOf s

theorem text_nonempty {f k : Int} {s : ByteArray} {zs : List Int} (h : IsText f k s zs) : zs ≠ [] := by
  rcases h with ⟨o, _, _, _, rfl⟩ | rfl
  · intro h
    have := sizeN_pos k o.length
    have h2 := congrArg List.length h
    rw [List.length_append, encP_len] at h2
    simp at h2; omega
  · intro h
    have := sizeN_pos k s.size
    have h2 := congrArg List.length h
    rw [List.length_append, encP_len] at h2
    simp at h2; omega
theorem num_enc (pre post : List Int) (f k n : Int) (hok : OkP f k n) : numE (pre ++ (encP f k n ++ post)) pre.length k = (f, n.toNat, pre.length + sizeN k n, 0) := by
  unfold numE
  rw [← List.append_assoc, get_enc pre post f k n hok]
  simp only [Prod.mk.injEq, true_and, and_true]
  omega
/-- the first byte of a number -/
theorem enc_head (pre post : List Int) (f k n : Int) (hok : OkP f k n) : f ≤ (pre ++ (encP f k n ++ post)).getD pre.length 0 ∧ (pre ++ (encP f k n ++ post)).getD pre.length 0 ≤ f + fullI k := by
  obtain ⟨hk, hf, n0, n1⟩ := hok
  have f0 := fullI_pos k
  have hg : (pre ++ (encP f k n ++ post)).getD pre.length 0 = if n < fullI k then f + n else f + fullI k := by
    unfold encP
    split <;> simp [List.getD]
  rw [hg]
  split <;> omega
theorem text_head {f k : Int} {s : ByteArray} {zs : List Int} (h : IsText f k s zs) (h1 : OkF f k) (h2 : OkF (f + (fullI k + 1)) k) (hk : IsW k) (hs : s.size ≤ 512) (pre post : List Int) :
    f ≤ (pre ++ (zs ++ post)).getD pre.length 0 ∧ (pre ++ (zs ++ post)).getD pre.length 0 ≤ f + (fullI k + 1) + fullI k := by
  have f0 := fullI_pos k
  rcases h with ⟨o, _, _, hlt, rfl⟩ | rfl
  · have := enc_head pre (o ++ post) (f + (fullI k + 1)) k o.length ⟨hk, h2, by omega, by omega⟩
    rw [← List.append_assoc (encP _ _ _)] at this
    omega
  · have := enc_head pre (bytesOf s ++ post) f k s.size ⟨hk, h1, by omega, by omega⟩
    rw [← List.append_assoc (encP _ _ _)] at this
    omega
theorem drop_mid14 (a b c : List Int) (m : Nat) (hm : m = a.length) : ((a ++ (b ++ c)).drop m).take b.length = b := by
  subst hm
  rw [List.drop_left, List.take_left]
/-- A TEXT THAT WAS WRITTEN IS READ -/
theorem text_enc {f k : Int} {s : ByteArray} {zs : List Int} (h : IsText f k s zs) (h1 : OkF f k) (h2 : OkF (f + (fullI k + 1)) k) (he : f / (fullI k + 1) % 2 = 0) (hk : IsW k) (most : Nat) (hs : s.size ≤ most) (hm : most ≤ 512) (pre post : List Int) :
    textE (pre ++ (zs ++ post)) pre.length (k + 1) most = (s, pre.length + zs.length, 0) := by
  have f0 := fullI_pos k
  have ek : k + 1 - 1 = k := by omega
  have hcod : (f + (fullI k + 1)) / (fullI k + 1) % 2 = 1 := by
    rw [Int.add_ediv_of_dvd_right (Int.dvd_refl _), Int.ediv_self (by omega)]; omega
  unfold textE
  rw [ek]
  rcases h with ⟨o, ho, hd, hlt, rfl⟩ | rfl
  · have hok : OkP (f + (fullI k + 1)) k (o.length : Int) := ⟨hk, h2, by omega, by omega⟩
    have hN := num_enc pre (o ++ post) _ k _ hok
    rw [List.append_assoc (encP _ _ _), hN]
    simp only [ne_eq, not_true, if_false, Int.toNat_natCast]
    rw [if_neg (by simp only [List.length_append, encP_len]; omega), if_pos hcod]
    have hdr : ((pre ++ (encP (f + (fullI k + 1)) k o.length ++ (o ++ post))).drop (pre.length + sizeN k o.length)).take o.length = o := by
      rw [← List.append_assoc pre]
      exact drop_mid14 _ _ _ _ (by rw [List.length_append, encP_len])
    rw [hdr, hd]
    simp only
    rw [if_neg (by rw [bytesOf_len]; omega), str_back, List.length_append, encP_len]
    simp only [Prod.mk.injEq, true_and, and_true]
    omega
  · have hok : OkP f k (s.size : Int) := ⟨hk, h1, by omega, by omega⟩
    have hN := num_enc pre (bytesOf s ++ post) _ k _ hok
    rw [List.append_assoc (encP _ _ _), hN]
    simp only [ne_eq, not_true, if_false, Int.toNat_natCast]
    rw [if_neg (by simp only [List.length_append, encP_len, bytesOf_len]; omega), if_neg (by omega)]
    have hdr : ((pre ++ (encP f k s.size ++ (bytesOf s ++ post))).drop (pre.length + sizeN k s.size)).take s.size = bytesOf s := by
      rw [← List.append_assoc pre]
      have := drop_mid14 (pre ++ encP f k s.size) (bytesOf s) post (pre.length + sizeN k s.size) (by rw [List.length_append, encP_len])
      rw [bytesOf_len] at this
      exact this
    rw [hdr]
    simp only
    rw [if_neg (by rw [bytesOf_len]; omega), str_back, List.length_append, encP_len, bytesOf_len]
    simp only [Prod.mk.injEq, true_and, and_true]
    omega
theorem text_bts {f k : Int} {s : ByteArray} {zs : List Int} (h : IsText f k s zs) (h1 : OkF f k) (h2 : OkF (f + (fullI k + 1)) k) (hk : IsW k) (hs : s.size ≤ 512) : Bts zs := by
  rcases h with ⟨o, ho, _, hlt, rfl⟩ | rfl
  · exact (encP_bts ⟨hk, h2, by omega, by omega⟩).append ho
  · exact (encP_bts ⟨hk, h1, by omega, by omega⟩).append (bytesOf_bts s)
theorem text_len {f k : Int} {s : ByteArray} {zs : List Int} (h : IsText f k s zs) (hs : s.size ≤ 512) : zs.length ≤ 522 := by
  rcases h with ⟨o, ho, _, hlt, rfl⟩ | rfl
  · have := sizeN_le (w := k) (n := (o.length : Int)) (by omega)
    rw [List.length_append, encP_len]; omega
  · have := sizeN_le (w := k) (n := (s.size : Int)) (by omega)
    rw [List.length_append, encP_len, bytesOf_len]; omega
/-- a value's text -/
abbrev IsVal (s : ByteArray) (zs : List Int) : Prop := IsText 0 7 s zs
theorem ok7a : OkF 0 7 := by decide
theorem ok7b : OkF (0 + (fullI 7 + 1)) 7 := by decide
theorem val_enc {s : ByteArray} {zs : List Int} (h : IsVal s zs) (hs : s.size ≤ 512) (pre post : List Int) (m : Nat) (hm : m = pre.length) : textE (pre ++ (zs ++ post)) m 8 512 = (s, pre.length + zs.length, 0) := by
  subst hm
  exact text_enc h ok7a ok7b (by decide) (by decide) 512 hs (Nat.le_refl _) pre post

/-! instructions -/
theorem ins_named (q : TQ) (n : Nat) (hn : n ≤ 4611686018427387903) (s : ByteArray) (zs : List Int) (hz : IsVal s zs) (hs : s.size ≤ 512) (f : Fd) (hf : fixedE (n : Int) = (f, 0)) (pre post : List Int) :
    insE q (pre ++ ((encP 192 6 n ++ zs) ++ post)) pre.length = ((insertE q ⟨f.n, s⟩).1, pre.length + (encP 192 6 n ++ zs).length, (insertE q ⟨f.n, s⟩).2.2) := by
  have hok : OkP 192 6 (n : Int) := ⟨by decide, by decide, by omega, by omega⟩
  have hh := enc_head pre (zs ++ post) 192 6 n hok
  rw [show fullI 6 = 63 from rfl] at hh
  have hN := num_enc pre (zs ++ post) 192 6 n hok
  have hT := val_enc hz hs (pre ++ encP 192 6 n) post (pre.length + sizeN 6 n) (by rw [List.length_append, encP_len])
  rw [List.append_assoc (encP _ _ _)]
  rw [List.append_assoc pre] at hT
  generalize hcc : List.getD (pre ++ (encP 192 6 n ++ (zs ++ post))) pre.length 0 = c at hh
  unfold insE
  rw [hcc]
  rw [if_pos (by omega), hN]
  simp only [ne_eq, not_true, if_false, Int.toNat_natCast]
  rw [hT]
  simp only [not_true, if_false]
  rw [if_pos (show 192 ≤ c by omega), hf]
  simp only [not_true, if_false, List.length_append, encP_len, Prod.mk.injEq, true_and, and_true]
  omega
theorem ins_last (q : TQ) (n : Nat) (hn : n ≤ 4611686018427387903) (s : ByteArray) (zs : List Int) (hz : IsVal s zs) (hs : s.size ≤ 512) (f : Fd) (hf : getE q ((countN q : Int) - 1 - n) = (f, 0)) (pre post : List Int) :
    insE q (pre ++ ((encP 128 6 n ++ zs) ++ post)) pre.length = ((insertE q ⟨f.n, s⟩).1, pre.length + (encP 128 6 n ++ zs).length, (insertE q ⟨f.n, s⟩).2.2) := by
  have hok : OkP 128 6 (n : Int) := ⟨by decide, by decide, by omega, by omega⟩
  have hh := enc_head pre (zs ++ post) 128 6 n hok
  rw [show fullI 6 = 63 from rfl] at hh
  have hN := num_enc pre (zs ++ post) 128 6 n hok
  have hT := val_enc hz hs (pre ++ encP 128 6 n) post (pre.length + sizeN 6 n) (by rw [List.length_append, encP_len])
  rw [List.append_assoc (encP _ _ _)]
  rw [List.append_assoc pre] at hT
  generalize hcc : List.getD (pre ++ (encP 128 6 n ++ (zs ++ post))) pre.length 0 = c at hh
  unfold insE
  rw [hcc]
  rw [if_pos (by omega), hN]
  simp only [ne_eq, not_true, if_false, Int.toNat_natCast]
  rw [hT]
  simp only [not_true, if_false]
  rw [if_neg (show ¬ 192 ≤ c by omega), hf]
  simp only [not_true, if_false, List.length_append, encP_len, Prod.mk.injEq, true_and, and_true]
  omega
theorem ok64a : OkF 64 5 := by decide
theorem ok64b : OkF (64 + (fullI 5 + 1)) 5 := by decide
theorem ins_told (q : TQ) (nm s : ByteArray) (ns zs : List Int) (hn : IsText 64 5 nm ns) (hnm : nm.size ≤ 64) (hz : IsVal s zs) (hs : s.size ≤ 512) (pre post : List Int) :
    insE q (pre ++ ((ns ++ zs) ++ post)) pre.length = ((insertE q ⟨nm, s⟩).1, pre.length + (ns ++ zs).length, (insertE q ⟨nm, s⟩).2.2) := by
  have hh := text_head hn ok64a ok64b (by decide) (by omega) pre (zs ++ post)
  rw [show fullI 5 = 31 from rfl] at hh
  have hN := text_enc hn ok64a ok64b (by decide) (by decide) 64 hnm (by decide) pre (zs ++ post)
  have hT := val_enc hz hs (pre ++ ns) post (pre.length + ns.length) (by rw [List.length_append])
  rw [List.append_assoc ns]
  rw [List.append_assoc pre] at hT
  generalize hcc : List.getD (pre ++ (ns ++ (zs ++ post))) pre.length 0 = c at hh
  unfold insE
  rw [hcc]
  rw [if_neg (by omega), if_pos (by omega), show (6 : Int) = 5 + 1 from rfl, hN]
  simp only [ne_eq, not_true, if_false]
  rw [hT]
  simp only [not_true, if_false, List.length_append, Prod.mk.injEq, true_and, and_true]
  omega
theorem ins_cap (q : TQ) (n : Nat) (hn : n ≤ 4611686018427387903) (pre post : List Int) :
    insE q (pre ++ (encP 32 5 n ++ post)) pre.length = ((setCapE q n).1, pre.length + (encP 32 5 n).length, (setCapE q n).2) := by
  have hok : OkP 32 5 (n : Int) := ⟨by decide, by decide, by omega, by omega⟩
  have hh := enc_head pre post 32 5 n hok
  rw [show fullI 5 = 31 from rfl] at hh
  have hN := num_enc pre post 32 5 n hok
  generalize hcc : List.getD (pre ++ (encP 32 5 n ++ post)) pre.length 0 = c at hh
  unfold insE
  rw [hcc]
  rw [if_neg (by omega), if_neg (by omega), hN]
  simp only [ne_eq, not_true, if_false, Int.toNat_natCast]
  rw [if_pos (show 32 ≤ c by omega), encP_len]

/-! lines -/
theorem line_fixed (q : TQ) (need : Nat) (base : Int) (n : Nat) (hn : n ≤ 4611686018427387903) (f : Fd) (hf : fixedE (n : Int) = (f, 0)) (pre post : List Int) :
    lineE q need base (pre ++ (encP 192 6 n ++ post)) pre.length = (f, pre.length + (encP 192 6 n).length, 0) := by
  have hok : OkP 192 6 (n : Int) := ⟨by decide, by decide, by omega, by omega⟩
  have hh := enc_head pre post 192 6 n hok
  rw [show fullI 6 = 63 from rfl] at hh
  have hN := num_enc pre post 192 6 n hok
  generalize hcc : List.getD (pre ++ (encP 192 6 n ++ post)) pre.length 0 = c at hh
  unfold lineE
  rw [hcc]
  rw [if_pos (by omega), hN]
  simp only [ne_eq, not_true, if_false, Int.toNat_natCast]
  rw [if_pos (show 192 ≤ c by omega), hf, encP_len]
theorem line_whole (q : TQ) (need : Nat) (base : Int) (n : Nat) (hn : n ≤ 4611686018427387903) (f : Fd) (hf : getB q need (base - 1 - n) = (f, 0)) (pre post : List Int) :
    lineE q need base (pre ++ (encP 128 6 n ++ post)) pre.length = (f, pre.length + (encP 128 6 n).length, 0) := by
  have hok : OkP 128 6 (n : Int) := ⟨by decide, by decide, by omega, by omega⟩
  have hh := enc_head pre post 128 6 n hok
  rw [show fullI 6 = 63 from rfl] at hh
  have hN := num_enc pre post 128 6 n hok
  generalize hcc : List.getD (pre ++ (encP 128 6 n ++ post)) pre.length 0 = c at hh
  unfold lineE
  rw [hcc]
  rw [if_pos (by omega), hN]
  simp only [ne_eq, not_true, if_false, Int.toNat_natCast]
  rw [if_neg (show ¬ 192 ≤ c by omega), hf, encP_len]
theorem line_past (q : TQ) (need : Nat) (base : Int) (n : Nat) (hn : n ≤ 4611686018427387903) (f : Fd) (hf : getB q need (base + n) = (f, 0)) (pre post : List Int) :
    lineE q need base (pre ++ (encP 16 4 n ++ post)) pre.length = (f, pre.length + (encP 16 4 n).length, 0) := by
  have hok : OkP 16 4 (n : Int) := ⟨by decide, by decide, by omega, by omega⟩
  have hh := enc_head pre post 16 4 n hok
  rw [show fullI 4 = 15 from rfl] at hh
  have hN := num_enc pre post 16 4 n hok
  generalize hcc : List.getD (pre ++ (encP 16 4 n ++ post)) pre.length 0 = c at hh
  unfold lineE
  rw [hcc]
  rw [if_neg (by omega), if_neg (by omega), if_neg (by omega), if_pos (by omega), hN]
  simp only [ne_eq, not_true, if_false, Int.toNat_natCast]
  rw [hf, encP_len]
theorem line_namedF (q : TQ) (need : Nat) (base : Int) (n : Nat) (hn : n ≤ 4611686018427387903) (s : ByteArray) (zs : List Int) (hz : IsVal s zs) (hs : s.size ≤ 512) (f : Fd) (hf : fixedE (n : Int) = (f, 0)) (pre post : List Int) :
    lineE q need base (pre ++ ((encP 80 4 n ++ zs) ++ post)) pre.length = (⟨f.n, s⟩, pre.length + (encP 80 4 n ++ zs).length, 0) := by
  have hok : OkP 80 4 (n : Int) := ⟨by decide, by decide, by omega, by omega⟩
  have hh := enc_head pre (zs ++ post) 80 4 n hok
  rw [show fullI 4 = 15 from rfl] at hh
  have hN := num_enc pre (zs ++ post) 80 4 n hok
  have hT := val_enc hz hs (pre ++ encP 80 4 n) post (pre.length + sizeN 4 n) (by rw [List.length_append, encP_len])
  rw [List.append_assoc (encP _ _ _)]
  rw [List.append_assoc pre] at hT
  generalize hcc : List.getD (pre ++ (encP 80 4 n ++ (zs ++ post))) pre.length 0 = c at hh
  unfold lineE
  rw [hcc]
  rw [if_neg (by omega), if_pos (by omega), hN]
  simp only [ne_eq, not_true, if_false, Int.toNat_natCast]
  rw [hT]
  simp only [not_true, if_false]
  rw [if_pos (show c / 16 % 2 = 1 by omega), hf]
  simp only [List.length_append, encP_len, Prod.mk.injEq, true_and, and_true]
  omega
theorem line_named (q : TQ) (need : Nat) (base : Int) (n : Nat) (hn : n ≤ 4611686018427387903) (s : ByteArray) (zs : List Int) (hz : IsVal s zs) (hs : s.size ≤ 512) (f : Fd) (hf : getB q need (base - 1 - n) = (f, 0)) (pre post : List Int) :
    lineE q need base (pre ++ ((encP 64 4 n ++ zs) ++ post)) pre.length = (⟨f.n, s⟩, pre.length + (encP 64 4 n ++ zs).length, 0) := by
  have hok : OkP 64 4 (n : Int) := ⟨by decide, by decide, by omega, by omega⟩
  have hh := enc_head pre (zs ++ post) 64 4 n hok
  rw [show fullI 4 = 15 from rfl] at hh
  have hN := num_enc pre (zs ++ post) 64 4 n hok
  have hT := val_enc hz hs (pre ++ encP 64 4 n) post (pre.length + sizeN 4 n) (by rw [List.length_append, encP_len])
  rw [List.append_assoc (encP _ _ _)]
  rw [List.append_assoc pre] at hT
  generalize hcc : List.getD (pre ++ (encP 64 4 n ++ (zs ++ post))) pre.length 0 = c at hh
  unfold lineE
  rw [hcc]
  rw [if_neg (by omega), if_pos (by omega), hN]
  simp only [ne_eq, not_true, if_false, Int.toNat_natCast]
  rw [hT]
  simp only [not_true, if_false]
  rw [if_neg (show ¬ c / 16 % 2 = 1 by omega), hf]
  simp only [List.length_append, encP_len, Prod.mk.injEq, true_and, and_true]
  omega
theorem line_pastN (q : TQ) (need : Nat) (base : Int) (n : Nat) (hn : n ≤ 4611686018427387903) (s : ByteArray) (zs : List Int) (hz : IsVal s zs) (hs : s.size ≤ 512) (f : Fd) (hf : getB q need (base + n) = (f, 0)) (pre post : List Int) :
    lineE q need base (pre ++ ((encP 0 3 n ++ zs) ++ post)) pre.length = (⟨f.n, s⟩, pre.length + (encP 0 3 n ++ zs).length, 0) := by
  have hok : OkP 0 3 (n : Int) := ⟨by decide, by decide, by omega, by omega⟩
  have hh := enc_head pre (zs ++ post) 0 3 n hok
  rw [show fullI 3 = 7 from rfl] at hh
  have hN := num_enc pre (zs ++ post) 0 3 n hok
  have hT := val_enc hz hs (pre ++ encP 0 3 n) post (pre.length + sizeN 3 n) (by rw [List.length_append, encP_len])
  rw [List.append_assoc (encP _ _ _)]
  rw [List.append_assoc pre] at hT
  generalize hcc : List.getD (pre ++ (encP 0 3 n ++ (zs ++ post))) pre.length 0 = c at hh
  unfold lineE
  rw [hcc]
  rw [if_neg (by omega), if_neg (by omega), if_neg (by omega), if_neg (by omega), hN]
  simp only [ne_eq, not_true, if_false, Int.toNat_natCast]
  rw [hT]
  simp only [not_true, if_false]
  rw [hf]
  simp only [List.length_append, encP_len, Prod.mk.injEq, true_and, and_true]
  omega
theorem ok32a : OkF 32 3 := by decide
theorem ok32b : OkF (32 + (fullI 3 + 1)) 3 := by decide
theorem line_told (q : TQ) (need : Nat) (base : Int) (nm s : ByteArray) (ns zs : List Int) (hn : IsText 32 3 nm ns) (hnm : nm.size ≤ 64) (hz : IsVal s zs) (hs : s.size ≤ 512) (pre post : List Int) :
    lineE q need base (pre ++ ((ns ++ zs) ++ post)) pre.length = (⟨nm, s⟩, pre.length + (ns ++ zs).length, 0) := by
  have hh := text_head hn ok32a ok32b (by decide) (by omega) pre (zs ++ post)
  rw [show fullI 3 = 7 from rfl] at hh
  have hN := text_enc hn ok32a ok32b (by decide) (by decide) 64 hnm (by decide) pre (zs ++ post)
  have hT := val_enc hz hs (pre ++ ns) post (pre.length + ns.length) (by rw [List.length_append])
  rw [List.append_assoc ns]
  rw [List.append_assoc pre] at hT
  generalize hcc : List.getD (pre ++ (ns ++ (zs ++ post))) pre.length 0 = c at hh
  unfold lineE
  rw [hcc]
  rw [if_neg (by omega), if_neg (by omega), if_pos (by omega), show (4 : Int) = 3 + 1 from rfl, hN]
  simp only [ne_eq, not_true, if_false]
  rw [hT]
  simp only [List.length_append, Prod.mk.injEq, true_and, and_true]
  omega
end Go.Proofs.YtbkbabaoockigaaGreatDoor

set_option maxRecDepth 100000
set_option linter.unusedSimpArgs false
set_option linter.unusedVariables false
namespace Go.Proofs.YtbkbabaoockigaaGreatDoor
open Go.RowKit

/-- from kept on, q' has what q has -/
def Ext (kept : Nat) (q q' : TQ) : Prop := ∀ n : Nat, kept ≤ n → n < countN q → getE q' (n : Int) = getE q (n : Int)
theorem Ext.refl (kept : Nat) (q : TQ) : Ext kept q q := fun n _ _ => rfl
theorem Ext.less {kept kept1 : Nat} {q q' : TQ} (h : Ext kept1 q q') (hk : kept1 ≤ kept) : Ext kept q q' := fun n h1 h2 => h n (Nat.le_trans hk h1) h2
theorem Ext.trans {kept : Nat} {q q1 q' : TQ} (h : Ext kept q q1) (k : Ext kept q1 q') (hc : countN q ≤ countN q1) : Ext kept q q' := fun n h1 h2 => (k n h1 (Nat.lt_of_lt_of_le h2 hc)).trans (h n h1 h2)
/-- all that must stay stays when so much room is wanted -/
def RoomOk (q : TQ) (kept room : Nat) : Prop := room ≤ q.cap ∧ q.first + goneN (q.cap - room) q.l ≤ kept
theorem room_of {q : TQ} (h : TOk q) {kept room m : Nat} (hm : m ≤ q.l.length) (h1 : room + rooms q.l ≤ q.cap + rooms (q.l.take m)) (h2 : q.first + m ≤ kept) : RoomOk q kept room := by
  have hs := rooms_split q.l m
  refine ⟨by omega, ?_⟩
  have : goneN (q.cap - room) q.l ≤ m := by
    rcases Nat.lt_or_ge m (goneN (q.cap - room) q.l) with h3 | h3
    · have := goneN_wants (q.cap - room) q.l m h3; omega
    · exact h3
  omega
theorem insert_fit {q : TQ} {f : Fd} (hn : f.n.size ≤ 64) (hv : f.v.size ≤ 512) (hr : roomF f ≤ q.cap) :
    insertE q f = ({ shrinkE (q.cap - roomF f) q with l := (shrinkE (q.cap - roomF f) q).l ++ [f] }, ((countN q : Nat) : Int), 0) := by
  unfold insertE
  rw [if_neg (by omega), if_neg (by omega)]
theorem insert_fits_count {q : TQ} {f : Fd} (hn : f.n.size ≤ 64) (hv : f.v.size ≤ 512) (hr : roomF f ≤ q.cap) : countN (insertE q f).1 = countN q + 1 := by
  rw [insert_fit hn hv hr]
  have := shrink_count (q.cap - roomF f) q
  simp only [countN, List.length_append, List.length_singleton] at this ⊢
  omega
theorem insert_new {q : TQ} {f : Fd} (hn : f.n.size ≤ 64) (hv : f.v.size ≤ 512) (hr : roomF f ≤ q.cap) : getE (insertE q f).1 (countN q : Int) = (f, 0) := by
  have hc := insert_fits_count hn hv hr
  rw [insert_fit hn hv hr] at hc ⊢
  have hs := shrink_count (q.cap - roomF f) q
  have hg := goneN_le (q.cap - roomF f) q.l
  unfold getE
  rw [if_neg (by
    simp only [countN, shrinkE, List.length_append, List.length_singleton, List.length_drop] at hc hs ⊢
    omega)]
  simp only [shrinkE, countN, Int.toNat_natCast]
  have e : q.first + q.l.length - (q.first + goneN (q.cap - roomF f) q.l) = (q.l.drop (goneN (q.cap - roomF f) q.l)).length := by rw [List.length_drop]; omega
  rw [e]
  simp [List.getD]
theorem insert_ext {q : TQ} {f : Fd} {kept : Nat} (hn : f.n.size ≤ 64) (hv : f.v.size ≤ 512) (hr : RoomOk q kept (roomF f)) : Ext kept q (insertE q f).1 := by
  intro n h1 h2
  have hc := insert_fits_count hn hv hr.1
  rw [insert_fit hn hv hr.1] at hc ⊢
  have hg := goneN_le (q.cap - roomF f) q.l
  have h3 := hr.2
  have hs := shrink_count (q.cap - roomF f) q
  unfold getE
  rw [if_neg (by
    simp only [countN, shrinkE, List.length_append, List.length_singleton, List.length_drop] at hc hs h2 ⊢
    omega), if_neg (by
    simp only [countN] at h2 ⊢
    omega)]
  simp only [shrinkE, Int.toNat_natCast]
  simp only [countN] at h2
  have e : n - (q.first + goneN (q.cap - roomF f) q.l) = n - q.first - goneN (q.cap - roomF f) q.l := by omega
  rw [e]
  have hlt : n - q.first - goneN (q.cap - roomF f) q.l < (q.l.drop (goneN (q.cap - roomF f) q.l)).length := by rw [List.length_drop]; omega
  simp only [List.getD, List.getElem?_append_left hlt, List.getElem?_drop]
  rw [show goneN (q.cap - roomF f) q.l + (n - q.first - goneN (q.cap - roomF f) q.l) = n - q.first by omega]
theorem insert_first {q : TQ} {f : Fd} {kept : Nat} (hn : f.n.size ≤ 64) (hv : f.v.size ≤ 512) (hr : RoomOk q kept (roomF f)) : (insertE q f).1.first ≤ kept := by
  rw [insert_fit hn hv hr.1]
  exact hr.2
theorem last_is (p : Fd → Bool) (first : Nat) (l : List Fd) (k : Nat) (hk : k ≤ l.length) : lastN p first l k = -1 ∨ ∃ i : Nat, i < k ∧ lastN p first l k = ((first + i : Nat) : Int) ∧ p (l.getD i noFd) = true := by
  induction k with
  | zero => exact .inl rfl
  | succ k ih =>
    simp only [lastN]
    by_cases hp : p (l.getD k noFd) = true
    · rw [if_pos hp]; exact .inr ⟨k, by omega, rfl, hp⟩
    · rw [if_neg hp]
      rcases ih (by omega) with h | ⟨i, h1, h2, h3⟩
      · exact .inl h
      · exact .inr ⟨i, by omega, h2, h3⟩
theorem get_in14 (q : TQ) (i : Nat) (hi : i < q.l.length) : getE q ((q.first + i : Nat) : Int) = (q.l.getD i noFd, 0) := by
  unfold getE
  rw [if_neg (by simp only [countN]; omega), Int.toNat_natCast, show q.first + i - q.first = i by omega]
/-- a field that is found is there -/
theorem find_same (q : TQ) (f : Fd) : (findE q f).1 = -1 ∨ ∃ n : Nat, (findE q f).1 = (n : Int) ∧ q.first ≤ n ∧ n < countN q ∧ getE q (n : Int) = (f, 0) := by
  rcases last_is (isF f) q.first q.l q.l.length (Nat.le_refl _) with h | ⟨i, h1, h2, h3⟩
  · exact .inl h
  · refine .inr ⟨q.first + i, h2, by omega, by simp only [countN]; omega, ?_⟩
    rw [get_in14 q i h1]
    have : q.l.getD i noFd = f := by simpa [isF] using h3
    rw [this]
theorem find_named (q : TQ) (f : Fd) : (findE q f).2 = -1 ∨ ∃ (n : Nat) (g : Fd), (findE q f).2 = (n : Int) ∧ q.first ≤ n ∧ n < countN q ∧ getE q (n : Int) = (g, 0) ∧ g.n = f.n := by
  rcases last_is (namedF f) q.first q.l q.l.length (Nat.le_refl _) with h | ⟨i, h1, h2, h3⟩
  · exact .inl h
  · refine .inr ⟨q.first + i, q.l.getD i noFd, h2, by omega, by simp only [countN]; omega, get_in14 q i h1, ?_⟩
    simpa [namedF] using h3
theorem firstG_is (p : Fd → Bool) (l : List Fd) (o : Nat) : firstG p l o = -1 ∨ ∃ i : Nat, i < l.length ∧ firstG p l o = ((o + i : Nat) : Int) ∧ p (l.getD i noFd) = true := by
  induction l generalizing o with
  | nil => exact .inl rfl
  | cons x l ih =>
    simp only [firstG]
    by_cases hp : p x = true
    · rw [if_pos hp]; exact .inr ⟨0, by simp, by simp, by simpa [List.getD] using hp⟩
    · rw [if_neg hp]
      rcases ih (o + 1) with h | ⟨i, h1, h2, h3⟩
      · exact .inl h
      · exact .inr ⟨i + 1, by simp; omega, by rw [h2]; omega, by simpa [List.getD] using h3⟩
theorem fixed_get (i : Nat) (hi : i < 24) : fixedE (i : Int) = (fixedL.getD i noFd, 0) := by
  unfold fixedE
  rw [if_neg (by omega), Int.toNat_natCast]
theorem fixed_same (f : Fd) : (findFixedE f).1 = -1 ∨ ∃ n : Nat, (findFixedE f).1 = (n : Int) ∧ n < 24 ∧ fixedE (n : Int) = (f, 0) := by
  rcases firstG_is (isF f) fixedL 0 with h | ⟨i, h1, h2, h3⟩
  · exact .inl h
  · rw [fixed_len] at h1
    rw [Nat.zero_add] at h2
    refine .inr ⟨i, h2, h1, ?_⟩
    rw [fixed_get i h1]
    have : fixedL.getD i noFd = f := by simpa [isF] using h3
    rw [this]
theorem fixed_named (f : Fd) : (findFixedE f).2 = -1 ∨ ∃ (n : Nat) (g : Fd), (findFixedE f).2 = (n : Int) ∧ n < 24 ∧ fixedE (n : Int) = (g, 0) ∧ g.n = f.n := by
  rcases firstG_is (namedF f) fixedL 0 with h | ⟨i, h1, h2, h3⟩
  · exact .inl h
  · rw [fixed_len] at h1
    rw [Nat.zero_add] at h2
    exact .inr ⟨i, fixedL.getD i noFd, h2, h1, fixed_get i h1, by simpa [namedF] using h3⟩

/-- WHAT A TELLER HAS TOLD: q0 is the table ahead of the list, q the one behind m fields put in; the lines' fields are l -/
structure Tel (q0 : TQ) (put : Bool) (q : TQ) (m need kept : Nat) (ins lines : List Int) (l : List Fd) : Prop where
  ok : TOk q
  cnt : countN q = countN q0 + m
  bI : Bts ins
  bL : Bts lines
  sI : ins.length ≤ 1100 * m
  sL : lines.length ≤ 1100 * l.length
  need_le : need ≤ countN q
  keptF : q.first ≤ kept
  keptM : kept ≤ 4611686018427387903
  feed : ∀ post, Bts post → feedE q0 (ins ++ post) 0 = feedE q (ins ++ post) ins.length
  line : ∀ (q' : TQ) (need' : Nat) (pre post : List Int) (out : List Fd), Ext kept q q' → need ≤ need' → Bts pre → Bts post → out.length + l.length ≤ 64 →
    linesE q' need' (countN q0 : Int) (pre ++ (lines ++ post)) pre.length out = linesE q' need' (countN q0 : Int) (pre ++ (lines ++ post)) (pre.length + lines.length) (out ++ l)
  plain : put = false → ins = [] ∧ q = q0 ∧ m = 0 ∧ need = 0 ∧ kept = 4611686018427387903
theorem Tel.start {q0 : TQ} (h : TOk q0) (put : Bool) (hc : countN q0 ≤ 1152921504606846976) : Tel q0 put q0 0 0 4611686018427387903 [] [] [] := by
  refine ⟨h, rfl, (fun x hx => by cases hx), (fun x hx => by cases hx), by simp, by simp, Nat.zero_le _, ?_, Nat.le_refl _, fun post _ => rfl, fun q' need' pre post out _ _ _ _ _ => by simp, fun _ => ⟨rfl, rfl, rfl, rfl, rfl⟩⟩
  simp only [countN] at hc; omega
theorem Tel.put_line {q0 : TQ} {put : Bool} {q : TQ} {m need kept need1 kept1 : Nat} {ins lines zs : List Int} {l : List Fd} {f : Fd} (T : Tel q0 put q m need kept ins lines l)
    (hb : Bts zs) (h0 : zs ≠ []) (hz : zs.length ≤ 1100) (hn : need ≤ need1) (hn1 : need1 ≤ countN q) (hk : kept1 ≤ kept) (hkf : q.first ≤ kept1) (hp : put = false → need1 = 0 ∧ kept1 = kept)
    (hl : ∀ (q' : TQ) (need' : Nat) (pre post : List Int), Ext kept1 q q' → need1 ≤ need' → lineE q' need' (countN q0 : Int) (pre ++ (zs ++ post)) pre.length = (f, pre.length + zs.length, 0)) :
    Tel q0 put q m need1 kept1 ins (lines ++ zs) (l ++ [f]) := by
  refine ⟨T.ok, T.cnt, T.bI, T.bL.append hb, T.sI, ?_, hn1, hkf, Nat.le_trans hk T.keptM, T.feed, ?_, ?_⟩
  · have := T.sL
    simp only [List.length_append, List.length_singleton]; omega
  · intro q' need' pre post out hE hN hpre hpost hlen
    simp only [List.length_append, List.length_singleton] at hlen
    have h1 := T.line q' need' pre (zs ++ post) out (hE.less hk) (Nat.le_trans hn hN) hpre (hb.append hpost) (by omega)
    rw [List.append_assoc lines, h1]
    have h2 := hl q' need' (pre ++ lines) post hE hN
    rw [List.append_assoc pre] at h2
    have hzp : 0 < zs.length := by
      cases zs with
      | nil => exact absurd rfl h0
      | cons a b => simp
    have hlt : pre.length + lines.length < (pre ++ (lines ++ (zs ++ post))).length := by simp only [List.length_append]; omega
    have hbt : Bts (pre ++ (lines ++ (zs ++ post))) := hpre.append (T.bL.append (hb.append hpost))
    have h3 := lines_step (q := q') (need := need') (base := (countN q0 : Int)) hbt (a := (pre ++ lines).length) (out := out ++ l) (by rw [List.length_append]; exact hlt) (by simp only [List.length_append]; omega) (by rw [h2])
    rw [h2] at h3
    simp only [List.length_append] at h3 ⊢
    rw [h3, List.append_assoc out]
    rw [Nat.add_assoc]
  · intro hf
    obtain ⟨a1, a2, a3, _, _⟩ := T.plain hf
    obtain ⟨b1, b2⟩ := hp hf
    exact ⟨a1, a2, a3, b1, b2.trans (T.plain hf).2.2.2.2⟩
theorem Tel.put_ins {q0 : TQ} {q : TQ} {m need kept : Nat} {ins lines zs : List Int} {l : List Fd} {f : Fd} (T : Tel q0 true q m need kept ins lines l)
    (hb : Bts zs) (hz : zs.length ≤ 1100) (hfn : f.n.size ≤ 64) (hfv : f.v.size ≤ 512) (hr : RoomOk q kept (roomF f))
    (hi : ∀ pre post : List Int, insE q (pre ++ (zs ++ post)) pre.length = ((insertE q f).1, pre.length + zs.length, (insertE q f).2.2)) :
    Tel q0 true (insertE q f).1 (m + 1) need kept (ins ++ zs) lines l := by
  have hc := insert_fits_count hfn hfv hr.1
  have hy : (insertE q f).2.2 = 0 := by rw [insert_fit hfn hfv hr.1]
  have hE := insert_ext hfn hfv hr
  refine ⟨insert_ok T.ok f, by rw [hc, T.cnt]; omega, T.bI.append hb, T.bL, ?_, T.sL, by have := T.need_le; omega, insert_first hfn hfv hr, T.keptM, ?_, ?_, fun h => by cases h⟩
  · have := T.sI
    simp only [List.length_append]; omega
  · intro post hpost
    rw [List.append_assoc]
    rw [T.feed (zs ++ post) (hb.append hpost)]
    have h1 := hi ins post
    have hbt : Bts (ins ++ (zs ++ post)) := T.bI.append (hb.append hpost)
    have h2 := feed_step (q := q) hbt (a := ins.length) (by rw [h1]; exact hy)
    rw [h2, h1, List.length_append]
  · intro q' need' pre post out hE' hN hpre hpost hlen
    exact T.line q' need' pre post out (hE.trans hE' (by omega)) hN hpre hpost hlen
/-- WHAT A SECTION SAYS -/
def secN (q0 : TQ) (need : Nat) (lines : List Int) : List Int :=
  encP 0 8 need ++ ((if need ≤ countN q0 then encP 0 7 ((countN q0 : Int) - need) else encP 128 7 ((need : Int) - countN q0 - 1)) ++ lines)
theorem Tel.dec {q0 : TQ} {put : Bool} {q : TQ} {m need kept : Nat} {ins lines : List Int} {l : List Fd} (T : Tel q0 put q m need kept ins lines l) (hl : l.length ≤ 64) (hc : countN q ≤ 1152921504606846976) (q' : TQ) (hE : Ext kept q q') (hn : need ≤ countN q') :
    decE q' (secN q0 need lines) = (l, 0, 0) := by
  have hnl := T.need_le
  have hcc := T.cnt
  have hok8 : OkP 0 8 (need : Int) := ⟨by decide, by decide, by omega, by omega⟩
  unfold decE secN
  have h1 := num_enc [] ((if need ≤ countN q0 then encP 0 7 ((countN q0 : Int) - need) else encP 128 7 ((need : Int) - countN q0 - 1)) ++ lines) 0 8 need hok8
  rw [List.nil_append] at h1
  simp only [List.length_nil, Nat.zero_add] at h1
  rw [h1]
  simp only [ne_eq, not_true, if_false, Int.toNat_natCast]
  rw [if_neg (by omega)]
  by_cases hb : need ≤ countN q0
  · simp only [if_pos hb]
    have hok7 : OkP 0 7 ((countN q0 : Int) - need) := ⟨by decide, by decide, by omega, by omega⟩
    have h2 := num_enc (encP 0 8 need) lines 0 7 _ hok7
    rw [encP_len] at h2
    rw [h2]
    simp only [not_true, if_false]
    have hbase : (need : Int) + (((countN q0 : Int) - need).toNat : Int) = (countN q0 : Int) := by omega
    rw [hbase, if_neg (by omega)]
    have h3 := T.line q' need (encP 0 8 need ++ encP 0 7 ((countN q0 : Int) - need)) [] [] hE (Nat.le_refl _) ((encP_bts hok8).append (encP_bts hok7)) (fun x hx => by cases hx) (by simpa using hl)
    rw [List.append_nil, List.append_assoc, List.length_append, encP_len, encP_len] at h3
    rw [h3, lines_end (by simp only [List.length_append, encP_len]; omega), List.nil_append]
  · simp only [if_neg hb]
    have hok7 : OkP 128 7 ((need : Int) - countN q0 - 1) := ⟨by decide, by decide, by omega, by omega⟩
    have h2 := num_enc (encP 0 8 need) lines 128 7 _ hok7
    rw [encP_len] at h2
    rw [h2]
    simp only [not_true, if_false]
    rw [if_pos (show ¬ (128 : Int) = 0 by decide)]
    have hbase : (need : Int) - (((need : Int) - countN q0 - 1).toNat : Int) - 1 = (countN q0 : Int) := by omega
    rw [hbase, if_neg (by omega)]
    have h3 := T.line q' need (encP 0 8 need ++ encP 128 7 ((need : Int) - countN q0 - 1)) [] [] hE (Nat.le_refl _) ((encP_bts hok8).append (encP_bts hok7)) (fun x hx => by cases hx) (by simpa using hl)
    rw [List.append_nil, List.append_assoc, List.length_append, encP_len, encP_len] at h3
    rw [h3, lines_end (by simp only [List.length_append, encP_len]; omega), List.nil_append]
theorem Tel.fed {q0 : TQ} {put : Bool} {q : TQ} {m need kept : Nat} {ins lines : List Int} {l : List Fd} (T : Tel q0 put q m need kept ins lines l) : feedE q0 ins 0 = (q, 0, 0) := by
  have := T.feed [] (fun x hx => by cases hx)
  rw [List.append_nil] at this
  rw [this, feed_end (Nat.le_refl _)]
end Go.Proofs.YtbkbabaoockigaaGreatDoor

set_option maxRecDepth 100000
set_option linter.unusedSimpArgs false
set_option linter.unusedVariables false
namespace Go.Proofs.YtbkbabaoockigaaGreatDoor
open Go.RowKit

/-- a row of bytes is what another one was, and more -/
structure App (v : Value) (ys : List Int) (w : World) (v' : Value) (w' : World) : Prop where
  row : Own .u8 5 w' 0 v' ys
  keep : Keep v.ownBlock.toList w w'
  own : ∀ j, v'.ownBlock = some j → v.ownBlock = some j ∨ w.heap.size ≤ j
theorem App.trans {v v1 v2 : Value} {ys zs : List Int} {w w1 w2 : World} (h : App v ys w v1 w1) (k : App v1 zs w1 v2 w2) : App v zs w v2 w2 :=
  ⟨k.row, h.keep.trans k.keep (fun i hi => by
    rcases h.own i (by simpa using hi) with h1 | h1
    · exact .inl (by simp [h1])
    · exact .inr h1), fun j hj => by
    rcases k.own j hj with h1 | h1
    · exact h.own j h1
    · exact .inr (Nat.le_trans h.keep.size h1)⟩
theorem App.behind {v v1 : Value} {ys : List Int} {w0 w w1 : World} (hb : Below w0.heap.size w0 w) (h : App v ys w v1 w1) : App v ys w0 v1 w1 :=
  ⟨h.row, (Keep.of_below hb).trans h.keep (fun i hi => .inl hi), fun j hj => (h.own j hj).imp id (Nat.le_trans hb.size)⟩
theorem App.then {v v1 : Value} {ys : List Int} {w w1 w2 : World} (h : App v ys w v1 w1) (hb : Below w1.heap.size w1 w2) : App v ys w v1 w2 := ⟨h.row.below hb, h.keep.then_below hb, h.own⟩
theorem wpList_append_u8 {P : Program} (w : World) {ops : Array Oper} {rest : List Oper} {o : Oper} {a : Act} {Q : Exit → Act → World → Prop} (hgd : o.guard = none) (s x : Operand) (t : TypeId)
    (ho : o.op = .call { callee := .builtin .append, args := #[s, x], argTypes := #[t, t] }) (hE : Elem P 5 .u8 1) (ht : P.underlying t = some (.slice 5))
    (v : Value) (xs : List Int) (hs : a.eval s = v) (hown : Own .u8 5 w 0 v xs) (u : Value) (ys : List Int) (hx : a.eval x = u) (hr : Rd .u8 w u ys) (h0 : ys ≠ [])
    (hby : xs.length + ys.length ≤ 140737488355328)
    (h : ∀ v' w', App v (xs ++ ys) w v' w' → wpList P ops Q rest (a.put o.dst v') w') : wpList P ops Q (o :: rest) a w := by
  obtain ⟨i, hi, hz, hsz, hbs⟩ := hE.info
  refine wpList_plain hgd fun K hK => ?_
  rcases hr with ⟨rfl, _⟩ | ⟨_, b, off, c, rfl, h2, h3, h4, h5⟩
  · exact absurd rfl h0
  · obtain ⟨v', w', hrun, q2, q3, _, q5⟩ := run_append_own_at (P := P) w 0 t o.type 5 i _ 1 1 ht hi hz hsz hbs rfl (by decide) v xs.length _ hown ⟨b, off, none⟩ ys.length c (ys.map (Value.int .u8)) (by simp) (Rd.src h5) (by
        intro u hu
        obtain ⟨z, _, rfl⟩ := List.mem_map.1 hu
        rfl) (by unfold maxLen; omega) (by omega) (Nat.zero_le _)
    unfold Oper.wp execOp
    simp only [ho, resolve, invoke, builtin, Sem.run_bind, Sem.run_pure, Result.andThen_ok, List.map_toArray, List.map_cons, List.map_nil, hs, hx, hrun]
    refine hK _ _ (h v' w' ⟨?_, Keep.of_grown q3 (fun j hj => .inl (by simp [hj])), fun j hj => ?_⟩)
    · show w'.ownsRow 0 5 1 v' (xs ++ ys).length _
      rw [List.length_append, List.map_append]; exact q2
    · rcases q5 with q5 | q5
      · exact .inl (q5 ▸ hj)
      · rw [q5] at hj; cases hj; exact .inr (Nat.le_refl _)
theorem strCells_bytes (s : ByteArray) : Lib.strCells s = (bytesOf s).map (Value.int .u8) := by
  simp [Lib.strCells, bytesOf, List.map_map]
theorem wpList_append_text {P : Program} (w : World) {ops : Array Oper} {rest : List Oper} {o : Oper} {a : Act} {Q : Exit → Act → World → Prop} (hgd : o.guard = none) (sl x : Operand) (t u : TypeId)
    (ho : o.op = .call { callee := .builtin .append, args := #[sl, x], argTypes := #[t, u] }) (hE : Elem P 5 .u8 1) (ht : P.underlying t = some (.slice 5)) (hu : P.underlying u = some .string)
    (v : Value) (xs : List Int) (hs : a.eval sl = v) (hown : Own .u8 5 w 0 v xs) (s : ByteArray) (hx : a.eval x = .string s)
    (hby : xs.length + s.size ≤ 140737488355328)
    (h : ∀ v' w', App v (xs ++ bytesOf s) w v' w' → wpList P ops Q rest (a.put o.dst v') w') : wpList P ops Q (o :: rest) a w := by
  obtain ⟨i, hi, hz, hsz, hbs⟩ := hE.info
  refine wpList_plain hgd fun K hK => ?_
  obtain ⟨v', w', hrun, q2, q3, q4⟩ := Lib.run_append_own_string (P := P) w 0 t u o.type 5 i ht hu hi hz hsz hbs v xs.length _ hown s (by unfold maxLen; omega) hby (Nat.zero_le _)
  have q5 : ∀ j, v'.ownBlock = some j → v.ownBlock = some j ∨ w.heap.size ≤ j := by
    rcases hown.2 with ⟨rfl, hn⟩ | ⟨g, cap, cur, rfl, hbg, hg, hnc, hcm, hcs, htake⟩
    · by_cases hm : s.size = 0
      · rw [q4.2 ⟨rfl, hm⟩]; intro j hj; cases hj
      · have hr := run_append_nil_string (P := P) w t u o.type 5 i (.int .u8 0) ht hu hi hz s (by omega) (by omega) (by rw [hbs]; omega)
        rw [hr] at hrun
        cases hrun
        intro j hj
        simp only [Value.ownBlock, Option.some.injEq] at hj
        exact .inr (by omega)
    · have hcs' : cur.size = cap := by simpa using hcs
      by_cases hroom : xs.length + s.size ≤ cap
      · rw [Lib.run_append_room_string (P := P) w t u o.type 5 i ht hu hi hsz g xs.length cap cur hg s hroom (by omega)] at hrun
        cases hrun
        intro j hj
        exact .inl hj
      · have holds : ∀ j u, (xs.map (Value.int .u8))[j]? = some u → w.cell? ((⟨g, 0, none⟩ : Addr).add j) = some u := World.ownsRow.cells (g := g) hown rfl
        rw [Lib.run_append_grow_string (P := P) w t u o.type 5 i (.int .u8 0) ht hu hi hz ⟨g, 0, none⟩ xs.length cap (xs.map (Value.int .u8)) (by rw [hsz]; simp) holds s (by omega) (by omega) (by rw [hbs]; exact growslice_fits (by omega) (by omega))] at hrun
        cases hrun
        intro j hj
        simp only [Value.ownBlock, Option.some.injEq] at hj
        exact .inr (by omega)
  unfold Oper.wp execOp
  simp only [ho, resolve, invoke, builtin, Sem.run_bind, Sem.run_pure, Result.andThen_ok, List.map_toArray, List.map_cons, List.map_nil, hs, hx, hrun]
  refine hK _ _ (h v' w' ⟨?_, Keep.of_grown q3 (fun j hj => .inl (by simp [hj])), q5⟩)
  show w'.ownsRow 0 5 1 v' (xs ++ bytesOf s).length _
  rw [List.length_append, List.map_append, bytesOf_len, ← strCells_bytes]; exact q2

theorem encP_ne (f k n : Int) : encP f k n ≠ [] := by
  intro h
  have := sizeN_pos k n
  rw [← encP_len f k n, h] at this
  simp at this
set_option maxHeartbeats 3200000 in
theorem number_app (v : Value) (xs : List Int) (f k n : Int) (w : World) (ho : Own .u8 5 w 0 v xs) (hl : xs.length ≤ 4194304) (hok : OkP f k n) :
    Calls Tryz.prog 28 #[v, .int .i64 f, .int .i64 k, .int .i64 n] w fun e w' => ∃ v', e = .returned v' ∧ App v (xs ++ encP f k n) w v' w' := by
  have HP : Hid (Calls Tryz.prog 46 #[.slice none 0 0, .int .i64 f, .int .i64 k, .int .i64 n] w (BytesOf w (encP f k n))) := by
    refine (put_any11 (.slice none 0 0) [] f k n w (Rd.nil _ _) (by simp)).mono fun e w' h => ?_
    exact PutIs.bytes (by unfold putO; rw [if_pos hok]; rfl) h
  have hel := sizeN_le (w := k) hok.2.2.2
  rw [← encP_len f k n] at hel
  have hne := encP_ne f k n
  obtain ⟨va, vc, rfl⟩ := ho.len
  generalize encP f k n = zs at HP hel hne ⊢
  have HO := Lib.hid ho
  have HNE := Lib.hid hne
  have HEL : Hid (zs.length ≤ 10 ∧ xs.length ≤ 4194304) := ⟨hel, hl⟩
  clear ho hok hne hel hl
  go_enter Tryz.func28, Tryz.ntmps28
  go_wp2_with (first
    | (go_at_call 46; refine HP.out.mono ?_; rintro e w1 ⟨u, rfl, ou, bu⟩; have OU := Lib.hid ou; have BU := Lib.hid bu; obtain ⟨ua, uc, rfl⟩ := ou.len; clear ou bu)
    | (at_builtin; (refine wpList_append_u8 _ rfl (.tmp 18) (.tmp 19) 38 rfl elemU8 Tryz.underlying38 (.slice va xs.length vc) xs rfl (HO.out.below BU.out) (.slice ua zs.length uc) zs rfl OU.out.rd HNE.out ?_ ?_; (have := HEL.out; omega); intro v2 w2 ap; have AP := Lib.hid ap; clear ap)))
  go_ret
  exact ⟨_, rfl, App.behind BU.out AP.out⟩

set_option maxHeartbeats 6400000 in
theorem text_app (v : Value) (xs : List Int) (f : Int) (k : Nat) (s : ByteArray) (w : World) (ho : Own .u8 5 w 0 v xs) (hl : xs.length ≤ 2097152) (hk0 : 1 ≤ k) (hk : k < 8) (hs : s.size ≤ 512) (h1 : OkF f k) (h2 : OkF (f + 2 ^ k) k) (hor : bits .or .i64 f (2 ^ k) = f + 2 ^ k) :
    Calls Tryz.prog 86 #[v, .int .i64 f, .int .i64 ((k : Int) + 1), .string s] w fun e w' => ∃ v' zs, e = .returned v' ∧ App v (xs ++ zs) w v' w' ∧ IsText f k s zs := by
  have hsub : IntKind.i64.wrap ((k : Int) + 1 - 1) = (k : Int) := by rw [wraps_i64' _ (by omega) (by omega)]; omega
  have hkw : IsW (k : Int) := ⟨by omega, by omega⟩
  have hfull : fullI (k : Int) + 1 = (2 : Int) ^ k := by rw [full_pow hk0 hk]; simp
  obtain ⟨M, hM⟩ : ∃ M : Int, M = 2 ^ k := ⟨_, rfl⟩
  have HC : Hid (∀ W, Calls Tryz.prog 112 #[.int .i64 ((k : Int) + 1)] W fun e w' => e = .returned (.int .i64 M) ∧ w' = W) := fun W => by rw [hM]; exact isCoded_any k hk W
  rw [← hM] at h2 hor hfull
  obtain ⟨va, vc, rfl⟩ := ho.len
  have HO := Lib.hid ho
  have HX : Hid (xs.length ≤ 2097152 ∧ s.size ≤ 512 ∧ OkF f k ∧ OkF (f + M) k ∧ IsW (k : Int) ∧ fullI (k : Int) + 1 = M) := ⟨hl, hs, h1, h2, hkw, hfull⟩
  clear ho hl h1 h2 hkw hfull hM
  go_enter Tryz.func86, Tryz.ntmps86
  go_wp2_with fail
  refine (fields_any w).mono ?_
  rintro e w1 ⟨fv, rfl, hf, hb⟩
  have F1 := Lib.hid hf
  have B1 := Lib.hid hb
  clear hf hb
  have hcv := Lib.run_convert_string_bytes (P := Tryz.prog) w1 9 38 5 s (u := .string) Tryz.underlying9 Tryz.underlying38 Tryz.underlying5
  go_wp2_with fail
  have S2 := Lib.hid (bytes_rd w1 5 s (by omega))
  have F2 := Lib.hid (F1.out.below (bytes_below w1 5 s))
  have B2 := Lib.hid (B1.out.trans ((bytes_below w1 5 s).mono B1.out.size))
  have BT := Lib.hid (bytesOf_bts s)
  clear hcv F1
  refine (enc_all fv _ fldL (bytesOf s) _ F2.out.rd S2.out BT.out (by rw [bytesOf_len]; omega)).mono ?_
  rintro e w3 ⟨hb3, ⟨ok, a, o, rfl, ha, ht, he, haf⟩ | ⟨no, _⟩⟩
  · have hdec : decN (wdsOf fldL) (unp o) 0 0 = some (bytesOf s) := by
      obtain ⟨m, hm, e1⟩ := fill_back (encN (wdsOf fldL) (bytesOf s))
      rw [he, e1]
      exact dec_enc right_fld.code.words m hm _ (fun x hx => (BT.out x hx).1) ok.2
    have HDEC : Hid (Bts o ∧ decN (wdsOf fldL) (unp o) 0 0 = some (bytesOf s)) := ⟨ht, hdec⟩
    have HA := Lib.hid ha
    have HAF : Hid (∀ j, a.ownBlock = some j → w.heap.size ≤ j) := fun j hj => Nat.le_trans B2.out.size (haf j hj)
    have B3 := Lib.hid (B2.out.trans (hb3.mono B2.out.size))
    obtain ⟨oa, oc, rfl⟩ := ha.isSlice
    clear ok he ht ha haf hb3 hdec S2 F2 B2 B1
    by_cases hlt : o.length < s.size
    · have e1 : decide ((o.length : Int) < (s.size : Int)) = true := decide_eq_true (by omega)
      have e2 : decide (o.length < s.size) = true := decide_eq_true hlt
      have HLT := Lib.hid hlt
      have hon : o ≠ [] := fun h => by
        subst h
        have h1 := HDEC.out.2
        simp only [unp, List.flatMap_nil, decN] at h1
        simp at h1
        have h2 : s.size = 0 := by rw [← bytesOf_len]; first | (rw [h1]; rfl) | (rw [← h1]; rfl)
        simp only [List.length_nil] at hlt
        omega
      obtain ⟨ob, oo, rfl⟩ : ∃ ob oo, oa = some ⟨ob, oo, none⟩ := by
        rcases HA.out with ⟨e, _⟩ | ⟨_, b', o', c', he, _⟩
        · exact absurd e hon
        · simp only [Value.slice.injEq] at he; exact ⟨b', o', he.1⟩
      have hen := sizeN_le (w := (k : Int)) (n := (o.length : Int)) (by omega)
      rw [← encP_len (f + M)] at hen
      obtain ⟨Y, hY⟩ : ∃ Y, Y = xs ++ encP (f + M) k o.length := ⟨_, rfl⟩
      have hYl : Y.length ≤ 2097162 := by rw [hY, List.length_append]; have := HX.out.1; omega
      have HN : Hid (∀ W, Below w.heap.size w W → Calls Tryz.prog 28 #[.slice va xs.length vc, .int .i64 (f + M), .int .i64 (k : Int), .int .i64 (o.length : Int)] W fun e w' => ∃ v', e = .returned v' ∧ App (.slice va xs.length vc) Y W v' w') := fun W hW => by
        rw [hY]
        exact number_app (.slice va xs.length vc) xs (f + M) k (o.length : Int) W (HO.out.below hW) (by have := HX.out.1; omega) ⟨HX.out.2.2.2.2.1, HX.out.2.2.2.1, by omega, by omega⟩
      have HY := Lib.hid hY
      have HYL : Hid (Y.length ≤ 2097162 ∧ o.length ≤ 512) := ⟨hYl, by omega⟩
      have HON := Lib.hid hon
      clear hon hlt hen hY hYl
      go_wp2_with (first
        | (go_at_call 112; refine (HC.out _).mono ?_; rintro e w4 ⟨rfl, h⟩; obtain rfl : w3 = w4 := h.symm)
        | (go_at_call 28; refine (HN.out _ B3.out).mono ?_; rintro e w5 ⟨v5, rfl, ap⟩; have A5 := Lib.hid ap; have HA5 : Hid (Rd .u8 w5 (.slice (some ⟨ob, oo, none⟩) o.length oc) o) := rd_keep HA.out ap.keep (fun _ j hj hm => by have h1 := HAF.out j hj; have h2 := HO.out.blt j (by simpa using hm); omega); obtain ⟨a5, c5, rfl⟩ := ap.row.len; clear ap)
        | (at_builtin; (refine wpList_append_u8 _ rfl (.tmp 33) (.tmp 34) 38 rfl elemU8 Tryz.underlying38 (.slice a5 Y.length c5) Y rfl A5.out.row (.slice (some ⟨ob, oo, none⟩) o.length oc) o rfl HA5.out HON.out ?_ ?_; (have := HYL.out; omega); intro v6 w6 ap; have A6 := Lib.hid ap; clear ap)))
      go_ret
      refine ⟨_, encP (f + M) k o.length ++ o, rfl, ?_, .inl ⟨o, HDEC.out.1, HDEC.out.2, HLT.out, by rw [HX.out.2.2.2.2.2]⟩⟩
      have := App.behind B3.out (A5.out.trans A6.out)
      rw [HY.out, List.append_assoc] at this
      exact this
    · have e1 : decide ((o.length : Int) < (s.size : Int)) = false := decide_eq_false (by omega)
      have e2 : decide (o.length < s.size) = false := decide_eq_false hlt
      have hen := sizeN_le (w := (k : Int)) (n := (s.size : Int)) (by omega)
      rw [← encP_len f] at hen
      obtain ⟨Y, hY⟩ : ∃ Y, Y = xs ++ encP f k s.size := ⟨_, rfl⟩
      have hYl : Y.length ≤ 2097162 := by rw [hY, List.length_append]; have := HX.out.1; omega
      have HN : Hid (∀ W, Below w.heap.size w W → Calls Tryz.prog 28 #[.slice va xs.length vc, .int .i64 f, .int .i64 (k : Int), .int .i64 (s.size : Int)] W fun e w' => ∃ v', e = .returned v' ∧ App (.slice va xs.length vc) Y W v' w') := fun W hW => by
        rw [hY]
        exact number_app (.slice va xs.length vc) xs f k (s.size : Int) W (HO.out.below hW) (by have := HX.out.1; omega) ⟨HX.out.2.2.2.2.1, HX.out.2.2.1, by omega, by omega⟩
      have HY := Lib.hid hY
      have HYL : Hid (Y.length ≤ 2097162 ∧ s.size ≤ 512) := ⟨hYl, hs⟩
      clear hlt hen hY hYl
      go_wp2_with (first
        | (go_at_call 28; refine (HN.out _ B3.out).mono ?_; rintro e w5 ⟨v5, rfl, ap⟩; have A5 := Lib.hid ap; obtain ⟨a5, c5, rfl⟩ := ap.row.len; clear ap)
        | (at_builtin; (refine wpList_append_text _ rfl (.tmp 43) (.tmp 44) 38 9 rfl elemU8 Tryz.underlying38 Tryz.underlying9 (.slice a5 Y.length c5) Y rfl A5.out.row s rfl ?_ ?_; (have := HYL.out; omega); intro v6 w6 ap; have A6 := Lib.hid ap; clear ap)))
      go_ret
      refine ⟨_, encP f k s.size ++ bytesOf s, rfl, ?_, .inr rfl⟩
      have := App.behind B3.out (A5.out.trans A6.out)
      rw [HY.out, List.append_assoc] at this
      exact this
  · exact absurd ⟨right_fld, has_fld _ BT.out⟩ no
end Go.Proofs.YtbkbabaoockigaaGreatDoor

set_option maxRecDepth 100000
set_option linter.unusedSimpArgs false
set_option linter.unusedVariables false
namespace Go.Proofs.YtbkbabaoockigaaGreatDoor
open Go.RowKit

/-- block t holds a teller -/
structure Tw (t b : Nat) (sl : Value) (put : Bool) (base need kept : Nat) (vi vl : Value) (ins lines : List Int) (q : TQ) (w : World) : Prop where
  cells : Cs w t [.pointer (some ⟨b, 0, none⟩), .bool put, .int .i64 (base : Int), .int .i64 (need : Int), .int .i64 (kept : Int), vi, vl]
  tbl : Tbl b sl q w
  ri : Own .u8 5 w 0 vi ins
  rl : Own .u8 5 w 0 vl lines
  tb : t ≠ b
  ts : ∀ j, sl.ownBlock = some j → j ≠ t
  ti : ∀ j, vi.ownBlock = some j → j ≠ t ∧ j ≠ b ∧ sl.ownBlock ≠ some j ∧ vl.ownBlock ≠ some j
  tl : ∀ j, vl.ownBlock = some j → j ≠ t ∧ j ≠ b ∧ sl.ownBlock ≠ some j
/-- its blocks -/
def blks (t b : Nat) (sl vi vl : Value) : List Nat := t :: b :: (sl.ownBlock.toList ++ (vi.ownBlock.toList ++ vl.ownBlock.toList))
theorem mem_blks {t b : Nat} {sl vi vl : Value} {i : Nat} : i ∈ blks t b sl vi vl ↔ i = t ∨ i = b ∨ sl.ownBlock = some i ∨ vi.ownBlock = some i ∨ vl.ownBlock = some i := by
  unfold blks
  cases sl.ownBlock <;> cases vi.ownBlock <;> cases vl.ownBlock <;> simp [eq_comm]
/-- what a teller's call turns -/
structure TStep (t b : Nat) (sl vi vl sl' vi' vl' : Value) (w w' : World) : Prop where
  keep : Keep (blks t b sl vi vl) w w'
  os : ∀ j, sl'.ownBlock = some j → sl.ownBlock = some j ∨ w.heap.size ≤ j
  oi : ∀ j, vi'.ownBlock = some j → vi.ownBlock = some j ∨ w.heap.size ≤ j
  ol : ∀ j, vl'.ownBlock = some j → vl.ownBlock = some j ∨ w.heap.size ≤ j
theorem TStep.trans {t b : Nat} {sl vi vl sl' vi' vl' sl2 vi2 vl2 : Value} {w w1 w2 : World} (h : TStep t b sl vi vl sl' vi' vl' w w1) (k : TStep t b sl' vi' vl' sl2 vi2 vl2 w1 w2) : TStep t b sl vi vl sl2 vi2 vl2 w w2 := by
  have up : ∀ {j : Nat}, w1.heap.size ≤ j → w.heap.size ≤ j := fun hj => Nat.le_trans h.keep.size hj
  refine ⟨h.keep.trans k.keep (fun i hi => ?_), fun j hj => ?_, fun j hj => ?_, fun j hj => ?_⟩
  · rcases mem_blks.1 hi with e | e | e | e | e
    · exact .inl (mem_blks.2 (.inl e))
    · exact .inl (mem_blks.2 (.inr (.inl e)))
    · exact (h.os i e).imp (fun x => mem_blks.2 (.inr (.inr (.inl x)))) id
    · exact (h.oi i e).imp (fun x => mem_blks.2 (.inr (.inr (.inr (.inl x))))) id
    · exact (h.ol i e).imp (fun x => mem_blks.2 (.inr (.inr (.inr (.inr x))))) id
  · rcases k.os j hj with e | e
    · exact h.os j e
    · exact .inr (up e)
  · rcases k.oi j hj with e | e
    · exact h.oi j e
    · exact .inr (up e)
  · rcases k.ol j hj with e | e
    · exact h.ol j e
    · exact .inr (up e)
theorem TStep.same {t b : Nat} {sl vi vl : Value} {w w' : World} (hb : Below w.heap.size w w') : TStep t b sl vi vl sl vi vl w w' := ⟨Keep.of_below hb, fun j hj => .inl hj, fun j hj => .inl hj, fun j hj => .inl hj⟩
section
variable {t b : Nat} {sl : Value} {put : Bool} {base need kept : Nat} {vi vl : Value} {ins lines : List Int} {q : TQ} {w : World}
theorem Tw.below {w' : World} (h : Tw t b sl put base need kept vi vl ins lines q w) (hb : Below w.heap.size w w') : Tw t b sl put base need kept vi vl ins lines q w' :=
  ⟨h.cells.below hb, h.tbl.below hb, h.ri.below hb, h.rl.below hb, h.tb, h.ts, h.ti, h.tl⟩
theorem Tw.drewN (h : Tw t b sl put base need kept vi vl ins lines q w) (n : Nat) : Tw t b sl put base need kept vi vl ins lines q (w.drewN n) := h.below (below_drewN (Below.refl _ _) n)
theorem Tw.lt (h : Tw t b sl put base need kept vi vl ins lines q w) : t < w.heap.size := h.cells.lt
theorem Tw.facts (h : Tw t b sl put base need kept vi vl ins lines q w) :
    w.cell? ⟨t, 0, none⟩ = some (.pointer (some ⟨b, 0, none⟩)) ∧ w.cell? ⟨t, 1, none⟩ = some (.bool put) ∧ w.cell? ⟨t, 2, none⟩ = some (.int .i64 (base : Int)) ∧ w.cell? ⟨t, 3, none⟩ = some (.int .i64 (need : Int)) ∧ w.cell? ⟨t, 4, none⟩ = some (.int .i64 (kept : Int)) ∧ w.cell? ⟨t, 5, none⟩ = some vi ∧ w.cell? ⟨t, 6, none⟩ = some vl :=
  ⟨h.cells.get 0 _ rfl, h.cells.get 1 _ rfl, h.cells.get 2 _ rfl, h.cells.get 3 _ rfl, h.cells.get 4 _ rfl, h.cells.get 5 _ rfl, h.cells.get 6 _ rfl⟩
theorem Tw.free (h : Tw t b sl put base need kept vi vl ins lines q w) (j : Nat) : w.frozen? ⟨t, j, none⟩ = false := h.cells.free j
/-- the lines are put anew -/
theorem Tw.setL {v' : Value} {ys : List Int} {w1 : World} (h : Tw t b sl put base need kept vi vl ins lines q w) (ap : App vl ys w v' w1) :
    Tw t b sl put base need kept vi v' ins ys q (w1.setCell ⟨t, 6, none⟩ v') ∧ TStep t b sl vi vl sl vi v' w (w1.setCell ⟨t, 6, none⟩ v') := by
  have hm : ∀ i, i ∈ vl.ownBlock.toList ↔ vl.ownBlock = some i := fun i => by cases vl.ownBlock <;> simp [eq_comm]
  have htv : t ∉ vl.ownBlock.toList := fun hi => (h.tl t ((hm t).1 hi)).1 rfl
  have hbv : b ∉ vl.ownBlock.toList := fun hi => (h.tl b ((hm b).1 hi)).2.1 rfl
  have hsv : ∀ j, sl.ownBlock = some j → j ∉ vl.ownBlock.toList := fun j hj hi => (h.tl j ((hm j).1 hi)).2.2 hj
  have hiv : ∀ j, vi.ownBlock = some j → j ∉ vl.ownBlock.toList := fun j hj hi => (h.ti j hj).2.2.2 ((hm j).1 hi)
  have hnt : ∀ j, v'.ownBlock = some j → j ≠ t ∧ j ≠ b ∧ sl.ownBlock ≠ some j := fun j hj => by
    rcases ap.own j hj with e | e
    · exact h.tl j e
    · have a1 := h.lt
      have a2 := h.tbl.lt
      exact ⟨by omega, by omega, fun e1 => by have := h.tbl.slt j e1; omega⟩
  have ks : Keep [t] w1 (w1.setCell ⟨t, 6, none⟩ v') := keep_set _ _ _ _
  refine ⟨⟨(h.cells.keep ap.keep htv).set 6 v', (h.tbl.keep ap.keep hbv hsv).keep ks (by simpa using fun e => h.tb e.symm) (fun j hj => by simpa using h.ts j hj), (show Own .u8 5 w1 0 vi ins from owns_keep h.ri ap.keep hiv).other t 6 v' (fun j hj => (h.ti j hj).1), ap.row.other t 6 v' (fun j hj => (hnt j hj).1), h.tb, h.ts, fun j hj => ⟨(h.ti j hj).1, (h.ti j hj).2.1, (h.ti j hj).2.2.1, fun e => ?_⟩, hnt⟩, ?_⟩
  · rcases ap.own j e with e1 | e1
    · exact (h.ti j hj).2.2.2 e1
    · have := h.ri.blt j hj; omega
  · refine ⟨(ap.keep.more (S' := blks t b sl vi vl) (fun i hi => mem_blks.2 (.inr (.inr (.inr (.inr ((hm i).1 hi))))))).trans ks (fun i hi => .inl (mem_blks.2 (.inl (by simpa using hi)))), fun j hj => .inl hj, fun j hj => .inl hj, ap.own⟩
/-- the instructions are put anew -/
theorem Tw.setI {v' : Value} {ys : List Int} {w1 : World} (h : Tw t b sl put base need kept vi vl ins lines q w) (ap : App vi ys w v' w1) :
    Tw t b sl put base need kept v' vl ys lines q (w1.setCell ⟨t, 5, none⟩ v') ∧ TStep t b sl vi vl sl v' vl w (w1.setCell ⟨t, 5, none⟩ v') := by
  have hm : ∀ i, i ∈ vi.ownBlock.toList ↔ vi.ownBlock = some i := fun i => by cases vi.ownBlock <;> simp [eq_comm]
  have htv : t ∉ vi.ownBlock.toList := fun hi => (h.ti t ((hm t).1 hi)).1 rfl
  have hbv : b ∉ vi.ownBlock.toList := fun hi => (h.ti b ((hm b).1 hi)).2.1 rfl
  have hsv : ∀ j, sl.ownBlock = some j → j ∉ vi.ownBlock.toList := fun j hj hi => (h.ti j ((hm j).1 hi)).2.2.1 hj
  have hlv : ∀ j, vl.ownBlock = some j → j ∉ vi.ownBlock.toList := fun j hj hi => (h.ti j ((hm j).1 hi)).2.2.2 hj
  have hnt : ∀ j, v'.ownBlock = some j → j ≠ t ∧ j ≠ b ∧ sl.ownBlock ≠ some j ∧ vl.ownBlock ≠ some j := fun j hj => by
    rcases ap.own j hj with e | e
    · exact h.ti j e
    · have a1 := h.lt
      have a2 := h.tbl.lt
      exact ⟨by omega, by omega, fun e1 => by have := h.tbl.slt j e1; omega, fun e1 => by have := h.rl.blt j e1; omega⟩
  have ks : Keep [t] w1 (w1.setCell ⟨t, 5, none⟩ v') := keep_set _ _ _ _
  refine ⟨⟨(h.cells.keep ap.keep htv).set 5 v', (h.tbl.keep ap.keep hbv hsv).keep ks (by simpa using fun e => h.tb e.symm) (fun j hj => by simpa using h.ts j hj), ap.row.other t 5 v' (fun j hj => (hnt j hj).1), (show Own .u8 5 w1 0 vl lines from owns_keep h.rl ap.keep hlv).other t 5 v' (fun j hj => (h.tl j hj).1), h.tb, h.ts, hnt, h.tl⟩, ?_⟩
  refine ⟨(ap.keep.more (S' := blks t b sl vi vl) (fun i hi => mem_blks.2 (.inr (.inr (.inr (.inl ((hm i).1 hi))))))).trans ks (fun i hi => .inl (mem_blks.2 (.inl (by simpa using hi)))), fun j hj => .inl hj, ap.own, fun j hj => .inl hj⟩
/-- need and kept are put anew -/
theorem Tw.setNK (need' kept' : Nat) (h : Tw t b sl put base need kept vi vl ins lines q w) :
    Tw t b sl put base need' kept' vi vl ins lines q ((w.setCell ⟨t, 3, none⟩ (.int .i64 (need' : Int))).setCell ⟨t, 4, none⟩ (.int .i64 (kept' : Int))) ∧ TStep t b sl vi vl sl vi vl w ((w.setCell ⟨t, 3, none⟩ (.int .i64 (need' : Int))).setCell ⟨t, 4, none⟩ (.int .i64 (kept' : Int))) := by
  have ks : Keep [t] w ((w.setCell ⟨t, 3, none⟩ (.int .i64 (need' : Int))).setCell ⟨t, 4, none⟩ (.int .i64 (kept' : Int))) := (keep_set _ _ _ _).trans (keep_set _ _ _ _) (by simp)
  exact ⟨⟨(h.cells.set 3 _).set 4 _, h.tbl.keep ks (by simpa using fun e => h.tb e.symm) (fun j hj => by simpa using h.ts j hj), (h.ri.other t 3 _ (fun j hj => (h.ti j hj).1)).other t 4 _ (fun j hj => (h.ti j hj).1), (h.rl.other t 3 _ (fun j hj => (h.tl j hj).1)).other t 4 _ (fun j hj => (h.tl j hj).1), h.tb, h.ts, h.ti, h.tl⟩,
    ⟨ks.more (fun i hi => mem_blks.2 (.inl (by simpa using hi))), fun j hj => .inl hj, fun j hj => .inl hj, fun j hj => .inl hj⟩⟩
/-- the table is put anew -/
theorem Tw.setT {q' : TQ} {w' : World} (h : Tw t b sl put base need kept vi vl ins lines q w) (hd : Did b sl q' w w') :
    ∃ sl', Tw t b sl' put base need kept vi vl ins lines q' w' ∧ TStep t b sl vi vl sl' vi vl w w' := by
  obtain ⟨sl', h1, h2, h3⟩ := hd
  have nt : ∀ i, i ∈ TS b sl → i = b ∨ sl.ownBlock = some i := fun i hi => mem_TS.1 hi
  have htT : t ∉ TS b sl := fun hi => (nt t hi).elim (fun e => h.tb e) (fun e => h.ts t e rfl)
  have hiT : ∀ j, vi.ownBlock = some j → j ∉ TS b sl := fun j hj hi => (nt j hi).elim (fun e => (h.ti j hj).2.1 e) (fun e => (h.ti j hj).2.2.1 e)
  have hlT : ∀ j, vl.ownBlock = some j → j ∉ TS b sl := fun j hj hi => (nt j hi).elim (fun e => (h.tl j hj).2.1 e) (fun e => (h.tl j hj).2.2 e)
  have fresh : ∀ j, sl'.ownBlock = some j → ∀ i, i < w.heap.size → (sl.ownBlock = some i → False) → j ≠ i := fun j hj i hi hn e => by
    rcases h2 j hj with e1 | e1
    · exact hn (e ▸ e1)
    · omega
  refine ⟨sl', ⟨h.cells.keep h3 htT, h1, owns_keep h.ri h3 hiT, owns_keep h.rl h3 hlT, h.tb, fun j hj => fresh j hj t h.lt (fun e => h.ts t e rfl), fun j hj => ⟨(h.ti j hj).1, (h.ti j hj).2.1, fun e => fresh j e j (h.ri.blt j hj) (h.ti j hj).2.2.1 rfl, (h.ti j hj).2.2.2⟩, fun j hj => ⟨(h.tl j hj).1, (h.tl j hj).2.1, fun e => fresh j e j (h.rl.blt j hj) (h.tl j hj).2.2 rfl⟩⟩,
    ⟨h3.more (fun i hi => (nt i hi).elim (fun e => mem_blks.2 (.inr (.inl e))) (fun e => mem_blks.2 (.inr (.inr (.inl e))))), h2, fun j hj => .inl hj, fun j hj => .inl hj⟩⟩
end
/-- what a teller's call leaves, in all -/
def TDid (t b : Nat) (put : Bool) (base : Nat) (sl vi vl : Value) (w : World) (need kept : Nat) (ins lines : List Int) (q : TQ) (w' : World) : Prop :=
  ∃ sl' vi' vl', Tw t b sl' put base need kept vi' vl' ins lines q w' ∧ TStep t b sl vi vl sl' vi' vl' w w'
theorem TDid.then {t b : Nat} {put : Bool} {base : Nat} {sl vi vl : Value} {w w' w'' : World} {need kept : Nat} {ins lines : List Int} {q : TQ} (h : TDid t b put base sl vi vl w need kept ins lines q w') (hb : Below w'.heap.size w' w'') : TDid t b put base sl vi vl w need kept ins lines q w'' := by
  obtain ⟨sl', vi', vl', h1, h2⟩ := h
  exact ⟨sl', vi', vl', h1.below hb, h2.trans (TStep.same hb)⟩
theorem TDid.after {t b : Nat} {put : Bool} {base : Nat} {sl vi vl sl1 vi1 vl1 : Value} {w w' w'' : World} {need kept : Nat} {ins lines : List Int} {q : TQ} (h : TStep t b sl vi vl sl1 vi1 vl1 w w') (k : TDid t b put base sl1 vi1 vl1 w' need kept ins lines q w'') : TDid t b put base sl vi vl w need kept ins lines q w'' := by
  obtain ⟨sl', vi', vl', h1, h2⟩ := k
  exact ⟨sl', vi', vl', h1, h.trans h2⟩
end Go.Proofs.YtbkbabaoockigaaGreatDoor

set_option maxRecDepth 100000
set_option linter.unusedSimpArgs false
set_option linter.unusedVariables false
namespace Go.Proofs.YtbkbabaoockigaaGreatDoor
open Go.RowKit

theorem room_szF {f : Fd} (h : roomF f ≤ 8192) : SzF f := by
  unfold roomF at h
  exact ⟨by omega, by omega⟩
section
variable {t b : Nat} {sl : Value} {put : Bool} {base need kept : Nat} {vi vl : Value} {ins lines : List Int} {q : TQ}
set_option maxHeartbeats 3200000 in
theorem keep_any (n : Nat) (w : World) (h : Tw t b sl put base need kept vi vl ins lines q w) (hn : n ≤ 1152921504606846976) (need1 kept1 : Nat) (h1 : need1 = max need (n + 1)) (h2 : kept1 = min kept n) :
    Calls Tryz.prog 84 #[.pointer (some ⟨t, 0, none⟩), .int .i64 (n : Int)] w fun e w' => e = .returned (.tuple #[]) ∧ TDid t b put base sl vi vl w need1 kept1 ins lines q w' := by
  obtain ⟨c0, c1, c2, c3, c4, c5, c6⟩ := h.facts
  have z3 := h.free 3
  have z4 := h.free 4
  have hw : IntKind.i64.wrap ((n : Int) + 1) = (n : Int) + 1 := wraps_i64' _ (by omega) (by omega)
  have m1 : max (need : Int) ((n : Int) + 1) = (need1 : Int) := by omega
  have m2 : min (kept : Int) (n : Int) = (kept1 : Int) := by omega
  obtain ⟨a1, a2⟩ := h.setNK need1 kept1
  have HW := Lib.hid a1
  have HT := Lib.hid a2
  have hlt := h.lt
  clear h h1 h2 a1 a2
  go_enter Tryz.func84, Tryz.ntmps84
  go_wp2_with fail
  go_end0
  exact ⟨rfl, _, _, _, HW.out, HT.out⟩
set_option maxHeartbeats 3200000 in
theorem named_any (f : Fd) (w : World) (h : Tw t b sl put base need kept vi vl ins lines q w) (hc : countN q ≤ 1152921504606846976) :
    Calls Tryz.prog 85 #[.pointer (some ⟨t, 0, none⟩), .agg #[.string f.n, .string f.v]] w fun e w' => e = .returned (.int .i64 (if put then (findE q f).2 else -1)) ∧ Below w.heap.size w w' := by
  obtain ⟨fn, fv⟩ := f
  have htl := h.lt
  obtain ⟨w1, hw1⟩ : ∃ W, W = w.alloc (.cells #[.string fn, .string fv] 74) := ⟨_, rfl⟩
  have hb1 : Below w.heap.size w w1 := by rw [hw1]; exact below1 w _
  have hr := Cs.made w #[.string fn, .string fv] 74
  rw [← hw1] at hr
  have h1 := h.below hb1
  have B1 := Lib.hid hb1
  obtain ⟨c0, c1, _⟩ := h1.facts
  have B0 : Hid (Below w1.heap.size w1 w1.drew) := (Below.refl _ _ : Below w1.heap.size w1 w1).drew
  have HFD : Hid (∀ V, Below w1.heap.size w1 V → Calls Tryz.prog 81 #[.pointer (some ⟨b, 0, none⟩), .agg #[.string fn, .string fv]] V fun e w' => e = .returned (.tuple #[.int .i64 (findE q ⟨fn, fv⟩).1, .int .i64 (findE q ⟨fn, fv⟩).2]) ∧ Below V.heap.size V w') := fun V hV => find_any ⟨fn, fv⟩ V (h1.below hV).tbl (by omega)
  have HS : Hid (∀ V, Below w1.heap.size w1 V → (V.cell? ⟨w.heap.size, 0, none⟩ = some (.string fn) ∧ V.cell? ⟨w.heap.size, 1, none⟩ = some (.string fv) ∧ V.cell? ⟨t, 0, none⟩ = some (.pointer (some ⟨b, 0, none⟩)))) := fun V hV => ⟨(hr.below hV).get 0 _ rfl, (hr.below hV).get 1 _ rfl, (h1.below hV).facts.1⟩
  obtain ⟨⟨r1, r2⟩, hi⟩ : ∃ r, findE q ⟨fn, fv⟩ = r := ⟨_, rfl⟩
  rw [hi] at HFD ⊢
  simp only at HFD ⊢
  have K0 := HS.out _ B0.out
  have HW1 := Lib.hid hw1
  clear h h1 hb1 hr hi hw1
  cases put with
  | false =>
    go_enter Tryz.func85, Tryz.ntmps85
    go_upto_region 1 with fail
    rw [← HW1.out]
    go_wp2_with fail
    go_ret
    exact ⟨rfl, B1.out⟩
  | true =>
    go_enter Tryz.func85, Tryz.ntmps85
    go_upto_region 1 with fail
    rw [← HW1.out]
    go_upto_region 3 with fail
    go_region_held3 (fun V => V.cell? ⟨w.heap.size, 0, none⟩ = some (.string fn) ∧ V.cell? ⟨w.heap.size, 1, none⟩ = some (.string fv) ∧ V.cell? ⟨t, 0, none⟩ = some (.pointer (some ⟨b, 0, none⟩)))
      (first
        | (exact K0)
        | (exact HS.out _ B2.out))
      (first
        | (go_at_call 81; refine (HFD.out _ B0.out).mono ?_; rintro e w2 ⟨rfl, hb⟩; have B2 := Lib.hid (B0.out.trans (hb.mono B0.out.size)); clear hb))
    go_wp2_with fail
    go_ret
    exact ⟨rfl, B1.out.trans (B2.out.mono B1.out.size)⟩

set_option maxHeartbeats 6400000 in
theorem hasRoom_any (room : Nat) (w : World) (h : Tw t b sl put base need kept vi vl ins lines q w) (ho : TOk q) (hc : countN q ≤ 1152921504606846976) (hk : q.first ≤ kept) (hrm : room ≤ 4096) :
    Calls Tryz.prog 82 #[.pointer (some ⟨t, 0, none⟩), .int .i64 (room : Int)] w fun e w' => ∃ r : Bool, e = .returned (.bool r) ∧ Below w.heap.size w w' ∧ (r = true → RoomOk q kept room) := by
  have hz := zeroFv
  have hmost := ho.most
  have hcap := ho.cap
  have hused := ho.used
  have HT : Hid (∀ V, Below w.heap.size w V → Tw t b sl put base need kept vi vl ins lines q V) := fun V hV => h.below hV
  have HC : Hid (∀ V, Below w.heap.size w V → Calls Tryz.prog 106 #[.pointer (some ⟨b, 0, none⟩)] V fun e w' => e = .returned (.int .i64 (q.cap : Int)) ∧ w' = V) := fun V hV => cap_any V (h.below hV).tbl
  have HU : Hid (∀ V, Below w.heap.size w V → Calls Tryz.prog 107 #[.pointer (some ⟨b, 0, none⟩)] V fun e w' => e = .returned (.int .i64 (rooms q.l : Int)) ∧ w' = V) := fun V hV => used_any V (h.below hV).tbl
  have HFI : Hid (∀ V, Below w.heap.size w V → Calls Tryz.prog 108 #[.pointer (some ⟨b, 0, none⟩)] V fun e w' => e = .returned (.int .i64 (q.first : Int)) ∧ w' = V) := fun V hV => first_any V (h.below hV).tbl
  have HS : Hid (∀ V, Below w.heap.size w V → V.cell? ⟨t, 0, none⟩ = some (.pointer (some ⟨b, 0, none⟩))) := fun V hV => (h.below hV).facts.1
  have c0 := h.facts.1
  have B0 : Hid (Below w.heap.size w w.drew) := (Below.refl _ _ : Below w.heap.size w w).drew
  have K0 := HS.out _ B0.out
  have hwf : IntKind.i64.wrap ((q.cap : Int) - (rooms q.l : Int)) = ((q.cap - rooms q.l : Nat) : Int) := by rw [wraps_i64' _ (by omega) (by omega)]; omega
  have HQ : Hid (TOk q ∧ countN q ≤ 1152921504606846976 ∧ q.first ≤ kept ∧ room ≤ 4096) := ⟨ho, hc, hk, hrm⟩
  obtain ⟨F, hF⟩ : ∃ F, F = q.cap - rooms q.l := ⟨_, rfl⟩
  rw [← hF] at hwf
  have HF := Lib.hid hF
  clear h ho hc hk hF
  go_enter Tryz.func82, Tryz.ntmps82
  go_upto_region 1 with fail
  go_region_held3 (fun V => V.cell? ⟨t, 0, none⟩ = some (.pointer (some ⟨b, 0, none⟩)))
    (first
      | (exact K0)
      | (exact HS.out _ B1.out)
      | (exact HS.out _ B2.out))
    (first
      | (go_at_call 106; refine (HC.out _ B0.out).mono ?_; rintro e w1 ⟨rfl, h⟩; have B1 : Hid (Below w.heap.size w w1) := (by rw [h]; exact B0.out : Below _ _ _); clear h)
      | (go_at_call 107; refine (HU.out _ B1.out).mono ?_; rintro e w2 ⟨rfl, h⟩; have B2 : Hid (Below w.heap.size w w2) := (by rw [h]; exact B1.out : Below _ _ _); clear h))
  have hcq := HQ.out.2.1
  have HG : Hid (∀ V n, Below w.heap.size w V → Calls Tryz.prog 109 #[.pointer (some ⟨b, 0, none⟩), .int .i64 n] V fun e w' => e = .returned (.tuple #[.agg #[.string (getE q n).1.n, .string (getE q n).1.v], .int .i64 (getE q n).2]) ∧ Below V.heap.size V w') := fun V n hV => get_any13 n V (HT.out V hV).tbl (by omega)
  have HK4 : Hid (∀ V, Below w.heap.size w V → V.cell? ⟨t, 4, none⟩ = some (.int .i64 (kept : Int))) := fun V hV => (HT.out V hV).facts.2.2.2.2.1
  clear K0 hcq c0
  have cb2 := HS.out _ B2.out
  go_wp2_with (go_at_call 108; refine (HFI.out _ B2.out).mono ?_; rintro e w3 ⟨rfl, h⟩; have B3 : Hid (Below w.heap.size w w3) := (by rw [h]; exact B2.out : Below _ _ _); clear h cb2)
  go_loopw [5, 6] (fun fr n wr => ∃ k : Nat, fr = .int .i64 ((F + rooms (q.l.take k) : Nat) : Int) ∧ n = .int .i64 ((q.first + k : Nat) : Int) ∧ k ≤ q.l.length ∧ q.first + k ≤ kept ∧ Below w.heap.size w wr) (fun _ n _ => q.first + q.l.length + 1 - (intOf n).toNat)
  case atStart => exact ⟨0, by simp [rooms], by simp, Nat.zero_le _, HQ.out.2.2.1, B3.out⟩
  case round =>
    obtain ⟨k, rfl, rfl, hk, hkk, hbr⟩ := hrel
    have BR := Lib.hid hbr
    have HKK : Hid (k ≤ q.l.length ∧ q.first + k ≤ kept) := ⟨hk, hkk⟩
    obtain ⟨fr, hfr⟩ : ∃ fr, fr = F + rooms (q.l.take k) := ⟨_, rfl⟩
    have hfrl : fr ≤ 8192 := by
      have := rooms_split q.l k
      have := HF.out
      omega
    rw [← hfr]
    have HFR := Lib.hid hfr
    obtain ⟨N, hN⟩ : ∃ N, N = q.first + k := ⟨_, rfl⟩
    rw [← hN]
    have HN := Lib.hid hN
    have hNl : N ≤ 1152921504606846976 := by have := HQ.out.2.1; simp only [countN] at this; omega
    clear hbr hk hkk hfr hN
    by_cases hlt : fr < room
    · have e1 : decide ((fr : Int) < (room : Int)) = true := decide_eq_true (by omega)
      have e2 : decide (fr < room) = true := decide_eq_true hlt
      have cb := HS.out _ BR.out
      by_cases hkl : k < q.l.length
      · have hg := get_in14 q k hkl
        rw [← HN.out] at hg
        obtain ⟨⟨fn, fv⟩, hfd⟩ : ∃ f, f = q.l.getD k noFd := ⟨_, rfl⟩
        rw [← hfd] at hg
        have HGK : Hid (∀ V, Below w.heap.size w V → Calls Tryz.prog 109 #[.pointer (some ⟨b, 0, none⟩), .int .i64 (N : Int)] V fun e w' => e = .returned (.tuple #[.agg #[.string fn, .string fv], .int .i64 0]) ∧ Below V.heap.size V w') := fun V hV => by
          have := HG.out V (N : Int) hV
          rw [hg] at this; exact this
        have hrk : rooms (q.l.take (k + 1)) = rooms (q.l.take k) + roomF ⟨fn, fv⟩ := by
          rw [rooms_take q.l k hkl, hfd]
          congr 2
          simp [List.getD, List.getElem?_eq_getElem hkl]
        have hsp := rooms_split q.l (k + 1)
        have HRM := Lib.hid (fun V => room_any13 ⟨fn, fv⟩ V (room_szF (by have := HF.out; omega)))
        by_cases hkp : N ≥ kept
        · have e3 : decide ((N : Int) ≥ (kept : Int)) = true := decide_eq_true (by omega)
          have e4 : decide ((kept : Int) ≤ (N : Int)) = true := decide_eq_true (by omega)
          have e5 : decide (kept ≤ N) = true := decide_eq_true hkp
          clear hlt hkl hg hfd hrk hsp hkp hfrl
          go_wp2_with (go_at_call 109; refine (HGK.out _ BR.out).mono ?_; rintro e w4 ⟨rfl, hb4⟩; have B4 := Lib.hid ((BR.out.trans (hb4.mono BR.out.size)).alloc (BR.out.trans (hb4.mono BR.out.size)).size (.cells #[.string fn, .string fv] 74)); have k4 := HK4.out _ B4.out; clear hb4)
          go_ret
          exact ⟨false, rfl, B4.out, fun h => by cases h⟩
        · have e3 : decide ((N : Int) ≥ (kept : Int)) = false := decide_eq_false (by omega)
          have e4 : decide ((kept : Int) ≤ (N : Int)) = false := decide_eq_false (by omega)
          have e5 : decide (kept ≤ N) = false := decide_eq_false hkp
          obtain ⟨R, hR⟩ : ∃ R, R = roomF ⟨fn, fv⟩ := ⟨_, rfl⟩
          rw [← hR] at HRM hrk
          have hRl : R ≤ 8192 := by have := HF.out; omega
          have hw5 : IntKind.i64.wrap ((fr : Int) + (R : Int)) = ((fr + R : Nat) : Int) := by rw [wraps_i64' _ (by omega) (by omega)]; omega
          have hw6 : IntKind.i64.wrap ((N : Int) + 1) = ((N + 1 : Nat) : Int) := by rw [wraps_i64' _ (by omega) (by omega)]; omega
          have HST : Hid (fr + R = F + rooms (q.l.take (k + 1)) ∧ k + 1 ≤ q.l.length ∧ q.first + (k + 1) ≤ kept ∧ N + 1 = q.first + (k + 1)) := ⟨by have := HFR.out; omega, hkl, by have := HN.out; omega, by have := HN.out; omega⟩
          clear hlt hkl hg hfd hrk hsp hkp hfrl hR hRl
          go_wp2_with (first
            | (go_at_call 109; refine (HGK.out _ BR.out).mono ?_; rintro e w4 ⟨rfl, hb4⟩; have B4 := Lib.hid ((BR.out.trans (hb4.mono BR.out.size)).alloc (BR.out.trans (hb4.mono BR.out.size)).size (.cells #[.string fn, .string fv] 74)); have k4 := HK4.out _ B4.out; clear hb4)
            | (go_at_call 70; refine (HRM.out _).mono ?_; rintro e w5 ⟨rfl, hb5⟩; have B5 := Lib.hid (B4.out.trans (hb5.mono B4.out.size)); clear hb5))
          refine ⟨⟨k + 1, by (have := HST.out.1; congr 1; omega), by (have := HST.out.2.2.2; congr 1; omega), HST.out.2.1, HST.out.2.2.1, B5.out⟩, ?_⟩
          have := HST.out.2.1
          have := HN.out
          simp [intOf]; omega
      · have hkl' : k = q.l.length := by have := HKK.out.1; omega
        have hg : getE q (N : Int) = (noFd, 11) := by
          unfold getE
          rw [if_pos (.inr (by have := HN.out; simp only [countN]; omega))]
        have HGK : Hid (∀ V, Below w.heap.size w V → Calls Tryz.prog 109 #[.pointer (some ⟨b, 0, none⟩), .int .i64 (N : Int)] V fun e w' => e = .returned (.tuple #[.agg #[.string ⟨#[]⟩, .string ⟨#[]⟩], .int .i64 11]) ∧ Below V.heap.size V w') := fun V hV => by
          have := HG.out V (N : Int) hV
          rw [hg] at this; exact this
        clear hlt hkl hkl' hg hfrl
        go_wp2_with (go_at_call 109; refine (HGK.out _ BR.out).mono ?_; rintro e w4 ⟨rfl, hb4⟩; have B4 := Lib.hid ((BR.out.trans (hb4.mono BR.out.size)).alloc (BR.out.trans (hb4.mono BR.out.size)).size (.cells #[.string ⟨#[]⟩, .string ⟨#[]⟩] 74)); clear hb4)
        go_ret
        exact ⟨false, rfl, B4.out, fun h => by cases h⟩
    · have e1 : decide ((fr : Int) < (room : Int)) = false := decide_eq_false (by omega)
      have e2 : decide (fr < room) = false := decide_eq_false hlt
      have HOK : Hid (RoomOk q kept room) := room_of HQ.out.1 HKK.out.1 (by have := HFR.out; have := HF.out; have := HQ.out.1.used; omega) HKK.out.2
      clear hlt hfrl
      go_wp2_with fail
      go_ret
      exact ⟨true, rfl, BR.out, fun _ => HOK.out⟩
end
end Go.Proofs.YtbkbabaoockigaaGreatDoor

set_option maxRecDepth 100000
set_option linter.unusedSimpArgs false
set_option linter.unusedVariables false
namespace Go.Proofs.YtbkbabaoockigaaGreatDoor
open Go.RowKit

/-- a block of other calls stays -/
theorem TStep.box {t b : Nat} {sl vi vl sl' vi' vl' : Value} {w w' : World} {A : Nat} {cs : List Value} (h : TStep t b sl vi vl sl' vi' vl' w w') (hc : Cs w A cs) (hA : A ∉ blks t b sl vi vl) : Cs w' A cs ∧ A ∉ blks t b sl' vi' vl' := by
  have hl := hc.lt
  refine ⟨hc.keep h.keep hA, fun hi => ?_⟩
  rcases mem_blks.1 hi with e | e | e | e | e
  · exact hA (mem_blks.2 (.inl e))
  · exact hA (mem_blks.2 (.inr (.inl e)))
  · rcases h.os A e with e1 | e1
    · exact hA (mem_blks.2 (.inr (.inr (.inl e1))))
    · omega
  · rcases h.oi A e with e1 | e1
    · exact hA (mem_blks.2 (.inr (.inr (.inr (.inl e1)))))
    · omega
  · rcases h.ol A e with e1 | e1
    · exact hA (mem_blks.2 (.inr (.inr (.inr (.inr e1)))))
    · omega
section
variable {t b : Nat} {sl : Value} {put : Bool} {base need kept : Nat} {vi vl : Value} {ins lines : List Int} {q : TQ} {w : World}
theorem Tw.out (h : Tw t b sl put base need kept vi vl ins lines q w) {A : Nat} (hA : w.heap.size ≤ A) : A ∉ blks t b sl vi vl := fun hi => by
  have a1 := h.lt
  have a2 := h.tbl.lt
  rcases mem_blks.1 hi with e | e | e | e | e
  · omega
  · omega
  · have := h.tbl.slt A e; omega
  · have := h.ri.blt A e; omega
  · have := h.rl.blt A e; omega
theorem Tw.cell5 {v' : Value} {ys : List Int} {w1 : World} (h : Tw t b sl put base need kept vi vl ins lines q w) (ap : App vi ys w v' w1) : w1.cell? ⟨t, 5, none⟩ = some vi ∧ w1.frozen? ⟨t, 5, none⟩ = false ∧ t < w1.heap.size := by
  have := h.cells.keep ap.keep (fun hi => (h.ti t (by cases hv : vi.ownBlock <;> simp_all)).1 rfl)
  exact ⟨this.get 5 _ rfl, this.free 5, this.lt⟩
theorem Tw.cell6 {v' : Value} {ys : List Int} {w1 : World} (h : Tw t b sl put base need kept vi vl ins lines q w) (ap : App vl ys w v' w1) : w1.cell? ⟨t, 6, none⟩ = some vl ∧ w1.frozen? ⟨t, 6, none⟩ = false ∧ t < w1.heap.size := by
  have := h.cells.keep ap.keep (fun hi => (h.tl t (by cases hv : vl.ownBlock <;> simp_all)).1 rfl)
  exact ⟨this.get 6 _ rfl, this.free 6, this.lt⟩
end
/-- a teller that has told, and a field beside it -/
structure Tb (q0 : TQ) (t b : Nat) (put : Bool) (base : Nat) (A : Nat) (fn fv : ByteArray) (need kept : Nat) (ins lines : List Int) (q : TQ) (sl vi vl : Value) (w : World) : Prop where
  tw : Tw t b sl put base need kept vi vl ins lines q w
  box : Cs w A [.string fn, .string fv]
  out : A ∉ blks t b sl vi vl
theorem Tb.below {q0 : TQ} {t b : Nat} {put : Bool} {base A : Nat} {fn fv : ByteArray} {need kept : Nat} {ins lines : List Int} {q : TQ} {sl vi vl : Value} {w w' : World} (h : Tb q0 t b put base A fn fv need kept ins lines q sl vi vl w) (hb : Below w.heap.size w w') : Tb q0 t b put base A fn fv need kept ins lines q sl vi vl w' := ⟨h.tw.below hb, h.box.below hb, h.out⟩
theorem Tb.step {q0 : TQ} {t b : Nat} {put : Bool} {base A : Nat} {fn fv : ByteArray} {need kept need' kept' : Nat} {ins lines ins' lines' : List Int} {q q' : TQ} {sl vi vl sl' vi' vl' : Value} {w w' : World} (h : Tb q0 t b put base A fn fv need kept ins lines q sl vi vl w) (ht : Tw t b sl' put base need' kept' vi' vl' ins' lines' q' w') (hs : TStep t b sl vi vl sl' vi' vl' w w') : Tb q0 t b put base A fn fv need' kept' ins' lines' q' sl' vi' vl' w' :=
  ⟨ht, (hs.box h.box h.out).1, (hs.box h.box h.out).2⟩

set_option maxHeartbeats 12800000 in
theorem tput_any {q0 : TQ} {t b : Nat} {sl : Value} {base need kept m : Nat} {vi vl : Value} {ins lines : List Int} {l : List Fd} {q : TQ} (f : Fd) (w : World) (h : Tw t b sl true base need kept vi vl ins lines q w) (T : Tel q0 true q m need kept ins lines l) (hm : m ≤ 64) (hfn : f.n.size ≤ 64) (hfv : f.v.size ≤ 512) (hr : RoomOk q kept (roomF f)) (hc : countN q ≤ 1152921504606846976) (hF : Fix w) (hFb : 0 ∉ blks t b sl vi vl) :
    Calls Tryz.prog 83 #[.pointer (some ⟨t, 0, none⟩), .agg #[.string f.n, .string f.v]] w fun e w' => e = .returned (.int .i64 (countN q : Int)) ∧ ∃ ins', Tel q0 true (insertE q f).1 (m + 1) need kept ins' lines l ∧ TDid t b true base sl vi vl w need kept ins' lines (insertE q f).1 w' := by
  obtain ⟨fn, fv⟩ := f
  simp only at hfn hfv
  have hT0 := h.lt
  obtain ⟨via, vic, hvi⟩ := h.ri.len
  subst hvi
  have hsI := T.sI
  have hbI := T.bI
  obtain ⟨w1, hw1⟩ : ∃ W, W = w.alloc (.cells #[.string fn, .string fv] 74) := ⟨_, rfl⟩
  have hb1 : Below w.heap.size w w1 := by rw [hw1]; exact below1 w _
  have hr1 : Cs w1 w.heap.size [.string fn, .string fv] := by rw [hw1]; exact Cs.made w #[.string fn, .string fv] 74
  have TB1 : Hid (Tb q0 t b true base w.heap.size fn fv need kept ins lines q sl (.slice via ins.length vic) vl w1) := ⟨h.below hb1, hr1, h.out (Nat.le_refl _)⟩
  have B1 := Lib.hid hb1
  have HFF := Lib.hid (findFixed_any ⟨fn, fv⟩ w1 (hF.below hb1 hF.pos))
  have HINS : Hid (∀ (V : World) (ins2 : List Int) (sl2 vi2 vl2 : Value), Tb q0 t b true base w.heap.size fn fv need kept ins2 lines q sl2 vi2 vl2 V → Calls Tryz.prog 91 #[.pointer (some ⟨b, 0, none⟩), .agg #[.string fn, .string fv]] V fun e w' => e = .returned (.tuple #[.int .i64 (countN q : Int), .int .i64 0]) ∧ (∃ sl', Tw t b sl' true base need kept vi2 vl2 ins2 lines (insertE q ⟨fn, fv⟩).1 w' ∧ TStep t b sl2 vi2 vl2 sl' vi2 vl2 V w') ∧ Cs w' w.heap.size [.string fn, .string fv] ∧ w'.cell? ⟨t, 0, none⟩ = some (.pointer (some ⟨b, 0, none⟩))) := fun V ins2 sl2 vi2 vl2 hV => by
    refine (insert_any ⟨fn, fv⟩ V hV.tw.tbl T.ok (by omega)).mono ?_
    rintro e w' ⟨h1, h2⟩
    obtain ⟨sl', h3, h4⟩ := hV.tw.setT h2
    rw [insert_fit hfn hfv hr.1] at h1
    exact ⟨h1, ⟨sl', h3, h4⟩, (h4.box hV.box hV.out).1, h3.facts.1⟩
  have HVAL : Hid (∀ (V : World) (ins2 : List Int) (sl2 vi2 vl2 : Value), Tb q0 t b true base w.heap.size fn fv need kept ins2 lines q sl2 vi2 vl2 V → ins2.length ≤ 2000000 → Calls Tryz.prog 86 #[vi2, .int .i64 0, .int .i64 8, .string fv] V fun e w' => ∃ v' zs, e = .returned v' ∧ App vi2 (ins2 ++ zs) V v' w' ∧ IsVal fv zs) := fun V ins2 sl2 vi2 vl2 hV hl => text_app vi2 ins2 0 7 fv V hV.tw.ri (by omega) (by decide) (by decide) hfv (by decide) (by decide) (by decide)
  have HX : Hid (m ≤ 64 ∧ fn.size ≤ 64 ∧ fv.size ≤ 512 ∧ RoomOk q kept (roomF ⟨fn, fv⟩) ∧ countN q ≤ 1152921504606846976 ∧ ins.length ≤ 1100 * m) := ⟨hm, hfn, hfv, hr, hc, hsI⟩
  have HT := Lib.hid T
  have HW1 := Lib.hid hw1
  obtain ⟨⟨r1, r2⟩, hi⟩ : ∃ r, findFixedE ⟨fn, fv⟩ = r := ⟨_, rfl⟩
  have hfx := fixed_named ⟨fn, fv⟩
  rw [hi] at HFF hfx
  simp only at HFF hfx
  have HFD : Hid (∀ (V : World) (sl2 vi2 vl2 : Value), Tb q0 t b true base w.heap.size fn fv need kept ins lines q sl2 vi2 vl2 V → Calls Tryz.prog 81 #[.pointer (some ⟨b, 0, none⟩), .agg #[.string fn, .string fv]] V fun e w' => e = .returned (.tuple #[.int .i64 (findE q ⟨fn, fv⟩).1, .int .i64 (findE q ⟨fn, fv⟩).2]) ∧ Below V.heap.size V w') := fun V sl2 vi2 vl2 hV => find_any ⟨fn, fv⟩ V hV.tw.tbl (by omega)
  have hfd := find_named q ⟨fn, fv⟩
  obtain ⟨⟨p1, p2⟩, hpi⟩ : ∃ r, findE q ⟨fn, fv⟩ = r := ⟨_, rfl⟩
  rw [hpi] at HFD hfd
  simp only at HFD hfd
  clear h T hm hfn hfv hr hc hF hFb hw1 hb1 hr1 hsI hbI hi hpi
  have x0 := TB1.out.box.get 0 _ rfl
  have x1 := TB1.out.box.get 1 _ rfl
  rcases hfx with hfx' | hfx'
  · subst hfx'
    have d1 : decide ((-1 : Int) ≥ 0) = false := rfl
    rcases hfd with hfd' | hfd'
    · subst hfd'
      have d3 : decide ((-1 : Int) ≥ 0) = false := rfl
      have HNAM : Hid (∀ V, Below w1.heap.size w1 V → Calls Tryz.prog 86 #[.slice via ins.length vic, .int .i64 64, .int .i64 6, .string fn] V fun e w' => ∃ v' zs, e = .returned v' ∧ App (.slice via ins.length vic) (ins ++ zs) V v' w' ∧ IsText 64 5 fn zs) := fun V hV => text_app _ ins 64 5 fn V (TB1.out.below hV).tw.ri (by have h1 := HX.out.2.2.2.2.2; have h2 := HX.out.1; omega) (by decide) (by decide) (by have := HX.out.2.1; omega) (by decide) (by decide) (by decide)
      go_enter Tryz.func83, Tryz.ntmps83
      go_upto_region 1 with fail
      rw [← HW1.out]
      go_upto_region 4 with (go_at_call 52; refine HFF.out.mono ?_; rintro e w2 ⟨rfl, hb2⟩; have TB2 := Lib.hid (TB1.out.below hb2); have B2 := Lib.hid hb2; obtain ⟨a0, a1, a2, a3, a4, a5, a6⟩ := TB2.out.tw.facts; have z5 := TB2.out.tw.free 5; have y0 := TB2.out.box.get 0 _ rfl; have y1 := TB2.out.box.get 1 _ rfl; clear hb2)
      have D2 := Lib.hid (TB2.out.below (below_drewN (Below.refl _ _) 1))
      have K2 : w2.drew.cell? ⟨w.heap.size, 0, none⟩ = some (.string fn) ∧ w2.drew.cell? ⟨w.heap.size, 1, none⟩ = some (.string fv) ∧ w2.drew.cell? ⟨t, 0, none⟩ = some (.pointer (some ⟨b, 0, none⟩)) := ⟨D2.out.box.get 0 _ rfl, D2.out.box.get 1 _ rfl, D2.out.tw.facts.1⟩
      go_region_held3 (fun V => V.cell? ⟨w.heap.size, 0, none⟩ = some (.string fn) ∧ V.cell? ⟨w.heap.size, 1, none⟩ = some (.string fv) ∧ V.cell? ⟨t, 0, none⟩ = some (.pointer (some ⟨b, 0, none⟩)))
        (first
          | (exact K2)
          | (exact K3))
        (first
          | (go_at_call 81; refine (HFD.out _ _ _ _ D2.out).mono ?_; rintro e w3 ⟨rfl, hb3⟩; have TB3 := Lib.hid (D2.out.below hb3); have B3 : Hid (Below w1.heap.size w1 w3) := (below_drewN B2.out 1).trans (hb3.mono (below_drewN B2.out 1).size); have K3 : w3.cell? ⟨w.heap.size, 0, none⟩ = some (.string fn) ∧ w3.cell? ⟨w.heap.size, 1, none⟩ = some (.string fv) ∧ w3.cell? ⟨t, 0, none⟩ = some (.pointer (some ⟨b, 0, none⟩)) := ⟨TB3.out.box.get 0 _ rfl, TB3.out.box.get 1 _ rfl, TB3.out.tw.facts.1⟩; clear hb3))
      clear K2 K3
      go_upto_region 7 with fail
      have D3 := Lib.hid (TB3.out.below (below_drewN (Below.refl _ _) 1))
      have BD3 : Hid (Below w1.heap.size w1 w3.drew) := below_drewN B3.out 1
      have c0 : w3.drew.cell? ⟨w.heap.size, 0, none⟩ = some (.string fn) := D3.out.box.get 0 _ rfl
      have c5 : w3.drew.cell? ⟨t, 5, none⟩ = some (.slice via ins.length vic) := D3.out.tw.facts.2.2.2.2.2.1
      go_cut [] (fun wx => ∃ (Z Y : List Int) (v4a : Option Addr) (v4c : Nat), Y = ins ++ Z ∧ IsText 64 5 fn Z ∧ Tb q0 t b true base w.heap.size fn fv need kept Y lines q sl (.slice v4a Y.length v4c) vl wx ∧ TStep t b sl (.slice via ins.length vic) vl sl (.slice v4a Y.length v4c) vl w1 wx)
      case first =>
        go_region_law (first
          | (go_simp; go_at_call 86; refine (HNAM.out _ BD3.out).mono ?_; rintro e w9 ⟨v3, Z, rfl, ap, hZ⟩; obtain ⟨Y, hY⟩ : ∃ Y, Y = ins ++ Z := ⟨_, rfl⟩; rw [← hY] at ap; have HYZ := Lib.hid hY; obtain ⟨k5, kz5, kl5⟩ := D3.out.tw.cell5 ap; have AP3 := Lib.hid ap; have HZT := Lib.hid hZ; obtain ⟨v4a, v4c, hv4⟩ := ap.row.len; subst hv4; clear ap hZ hY))
        all_goals
          go_wp2_with fail
          go_meet
          have SI3 := D3.out.tw.setI AP3.out
          exact ⟨_, _, _, _, HYZ.out, HZT.out, D3.out.step SI3.1 SI3.2, (TStep.same BD3.out).trans SI3.2⟩
      case rest =>
      obtain ⟨Z, Y, v4a, v4c, hyz, hzt, htb4, hst4⟩ := hcut
      have HYZ := Lib.hid hyz
      have HZT := Lib.hid hzt
      have TB4 := Lib.hid htb4
      have ST4 := Lib.hid hst4
      have HZL : Hid (Z.length ≤ 522) := text_len HZT.out (by have := HX.out.2.1; omega)
      have HZ : Hid (∀ zs : List Int, IsVal fv zs → Bts Z ∧ ∀ pre post : List Int, insE q (pre ++ ((Z ++ zs) ++ post)) pre.length = ((insertE q ⟨fn, fv⟩).1, pre.length + (Z ++ zs).length, (insertE q ⟨fn, fv⟩).2.2)) := fun zs hzs => ⟨text_bts HZT.out ok64a ok64b (by decide) (by have := HX.out.2.1; omega), fun pre post => ins_told q fn fv Z zs HZT.out HX.out.2.1 hzs HX.out.2.2.1 pre post⟩
      clear hyz hzt htb4 hst4 c0 c5 a0 a1 a2 a3 a4 a5 a6 z5 y0 y1
      obtain ⟨w4, hw4⟩ : ∃ W, W = wc := ⟨_, rfl⟩
      rw [← hw4] at TB4 ST4 ⊢
      clear hw4
      have l4 : Y.length ≤ 2000000 := by have h1 := HX.out.2.2.2.2.2; have h2 := HX.out.1; have h3 := HZL.out; rw [HYZ.out, List.length_append]; omega
      have HL4 := Lib.hid l4
      have D4 := Lib.hid (TB4.out.below (below_drewN (Below.refl _ _) 1))
      have c5 : w4.drew.cell? ⟨t, 5, none⟩ = some (.slice v4a Y.length v4c) := D4.out.tw.facts.2.2.2.2.2.1
      have c1 : w4.drew.cell? ⟨w.heap.size, 1, none⟩ = some (.string fv) := D4.out.box.get 1 _ rfl
      clear l4
      go_upto_region 8 with fail
      go_cut [] (fun wx => ∃ (vi6 : Value) (zs : List Int), IsVal fv zs ∧ Tb q0 t b true base w.heap.size fn fv need kept (Y ++ zs) lines q sl vi6 vl wx ∧ TStep t b sl (.slice v4a Y.length v4c) vl sl vi6 vl w4 wx)
      case first =>
        go_region_law (first
          | (go_simp; go_at_call 86; refine (HVAL.out _ _ _ _ _ D4.out HL4.out).mono ?_; rintro e w5 ⟨v5, zs, rfl, ap, hzs⟩; obtain ⟨Y5, hY5⟩ : ∃ Y5, Y5 = Y ++ zs := ⟨_, rfl⟩; rw [← hY5] at ap; have HY5 := Lib.hid hY5; obtain ⟨k5, kz5, kl5⟩ := D4.out.tw.cell5 ap; have AP := Lib.hid ap; have HZS := Lib.hid hzs; obtain ⟨v5a, v5c, hv5⟩ := ap.row.len; subst hv5; clear ap hzs hY5))
        all_goals
          go_wp2_with fail
          go_meet
          have SI := D4.out.tw.setI AP.out
          exact ⟨_, _, HZS.out, by rw [← HY5.out]; exact D4.out.step SI.1 SI.2, (TStep.same (below_drewN (Below.refl _ _) 1)).trans SI.2⟩
      case rest =>
      obtain ⟨vi6, zs, hzs, htb6, hst6⟩ := hcut
      have HZS := Lib.hid hzs
      have TB6 := Lib.hid htb6
      have ST6 := Lib.hid (ST4.out.trans hst6)
      clear hzs htb6 hst6 c5 c1
      obtain ⟨w6, hw6⟩ : ∃ W, W = wc := ⟨_, rfl⟩
      rw [← hw6] at TB6 ST6 ⊢
      clear hw6
      have D6 := Lib.hid (TB6.out.below (below_drewN (Below.refl _ _) 1))
      have K6 : w6.drew.cell? ⟨w.heap.size, 0, none⟩ = some (.string fn) ∧ w6.drew.cell? ⟨w.heap.size, 1, none⟩ = some (.string fv) ∧ w6.drew.cell? ⟨t, 0, none⟩ = some (.pointer (some ⟨b, 0, none⟩)) := ⟨D6.out.box.get 0 _ rfl, D6.out.box.get 1 _ rfl, D6.out.tw.facts.1⟩
      go_upto_region 9 with fail
      go_region_held3 (fun V => V.cell? ⟨w.heap.size, 0, none⟩ = some (.string fn) ∧ V.cell? ⟨w.heap.size, 1, none⟩ = some (.string fv) ∧ V.cell? ⟨t, 0, none⟩ = some (.pointer (some ⟨b, 0, none⟩)))
        (first
          | (exact K6)
          | (exact K7))
        (first
          | (go_at_call 91; refine (HINS.out _ _ _ _ _ D6.out).mono ?_; rintro e w7 ⟨rfl, hst, hbx, hc0⟩; have HST := Lib.hid hst; have K7 : w7.cell? ⟨w.heap.size, 0, none⟩ = some (.string fn) ∧ w7.cell? ⟨w.heap.size, 1, none⟩ = some (.string fv) ∧ w7.cell? ⟨t, 0, none⟩ = some (.pointer (some ⟨b, 0, none⟩)) := ⟨hbx.get 0 _ rfl, hbx.get 1 _ rfl, hc0⟩; clear hst hbx hc0))
      go_wp2_with fail
      go_ret
      have hvz := text_len HZS.out HX.out.2.2.1
      obtain ⟨sl7, t7, s7⟩ := HST.out
      have hib := HZ.out zs HZS.out
      refine ⟨rfl, Y ++ zs, ?_, sl7, _, _, t7, (TStep.same B1.out).trans ((ST6.out.trans (TStep.same (below_drewN (Below.refl _ _) 1))).trans s7)⟩
      rw [HYZ.out, List.append_assoc]
      exact HT.out.put_ins (hib.1.append (text_bts HZS.out ok7a ok7b (by decide) HX.out.2.2.1)) (by have := HZL.out; rw [List.length_append]; omega) HX.out.2.1 HX.out.2.2.1 HX.out.2.2.2.1 hib.2
    · obtain ⟨n, g, hn, hnf, hnc, hge, hgn⟩ := hfd'
      subst hn
      have d3 : decide ((n : Int) ≥ 0) = true := decide_eq_true (by omega)
      have d4 : decide ((0 : Int) ≤ (n : Int)) = true := decide_eq_true (by omega)
      obtain ⟨c, hcc⟩ : ∃ c, c = countN q := ⟨_, rfl⟩
      have hcl : c ≤ 1152921504606846976 := by rw [hcc]; exact HX.out.2.2.2.2.1
      rw [← hcc] at hnc
      obtain ⟨k, hk⟩ : ∃ k : Nat, k = c - 1 - n := ⟨_, rfl⟩
      have hw1a : IntKind.i64.wrap ((c : Int) - 1) = (c : Int) - 1 := wraps_i64' _ (by omega) (by omega)
      have hw1b : IntKind.i64.wrap ((c : Int) - 1 - (n : Int)) = (k : Int) := by rw [wraps_i64' _ (by omega) (by omega)]; omega
      have hok : OkP 128 6 (k : Int) := ⟨by decide, by decide, by omega, by omega⟩
      obtain ⟨Z, hZ⟩ : ∃ Z, Z = encP 128 6 (k : Int) := ⟨_, rfl⟩
      obtain ⟨Y, hY⟩ : ∃ Y, Y = ins ++ Z := ⟨_, rfl⟩
      have HYZ := Lib.hid hY
      have HZL : Hid (Z.length ≤ 522) := by
        show Z.length ≤ 522
        have := sizeN_le (w := 6) (n := (k : Int)) (by omega)
        rw [hZ, encP_len]; omega
      have HZ : Hid (∀ zs : List Int, IsVal fv zs → Bts Z ∧ ∀ pre post : List Int, insE q (pre ++ ((Z ++ zs) ++ post)) pre.length = ((insertE q ⟨fn, fv⟩).1, pre.length + (Z ++ zs).length, (insertE q ⟨fn, fv⟩).2.2)) := fun zs hzs => ⟨by rw [hZ]; exact encP_bts hok, fun pre post => by
        have e9 : (countN q : Int) - 1 - (k : Int) = (n : Int) := by omega
        have := ins_last q k (by omega) fv zs hzs HX.out.2.2.1 g (by rw [e9]; exact hge) pre post
        rw [hgn] at this
        rw [hZ]; exact this⟩
      have HNUM : Hid (∀ V, Below w1.heap.size w1 V → Calls Tryz.prog 28 #[.slice via ins.length vic, .int .i64 128, .int .i64 6, .int .i64 (k : Int)] V fun e w' => ∃ v', e = .returned v' ∧ App (.slice via ins.length vic) Y V v' w') := fun V hV => by
        rw [hY, hZ]
        exact number_app _ ins 128 6 (k : Int) V (TB1.out.below hV).tw.ri (by have h1 := HX.out.2.2.2.2.2; have h2 := HX.out.1; omega) hok
      have HCN : Hid (∀ V, Below w1.heap.size w1 V → Calls Tryz.prog 42 #[.pointer (some ⟨b, 0, none⟩)] V fun e w' => e = .returned (.int .i64 (c : Int)) ∧ Below V.heap.size V w') := fun V hV => by
        refine (count_any V (TB1.out.below hV).tw.tbl (by omega)).mono ?_
        rintro e w' ⟨h1, nn, rfl⟩
        rw [hcc]; exact ⟨h1, below_drewN (Below.refl _ _) nn⟩
      clear hZ hY hok hge hgn hnf hnc hcc hk hcl
      go_enter Tryz.func83, Tryz.ntmps83
      go_upto_region 1 with fail
      rw [← HW1.out]
      go_upto_region 4 with (go_at_call 52; refine HFF.out.mono ?_; rintro e w2 ⟨rfl, hb2⟩; have TB2 := Lib.hid (TB1.out.below hb2); have B2 := Lib.hid hb2; obtain ⟨a0, a1, a2, a3, a4, a5, a6⟩ := TB2.out.tw.facts; have z5 := TB2.out.tw.free 5; have y0 := TB2.out.box.get 0 _ rfl; have y1 := TB2.out.box.get 1 _ rfl; clear hb2)
      have D2 := Lib.hid (TB2.out.below (below_drewN (Below.refl _ _) 1))
      have K2 : w2.drew.cell? ⟨w.heap.size, 0, none⟩ = some (.string fn) ∧ w2.drew.cell? ⟨w.heap.size, 1, none⟩ = some (.string fv) ∧ w2.drew.cell? ⟨t, 0, none⟩ = some (.pointer (some ⟨b, 0, none⟩)) := ⟨D2.out.box.get 0 _ rfl, D2.out.box.get 1 _ rfl, D2.out.tw.facts.1⟩
      go_region_held3 (fun V => V.cell? ⟨w.heap.size, 0, none⟩ = some (.string fn) ∧ V.cell? ⟨w.heap.size, 1, none⟩ = some (.string fv) ∧ V.cell? ⟨t, 0, none⟩ = some (.pointer (some ⟨b, 0, none⟩)))
        (first
          | (exact K2)
          | (exact K3))
        (first
          | (go_at_call 81; refine (HFD.out _ _ _ _ D2.out).mono ?_; rintro e w3 ⟨rfl, hb3⟩; have TB3 := Lib.hid (D2.out.below hb3); have B3 : Hid (Below w1.heap.size w1 w3) := (below_drewN B2.out 1).trans (hb3.mono (below_drewN B2.out 1).size); have K3 : w3.cell? ⟨w.heap.size, 0, none⟩ = some (.string fn) ∧ w3.cell? ⟨w.heap.size, 1, none⟩ = some (.string fv) ∧ w3.cell? ⟨t, 0, none⟩ = some (.pointer (some ⟨b, 0, none⟩)) := ⟨TB3.out.box.get 0 _ rfl, TB3.out.box.get 1 _ rfl, TB3.out.tw.facts.1⟩; clear hb3))
      clear K2 K3
      go_upto_region 6 with fail
      have D3 := Lib.hid (TB3.out.below (below_drewN (Below.refl _ _) 1))
      have BD3 : Hid (Below w1.heap.size w1 w3.drew) := below_drewN B3.out 1
      have c0 : w3.drew.cell? ⟨t, 0, none⟩ = some (.pointer (some ⟨b, 0, none⟩)) := D3.out.tw.facts.1
      have c5 : w3.drew.cell? ⟨t, 5, none⟩ = some (.slice via ins.length vic) := D3.out.tw.facts.2.2.2.2.2.1
      go_cut [] (fun wx => ∃ (v4a : Option Addr) (v4c : Nat), Tb q0 t b true base w.heap.size fn fv need kept Y lines q sl (.slice v4a Y.length v4c) vl wx ∧ TStep t b sl (.slice via ins.length vic) vl sl (.slice v4a Y.length v4c) vl w1 wx)
      case first =>
        go_region_law (first
          | (go_simp; go_at_call 42; refine (HCN.out _ BD3.out).mono ?_; rintro e w8 ⟨rfl, hb8⟩; have TB8 := Lib.hid (D3.out.below hb8); have B8 := Lib.hid (BD3.out.trans (hb8.mono BD3.out.size)); have k50 : w8.cell? ⟨t, 5, none⟩ = some (.slice via ins.length vic) := TB8.out.tw.facts.2.2.2.2.2.1; clear hb8)
          | (go_simp; go_at_call 28; refine (HNUM.out _ B8.out).mono ?_; rintro e w9 ⟨v3, rfl, ap⟩; obtain ⟨k5, kz5, kl5⟩ := TB8.out.tw.cell5 ap; have AP3 := Lib.hid ap; obtain ⟨v4a, v4c, hv4⟩ := ap.row.len; subst hv4; clear ap))
        all_goals
          go_wp2_with fail
          go_meet
          have SI3 := TB8.out.tw.setI AP3.out
          exact ⟨_, _, TB8.out.step SI3.1 SI3.2, (TStep.same B8.out).trans SI3.2⟩
      case rest =>
      obtain ⟨v4a, v4c, htb4, hst4⟩ := hcut
      have TB4 := Lib.hid htb4
      have ST4 := Lib.hid hst4
      clear htb4 hst4 c0 c5 a0 a1 a2 a3 a4 a5 a6 z5 y0 y1
      obtain ⟨w4, hw4⟩ : ∃ W, W = wc := ⟨_, rfl⟩
      rw [← hw4] at TB4 ST4 ⊢
      clear hw4
      have l4 : Y.length ≤ 2000000 := by have h1 := HX.out.2.2.2.2.2; have h2 := HX.out.1; have h3 := HZL.out; rw [HYZ.out, List.length_append]; omega
      have HL4 := Lib.hid l4
      have D4 := Lib.hid (TB4.out.below (below_drewN (Below.refl _ _) 1))
      have c5 : w4.drew.cell? ⟨t, 5, none⟩ = some (.slice v4a Y.length v4c) := D4.out.tw.facts.2.2.2.2.2.1
      have c1 : w4.drew.cell? ⟨w.heap.size, 1, none⟩ = some (.string fv) := D4.out.box.get 1 _ rfl
      clear l4
      go_upto_region 8 with fail
      go_cut [] (fun wx => ∃ (vi6 : Value) (zs : List Int), IsVal fv zs ∧ Tb q0 t b true base w.heap.size fn fv need kept (Y ++ zs) lines q sl vi6 vl wx ∧ TStep t b sl (.slice v4a Y.length v4c) vl sl vi6 vl w4 wx)
      case first =>
        go_region_law (first
          | (go_simp; go_at_call 86; refine (HVAL.out _ _ _ _ _ D4.out HL4.out).mono ?_; rintro e w5 ⟨v5, zs, rfl, ap, hzs⟩; obtain ⟨Y5, hY5⟩ : ∃ Y5, Y5 = Y ++ zs := ⟨_, rfl⟩; rw [← hY5] at ap; have HY5 := Lib.hid hY5; obtain ⟨k5, kz5, kl5⟩ := D4.out.tw.cell5 ap; have AP := Lib.hid ap; have HZS := Lib.hid hzs; obtain ⟨v5a, v5c, hv5⟩ := ap.row.len; subst hv5; clear ap hzs hY5))
        all_goals
          go_wp2_with fail
          go_meet
          have SI := D4.out.tw.setI AP.out
          exact ⟨_, _, HZS.out, by rw [← HY5.out]; exact D4.out.step SI.1 SI.2, (TStep.same (below_drewN (Below.refl _ _) 1)).trans SI.2⟩
      case rest =>
      obtain ⟨vi6, zs, hzs, htb6, hst6⟩ := hcut
      have HZS := Lib.hid hzs
      have TB6 := Lib.hid htb6
      have ST6 := Lib.hid (ST4.out.trans hst6)
      clear hzs htb6 hst6 c5 c1
      obtain ⟨w6, hw6⟩ : ∃ W, W = wc := ⟨_, rfl⟩
      rw [← hw6] at TB6 ST6 ⊢
      clear hw6
      have D6 := Lib.hid (TB6.out.below (below_drewN (Below.refl _ _) 1))
      have K6 : w6.drew.cell? ⟨w.heap.size, 0, none⟩ = some (.string fn) ∧ w6.drew.cell? ⟨w.heap.size, 1, none⟩ = some (.string fv) ∧ w6.drew.cell? ⟨t, 0, none⟩ = some (.pointer (some ⟨b, 0, none⟩)) := ⟨D6.out.box.get 0 _ rfl, D6.out.box.get 1 _ rfl, D6.out.tw.facts.1⟩
      go_upto_region 9 with fail
      go_region_held3 (fun V => V.cell? ⟨w.heap.size, 0, none⟩ = some (.string fn) ∧ V.cell? ⟨w.heap.size, 1, none⟩ = some (.string fv) ∧ V.cell? ⟨t, 0, none⟩ = some (.pointer (some ⟨b, 0, none⟩)))
        (first
          | (exact K6)
          | (exact K7))
        (first
          | (go_at_call 91; refine (HINS.out _ _ _ _ _ D6.out).mono ?_; rintro e w7 ⟨rfl, hst, hbx, hc0⟩; have HST := Lib.hid hst; have K7 : w7.cell? ⟨w.heap.size, 0, none⟩ = some (.string fn) ∧ w7.cell? ⟨w.heap.size, 1, none⟩ = some (.string fv) ∧ w7.cell? ⟨t, 0, none⟩ = some (.pointer (some ⟨b, 0, none⟩)) := ⟨hbx.get 0 _ rfl, hbx.get 1 _ rfl, hc0⟩; clear hst hbx hc0))
      go_wp2_with fail
      go_ret
      have hvz := text_len HZS.out HX.out.2.2.1
      obtain ⟨sl7, t7, s7⟩ := HST.out
      have hib := HZ.out zs HZS.out
      refine ⟨rfl, Y ++ zs, ?_, sl7, _, _, t7, (TStep.same B1.out).trans ((ST6.out.trans (TStep.same (below_drewN (Below.refl _ _) 1))).trans s7)⟩
      rw [HYZ.out, List.append_assoc]
      exact HT.out.put_ins (hib.1.append (text_bts HZS.out ok7a ok7b (by decide) HX.out.2.2.1)) (by have := HZL.out; rw [List.length_append]; omega) HX.out.2.1 HX.out.2.2.1 HX.out.2.2.2.1 hib.2
  · clear hfd
    obtain ⟨n, g, hn, hn24, hfe, hgn⟩ := hfx'
    subst hn
    have d1 : decide ((n : Int) ≥ 0) = true := decide_eq_true (by omega)
    have d2 : decide ((0 : Int) ≤ (n : Int)) = true := decide_eq_true (by omega)
    have hok : OkP 192 6 (n : Int) := ⟨by decide, by decide, by omega, by omega⟩
    obtain ⟨Z, hZ⟩ : ∃ Z, Z = encP 192 6 (n : Int) := ⟨_, rfl⟩
    obtain ⟨Y, hY⟩ : ∃ Y, Y = ins ++ Z := ⟨_, rfl⟩
    have HYZ := Lib.hid hY
    have HZL : Hid (Z.length ≤ 522) := by
      show Z.length ≤ 522
      have := sizeN_le (w := 6) (n := (n : Int)) (by omega)
      rw [hZ, encP_len]; omega
    have HZ : Hid (∀ zs : List Int, IsVal fv zs → Bts Z ∧ ∀ pre post : List Int, insE q (pre ++ ((Z ++ zs) ++ post)) pre.length = ((insertE q ⟨fn, fv⟩).1, pre.length + (Z ++ zs).length, (insertE q ⟨fn, fv⟩).2.2)) := fun zs hzs => ⟨by rw [hZ]; exact encP_bts hok, fun pre post => by
      have := ins_named q n (by omega) fv zs hzs HX.out.2.2.1 g hfe pre post
      rw [hgn] at this
      rw [hZ]; exact this⟩
    have HNUM : Hid (∀ V, Below w1.heap.size w1 V → Calls Tryz.prog 28 #[.slice via ins.length vic, .int .i64 192, .int .i64 6, .int .i64 (n : Int)] V fun e w' => ∃ v', e = .returned v' ∧ App (.slice via ins.length vic) Y V v' w') := fun V hV => by
      rw [hY, hZ]
      exact number_app _ ins 192 6 (n : Int) V (TB1.out.below hV).tw.ri (by have h1 := HX.out.2.2.2.2.2; have h2 := HX.out.1; omega) hok
    clear hZ hY hok hfe hgn hn24
    go_enter Tryz.func83, Tryz.ntmps83
    go_upto_region 1 with fail
    rw [← HW1.out]
    go_upto_region 8 with (first
      | (go_at_call 52; refine HFF.out.mono ?_; rintro e w2 ⟨rfl, hb2⟩; have TB2 := Lib.hid (TB1.out.below hb2); have B2 := Lib.hid hb2; obtain ⟨a0, a1, a2, a3, a4, a5, a6⟩ := TB2.out.tw.facts; have z5 := TB2.out.tw.free 5; have y0 := TB2.out.box.get 0 _ rfl; have y1 := TB2.out.box.get 1 _ rfl; clear hb2)
      | (go_at_call 28; refine (HNUM.out _ B2.out).mono ?_; rintro e w3 ⟨v3, rfl, ap⟩; obtain ⟨k5, kz5, kl5⟩ := TB2.out.tw.cell5 ap; have AP3 := Lib.hid ap; obtain ⟨v4a, v4c, hv4⟩ := ap.row.len; subst hv4; clear ap))
    have SI3 := TB2.out.tw.setI AP3.out
    have TB4 := Lib.hid (TB2.out.step SI3.1 SI3.2)
    have ST4 := Lib.hid ((TStep.same B2.out).trans SI3.2)
    clear SI3 k5 kz5 kl5 a0 a1 a2 a3 a4 a5 a6 z5 y0 y1
    generalize w3.setCell ⟨t, 5, none⟩ (.slice v4a Y.length v4c) = w4 at TB4 ST4 ⊢
    have l4 : Y.length ≤ 2000000 := by have h1 := HX.out.2.2.2.2.2; have h2 := HX.out.1; have h3 := HZL.out; rw [HYZ.out, List.length_append]; omega
    have HL4 := Lib.hid l4
    have D4 := Lib.hid (TB4.out.below (below_drewN (Below.refl _ _) 1))
    have c5 : w4.drew.cell? ⟨t, 5, none⟩ = some (.slice v4a Y.length v4c) := D4.out.tw.facts.2.2.2.2.2.1
    have c1 : w4.drew.cell? ⟨w.heap.size, 1, none⟩ = some (.string fv) := D4.out.box.get 1 _ rfl
    clear l4
    go_upto_region 8 with fail
    go_cut [] (fun wx => ∃ (vi6 : Value) (zs : List Int), IsVal fv zs ∧ Tb q0 t b true base w.heap.size fn fv need kept (Y ++ zs) lines q sl vi6 vl wx ∧ TStep t b sl (.slice v4a Y.length v4c) vl sl vi6 vl w4 wx)
    case first =>
      go_region_law (first
        | (go_simp; go_at_call 86; refine (HVAL.out _ _ _ _ _ D4.out HL4.out).mono ?_; rintro e w5 ⟨v5, zs, rfl, ap, hzs⟩; obtain ⟨Y5, hY5⟩ : ∃ Y5, Y5 = Y ++ zs := ⟨_, rfl⟩; rw [← hY5] at ap; have HY5 := Lib.hid hY5; obtain ⟨k5, kz5, kl5⟩ := D4.out.tw.cell5 ap; have AP := Lib.hid ap; have HZS := Lib.hid hzs; obtain ⟨v5a, v5c, hv5⟩ := ap.row.len; subst hv5; clear ap hzs hY5))
      all_goals
        go_wp2_with fail
        go_meet
        have SI := D4.out.tw.setI AP.out
        exact ⟨_, _, HZS.out, by rw [← HY5.out]; exact D4.out.step SI.1 SI.2, (TStep.same (below_drewN (Below.refl _ _) 1)).trans SI.2⟩
    case rest =>
    obtain ⟨vi6, zs, hzs, htb6, hst6⟩ := hcut
    have HZS := Lib.hid hzs
    have TB6 := Lib.hid htb6
    have ST6 := Lib.hid (ST4.out.trans hst6)
    clear hzs htb6 hst6 c5 c1
    obtain ⟨w6, hw6⟩ : ∃ W, W = wc := ⟨_, rfl⟩
    rw [← hw6] at TB6 ST6 ⊢
    clear hw6
    have D6 := Lib.hid (TB6.out.below (below_drewN (Below.refl _ _) 1))
    have K6 : w6.drew.cell? ⟨w.heap.size, 0, none⟩ = some (.string fn) ∧ w6.drew.cell? ⟨w.heap.size, 1, none⟩ = some (.string fv) ∧ w6.drew.cell? ⟨t, 0, none⟩ = some (.pointer (some ⟨b, 0, none⟩)) := ⟨D6.out.box.get 0 _ rfl, D6.out.box.get 1 _ rfl, D6.out.tw.facts.1⟩
    go_upto_region 9 with fail
    go_region_held3 (fun V => V.cell? ⟨w.heap.size, 0, none⟩ = some (.string fn) ∧ V.cell? ⟨w.heap.size, 1, none⟩ = some (.string fv) ∧ V.cell? ⟨t, 0, none⟩ = some (.pointer (some ⟨b, 0, none⟩)))
      (first
        | (exact K6)
        | (exact K7))
      (first
        | (go_at_call 91; refine (HINS.out _ _ _ _ _ D6.out).mono ?_; rintro e w7 ⟨rfl, hst, hbx, hc0⟩; have HST := Lib.hid hst; have K7 : w7.cell? ⟨w.heap.size, 0, none⟩ = some (.string fn) ∧ w7.cell? ⟨w.heap.size, 1, none⟩ = some (.string fv) ∧ w7.cell? ⟨t, 0, none⟩ = some (.pointer (some ⟨b, 0, none⟩)) := ⟨hbx.get 0 _ rfl, hbx.get 1 _ rfl, hc0⟩; clear hst hbx hc0))
    go_wp2_with fail
    go_ret
    have hvz := text_len HZS.out HX.out.2.2.1
    obtain ⟨sl7, t7, s7⟩ := HST.out
    have hib := HZ.out zs HZS.out
    refine ⟨rfl, Y ++ zs, ?_, sl7, _, _, t7, (TStep.same B1.out).trans ((ST6.out.trans (TStep.same (below_drewN (Below.refl _ _) 1))).trans s7)⟩
    rw [HYZ.out, List.append_assoc]
    exact HT.out.put_ins (hib.1.append (text_bts HZS.out ok7a ok7b (by decide) HX.out.2.2.1)) (by have := HZL.out; rw [List.length_append]; omega) HX.out.2.1 HX.out.2.2.1 HX.out.2.2.2.1 hib.2
end Go.Proofs.YtbkbabaoockigaaGreatDoor

set_option maxRecDepth 100000
set_option linter.unusedSimpArgs false
set_option linter.unusedVariables false
namespace Go.Proofs.YtbkbabaoockigaaGreatDoor
open Go.RowKit

set_option maxHeartbeats 25600000 in
theorem tellOfTable_any {q0 : TQ} {t b : Nat} {sl : Value} {base need kept m : Nat} {vi vl : Value} {ins lines : List Int} {l : List Fd} {q : TQ} (f : Fd) (w : World) (h : Tw t b sl true base need kept vi vl ins lines q w) (T : Tel q0 true q m need kept ins lines l) (hm : m ≤ 63) (hl : l.length ≤ 63) (hbq : base = countN q0) (hc0 : countN q0 ≤ 1152921504606840000) (hfn : f.n.size ≤ 64) (hfv : f.v.size ≤ 512) (hF : Fix w) (hFb : 0 ∉ blks t b sl vi vl) :
    Calls Tryz.prog 53 #[.pointer (some ⟨t, 0, none⟩), .agg #[.string f.n, .string f.v]] w fun e w' => ∃ r : Bool, e = .returned (.bool r) ∧ (r = false → TDid t b true base sl vi vl w need kept ins lines q w') ∧ (r = true → ∃ q' m' need' kept' ins' lines', Tel q0 true q' m' need' kept' ins' lines' (l ++ [f]) ∧ m' ≤ m + 1 ∧ TDid t b true base sl vi vl w need' kept' ins' lines' q' w') := by
  obtain ⟨fn, fv⟩ := f
  simp only at hfn hfv
  have hcnt := T.cnt
  obtain ⟨w1, hw1⟩ : ∃ W, W = w.alloc (.cells #[.string fn, .string fv] 74) := ⟨_, rfl⟩
  have hb1 : Below w.heap.size w w1 := by rw [hw1]; exact below1 w _
  have hr1 : Cs w1 w.heap.size [.string fn, .string fv] := by rw [hw1]; exact Cs.made w #[.string fn, .string fv] 74
  have TB1 : Hid (Tb q0 t b true base w.heap.size fn fv need kept ins lines q sl vi vl w1) := ⟨h.below hb1, hr1, h.out (Nat.le_refl _)⟩
  have B1 := Lib.hid hb1
  have D1 := Lib.hid (TB1.out.below (below_drewN (Below.refl _ _) 1))
  have K1 : w1.drew.cell? ⟨w.heap.size, 0, none⟩ = some (.string fn) ∧ w1.drew.cell? ⟨w.heap.size, 1, none⟩ = some (.string fv) ∧ w1.drew.cell? ⟨t, 0, none⟩ = some (.pointer (some ⟨b, 0, none⟩)) := ⟨D1.out.box.get 0 _ rfl, D1.out.box.get 1 _ rfl, D1.out.tw.facts.1⟩
  have HFD : Hid (∀ (V : World) (sl2 vi2 vl2 : Value), Tb q0 t b true base w.heap.size fn fv need kept ins lines q sl2 vi2 vl2 V → Calls Tryz.prog 81 #[.pointer (some ⟨b, 0, none⟩), .agg #[.string fn, .string fv]] V fun e w' => e = .returned (.tuple #[.int .i64 (findE q ⟨fn, fv⟩).1, .int .i64 (findE q ⟨fn, fv⟩).2]) ∧ Below V.heap.size V w') := fun V sl2 vi2 vl2 hV => find_any ⟨fn, fv⟩ V hV.tw.tbl (by omega)
  have hfd := find_same q ⟨fn, fv⟩
  obtain ⟨⟨p1, p2⟩, hpi⟩ : ∃ r, findE q ⟨fn, fv⟩ = r := ⟨_, rfl⟩
  rw [hpi] at HFD hfd
  simp only at HFD hfd
  have HX : Hid (m ≤ 63 ∧ l.length ≤ 63 ∧ fn.size ≤ 64 ∧ fv.size ≤ 512 ∧ countN q ≤ 1152921504606841000) := ⟨hm, hl, hfn, hfv, by omega⟩
  have HBQ : Hid (base = countN q0 ∧ base ≤ 1152921504606840000) := ⟨hbq, by omega⟩
  have HT := Lib.hid T
  have HW1 := Lib.hid hw1
  have HGL : Hid (Fix w1 ∧ 0 ∉ blks t b sl vi vl) := ⟨hF.below hb1 hF.pos, hFb⟩
  clear h T hm hl hfn hfv hF hFb hw1 hb1 hr1 hpi hcnt hbq hc0
  rcases hfd with hfd' | ⟨n, hpn, hnf, hnc, hge⟩
  · subst hfd'
    have d1 : decide ((-1 : Int) < 0) = true := rfl
    have HRM : Hid (∀ V, Calls Tryz.prog 70 #[.agg #[.string fn, .string fv]] V fun e w' => e = .returned (.int .i64 (roomF ⟨fn, fv⟩ : Int)) ∧ Below V.heap.size V w') := fun V => room_any13 ⟨fn, fv⟩ V ⟨by have := HX.out.2.2.1; show fn.size ≤ _; omega, by have := HX.out.2.2.2.1; show fv.size ≤ _; omega⟩
    have HRO : Hid (∀ V, Below w1.heap.size w1 V → Calls Tryz.prog 82 #[.pointer (some ⟨t, 0, none⟩), .int .i64 (roomF ⟨fn, fv⟩ : Int)] V fun e w' => ∃ r : Bool, e = .returned (.bool r) ∧ Below V.heap.size V w' ∧ (r = true → RoomOk q kept (roomF ⟨fn, fv⟩))) := fun V hV => hasRoom_any (roomF ⟨fn, fv⟩) V (TB1.out.below hV).tw HT.out.ok (by have := HX.out; omega) HT.out.keptF (by have := HX.out; simp only [roomF]; omega)
    have HPU : Hid (RoomOk q kept (roomF ⟨fn, fv⟩) → ∀ V, Below w1.heap.size w1 V → Calls Tryz.prog 83 #[.pointer (some ⟨t, 0, none⟩), .agg #[.string fn, .string fv]] V fun e w' => e = .returned (.int .i64 (countN q : Int)) ∧ ∃ ins', Tel q0 true (insertE q ⟨fn, fv⟩).1 (m + 1) need kept ins' lines l ∧ TDid t b true base sl vi vl V need kept ins' lines (insertE q ⟨fn, fv⟩).1 w') := fun hro V hV => tput_any ⟨fn, fv⟩ V (TB1.out.below hV).tw HT.out (by have := HX.out; omega) HX.out.2.2.1 HX.out.2.2.2.1 hro (by have := HX.out; omega) (HGL.out.1.below hV HGL.out.1.pos) HGL.out.2
    have HIN : Hid (RoomOk q kept (roomF ⟨fn, fv⟩) → countN (insertE q ⟨fn, fv⟩).1 = countN q + 1 ∧ getE (insertE q ⟨fn, fv⟩).1 (countN q : Int) = (⟨fn, fv⟩, 0) ∧ (insertE q ⟨fn, fv⟩).1.first ≤ countN q) := fun hro => ⟨insert_fits_count HX.out.2.2.1 HX.out.2.2.2.1 hro.1, insert_new HX.out.2.2.1 HX.out.2.2.2.1 hro.1, by
      have h1 := insert_fits_count HX.out.2.2.1 HX.out.2.2.2.1 hro.1
      have h2 := insert_fit HX.out.2.2.1 HX.out.2.2.2.1 hro.1
      have h3 := goneN_le (q.cap - roomF ⟨fn, fv⟩) q.l
      rw [h2]; simp only [shrinkE, countN]; omega⟩
    obtain ⟨rm, hrm⟩ : ∃ rm, rm = roomF ⟨fn, fv⟩ := ⟨_, rfl⟩
    rw [← hrm] at HRM HRO HPU HIN
    generalize (insertE q ⟨fn, fv⟩).1 = q2 at HPU HIN
    obtain ⟨n, hn⟩ : ∃ n, n = countN q := ⟨_, rfl⟩
    rw [← hn] at HPU HIN
    have HNC : Hid (n = countN q) := hn
    clear hrm hn
    go_enter Tryz.func53, Tryz.ntmps53
    go_upto_region 1 with fail
    rw [← HW1.out]
    go_region_held3 (fun V => V.cell? ⟨w.heap.size, 0, none⟩ = some (.string fn) ∧ V.cell? ⟨w.heap.size, 1, none⟩ = some (.string fv) ∧ V.cell? ⟨t, 0, none⟩ = some (.pointer (some ⟨b, 0, none⟩)))
      (first
        | (exact K1)
        | (exact K2))
      (first
        | (go_at_call 81; refine (HFD.out _ _ _ _ D1.out).mono ?_; rintro e w2 ⟨rfl, hb2⟩; have TB2 := Lib.hid (D1.out.below hb2); have B2 : Hid (Below w1.heap.size w1 w2) := (below_drewN (Below.refl _ _) 1).trans (hb2.mono (below_drewN (Below.refl w1.heap.size w1) 1).size); have K2 : w2.cell? ⟨w.heap.size, 0, none⟩ = some (.string fn) ∧ w2.cell? ⟨w.heap.size, 1, none⟩ = some (.string fv) ∧ w2.cell? ⟨t, 0, none⟩ = some (.pointer (some ⟨b, 0, none⟩)) := ⟨TB2.out.box.get 0 _ rfl, TB2.out.box.get 1 _ rfl, TB2.out.tw.facts.1⟩; clear hb2))
    clear K1 K2
    have y0 := TB2.out.box.get 0 _ rfl
    have y1 := TB2.out.box.get 1 _ rfl
    go_upto_region 3 with fail
    go_upto_if 22 with (first
      | (go_at_call 70; refine (HRM.out _).mono ?_; rintro e w3 ⟨rfl, hb3⟩; have B3 := Lib.hid (B2.out.trans (hb3.mono B2.out.size)); clear hb3)
      | (go_at_call 82; refine (HRO.out _ B3.out).mono ?_; rintro e w4 ⟨r, rfl, hb4, hro⟩; have B4 := Lib.hid (B3.out.trans (hb4.mono B3.out.size)); have HRR := Lib.hid hro; clear hb4 hro))
    cases r with
    | false =>
      go_wp2_with fail
      go_ret
      exact ⟨false, rfl, fun _ => ⟨sl, vi, vl, (TB1.out.below B4.out).tw, (TStep.same B1.out).trans (TStep.same B4.out)⟩, fun h => by cases h⟩
    | true =>
      have HP := Lib.hid (HPU.out (HRR.out rfl) w4 B4.out)
      have HI := Lib.hid (HIN.out (HRR.out rfl))
      have yy := (TB1.out.below B4.out).box
      have y40 := yy.get 0 _ rfl
      have y41 := yy.get 1 _ rfl
      clear yy
      go_upto_region 6 with (go_at_call 83; refine HP.out.mono ?_; rintro e w5 ⟨rfl, ins2, ht2, sl4, vi4, vl4, htw, hst⟩; have HT2 := Lib.hid ht2; have TB4 := Lib.hid ((TB1.out.below B4.out).step htw hst); have ST4 := Lib.hid ((TStep.same B4.out).trans hst); clear ht2 htw hst)
      obtain ⟨m2, hm2⟩ : ∃ m2, m2 = m + 1 := ⟨_, rfl⟩
      rw [← hm2] at HT2
      have HN : Hid (q2.first ≤ n ∧ n < countN q2 ∧ getE q2 (n : Int) = (⟨fn, fv⟩, 0) ∧ n ≤ 1152921504606846976 ∧ m2 ≤ m + 1) := ⟨HI.out.2.2, by have := HI.out.1; omega, HI.out.2.1, by have := HX.out.2.2.2.2; have := HNC.out; omega, by omega⟩
      clear hm2 HP y0 y1 y40 y41
      obtain ⟨need1, hne1⟩ : ∃ x, x = max need (n + 1) := ⟨_, rfl⟩
      obtain ⟨kept1, hke1⟩ : ∃ x, x = min kept n := ⟨_, rfl⟩
      have HNK : Hid (need ≤ need1 ∧ n + 1 ≤ need1 ∧ (need1 = need ∨ need1 = n + 1) ∧ kept1 ≤ kept ∧ kept1 ≤ n ∧ (kept1 = kept ∨ kept1 = n)) := ⟨by omega, by omega, by omega, by omega, by omega, by omega⟩
      have HKP : Hid (∀ V sl4 vi4 vl4, Tw t b sl4 true base need kept vi4 vl4 ins2 lines q2 V → Calls Tryz.prog 84 #[.pointer (some ⟨t, 0, none⟩), .int .i64 (n : Int)] V fun e w' => e = .returned (.tuple #[]) ∧ TDid t b true base sl4 vi4 vl4 V need1 kept1 ins2 lines q2 w') := fun V sl4 vi4 vl4 hV => keep_any n V hV (by have := HN.out; omega) _ _ hne1 hke1
      clear hne1 hke1
      obtain ⟨hn1, hn2, hge, hnb, _⟩ := HN.out
      by_cases hnlt : n < base
      · have e3 : decide ((n : Int) < (base : Int)) = true := decide_eq_true (by omega)
        have e4 : decide (n < base) = true := decide_eq_true hnlt
        have HNL : Hid (n < base) := hnlt
        clear hn1
        go_upto_region 8 with (go_at_call 84; refine (HKP.out _ _ _ _ TB4.out.tw).mono ?_; rintro e w5 ⟨rfl, sl5, vi5, vl5, ht5, hs5⟩; have TB5 := Lib.hid (TB4.out.step ht5 hs5); have ST5 := Lib.hid (ST4.out.trans hs5); obtain ⟨vla, vlc, hvl⟩ := ht5.rl.len; subst hvl; have c2 : w5.cell? ⟨t, 2, none⟩ = some (.int .i64 (base : Int)) := ht5.facts.2.2.1; clear ht5 hs5)
        obtain ⟨k, hk⟩ : ∃ k : Nat, k = base - 1 - n := ⟨_, rfl⟩
        have hw1 : IntKind.i64.wrap ((base : Int) - 1) = (base : Int) - 1 := wraps_i64' _ (by omega) (by have := HBQ.out; omega)
        have hw2 : IntKind.i64.wrap ((base : Int) - 1 - (n : Int)) = (k : Int) := by rw [wraps_i64' _ (by omega) (by have := HBQ.out; omega)]; omega
        have hbq0 := HBQ.out
        have hok : OkP 128 6 (k : Int) := ⟨by decide, by decide, by omega, by omega⟩
        obtain ⟨Z, hZ⟩ : ∃ Z, Z = encP 128 6 (k : Int) := ⟨_, rfl⟩
        obtain ⟨Y, hY⟩ : ∃ Y, Y = lines ++ Z := ⟨_, rfl⟩
        have HYZ := Lib.hid hY
        have HZ : Hid (Bts Z ∧ Z ≠ [] ∧ Z.length ≤ 1100 ∧ ∀ (q' : TQ) (need' : Nat) (pre post : List Int), Ext kept1 q2 q' → need1 ≤ need' → lineE q' need' (countN q0 : Int) (pre ++ (Z ++ post)) pre.length = (⟨fn, fv⟩, pre.length + Z.length, 0)) := by
          have hl10 := sizeN_le (w := 6) (n := (k : Int)) (by omega)
          refine ⟨by rw [hZ]; exact encP_bts hok, by rw [hZ]; exact encP_ne _ _ _, by rw [hZ, encP_len]; omega, fun q' need' pre post hE hN => ?_⟩
          rw [hZ]
          refine line_whole q' need' (countN q0 : Int) k (by omega) ⟨fn, fv⟩ ?_ pre post
          have hbq := HBQ.out
          have hnk := HNK.out
          have e9 : (countN q0 : Int) - 1 - (k : Int) = (n : Int) := by omega
          rw [e9]
          unfold getB
          rw [if_neg (by omega), hE n (by omega) hn2, hge]
        have HNUM : Hid (∀ V sl6 vi6, Tw t b sl6 true base need1 kept1 vi6 (.slice vla lines.length vlc) ins2 lines q2 V → Calls Tryz.prog 28 #[.slice vla lines.length vlc, .int .i64 128, .int .i64 6, .int .i64 (k : Int)] V fun e w' => ∃ v', e = .returned v' ∧ App (.slice vla lines.length vlc) Y V v' w') := fun V sl6 vi6 hV => by
          rw [hY, hZ]
          exact number_app _ lines 128 6 (k : Int) V hV.rl (by have h1 := HT2.out.sL; have h2 := HX.out.2.1; omega) hok
        clear hZ hY hok hk hn2 hge hnb hnlt hbq0
        go_upto_region 8 with fail
        have D5 := Lib.hid (TB5.out.below (below_drewN (Below.refl _ _) 1))
        have c6 : w5.drew.cell? ⟨t, 6, none⟩ = some (.slice vla lines.length vlc) := D5.out.tw.facts.2.2.2.2.2.2
        have c2' : w5.drew.cell? ⟨t, 2, none⟩ = some (.int .i64 (base : Int)) := D5.out.tw.facts.2.2.1
        go_cut [] (fun wx => ∃ vl6 : Value, Tw t b sl5 true base need1 kept1 vi5 vl6 ins2 Y q2 wx ∧ TStep t b sl5 vi5 (.slice vla lines.length vlc) sl5 vi5 vl6 w5 wx)
        case first =>
          go_region_law (first
            | (go_simp; go_at_call 28; refine (HNUM.out _ _ _ D5.out.tw).mono ?_; rintro e w6 ⟨v6, rfl, ap⟩; obtain ⟨k5, kz5, kl5⟩ := D5.out.tw.cell6 ap; have AP := Lib.hid ap; obtain ⟨v6a, v6c, hv6⟩ := ap.row.len; subst hv6; clear ap))
          all_goals
            go_wp2_with fail
            go_meet
            have SI := D5.out.tw.setL AP.out
            exact ⟨_, SI.1, (TStep.same (below_drewN (Below.refl _ _) 1)).trans SI.2⟩
        case rest =>
        obtain ⟨vl6, ht6, hs6⟩ := hcut
        have HT6 := Lib.hid ht6
        have HS6 := Lib.hid hs6
        clear ht6 hs6 c6 c2'
        go_wp2_with fail
        go_ret
        refine ⟨true, rfl, (fun h => by cases h), fun _ => ⟨q2, m2, need1, kept1, ins2, Y, ?_, HN.out.2.2.2.2, sl5, vi5, vl6, HT6.out, ((TStep.same B1.out).trans ST5.out).trans HS6.out⟩⟩
        have hnn := HN.out
        rw [HYZ.out]
        exact HT2.out.put_line HZ.out.1 HZ.out.2.1 HZ.out.2.2.1 HNK.out.1 (by have := HT2.out.need_le; have := HNK.out; omega) HNK.out.2.2.2.1 (by have := HT2.out.keptF; have := HNK.out; omega) (fun h => by cases h) HZ.out.2.2.2
      · have e3 : decide ((n : Int) < (base : Int)) = false := decide_eq_false (by omega)
        have e4 : decide (n < base) = false := decide_eq_false hnlt
        clear hn1
        go_upto_region 9 with (go_at_call 84; refine (HKP.out _ _ _ _ TB4.out.tw).mono ?_; rintro e w5 ⟨rfl, sl5, vi5, vl5, ht5, hs5⟩; have TB5 := Lib.hid (TB4.out.step ht5 hs5); have ST5 := Lib.hid (ST4.out.trans hs5); obtain ⟨vla, vlc, hvl⟩ := ht5.rl.len; subst hvl; have c2 : w5.cell? ⟨t, 2, none⟩ = some (.int .i64 (base : Int)) := ht5.facts.2.2.1; clear ht5 hs5)
        obtain ⟨k, hk⟩ : ∃ k : Nat, k = n - base := ⟨_, rfl⟩
        have hw1 : IntKind.i64.wrap ((n : Int) - (base : Int)) = (k : Int) := by rw [wraps_i64' _ (by omega) (by have := HBQ.out; omega)]; omega
        have hbq0 := HBQ.out
        have hok : OkP 16 4 (k : Int) := ⟨by decide, by decide, by omega, by omega⟩
        obtain ⟨Z, hZ⟩ : ∃ Z, Z = encP 16 4 (k : Int) := ⟨_, rfl⟩
        obtain ⟨Y, hY⟩ : ∃ Y, Y = lines ++ Z := ⟨_, rfl⟩
        have HYZ := Lib.hid hY
        have HZ : Hid (Bts Z ∧ Z ≠ [] ∧ Z.length ≤ 1100 ∧ ∀ (q' : TQ) (need' : Nat) (pre post : List Int), Ext kept1 q2 q' → need1 ≤ need' → lineE q' need' (countN q0 : Int) (pre ++ (Z ++ post)) pre.length = (⟨fn, fv⟩, pre.length + Z.length, 0)) := by
          have hl10 := sizeN_le (w := 4) (n := (k : Int)) (by omega)
          refine ⟨by rw [hZ]; exact encP_bts hok, by rw [hZ]; exact encP_ne _ _ _, by rw [hZ, encP_len]; omega, fun q' need' pre post hE hN => ?_⟩
          rw [hZ]
          refine line_past q' need' (countN q0 : Int) k (by omega) ⟨fn, fv⟩ ?_ pre post
          have hbq := HBQ.out
          have hnk := HNK.out
          have e9 : (countN q0 : Int) + (k : Int) = (n : Int) := by omega
          rw [e9]
          unfold getB
          rw [if_neg (by omega), hE n (by omega) hn2, hge]
        have HNUM : Hid (∀ V sl6 vi6, Tw t b sl6 true base need1 kept1 vi6 (.slice vla lines.length vlc) ins2 lines q2 V → Calls Tryz.prog 28 #[.slice vla lines.length vlc, .int .i64 16, .int .i64 4, .int .i64 (k : Int)] V fun e w' => ∃ v', e = .returned v' ∧ App (.slice vla lines.length vlc) Y V v' w') := fun V sl6 vi6 hV => by
          rw [hY, hZ]
          exact number_app _ lines 16 4 (k : Int) V hV.rl (by have h1 := HT2.out.sL; have h2 := HX.out.2.1; omega) hok
        clear hZ hY hok hk hn2 hge hnb hnlt hbq0
        go_upto_region 9 with fail
        have D5 := Lib.hid (TB5.out.below (below_drewN (Below.refl _ _) 1))
        have c6 : w5.drew.cell? ⟨t, 6, none⟩ = some (.slice vla lines.length vlc) := D5.out.tw.facts.2.2.2.2.2.2
        have c2' : w5.drew.cell? ⟨t, 2, none⟩ = some (.int .i64 (base : Int)) := D5.out.tw.facts.2.2.1
        go_cut [] (fun wx => ∃ vl6 : Value, Tw t b sl5 true base need1 kept1 vi5 vl6 ins2 Y q2 wx ∧ TStep t b sl5 vi5 (.slice vla lines.length vlc) sl5 vi5 vl6 w5 wx)
        case first =>
          go_region_law (first
            | (go_simp; go_at_call 28; refine (HNUM.out _ _ _ D5.out.tw).mono ?_; rintro e w6 ⟨v6, rfl, ap⟩; obtain ⟨k5, kz5, kl5⟩ := D5.out.tw.cell6 ap; have AP := Lib.hid ap; obtain ⟨v6a, v6c, hv6⟩ := ap.row.len; subst hv6; clear ap))
          all_goals
            go_wp2_with fail
            go_meet
            have SI := D5.out.tw.setL AP.out
            exact ⟨_, SI.1, (TStep.same (below_drewN (Below.refl _ _) 1)).trans SI.2⟩
        case rest =>
        obtain ⟨vl6, ht6, hs6⟩ := hcut
        have HT6 := Lib.hid ht6
        have HS6 := Lib.hid hs6
        clear ht6 hs6 c6 c2'
        go_wp2_with fail
        go_ret
        refine ⟨true, rfl, (fun h => by cases h), fun _ => ⟨q2, m2, need1, kept1, ins2, Y, ?_, HN.out.2.2.2.2, sl5, vi5, vl6, HT6.out, ((TStep.same B1.out).trans ST5.out).trans HS6.out⟩⟩
        have hnn := HN.out
        rw [HYZ.out]
        exact HT2.out.put_line HZ.out.1 HZ.out.2.1 HZ.out.2.2.1 HNK.out.1 (by have := HT2.out.need_le; have := HNK.out; omega) HNK.out.2.2.2.1 (by have := HT2.out.keptF; have := HNK.out; omega) (fun h => by cases h) HZ.out.2.2.2
  · subst hpn
    have d1 : decide ((n : Int) < 0) = false := decide_eq_false (by omega)
    have HN : Hid (q.first ≤ n ∧ n < countN q ∧ getE q (n : Int) = (⟨fn, fv⟩, 0) ∧ n ≤ 1152921504606846976 ∧ m ≤ m + 1) := ⟨hnf, hnc, hge, by have := HX.out.2.2.2.2; omega, by omega⟩
    have HT2 := HT
    clear hnf hnc hge
    go_enter Tryz.func53, Tryz.ntmps53
    go_upto_region 1 with fail
    rw [← HW1.out]
    go_region_held3 (fun V => V.cell? ⟨w.heap.size, 0, none⟩ = some (.string fn) ∧ V.cell? ⟨w.heap.size, 1, none⟩ = some (.string fv) ∧ V.cell? ⟨t, 0, none⟩ = some (.pointer (some ⟨b, 0, none⟩)))
      (first
        | (exact K1)
        | (exact K2))
      (first
        | (go_at_call 81; refine (HFD.out _ _ _ _ D1.out).mono ?_; rintro e w2 ⟨rfl, hb2⟩; have TB2 := Lib.hid (D1.out.below hb2); have B2 : Hid (Below w1.heap.size w1 w2) := (below_drewN (Below.refl _ _) 1).trans (hb2.mono (below_drewN (Below.refl w1.heap.size w1) 1).size); have K2 : w2.cell? ⟨w.heap.size, 0, none⟩ = some (.string fn) ∧ w2.cell? ⟨w.heap.size, 1, none⟩ = some (.string fv) ∧ w2.cell? ⟨t, 0, none⟩ = some (.pointer (some ⟨b, 0, none⟩)) := ⟨TB2.out.box.get 0 _ rfl, TB2.out.box.get 1 _ rfl, TB2.out.tw.facts.1⟩; clear hb2))
    clear K1 K2
    have TB4 := TB2
    have ST4 : Hid (TStep t b sl vi vl sl vi vl w1 w2) := TStep.same B2.out
    obtain ⟨need1, hne1⟩ : ∃ x, x = max need (n + 1) := ⟨_, rfl⟩
    obtain ⟨kept1, hke1⟩ : ∃ x, x = min kept n := ⟨_, rfl⟩
    have HNK : Hid (need ≤ need1 ∧ n + 1 ≤ need1 ∧ (need1 = need ∨ need1 = n + 1) ∧ kept1 ≤ kept ∧ kept1 ≤ n ∧ (kept1 = kept ∨ kept1 = n)) := ⟨by omega, by omega, by omega, by omega, by omega, by omega⟩
    have HKP : Hid (∀ V sl4 vi4 vl4, Tw t b sl4 true base need kept vi4 vl4 ins lines q V → Calls Tryz.prog 84 #[.pointer (some ⟨t, 0, none⟩), .int .i64 (n : Int)] V fun e w' => e = .returned (.tuple #[]) ∧ TDid t b true base sl4 vi4 vl4 V need1 kept1 ins lines q w') := fun V sl4 vi4 vl4 hV => keep_any n V hV (by have := HN.out; omega) _ _ hne1 hke1
    clear hne1 hke1
    obtain ⟨hn1, hn2, hge, hnb, _⟩ := HN.out
    by_cases hnlt : n < base
    · have e3 : decide ((n : Int) < (base : Int)) = true := decide_eq_true (by omega)
      have e4 : decide (n < base) = true := decide_eq_true hnlt
      have HNL : Hid (n < base) := hnlt
      clear hn1
      go_upto_region 8 with (go_at_call 84; refine (HKP.out _ _ _ _ TB4.out.tw).mono ?_; rintro e w5 ⟨rfl, sl5, vi5, vl5, ht5, hs5⟩; have TB5 := Lib.hid (TB4.out.step ht5 hs5); have ST5 := Lib.hid (ST4.out.trans hs5); obtain ⟨vla, vlc, hvl⟩ := ht5.rl.len; subst hvl; have c2 : w5.cell? ⟨t, 2, none⟩ = some (.int .i64 (base : Int)) := ht5.facts.2.2.1; clear ht5 hs5)
      obtain ⟨k, hk⟩ : ∃ k : Nat, k = base - 1 - n := ⟨_, rfl⟩
      have hw1 : IntKind.i64.wrap ((base : Int) - 1) = (base : Int) - 1 := wraps_i64' _ (by omega) (by have := HBQ.out; omega)
      have hw2 : IntKind.i64.wrap ((base : Int) - 1 - (n : Int)) = (k : Int) := by rw [wraps_i64' _ (by omega) (by have := HBQ.out; omega)]; omega
      have hbq0 := HBQ.out
      have hok : OkP 128 6 (k : Int) := ⟨by decide, by decide, by omega, by omega⟩
      obtain ⟨Z, hZ⟩ : ∃ Z, Z = encP 128 6 (k : Int) := ⟨_, rfl⟩
      obtain ⟨Y, hY⟩ : ∃ Y, Y = lines ++ Z := ⟨_, rfl⟩
      have HYZ := Lib.hid hY
      have HZ : Hid (Bts Z ∧ Z ≠ [] ∧ Z.length ≤ 1100 ∧ ∀ (q' : TQ) (need' : Nat) (pre post : List Int), Ext kept1 q q' → need1 ≤ need' → lineE q' need' (countN q0 : Int) (pre ++ (Z ++ post)) pre.length = (⟨fn, fv⟩, pre.length + Z.length, 0)) := by
        have hl10 := sizeN_le (w := 6) (n := (k : Int)) (by omega)
        refine ⟨by rw [hZ]; exact encP_bts hok, by rw [hZ]; exact encP_ne _ _ _, by rw [hZ, encP_len]; omega, fun q' need' pre post hE hN => ?_⟩
        rw [hZ]
        refine line_whole q' need' (countN q0 : Int) k (by omega) ⟨fn, fv⟩ ?_ pre post
        have hbq := HBQ.out
        have hnk := HNK.out
        have e9 : (countN q0 : Int) - 1 - (k : Int) = (n : Int) := by omega
        rw [e9]
        unfold getB
        rw [if_neg (by omega), hE n (by omega) hn2, hge]
      have HNUM : Hid (∀ V sl6 vi6, Tw t b sl6 true base need1 kept1 vi6 (.slice vla lines.length vlc) ins lines q V → Calls Tryz.prog 28 #[.slice vla lines.length vlc, .int .i64 128, .int .i64 6, .int .i64 (k : Int)] V fun e w' => ∃ v', e = .returned v' ∧ App (.slice vla lines.length vlc) Y V v' w') := fun V sl6 vi6 hV => by
        rw [hY, hZ]
        exact number_app _ lines 128 6 (k : Int) V hV.rl (by have h1 := HT2.out.sL; have h2 := HX.out.2.1; omega) hok
      clear hZ hY hok hk hn2 hge hnb hnlt hbq0
      go_upto_region 8 with fail
      have D5 := Lib.hid (TB5.out.below (below_drewN (Below.refl _ _) 1))
      have c6 : w5.drew.cell? ⟨t, 6, none⟩ = some (.slice vla lines.length vlc) := D5.out.tw.facts.2.2.2.2.2.2
      have c2' : w5.drew.cell? ⟨t, 2, none⟩ = some (.int .i64 (base : Int)) := D5.out.tw.facts.2.2.1
      go_cut [] (fun wx => ∃ vl6 : Value, Tw t b sl5 true base need1 kept1 vi5 vl6 ins Y q wx ∧ TStep t b sl5 vi5 (.slice vla lines.length vlc) sl5 vi5 vl6 w5 wx)
      case first =>
        go_region_law (first
          | (go_simp; go_at_call 28; refine (HNUM.out _ _ _ D5.out.tw).mono ?_; rintro e w6 ⟨v6, rfl, ap⟩; obtain ⟨k5, kz5, kl5⟩ := D5.out.tw.cell6 ap; have AP := Lib.hid ap; obtain ⟨v6a, v6c, hv6⟩ := ap.row.len; subst hv6; clear ap))
        all_goals
          go_wp2_with fail
          go_meet
          have SI := D5.out.tw.setL AP.out
          exact ⟨_, SI.1, (TStep.same (below_drewN (Below.refl _ _) 1)).trans SI.2⟩
      case rest =>
      obtain ⟨vl6, ht6, hs6⟩ := hcut
      have HT6 := Lib.hid ht6
      have HS6 := Lib.hid hs6
      clear ht6 hs6 c6 c2'
      go_wp2_with fail
      go_ret
      refine ⟨true, rfl, (fun h => by cases h), fun _ => ⟨q, m, need1, kept1, ins, Y, ?_, HN.out.2.2.2.2, sl5, vi5, vl6, HT6.out, ((TStep.same B1.out).trans ST5.out).trans HS6.out⟩⟩
      have hnn := HN.out
      rw [HYZ.out]
      exact HT2.out.put_line HZ.out.1 HZ.out.2.1 HZ.out.2.2.1 HNK.out.1 (by have := HT2.out.need_le; have := HNK.out; omega) HNK.out.2.2.2.1 (by have := HT2.out.keptF; have := HNK.out; omega) (fun h => by cases h) HZ.out.2.2.2
    · have e3 : decide ((n : Int) < (base : Int)) = false := decide_eq_false (by omega)
      have e4 : decide (n < base) = false := decide_eq_false hnlt
      clear hn1
      go_upto_region 9 with (go_at_call 84; refine (HKP.out _ _ _ _ TB4.out.tw).mono ?_; rintro e w5 ⟨rfl, sl5, vi5, vl5, ht5, hs5⟩; have TB5 := Lib.hid (TB4.out.step ht5 hs5); have ST5 := Lib.hid (ST4.out.trans hs5); obtain ⟨vla, vlc, hvl⟩ := ht5.rl.len; subst hvl; have c2 : w5.cell? ⟨t, 2, none⟩ = some (.int .i64 (base : Int)) := ht5.facts.2.2.1; clear ht5 hs5)
      obtain ⟨k, hk⟩ : ∃ k : Nat, k = n - base := ⟨_, rfl⟩
      have hw1 : IntKind.i64.wrap ((n : Int) - (base : Int)) = (k : Int) := by rw [wraps_i64' _ (by omega) (by have := HBQ.out; omega)]; omega
      have hbq0 := HBQ.out
      have hok : OkP 16 4 (k : Int) := ⟨by decide, by decide, by omega, by omega⟩
      obtain ⟨Z, hZ⟩ : ∃ Z, Z = encP 16 4 (k : Int) := ⟨_, rfl⟩
      obtain ⟨Y, hY⟩ : ∃ Y, Y = lines ++ Z := ⟨_, rfl⟩
      have HYZ := Lib.hid hY
      have HZ : Hid (Bts Z ∧ Z ≠ [] ∧ Z.length ≤ 1100 ∧ ∀ (q' : TQ) (need' : Nat) (pre post : List Int), Ext kept1 q q' → need1 ≤ need' → lineE q' need' (countN q0 : Int) (pre ++ (Z ++ post)) pre.length = (⟨fn, fv⟩, pre.length + Z.length, 0)) := by
        have hl10 := sizeN_le (w := 4) (n := (k : Int)) (by omega)
        refine ⟨by rw [hZ]; exact encP_bts hok, by rw [hZ]; exact encP_ne _ _ _, by rw [hZ, encP_len]; omega, fun q' need' pre post hE hN => ?_⟩
        rw [hZ]
        refine line_past q' need' (countN q0 : Int) k (by omega) ⟨fn, fv⟩ ?_ pre post
        have hbq := HBQ.out
        have hnk := HNK.out
        have e9 : (countN q0 : Int) + (k : Int) = (n : Int) := by omega
        rw [e9]
        unfold getB
        rw [if_neg (by omega), hE n (by omega) hn2, hge]
      have HNUM : Hid (∀ V sl6 vi6, Tw t b sl6 true base need1 kept1 vi6 (.slice vla lines.length vlc) ins lines q V → Calls Tryz.prog 28 #[.slice vla lines.length vlc, .int .i64 16, .int .i64 4, .int .i64 (k : Int)] V fun e w' => ∃ v', e = .returned v' ∧ App (.slice vla lines.length vlc) Y V v' w') := fun V sl6 vi6 hV => by
        rw [hY, hZ]
        exact number_app _ lines 16 4 (k : Int) V hV.rl (by have h1 := HT2.out.sL; have h2 := HX.out.2.1; omega) hok
      clear hZ hY hok hk hn2 hge hnb hnlt hbq0
      go_upto_region 9 with fail
      have D5 := Lib.hid (TB5.out.below (below_drewN (Below.refl _ _) 1))
      have c6 : w5.drew.cell? ⟨t, 6, none⟩ = some (.slice vla lines.length vlc) := D5.out.tw.facts.2.2.2.2.2.2
      have c2' : w5.drew.cell? ⟨t, 2, none⟩ = some (.int .i64 (base : Int)) := D5.out.tw.facts.2.2.1
      go_cut [] (fun wx => ∃ vl6 : Value, Tw t b sl5 true base need1 kept1 vi5 vl6 ins Y q wx ∧ TStep t b sl5 vi5 (.slice vla lines.length vlc) sl5 vi5 vl6 w5 wx)
      case first =>
        go_region_law (first
          | (go_simp; go_at_call 28; refine (HNUM.out _ _ _ D5.out.tw).mono ?_; rintro e w6 ⟨v6, rfl, ap⟩; obtain ⟨k5, kz5, kl5⟩ := D5.out.tw.cell6 ap; have AP := Lib.hid ap; obtain ⟨v6a, v6c, hv6⟩ := ap.row.len; subst hv6; clear ap))
        all_goals
          go_wp2_with fail
          go_meet
          have SI := D5.out.tw.setL AP.out
          exact ⟨_, SI.1, (TStep.same (below_drewN (Below.refl _ _) 1)).trans SI.2⟩
      case rest =>
      obtain ⟨vl6, ht6, hs6⟩ := hcut
      have HT6 := Lib.hid ht6
      have HS6 := Lib.hid hs6
      clear ht6 hs6 c6 c2'
      go_wp2_with fail
      go_ret
      refine ⟨true, rfl, (fun h => by cases h), fun _ => ⟨q, m, need1, kept1, ins, Y, ?_, HN.out.2.2.2.2, sl5, vi5, vl6, HT6.out, ((TStep.same B1.out).trans ST5.out).trans HS6.out⟩⟩
      have hnn := HN.out
      rw [HYZ.out]
      exact HT2.out.put_line HZ.out.1 HZ.out.2.1 HZ.out.2.2.1 HNK.out.1 (by have := HT2.out.need_le; have := HNK.out; omega) HNK.out.2.2.2.1 (by have := HT2.out.keptF; have := HNK.out; omega) (fun h => by cases h) HZ.out.2.2.2
end Go.Proofs.YtbkbabaoockigaaGreatDoor
