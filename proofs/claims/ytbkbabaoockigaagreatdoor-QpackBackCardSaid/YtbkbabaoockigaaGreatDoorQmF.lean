/- Walks of layer 14, the document's decoder: a line that goes well. -/
import Derived.Test.YtbkbabaoockigaaGreatDoorQmE
set_option maxRecDepth 100000
set_option linter.unusedSimpArgs false
set_option linter.unusedVariables false
namespace Go.Proofs.YtbkbabaoockigaaGreatDoor
open Go.RowKit

theorem lineE_A {q : TQ} {need : Nat} {base : Int} {xs : List Int} {a x : Nat} {fn fv : ByteArray} (hc : 128 ≤ xs.getD a 0) (h : lineE q need base xs a = (⟨fn, fv⟩, x, 0)) : ∃ f n, numE xs a 6 = (f, n, x, 0) ∧ (if 192 ≤ xs.getD a 0 then fixedE n else getB q need (base - 1 - n)) = (⟨fn, fv⟩, 0) := by
  unfold lineE at h
  rw [if_pos hc] at h
  obtain ⟨⟨f, n, x1, y⟩, hN⟩ : ∃ r, numE xs a 6 = r := ⟨_, rfl⟩
  simp only [hN] at h
  by_cases hy : y = 0
  · subst hy
    rw [if_neg (fun h => h rfl)] at h
    obtain ⟨⟨fd, y⟩, hF⟩ : ∃ r, (if 192 ≤ xs.getD a 0 then fixedE n else getB q need (base - 1 - n)) = r := ⟨_, rfl⟩
    simp only [hF, Prod.mk.injEq] at h
    obtain ⟨rfl, rfl, rfl⟩ := h
    exact ⟨f, n, hN, hF⟩
  · rw [if_pos hy] at h
    simp only [Prod.mk.injEq] at h
    exact absurd h.2.2 hy
theorem lineE_B {q : TQ} {need : Nat} {base : Int} {xs : List Int} {a x : Nat} {fn fv : ByteArray} (hc1 : ¬ 128 ≤ xs.getD a 0) (hc : 64 ≤ xs.getD a 0) (h : lineE q need base xs a = (⟨fn, fv⟩, x, 0)) :
    ∃ f n x1 v0, numE xs a 4 = (f, n, x1, 0) ∧ textE xs x1 8 512 = (fv, x, 0) ∧ (if xs.getD a 0 / 16 % 2 = 1 then fixedE n else getB q need (base - 1 - n)) = (⟨fn, v0⟩, 0) := by
  unfold lineE at h
  rw [if_neg hc1, if_pos hc] at h
  obtain ⟨⟨f, n, x1, y⟩, hN⟩ : ∃ r, numE xs a 4 = r := ⟨_, rfl⟩
  simp only [hN] at h
  by_cases hy : y = 0
  · subst hy
    rw [if_neg (fun h => h rfl)] at h
    obtain ⟨⟨s, x2, y⟩, hT⟩ : ∃ r, textE xs x1 8 512 = r := ⟨_, rfl⟩
    simp only [hT] at h
    by_cases hy : y = 0
    · subst hy
      rw [if_neg (fun h => h rfl)] at h
      obtain ⟨⟨fd, y⟩, hF⟩ : ∃ r, (if xs.getD a 0 / 16 % 2 = 1 then fixedE n else getB q need (base - 1 - n)) = r := ⟨_, rfl⟩
      simp only [hF, Prod.mk.injEq, Fd.mk.injEq] at h
      obtain ⟨⟨rfl, rfl⟩, rfl, rfl⟩ := h
      exact ⟨f, n, x1, fd.v, hN, hT, hF⟩
    · rw [if_pos hy] at h
      simp only [Prod.mk.injEq] at h
      exact absurd h.2.2 hy
  · rw [if_pos hy] at h
    simp only [Prod.mk.injEq] at h
    exact absurd h.2.2 hy
theorem lineE_C {q : TQ} {need : Nat} {base : Int} {xs : List Int} {a x : Nat} {fn fv : ByteArray} (hc1 : ¬ 128 ≤ xs.getD a 0) (hc2 : ¬ 64 ≤ xs.getD a 0) (hc : 32 ≤ xs.getD a 0) (h : lineE q need base xs a = (⟨fn, fv⟩, x, 0)) :
    ∃ x1, textE xs a 4 64 = (fn, x1, 0) ∧ textE xs x1 8 512 = (fv, x, 0) := by
  unfold lineE at h
  rw [if_neg hc1, if_neg hc2, if_pos hc] at h
  obtain ⟨⟨nm, x1, y⟩, hN⟩ : ∃ r, textE xs a 4 64 = r := ⟨_, rfl⟩
  simp only [hN] at h
  by_cases hy : y = 0
  · subst hy
    rw [if_neg (fun h => h rfl)] at h
    obtain ⟨⟨s, x2, y⟩, hT⟩ : ∃ r, textE xs x1 8 512 = r := ⟨_, rfl⟩
    simp only [hT, Prod.mk.injEq, Fd.mk.injEq] at h
    obtain ⟨⟨rfl, rfl⟩, rfl, rfl⟩ := h
    exact ⟨x1, hN, hT⟩
  · rw [if_pos hy] at h
    simp only [Prod.mk.injEq] at h
    exact absurd h.2.2 hy
theorem lineE_D {q : TQ} {need : Nat} {base : Int} {xs : List Int} {a x : Nat} {fn fv : ByteArray} (hc1 : ¬ 128 ≤ xs.getD a 0) (hc2 : ¬ 64 ≤ xs.getD a 0) (hc3 : ¬ 32 ≤ xs.getD a 0) (hc : 16 ≤ xs.getD a 0) (h : lineE q need base xs a = (⟨fn, fv⟩, x, 0)) :
    ∃ f n, numE xs a 4 = (f, n, x, 0) ∧ getB q need (base + n) = (⟨fn, fv⟩, 0) := by
  unfold lineE at h
  rw [if_neg hc1, if_neg hc2, if_neg hc3, if_pos hc] at h
  obtain ⟨⟨f, n, x1, y⟩, hN⟩ : ∃ r, numE xs a 4 = r := ⟨_, rfl⟩
  simp only [hN] at h
  by_cases hy : y = 0
  · subst hy
    rw [if_neg (fun h => h rfl)] at h
    obtain ⟨⟨fd, y⟩, hF⟩ : ∃ r, getB q need (base + n) = r := ⟨_, rfl⟩
    simp only [hF, Prod.mk.injEq] at h
    obtain ⟨rfl, rfl, rfl⟩ := h
    exact ⟨f, n, hN, hF⟩
  · rw [if_pos hy] at h
    simp only [Prod.mk.injEq] at h
    exact absurd h.2.2 hy
theorem lineE_E {q : TQ} {need : Nat} {base : Int} {xs : List Int} {a x : Nat} {fn fv : ByteArray} (hc1 : ¬ 128 ≤ xs.getD a 0) (hc2 : ¬ 64 ≤ xs.getD a 0) (hc3 : ¬ 32 ≤ xs.getD a 0) (hc : ¬ 16 ≤ xs.getD a 0) (h : lineE q need base xs a = (⟨fn, fv⟩, x, 0)) :
    ∃ f n x1 v0, numE xs a 3 = (f, n, x1, 0) ∧ textE xs x1 8 512 = (fv, x, 0) ∧ getB q need (base + n) = (⟨fn, v0⟩, 0) := by
  unfold lineE at h
  rw [if_neg hc1, if_neg hc2, if_neg hc3, if_neg hc] at h
  obtain ⟨⟨f, n, x1, y⟩, hN⟩ : ∃ r, numE xs a 3 = r := ⟨_, rfl⟩
  simp only [hN] at h
  by_cases hy : y = 0
  · subst hy
    rw [if_neg (fun h => h rfl)] at h
    obtain ⟨⟨s, x2, y⟩, hT⟩ : ∃ r, textE xs x1 8 512 = r := ⟨_, rfl⟩
    simp only [hT] at h
    by_cases hy : y = 0
    · subst hy
      rw [if_neg (fun h => h rfl)] at h
      obtain ⟨⟨fd, y⟩, hF⟩ : ∃ r, getB q need (base + n) = r := ⟨_, rfl⟩
      simp only [hF, Prod.mk.injEq, Fd.mk.injEq] at h
      obtain ⟨⟨rfl, rfl⟩, rfl, rfl⟩ := h
      exact ⟨f, n, x1, fd.v, hN, hT, hF⟩
    · rw [if_pos hy] at h
      simp only [Prod.mk.injEq] at h
      exact absurd h.2.2 hy
  · rw [if_pos hy] at h
    simp only [Prod.mk.injEq] at h
    exact absurd h.2.2 hy
theorem rline_results {W : World} {tmps : Array Value} {A : Nat} {v0 v1 x : Value} (h4 : tmps[8]?.getD undef = .pointer (some ⟨A, 0, none⟩)) (h5 : tmps[9]?.getD undef = x)
    (c0 : W.cell? ⟨A, 0, none⟩ = some v0) (c1 : W.cell? ⟨A, 1, none⟩ = some v1) : (results Tryz.f35 tmps).run Tryz.prog W = .ok (.tuple #[.agg #[v0, v1], x]) W := by
  have hr : Tryz.f35.results = #[.cell 8 74, .tmp 9] := rfl
  simp only [results, hr]
  go_simp

section
variable {g b : Nat} {v : Value} {q : TQ} {vx : Value} {xs : List Int} {a : Nat}
/-- a cell that was made behind is written -/
theorem RF.new {w W : World} {x : Nat} (h : RF g b v q vx xs a w) (h' : RF g b v q vx xs x W) {A : Nat} (hA : w.heap.size ≤ A) (s t : Value) : RF g b v q vx xs x ((W.setCell ⟨A, 0, none⟩ s).setCell ⟨A, 1, none⟩ t) := by
  have k : Keep [A] W ((W.setCell ⟨A, 0, none⟩ s).setCell ⟨A, 1, none⟩ t) := (keep_set _ _ _ _).trans (keep_set _ _ _ _) (by simp)
  have l1 := h.rd.lt
  have l2 := h.tb.lt
  exact ⟨h'.tb.keep k (by simp; omega) (fun h0 j hj => by have := h.tb.vlt h0 j hj; simp; omega), h'.rd.keep k (by simp; omega) (fun h0 j hj => by have := h.rd.read.blt h0 j hj; simp; omega), h.ne, h.vg, h.xb⟩
set_option maxHeartbeats 6400000 in
theorem rline_A1 (w : World) (h : RF g b v q vx xs a w) (hx : Bts xs) (hl : xs.length ≤ 1048576) (hcn : countN q ≤ 4611686018427387904) (ha : a < xs.length) (need : Nat) (hnd : need ≤ 4611686018427387904) (base : Int) (hb0 : 0 ≤ base) (hb1 : base ≤ 9223372036854775807) {fn fv : ByteArray} {x : Nat} (hI : lineE q need base xs a = (⟨fn, fv⟩, x, 0)) (hc0 : 192 ≤ xs.getD a 0) :
    Calls Tryz.prog 35 #[.pointer (some ⟨b, 0, none⟩), .pointer (some ⟨g, 0, none⟩), .int .i64 (need : Int), .int .i64 base] w fun e w' => e = .returned (.tuple #[.agg #[.string fn, .string fv], .int .i64 0]) ∧ Keep [g] w w' ∧ RF g b v q vx xs x w' := by
  obtain ⟨f, n, hN, hF⟩ := lineE_A (by omega) hI
  rw [if_pos hc0] at hF
  have hcb := getD_bts hx a
  obtain ⟨c, hc⟩ : ∃ c, c = xs.getD a 0 := ⟨_, rfl⟩
  rw [← hc] at hcb hc0
  have H0 := Lib.hid h
  have hgz := h.rd.lt
  obtain ⟨w1, hw1⟩ : ∃ W, W = w.alloc (.cells #[.string ⟨#[]⟩, .string ⟨#[]⟩] 74) := ⟨_, rfl⟩
  have B1 : Hid (Below w.heap.size w w1) := (by rw [hw1]; exact below1 w _ : Below _ _ _)
  have Q1 : Hid (Cs w1 w.heap.size [.string ⟨#[]⟩, .string ⟨#[]⟩]) := (by rw [hw1]; exact Cs.made w #[.string ⟨#[]⟩, .string ⟨#[]⟩] 74 : Cs _ _ _)
  have R1 := Lib.hid (h.bel B1.out)
  obtain ⟨c0, c1, _, _⟩ := R1.out.rd.facts
  obtain ⟨d0, d1, _, _⟩ := (R1.out.drw 1).rd.facts
  obtain ⟨vb, vo, vc, rfl, hby⟩ := R1.out.rd.byte ha
  have c2' : w1.cell? ⟨vb, vo + a, none⟩ = some (.int .u8 c) := (by rw [hc]; exact hby 0 : _)
  have c3' : w1.drew.cell? ⟨vb, vo + a, none⟩ = some (.int .u8 c) := (by rw [hc]; exact hby 1 : _)
  have HGA : Hid (w.heap.size ∉ [g]) := (by simp; omega : w.heap.size ∉ [g])
  have hz := zeroFv
  have d128 : decide (c ≥ 128) = true := decide_eq_true (by omega)
  have f128 : decide (128 ≤ c) = true := decide_eq_true (by omega)
  have hand : bits .and .u8 c 64 = 64 := by rw [flag64 c hcb.1 hcb.2, if_pos (by omega)]
  have hn62 := (num_ok hx hN).2.2.2.1
  obtain ⟨L, hL⟩ : ∃ L : Int, L = base - 1 := ⟨_, rfl⟩
  have hwL : IntKind.i64.wrap (base - 1) = L := by rw [wraps_i64' _ (by omega) (by omega)]; omega
  obtain ⟨M, hM⟩ : ∃ M : Int, M = L - (n : Int) := ⟨_, rfl⟩
  have hwM : IntKind.i64.wrap (L - (n : Int)) = M := by rw [wraps_i64' _ (by omega) (by omega)]; omega
  have HN : Hid (∀ W, RF g b v q (.slice (some ⟨vb, vo, none⟩) xs.length vc) xs a W → Calls Tryz.prog 33 #[.pointer (some ⟨g, 0, none⟩), .int .i64 6] W fun e w' => e = .returned (.tuple #[.int .i64 f, .int .i64 (n : Int)]) ∧ Keep [g] W w' ∧ RF g b v q (.slice (some ⟨vb, vo, none⟩) xs.length vc) xs x w') := fun W hW => hW.num hx 6 hN
  have HG : Hid (∀ W, RF g b v q (.slice (some ⟨vb, vo, none⟩) xs.length vc) xs x W → Calls Tryz.prog 56 #[.pointer (some ⟨b, 0, none⟩), .bool true, .int .i64 (n : Int), .int .i64 M, .int .i64 (need : Int)] W fun e w' => e = .returned (.tuple #[.agg #[.string fn, .string fv], .int .i64 0]) ∧ Below W.heap.size W w') := fun W hW => rdnamed_any true n M need W hW.tb hcn (by rw [← hF, hM, hL]; rfl)
  clear hN hF hcb hc0 hn62 hM hL hI
  have HW1 := Lib.hid hw1
  clear h hx hl hcn hby hc hw1 hgz
  go_enter Tryz.func35, Tryz.ntmps35
  go_upto_region 1 with fail
  rw [← HW1.out]
  go_quiet (fail)
  have RA := Lib.hid (R1.out.drw nq)
  have KA : Hid (Keep [g] w (w1.drewN nq)) := Keep.of_below (below_drewN B1.out nq)
  have QA := Lib.hid (Q1.out.below (below_drewN (Below.refl _ _) nq))
  generalize w1.drewN nq = wA at RA KA QA ⊢
  clear c0 c1 d0 d1 c2' c3'
  go_wp2_with (first
    | (go_at_call 33; refine (HN.out _ RA.out).mono ?_; rintro e w2 ⟨rfl, hk, hr⟩; have K2 := Lib.hid (KA.out.trans hk (fun i hi => .inl hi)); have R2 := Lib.hid hr; have Q2 := Lib.hid (QA.out.keep hk HGA.out); obtain ⟨_, _, ee2, _⟩ := hr.rd.facts; have ed2 := (hr.drw 1).rd.facts.2.2.1; clear hk hr)
    | (go_at_call 56; refine (HG.out _ R2.out).mono ?_; rintro e w4 ⟨rfl, hb4⟩; have R4 := Lib.hid (R2.out.bel hb4); have K4 := Lib.hid (K2.out.then_below hb4); have Q4 := Lib.hid (Q2.out.below hb4); have x0 := Q4.out.get 0 _ rfl; have x1 := Q4.out.get 1 _ rfl; have z0 := Q4.out.free 0; have z1 := Q4.out.free 1; have hlz := Q4.out.lt; clear hb4))
  have QD := (Q4.out.set 0 (.string fn)).set 1 (.string fv)
  refine bodyPost_ret (rline_results rfl rfl (QD.get 0 _ rfl) (QD.get 1 _ rfl)) rfl ⟨rfl, ?_, H0.out.new R4.out (Nat.le_refl _) _ _⟩
  exact keep_less (((K4.out.more (S' := w.heap.size :: [g]) (fun i hi => List.mem_cons_of_mem _ hi)).trans (keep_set _ _ _ _) (by simp)).trans (keep_set _ _ _ _) (by simp))
set_option maxHeartbeats 6400000 in
theorem rline_A2 (w : World) (h : RF g b v q vx xs a w) (hx : Bts xs) (hl : xs.length ≤ 1048576) (hcn : countN q ≤ 4611686018427387904) (ha : a < xs.length) (need : Nat) (hnd : need ≤ 4611686018427387904) (base : Int) (hb0 : 0 ≤ base) (hb1 : base ≤ 9223372036854775807) {fn fv : ByteArray} {x : Nat} (hI : lineE q need base xs a = (⟨fn, fv⟩, x, 0)) (hc0 : 128 ≤ xs.getD a 0 ∧ ¬ 192 ≤ xs.getD a 0) :
    Calls Tryz.prog 35 #[.pointer (some ⟨b, 0, none⟩), .pointer (some ⟨g, 0, none⟩), .int .i64 (need : Int), .int .i64 base] w fun e w' => e = .returned (.tuple #[.agg #[.string fn, .string fv], .int .i64 0]) ∧ Keep [g] w w' ∧ RF g b v q vx xs x w' := by
  obtain ⟨f, n, hN, hF⟩ := lineE_A (by omega) hI
  rw [if_neg hc0.2] at hF
  have hcb := getD_bts hx a
  obtain ⟨c, hc⟩ : ∃ c, c = xs.getD a 0 := ⟨_, rfl⟩
  rw [← hc] at hcb hc0
  have H0 := Lib.hid h
  have hgz := h.rd.lt
  obtain ⟨w1, hw1⟩ : ∃ W, W = w.alloc (.cells #[.string ⟨#[]⟩, .string ⟨#[]⟩] 74) := ⟨_, rfl⟩
  have B1 : Hid (Below w.heap.size w w1) := (by rw [hw1]; exact below1 w _ : Below _ _ _)
  have Q1 : Hid (Cs w1 w.heap.size [.string ⟨#[]⟩, .string ⟨#[]⟩]) := (by rw [hw1]; exact Cs.made w #[.string ⟨#[]⟩, .string ⟨#[]⟩] 74 : Cs _ _ _)
  have R1 := Lib.hid (h.bel B1.out)
  obtain ⟨c0, c1, _, _⟩ := R1.out.rd.facts
  obtain ⟨d0, d1, _, _⟩ := (R1.out.drw 1).rd.facts
  obtain ⟨vb, vo, vc, rfl, hby⟩ := R1.out.rd.byte ha
  have c2' : w1.cell? ⟨vb, vo + a, none⟩ = some (.int .u8 c) := (by rw [hc]; exact hby 0 : _)
  have c3' : w1.drew.cell? ⟨vb, vo + a, none⟩ = some (.int .u8 c) := (by rw [hc]; exact hby 1 : _)
  have HGA : Hid (w.heap.size ∉ [g]) := (by simp; omega : w.heap.size ∉ [g])
  have hz := zeroFv
  have d128 : decide (c ≥ 128) = true := decide_eq_true (by omega)
  have f128 : decide (128 ≤ c) = true := decide_eq_true (by omega)
  have hand : bits .and .u8 c 64 = 0 := by rw [flag64 c hcb.1 hcb.2, if_neg (by omega)]
  have hn62 := (num_ok hx hN).2.2.2.1
  obtain ⟨L, hL⟩ : ∃ L : Int, L = base - 1 := ⟨_, rfl⟩
  have hwL : IntKind.i64.wrap (base - 1) = L := by rw [wraps_i64' _ (by omega) (by omega)]; omega
  obtain ⟨M, hM⟩ : ∃ M : Int, M = L - (n : Int) := ⟨_, rfl⟩
  have hwM : IntKind.i64.wrap (L - (n : Int)) = M := by rw [wraps_i64' _ (by omega) (by omega)]; omega
  have HN : Hid (∀ W, RF g b v q (.slice (some ⟨vb, vo, none⟩) xs.length vc) xs a W → Calls Tryz.prog 33 #[.pointer (some ⟨g, 0, none⟩), .int .i64 6] W fun e w' => e = .returned (.tuple #[.int .i64 f, .int .i64 (n : Int)]) ∧ Keep [g] W w' ∧ RF g b v q (.slice (some ⟨vb, vo, none⟩) xs.length vc) xs x w') := fun W hW => hW.num hx 6 hN
  have HG : Hid (∀ W, RF g b v q (.slice (some ⟨vb, vo, none⟩) xs.length vc) xs x W → Calls Tryz.prog 56 #[.pointer (some ⟨b, 0, none⟩), .bool false, .int .i64 (n : Int), .int .i64 M, .int .i64 (need : Int)] W fun e w' => e = .returned (.tuple #[.agg #[.string fn, .string fv], .int .i64 0]) ∧ Below W.heap.size W w') := fun W hW => rdnamed_any false n M need W hW.tb hcn (by rw [← hF, hM, hL]; rfl)
  clear hN hF hcb hc0 hn62 hM hL hI
  have HW1 := Lib.hid hw1
  clear h hx hl hcn hby hc hw1 hgz
  go_enter Tryz.func35, Tryz.ntmps35
  go_upto_region 1 with fail
  rw [← HW1.out]
  go_quiet (fail)
  have RA := Lib.hid (R1.out.drw nq)
  have KA : Hid (Keep [g] w (w1.drewN nq)) := Keep.of_below (below_drewN B1.out nq)
  have QA := Lib.hid (Q1.out.below (below_drewN (Below.refl _ _) nq))
  generalize w1.drewN nq = wA at RA KA QA ⊢
  clear c0 c1 d0 d1 c2' c3'
  go_wp2_with (first
    | (go_at_call 33; refine (HN.out _ RA.out).mono ?_; rintro e w2 ⟨rfl, hk, hr⟩; have K2 := Lib.hid (KA.out.trans hk (fun i hi => .inl hi)); have R2 := Lib.hid hr; have Q2 := Lib.hid (QA.out.keep hk HGA.out); obtain ⟨_, _, ee2, _⟩ := hr.rd.facts; have ed2 := (hr.drw 1).rd.facts.2.2.1; clear hk hr)
    | (go_at_call 56; refine (HG.out _ R2.out).mono ?_; rintro e w4 ⟨rfl, hb4⟩; have R4 := Lib.hid (R2.out.bel hb4); have K4 := Lib.hid (K2.out.then_below hb4); have Q4 := Lib.hid (Q2.out.below hb4); have x0 := Q4.out.get 0 _ rfl; have x1 := Q4.out.get 1 _ rfl; have z0 := Q4.out.free 0; have z1 := Q4.out.free 1; have hlz := Q4.out.lt; clear hb4))
  have QD := (Q4.out.set 0 (.string fn)).set 1 (.string fv)
  refine bodyPost_ret (rline_results rfl rfl (QD.get 0 _ rfl) (QD.get 1 _ rfl)) rfl ⟨rfl, ?_, H0.out.new R4.out (Nat.le_refl _) _ _⟩
  exact keep_less (((K4.out.more (S' := w.heap.size :: [g]) (fun i hi => List.mem_cons_of_mem _ hi)).trans (keep_set _ _ _ _) (by simp)).trans (keep_set _ _ _ _) (by simp))
set_option maxHeartbeats 6400000 in
theorem rline_B1 (w : World) (h : RF g b v q vx xs a w) (hx : Bts xs) (hl : xs.length ≤ 1048576) (hcn : countN q ≤ 4611686018427387904) (ha : a < xs.length) (need : Nat) (hnd : need ≤ 4611686018427387904) (base : Int) (hb0 : 0 ≤ base) (hb1 : base ≤ 9223372036854775807) {fn fv : ByteArray} {x : Nat} (hI : lineE q need base xs a = (⟨fn, fv⟩, x, 0)) (hc0 : ¬ 128 ≤ xs.getD a 0 ∧ 64 ≤ xs.getD a 0 ∧ xs.getD a 0 / 16 % 2 = 1) :
    Calls Tryz.prog 35 #[.pointer (some ⟨b, 0, none⟩), .pointer (some ⟨g, 0, none⟩), .int .i64 (need : Int), .int .i64 base] w fun e w' => e = .returned (.tuple #[.agg #[.string fn, .string fv], .int .i64 0]) ∧ Keep [g] w w' ∧ RF g b v q vx xs x w' := by
  obtain ⟨f, n, x1, v0, hN, hT, hF⟩ := lineE_B hc0.1 hc0.2.1 hI
  rw [if_pos hc0.2.2] at hF
  have hcb := getD_bts hx a
  obtain ⟨c, hc⟩ : ∃ c, c = xs.getD a 0 := ⟨_, rfl⟩
  rw [← hc] at hcb hc0
  have H0 := Lib.hid h
  have hgz := h.rd.lt
  obtain ⟨w1, hw1⟩ : ∃ W, W = w.alloc (.cells #[.string ⟨#[]⟩, .string ⟨#[]⟩] 74) := ⟨_, rfl⟩
  have B1 : Hid (Below w.heap.size w w1) := (by rw [hw1]; exact below1 w _ : Below _ _ _)
  have Q1 : Hid (Cs w1 w.heap.size [.string ⟨#[]⟩, .string ⟨#[]⟩]) := (by rw [hw1]; exact Cs.made w #[.string ⟨#[]⟩, .string ⟨#[]⟩] 74 : Cs _ _ _)
  have R1 := Lib.hid (h.bel B1.out)
  obtain ⟨c0, c1, _, _⟩ := R1.out.rd.facts
  obtain ⟨d0, d1, _, _⟩ := (R1.out.drw 1).rd.facts
  obtain ⟨vb, vo, vc, rfl, hby⟩ := R1.out.rd.byte ha
  have c2' : w1.cell? ⟨vb, vo + a, none⟩ = some (.int .u8 c) := (by rw [hc]; exact hby 0 : _)
  have c3' : w1.drew.cell? ⟨vb, vo + a, none⟩ = some (.int .u8 c) := (by rw [hc]; exact hby 1 : _)
  have HGA : Hid (w.heap.size ∉ [g]) := (by simp; omega : w.heap.size ∉ [g])
  have hz := zeroFv
  have d128 : decide (c ≥ 128) = false := decide_eq_false (by omega)
  have f128 : decide (128 ≤ c) = false := decide_eq_false (by omega)
  have d64 : decide (c ≥ 64) = true := decide_eq_true (by omega)
  have f64 : decide (64 ≤ c) = true := decide_eq_true (by omega)
  have hand : bits .and .u8 c 16 = 16 := by rw [flag16 c hcb.1 hcb.2, if_pos hc0.2.2]
  have hn62 := (num_ok hx hN).2.2.2.1
  obtain ⟨L, hL⟩ : ∃ L : Int, L = base - 1 := ⟨_, rfl⟩
  have hwL : IntKind.i64.wrap (base - 1) = L := by rw [wraps_i64' _ (by omega) (by omega)]; omega
  obtain ⟨M, hM⟩ : ∃ M : Int, M = L - (n : Int) := ⟨_, rfl⟩
  have hwM : IntKind.i64.wrap (L - (n : Int)) = M := by rw [wraps_i64' _ (by omega) (by omega)]; omega
  have HN : Hid (∀ W, RF g b v q (.slice (some ⟨vb, vo, none⟩) xs.length vc) xs a W → Calls Tryz.prog 33 #[.pointer (some ⟨g, 0, none⟩), .int .i64 4] W fun e w' => e = .returned (.tuple #[.int .i64 f, .int .i64 (n : Int)]) ∧ Keep [g] W w' ∧ RF g b v q (.slice (some ⟨vb, vo, none⟩) xs.length vc) xs x1 w') := fun W hW => hW.num hx 4 hN
  have HT : Hid (∀ W, RF g b v q (.slice (some ⟨vb, vo, none⟩) xs.length vc) xs x1 W → Calls Tryz.prog 47 #[.pointer (some ⟨g, 0, none⟩), .int .i64 8, .int .i64 512] W fun e w' => e = .returned (.string fv) ∧ Keep [g] W w' ∧ RF g b v q (.slice (some ⟨vb, vo, none⟩) xs.length vc) xs x w') := fun W hW => hW.txt hx hl 8 512 (by decide) (by decide) (by decide) hT
  have HG : Hid (∀ W, RF g b v q (.slice (some ⟨vb, vo, none⟩) xs.length vc) xs x W → Calls Tryz.prog 56 #[.pointer (some ⟨b, 0, none⟩), .bool true, .int .i64 (n : Int), .int .i64 M, .int .i64 (need : Int)] W fun e w' => e = .returned (.tuple #[.agg #[.string fn, .string v0], .int .i64 0]) ∧ Below W.heap.size W w') := fun W hW => rdnamed_any true n M need W hW.tb hcn (by rw [← hF, hM, hL]; rfl)
  clear hN hT hF hcb hc0 hn62 hM hL hI
  have HW1 := Lib.hid hw1
  clear h hx hl hcn hby hc hw1 hgz
  go_enter Tryz.func35, Tryz.ntmps35
  go_upto_region 1 with fail
  rw [← HW1.out]
  go_quiet (fail)
  have RA := Lib.hid (R1.out.drw nq)
  have KA : Hid (Keep [g] w (w1.drewN nq)) := Keep.of_below (below_drewN B1.out nq)
  have QA := Lib.hid (Q1.out.below (below_drewN (Below.refl _ _) nq))
  generalize w1.drewN nq = wA at RA KA QA ⊢
  clear c0 c1 d0 d1 c2' c3'
  go_upto_region 13 with (first
    | (go_at_call 33; refine (HN.out _ RA.out).mono ?_; rintro e w2 ⟨rfl, hk, hr⟩; have K2 := Lib.hid (KA.out.trans hk (fun i hi => .inl hi)); have R2 := Lib.hid hr; have Q2 := Lib.hid (QA.out.keep hk HGA.out); obtain ⟨_, _, ee2, _⟩ := hr.rd.facts; have ed2 := (hr.drw 1).rd.facts.2.2.1; clear hk hr)
    | (go_at_call 47; refine (HT.out _ R2.out).mono ?_; rintro e w3 ⟨rfl, hk, hr⟩; have K3 := Lib.hid (K2.out.trans hk (fun i hi => .inl hi)); have R3 := Lib.hid hr; have Q3 := Lib.hid (Q2.out.keep hk HGA.out); obtain ⟨_, _, ee3, _⟩ := hr.rd.facts; have ed3 := (hr.drw 1).rd.facts.2.2.1; clear hk hr)
    | (go_at_call 56; refine (HG.out _ R3.out).mono ?_; rintro e w4 ⟨rfl, hb4⟩; have R4 := Lib.hid (R3.out.bel hb4); have K4 := Lib.hid (K3.out.then_below hb4); have Q4 := Lib.hid (Q3.out.below hb4); have x0 := Q4.out.get 0 _ rfl; have x1 := Q4.out.get 1 _ rfl; have z0 := Q4.out.free 0; have z1 := Q4.out.free 1; have hlz := Q4.out.lt; clear hb4))
  have N5 := Lib.hid (Cs.made w4 #[.string fn, .string v0] 74)
  have hb5 := below1 w4 (.cells #[.string fn, .string v0] 74)
  have K5 := Lib.hid (K4.out.then_below hb5)
  have R5 := Lib.hid (R4.out.bel hb5)
  have Q5 := Lib.hid (Q4.out.below hb5)
  clear hb5 x0 x1 z0 z1 hlz
  generalize w4.alloc (.cells #[.string fn, .string v0] 74) = w5 at N5 K5 R5 Q5 ⊢
  have n0 := N5.out.get 0 _ rfl
  have n1 := N5.out.get 1 _ rfl
  have x0 := Q5.out.get 0 _ rfl
  have x1 := Q5.out.get 1 _ rfl
  have z0 := Q5.out.free 0
  have z1 := Q5.out.free 1
  have hlz := Q5.out.lt
  go_wp2_with fail
  have QD := (Q5.out.set 0 (.string fn)).set 1 (.string fv)
  refine bodyPost_ret (rline_results rfl rfl (QD.get 0 _ rfl) (QD.get 1 _ rfl)) rfl ⟨rfl, ?_, H0.out.new R5.out (Nat.le_refl _) _ _⟩
  exact keep_less (((K5.out.more (S' := w.heap.size :: [g]) (fun i hi => List.mem_cons_of_mem _ hi)).trans (keep_set _ _ _ _) (by simp)).trans (keep_set _ _ _ _) (by simp))
set_option maxHeartbeats 6400000 in
theorem rline_B2 (w : World) (h : RF g b v q vx xs a w) (hx : Bts xs) (hl : xs.length ≤ 1048576) (hcn : countN q ≤ 4611686018427387904) (ha : a < xs.length) (need : Nat) (hnd : need ≤ 4611686018427387904) (base : Int) (hb0 : 0 ≤ base) (hb1 : base ≤ 9223372036854775807) {fn fv : ByteArray} {x : Nat} (hI : lineE q need base xs a = (⟨fn, fv⟩, x, 0)) (hc0 : ¬ 128 ≤ xs.getD a 0 ∧ 64 ≤ xs.getD a 0 ∧ ¬ xs.getD a 0 / 16 % 2 = 1) :
    Calls Tryz.prog 35 #[.pointer (some ⟨b, 0, none⟩), .pointer (some ⟨g, 0, none⟩), .int .i64 (need : Int), .int .i64 base] w fun e w' => e = .returned (.tuple #[.agg #[.string fn, .string fv], .int .i64 0]) ∧ Keep [g] w w' ∧ RF g b v q vx xs x w' := by
  obtain ⟨f, n, x1, v0, hN, hT, hF⟩ := lineE_B hc0.1 hc0.2.1 hI
  rw [if_neg hc0.2.2] at hF
  have hcb := getD_bts hx a
  obtain ⟨c, hc⟩ : ∃ c, c = xs.getD a 0 := ⟨_, rfl⟩
  rw [← hc] at hcb hc0
  have H0 := Lib.hid h
  have hgz := h.rd.lt
  obtain ⟨w1, hw1⟩ : ∃ W, W = w.alloc (.cells #[.string ⟨#[]⟩, .string ⟨#[]⟩] 74) := ⟨_, rfl⟩
  have B1 : Hid (Below w.heap.size w w1) := (by rw [hw1]; exact below1 w _ : Below _ _ _)
  have Q1 : Hid (Cs w1 w.heap.size [.string ⟨#[]⟩, .string ⟨#[]⟩]) := (by rw [hw1]; exact Cs.made w #[.string ⟨#[]⟩, .string ⟨#[]⟩] 74 : Cs _ _ _)
  have R1 := Lib.hid (h.bel B1.out)
  obtain ⟨c0, c1, _, _⟩ := R1.out.rd.facts
  obtain ⟨d0, d1, _, _⟩ := (R1.out.drw 1).rd.facts
  obtain ⟨vb, vo, vc, rfl, hby⟩ := R1.out.rd.byte ha
  have c2' : w1.cell? ⟨vb, vo + a, none⟩ = some (.int .u8 c) := (by rw [hc]; exact hby 0 : _)
  have c3' : w1.drew.cell? ⟨vb, vo + a, none⟩ = some (.int .u8 c) := (by rw [hc]; exact hby 1 : _)
  have HGA : Hid (w.heap.size ∉ [g]) := (by simp; omega : w.heap.size ∉ [g])
  have hz := zeroFv
  have d128 : decide (c ≥ 128) = false := decide_eq_false (by omega)
  have f128 : decide (128 ≤ c) = false := decide_eq_false (by omega)
  have d64 : decide (c ≥ 64) = true := decide_eq_true (by omega)
  have f64 : decide (64 ≤ c) = true := decide_eq_true (by omega)
  have hand : bits .and .u8 c 16 = 0 := by rw [flag16 c hcb.1 hcb.2, if_neg hc0.2.2]
  have hn62 := (num_ok hx hN).2.2.2.1
  obtain ⟨L, hL⟩ : ∃ L : Int, L = base - 1 := ⟨_, rfl⟩
  have hwL : IntKind.i64.wrap (base - 1) = L := by rw [wraps_i64' _ (by omega) (by omega)]; omega
  obtain ⟨M, hM⟩ : ∃ M : Int, M = L - (n : Int) := ⟨_, rfl⟩
  have hwM : IntKind.i64.wrap (L - (n : Int)) = M := by rw [wraps_i64' _ (by omega) (by omega)]; omega
  have HN : Hid (∀ W, RF g b v q (.slice (some ⟨vb, vo, none⟩) xs.length vc) xs a W → Calls Tryz.prog 33 #[.pointer (some ⟨g, 0, none⟩), .int .i64 4] W fun e w' => e = .returned (.tuple #[.int .i64 f, .int .i64 (n : Int)]) ∧ Keep [g] W w' ∧ RF g b v q (.slice (some ⟨vb, vo, none⟩) xs.length vc) xs x1 w') := fun W hW => hW.num hx 4 hN
  have HT : Hid (∀ W, RF g b v q (.slice (some ⟨vb, vo, none⟩) xs.length vc) xs x1 W → Calls Tryz.prog 47 #[.pointer (some ⟨g, 0, none⟩), .int .i64 8, .int .i64 512] W fun e w' => e = .returned (.string fv) ∧ Keep [g] W w' ∧ RF g b v q (.slice (some ⟨vb, vo, none⟩) xs.length vc) xs x w') := fun W hW => hW.txt hx hl 8 512 (by decide) (by decide) (by decide) hT
  have HG : Hid (∀ W, RF g b v q (.slice (some ⟨vb, vo, none⟩) xs.length vc) xs x W → Calls Tryz.prog 56 #[.pointer (some ⟨b, 0, none⟩), .bool false, .int .i64 (n : Int), .int .i64 M, .int .i64 (need : Int)] W fun e w' => e = .returned (.tuple #[.agg #[.string fn, .string v0], .int .i64 0]) ∧ Below W.heap.size W w') := fun W hW => rdnamed_any false n M need W hW.tb hcn (by rw [← hF, hM, hL]; rfl)
  clear hN hT hF hcb hc0 hn62 hM hL hI
  have HW1 := Lib.hid hw1
  clear h hx hl hcn hby hc hw1 hgz
  go_enter Tryz.func35, Tryz.ntmps35
  go_upto_region 1 with fail
  rw [← HW1.out]
  go_quiet (fail)
  have RA := Lib.hid (R1.out.drw nq)
  have KA : Hid (Keep [g] w (w1.drewN nq)) := Keep.of_below (below_drewN B1.out nq)
  have QA := Lib.hid (Q1.out.below (below_drewN (Below.refl _ _) nq))
  generalize w1.drewN nq = wA at RA KA QA ⊢
  clear c0 c1 d0 d1 c2' c3'
  go_upto_region 13 with (first
    | (go_at_call 33; refine (HN.out _ RA.out).mono ?_; rintro e w2 ⟨rfl, hk, hr⟩; have K2 := Lib.hid (KA.out.trans hk (fun i hi => .inl hi)); have R2 := Lib.hid hr; have Q2 := Lib.hid (QA.out.keep hk HGA.out); obtain ⟨_, _, ee2, _⟩ := hr.rd.facts; have ed2 := (hr.drw 1).rd.facts.2.2.1; clear hk hr)
    | (go_at_call 47; refine (HT.out _ R2.out).mono ?_; rintro e w3 ⟨rfl, hk, hr⟩; have K3 := Lib.hid (K2.out.trans hk (fun i hi => .inl hi)); have R3 := Lib.hid hr; have Q3 := Lib.hid (Q2.out.keep hk HGA.out); obtain ⟨_, _, ee3, _⟩ := hr.rd.facts; have ed3 := (hr.drw 1).rd.facts.2.2.1; clear hk hr)
    | (go_at_call 56; refine (HG.out _ R3.out).mono ?_; rintro e w4 ⟨rfl, hb4⟩; have R4 := Lib.hid (R3.out.bel hb4); have K4 := Lib.hid (K3.out.then_below hb4); have Q4 := Lib.hid (Q3.out.below hb4); have x0 := Q4.out.get 0 _ rfl; have x1 := Q4.out.get 1 _ rfl; have z0 := Q4.out.free 0; have z1 := Q4.out.free 1; have hlz := Q4.out.lt; clear hb4))
  have N5 := Lib.hid (Cs.made w4 #[.string fn, .string v0] 74)
  have hb5 := below1 w4 (.cells #[.string fn, .string v0] 74)
  have K5 := Lib.hid (K4.out.then_below hb5)
  have R5 := Lib.hid (R4.out.bel hb5)
  have Q5 := Lib.hid (Q4.out.below hb5)
  clear hb5 x0 x1 z0 z1 hlz
  generalize w4.alloc (.cells #[.string fn, .string v0] 74) = w5 at N5 K5 R5 Q5 ⊢
  have n0 := N5.out.get 0 _ rfl
  have n1 := N5.out.get 1 _ rfl
  have x0 := Q5.out.get 0 _ rfl
  have x1 := Q5.out.get 1 _ rfl
  have z0 := Q5.out.free 0
  have z1 := Q5.out.free 1
  have hlz := Q5.out.lt
  go_wp2_with fail
  have QD := (Q5.out.set 0 (.string fn)).set 1 (.string fv)
  refine bodyPost_ret (rline_results rfl rfl (QD.get 0 _ rfl) (QD.get 1 _ rfl)) rfl ⟨rfl, ?_, H0.out.new R5.out (Nat.le_refl _) _ _⟩
  exact keep_less (((K5.out.more (S' := w.heap.size :: [g]) (fun i hi => List.mem_cons_of_mem _ hi)).trans (keep_set _ _ _ _) (by simp)).trans (keep_set _ _ _ _) (by simp))
set_option maxHeartbeats 6400000 in
theorem rline_C (w : World) (h : RF g b v q vx xs a w) (hx : Bts xs) (hl : xs.length ≤ 1048576) (hcn : countN q ≤ 4611686018427387904) (ha : a < xs.length) (need : Nat) (hnd : need ≤ 4611686018427387904) (base : Int) (hb0 : 0 ≤ base) (hb1 : base ≤ 9223372036854775807) {fn fv : ByteArray} {x : Nat} (hI : lineE q need base xs a = (⟨fn, fv⟩, x, 0)) (hc0 : ¬ 128 ≤ xs.getD a 0 ∧ ¬ 64 ≤ xs.getD a 0 ∧ 32 ≤ xs.getD a 0) :
    Calls Tryz.prog 35 #[.pointer (some ⟨b, 0, none⟩), .pointer (some ⟨g, 0, none⟩), .int .i64 (need : Int), .int .i64 base] w fun e w' => e = .returned (.tuple #[.agg #[.string fn, .string fv], .int .i64 0]) ∧ Keep [g] w w' ∧ RF g b v q vx xs x w' := by
  obtain ⟨x1, hN, hT⟩ := lineE_C hc0.1 hc0.2.1 hc0.2.2 hI
  have hcb := getD_bts hx a
  obtain ⟨c, hc⟩ : ∃ c, c = xs.getD a 0 := ⟨_, rfl⟩
  rw [← hc] at hcb hc0
  have H0 := Lib.hid h
  have hgz := h.rd.lt
  obtain ⟨w1, hw1⟩ : ∃ W, W = w.alloc (.cells #[.string ⟨#[]⟩, .string ⟨#[]⟩] 74) := ⟨_, rfl⟩
  have B1 : Hid (Below w.heap.size w w1) := (by rw [hw1]; exact below1 w _ : Below _ _ _)
  have Q1 : Hid (Cs w1 w.heap.size [.string ⟨#[]⟩, .string ⟨#[]⟩]) := (by rw [hw1]; exact Cs.made w #[.string ⟨#[]⟩, .string ⟨#[]⟩] 74 : Cs _ _ _)
  have R1 := Lib.hid (h.bel B1.out)
  obtain ⟨c0, c1, _, _⟩ := R1.out.rd.facts
  obtain ⟨d0, d1, _, _⟩ := (R1.out.drw 1).rd.facts
  obtain ⟨vb, vo, vc, rfl, hby⟩ := R1.out.rd.byte ha
  have c2' : w1.cell? ⟨vb, vo + a, none⟩ = some (.int .u8 c) := (by rw [hc]; exact hby 0 : _)
  have c3' : w1.drew.cell? ⟨vb, vo + a, none⟩ = some (.int .u8 c) := (by rw [hc]; exact hby 1 : _)
  have HGA : Hid (w.heap.size ∉ [g]) := (by simp; omega : w.heap.size ∉ [g])
  have hz := zeroFv
  have d128 : decide (c ≥ 128) = false := decide_eq_false (by omega)
  have f128 : decide (128 ≤ c) = false := decide_eq_false (by omega)
  have d64 : decide (c ≥ 64) = false := decide_eq_false (by omega)
  have f64 : decide (64 ≤ c) = false := decide_eq_false (by omega)
  have d32 : decide (c ≥ 32) = true := decide_eq_true (by omega)
  have f32 : decide (32 ≤ c) = true := decide_eq_true (by omega)
  have HT1 : Hid (∀ W, RF g b v q (.slice (some ⟨vb, vo, none⟩) xs.length vc) xs a W → Calls Tryz.prog 47 #[.pointer (some ⟨g, 0, none⟩), .int .i64 4, .int .i64 64] W fun e w' => e = .returned (.string fn) ∧ Keep [g] W w' ∧ RF g b v q (.slice (some ⟨vb, vo, none⟩) xs.length vc) xs x1 w') := fun W hW => hW.txt hx hl 4 64 (by decide) (by decide) (by decide) hN
  have HT2 : Hid (∀ W, RF g b v q (.slice (some ⟨vb, vo, none⟩) xs.length vc) xs x1 W → Calls Tryz.prog 47 #[.pointer (some ⟨g, 0, none⟩), .int .i64 8, .int .i64 512] W fun e w' => e = .returned (.string fv) ∧ Keep [g] W w' ∧ RF g b v q (.slice (some ⟨vb, vo, none⟩) xs.length vc) xs x w') := fun W hW => hW.txt hx hl 8 512 (by decide) (by decide) (by decide) hT
  have tok : True := trivial
  clear hN hT hcb hc0 hI
  have HW1 := Lib.hid hw1
  clear h hx hl hcn hby hc hw1 hgz
  go_enter Tryz.func35, Tryz.ntmps35
  go_upto_region 1 with fail
  rw [← HW1.out]
  go_quiet (fail)
  have RA := Lib.hid (R1.out.drw nq)
  have KA : Hid (Keep [g] w (w1.drewN nq)) := Keep.of_below (below_drewN B1.out nq)
  have QA := Lib.hid (Q1.out.below (below_drewN (Below.refl _ _) nq))
  generalize w1.drewN nq = wA at RA KA QA ⊢
  clear c0 c1 d0 d1 c2' c3'
  go_wp2_with (first
    | (go_at_call 47; have _t := tok; refine (HT1.out _ RA.out).mono ?_; rintro e w2 ⟨rfl, hk, hr⟩; have K2 := Lib.hid (KA.out.trans hk (fun i hi => .inl hi)); have R2 := Lib.hid hr; have Q2 := Lib.hid (QA.out.keep hk HGA.out); obtain ⟨_, _, ee2, _⟩ := hr.rd.facts; have ed2 := (hr.drw 1).rd.facts.2.2.1; clear hk hr; clear tok)
    | (go_at_call 47; refine (HT2.out _ R2.out).mono ?_; rintro e w3 ⟨rfl, hk, hr⟩; have K3 := Lib.hid (K2.out.trans hk (fun i hi => .inl hi)); have R3 := Lib.hid hr; have Q3 := Lib.hid (Q2.out.keep hk HGA.out); obtain ⟨_, _, ee3, _⟩ := hr.rd.facts; have ed3 := (hr.drw 1).rd.facts.2.2.1; have x0 := Q3.out.get 0 _ rfl; have x1 := Q3.out.get 1 _ rfl; have z0 := Q3.out.free 0; have z1 := Q3.out.free 1; have hlz := Q3.out.lt; clear hk hr))
  have RX := Lib.hid (R3.out.drw 1)
  have QX := Lib.hid (Q3.out.below (below_drewN (Below.refl _ _) 1))
  have KX := Lib.hid (K3.out.then_below (below_drewN (Below.refl _ _) 1))
  go_region
  all_goals (go_wp2_with fail)
  all_goals
    have QD := (QX.out.set 0 (.string fn)).set 1 (.string fv)
    refine bodyPost_ret (rline_results rfl rfl (QD.get 0 _ rfl) (QD.get 1 _ rfl)) rfl ⟨rfl, ?_, H0.out.new RX.out (Nat.le_refl _) _ _⟩
    exact keep_less (((KX.out.more (S' := w.heap.size :: [g]) (fun i hi => List.mem_cons_of_mem _ hi)).trans (keep_set _ _ _ _) (by simp)).trans (keep_set _ _ _ _) (by simp))
set_option maxHeartbeats 6400000 in
theorem rline_D (w : World) (h : RF g b v q vx xs a w) (hx : Bts xs) (hl : xs.length ≤ 1048576) (hcn : countN q ≤ 4611686018427387904) (ha : a < xs.length) (need : Nat) (hnd : need ≤ 4611686018427387904) (base : Int) (hb0 : 0 ≤ base) (hb1 : base ≤ 9223372036854775807) {fn fv : ByteArray} {x : Nat} (hI : lineE q need base xs a = (⟨fn, fv⟩, x, 0)) (hc0 : ¬ 128 ≤ xs.getD a 0 ∧ ¬ 64 ≤ xs.getD a 0 ∧ ¬ 32 ≤ xs.getD a 0 ∧ 16 ≤ xs.getD a 0) :
    Calls Tryz.prog 35 #[.pointer (some ⟨b, 0, none⟩), .pointer (some ⟨g, 0, none⟩), .int .i64 (need : Int), .int .i64 base] w fun e w' => e = .returned (.tuple #[.agg #[.string fn, .string fv], .int .i64 0]) ∧ Keep [g] w w' ∧ RF g b v q vx xs x w' := by
  obtain ⟨f, n, hN, hF⟩ := lineE_D hc0.1 hc0.2.1 hc0.2.2.1 hc0.2.2.2 hI
  have hcb := getD_bts hx a
  obtain ⟨c, hc⟩ : ∃ c, c = xs.getD a 0 := ⟨_, rfl⟩
  rw [← hc] at hcb hc0
  have H0 := Lib.hid h
  have hgz := h.rd.lt
  obtain ⟨w1, hw1⟩ : ∃ W, W = w.alloc (.cells #[.string ⟨#[]⟩, .string ⟨#[]⟩] 74) := ⟨_, rfl⟩
  have B1 : Hid (Below w.heap.size w w1) := (by rw [hw1]; exact below1 w _ : Below _ _ _)
  have Q1 : Hid (Cs w1 w.heap.size [.string ⟨#[]⟩, .string ⟨#[]⟩]) := (by rw [hw1]; exact Cs.made w #[.string ⟨#[]⟩, .string ⟨#[]⟩] 74 : Cs _ _ _)
  have R1 := Lib.hid (h.bel B1.out)
  obtain ⟨c0, c1, _, _⟩ := R1.out.rd.facts
  obtain ⟨d0, d1, _, _⟩ := (R1.out.drw 1).rd.facts
  obtain ⟨vb, vo, vc, rfl, hby⟩ := R1.out.rd.byte ha
  have c2' : w1.cell? ⟨vb, vo + a, none⟩ = some (.int .u8 c) := (by rw [hc]; exact hby 0 : _)
  have c3' : w1.drew.cell? ⟨vb, vo + a, none⟩ = some (.int .u8 c) := (by rw [hc]; exact hby 1 : _)
  have HGA : Hid (w.heap.size ∉ [g]) := (by simp; omega : w.heap.size ∉ [g])
  have hz := zeroFv
  have d128 : decide (c ≥ 128) = false := decide_eq_false (by omega)
  have f128 : decide (128 ≤ c) = false := decide_eq_false (by omega)
  have d64 : decide (c ≥ 64) = false := decide_eq_false (by omega)
  have f64 : decide (64 ≤ c) = false := decide_eq_false (by omega)
  have d32 : decide (c ≥ 32) = false := decide_eq_false (by omega)
  have f32 : decide (32 ≤ c) = false := decide_eq_false (by omega)
  have d16 : decide (c ≥ 16) = true := decide_eq_true (by omega)
  have f16 : decide (16 ≤ c) = true := decide_eq_true (by omega)
  have HN : Hid (∀ W, RF g b v q (.slice (some ⟨vb, vo, none⟩) xs.length vc) xs a W → Calls Tryz.prog 33 #[.pointer (some ⟨g, 0, none⟩), .int .i64 4] W fun e w' => e = .returned (.tuple #[.int .i64 f, .int .i64 (n : Int)]) ∧ Keep [g] W w' ∧ RF g b v q (.slice (some ⟨vb, vo, none⟩) xs.length vc) xs x w') := fun W hW => hW.num hx 4 hN
  have HG : Hid (∀ W, RF g b v q (.slice (some ⟨vb, vo, none⟩) xs.length vc) xs x W → Calls Tryz.prog 57 #[.pointer (some ⟨b, 0, none⟩), .int .i64 base, .int .i64 (n : Int), .int .i64 (need : Int)] W fun e w' => e = .returned (.tuple #[.agg #[.string fn, .string fv], .int .i64 0]) ∧ Below W.heap.size W w') := fun W hW => rdafter_any base n need W hW.tb hcn (Int.natCast_nonneg _) hnd hb0 hb1 hF
  clear hN hF hcb hc0 hI
  have HW1 := Lib.hid hw1
  clear h hx hl hcn hby hc hw1 hgz
  go_enter Tryz.func35, Tryz.ntmps35
  go_upto_region 1 with fail
  rw [← HW1.out]
  go_quiet (fail)
  have RA := Lib.hid (R1.out.drw nq)
  have KA : Hid (Keep [g] w (w1.drewN nq)) := Keep.of_below (below_drewN B1.out nq)
  have QA := Lib.hid (Q1.out.below (below_drewN (Below.refl _ _) nq))
  generalize w1.drewN nq = wA at RA KA QA ⊢
  clear c0 c1 d0 d1 c2' c3'
  go_wp2_with (first
    | (go_at_call 33; refine (HN.out _ RA.out).mono ?_; rintro e w2 ⟨rfl, hk, hr⟩; have K2 := Lib.hid (KA.out.trans hk (fun i hi => .inl hi)); have R2 := Lib.hid hr; have Q2 := Lib.hid (QA.out.keep hk HGA.out); obtain ⟨_, _, ee2, _⟩ := hr.rd.facts; have ed2 := (hr.drw 1).rd.facts.2.2.1; clear hk hr)
    | (go_at_call 57; refine (HG.out _ R2.out).mono ?_; rintro e w4 ⟨rfl, hb4⟩; have R4 := Lib.hid (R2.out.bel hb4); have K4 := Lib.hid (K2.out.then_below hb4); have Q4 := Lib.hid (Q2.out.below hb4); have x0 := Q4.out.get 0 _ rfl; have x1 := Q4.out.get 1 _ rfl; have z0 := Q4.out.free 0; have z1 := Q4.out.free 1; have hlz := Q4.out.lt; clear hb4))
  have QD := (Q4.out.set 0 (.string fn)).set 1 (.string fv)
  refine bodyPost_ret (rline_results rfl rfl (QD.get 0 _ rfl) (QD.get 1 _ rfl)) rfl ⟨rfl, ?_, H0.out.new R4.out (Nat.le_refl _) _ _⟩
  exact keep_less (((K4.out.more (S' := w.heap.size :: [g]) (fun i hi => List.mem_cons_of_mem _ hi)).trans (keep_set _ _ _ _) (by simp)).trans (keep_set _ _ _ _) (by simp))
set_option maxHeartbeats 6400000 in
theorem rline_E (w : World) (h : RF g b v q vx xs a w) (hx : Bts xs) (hl : xs.length ≤ 1048576) (hcn : countN q ≤ 4611686018427387904) (ha : a < xs.length) (need : Nat) (hnd : need ≤ 4611686018427387904) (base : Int) (hb0 : 0 ≤ base) (hb1 : base ≤ 9223372036854775807) {fn fv : ByteArray} {x : Nat} (hI : lineE q need base xs a = (⟨fn, fv⟩, x, 0)) (hc0 : ¬ 128 ≤ xs.getD a 0 ∧ ¬ 64 ≤ xs.getD a 0 ∧ ¬ 32 ≤ xs.getD a 0 ∧ ¬ 16 ≤ xs.getD a 0) :
    Calls Tryz.prog 35 #[.pointer (some ⟨b, 0, none⟩), .pointer (some ⟨g, 0, none⟩), .int .i64 (need : Int), .int .i64 base] w fun e w' => e = .returned (.tuple #[.agg #[.string fn, .string fv], .int .i64 0]) ∧ Keep [g] w w' ∧ RF g b v q vx xs x w' := by
  obtain ⟨f, n, x1, v0, hN, hT, hF⟩ := lineE_E hc0.1 hc0.2.1 hc0.2.2.1 hc0.2.2.2 hI
  have hcb := getD_bts hx a
  obtain ⟨c, hc⟩ : ∃ c, c = xs.getD a 0 := ⟨_, rfl⟩
  rw [← hc] at hcb hc0
  have H0 := Lib.hid h
  have hgz := h.rd.lt
  obtain ⟨w1, hw1⟩ : ∃ W, W = w.alloc (.cells #[.string ⟨#[]⟩, .string ⟨#[]⟩] 74) := ⟨_, rfl⟩
  have B1 : Hid (Below w.heap.size w w1) := (by rw [hw1]; exact below1 w _ : Below _ _ _)
  have Q1 : Hid (Cs w1 w.heap.size [.string ⟨#[]⟩, .string ⟨#[]⟩]) := (by rw [hw1]; exact Cs.made w #[.string ⟨#[]⟩, .string ⟨#[]⟩] 74 : Cs _ _ _)
  have R1 := Lib.hid (h.bel B1.out)
  obtain ⟨c0, c1, _, _⟩ := R1.out.rd.facts
  obtain ⟨d0, d1, _, _⟩ := (R1.out.drw 1).rd.facts
  obtain ⟨vb, vo, vc, rfl, hby⟩ := R1.out.rd.byte ha
  have c2' : w1.cell? ⟨vb, vo + a, none⟩ = some (.int .u8 c) := (by rw [hc]; exact hby 0 : _)
  have c3' : w1.drew.cell? ⟨vb, vo + a, none⟩ = some (.int .u8 c) := (by rw [hc]; exact hby 1 : _)
  have HGA : Hid (w.heap.size ∉ [g]) := (by simp; omega : w.heap.size ∉ [g])
  have hz := zeroFv
  have d128 : decide (c ≥ 128) = false := decide_eq_false (by omega)
  have f128 : decide (128 ≤ c) = false := decide_eq_false (by omega)
  have d64 : decide (c ≥ 64) = false := decide_eq_false (by omega)
  have f64 : decide (64 ≤ c) = false := decide_eq_false (by omega)
  have d32 : decide (c ≥ 32) = false := decide_eq_false (by omega)
  have f32 : decide (32 ≤ c) = false := decide_eq_false (by omega)
  have d16 : decide (c ≥ 16) = false := decide_eq_false (by omega)
  have f16 : decide (16 ≤ c) = false := decide_eq_false (by omega)
  have HN : Hid (∀ W, RF g b v q (.slice (some ⟨vb, vo, none⟩) xs.length vc) xs a W → Calls Tryz.prog 33 #[.pointer (some ⟨g, 0, none⟩), .int .i64 3] W fun e w' => e = .returned (.tuple #[.int .i64 f, .int .i64 (n : Int)]) ∧ Keep [g] W w' ∧ RF g b v q (.slice (some ⟨vb, vo, none⟩) xs.length vc) xs x1 w') := fun W hW => hW.num hx 3 hN
  have HT : Hid (∀ W, RF g b v q (.slice (some ⟨vb, vo, none⟩) xs.length vc) xs x1 W → Calls Tryz.prog 47 #[.pointer (some ⟨g, 0, none⟩), .int .i64 8, .int .i64 512] W fun e w' => e = .returned (.string fv) ∧ Keep [g] W w' ∧ RF g b v q (.slice (some ⟨vb, vo, none⟩) xs.length vc) xs x w') := fun W hW => hW.txt hx hl 8 512 (by decide) (by decide) (by decide) hT
  have HG : Hid (∀ W, RF g b v q (.slice (some ⟨vb, vo, none⟩) xs.length vc) xs x W → Calls Tryz.prog 57 #[.pointer (some ⟨b, 0, none⟩), .int .i64 base, .int .i64 (n : Int), .int .i64 (need : Int)] W fun e w' => e = .returned (.tuple #[.agg #[.string fn, .string v0], .int .i64 0]) ∧ Below W.heap.size W w') := fun W hW => rdafter_any base n need W hW.tb hcn (Int.natCast_nonneg _) hnd hb0 hb1 hF
  clear hN hT hF hcb hc0 hI
  have HW1 := Lib.hid hw1
  clear h hx hl hcn hby hc hw1 hgz
  go_enter Tryz.func35, Tryz.ntmps35
  go_upto_region 1 with fail
  rw [← HW1.out]
  go_quiet (fail)
  have RA := Lib.hid (R1.out.drw nq)
  have KA : Hid (Keep [g] w (w1.drewN nq)) := Keep.of_below (below_drewN B1.out nq)
  have QA := Lib.hid (Q1.out.below (below_drewN (Below.refl _ _) nq))
  generalize w1.drewN nq = wA at RA KA QA ⊢
  clear c0 c1 d0 d1 c2' c3'
  go_upto_region 28 with (first
    | (go_at_call 33; refine (HN.out _ RA.out).mono ?_; rintro e w2 ⟨rfl, hk, hr⟩; have K2 := Lib.hid (KA.out.trans hk (fun i hi => .inl hi)); have R2 := Lib.hid hr; have Q2 := Lib.hid (QA.out.keep hk HGA.out); obtain ⟨_, _, ee2, _⟩ := hr.rd.facts; have ed2 := (hr.drw 1).rd.facts.2.2.1; clear hk hr)
    | (go_at_call 47; refine (HT.out _ R2.out).mono ?_; rintro e w3 ⟨rfl, hk, hr⟩; have K3 := Lib.hid (K2.out.trans hk (fun i hi => .inl hi)); have R3 := Lib.hid hr; have Q3 := Lib.hid (Q2.out.keep hk HGA.out); obtain ⟨_, _, ee3, _⟩ := hr.rd.facts; have ed3 := (hr.drw 1).rd.facts.2.2.1; clear hk hr)
    | (go_at_call 57; refine (HG.out _ R3.out).mono ?_; rintro e w4 ⟨rfl, hb4⟩; have R4 := Lib.hid (R3.out.bel hb4); have K4 := Lib.hid (K3.out.then_below hb4); have Q4 := Lib.hid (Q3.out.below hb4); have x0 := Q4.out.get 0 _ rfl; have x1 := Q4.out.get 1 _ rfl; have z0 := Q4.out.free 0; have z1 := Q4.out.free 1; have hlz := Q4.out.lt; clear hb4))
  have N5 := Lib.hid (Cs.made w4 #[.string fn, .string v0] 74)
  have hb5 := below1 w4 (.cells #[.string fn, .string v0] 74)
  have K5 := Lib.hid (K4.out.then_below hb5)
  have R5 := Lib.hid (R4.out.bel hb5)
  have Q5 := Lib.hid (Q4.out.below hb5)
  clear hb5 x0 x1 z0 z1 hlz
  generalize w4.alloc (.cells #[.string fn, .string v0] 74) = w5 at N5 K5 R5 Q5 ⊢
  have n0 := N5.out.get 0 _ rfl
  have n1 := N5.out.get 1 _ rfl
  have x0 := Q5.out.get 0 _ rfl
  have x1 := Q5.out.get 1 _ rfl
  have z0 := Q5.out.free 0
  have z1 := Q5.out.free 1
  have hlz := Q5.out.lt
  go_wp2_with fail
  have QD := (Q5.out.set 0 (.string fn)).set 1 (.string fv)
  refine bodyPost_ret (rline_results rfl rfl (QD.get 0 _ rfl) (QD.get 1 _ rfl)) rfl ⟨rfl, ?_, H0.out.new R5.out (Nat.le_refl _) _ _⟩
  exact keep_less (((K5.out.more (S' := w.heap.size :: [g]) (fun i hi => List.mem_cons_of_mem _ hi)).trans (keep_set _ _ _ _) (by simp)).trans (keep_set _ _ _ _) (by simp))
theorem rline_yes (w : World) (h : RF g b v q vx xs a w) (hx : Bts xs) (hl : xs.length ≤ 1048576) (hcn : countN q ≤ 4611686018427387904) (ha : a < xs.length) (need : Nat) (hnd : need ≤ 4611686018427387904) (base : Int) (hb0 : 0 ≤ base) (hb1 : base ≤ 9223372036854775807) {fn fv : ByteArray} {x : Nat} (hI : lineE q need base xs a = (⟨fn, fv⟩, x, 0)) :
    Calls Tryz.prog 35 #[.pointer (some ⟨b, 0, none⟩), .pointer (some ⟨g, 0, none⟩), .int .i64 (need : Int), .int .i64 base] w fun e w' => e = .returned (.tuple #[.agg #[.string fn, .string fv], .int .i64 0]) ∧ Keep [g] w w' ∧ RF g b v q vx xs x w' := by
  by_cases h192 : 192 ≤ xs.getD a 0
  · exact rline_A1 w h hx hl hcn ha need hnd base hb0 hb1 hI h192
  · by_cases h128 : 128 ≤ xs.getD a 0
    · exact rline_A2 w h hx hl hcn ha need hnd base hb0 hb1 hI ⟨h128, h192⟩
    · by_cases h64 : 64 ≤ xs.getD a 0
      · by_cases h16 : xs.getD a 0 / 16 % 2 = 1
        · exact rline_B1 w h hx hl hcn ha need hnd base hb0 hb1 hI ⟨h128, h64, h16⟩
        · exact rline_B2 w h hx hl hcn ha need hnd base hb0 hb1 hI ⟨h128, h64, h16⟩
      · by_cases h32 : 32 ≤ xs.getD a 0
        · exact rline_C w h hx hl hcn ha need hnd base hb0 hb1 hI ⟨h128, h64, h32⟩
        · by_cases h16 : 16 ≤ xs.getD a 0
          · exact rline_D w h hx hl hcn ha need hnd base hb0 hb1 hI ⟨h128, h64, h32, h16⟩
          · exact rline_E w h hx hl hcn ha need hnd base hb0 hb1 hI ⟨h128, h64, h32, h16⟩
end
end Go.Proofs.YtbkbabaoockigaaGreatDoor
