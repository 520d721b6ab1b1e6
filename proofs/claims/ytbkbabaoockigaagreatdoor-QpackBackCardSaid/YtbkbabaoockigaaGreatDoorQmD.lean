/- Walks of layer 14, the document's decoder: an instruction that goes well. -/
import Derived.Test.YtbkbabaoockigaaGreatDoorQmC
set_option maxRecDepth 100000
set_option linter.unusedSimpArgs false
set_option linter.unusedVariables false
namespace Go.Proofs.YtbkbabaoockigaaGreatDoor
open Go.RowKit

theorem insE_A {q q' : TQ} {xs : List Int} {a x : Nat} (hc : 128 ≤ xs.getD a 0) (h : insE q xs a = (q', x, 0)) : ∃ f n x1 s fd z, numE xs a 6 = (f, n, x1, 0) ∧ textE xs x1 8 512 = (s, x, 0) ∧ (if 192 ≤ xs.getD a 0 then fixedE n else getE q ((countN q : Int) - 1 - n)) = (fd, 0) ∧ insertE q ⟨fd.n, s⟩ = (q', z, 0) := by
  unfold insE at h
  rw [if_pos hc] at h
  obtain ⟨⟨f, n, x1, y⟩, hN⟩ : ∃ r, numE xs a 6 = r := ⟨_, rfl⟩
  simp only [hN] at h
  by_cases hy : y = 0
  · subst hy
    rw [if_neg (fun h => h rfl)] at h
    obtain ⟨⟨s, x2, y⟩, hT⟩ : ∃ r, textE xs x1 8 512 = r := ⟨_, rfl⟩
    simp only [hT] at h
    by_cases hy : y = 0
    · subst hy
      rw [if_neg (fun h => h rfl)] at h
      obtain ⟨⟨fd, y⟩, hF⟩ : ∃ r, (if 192 ≤ xs.getD a 0 then fixedE n else getE q ((countN q : Int) - 1 - n)) = r := ⟨_, rfl⟩
      simp only [hF] at h
      by_cases hy : y = 0
      · subst hy
        rw [if_neg (fun h => h rfl)] at h
        simp only [Prod.mk.injEq] at h
        obtain ⟨h1, rfl, h3⟩ := h
        exact ⟨f, n, x1, s, fd, (insertE q ⟨fd.n, s⟩).2.1, hN, hT, hF, by rw [← h1, ← h3]⟩
      · rw [if_pos hy] at h
        simp only [Prod.mk.injEq] at h
        exact absurd h.2.2 hy
    · rw [if_pos hy] at h
      simp only [Prod.mk.injEq] at h
      exact absurd h.2.2 hy
  · rw [if_pos hy] at h
    simp only [Prod.mk.injEq] at h
    exact absurd h.2.2 hy
theorem insE_B {q q' : TQ} {xs : List Int} {a x : Nat} (hc1 : ¬ 128 ≤ xs.getD a 0) (hc : 64 ≤ xs.getD a 0) (h : insE q xs a = (q', x, 0)) : ∃ nm x1 s z, textE xs a 6 64 = (nm, x1, 0) ∧ textE xs x1 8 512 = (s, x, 0) ∧ insertE q ⟨nm, s⟩ = (q', z, 0) := by
  unfold insE at h
  rw [if_neg hc1, if_pos hc] at h
  obtain ⟨⟨nm, x1, y⟩, hN⟩ : ∃ r, textE xs a 6 64 = r := ⟨_, rfl⟩
  simp only [hN] at h
  by_cases hy : y = 0
  · subst hy
    rw [if_neg (fun h => h rfl)] at h
    obtain ⟨⟨s, x2, y⟩, hT⟩ : ∃ r, textE xs x1 8 512 = r := ⟨_, rfl⟩
    simp only [hT] at h
    by_cases hy : y = 0
    · subst hy
      rw [if_neg (fun h => h rfl)] at h
      simp only [Prod.mk.injEq] at h
      obtain ⟨h1, rfl, h3⟩ := h
      exact ⟨nm, x1, s, (insertE q ⟨nm, s⟩).2.1, hN, hT, by rw [← h1, ← h3]⟩
    · rw [if_pos hy] at h
      simp only [Prod.mk.injEq] at h
      exact absurd h.2.2 hy
  · rw [if_pos hy] at h
    simp only [Prod.mk.injEq] at h
    exact absurd h.2.2 hy
theorem insE_C {q q' : TQ} {xs : List Int} {a x : Nat} (hc1 : ¬ 128 ≤ xs.getD a 0) (hc2 : ¬ 64 ≤ xs.getD a 0) (hc : 32 ≤ xs.getD a 0) (h : insE q xs a = (q', x, 0)) : ∃ f n, numE xs a 5 = (f, n, x, 0) ∧ setCapE q n = (q', 0) := by
  unfold insE at h
  rw [if_neg hc1, if_neg hc2] at h
  obtain ⟨⟨f, n, x1, y⟩, hN⟩ : ∃ r, numE xs a 5 = r := ⟨_, rfl⟩
  simp only [hN] at h
  by_cases hy : y = 0
  · subst hy
    rw [if_neg (fun h => h rfl), if_pos hc] at h
    simp only [Prod.mk.injEq] at h
    obtain ⟨h1, rfl, h3⟩ := h
    exact ⟨f, n, hN, by rw [← h1, ← h3]⟩
  · rw [if_pos hy] at h
    simp only [Prod.mk.injEq] at h
    exact absurd h.2.2 hy
theorem insE_D {q q' : TQ} {xs : List Int} {a x : Nat} (hc1 : ¬ 128 ≤ xs.getD a 0) (hc2 : ¬ 64 ≤ xs.getD a 0) (hc : ¬ 32 ≤ xs.getD a 0) (h : insE q xs a = (q', x, 0)) : ∃ f n fd z, numE xs a 5 = (f, n, x, 0) ∧ getE q ((countN q : Int) - 1 - n) = (fd, 0) ∧ insertE q fd = (q', z, 0) := by
  unfold insE at h
  rw [if_neg hc1, if_neg hc2] at h
  obtain ⟨⟨f, n, x1, y⟩, hN⟩ : ∃ r, numE xs a 5 = r := ⟨_, rfl⟩
  simp only [hN] at h
  by_cases hy : y = 0
  · subst hy
    rw [if_neg (fun h => h rfl), if_neg hc] at h
    obtain ⟨⟨fd, y⟩, hF⟩ : ∃ r, getE q ((countN q : Int) - 1 - n) = r := ⟨_, rfl⟩
    simp only [hF] at h
    by_cases hy : y = 0
    · subst hy
      rw [if_neg (fun h => h rfl)] at h
      simp only [Prod.mk.injEq] at h
      obtain ⟨h1, rfl, h3⟩ := h
      exact ⟨f, n, fd, (insertE q fd).2.1, hN, hF, by rw [← h1, ← h3]⟩
    · rw [if_pos hy] at h
      simp only [Prod.mk.injEq] at h
      exact absurd h.2.2 hy
  · rw [if_pos hy] at h
    simp only [Prod.mk.injEq] at h
    exact absurd h.2.2 hy
theorem and_64 : ∀ i : Fin 256, bits .and .u8 (i.val : Int) 64 = if (i.val : Int) / 64 % 2 = 1 then 64 else 0 := by decide +kernel
theorem and_16 : ∀ i : Fin 256, bits .and .u8 (i.val : Int) 16 = if (i.val : Int) / 16 % 2 = 1 then 16 else 0 := by decide +kernel
theorem flag64 (c : Int) (h0 : 0 ≤ c) (h1 : c < 256) : bits .and .u8 c 64 = if c / 64 % 2 = 1 then 64 else 0 := by
  obtain ⟨n, rfl⟩ := Int.eq_ofNat_of_zero_le h0
  exact and_64 ⟨n, by omega⟩
theorem flag16 (c : Int) (h0 : 0 ≤ c) (h1 : c < 256) : bits .and .u8 c 16 = if c / 16 % 2 = 1 then 16 else 0 := by
  obtain ⟨n, rfl⟩ := Int.eq_ofNat_of_zero_le h0
  exact and_16 ⟨n, by omega⟩
/-- the byte at which a reader stands -/
theorem RR.byte {g : Nat} {v : Value} {xs : List Int} {a : Nat} {w : World} (h : RR g v xs a w) (ha : a < xs.length) : ∃ b p c, v = .slice (some ⟨b, p, none⟩) xs.length c ∧ ∀ n, (w.drewN n).cell? ⟨b, p + a, none⟩ = some (.int .u8 (xs.getD a 0)) := by
  rcases h.read with ⟨rfl, _⟩ | ⟨_, b, o, cp, he, h2, h3, h4, h5⟩
  · simp at ha
  · exact ⟨b, o, cp, he, fun n => h5 _ ha⟩

section
variable {g b : Nat} {v : Value} {q : TQ} {vx : Value} {xs : List Int} {a : Nat}
set_option maxHeartbeats 6400000 in
theorem rone_A1 (w : World) (h : RF g b v q vx xs a w) (hx : Bts xs) (hl : xs.length ≤ 1048576) (ho : TOk q) (hcn : countN q ≤ 4611686018427387000) (ha : a < xs.length) {q' : TQ} {x : Nat} (hI : insE q xs a = (q', x, 0)) (hc0 : 192 ≤ xs.getD a 0) :
    Calls Tryz.prog 29 #[.pointer (some ⟨b, 0, none⟩), .pointer (some ⟨g, 0, none⟩)] w fun e w' => e = .returned (.int .i64 0) ∧ ROne g b v q q' vx xs x w w' := by
  obtain ⟨f, n, x1, s, ⟨fn, fv⟩, z, hN, hT, hF, hi⟩ := insE_A (by omega) hI
  rw [if_pos hc0] at hF
  have hcb := getD_bts hx a
  obtain ⟨c, hc⟩ : ∃ c, c = xs.getD a 0 := ⟨_, rfl⟩
  rw [← hc] at hcb hc0
  obtain ⟨C, hC⟩ : ∃ C, C = countN q := ⟨_, rfl⟩
  obtain ⟨L, hL⟩ : ∃ L : Int, L = (C : Int) - 1 := ⟨_, rfl⟩
  have hw0 : IntKind.i64.wrap ((C : Int) - 1) = L := by rw [wraps_i64' _ (by omega) (by omega)]; omega
  have HCN : Hid (∀ W, RF g b v q vx xs a W → Calls Tryz.prog 34 #[.pointer (some ⟨b, 0, none⟩)] W fun e w' => e = .returned (.int .i64 (C : Int)) ∧ ∃ n, w' = W.drewN n) := fun W hW => by rw [hC]; exact rcount_any W hW.tb (by omega)
  have H0 := Lib.hid h
  obtain ⟨c0, c1, _, _⟩ := h.rd.facts
  obtain ⟨d0, d1, _, _⟩ := (h.drw 1).rd.facts
  obtain ⟨vb, vo, vc, rfl, hby⟩ := h.rd.byte ha
  have c2 := hby 0
  have c3 := hby 1
  rw [← hc] at c2 c3
  have c2' : w.cell? ⟨vb, vo + a, none⟩ = some (.int .u8 c) := c2
  have c3' : w.drew.cell? ⟨vb, vo + a, none⟩ = some (.int .u8 c) := c3
  have d128 : decide (c ≥ 128) = true := decide_eq_true (by omega)
  have f128 : decide (128 ≤ c) = true := decide_eq_true (by omega)
  have hand : bits .and .u8 c 64 = 64 := by rw [flag64 c hcb.1 hcb.2, if_pos (by omega)]
  have hn62 := (num_ok hx hN).2.2.2.1
  obtain ⟨M, hM⟩ : ∃ M : Int, M = L - (n : Int) := ⟨_, rfl⟩
  have hwM : IntKind.i64.wrap (L - (n : Int)) = M := by rw [wraps_i64' _ (by omega) (by omega)]; omega
  have HN : Hid (∀ W, RF g b v q (.slice (some ⟨vb, vo, none⟩) xs.length vc) xs a W → Calls Tryz.prog 33 #[.pointer (some ⟨g, 0, none⟩), .int .i64 6] W fun e w' => e = .returned (.tuple #[.int .i64 f, .int .i64 (n : Int)]) ∧ Keep [g] W w' ∧ RF g b v q (.slice (some ⟨vb, vo, none⟩) xs.length vc) xs x1 w') := fun W hW => hW.num hx 6 hN
  have HT : Hid (∀ W, RF g b v q (.slice (some ⟨vb, vo, none⟩) xs.length vc) xs x1 W → Calls Tryz.prog 47 #[.pointer (some ⟨g, 0, none⟩), .int .i64 8, .int .i64 512] W fun e w' => e = .returned (.string s) ∧ Keep [g] W w' ∧ RF g b v q (.slice (some ⟨vb, vo, none⟩) xs.length vc) xs x w') := fun W hW => hW.txt hx hl 8 512 (by decide) (by decide) (by decide) hT
  have HG : Hid (∀ W, RF g b v q (.slice (some ⟨vb, vo, none⟩) xs.length vc) xs x W → Calls Tryz.prog 48 #[.pointer (some ⟨b, 0, none⟩), .bool true, .int .i64 (n : Int), .int .i64 M] W fun e w' => e = .returned (.tuple #[.agg #[.string fn, .string fv], .int .i64 0]) ∧ Below W.heap.size W w') := fun W hW => rdget_any true n M W hW.tb (by omega) (by rw [← hF, hM, hL, hC]; rfl)
  have HP : Hid (∀ W, RF g b v q (.slice (some ⟨vb, vo, none⟩) xs.length vc) xs x W → Calls Tryz.prog 49 #[.pointer (some ⟨b, 0, none⟩), .agg #[.string fn, .string s]] W fun e w' => e = .returned (.int .i64 0) ∧ ROne g b v q q' (.slice (some ⟨vb, vo, none⟩) xs.length vc) xs x W w') := fun W hW => rput_yes hW ho hcn ⟨fn, s⟩ hi
  clear hN hT hF hi hcb hc0 hn62 hM
  clear h hx hl ho hcn hby c2 c3 hC hL hc
  go_enter Tryz.func29, Tryz.ntmps29
  go_wp2_with fail
  go_quiet (fail)
  have RA := Lib.hid (H0.out.drw nq)
  have KA : Hid (Keep [g] w (w.drewN nq)) := Keep.of_below (below_drewN (Below.refl _ _) nq)
  generalize w.drewN nq = wA at RA KA ⊢
  clear c0 c1 d0 d1 c2' c3'
  go_wp2_with (first
    | (go_at_call 34; refine (HCN.out _ RA.out).mono ?_; rintro e w0 ⟨rfl, nd, hw⟩; have R0 := Lib.hid (RA.out.drw nd); have K0 := Lib.hid (KA.out.drewN nd); rw [← hw] at R0 K0; clear hw)
    | (go_at_call 33; refine (HN.out _ R0.out).mono ?_; rintro e w2 ⟨rfl, hk, hr⟩; have K2 := Lib.hid (K0.out.trans hk (fun i hi => .inl hi)); have R2 := Lib.hid hr; obtain ⟨_, _, ee2, _⟩ := hr.rd.facts; clear hk hr)
    | (go_at_call 47; refine (HT.out _ R2.out).mono ?_; rintro e w3 ⟨rfl, hk, hr⟩; have K3 := Lib.hid (K2.out.trans hk (fun i hi => .inl hi)); have R3 := Lib.hid hr; obtain ⟨_, _, ee3, _⟩ := hr.rd.facts; clear hk hr)
    | (go_at_call 48; refine (HG.out _ R3.out).mono ?_; rintro e w4 ⟨rfl, hb4⟩; have R4 := Lib.hid (R3.out.bel hb4); have K4 := Lib.hid (K3.out.then_below hb4); clear hb4)
    | (go_at_call 49; refine (HP.out _ (R4.out.bel (below1 w4 _))).mono ?_; rintro e w9 ⟨rfl, hd⟩; have HD := Lib.hid (hd.ahead (K4.out.then_below (below1 w4 _))); clear hd))
  go_ret
  exact ⟨rfl, HD.out⟩
set_option maxHeartbeats 6400000 in
theorem rone_A2 (w : World) (h : RF g b v q vx xs a w) (hx : Bts xs) (hl : xs.length ≤ 1048576) (ho : TOk q) (hcn : countN q ≤ 4611686018427387000) (ha : a < xs.length) {q' : TQ} {x : Nat} (hI : insE q xs a = (q', x, 0)) (hc0 : 128 ≤ xs.getD a 0 ∧ ¬ 192 ≤ xs.getD a 0) :
    Calls Tryz.prog 29 #[.pointer (some ⟨b, 0, none⟩), .pointer (some ⟨g, 0, none⟩)] w fun e w' => e = .returned (.int .i64 0) ∧ ROne g b v q q' vx xs x w w' := by
  obtain ⟨f, n, x1, s, ⟨fn, fv⟩, z, hN, hT, hF, hi⟩ := insE_A (by omega) hI
  rw [if_neg hc0.2] at hF
  have hcb := getD_bts hx a
  obtain ⟨c, hc⟩ : ∃ c, c = xs.getD a 0 := ⟨_, rfl⟩
  rw [← hc] at hcb hc0
  obtain ⟨C, hC⟩ : ∃ C, C = countN q := ⟨_, rfl⟩
  obtain ⟨L, hL⟩ : ∃ L : Int, L = (C : Int) - 1 := ⟨_, rfl⟩
  have hw0 : IntKind.i64.wrap ((C : Int) - 1) = L := by rw [wraps_i64' _ (by omega) (by omega)]; omega
  have HCN : Hid (∀ W, RF g b v q vx xs a W → Calls Tryz.prog 34 #[.pointer (some ⟨b, 0, none⟩)] W fun e w' => e = .returned (.int .i64 (C : Int)) ∧ ∃ n, w' = W.drewN n) := fun W hW => by rw [hC]; exact rcount_any W hW.tb (by omega)
  have H0 := Lib.hid h
  obtain ⟨c0, c1, _, _⟩ := h.rd.facts
  obtain ⟨d0, d1, _, _⟩ := (h.drw 1).rd.facts
  obtain ⟨vb, vo, vc, rfl, hby⟩ := h.rd.byte ha
  have c2 := hby 0
  have c3 := hby 1
  rw [← hc] at c2 c3
  have c2' : w.cell? ⟨vb, vo + a, none⟩ = some (.int .u8 c) := c2
  have c3' : w.drew.cell? ⟨vb, vo + a, none⟩ = some (.int .u8 c) := c3
  have d128 : decide (c ≥ 128) = true := decide_eq_true (by omega)
  have f128 : decide (128 ≤ c) = true := decide_eq_true (by omega)
  have hand : bits .and .u8 c 64 = 0 := by rw [flag64 c hcb.1 hcb.2, if_neg (by omega)]
  have hn62 := (num_ok hx hN).2.2.2.1
  obtain ⟨M, hM⟩ : ∃ M : Int, M = L - (n : Int) := ⟨_, rfl⟩
  have hwM : IntKind.i64.wrap (L - (n : Int)) = M := by rw [wraps_i64' _ (by omega) (by omega)]; omega
  have HN : Hid (∀ W, RF g b v q (.slice (some ⟨vb, vo, none⟩) xs.length vc) xs a W → Calls Tryz.prog 33 #[.pointer (some ⟨g, 0, none⟩), .int .i64 6] W fun e w' => e = .returned (.tuple #[.int .i64 f, .int .i64 (n : Int)]) ∧ Keep [g] W w' ∧ RF g b v q (.slice (some ⟨vb, vo, none⟩) xs.length vc) xs x1 w') := fun W hW => hW.num hx 6 hN
  have HT : Hid (∀ W, RF g b v q (.slice (some ⟨vb, vo, none⟩) xs.length vc) xs x1 W → Calls Tryz.prog 47 #[.pointer (some ⟨g, 0, none⟩), .int .i64 8, .int .i64 512] W fun e w' => e = .returned (.string s) ∧ Keep [g] W w' ∧ RF g b v q (.slice (some ⟨vb, vo, none⟩) xs.length vc) xs x w') := fun W hW => hW.txt hx hl 8 512 (by decide) (by decide) (by decide) hT
  have HG : Hid (∀ W, RF g b v q (.slice (some ⟨vb, vo, none⟩) xs.length vc) xs x W → Calls Tryz.prog 48 #[.pointer (some ⟨b, 0, none⟩), .bool false, .int .i64 (n : Int), .int .i64 M] W fun e w' => e = .returned (.tuple #[.agg #[.string fn, .string fv], .int .i64 0]) ∧ Below W.heap.size W w') := fun W hW => rdget_any false n M W hW.tb (by omega) (by rw [← hF, hM, hL, hC]; rfl)
  have HP : Hid (∀ W, RF g b v q (.slice (some ⟨vb, vo, none⟩) xs.length vc) xs x W → Calls Tryz.prog 49 #[.pointer (some ⟨b, 0, none⟩), .agg #[.string fn, .string s]] W fun e w' => e = .returned (.int .i64 0) ∧ ROne g b v q q' (.slice (some ⟨vb, vo, none⟩) xs.length vc) xs x W w') := fun W hW => rput_yes hW ho hcn ⟨fn, s⟩ hi
  clear hN hT hF hi hcb hc0 hn62 hM
  clear h hx hl ho hcn hby c2 c3 hC hL hc
  go_enter Tryz.func29, Tryz.ntmps29
  go_wp2_with fail
  go_quiet (fail)
  have RA := Lib.hid (H0.out.drw nq)
  have KA : Hid (Keep [g] w (w.drewN nq)) := Keep.of_below (below_drewN (Below.refl _ _) nq)
  generalize w.drewN nq = wA at RA KA ⊢
  clear c0 c1 d0 d1 c2' c3'
  go_wp2_with (first
    | (go_at_call 34; refine (HCN.out _ RA.out).mono ?_; rintro e w0 ⟨rfl, nd, hw⟩; have R0 := Lib.hid (RA.out.drw nd); have K0 := Lib.hid (KA.out.drewN nd); rw [← hw] at R0 K0; clear hw)
    | (go_at_call 33; refine (HN.out _ R0.out).mono ?_; rintro e w2 ⟨rfl, hk, hr⟩; have K2 := Lib.hid (K0.out.trans hk (fun i hi => .inl hi)); have R2 := Lib.hid hr; obtain ⟨_, _, ee2, _⟩ := hr.rd.facts; clear hk hr)
    | (go_at_call 47; refine (HT.out _ R2.out).mono ?_; rintro e w3 ⟨rfl, hk, hr⟩; have K3 := Lib.hid (K2.out.trans hk (fun i hi => .inl hi)); have R3 := Lib.hid hr; obtain ⟨_, _, ee3, _⟩ := hr.rd.facts; clear hk hr)
    | (go_at_call 48; refine (HG.out _ R3.out).mono ?_; rintro e w4 ⟨rfl, hb4⟩; have R4 := Lib.hid (R3.out.bel hb4); have K4 := Lib.hid (K3.out.then_below hb4); clear hb4)
    | (go_at_call 49; refine (HP.out _ (R4.out.bel (below1 w4 _))).mono ?_; rintro e w9 ⟨rfl, hd⟩; have HD := Lib.hid (hd.ahead (K4.out.then_below (below1 w4 _))); clear hd))
  go_ret
  exact ⟨rfl, HD.out⟩
set_option maxHeartbeats 6400000 in
theorem rone_B (w : World) (h : RF g b v q vx xs a w) (hx : Bts xs) (hl : xs.length ≤ 1048576) (ho : TOk q) (hcn : countN q ≤ 4611686018427387000) (ha : a < xs.length) {q' : TQ} {x : Nat} (hI : insE q xs a = (q', x, 0)) (hc0 : ¬ 128 ≤ xs.getD a 0 ∧ 64 ≤ xs.getD a 0) :
    Calls Tryz.prog 29 #[.pointer (some ⟨b, 0, none⟩), .pointer (some ⟨g, 0, none⟩)] w fun e w' => e = .returned (.int .i64 0) ∧ ROne g b v q q' vx xs x w w' := by
  obtain ⟨nm, x1, s, z, hN, hT, hi⟩ := insE_B hc0.1 hc0.2 hI
  have hcb := getD_bts hx a
  obtain ⟨c, hc⟩ : ∃ c, c = xs.getD a 0 := ⟨_, rfl⟩
  rw [← hc] at hcb hc0
  obtain ⟨C, hC⟩ : ∃ C, C = countN q := ⟨_, rfl⟩
  obtain ⟨L, hL⟩ : ∃ L : Int, L = (C : Int) - 1 := ⟨_, rfl⟩
  have hw0 : IntKind.i64.wrap ((C : Int) - 1) = L := by rw [wraps_i64' _ (by omega) (by omega)]; omega
  have HCN : Hid (∀ W, RF g b v q vx xs a W → Calls Tryz.prog 34 #[.pointer (some ⟨b, 0, none⟩)] W fun e w' => e = .returned (.int .i64 (C : Int)) ∧ ∃ n, w' = W.drewN n) := fun W hW => by rw [hC]; exact rcount_any W hW.tb (by omega)
  have H0 := Lib.hid h
  obtain ⟨c0, c1, _, _⟩ := h.rd.facts
  obtain ⟨d0, d1, _, _⟩ := (h.drw 1).rd.facts
  obtain ⟨vb, vo, vc, rfl, hby⟩ := h.rd.byte ha
  have c2 := hby 0
  have c3 := hby 1
  rw [← hc] at c2 c3
  have c2' : w.cell? ⟨vb, vo + a, none⟩ = some (.int .u8 c) := c2
  have c3' : w.drew.cell? ⟨vb, vo + a, none⟩ = some (.int .u8 c) := c3
  have d128 : decide (c ≥ 128) = false := decide_eq_false (by omega)
  have f128 : decide (128 ≤ c) = false := decide_eq_false (by omega)
  have d64 : decide (c ≥ 64) = true := decide_eq_true (by omega)
  have f64 : decide (64 ≤ c) = true := decide_eq_true (by omega)
  have HT1 : Hid (∀ W, RF g b v q (.slice (some ⟨vb, vo, none⟩) xs.length vc) xs a W → Calls Tryz.prog 47 #[.pointer (some ⟨g, 0, none⟩), .int .i64 6, .int .i64 64] W fun e w' => e = .returned (.string nm) ∧ Keep [g] W w' ∧ RF g b v q (.slice (some ⟨vb, vo, none⟩) xs.length vc) xs x1 w') := fun W hW => hW.txt hx hl 6 64 (by decide) (by decide) (by decide) hN
  have HT2 : Hid (∀ W, RF g b v q (.slice (some ⟨vb, vo, none⟩) xs.length vc) xs x1 W → Calls Tryz.prog 47 #[.pointer (some ⟨g, 0, none⟩), .int .i64 8, .int .i64 512] W fun e w' => e = .returned (.string s) ∧ Keep [g] W w' ∧ RF g b v q (.slice (some ⟨vb, vo, none⟩) xs.length vc) xs x w') := fun W hW => hW.txt hx hl 8 512 (by decide) (by decide) (by decide) hT
  have HP : Hid (∀ W, RF g b v q (.slice (some ⟨vb, vo, none⟩) xs.length vc) xs x W → Calls Tryz.prog 49 #[.pointer (some ⟨b, 0, none⟩), .agg #[.string nm, .string s]] W fun e w' => e = .returned (.int .i64 0) ∧ ROne g b v q q' (.slice (some ⟨vb, vo, none⟩) xs.length vc) xs x W w') := fun W hW => rput_yes hW ho hcn ⟨nm, s⟩ hi
  have tok : True := trivial
  clear hN hT hi hcb hc0
  clear h hx hl ho hcn hby c2 c3 hC hL hc
  go_enter Tryz.func29, Tryz.ntmps29
  go_wp2_with fail
  go_quiet (fail)
  have RA := Lib.hid (H0.out.drw nq)
  have KA : Hid (Keep [g] w (w.drewN nq)) := Keep.of_below (below_drewN (Below.refl _ _) nq)
  generalize w.drewN nq = wA at RA KA ⊢
  clear c0 c1 d0 d1 c2' c3'
  go_wp2_with (first
    | (go_at_call 34; refine (HCN.out _ RA.out).mono ?_; rintro e w0 ⟨rfl, nd, hw⟩; have R0 := Lib.hid (RA.out.drw nd); have K0 := Lib.hid (KA.out.drewN nd); rw [← hw] at R0 K0; clear hw)
    | (go_at_call 47; have _t := tok; refine (HT1.out _ R0.out).mono ?_; rintro e w2 ⟨rfl, hk, hr⟩; have K2 := Lib.hid (K0.out.trans hk (fun i hi => .inl hi)); have R2 := Lib.hid hr; obtain ⟨_, _, ee2, _⟩ := hr.rd.facts; clear hk hr; clear tok)
    | (go_at_call 47; refine (HT2.out _ R2.out).mono ?_; rintro e w3 ⟨rfl, hk, hr⟩; have K3 := Lib.hid (K2.out.trans hk (fun i hi => .inl hi)); have R3 := Lib.hid hr; obtain ⟨_, _, ee3, _⟩ := hr.rd.facts; clear hk hr)
    | (go_at_call 49; refine (HP.out _ R3.out).mono ?_; rintro e w9 ⟨rfl, hd⟩; have HD := Lib.hid (hd.ahead K3.out); clear hd))
  go_ret
  exact ⟨rfl, HD.out⟩
set_option maxHeartbeats 6400000 in
theorem rone_C (w : World) (h : RF g b v q vx xs a w) (hx : Bts xs) (hl : xs.length ≤ 1048576) (ho : TOk q) (hcn : countN q ≤ 4611686018427387000) (ha : a < xs.length) {q' : TQ} {x : Nat} (hI : insE q xs a = (q', x, 0)) (hc0 : ¬ 128 ≤ xs.getD a 0 ∧ ¬ 64 ≤ xs.getD a 0 ∧ 32 ≤ xs.getD a 0) :
    Calls Tryz.prog 29 #[.pointer (some ⟨b, 0, none⟩), .pointer (some ⟨g, 0, none⟩)] w fun e w' => e = .returned (.int .i64 0) ∧ ROne g b v q q' vx xs x w w' := by
  obtain ⟨f, n, hN, hi⟩ := insE_C hc0.1 hc0.2.1 hc0.2.2 hI
  have hcb := getD_bts hx a
  obtain ⟨c, hc⟩ : ∃ c, c = xs.getD a 0 := ⟨_, rfl⟩
  rw [← hc] at hcb hc0
  obtain ⟨C, hC⟩ : ∃ C, C = countN q := ⟨_, rfl⟩
  obtain ⟨L, hL⟩ : ∃ L : Int, L = (C : Int) - 1 := ⟨_, rfl⟩
  have hw0 : IntKind.i64.wrap ((C : Int) - 1) = L := by rw [wraps_i64' _ (by omega) (by omega)]; omega
  have HCN : Hid (∀ W, RF g b v q vx xs a W → Calls Tryz.prog 34 #[.pointer (some ⟨b, 0, none⟩)] W fun e w' => e = .returned (.int .i64 (C : Int)) ∧ ∃ n, w' = W.drewN n) := fun W hW => by rw [hC]; exact rcount_any W hW.tb (by omega)
  have H0 := Lib.hid h
  obtain ⟨c0, c1, _, _⟩ := h.rd.facts
  obtain ⟨d0, d1, _, _⟩ := (h.drw 1).rd.facts
  obtain ⟨vb, vo, vc, rfl, hby⟩ := h.rd.byte ha
  have c2 := hby 0
  have c3 := hby 1
  rw [← hc] at c2 c3
  have c2' : w.cell? ⟨vb, vo + a, none⟩ = some (.int .u8 c) := c2
  have c3' : w.drew.cell? ⟨vb, vo + a, none⟩ = some (.int .u8 c) := c3
  have d128 : decide (c ≥ 128) = false := decide_eq_false (by omega)
  have f128 : decide (128 ≤ c) = false := decide_eq_false (by omega)
  have d64 : decide (c ≥ 64) = false := decide_eq_false (by omega)
  have f64 : decide (64 ≤ c) = false := decide_eq_false (by omega)
  have d32 : decide (c ≥ 32) = true := decide_eq_true (by omega)
  have f32 : decide (32 ≤ c) = true := decide_eq_true (by omega)
  have HN : Hid (∀ W, RF g b v q (.slice (some ⟨vb, vo, none⟩) xs.length vc) xs a W → Calls Tryz.prog 33 #[.pointer (some ⟨g, 0, none⟩), .int .i64 5] W fun e w' => e = .returned (.tuple #[.int .i64 f, .int .i64 (n : Int)]) ∧ Keep [g] W w' ∧ RF g b v q (.slice (some ⟨vb, vo, none⟩) xs.length vc) xs x w') := fun W hW => hW.num hx 5 hN
  have HS : Hid (∀ W, RF g b v q (.slice (some ⟨vb, vo, none⟩) xs.length vc) xs x W → Calls Tryz.prog 50 #[.pointer (some ⟨b, 0, none⟩), .int .i64 (n : Int)] W fun e w' => e = .returned (.int .i64 0) ∧ ROne g b v q q' (.slice (some ⟨vb, vo, none⟩) xs.length vc) xs x W w') := fun W hW => by
    have := rsetCap_any (n : Int) W (by have h1 := ho.most; have h2 := ho.cap; have h3 := ho.used; omega) hW.tb (by omega)
    rw [hi] at this
    exact this.mono fun e w' ⟨h1, h2⟩ => ⟨h1, hW.did h2⟩
  clear hN hi hcb hc0
  clear h hx hl ho hcn hby c2 c3 hC hL hc
  go_enter Tryz.func29, Tryz.ntmps29
  go_wp2_with fail
  go_quiet (fail)
  have RA := Lib.hid (H0.out.drw nq)
  have KA : Hid (Keep [g] w (w.drewN nq)) := Keep.of_below (below_drewN (Below.refl _ _) nq)
  generalize w.drewN nq = wA at RA KA ⊢
  clear c0 c1 d0 d1 c2' c3'
  go_wp2_with (first
    | (go_at_call 34; refine (HCN.out _ RA.out).mono ?_; rintro e w0 ⟨rfl, nd, hw⟩; have R0 := Lib.hid (RA.out.drw nd); have K0 := Lib.hid (KA.out.drewN nd); rw [← hw] at R0 K0; clear hw)
    | (go_at_call 33; refine (HN.out _ R0.out).mono ?_; rintro e w2 ⟨rfl, hk, hr⟩; have K2 := Lib.hid (K0.out.trans hk (fun i hi => .inl hi)); have R2 := Lib.hid hr; obtain ⟨_, _, ee2, _⟩ := hr.rd.facts; clear hk hr)
    | (go_at_call 50; refine (HS.out _ R2.out).mono ?_; rintro e w9 ⟨rfl, hd⟩; have HD := Lib.hid (hd.ahead K2.out); clear hd))
  go_ret
  exact ⟨rfl, HD.out⟩
set_option maxHeartbeats 6400000 in
theorem rone_D (w : World) (h : RF g b v q vx xs a w) (hx : Bts xs) (hl : xs.length ≤ 1048576) (ho : TOk q) (hcn : countN q ≤ 4611686018427387000) (ha : a < xs.length) {q' : TQ} {x : Nat} (hI : insE q xs a = (q', x, 0)) (hc0 : ¬ 128 ≤ xs.getD a 0 ∧ ¬ 64 ≤ xs.getD a 0 ∧ ¬ 32 ≤ xs.getD a 0) :
    Calls Tryz.prog 29 #[.pointer (some ⟨b, 0, none⟩), .pointer (some ⟨g, 0, none⟩)] w fun e w' => e = .returned (.int .i64 0) ∧ ROne g b v q q' vx xs x w w' := by
  obtain ⟨f, n, ⟨fn, fv⟩, z, hN, hF, hi⟩ := insE_D hc0.1 hc0.2.1 hc0.2.2 hI
  have hcb := getD_bts hx a
  obtain ⟨c, hc⟩ : ∃ c, c = xs.getD a 0 := ⟨_, rfl⟩
  rw [← hc] at hcb hc0
  obtain ⟨C, hC⟩ : ∃ C, C = countN q := ⟨_, rfl⟩
  obtain ⟨L, hL⟩ : ∃ L : Int, L = (C : Int) - 1 := ⟨_, rfl⟩
  have hw0 : IntKind.i64.wrap ((C : Int) - 1) = L := by rw [wraps_i64' _ (by omega) (by omega)]; omega
  have HCN : Hid (∀ W, RF g b v q vx xs a W → Calls Tryz.prog 34 #[.pointer (some ⟨b, 0, none⟩)] W fun e w' => e = .returned (.int .i64 (C : Int)) ∧ ∃ n, w' = W.drewN n) := fun W hW => by rw [hC]; exact rcount_any W hW.tb (by omega)
  have H0 := Lib.hid h
  obtain ⟨c0, c1, _, _⟩ := h.rd.facts
  obtain ⟨d0, d1, _, _⟩ := (h.drw 1).rd.facts
  obtain ⟨vb, vo, vc, rfl, hby⟩ := h.rd.byte ha
  have c2 := hby 0
  have c3 := hby 1
  rw [← hc] at c2 c3
  have c2' : w.cell? ⟨vb, vo + a, none⟩ = some (.int .u8 c) := c2
  have c3' : w.drew.cell? ⟨vb, vo + a, none⟩ = some (.int .u8 c) := c3
  have d128 : decide (c ≥ 128) = false := decide_eq_false (by omega)
  have f128 : decide (128 ≤ c) = false := decide_eq_false (by omega)
  have d64 : decide (c ≥ 64) = false := decide_eq_false (by omega)
  have f64 : decide (64 ≤ c) = false := decide_eq_false (by omega)
  have d32 : decide (c ≥ 32) = false := decide_eq_false (by omega)
  have f32 : decide (32 ≤ c) = false := decide_eq_false (by omega)
  have hn62 := (num_ok hx hN).2.2.2.1
  obtain ⟨M, hM⟩ : ∃ M : Int, M = L - (n : Int) := ⟨_, rfl⟩
  have hwM : IntKind.i64.wrap (L - (n : Int)) = M := by rw [wraps_i64' _ (by omega) (by omega)]; omega
  have HN : Hid (∀ W, RF g b v q (.slice (some ⟨vb, vo, none⟩) xs.length vc) xs a W → Calls Tryz.prog 33 #[.pointer (some ⟨g, 0, none⟩), .int .i64 5] W fun e w' => e = .returned (.tuple #[.int .i64 f, .int .i64 (n : Int)]) ∧ Keep [g] W w' ∧ RF g b v q (.slice (some ⟨vb, vo, none⟩) xs.length vc) xs x w') := fun W hW => hW.num hx 5 hN
  have HG : Hid (∀ W, RF g b v q (.slice (some ⟨vb, vo, none⟩) xs.length vc) xs x W → Calls Tryz.prog 51 #[.pointer (some ⟨b, 0, none⟩), .int .i64 M] W fun e w' => e = .returned (.tuple #[.agg #[.string fn, .string fv], .int .i64 0]) ∧ Below W.heap.size W w') := fun W hW => by
    have := rget_any M W hW.tb (by omega)
    rw [hM, hL, hC, hF] at this
    rw [hM, hL, hC]; exact this
  have HP : Hid (∀ W, RF g b v q (.slice (some ⟨vb, vo, none⟩) xs.length vc) xs x W → Calls Tryz.prog 49 #[.pointer (some ⟨b, 0, none⟩), .agg #[.string fn, .string fv]] W fun e w' => e = .returned (.int .i64 0) ∧ ROne g b v q q' (.slice (some ⟨vb, vo, none⟩) xs.length vc) xs x W w') := fun W hW => rput_yes hW ho hcn ⟨fn, fv⟩ hi
  clear hN hF hi hcb hc0 hn62 hM
  clear h hx hl ho hcn hby c2 c3 hC hL hc
  go_enter Tryz.func29, Tryz.ntmps29
  go_wp2_with fail
  go_quiet (fail)
  have RA := Lib.hid (H0.out.drw nq)
  have KA : Hid (Keep [g] w (w.drewN nq)) := Keep.of_below (below_drewN (Below.refl _ _) nq)
  generalize w.drewN nq = wA at RA KA ⊢
  clear c0 c1 d0 d1 c2' c3'
  go_wp2_with (first
    | (go_at_call 34; refine (HCN.out _ RA.out).mono ?_; rintro e w0 ⟨rfl, nd, hw⟩; have R0 := Lib.hid (RA.out.drw nd); have K0 := Lib.hid (KA.out.drewN nd); rw [← hw] at R0 K0; clear hw)
    | (go_at_call 33; refine (HN.out _ R0.out).mono ?_; rintro e w2 ⟨rfl, hk, hr⟩; have K2 := Lib.hid (K0.out.trans hk (fun i hi => .inl hi)); have R2 := Lib.hid hr; obtain ⟨_, _, ee2, _⟩ := hr.rd.facts; clear hk hr)
    | (go_at_call 51; refine (HG.out _ R2.out).mono ?_; rintro e w4 ⟨rfl, hb4⟩; have R4 := Lib.hid (R2.out.bel hb4); have K4 := Lib.hid (K2.out.then_below hb4); clear hb4)
    | (go_at_call 49; refine (HP.out _ (R4.out.bel (below1 w4 _))).mono ?_; rintro e w9 ⟨rfl, hd⟩; have HD := Lib.hid (hd.ahead (K4.out.then_below (below1 w4 _))); clear hd))
  go_ret
  exact ⟨rfl, HD.out⟩
theorem rone_yes (w : World) (h : RF g b v q vx xs a w) (hx : Bts xs) (hl : xs.length ≤ 1048576) (ho : TOk q) (hcn : countN q ≤ 4611686018427387000) (ha : a < xs.length) {q' : TQ} {x : Nat} (hI : insE q xs a = (q', x, 0)) :
    Calls Tryz.prog 29 #[.pointer (some ⟨b, 0, none⟩), .pointer (some ⟨g, 0, none⟩)] w fun e w' => e = .returned (.int .i64 0) ∧ ROne g b v q q' vx xs x w w' := by
  by_cases h192 : 192 ≤ xs.getD a 0
  · exact rone_A1 w h hx hl ho hcn ha hI h192
  · by_cases h128 : 128 ≤ xs.getD a 0
    · exact rone_A2 w h hx hl ho hcn ha hI ⟨h128, h192⟩
    · by_cases h64 : 64 ≤ xs.getD a 0
      · exact rone_B w h hx hl ho hcn ha hI ⟨h128, h64⟩
      · by_cases h32 : 32 ≤ xs.getD a 0
        · exact rone_C w h hx hl ho hcn ha hI ⟨h128, h64, h32⟩
        · exact rone_D w h hx hl ho hcn ha hI ⟨h128, h64, h32⟩
end
end Go.Proofs.YtbkbabaoockigaaGreatDoor
