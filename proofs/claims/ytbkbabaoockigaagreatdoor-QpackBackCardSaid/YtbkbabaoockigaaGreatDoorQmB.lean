/- Walks of layer 14, the document's reader: a number, a text, where they stand. -/
import Derived.Test.YtbkbabaoockigaaGreatDoorQmA
import Derived.Test.YtbkbabaoockigaaGreatDoorPk4
set_option maxRecDepth 100000
set_option linter.unusedSimpArgs false
set_option linter.unusedVariables false
namespace Go.Proofs.YtbkbabaoockigaaGreatDoor
open Go.RowKit

/-- block g is the document's reader of v, which reads as xs, at a, without an error -/
abbrev RR (g : Nat) (v : Value) (xs : List Int) (a : Nat) (w : World) : Prop := Rdr g 0 v xs a [v, .int .i64 (a : Int), .int .i64 0] w
theorem RR.at {g : Nat} {v : Value} {xs : List Int} {a : Nat} {w : World} (h : RR g v xs a w) (x : Nat) : RR g v xs x (w.setCell ⟨g, 1, none⟩ (.int .i64 (x : Int))) := Rdr.move h x
theorem RR.facts {g : Nat} {v : Value} {xs : List Int} {a : Nat} {w : World} (h : RR g v xs a w) : w.cell? ⟨g, 0, none⟩ = some v ∧ w.cell? ⟨g, 1, none⟩ = some (.int .i64 (a : Int)) ∧ w.cell? ⟨g, 2, none⟩ = some (.int .i64 0) ∧ w.frozen? ⟨g, 1, none⟩ = false :=
  ⟨h.cells.get 0 _ rfl, h.cells.get 1 _ rfl, h.cells.get 2 _ rfl, h.cells.free _⟩
theorem RR.bel {g : Nat} {v : Value} {xs : List Int} {a : Nat} {w w' : World} (h : RR g v xs a w) (hb : Below w.heap.size w w') : RR g v xs a w' := Rdr.below h hb
theorem RR.drw {g : Nat} {v : Value} {xs : List Int} {a : Nat} {w : World} (h : RR g v xs a w) (n : Nat) : RR g v xs a (w.drewN n) := Rdr.drewN h n

set_option maxHeartbeats 3200000 in
theorem rnum_yes {g : Nat} {v : Value} {xs : List Int} {a : Nat} (k : Int) (w : World) (h : RR g v xs a w) (hx : Bts xs) {f : Int} {n x : Nat} (hN : numE xs a k = (f, n, x, 0)) :
    Calls Tryz.prog 33 #[.pointer (some ⟨g, 0, none⟩), .int .i64 k] w fun e w' => e = .returned (.tuple #[.int .i64 f, .int .i64 (n : Int)]) ∧ Keep [g] w w' ∧ RR g v xs x w' := by
  obtain ⟨hP, _, _, _, _, hk⟩ := num_ok hx hN
  have ha := (num_flags hx hN).1
  have HR := Lib.hid h
  obtain ⟨va, vc, rfl⟩ := h.read.isSlice
  have HG : Hid (∀ V, Below w.heap.size w V → Calls Tryz.prog 55 #[.slice va xs.length vc, .int .i64 (a : Int), .int .i64 k] V fun e w' => e = .returned (.tuple #[.int .i64 f, .int .i64 (n : Int), .int .i64 (x : Int), .agg #[.int .i64 0, .int .i64 0]]) ∧ Below V.heap.size V w') :=
    fun V hV => rget_ok (.slice va xs.length vc) xs a k V (h.read.below hV) hx hk ha hP
  have HS : Hid (∀ V, Below w.heap.size w V → (V.cell? ⟨g, 0, none⟩ = some (.slice va xs.length vc) ∧ V.cell? ⟨g, 1, none⟩ = some (.int .i64 (a : Int)))) := fun V hV => ⟨(h.bel hV).facts.1, (h.bel hV).facts.2.1⟩
  have hlt := h.lt
  obtain ⟨q0, q1, q2, _⟩ := h.facts
  have B0 : Hid (Below w.heap.size w w.drew) := (Below.refl _ _ : Below w.heap.size w w).drew
  have B1 : Hid (Below w.heap.size w (w.alloc (.cells #[.int .i64 0, .int .i64 0] 42)).drew) := ((Below.refl _ _ : Below w.heap.size w w).alloc (Nat.le_refl _) _).drew
  have N1 : Hid (Held2 w.heap.size 0 0 (w.alloc (.cells #[.int .i64 0, .int .i64 0] 42)).drew) := held2_last _ _ _ _
  have N1z : Hid (w.heap.size + 1 ≤ (w.alloc (.cells #[.int .i64 0, .int .i64 0] 42)).drew.heap.size) := by
    show _ ≤ (w.alloc (.cells #[.int .i64 0, .int .i64 0] 42)).heap.size
    simp
  have K0 := HS.out _ B0.out
  have K1 := HS.out _ B1.out
  clear h hN hP hk ha
  go_enter Tryz.func33, Tryz.ntmps33
  go_wp2_with fail
  go_cut [6, 7, 8, 9] (fun t7 t8 t9 t10 wx => ∃ q : Nat, t7 = .int .i64 f ∧ t8 = .int .i64 n ∧ t9 = .int .i64 x ∧ t10 = .pointer (some ⟨q, 0, none⟩) ∧ Held2 q 0 0 wx ∧ Below w.heap.size w wx ∧ w.heap.size ≤ q)
  case first =>
    go_region_held3 (fun V => (V.cell? ⟨g, 0, none⟩ = some (.slice va xs.length vc) ∧ V.cell? ⟨g, 1, none⟩ = some (.int .i64 (a : Int))))
      (first
        | (exact K0)
        | (exact K1)
        | (exact HS.out _ BB.out)
        | (exact HS.out _ BF.out)
        | (exact HS.out _ BF0.out))
      (first
        | (go_at_call 55; refine (HG.out _ B0.out).mono ?_; rintro e w4 ⟨rfl, bn⟩; have BB := Lib.hid (B0.out.trans (bn.mono B0.out.size)); have LQ : Hid (w.heap.size ≤ w4.heap.size) := Lib.hid BB.out.size; obtain ⟨y0, y1⟩ := (held2_last 0 0 42 w4).free; have BF := Lib.hid (BB.out.alloc BB.out.size (.cells #[.int .i64 0, .int .i64 0] 42)); have HF := Lib.hid (held2_last 0 0 42 w4); have BF0 := Lib.hid (BB.out.alloc BB.out.size (.cells #[.int .i64 0, .int .i64 0] 42)); clear bn)
        | (go_at_call 55; refine (HG.out _ B1.out).mono ?_; rintro e w4 ⟨rfl, bn⟩; have HN := Lib.hid (N1.out.below bn); have LQ : Hid (w.heap.size ≤ w.heap.size) := Lib.hid (Nat.le_refl _); have BB := Lib.hid (B1.out.trans (bn.mono (Nat.le_of_succ_le N1z.out))); obtain ⟨y0, y1⟩ := HN.out.free; obtain ⟨x0, x1⟩ := HN.out.facts; have HF : Hid (Held2 w.heap.size 0 0 ((w4.setCell ⟨w.heap.size, 0, none⟩ (.int .i64 0)).setCell ⟨w.heap.size, 1, none⟩ (.int .i64 0))) := Lib.hid (held2_set HN.out); have BF := Lib.hid ((BB.out.setCell (p := ⟨w.heap.size, 0, none⟩) (Nat.le_refl _) (.int .i64 0)).setCell (p := ⟨w.heap.size, 1, none⟩) (Nat.le_refl _) (.int .i64 0)); clear bn))
    all_goals
      go_wp2_with fail
      go_meet
      exact ⟨_, rfl, rfl, rfl, rfl, HF.out, BF.out, LQ.out⟩
  case rest =>
    obtain ⟨q, rfl, rfl, rfl, rfl, hq, hbx, hqq⟩ := hcut
    obtain ⟨c0, c1⟩ := hq.facts
    obtain ⟨r0, r1, r2, r3⟩ := (HR.out.bel hbx).facts
    have BX := Lib.hid hbx
    have hqz := hq.lt
    have hgz := (HR.out.bel hbx).lt
    clear hq hbx K0 K1 HS HG
    go_wp2_with fail
    go_ret2
    exact ⟨rfl, (Keep.of_below (S := [g]) BX.out).trans (keep_set _ _ _ _) (fun i hi => .inl hi), (HR.out.bel BX.out).at x⟩

theorem flag_1 : ∀ (k : Fin 8) (f : Fin 256), bits .and .i64 ((f.val : Int) / 2 ^ k.val) 1 = (f.val : Int) / 2 ^ k.val % 2 := by decide +kernel

set_option maxHeartbeats 3200000 in
theorem rtext_any {g : Nat} {v : Value} {xs : List Int} {a : Nat} (k most : Nat) (w : World) (h : RR g v xs a w) (hx : Bts xs) (hl : xs.length ≤ 1048576) (hk0 : 1 ≤ k) (hk : k < 8) (hm : most ≤ 512) {s : ByteArray} {x' : Nat} (hT : textE xs a ((k : Int) + 1) most = (s, x', 0)) :
    Calls Tryz.prog 47 #[.pointer (some ⟨g, 0, none⟩), .int .i64 ((k : Int) + 1), .int .i64 (most : Int)] w fun e w' => e = .returned (.string s) ∧ Keep [g] w w' ∧ RR g v xs x' w' := by
  have hsub : IntKind.i64.wrap ((k : Int) + 1 - 1) = (k : Int) := by rw [wraps_i64' _ (by omega) (by omega)]; omega
  have hsub0 : IntKind.i64.wrap (k : Int) = (k : Int) := by rw [wraps_i64' _ (by omega) (by omega)]
  have e1 : (k : Int) + 1 - 1 = (k : Int) := by omega
  obtain ⟨⟨f, n, x, y⟩, hN⟩ : ∃ r, numE xs a (k : Int) = r := ⟨_, rfl⟩
  unfold textE at hT
  rw [e1] at hT
  simp only [hN] at hT
  have hy : y = 0 := by
    by_cases hy : y = 0
    · exact hy
    · rw [if_pos hy] at hT
      simp only [Prod.mk.injEq] at hT
      exact absurd hT.2.2 hy
  subst hy
  rw [if_neg (fun h => h rfl)] at hT
  have HN := Lib.hid (rnum_yes (k : Int) w h hx hN)
  obtain ⟨_, hax, hxl, hn62, hf, hkw⟩ := num_ok hx hN
  rw [full_pow hk0 hk] at hT
  obtain ⟨va, vc, rfl⟩ := h.read.isSlice
  obtain ⟨m, hm1⟩ : ∃ m, m = xs.length - x := ⟨_, rfl⟩
  have hw1 : IntKind.i64.wrap ((xs.length : Int) - (x : Int)) = (m : Int) := by rw [wraps_i64' _ (by omega) (by omega)]; omega
  rw [← hm1] at hT
  by_cases hc : m < n
  · rw [if_pos hc] at hT
    simp only [Prod.mk.injEq] at hT
    exact absurd hT.2.2 (by decide)
  rw [if_neg hc] at hT
  have d1 : decide ((n : Int) > (m : Int)) = false := decide_eq_false (by omega)
  have d1' : decide (n > m) = false := decide_eq_false (by omega)
  have d1'' : decide (m < n) = false := decide_eq_false hc
  have hvc : xs.length ≤ vc := by
    rcases h.read with ⟨e, a', c', he, _, _⟩ | ⟨_, b', o', c', he, h2, _⟩
    · rw [e]; simp
    · simp only [Value.slice.injEq] at he; omega
  have hlen : ∃ vb vo, va = some ⟨vb, vo, none⟩ := by
    rcases h.read with ⟨e, _⟩ | ⟨_, b', o', c', he, h2, _⟩
    · rw [e] at hxl; simp at hxl; omega
    · simp only [Value.slice.injEq] at he; exact ⟨b', o', he.1⟩
  obtain ⟨vb, vo, rfl⟩ := hlen
  have hnm : n ≤ xs.length := by omega
  have hw2 : IntKind.i64.wrap ((x : Int) + (n : Int)) = ((x + n : Nat) : Int) := by rw [wraps_i64' _ (by omega) (by omega)]; omega
  have hs1 : x + n ≤ vc := by omega
  have hs2 : ((x + n : Nat) : Int) ≤ (vc : Int) := by omega
  have hs3 : x ≤ x + n := by omega
  have hs4 : (x : Int) ≤ ((x + n : Nat) : Int) := by omega
  obtain ⟨F, hF⟩ : ∃ F : Nat, f = (F : Int) := ⟨f.toNat, by have := hf.1; omega⟩
  have hF8 : F < 256 := by have := hf.2.1; omega
  subst hF
  have hand := flag_1 ⟨k, hk⟩ ⟨F, hF8⟩
  simp only at hand
  obtain ⟨M, hM⟩ : ∃ M : Int, M = (F : Int) / 2 ^ k % 2 := ⟨_, rfl⟩
  rw [← hM] at hand
  have hcoded : ((F : Int) / ((2 ^ k : Nat) : Int) % 2 = 1) ↔ M = 1 := by
    rw [hM]; simp
  have HX := Lib.hid hx
  have hll : xs.length ≤ 68719476736 := by omega
  obtain ⟨zs0, hz0⟩ : ∃ zs0, zs0 = (xs.drop x).take n := ⟨_, rfl⟩
  have hzl0 : zs0.length = n := by rw [hz0, List.length_take, List.length_drop]; omega
  have hbz : Hid (Bts zs0) := fun u hu => hx u (by rw [hz0] at hu; exact List.mem_of_mem_drop (List.mem_of_mem_take hu))
  have HT : Hid (∀ W, Rd .u8 W (.slice (some ⟨vb, vo, none⟩) xs.length vc) xs → ∀ p, (p = vo + x ∨ vc = x) → Rd .u8 W (.slice (some ⟨vb, p, none⟩) n (vc - x)) zs0) := fun W hW p hp => by
    rw [hz0]
    exact hW.cut x n (by omega) _ (fun h => by rw [hp.resolve_right h]) (by simp)
  rw [← hz0] at hT
  have hzn : zs0.length ≤ 68719476736 := by omega
  have HRF : Hid (RightL fldL) := right_fld
  have HHT := Lib.hid hT
  clear h hc hm1 hM hz0 hT
  have HC0 : Hid (M = 0 ∨ M = 1 ∨ True) := Or.inr (Or.inr trivial)
  go_enter Tryz.func47, Tryz.ntmps47
  go_wp2_with (go_at_call 33; refine HN.out.mono ?_; rintro e w1 ⟨rfl, hk1, hr1⟩; obtain ⟨c0, c1, c2, _⟩ := hr1.facts; obtain ⟨c0', c1', c2', cz⟩ := (hr1.drw 1).facts; have HK := Lib.hid hk1; have HR1 := Lib.hid hr1; clear hk1 hr1)
  go_quiet (fail)
  obtain ⟨wA, hwA⟩ : ∃ W, W = w1.drewN nq := ⟨_, rfl⟩
  have RA := Lib.hid (HR1.out.drw nq)
  have KA := Lib.hid (HK.out.drewN nq)
  rw [← hwA] at RA KA ⊢
  obtain ⟨a0, a1, a2, az⟩ := RA.out.facts
  obtain ⟨a0', a1', a2', az'⟩ := (RA.out.drw 1).facts
  clear hwA c0 c1 c2 c0' c1' c2' cz
  go_wp2_with fail
  go_quiet (fail)
  obtain ⟨wB, hwB⟩ : ∃ W, W = wA.drewN nq := ⟨_, rfl⟩
  have RB := Lib.hid (RA.out.drw nq)
  have KB := Lib.hid (KA.out.drewN nq)
  rw [← hwB] at RB KB ⊢
  obtain ⟨b0, b1, b2, bz⟩ := RB.out.facts
  clear hwB a0 a1 a2 az a0' a1' a2' az'
  go_upto_region 9 with fail
  have R2 := Lib.hid (RB.out.at (x + n))
  have K2 := Lib.hid (KB.out.trans (keep_set g 1 wB (.int .i64 ((x + n : Nat) : Int))) (fun i hi => .inl hi))
  have hxn : x + n - x = n := by omega
  obtain ⟨p, hpe, hpx⟩ : ∃ p : Nat, (if vc = x then some (⟨vb, vo, none⟩ : Addr) else some ⟨vb, vo + x, none⟩) = some ⟨vb, p, none⟩ ∧ (p = vo + x ∨ vc = x) := by
    by_cases hv : vc = x
    · exact ⟨vo, by rw [if_pos hv], .inr hv⟩
    · exact ⟨vo + x, by rw [if_neg hv], .inl rfl⟩
  rw [hxn, hpe]
  have HPX := Lib.hid hpx
  have hxnI : ((x + n : Nat) : Int) = (x : Int) + (n : Int) := by omega
  rw [hxnI] at R2 K2
  generalize (wB.setCell ⟨g, 1, none⟩ (.int .i64 ((x : Int) + (n : Int)))) = w2 at R2 K2 ⊢
  clear hxnI
  clear b0 b1 b2 bz hxn hpe hpx hw1 hw2 hs1 hs2 hs3 hs4
  by_cases hcd : M = 1
  · have hMn : (M == 1) = true := by simpa using hcd
    have hT := HHT.out
    rw [if_pos (hcoded.2 hcd)] at hT
    have HRr := Lib.hid hT
    clear hcoded hcd hT
    go_wp2_with (go_at_call 77; refine (rfields_any _).mono ?_; rintro e w3 ⟨fv, rfl, ho, hb3⟩; have R3 := Lib.hid (R2.out.bel hb3); have K3 := Lib.hid (K2.out.then_below hb3); have FO := Lib.hid ho; obtain ⟨fa, fc, rfl⟩ := ho.len; clear ho hb3)
    refine (rdec_all _ _ fldL zs0 w3 FO.out.rd (HT.out w3 R3.out.read p HPX.out) hbz.out hzn).mono ?_
    rintro e w4 ⟨hb4, ⟨_, zs, zv, hd, rfl, hz, _⟩ | ⟨c, hc0, hc12, hd, rfl⟩⟩
    · have R4 := Lib.hid (R3.out.bel hb4)
      have K4 := Lib.hid (K3.out.then_below hb4)
      have hr := HRr.out
      rw [hd] at hr
      simp only at hr
      clear hd hb4
      obtain ⟨va, vd, rfl⟩ := hz.isSlice
      have HZ := Lib.hid hz
      have hzl : zs.length ≤ 9223372036854775807 := hz.len
      clear hz
      by_cases hmo : most < zs.length
      · rw [if_pos hmo] at hr
        simp only [Prod.mk.injEq] at hr
        exact absurd hr.2.2 (by decide)
      · rw [if_neg hmo] at hr
        have d2 : decide ((zs.length : Int) > (most : Int)) = false := decide_eq_false (by omega)
        have d2' : decide (zs.length > most) = false := decide_eq_false (by omega)
        have d2'' : decide (most < zs.length) = false := decide_eq_false hmo
        have hcv := HZ.out.conv (P := Tryz.prog) (src := 38) (dst := 9) Tryz.underlying38 Tryz.underlying5 Tryz.underlying9
        simp only [Prod.mk.injEq] at hr
        obtain ⟨rfl, rfl, _⟩ := hr
        clear hmo
        go_wp2_with fail
        go_ret
        exact ⟨rfl, K4.out, R4.out⟩
    · have hr := HRr.out
      rw [hd HRF.out] at hr
      simp only [Prod.mk.injEq] at hr
      exact absurd hr.2.2 (by decide)
  · have hMn : (M == 1) = false := by simpa using hcd
    have hr := HHT.out
    rw [if_neg (fun h => hcd (hcoded.1 h))] at hr
    simp only at hr
    clear hcoded hcd
    have hz := HT.out _ R2.out.read p HPX.out
    have HZ := Lib.hid hz
    have hzl : n ≤ 9223372036854775807 := by omega
    rw [hzl0] at hr
    clear hz
    by_cases hmo : most < n
    · rw [if_pos hmo] at hr
      simp only [Prod.mk.injEq] at hr
      exact absurd hr.2.2 (by decide)
    · rw [if_neg hmo] at hr
      have d2 : decide ((n : Int) > (most : Int)) = false := decide_eq_false (by omega)
      have d2' : decide (n > most) = false := decide_eq_false (by omega)
      have d2'' : decide (most < n) = false := decide_eq_false hmo
      have hcv := HZ.out.conv (P := Tryz.prog) (src := 38) (dst := 9) Tryz.underlying38 Tryz.underlying5 Tryz.underlying9
      simp only [Prod.mk.injEq] at hr
      obtain ⟨rfl, rfl, _⟩ := hr
      clear hmo
      go_wp2_with fail
      go_ret
      exact ⟨rfl, K2.out, R2.out⟩

theorem rtext_yes {g : Nat} {v : Value} {xs : List Int} {a : Nat} (b : Int) (most : Nat) (w : World) (h : RR g v xs a w) (hx : Bts xs) (hl : xs.length ≤ 1048576) (hb0 : 2 ≤ b) (hb : b ≤ 8) (hm : most ≤ 512) {s : ByteArray} {x : Nat} (hT : textE xs a b most = (s, x, 0)) :
    Calls Tryz.prog 47 #[.pointer (some ⟨g, 0, none⟩), .int .i64 b, .int .i64 (most : Int)] w fun e w' => e = .returned (.string s) ∧ Keep [g] w w' ∧ RR g v xs x w' := by
  have := rtext_any (b - 1).toNat most w h hx hl (by omega) (by omega) hm (s := s) (x' := x) (by rw [show (((b - 1).toNat : Nat) : Int) + 1 = b by omega]; exact hT)
  rw [show (((b - 1).toNat : Nat) : Int) + 1 = b by omega] at this
  exact this
end Go.Proofs.YtbkbabaoockigaaGreatDoor
