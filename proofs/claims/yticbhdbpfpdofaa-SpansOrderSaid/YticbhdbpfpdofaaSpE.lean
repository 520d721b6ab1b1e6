/- Walks of layer 5: Add. -/
import Derived.Test.YticbhdbpfpdofaaSpC
import Derived.Deep.RegionLaw
set_option linter.unusedSimpArgs false
set_option linter.unusedVariables false
namespace Go.Proofs.Yticbhdbpfpdofaa
open Go.RowKit

def addE (ss : List (Int × Int)) (f t : Int) : List (Int × Int) × Int := if (rightB ss && spanB f t) = true then (if (addR ss f t).length ≤ 256 then (addR ss f t, 0) else ([], 6)) else ([], 1)

theorem concat3d_any (w0 : World) (p : Nat) (V0 V1 V2 : Value) (l0 l1 l2 : List (Int × Int)) (hp : p = w0.heap.size) (h0 : RdS w0 V0 l0) (h1 : RdS w0 V1 l1) (h2 : RdS w0 V2 l2) (hT : l0.length + l1.length + l2.length ≤ 8796093022208) :
    Calls Try.prog 35 #[.slice (some ⟨p, 0, none⟩) 3 3] (w0.alloc (.cells #[V0, V1, V2] 22)).drew (Gives (l0 ++ l1 ++ l2) (w0.alloc (.cells #[V0, V1, V2] 22)).drew) := by
  subst hp
  have hb : Below w0.heap.size w0 (w0.alloc (.cells #[V0, V1, V2] 22)).drew := below_drewN ((Below.refl _ _).alloc (Nat.le_refl _) _) 1
  have := concat_any w0.heap.size 3 (fun k => if k = 0 then V0 else if k = 1 then V1 else V2) (fun k => if k = 0 then l0 else if k = 1 then l1 else l2) (w0.alloc (.cells #[V0, V1, V2] 22)).drew (by show _ < (w0.alloc _).heap.size; simp) (by omega)
    (fun k hk => by
      show (w0.alloc (.cells #[V0, V1, V2] 22)).cell? _ = _
      rw [World.cell?_alloc_at _ _ _ _ rfl]
      rcases (show k = 0 ∨ k = 1 ∨ k = 2 by omega) with rfl | rfl | rfl <;> rfl)
    (fun k hk => by
      rcases (show k = 0 ∨ k = 1 ∨ k = 2 by omega) with rfl | rfl | rfl
      · exact h0.below hb
      · exact h1.below hb
      · exact h2.below hb)
    (by simp [catK]; omega)
  simpa [catK] using this

set_option maxHeartbeats 1600000 in
theorem add_A (b o n c : Nat) (ss : List (Int × Int)) (f t : Int) (w : World) (hr : RdS w (.slice (some ⟨b, o, none⟩) n c) ss) (hR : rightB ss = true) (hS : spanB f t = true) (hlt : upN (f - 1) ss < bhN (t + 1) ss) :
    Calls Try.prog 17 #[.slice (some ⟨b, o, none⟩) n c, .int .i64 f, .int .i64 t] w (Gives2 (addE ss f t).1 (addE ss f t).2 w) := by
  have hft : 0 ≤ f ∧ f ≤ t ∧ t ≤ 4611686018427387903 := by simpa [spanB] using hS
  have hRi : riseB 0 ss = true ∧ ss.length ≤ 256 := by simpa [rightB, and_comm] using hR
  obtain ⟨a', c', e', hn1, hn2⟩ := hr.isSlice
  simp only [Value.slice.injEq] at e'
  obtain ⟨rfl, rfl, rfl⟩ := e'
  have HM := mayBoth_any _ ss f t w hr
  rw [hR, hS, Bool.and_self] at HM
  have HMay := Lib.hid HM
  have HR := Lib.hid hr
  have HRt := Lib.hid hR
  have HE : Hid ((addE ss f t) = if (addP ss f t).length ≤ 256 then (addP ss f t, 0) else ([], 6)) := by
    show _ = _
    rw [addP_eq hft.2.1 hRi.1, addE, hR, hS]; rfl
  have hk1 := bhN_le (t + 1) ss
  have hP : Hid (addP ss f t = ss.take (upN (f - 1) ss) ++ ((min f (ss.getD (upN (f - 1) ss) (0, 0)).1, max t (ss.getD (bhN (t + 1) ss - 1) (0, 0)).2) :: ss.drop (bhN (t + 1) ss))) := by
    show _ = _
    rw [addP, wholeP, if_pos hlt]
  have HB := Lib.hid (show b < w.heap.size from (by
    obtain ⟨_, ⟨h0, _⟩ | ⟨_, b', o', c', e, _, _, h4, _⟩⟩ := hr
    · rw [h0] at hk1; omega
    · simp only [Value.slice.injEq, Option.some.injEq, Addr.mk.injEq] at e; rw [e.1.1]; exact h4))
  generalize hp : upN (f - 1) ss = p at hlt hP
  generalize hq : bhN (t + 1) ss = q at hlt hP hk1
  have HPp := Lib.hid hp
  have HQq := Lib.hid hq
  have c0 := (hr.cells rfl p (by omega)).1
  have c1 := (hr.cells rfl (q - 1) (by omega)).2
  have C0 := Lib.hid c0
  have C1 := Lib.hid c1
  generalize (ss.getD p (0, 0)).1 = x0 at C0 hP
  generalize (ss.getD (q - 1) (0, 0)).2 = y1 at C1 hP
  have hw1 : IntKind.i64.wrap (f - 1) = f - 1 := by rw [IntKind.wrap_i64]; omega
  have hw2 : IntKind.i64.wrap (t + 1) = t + 1 := by rw [IntKind.wrap_i64]; omega
  have hw3 : IntKind.i64.wrap ((q : Int) - 1) = (q : Int) - 1 := by rw [IntKind.wrap_i64]; omega
  have hi1 : (p : Int) < (ss.length : Int) := by omega
  have hi2 : (0 : Int) ≤ (q : Int) - 1 := by omega
  have hi3 : (q : Int) - 1 < (ss.length : Int) := by omega
  have hi4 : ((q : Int) - 1).toNat = q - 1 := by omega
  have ht1 : decide ((p : Int) < (q : Int)) = true := decide_eq_true (by omega)
  have hi5 : (p : Int) ≤ (c : Int) := by omega
  have hi6 : (q : Int) ≤ (ss.length : Int) := by omega
  have hl := hRi.2
  unfold maxLen at hn2
  clear HM hr hR hS hp hq c0 c1 hRi
  go_enter Try.func17, Try.ntmps17
  go_wp2_with fail
  refine HMay.out.mono ?_
  rintro e w1 ⟨rfl, hb1⟩
  have B1 := Lib.hid hb1
  clear hb1
  go_wp2_with fail
  refine (upTo_any _ ss _ _ (HR.out.below B1.out) HRt.out).mono ?_
  rw [HPp.out]
  rintro e w2 ⟨rfl, hb2⟩
  have B2 := Lib.hid (B1.out.trans (hb2.mono B1.out.size))
  clear hb2
  go_wp2_with fail
  refine (behind_any _ ss _ _ (HR.out.below B2.out) HRt.out).mono ?_
  rw [HQq.out]
  rintro e w3 ⟨rfl, hb3⟩
  have B3 := Lib.hid (B2.out.trans (hb3.mono B2.out.size))
  clear hb3
  have B4 := Lib.hid (B3.out.alloc (B3.out.size) (.cells #[.int .i64 f, .int .i64 t] 42))
  have z3 := B3.out.size
  have hb3 : b < w3.heap.size := Nat.lt_of_lt_of_le HB.out z3
  have k0 : w3.cell? ⟨b, o + p * 2, none⟩ = some (.int .i64 x0) := (B3.out.cell (p := ⟨b, _, none⟩) HB.out).trans C0.out
  have k1 : w3.cell? ⟨b, o + (q - 1) * 2 + 1, none⟩ = some (.int .i64 y1) := (B3.out.cell (p := ⟨b, _, none⟩) HB.out).trans C1.out
  have FACT : ∀ (u v : Int) (V : World), w3.alloc (.cells #[.int .i64 u, .int .i64 v] 42) = V → u = min f x0 → v = max t y1 →
      ∃ u0 v0, u0 = min f x0 ∧ v0 = max t y1 ∧ Below w.heap.size w V ∧ V.heap.size = w3.heap.size + 1 ∧ V.cell? ⟨w3.heap.size, 0, none⟩ = some (.int .i64 u0) ∧ V.cell? ⟨w3.heap.size, 1, none⟩ = some (.int .i64 v0) := by
    rintro u v V rfl hu hv
    exact ⟨u, v, hu, hv, B3.out.alloc z3 _, by simp, by rw [World.cell?_alloc_at _ _ _ _ rfl]; rfl, by rw [World.cell?_alloc_at _ _ _ _ rfl]; rfl⟩
  have F := Lib.hid FACT
  clear FACT B4
  go_wp2_with fail
  all_goals
    clear k0 k1 hi1 hi2 hi3 hi4 ht1 hw1 hw2 hw3
    generalize hV : w3.alloc _ = V
    obtain ⟨u0, v0, hU, hV2, BV, zV, c0, c1⟩ := F.out _ _ _ hV (by omega) (by omega)
    have R0 : Hid (RdS (V.alloc (.cells #[.int .i64 u0, .int .i64 v0] 42)) (.slice (some ⟨b, o, none⟩) p c) (ss.take p)) := by
      have := (HR.out.below (BV.alloc BV.size (.cells #[.int .i64 u0, .int .i64 v0] 42))).cut 0 p (by omega) (some ⟨b, o, none⟩) (fun _ => by simp) (by simp)
      show RdS _ _ _
      simpa using this
    have R1 : Hid (RdS (V.alloc (.cells #[.int .i64 u0, .int .i64 v0] 42)) (.slice (some ⟨V.heap.size, 0, none⟩) 1 1) [(u0, v0)]) := reads_built V u0 v0
    have R2 : Hid (RdS (V.alloc (.cells #[.int .i64 u0, .int .i64 v0] 42)) (.slice (if c = q then some ⟨b, o, none⟩ else some ⟨b, o + q * 2, none⟩) (ss.length - q) (c - q)) (ss.drop q)) := by
      have := (HR.out.below (BV.alloc BV.size (.cells #[.int .i64 u0, .int .i64 v0] 42))).cut q (ss.length - q) (by omega) (if c = q then some ⟨b, o, none⟩ else some ⟨b, o + q * 2, none⟩) (fun h => by rw [if_neg h]) (by split <;> simp)
      rw [List.take_of_length_le (by rw [List.length_drop]; exact Nat.le_refl _)] at this
      exact this
    have hT : (ss.take p).length + [(u0, v0)].length + (ss.drop q).length ≤ 8796093022208 := by rw [List.length_take, List.length_drop]; simp only [List.length_cons, List.length_nil]; omega
    have HT := Lib.hid hT
    have E0 : Hid (addP ss f t = ss.take p ++ [(u0, v0)] ++ ss.drop q) := by
      show _ = _
      rw [hP.out, show min f x0 = u0 by omega, show max t y1 = v0 by omega]; simp
    have HBV := Lib.hid BV
    have ZV := Lib.hid zV
    clear hV BV zV hT hU hV2
    by_cases hlen : (addP ss f t).length ≤ 256
    · have HE2 : Hid (addE ss f t = (addP ss f t, 0)) := by show _ = _; rw [HE.out, if_pos hlen]
      have HL : Hid ((ss.take p ++ [(u0, v0)] ++ ss.drop q).length ≤ 256) := by rw [E0.out] at hlen; exact hlen
      clear hlen
      go_region_law (first
        | (go_simp; go_at_call 35; refine (concat3d_any _ _ _ _ _ _ _ _ (by simp) R0.out R1.out R2.out HT.out).mono ?_; rintro e w5 ⟨v5, rfl, o5, b5⟩; have O5 := Lib.hid o5; have B5 := Lib.hid b5; clear o5 b5)
        | (go_simp; go_at_call 34; refine (notMany_ok v5 _ _ O5.out.rd HL.out).mono ?_; rintro e w6 ⟨rfl, rfl⟩))
      all_goals go_wp2
      all_goals go_ret2
      all_goals
        have B6 := below_drewN ((HBV.out.alloc HBV.out.size (.cells #[.int .i64 u0, .int .i64 v0] 42)).alloc (by have := HBV.out.size; simp; omega) (.cells #[.slice (some ⟨b, o, none⟩) p c, .slice (some ⟨V.heap.size, 0, none⟩) 1 1, .slice (if c = q then some ⟨b, o, none⟩ else some ⟨b, o + q * 2, none⟩) (ss.length - q) (c - q)] 22)) 1
        rw [HE2.out, E0.out]
        exact ⟨v5, rfl, O5.out.mono B6.size, B6.trans (B5.out.mono B6.size)⟩
    · have HE2 : Hid (addE ss f t = ([], 6)) := by show _ = _; rw [HE.out, if_neg hlen]
      have HL : Hid (256 < (ss.take p ++ [(u0, v0)] ++ ss.drop q).length) := by rw [E0.out] at hlen; exact Nat.lt_of_not_le hlen
      clear hlen
      go_region_law (first
        | (go_simp; go_at_call 35; refine (concat3d_any _ _ _ _ _ _ _ _ (by simp) R0.out R1.out R2.out HT.out).mono ?_; rintro e w5 ⟨v5, rfl, o5, b5⟩; have O5 := Lib.hid o5; have B5 := Lib.hid b5; clear o5 b5)
        | (go_simp; go_at_call 34; refine (notMany_no v5 _ _ O5.out.rd HL.out).mono ?_; rintro e w6 ⟨rfl, rfl⟩))
      all_goals go_wp2
      all_goals go_ret2
      all_goals
        have B6 := below_drewN ((HBV.out.alloc HBV.out.size (.cells #[.int .i64 u0, .int .i64 v0] 42)).alloc (by have := HBV.out.size; simp; omega) (.cells #[.slice (some ⟨b, o, none⟩) p c, .slice (some ⟨V.heap.size, 0, none⟩) 1 1, .slice (if c = q then some ⟨b, o, none⟩ else some ⟨b, o + q * 2, none⟩) (ss.length - q) (c - q)] 22)) 1
        rw [HE2.out]
        exact ⟨_, rfl, OwnS.nil _ _, B6.trans (B5.out.mono B6.size)⟩
end Go.Proofs.Yticbhdbpfpdofaa
