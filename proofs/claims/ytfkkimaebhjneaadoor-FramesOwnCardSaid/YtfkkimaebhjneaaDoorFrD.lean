/- Walks of layer 4: what a kind has; the reader's kind. -/
/- Walks of layer 4: the reader's kind. -/
import Derived.Test.YtfkkimaebhjneaaDoorFrB
set_option linter.unusedSimpArgs false
set_option linter.unusedVariables false
namespace Go.Proofs.YtfkkimaebhjneaaDoor
open Go.RowKit

def hStream (k : Int) : Bool := decide (k = 4 ∨ k = 5 ∨ k = 8 ∨ k = 17)
def hCode (k : Int) : Bool := decide (k = 4 ∨ k = 5 ∨ k = 28)
def hOffset (k : Int) : Bool := decide (k = 4 ∨ k = 8)
def hN (k : Int) : Bool := decide (k = 16 ∨ k = 17 ∨ k = 18 ∨ k = 2)
def hSpans (k : Int) : Bool := decide (k = 2)
def hData (k : Int) : Bool := decide (k = 8 ∨ k = 28)
def hFin (k : Int) : Bool := decide (k = 8)
def knownK (k : Int) : Prop := k = 4 ∨ k = 5 ∨ k = 8 ∨ k = 17 ∨ k = 16 ∨ k = 18 ∨ k = 2 ∨ k = 28 ∨ k = 0 ∨ k = 1 ∨ k = 30
instance (k : Int) : Decidable (knownK k) := by unfold knownK; infer_instance
def partsV (k : Int) : Value := .agg #[.bool (hStream k), .bool (hCode k), .bool (hOffset k), .bool (hN k), .bool (hSpans k), .bool (hData k), .bool (hFin k)]

set_option maxHeartbeats 1600000 in
theorem partsOf_any (k : Int) (w : World) :
    Calls Tryd.prog 26 #[.int .i64 k] w fun e w' => e = .returned (.tuple #[partsV k, .bool (decide (knownK k))]) ∧ Below w.heap.size w w' := by
  by_cases hk : knownK k
  · unfold knownK at hk
    rcases hk with rfl | rfl | rfl | rfl | rfl | rfl | rfl | rfl | rfl | rfl | rfl
    all_goals
      go_enter Tryd.func26, Tryd.ntmps26
      go_wp2
      refine bodyPost_ret (v := .tuple #[partsV _, .bool true]) (by simp [results, Tryd.results26, go_sem, partsV, hStream, hCode, hOffset, hN, hSpans, hData, hFin]; try rfl) rfl ⟨rfl, ?_⟩
      go_grown
  · have hf : decide (knownK k) = false := decide_eq_false hk
    rw [hf]
    have hp : partsV k = .agg #[.bool false, .bool false, .bool false, .bool false, .bool false, .bool false, .bool false] := by
      unfold knownK at hk
      simp only [partsV, hStream, hCode, hOffset, hN, hSpans, hData, hFin]
      simp only [Value.agg.injEq, Array.mk.injEq, List.cons.injEq, Value.bool.injEq, decide_eq_false_iff_not, and_true]
      omega
    rw [hp]
    unfold knownK at hk
    have e4 : (k == 4) = false := by simp; omega
    have e5 : (k == 5) = false := by simp; omega
    have e8 : (k == 8) = false := by simp; omega
    have e17 : (k == 17) = false := by simp; omega
    have e16 : (k == 16) = false := by simp; omega
    have e18 : (k == 18) = false := by simp; omega
    have e2 : (k == 2) = false := by simp; omega
    have e28 : (k == 28) = false := by simp; omega
    have e0 : (k == 0) = false := by simp; omega
    have e1 : (k == 1) = false := by simp; omega
    have e30 : (k == 30) = false := by simp; omega
    clear hk hf hp
    go_enter Tryd.func26, Tryd.ntmps26
    go_wp2
    refine bodyPost_ret (v := .tuple #[.agg #[.bool false, .bool false, .bool false, .bool false, .bool false, .bool false, .bool false], .bool false]) (by simp [results, Tryd.results26, go_sem]) rfl ⟨rfl, ?_⟩
    go_grown
end Go.Proofs.YtfkkimaebhjneaaDoor

namespace Go.Proofs.YtfkkimaebhjneaaDoor
open Go.RowKit

theorem bytes_all (p : Int → Prop) [DecidablePred p] (h : ∀ c : Fin 256, p ((c.val : Nat) : Int)) (c : Int) (h0 : 0 ≤ c) (h1 : c < 256) : p c := by
  have := h ⟨c.toNat, by omega⟩
  rwa [show (((⟨c.toNat, by omega⟩ : Fin 256).val : Nat) : Int) = c by simp; omega] at this
theorem andNot7 (c : Int) (h0 : 0 ≤ c) (h1 : c < 256) : bits .andNot .i64 c 7 = c - c % 8 :=
  bytes_all (fun c => bits .andNot .i64 c 7 = c - c % 8) (by decide +kernel) c h0 h1
theorem and7 (c : Int) (h0 : 0 ≤ c) (h1 : c < 256) : bits .and .i64 c 7 = c % 8 :=
  bytes_all (fun c => bits .and .i64 c 7 = c % 8) (by decide +kernel) c h0 h1

def isStream (c : Int) : Prop := 8 ≤ c ∧ c ≤ 15
instance (c : Int) : Decidable (isStream c) := by unfold isStream; infer_instance
/-- the Kind and the bits of a type -/
def kindR (xs : List Int) (i : Nat) : Except (Int × Int) ((Int × Int) × Nat) :=
  if isStream (xs.getD i 0) then .ok ((8, xs.getD i 0 - 8), i + 1) else if knownK (xs.getD i 0) then .ok ((xs.getD i 0, 7), i + 1) else .error (5, i)
def kindV (x : Int × Int) (_ : World) (u : Value) : Prop := u = .tuple #[.int .i64 x.1, .int .i64 x.2]

set_option maxHeartbeats 1600000 in
theorem kind_any (p b o n cp : Nat) (xs : List Int) (a : Nat) (w : World) (hA : At w p (.slice (some ⟨b, o, none⟩) n cp) a) (hr : Rd .u8 w (.slice (some ⟨b, o, none⟩) n cp) xs) (hn : n = xs.length) (hx : Bts xs) (ha : a < n) (hbig : n ≤ 1048576) :
    Calls Tryd.prog 46 #[.pointer (some ⟨p, 0, none⟩)] w (StepIs kindV w p (.slice (some ⟨b, o, none⟩) n cp) (kindR xs a)) := by
  have c0 := hA.c0
  have c1 := hA.c1
  have f1 := hA.fz 1
  have hlt := hA.lt
  have HA := Lib.hid hA
  obtain ⟨c, hcc⟩ : ∃ c, c = xs.getD a 0 := ⟨_, rfl⟩
  have hcell : w.cell? ⟨b, o + a, none⟩ = some (.int .u8 c) := by
    rcases hr with ⟨h0, _⟩ | ⟨h0, b', o', c', q, h2, h3, h4, h5⟩
    · rw [h0] at hn; simp at hn; omega
    · simp only [Value.slice.injEq, Option.some.injEq, Addr.mk.injEq, and_true] at q
      obtain ⟨⟨rfl, rfl⟩, q1, rfl⟩ := q
      rw [h5 a (by omega), hcc]
  have hcb : 0 ≤ c ∧ c < 256 := by rw [hcc]; exact getD_bts hx a
  obtain ⟨hc0, hc1⟩ := hcb
  have hi : (a : Int) < (n : Int) := by omega
  have hw2 : IntKind.i64.wrap ((a : Int) + 1) = (a : Int) + 1 := wraps_i64' _ (by omega) (by omega)
  have hw3 : IntKind.i64.wrap c = c := wraps_i64' _ (by omega) (by omega)
  have hd0 : w.drew.cell? ⟨b, o + a, none⟩ = some (.int .u8 c) := hcell
  have hd1 : w.drew.cell? ⟨p, 0, none⟩ = some (.slice (some ⟨b, o, none⟩) n cp) := c0
  have hd2 : w.drew.cell? ⟨p, 1, none⟩ = some (.int .i64 a) := c1
  have hand := and7 c hc0 hc1
  have hnot := andNot7 c hc0 hc1
  have HP0 : ∀ k q, decide (knownK k) = q → ∃ p1 p2 p3 p4 p5 p6 p7 : Bool, ∀ V : World, Calls Tryd.prog 26 #[.int .i64 k] V fun e w' => e = .returned (.tuple #[.agg #[.bool p1, .bool p2, .bool p3, .bool p4, .bool p5, .bool p6, .bool p7], .bool q]) ∧ Below V.heap.size V w' :=
    fun k q hq => ⟨_, _, _, _, _, _, _, fun V => by have := partsOf_any k V; rw [hq] at this; exact this⟩
  have HN := Lib.hid hn
  by_cases hs : isStream c
  · have HM : Hid (kindR xs a = .ok ((8, c - 8), a + 1)) := by show _ = _; unfold kindR; rw [← hcc]; exact if_pos hs
    obtain ⟨p1, p2, p3, p4, p5, p6, p7, hP⟩ := HP0 8 true (by decide)
    have HP := Lib.hid hP
    unfold isStream at hs
    have e1 : (c - c % 8 == 8) = true := by simp; omega
    have e2 : c % 8 = c - 8 := by omega
    rw [e2] at hand e1 hnot
    clear hA hr hcc hP HP0 hn
    go_enter Tryd.func46, Tryd.ntmps46
    go_wp2_with fail
    go_quiet (fail)
    go_wp2_with fail
    refine (HP.out _).mono ?_
    rintro e w1 ⟨rfl, b1⟩
    have A1 : At w1 p (.slice (some ⟨b, o, none⟩) n cp) a := (HA.out.drewN _).kept b1
    have B1 : w.grownBy w1 (some p) := grownBy_trans (grownBy_drewN (World.grownBy.refl _ _) nq) (grownBy_of_below b1)
    have c1' := A1.c1
    have f1' := A1.fz 1
    have hlt' := A1.lt
    go_wp2_with fail
    go_ret2
    rw [HM.out]
    exact ⟨grownBy_alloc' (grownBy_set B1 _ _ (.inl rfl)) _, ⟨_, rfl, rfl⟩, (A1.set' rfl).alloc _⟩
  have hne : ¬ (c - c % 8 = 8) := by unfold isStream at hs; omega
  have e1 : (c - c % 8 == 8) = false := by simp; omega
  by_cases hk : knownK c
  · have HM : Hid (kindR xs a = .ok ((c, 7), a + 1)) := by show _ = _; unfold kindR; rw [← hcc, if_neg hs]; exact if_pos hk
    obtain ⟨p1, p2, p3, p4, p5, p6, p7, hP⟩ := HP0 c true (decide_eq_true hk)
    have HP := Lib.hid hP
    clear hA hr hcc hP HP0 hs hk hn hne
    go_enter Tryd.func46, Tryd.ntmps46
    go_wp2_with fail
    go_quiet (fail)
    go_wp2_with fail
    refine (HP.out _).mono ?_
    rintro e w1 ⟨rfl, b1⟩
    have A1 : At w1 p (.slice (some ⟨b, o, none⟩) n cp) a := (HA.out.drewN _).kept b1
    have B1 : w.grownBy w1 (some p) := grownBy_trans (grownBy_drewN (World.grownBy.refl _ _) nq) (grownBy_of_below b1)
    have c1' := A1.c1
    have f1' := A1.fz 1
    have hlt' := A1.lt
    go_wp2_with fail
    go_ret2
    rw [HM.out]
    exact ⟨grownBy_alloc' (grownBy_set B1 _ _ (.inl rfl)) _, ⟨_, rfl, rfl⟩, (A1.set' rfl).alloc _⟩
  · have HM : Hid (kindR xs a = .error (5, a)) := by show _ = _; unfold kindR; rw [← hcc, if_neg hs]; exact if_neg hk
    obtain ⟨p1, p2, p3, p4, p5, p6, p7, hP⟩ := HP0 c false (decide_eq_false hk)
    have HP := Lib.hid hP
    clear hA hr hcc hP HP0 hs hk hn hne
    go_enter Tryd.func46, Tryd.ntmps46
    go_wp2_with fail
    go_quiet (fail)
    go_wp2_with fail
    refine (HP.out _).mono ?_
    rintro e w1 ⟨rfl, b1⟩
    have A1 : At w1 p (.slice (some ⟨b, o, none⟩) n cp) a := (HA.out.drewN _).kept b1
    have B1 : w.grownBy w1 (some p) := grownBy_trans (grownBy_drewN (World.grownBy.refl _ _) nq) (grownBy_of_below b1)
    have c1' := A1.c1
    have f1' := A1.fz 1
    have hlt' := A1.lt
    go_wp2_with (go_at_call 34; refine (breakOff_any _ _ _ _).mono ?_; rintro e w' ⟨rfl, rfl⟩)
    refine ⟨rfl, ?_⟩
    rw [HM.out]
    exact ⟨grownBy_alloc' B1 _, rfl⟩
end Go.Proofs.YtfkkimaebhjneaaDoor
