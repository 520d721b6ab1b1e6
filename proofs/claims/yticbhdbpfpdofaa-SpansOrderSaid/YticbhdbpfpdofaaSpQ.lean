/- The law of layer 5: Order. -/
import Derived.Test.YticbhdbpfpdofaaSpL
import Derived.Deep.RegionHeld3
import Derived.Lib.SmallJoins
set_option linter.unusedSimpArgs false
set_option linter.unusedVariables false
namespace Go.Proofs.Yticbhdbpfpdofaa
open Go.RowKit

/-- a span more, if it may be -/
def addO (A : List (Int × Int)) (s : Int × Int) : List (Int × Int) := if spanB s.1 s.2 = true then addR A s.1 s.2 else A
theorem addO_right {A : List (Int × Int)} (s : Int × Int) (h : riseB 0 A = true) : riseB 0 (addO A s) = true := by
  unfold addO
  split
  · rename_i hS
    have hft : 0 ≤ s.1 ∧ s.1 ≤ s.2 ∧ s.2 ≤ 4611686018427387903 := by simpa [spanB] using hS
    exact add_rise h hft.1 hft.2.1 hft.2.2
  · exact h
theorem addO_len (A : List (Int × Int)) (s : Int × Int) : (addO A s).length ≤ A.length + 1 := by
  unfold addO
  split
  · exact add_len _ _ _
  · omega
theorem addO_in {A : List (Int × Int)} (s : Int × Int) (n : Int) (h : riseB 0 A = true) : inB n (addO A s) = ((spanB s.1 s.2 && decide (s.1 ≤ n ∧ n ≤ s.2)) || inB n A) := by
  unfold addO
  split
  · rename_i hS
    have hft : 0 ≤ s.1 ∧ s.1 ≤ s.2 ∧ s.2 ≤ 4611686018427387903 := by simpa [spanB] using hS
    rw [add_in n h hft.2.1, hS, Bool.true_and]
  · rename_i hS
    rw [Bool.eq_false_iff.2 hS]; rfl
/-- what Add comes to there -/
theorem addO_add {A : List (Int × Int)} (x y : Int) (h : riseB 0 A = true) (hl : A.length ≤ 200) : addE A x y = if spanB x y = true then (addO A (x, y), 0) else ([], 1) := by
  have hR : rightB A = true := by simp [rightB, h]; omega
  unfold addE
  rw [hR, Bool.true_and]
  split
  · rename_i hS
    have := add_len A x y
    rw [if_pos (by omega)]
    simp [addO, hS]
  · rfl
/-- all of them, one behind the other -/
def sets (g : Nat → Int × Int) : Nat → List (Int × Int)
  | 0 => []
  | k + 1 => addO (sets g k) (g k)
theorem sets_right (g : Nat → Int × Int) : ∀ k, riseB 0 (sets g k) = true
  | 0 => rfl
  | k + 1 => addO_right _ (sets_right g k)
theorem sets_len (g : Nat → Int × Int) : ∀ k, (sets g k).length ≤ k
  | 0 => Nat.le_refl _
  | k + 1 => by have := addO_len (sets g k) (g k); have := sets_len g k; rw [sets]; omega
theorem sets_in (g : Nat → Int × Int) (n : Int) : ∀ k, inB n (sets g k) = true ↔ ∃ i, i < k ∧ spanB (g i).1 (g i).2 = true ∧ (g i).1 ≤ n ∧ n ≤ (g i).2
  | 0 => by simp [sets, inB]
  | k + 1 => by
    rw [sets, addO_in _ _ (sets_right g k), Bool.or_eq_true, sets_in g n k, Bool.and_eq_true, decide_eq_true_iff]
    constructor
    · rintro (⟨h1, h2⟩ | ⟨i, hi, h⟩)
      · exact ⟨k, Nat.lt_succ_self k, h1, h2⟩
      · exact ⟨i, by omega, h⟩
    · rintro ⟨i, hi, h⟩
      by_cases e : i = k
      · subst e; exact .inl h
      · exact .inr ⟨i, by omega, h⟩
/-- the places, turned round -/
def turned (L tn i : Nat) : Nat := (L - 1 - i + tn) % L
theorem turned_lt {L tn i : Nat} (h : 0 < L) : turned L tn i < L := Nat.mod_lt _ h
theorem turned_back {L tn j : Nat} (hj : j < L) (ht : tn < L) : ∃ i, i < L ∧ turned L tn i = j := by
  by_cases h : L - 1 + tn - j < L
  · refine ⟨L - 1 + tn - j, h, ?_⟩
    unfold turned
    rw [show L - 1 - (L - 1 + tn - j) + tn = j by omega]
    exact Nat.mod_eq_of_lt hj
  · refine ⟨L - 1 + tn - j - L, by omega, ?_⟩
    unfold turned
    rw [show L - 1 - (L - 1 + tn - j - L) + tn = j + L by omega, Nat.add_mod_right]
    exact Nat.mod_eq_of_lt hj
/-- IN WHATEVER ORDER, THE SET IS THE SAME -/
theorem sets_same (g : Nat → Int × Int) (L tn : Nat) (hL : 0 < L) (ht : tn < L) : sets g L = sets (fun i => g (turned L tn i)) L :=
  rise_inj (sets_right _ _) (sets_right _ _) fun n => by
    rw [Bool.eq_iff_iff, sets_in, sets_in]
    constructor
    · rintro ⟨j, hj, h⟩
      obtain ⟨i, hi, e⟩ := turned_back hj ht
      exact ⟨i, hi, by rw [e]; exact h⟩
    · rintro ⟨i, hi, h⟩
      exact ⟨turned L tn i, turned_lt hL, h⟩
-- ORDER
/-- the place, taken modulo -/
theorem place_in (at_ L : Int) (h : 0 < L) : ∃ (m : Int) (i : Nat), at_.tmod L = m ∧ -L < m ∧ m < L ∧ (m + L).tmod L = (i : Int) ∧ (m + L) % L = (i : Int) ∧ (i : Int) < L := by
  have h1 := Int.tmod_lt_of_pos at_ h
  have h2 := Int.tmod_lt_of_pos (-at_) h
  rw [Int.neg_tmod] at h2
  have h3 : 0 ≤ at_.tmod L + L := by omega
  have h4 := Int.emod_nonneg (at_.tmod L + L) (show L ≠ 0 by omega)
  have h5 := Int.emod_lt_of_pos (at_.tmod L + L) h
  exact ⟨_, ((at_.tmod L + L) % L).toNat, rfl, by omega, h1, by rw [Int.tmod_eq_emod_of_nonneg h3]; omega, by omega, by omega⟩

/-- the two sets, each behind its own pointer -/
def StO (w : World) (LA LB : List (Int × Int)) (wr : World) : Prop :=
  ∃ aA nA cA aB nB cB, wr.cell? ⟨w.heap.size, 0, none⟩ = some (.slice aA nA cA) ∧ wr.cell? ⟨w.heap.size + 1, 0, none⟩ = some (.slice aB nB cB) ∧ wr.frozen? ⟨w.heap.size, 0, none⟩ = false ∧ wr.frozen? ⟨w.heap.size + 1, 0, none⟩ = false ∧
    OwnS wr (w.heap.size + 2) (.slice aA nA cA) LA ∧ OwnS wr (w.heap.size + 2) (.slice aB nB cB) LB ∧ Below w.heap.size w wr ∧ w.heap.size + 2 ≤ wr.heap.size
theorem StO.grow {w : World} {LA LB : List (Int × Int)} {wr w2 : World} (h : StO w LA LB wr) (hb : Below wr.heap.size wr w2) : StO w LA LB w2 := by
  obtain ⟨aA, nA, cA, aB, nB, cB, h1, h2, h3, h4, h5, h6, h7, h8⟩ := h
  have q0 : w.heap.size < wr.heap.size := by omega
  have q1 : w.heap.size + 1 < wr.heap.size := by omega
  exact ⟨aA, nA, cA, aB, nB, cB, (hb.cell (p := ⟨w.heap.size, 0, none⟩) q0).trans h1, (hb.cell (p := ⟨w.heap.size + 1, 0, none⟩) q1).trans h2, (hb.frozen (p := ⟨w.heap.size, 0, none⟩) q0).trans h3, (hb.frozen (p := ⟨w.heap.size + 1, 0, none⟩) q1).trans h4, h5.below hb, h6.below hb, h7.trans (hb.mono h7.size), Nat.le_trans h8 hb.size⟩
theorem StO.setA {w : World} {LA LB L : List (Int × Int)} {wr : World} {a : Option Addr} {n c : Nat} (h : StO w LA LB wr) (ho : OwnS wr (w.heap.size + 2) (.slice a n c) L) : StO w L LB (wr.setCell ⟨w.heap.size, 0, none⟩ (.slice a n c)) := by
  obtain ⟨aA, nA, cA, aB, nB, cB, h1, h2, h3, h4, h5, h6, h7, h8⟩ := h
  have g : wr.grownBy (wr.setCell ⟨w.heap.size, 0, none⟩ (.slice a n c)) (some w.heap.size) := grownBy_set (World.grownBy.refl _ _) ⟨w.heap.size, 0, none⟩ _ (.inl rfl)
  exact ⟨a, n, c, aB, nB, cB, World.cell?_setCell_same _ _ _ h1, (World.cell?_setCell_other _ _ _ _ (by simp)).trans h2, by rw [World.frozen?_setCell]; exact h3, by rw [World.frozen?_setCell]; exact h4,
    ho.kept g (fun j hj e => by have := ho.blk j hj; cases e; omega), h6.kept g (fun j hj e => by have := h6.blk j hj; cases e; omega), h7.setCell (Nat.le_refl _) _, Nat.le_trans h8 g.size⟩
theorem StO.setB {w : World} {LA LB L : List (Int × Int)} {wr : World} {a : Option Addr} {n c : Nat} (h : StO w LA LB wr) (ho : OwnS wr (w.heap.size + 2) (.slice a n c) L) : StO w LA L (wr.setCell ⟨w.heap.size + 1, 0, none⟩ (.slice a n c)) := by
  obtain ⟨aA, nA, cA, aB, nB, cB, h1, h2, h3, h4, h5, h6, h7, h8⟩ := h
  have g : wr.grownBy (wr.setCell ⟨w.heap.size + 1, 0, none⟩ (.slice a n c)) (some (w.heap.size + 1)) := grownBy_set (World.grownBy.refl _ _) ⟨w.heap.size + 1, 0, none⟩ _ (.inl rfl)
  exact ⟨aA, nA, cA, a, n, c, (World.cell?_setCell_other _ _ _ _ (by simp)).trans h1, World.cell?_setCell_same _ _ _ h2, by rw [World.frozen?_setCell]; exact h3, by rw [World.frozen?_setCell]; exact h4,
    h5.kept g (fun j hj e => by have := h5.blk j hj; cases e; omega), ho.kept g (fun j hj e => by have := ho.blk j hj; cases e; omega), h7.setCell (Nat.le_succ _) _, Nat.le_trans h8 g.size⟩
/-- the pointers to both -/
def PtO (w : World) (P : Nat) (wr : World) : Prop := wr.cell? ⟨P, 0, none⟩ = some (.pointer (some ⟨w.heap.size, 0, none⟩)) ∧ wr.cell? ⟨P, 1, none⟩ = some (.pointer (some ⟨w.heap.size + 1, 0, none⟩)) ∧ P < wr.heap.size ∧ w.heap.size + 2 ≤ P
theorem PtO.grow {w : World} {P : Nat} {wr w2 : World} (h : PtO w P wr) (hb : Below wr.heap.size wr w2) : PtO w P w2 :=
  ⟨(hb.cell (p := ⟨P, 0, none⟩) h.2.2.1).trans h.1, (hb.cell (p := ⟨P, 1, none⟩) h.2.2.1).trans h.2.1, Nat.lt_of_lt_of_le h.2.2.1 hb.size, h.2.2.2⟩
theorem PtO.set {w : World} {P : Nat} {wr : World} (h : PtO w P wr) (b : Nat) (v : Value) (hb : b < w.heap.size + 2) : PtO w P (wr.setCell ⟨b, 0, none⟩ v) := by
  have g : wr.grownBy (wr.setCell ⟨b, 0, none⟩ v) (some b) := grownBy_set (World.grownBy.refl _ _) ⟨b, 0, none⟩ _ (.inl rfl)
  have hne : (⟨b, 0, none⟩ : Addr) ≠ ⟨P, 0, none⟩ := fun e => by have q : b = P := congrArg Addr.block e; have := h.2.2.2; omega
  have hne2 : (⟨b, 0, none⟩ : Addr) ≠ ⟨P, 1, none⟩ := fun e => by have q : b = P := congrArg Addr.block e; have := h.2.2.2; omega
  exact ⟨(World.cell?_setCell_other _ _ _ _ hne).trans h.1, (World.cell?_setCell_other _ _ _ _ hne2).trans h.2.1, Nat.lt_of_lt_of_le h.2.2.1 g.size, h.2.2.2⟩
def InO (w : World) (g g' : Nat → Int × Int) (i : Nat) (s : Value) (wr : World) : Prop :=
  (s = .int .i64 0 ∧ StO w (sets g i) (sets g' i) wr) ∨ (s = .int .i64 1 ∧ StO w (sets g (i + 1)) (sets g' i) wr) ∨ (s = .int .i64 2 ∧ StO w (sets g (i + 1)) (sets g' (i + 1)) wr)

set_option maxHeartbeats 6400000 in
theorem order_A (b o n c : Nat) (ss : List (Int × Int)) (turn : Int) (w : World) (hr : RdS w (.slice (some ⟨b, o, none⟩) n c) ss) (h0 : 0 < ss.length) (hl : ss.length ≤ 200) (ht : -9223372036854775808 ≤ turn ∧ turn ≤ 9223372036854775807) :
    Calls Try.prog 7 #[.slice (some ⟨b, o, none⟩) n c, .int .i64 turn] w (Yes w) := by
  obtain ⟨a', c', e', hn1, hn2⟩ := hr.isSlice
  simp only [Value.slice.injEq] at e'
  obtain ⟨rfl, rfl, rfl⟩ := e'
  have HR := Lib.hid hr
  have HBb : Hid (b < w.heap.size) := by
    obtain ⟨b', o', c', e, hb⟩ := hr.form (by intro h; rw [h] at h0; exact absurd h0 (Nat.lt_irrefl 0))
    simp only [Value.slice.injEq, Option.some.injEq, Addr.mk.injEq] at e
    show b < _
    rw [e.1.1]; exact hb
  obtain ⟨m, tn, e1, e2, e3, e4, e5, e6⟩ := place_in turn (ss.length : Int) (by omega)
  have hz1 : ((ss.length : Int) == 0) = false := by rw [beq_eq_false_iff_ne]; omega
  have hz2 : decide (200 < (ss.length : Int)) = false := decide_eq_false (by omega)
  have hwm : IntKind.i64.wrap (m + (ss.length : Int)) = m + (ss.length : Int) := by rw [IntKind.wrap_i64]; omega
  have htn : tn < ss.length := by omega
  obtain ⟨g, hg⟩ : ∃ g : Nat → Int × Int, g = fun i => ss.getD i (0, 0) := ⟨_, rfl⟩
  obtain ⟨g', hg'⟩ : ∃ g' : Nat → Int × Int, g' = fun i => ss.getD (turned ss.length tn i) (0, 0) := ⟨_, rfl⟩
  have HG : Hid (∀ i, g i = ss.getD i (0, 0)) := fun i => by rw [hg]
  have HG2 : Hid (∀ i, g' i = ss.getD (turned ss.length tn i) (0, 0)) := fun i => by rw [hg']
  have HSame : Hid (sets g ss.length = sets g' ss.length) := by
    show _ = _
    rw [hg, hg']
    exact sets_same (fun i => ss.getD i (0, 0)) ss.length tn h0 htn
  have ST0 : Hid (StO w (sets g 0) (sets g' 0) ((w.alloc (.cells #[.slice none 0 0] 22)).alloc (.cells #[.slice none 0 0] 22))) := by
    refine ⟨none, 0, 0, none, 0, 0, ?_, by rw [World.cell?_alloc_at _ _ _ _ (by simp)]; rfl, ?_, ?_, OwnS.nil _ _, OwnS.nil _ _, ((Below.refl _ _).alloc (Nat.le_refl _) _).alloc (by simp) _, by simp⟩
    · exact (Below.cell ((Below.refl (w.heap.size + 1) (w.alloc (.cells #[.slice none 0 0] 22))).alloc (by simp) _) (p := ⟨w.heap.size, 0, none⟩) (by simp)).trans (by rw [World.cell?_alloc_at _ _ _ _ rfl]; rfl)
    · exact (Below.frozen ((Below.refl (w.heap.size + 1) (w.alloc (.cells #[.slice none 0 0] 22))).alloc (by simp) _) (p := ⟨w.heap.size, 0, none⟩) (by simp)).trans (Joins.unfrozen_of_block (alloc_at w _) 0)
    · have := alloc_at (w.alloc (.cells #[.slice none 0 0] 22)) (.cells #[.slice none 0 0] 22)
      rw [World.size_alloc] at this
      exact Joins.unfrozen_of_block this 0
  clear hr hg hg' e2 e3
  go_enter Try.func7, Try.ntmps7
  go_wp2_with fail
  go_loopw [34] (fun s wr => ∃ i : Nat, s = .int .i64 i ∧ i ≤ ss.length ∧ StO w (sets g i) (sets g' i) wr) (fun s _ => ss.length - (intOf s).toNat)
  case atStart => exact ⟨0, rfl, Nat.zero_le _, ST0.out⟩
  case round =>
    obtain ⟨i, rfl, hi, st⟩ := hrel
    by_cases hlt : i < ss.length
    · have hwi : IntKind.i64.wrap ((i : Int) + 1) = (i : Int) + 1 := wraps_i64' _ (by omega) (by omega)
      have hiL : (i : Int) < (ss.length : Int) := by omega
      have ST1 : Hid (StO w (sets g i) (sets g' i) (wr.alloc (.cells #[.pointer (some ⟨w.heap.size, 0, none⟩), .pointer (some ⟨w.heap.size + 1, 0, none⟩)] 39))) := st.grow ((Below.refl _ _).alloc (Nat.le_refl _) _)
      have PT1 : Hid (PtO w wr.heap.size (wr.alloc (.cells #[.pointer (some ⟨w.heap.size, 0, none⟩), .pointer (some ⟨w.heap.size + 1, 0, none⟩)] 39))) := by
        refine ⟨by rw [World.cell?_alloc_at _ _ _ _ rfl]; rfl, by rw [World.cell?_alloc_at _ _ _ _ rfl]; rfl, by simp, ?_⟩
        obtain ⟨_, _, _, _, _, _, _, _, _, _, _, _, _, h8⟩ := st
        exact h8
      clear st
      go_wp2_with fail
      generalize hP : wr.heap.size = P at PT1
      go_loopw [39] (fun s wi => InO w g g' i s wi ∧ PtO w P wi) (fun s _ => 2 - (intOf s).toNat)
      case atStart => exact ⟨.inl ⟨rfl, ST1.out⟩, PT1.out⟩
      case round =>
        clear hP ST1 PT1
        obtain ⟨hin, pt⟩ := hrel
        rcases hin with ⟨rfl, st⟩ | ⟨rfl, st⟩ | ⟨rfl, st⟩
        · obtain ⟨aA, nA, cA, aB, nB, cB, h1, h2, h3, h4, h5, h6, h7, h8⟩ := st
          obtain ⟨q0, q1⟩ := (HR.out.below h7).cells rfl i hlt
          have hgi : g i = ss.getD i (0, 0) := HG.out i
          obtain ⟨⟨x, y⟩, hs⟩ : ∃ s, s = ss.getD i (0, 0) := ⟨_, rfl⟩
          rw [← hs] at q0 q1 hgi
          simp only at q0 q1
          have HGI := Lib.hid hgi
          clear hs hgi
          have hi1 : (i : Int) < (ss.length : Int) := by omega
          have hw1 : IntKind.i64.wrap ((0 : Int) + 1) = 1 := by decide
          have HPT := Lib.hid pt
          have p0 : wr.cell? ⟨P, 0, none⟩ = some (.pointer (some ⟨w.heap.size, 0, none⟩)) := pt.1
          have HST : Hid (StO w (sets g i) (sets g' i) wr) := ⟨aA, nA, cA, aB, nB, cB, h1, h2, h3, h4, h5, h6, h7, h8⟩
          have hpl : w.heap.size < wr.heap.size := by omega
          have hbw : b < wr.heap.size := by have := HBb.out; omega
          have FV : Hid (∀ V, wr.alloc (.cells #[.int .i64 x, .int .i64 y] 42) = V → V.cell? ⟨w.heap.size, 0, none⟩ = some (.slice aA nA cA) ∧ V.cell? ⟨wr.heap.size, 0, none⟩ = some (.int .i64 x) ∧ V.cell? ⟨wr.heap.size, 1, none⟩ = some (.int .i64 y) ∧ RdS V.drew (.slice aA nA cA) (sets g i) ∧ Below wr.heap.size wr V.drew ∧ wr.heap.size < V.heap.size) := by
            rintro V rfl
            have bA : Below wr.heap.size wr (wr.alloc (.cells #[.int .i64 x, .int .i64 y] 42)).drew := below_drewN ((Below.refl _ _).alloc (Nat.le_refl _) _) 1
            exact ⟨(bA.cell (p := ⟨w.heap.size, 0, none⟩) hpl).trans h1, by rw [World.cell?_alloc_at _ _ _ _ rfl]; rfl, by rw [World.cell?_alloc_at _ _ _ _ rfl]; rfl, h5.rd.below bA, bA, by simp⟩
          have hlen := sets_len g i
          have hrt := sets_right g i
          have hadd := addO_add x y hrt (by omega)
          have HADD := Lib.hid hadd
          clear h1 h2 h3 h4 h5 h6 h7 hadd hlen hrt pt
          go_wp2_with fail
          generalize hV : wr.alloc _ = V
          obtain ⟨ps, px0, px1, ra, bA, hVs⟩ := FV.out V hV
          have RA := Lib.hid ra
          have BA := Lib.hid bA
          have HPs : Hid (V.drew.cell? ⟨w.heap.size, 0, none⟩ = some (.slice aA nA cA)) := ps
          clear hV ra bA
          have d0 : V.drew.cell? ⟨w.heap.size, 0, none⟩ = some (.slice aA nA cA) := ps
          have d1 : V.drew.cell? ⟨wr.heap.size, 0, none⟩ = some (.int .i64 x) := px0
          have d2 : V.drew.cell? ⟨wr.heap.size, 1, none⟩ = some (.int .i64 y) := px1
          have hVz : Hid (wr.heap.size < V.heap.size) := hVs
          have hpV : Hid (w.heap.size < V.heap.size) := Nat.lt_trans hpl hVs
          cases hsp : spanB x y
          · have HAD := HADD
            rw [hsp, if_neg (by simp)] at HAD
            have HS2 : Hid (sets g (i + 1) = sets g i) := by
              show _ = _
              rw [sets, HGI.out, addO, if_neg (by rw [hsp]; simp)]
            clear hsp hVs
            go_region_held3 (fun w' => w'.cell? ⟨w.heap.size, 0, none⟩ = some (.slice aA nA cA) ∧ w'.cell? ⟨wr.heap.size, 0, none⟩ = some (.int .i64 x) ∧ w'.cell? ⟨wr.heap.size, 1, none⟩ = some (.int .i64 y))
              (first
                | (exact ⟨d0, d1, d2⟩)
                | (exact ⟨(b2.cell (p := ⟨w.heap.size, 0, none⟩) hpV.out).trans d0, (b2.cell (p := ⟨wr.heap.size, 0, none⟩) hVz.out).trans d1, (b2.cell (p := ⟨wr.heap.size, 1, none⟩) hVz.out).trans d2⟩))
              (first
                | (go_at_call 17; ((with_reducible refine (add_any _ (sets g i) x y _ RA.out).mono ?_)); rw [HAD.out]; rintro e w2 ⟨v2, rfl, o2, b2⟩))
            all_goals
              have BB : Below wr.heap.size wr w2 := BA.out.trans (b2.mono BA.out.size)
              have ST2 := HST.out.grow BB
              have PT2 := HPT.out.grow BB
              clear o2 b2 BB d0 d1 d2 ps px0 px1
              go_wp2_with fail
              exact ⟨⟨by rw [← HS2.out] at ST2; exact .inr (.inl ⟨rfl, ST2⟩), PT2⟩, by simp [intOf, hw1]⟩
          · have HAD := HADD
            rw [hsp, if_pos rfl] at HAD
            have HS2 : Hid (sets g (i + 1) = addO (sets g i) (x, y)) := by
              show _ = _
              rw [sets, HGI.out]
            clear hsp hVs
            go_region_held3 (fun w' => w'.cell? ⟨w.heap.size, 0, none⟩ = some (.slice aA nA cA) ∧ w'.cell? ⟨wr.heap.size, 0, none⟩ = some (.int .i64 x) ∧ w'.cell? ⟨wr.heap.size, 1, none⟩ = some (.int .i64 y))
              (first
                | (exact ⟨d0, d1, d2⟩)
                | (exact ⟨(b2.cell (p := ⟨w.heap.size, 0, none⟩) hpV.out).trans d0, (b2.cell (p := ⟨wr.heap.size, 0, none⟩) hVz.out).trans d1, (b2.cell (p := ⟨wr.heap.size, 1, none⟩) hVz.out).trans d2⟩))
              (first
                | (go_at_call 17; ((with_reducible refine (add_any _ (sets g i) x y _ RA.out).mono ?_)); rw [HAD.out]; rintro e w2 ⟨v2, rfl, o2, b2⟩; obtain ⟨a2, n2, c2, rfl⟩ : ∃ a n c, v2 = .slice a n c := (by obtain ⟨a, c, h, _⟩ := o2.slice; exact ⟨a, _, c, h⟩)))
            all_goals
              have BB : Below wr.heap.size wr w2 := BA.out.trans (b2.mono BA.out.size)
              have O2 := Lib.hid (o2.mono (Nat.le_trans h8 BA.out.size))
              have ST2 := Lib.hid (HST.out.grow BB)
              have PT2 := Lib.hid (HPT.out.grow BB)
              have k0 : w2.cell? ⟨w.heap.size, 0, none⟩ = some (.slice aA nA cA) := (b2.cell (p := ⟨w.heap.size, 0, none⟩) hpV.out).trans d0
              have f0 : w2.frozen? ⟨w.heap.size, 0, none⟩ = false := by obtain ⟨_, _, _, _, _, _, _, _, e3, e4, _⟩ := ST2.out; exact e3
              clear o2 b2 BB d0 d1 d2 ps px0 px1
              go_wp2_with fail
              have ST3 := ST2.out.setA O2.out
              rw [← HS2.out] at ST3
              exact ⟨⟨.inr (.inl ⟨rfl, ST3⟩), PT2.out.set _ _ (by omega)⟩, by simp [intOf, hw1]⟩
        · obtain ⟨aA, nA, cA, aB, nB, cB, h1, h2, h3, h4, h5, h6, h7, h8⟩ := st
          obtain ⟨q0, q1⟩ := (HR.out.below h7).cells rfl i hlt
          have hgi : g i = ss.getD i (0, 0) := HG.out i
          have hgj : g' i = ss.getD (turned ss.length tn i) (0, 0) := HG2.out i
          obtain ⟨jj, hjj⟩ : ∃ jj, jj = turned ss.length tn i := ⟨_, rfl⟩
          have hjl : jj < ss.length := by rw [hjj]; exact turned_lt (by omega)
          obtain ⟨r0, r1⟩ := (HR.out.below h7).cells rfl jj hjl
          have hjm2 : ((ss.length : Int) - 1 - (i : Int) + (tn : Int)) % (ss.length : Int) = (jj : Int) := by
            rw [hjj, show (ss.length : Int) - 1 - (i : Int) + (tn : Int) = ((ss.length - 1 - i + tn : Nat) : Int) by omega]
            exact (Int.natCast_emod _ _).symm
          have hjm : ((ss.length : Int) - 1 - (i : Int) + (tn : Int)).tmod (ss.length : Int) = (jj : Int) := by
            rw [Int.tmod_eq_emod_of_nonneg (by omega)]
            exact hjm2
          rw [← hjj] at hgj
          clear hjj
          obtain ⟨⟨x', y'⟩, hs'⟩ : ∃ s, s = ss.getD jj (0, 0) := ⟨_, rfl⟩
          rw [← hs'] at r0 r1 hgj
          simp only at r0 r1
          have hi5 : (jj : Int) < (ss.length : Int) := by omega
          have hi6 : (0 : Int) ≤ (jj : Int) := by omega
          have hw2 : IntKind.i64.wrap ((ss.length : Int) - 1) = (ss.length : Int) - 1 := wraps_i64' _ (by omega) (by omega)
          have hw3 : IntKind.i64.wrap ((ss.length : Int) - 1 - (i : Int)) = (ss.length : Int) - 1 - (i : Int) := wraps_i64' _ (by omega) (by omega)
          have hw4 : IntKind.i64.wrap ((ss.length : Int) - 1 - (i : Int) + (tn : Int)) = (ss.length : Int) - 1 - (i : Int) + (tn : Int) := wraps_i64' _ (by omega) (by omega)
          have HGJ := Lib.hid hgj
          clear hs' hgj
          obtain ⟨⟨x, y⟩, hs⟩ : ∃ s, s = ss.getD i (0, 0) := ⟨_, rfl⟩
          rw [← hs] at q0 q1 hgi
          simp only at q0 q1
          have HGI := Lib.hid hgi
          clear hs hgi
          have hi1 : (i : Int) < (ss.length : Int) := by omega
          have hw1 : IntKind.i64.wrap ((1 : Int) + 1) = 2 := by decide
          have HPT := Lib.hid pt
          have p0 : wr.cell? ⟨P, 1, none⟩ = some (.pointer (some ⟨w.heap.size + 1, 0, none⟩)) := pt.2.1
          have HST : Hid (StO w (sets g (i + 1)) (sets g' i) wr) := ⟨aA, nA, cA, aB, nB, cB, h1, h2, h3, h4, h5, h6, h7, h8⟩
          have hpl : w.heap.size + 1 < wr.heap.size := by omega
          have hbw : b < wr.heap.size := by have := HBb.out; omega
          have FV : Hid (∀ V, wr.alloc (.cells #[.int .i64 x', .int .i64 y'] 42) = V → V.cell? ⟨w.heap.size + 1, 0, none⟩ = some (.slice aB nB cB) ∧ V.cell? ⟨wr.heap.size, 0, none⟩ = some (.int .i64 x') ∧ V.cell? ⟨wr.heap.size, 1, none⟩ = some (.int .i64 y') ∧ RdS V.drew (.slice aB nB cB) (sets g' i) ∧ Below wr.heap.size wr V.drew ∧ wr.heap.size < V.heap.size) := by
            rintro V rfl
            have bA : Below wr.heap.size wr (wr.alloc (.cells #[.int .i64 x', .int .i64 y'] 42)).drew := below_drewN ((Below.refl _ _).alloc (Nat.le_refl _) _) 1
            exact ⟨(bA.cell (p := ⟨w.heap.size + 1, 0, none⟩) hpl).trans h2, by rw [World.cell?_alloc_at _ _ _ _ rfl]; rfl, by rw [World.cell?_alloc_at _ _ _ _ rfl]; rfl, h6.rd.below bA, bA, by simp⟩
          have hlen := sets_len g' i
          have hrt := sets_right g' i
          have hadd := addO_add x' y' hrt (by omega)
          have HADD := Lib.hid hadd
          clear h1 h2 h3 h4 h5 h6 h7 hadd hlen hrt pt
          go_wp2_with fail
          generalize hV : wr.alloc _ = V
          obtain ⟨ps, px0, px1, ra, bA, hVs⟩ := FV.out V hV
          have RA := Lib.hid ra
          have BA := Lib.hid bA
          have HPs : Hid (V.drew.cell? ⟨w.heap.size + 1, 0, none⟩ = some (.slice aB nB cB)) := ps
          clear hV ra bA
          have d0 : V.drew.cell? ⟨w.heap.size + 1, 0, none⟩ = some (.slice aB nB cB) := ps
          have d1 : V.drew.cell? ⟨wr.heap.size, 0, none⟩ = some (.int .i64 x') := px0
          have d2 : V.drew.cell? ⟨wr.heap.size, 1, none⟩ = some (.int .i64 y') := px1
          have hVz : Hid (wr.heap.size < V.heap.size) := hVs
          have hpV : Hid (w.heap.size + 1 < V.heap.size) := Nat.lt_trans hpl hVs
          cases hsp : spanB x' y'
          · have HAD := HADD
            rw [hsp, if_neg (by simp)] at HAD
            have HS2 : Hid (sets g' (i + 1) = sets g' i) := by
              show _ = _
              rw [sets, HGJ.out, addO, if_neg (by rw [hsp]; simp)]
            clear hsp hVs
            go_region_held3 (fun w' => w'.cell? ⟨w.heap.size + 1, 0, none⟩ = some (.slice aB nB cB) ∧ w'.cell? ⟨wr.heap.size, 0, none⟩ = some (.int .i64 x') ∧ w'.cell? ⟨wr.heap.size, 1, none⟩ = some (.int .i64 y'))
              (first
                | (exact ⟨d0, d1, d2⟩)
                | (exact ⟨(b2.cell (p := ⟨w.heap.size + 1, 0, none⟩) hpV.out).trans d0, (b2.cell (p := ⟨wr.heap.size, 0, none⟩) hVz.out).trans d1, (b2.cell (p := ⟨wr.heap.size, 1, none⟩) hVz.out).trans d2⟩))
              (first
                | (go_at_call 17; ((with_reducible refine (add_any _ (sets g' i) x' y' _ RA.out).mono ?_)); rw [HAD.out]; rintro e w2 ⟨v2, rfl, o2, b2⟩))
            all_goals
              have BB : Below wr.heap.size wr w2 := BA.out.trans (b2.mono BA.out.size)
              have ST2 := HST.out.grow BB
              have PT2 := HPT.out.grow BB
              clear o2 b2 BB d0 d1 d2 ps px0 px1
              go_wp2_with fail
              exact ⟨⟨by rw [← HS2.out] at ST2; exact .inr (.inr ⟨rfl, ST2⟩), PT2⟩, by simp [intOf, hw1]⟩
          · have HAD := HADD
            rw [hsp, if_pos rfl] at HAD
            have HS2 : Hid (sets g' (i + 1) = addO (sets g' i) (x', y')) := by
              show _ = _
              rw [sets, HGJ.out]
            clear hsp hVs
            go_region_held3 (fun w' => w'.cell? ⟨w.heap.size + 1, 0, none⟩ = some (.slice aB nB cB) ∧ w'.cell? ⟨wr.heap.size, 0, none⟩ = some (.int .i64 x') ∧ w'.cell? ⟨wr.heap.size, 1, none⟩ = some (.int .i64 y'))
              (first
                | (exact ⟨d0, d1, d2⟩)
                | (exact ⟨(b2.cell (p := ⟨w.heap.size + 1, 0, none⟩) hpV.out).trans d0, (b2.cell (p := ⟨wr.heap.size, 0, none⟩) hVz.out).trans d1, (b2.cell (p := ⟨wr.heap.size, 1, none⟩) hVz.out).trans d2⟩))
              (first
                | (go_at_call 17; ((with_reducible refine (add_any _ (sets g' i) x' y' _ RA.out).mono ?_)); rw [HAD.out]; rintro e w2 ⟨v2, rfl, o2, b2⟩; obtain ⟨a2, n2, c2, rfl⟩ : ∃ a n c, v2 = .slice a n c := (by obtain ⟨a, c, h, _⟩ := o2.slice; exact ⟨a, _, c, h⟩)))
            all_goals
              have BB : Below wr.heap.size wr w2 := BA.out.trans (b2.mono BA.out.size)
              have O2 := Lib.hid (o2.mono (Nat.le_trans h8 BA.out.size))
              have ST2 := Lib.hid (HST.out.grow BB)
              have PT2 := Lib.hid (HPT.out.grow BB)
              have k0 : w2.cell? ⟨w.heap.size + 1, 0, none⟩ = some (.slice aB nB cB) := (b2.cell (p := ⟨w.heap.size + 1, 0, none⟩) hpV.out).trans d0
              have f0 : w2.frozen? ⟨w.heap.size + 1, 0, none⟩ = false := by obtain ⟨_, _, _, _, _, _, _, _, e3, e4, _⟩ := ST2.out; exact e4
              clear o2 b2 BB d0 d1 d2 ps px0 px1
              go_wp2_with fail
              have ST3 := ST2.out.setB O2.out
              rw [← HS2.out] at ST3
              exact ⟨⟨.inr (.inr ⟨rfl, ST3⟩), PT2.out.set _ _ (by omega)⟩, by simp [intOf, hw1]⟩
        · clear pt
          go_wp2
          exact ⟨⟨i + 1, by go_num, hlt, st⟩, by simp [intOf, hwi]; omega⟩
    · have hk2 : i = ss.length := by omega
      obtain ⟨aA, nA, cA, aB, nB, cB, h1, h2, h3, h4, h5, h6, h7, h8⟩ := st
      have HB := Lib.hid h7
      have OA := Lib.hid h5.rd
      have OB : Hid (RdS wr (.slice aB nB cB) (sets g i)) := by
        have hs := HSame.out
        rw [← hk2] at hs
        rw [hs]; exact h6.rd
      have hlen := sets_len g i
      have hrt : rightB (sets g i) = true := by simp [rightB, sets_right g i]; omega
      have HRt := Lib.hid hrt
      have hsz : w.heap.size < wr.heap.size := by omega
      clear h3 h4 h5 h6 h7 hlen hrt hk2
      go_wp2_with fail
      refine (rsame_any _ _ _ _ _ OA.out OB.out).mono ?_
      rw [same_lists]
      rintro e w2 ⟨rfl, hb2⟩
      have k0 : w2.cell? ⟨w.heap.size, 0, none⟩ = some (.slice aA nA cA) := (hb2.cell (p := ⟨w.heap.size, 0, none⟩) hsz).trans h1
      have OA2 := Lib.hid (OA.out.below hb2)
      have B2 := Lib.hid (HB.out.trans (hb2.mono HB.out.size))
      clear hb2 h1 h2
      go_wp2_with fail
      refine (rright_any _ _ _ OA2.out).mono ?_
      rw [HRt.out]
      rintro e w3 ⟨rfl, hb3⟩
      have B3 := Lib.hid (B2.out.trans (hb3.mono B2.out.size))
      clear hb3 k0
      go_wp2_with fail
      refine (alive_any _).mono ?_
      rintro e w4 ⟨rfl, hb4⟩
      have B4 := Lib.hid (B3.out.trans (hb4.mono B3.out.size))
      clear hb4
      go_wp2
      go_ret
      exact ⟨rfl, B4.out⟩

theorem spansOrder_walk (v : Value) (ss : List (Int × Int)) (turn : Int) (w : World) (hr : RdS w v ss) (ht : -9223372036854775808 ≤ turn ∧ turn ≤ 9223372036854775807) :
    Calls Try.prog 7 #[v, .int .i64 turn] w (Yes w) := by
  by_cases h0 : ss.length = 0
  · obtain ⟨va, c, rfl, _, _⟩ := hr.isSlice
    have t1 : ((ss.length : Int) == 0) = true := by rw [beq_iff_eq]; omega
    clear hr h0
    go_enter Try.func7, Try.ntmps7
    go_wp2_with (go_at_call 16; refine (alive_any _).mono ?_; rintro e w4 ⟨rfl, hb4⟩)
    go_ret
    exact ⟨rfl, hb4⟩
  · by_cases hl : ss.length ≤ 200
    · obtain ⟨b, o, c, rfl, _⟩ := hr.form (by intro h; rw [h] at h0; exact h0 rfl)
      exact order_A b o _ c ss turn w hr (by omega) hl ht
    · obtain ⟨va, c, rfl, _, _⟩ := hr.isSlice
      have t1 : ((ss.length : Int) == 0) = false := by rw [beq_eq_false_iff_ne]; omega
      have t2 : decide (200 < (ss.length : Int)) = true := decide_eq_true (by omega)
      clear hr h0 hl
      go_enter Try.func7, Try.ntmps7
      go_wp2_with (go_at_call 16; refine (alive_any _).mono ?_; rintro e w4 ⟨rfl, hb4⟩)
      go_ret
      exact ⟨rfl, hb4⟩
end Go.Proofs.Yticbhdbpfpdofaa
