/- Layer 17: a number of a range, and a part of it. -/
import Derived.Test.YtdfebmjincnfiaaDoorFdE
import Derived.Deep.CutBlock
import Derived.Laws.Rows
set_option maxRecDepth 100000
set_option linter.unusedSimpArgs false
set_option linter.unusedVariables false
namespace Go.Proofs.YtdfebmjincnfiaaDoor
open Go.RowKit

theorem dec_digits : ∀ (l : List UInt8) (acc : Nat), (∀ b ∈ l, 48 ≤ b.toNat ∧ b.toNat ≤ 57) → ∃ n, Lib.decFrom acc l = some n ∧ n < (acc + 1) * 10 ^ l.length := by
  intro l
  induction l with
  | nil => intro acc _; exact ⟨acc, rfl, by simp⟩
  | cons b l ih =>
    intro acc h
    have hb := h b (by simp)
    obtain ⟨n, h1, h2⟩ := ih (acc * 10 + (b.toNat - 48)) (fun c hc => h c (by simp [hc]))
    refine ⟨n, ?_, ?_⟩
    · rw [Lib.decFrom, show Lib.digitVal b = some (b.toNat - 48) by unfold Lib.digitVal; rw [if_pos hb]]
      exact h1
    · rw [List.length_cons, Nat.pow_succ]
      have h3 : acc * 10 + (b.toNat - 48) + 1 ≤ (acc + 1) * 10 := by omega
      have h4 : (acc * 10 + (b.toNat - 48) + 1) * 10 ^ l.length ≤ (acc + 1) * 10 * 10 ^ l.length := Nat.mul_le_mul_right _ h3
      have h5 : (acc + 1) * (10 ^ l.length * 10) = (acc + 1) * 10 * 10 ^ l.length := by rw [Nat.mul_comm (10 ^ l.length) 10, Nat.mul_assoc]
      omega
theorem atoi_digits {l : List UInt8} (h : digs l = true) (hl : l.length ≤ 18) : ∃ n : Int, Lib.atoi l = some n ∧ 0 ≤ n ∧ n < 1000000000000000000 := by
  have hall := digs_all h
  match l, h with
  | b :: r, _ =>
    obtain ⟨n, h1, h2⟩ := dec_digits (b :: r) 0 hall
    have hb := hall b (by simp)
    have n1 : (b == 45) = false := by rw [beq_eq_false_iff_ne]; intro e; subst e; exact absurd hb.1 (by decide)
    have n2 : (b == 43) = false := by rw [beq_eq_false_iff_ne]; intro e; subst e; exact absurd hb.1 (by decide)
    refine ⟨(n : Int), ?_, by omega, ?_⟩
    · unfold Lib.atoi
      simp only [n1, n2, Bool.false_eq_true, if_false]
      unfold Lib.decNat
      rw [if_neg (by simp), h1]
      rfl
    · have : 10 ^ (b :: r).length ≤ 10 ^ 18 := Nat.pow_le_pow_right (by decide) hl
      omega
/-- a number of a range, and whether it is one -/
def numR (l : List UInt8) : Int × Bool := if digs l = true ∧ l.length ≤ 18 then ((Lib.atoi l).getD 0, true) else (0, false)
theorem numR_bound (l : List UInt8) : 0 ≤ (numR l).1 ∧ (numR l).1 < 1000000000000000000 := by
  unfold numR
  split
  · rename_i h
    obtain ⟨n, h1, h2, h3⟩ := atoi_digits h.1 h.2
    rw [h1]
    exact ⟨h2, h3⟩
  · decide
set_option maxHeartbeats 1600000 in
theorem number_any (l : List UInt8) (hl : l.length ≤ 4611686018427387904) (w : World) :
    Calls Tryd.prog 45 #[.string (txt l)] w fun e w' => e = .returned (.tuple #[.int .i64 (numR l).1, .bool (numR l).2]) ∧ Below w.heap.size w w' := by
  have sz := txt_size l
  have D := Lib.hid (digits_any l hl w)
  cases hd : digs l with
  | false =>
    rw [hd] at D
    rw [show numR l = (0, false) by unfold numR; rw [if_neg (by rw [hd]; simp)]]
    go_enter Tryd.func45, Tryd.ntmps45
    go_wp2_with (go_at_call 56; refine D.out.mono ?_; rintro e w2 ⟨rfl, rfl⟩)
    go_ret2
    exact ⟨rfl, Below.refl _ _⟩
  | true =>
    rw [hd] at D
    by_cases h18 : l.length ≤ 18
    · obtain ⟨n, h1, h2, h3⟩ := atoi_digits hd h18
      have A : Hid (∀ W, Calls Tryd.prog 57 #[.string (txt l)] W fun e w' => e = .returned (.tuple #[.int .i64 n, .nilIface]) ∧ Below W.heap.size W w') := fun W => (strconv_Atoi (txt l) n (by rw [sz]; exact h18) h1 W).mono fun e w' ⟨a, t, b⟩ => ⟨a, by rw [b]; exact bytesWorld_keeps _ _ _⟩
      rw [show numR l = (n, true) by unfold numR; rw [if_pos ⟨hd, h18⟩, h1]; rfl]
      have i1 : ¬ (18 : Int) < (l.length : Int) := by omega
      clear h1 h2 h3
      go_enter Tryd.func45, Tryd.ntmps45
      go_wp2_with (first
        | (go_at_call 56; refine D.out.mono ?_; rintro e w2 ⟨rfl, rfl⟩)
        | (go_at_call 57; refine (A.out _).mono ?_; rintro e w3 ⟨rfl, hb3⟩; have B3 := Lib.hid hb3; clear hb3))
      go_region
      go_wp2
      go_ret2
      exact ⟨rfl, B3.out.drew⟩
    · have i1 : (18 : Int) < (l.length : Int) := by omega
      rw [show numR l = (0, false) by unfold numR; rw [if_neg (fun h => h18 h.2)]]
      go_enter Tryd.func45, Tryd.ntmps45
      go_wp2_with (go_at_call 56; refine D.out.mono ?_; rintro e w2 ⟨rfl, rfl⟩)
      go_ret2
      exact ⟨rfl, Below.refl _ _⟩
/-- a part of a range -/
structure RP where
  f : Int
  t : Int
  hf : Bool
  ht : Bool
def rpC (p : RP) : List Value := [.int .i64 p.f, .int .i64 p.t, .bool p.hf, .bool p.ht]
def rpV (p : RP) : Value := .agg #[.int .i64 p.f, .int .i64 p.t, .bool p.hf, .bool p.ht]
/-- the part that is told by what stands ahead of the -, behind it, and how long all is -/
def partC (f t : List UInt8) (n : Nat) : RP × Bool :=
  (⟨(numR f).1, (numR t).1, !decide (f = []), !decide (t = [])⟩,
    if f = [] then (numR t).2 else if t = [] then ((numR f).2 && decide (f.length < n)) else ((numR f).2 && ((numR t).2 && decide ((numR f).1 ≤ (numR t).1))))
def partE (l : List UInt8) : RP × Bool := partC (cutB 45 l).1 (cutB 45 l).2.1 l.length
theorem cutB_len (c : UInt8) (l : List UInt8) : (cutB c l).1.length ≤ l.length ∧ (cutB c l).2.1.length ≤ l.length := by
  rcases cut_ix c l with ⟨_, h⟩ | ⟨i, _, _, h⟩
  · rw [h]; simp
  · rw [h]; simp only [List.length_take, List.length_drop]; omega
theorem load_four {U : World} {g : Nat} {a b c d : Value} (h : Cs U g [a, b, c, d]) : (loadVar 51 ⟨g, 0, none⟩).run Tryd.prog U = .ok (.agg #[a, b, c, d]) U := by
  obtain ⟨T, hT⟩ := h
  exact run_loadVar_row (P := Tryd.prog) U g T 51 #[a, b, c, d] (0, 0) _ hT Tryd.underlying51 rfl (by kernel_rfl)
theorem four_far (W : World) (g q i : Nat) (a b c d : Value) (h : g ≠ q) : (((((W.setCell ⟨g, 0, none⟩ a).setCell ⟨g, 1, none⟩ b).setCell ⟨g, 2, none⟩ c).setCell ⟨g, 3, none⟩ d).drew).cell? ⟨q, i, none⟩ = W.cell? ⟨q, i, none⟩ := by
  have e : ∀ (U : World) (j : Nat) (v : Value), (U.setCell ⟨g, j, none⟩ v).heap[q]? = U.heap[q]? := fun U j v => Below.heap_setCell _ _ _ _ (fun e => h e.symm)
  refine World.cell?_of_block (w := W) ?_
  show ((((W.setCell ⟨g, 0, none⟩ a).setCell ⟨g, 1, none⟩ b).setCell ⟨g, 2, none⟩ c).setCell ⟨g, 3, none⟩ d).heap[q]? = _
  rw [e, e, e, e]
theorem part_end (w U : World) (n1 n2 : Int) (b1 b2 res : Bool) (A : Act) (hd : A.defers = []) (h2 : A.tmps.getD 2 undef = .pointer (some ⟨w.heap.size, 0, none⟩)) (h3 : A.tmps.getD 3 undef = .bool res) (hR : Cs U w.heap.size [.int .i64 n1, .int .i64 n2, .bool b1, .bool b2]) (hZ : Below w.heap.size w U) :
    bodyPost Tryd.prog Tryd.f29 (fun e w' => e = .returned (.tuple #[.agg #[.int .i64 n1, .int .i64 n2, .bool b1, .bool b2], .bool res]) ∧ Below w.heap.size w w') .ret A U := by
  have hlv := load_four hR
  refine bodyPost_ret (v := .tuple #[.agg #[.int .i64 n1, .int .i64 n2, .bool b1, .bool b2], .bool res]) ?_ hd ⟨rfl, hZ⟩
  rw [Array.getD_eq_getD_getElem?] at h2 h3
  simp [results, Tryd.results29, asAddr, h2, h3, hlv]
set_option maxHeartbeats 6400000 in
theorem part_core (l f t : List UInt8) (fnd : Bool) (n1 n2 : Int) (o1 o2 ef et res : Bool) (w : World) (sz : (txt l).size = l.length) (szf : (txt f).size = f.length) (hl : l.length ≤ 4611686018427387904) (hfl : f.length ≤ l.length) (emf : (txt f).toList.isEmpty = ef) (emt : (txt t).toList.isEmpty = et)
    (C : ∀ W, Calls Tryd.prog 42 #[.string (txt l), .string (txt [45])] W fun e w' => e = .returned (.tuple #[.string (txt f), .string (txt t), .bool fnd]) ∧ Below W.heap.size W w')
    (N1 : ∀ W, Calls Tryd.prog 45 #[.string (txt f)] W fun e w' => e = .returned (.tuple #[.int .i64 n1, .bool o1]) ∧ Below W.heap.size W w')
    (N2 : ∀ W, Calls Tryd.prog 45 #[.string (txt t)] W fun e w' => e = .returned (.tuple #[.int .i64 n2, .bool o2]) ∧ Below W.heap.size W w')
    (hres : res = if ef then o2 else if et then (o1 && decide (f.length < l.length)) else (o1 && (o2 && decide (n1 ≤ n2)))) :
    Calls Tryd.prog 29 #[.string (txt l)] w fun e w' => e = .returned (.tuple #[.agg #[.int .i64 n1, .int .i64 n2, .bool !ef, .bool !et], .bool res]) ∧ Below w.heap.size w w' := by
  have C := Lib.hid C
  have N1 := Lib.hid N1
  have N2 := Lib.hid N2
  have HR := Lib.hid hres
  clear hres
  have Z1 : Hid (Below w.heap.size w (w.alloc (.cells #[.int .i64 0, .int .i64 0, .bool false, .bool false] 51))) := (Below.refl _ _).alloc (Nat.le_refl _) _
  have R1 : Hid (Cs (w.alloc (.cells #[.int .i64 0, .int .i64 0, .bool false, .bool false] 51)) w.heap.size [.int .i64 0, .int .i64 0, .bool false, .bool false]) := Cs.made w _ _
  go_enter Tryd.func29, Tryd.ntmps29
  go_upto_region 2 with (go_at_call 42; refine (C.out _).mono ?_; rintro e w2 ⟨rfl, hb2⟩; have R1 := Lib.hid (R1.out.below hb2); have Z1 := Lib.hid (Z1.out.trans (hb2.mono Z1.out.size)); clear hb2)
  have R2 := Lib.hid (R1.out.below ((Below.refl _ w2).alloc (Nat.le_refl _) (.cells #[.int .i64 0, .int .i64 0, .bool (!ef), .bool (!et)] 51)))
  have Z2 := Lib.hid (Z1.out.trans (((Below.refl _ w2).alloc (Nat.le_refl _) (.cells #[.int .i64 0, .int .i64 0, .bool (!ef), .bool (!et)] 51)).mono Z1.out.size))
  have P2 : Hid (Cs (w2.alloc (.cells #[.int .i64 0, .int .i64 0, .bool (!ef), .bool (!et)] 51)) w2.heap.size [.int .i64 0, .int .i64 0, .bool (!ef), .bool (!et)]) := Cs.made w2 _ _
  have hq : Hid (w.heap.size < w2.heap.size) := R1.out.lt
  clear R1 Z1
  go_upto_region 4 with fail
  generalize w2.alloc (.cells #[.int .i64 0, .int .i64 0, .bool (!ef), .bool (!et)] 51) = W at P2 R2 Z2 ⊢
  generalize w2.heap.size = q at P2 hq ⊢
  have hqw : Hid (w.heap.size ≤ q) := Nat.le_of_lt hq.out
  go_upto_region 5 with (go_at_call 45; refine (N1.out _).mono ?_; rintro e w3 ⟨rfl, hb3⟩; have P3 := Lib.hid (P2.out.below hb3); have R3 := Lib.hid (R2.out.below hb3); have Z3 := Lib.hid (Z2.out.trans (hb3.mono Z2.out.size)); have k0 := P3.out.get 0 _ rfl; have f0 := P3.out.free 0; clear hb3)
  clear k0 f0
  have P4 := Lib.hid (P3.out.set 0 (.int .i64 n1))
  have R4 := Lib.hid (R3.out.grown (grown_set q 0 w3 (.int .i64 n1)) (by simp only [ne_eq, Option.some.injEq]; exact Nat.ne_of_lt hq.out))
  have Z4 := Lib.hid (Z3.out.setCell (p := ⟨q, 0, none⟩) hqw.out (.int .i64 n1))
  generalize w3.setCell ⟨q, 0, none⟩ (.int .i64 n1) = W4 at P4 R4 Z4 ⊢
  clear P3 R3 Z3 P2 R2 Z2
  go_upto_region 7 with (go_at_call 45; refine (N2.out _).mono ?_; rintro e w5 ⟨rfl, hb5⟩; have P5 := Lib.hid (P4.out.below hb5); have R5 := Lib.hid (R4.out.below hb5); have Z5 := Lib.hid (Z4.out.trans (hb5.mono Z4.out.size)); have k1 := P5.out.get 1 _ rfl; have f1 := P5.out.free 1; clear hb5)
  clear k1 f1 P4 R4 Z4
  have P6 := Lib.hid (P5.out.set 1 (.int .i64 n2))
  have R6 := Lib.hid (R5.out.grown (grown_set q 1 w5 (.int .i64 n2)) (by simp only [ne_eq, Option.some.injEq]; exact Nat.ne_of_lt hq.out))
  have Z6 := Lib.hid (Z5.out.setCell (p := ⟨q, 1, none⟩) hqw.out (.int .i64 n2))
  generalize w5.setCell ⟨q, 1, none⟩ (.int .i64 n2) = W6 at P6 R6 Z6 ⊢
  clear P5 R5 Z5
  obtain ⟨k0, k1, k2, k3⟩ : W6.cell? ⟨q, 0, none⟩ = some (.int .i64 n1) ∧ W6.cell? ⟨q, 1, none⟩ = some (.int .i64 n2) ∧ W6.cell? ⟨q, 2, none⟩ = some (.bool (!ef)) ∧ W6.cell? ⟨q, 3, none⟩ = some (.bool (!et)) := ⟨P6.out.get 0 _ rfl, P6.out.get 1 _ rfl, P6.out.get 2 _ rfl, P6.out.get 3 _ rfl⟩
  obtain ⟨r0, r1, r2, r3⟩ : W6.cell? ⟨w.heap.size, 0, none⟩ = some (.int .i64 0) ∧ W6.cell? ⟨w.heap.size, 1, none⟩ = some (.int .i64 0) ∧ W6.cell? ⟨w.heap.size, 2, none⟩ = some (.bool false) ∧ W6.cell? ⟨w.heap.size, 3, none⟩ = some (.bool false) := ⟨R6.out.get 0 _ rfl, R6.out.get 1 _ rfl, R6.out.get 2 _ rfl, R6.out.get 3 _ rfl⟩
  obtain ⟨z0, z1, z2, z3⟩ : W6.frozen? ⟨w.heap.size, 0, none⟩ = false ∧ W6.frozen? ⟨w.heap.size, 1, none⟩ = false ∧ W6.frozen? ⟨w.heap.size, 2, none⟩ = false ∧ W6.frozen? ⟨w.heap.size, 3, none⟩ = false := ⟨R6.out.free 0, R6.out.free 1, R6.out.free 2, R6.out.free 3⟩
  cases ef with
  | true =>
    have hr : res = o2 := HR.out
    subst hr
    clear HR
    go_wp2
    have R7 := (((R6.out.set 0 (.int .i64 n1)).set 1 (.int .i64 n2)).set 2 (.bool false)).set 3 (.bool (!et))
    have Z7 := (((Z6.out.setCell (p := ⟨w.heap.size, 0, none⟩) (Nat.le_refl _) (.int .i64 n1)).setCell (p := ⟨w.heap.size, 1, none⟩) (Nat.le_refl _) (.int .i64 n2)).setCell (p := ⟨w.heap.size, 2, none⟩) (Nat.le_refl _) (.bool false)).setCell (p := ⟨w.heap.size, 3, none⟩) (Nat.le_refl _) (.bool (!et))
    exact part_end w _ n1 n2 _ _ _ _ rfl rfl rfl R7 Z7
  | false =>
    cases et with
    | true =>
      have hr : res = (o1 && decide (f.length < l.length)) := HR.out
      clear HR
      cases o1 with
      | true =>
        by_cases hlt : f.length < l.length
        · have i1 : (f.length : Int) < (l.length : Int) := by omega
          obtain rfl : res = true := by rw [hr]; simp [hlt]
          clear hr
          go_wp2
          have R7 := (((R6.out.set 0 (.int .i64 n1)).set 1 (.int .i64 n2)).set 2 (.bool true)).set 3 (.bool false)
          have Z7 := (((Z6.out.setCell (p := ⟨w.heap.size, 0, none⟩) (Nat.le_refl _) (.int .i64 n1)).setCell (p := ⟨w.heap.size, 1, none⟩) (Nat.le_refl _) (.int .i64 n2)).setCell (p := ⟨w.heap.size, 2, none⟩) (Nat.le_refl _) (.bool true)).setCell (p := ⟨w.heap.size, 3, none⟩) (Nat.le_refl _) (.bool false)
          exact part_end w _ n1 n2 _ _ _ _ rfl rfl rfl R7 Z7
        · have i1 : ¬ (f.length : Int) < (l.length : Int) := by omega
          obtain rfl : res = false := by rw [hr]; simp [hlt]
          clear hr
          go_wp2
          have R7 := (((R6.out.set 0 (.int .i64 n1)).set 1 (.int .i64 n2)).set 2 (.bool true)).set 3 (.bool false)
          have Z7 := (((Z6.out.setCell (p := ⟨w.heap.size, 0, none⟩) (Nat.le_refl _) (.int .i64 n1)).setCell (p := ⟨w.heap.size, 1, none⟩) (Nat.le_refl _) (.int .i64 n2)).setCell (p := ⟨w.heap.size, 2, none⟩) (Nat.le_refl _) (.bool true)).setCell (p := ⟨w.heap.size, 3, none⟩) (Nat.le_refl _) (.bool false)
          exact part_end w _ n1 n2 _ _ _ _ rfl rfl rfl R7 Z7
      | false =>
        obtain rfl : res = false := by rw [hr]; rfl
        clear hr
        go_wp2
        have R7 := (((R6.out.set 0 (.int .i64 n1)).set 1 (.int .i64 n2)).set 2 (.bool true)).set 3 (.bool false)
        have Z7 := (((Z6.out.setCell (p := ⟨w.heap.size, 0, none⟩) (Nat.le_refl _) (.int .i64 n1)).setCell (p := ⟨w.heap.size, 1, none⟩) (Nat.le_refl _) (.int .i64 n2)).setCell (p := ⟨w.heap.size, 2, none⟩) (Nat.le_refl _) (.bool true)).setCell (p := ⟨w.heap.size, 3, none⟩) (Nat.le_refl _) (.bool false)
        exact part_end w _ n1 n2 _ _ _ _ rfl rfl rfl R7 Z7
    | false =>
      have hr : res = (o1 && (o2 && decide (n1 ≤ n2))) := HR.out
      clear HR
      have d0 : W6.drew.cell? ⟨q, 0, none⟩ = some (.int .i64 n1) := k0
      have d1 : W6.drew.cell? ⟨q, 1, none⟩ = some (.int .i64 n2) := k1
      have d2 : W6.drew.cell? ⟨q, 2, none⟩ = some (.bool true) := k2
      have d3 : W6.drew.cell? ⟨q, 3, none⟩ = some (.bool true) := k3
      have e0 : W6.drew.cell? ⟨w.heap.size, 0, none⟩ = some (.int .i64 0) := r0
      have e1 : W6.drew.cell? ⟨w.heap.size, 1, none⟩ = some (.int .i64 0) := r1
      have e2 : W6.drew.cell? ⟨w.heap.size, 2, none⟩ = some (.bool false) := r2
      have e3 : W6.drew.cell? ⟨w.heap.size, 3, none⟩ = some (.bool false) := r3
      have g0 : W6.drew.frozen? ⟨w.heap.size, 0, none⟩ = false := z0
      have g1 : W6.drew.frozen? ⟨w.heap.size, 1, none⟩ = false := z1
      have g2 : W6.drew.frozen? ⟨w.heap.size, 2, none⟩ = false := z2
      have g3 : W6.drew.frozen? ⟨w.heap.size, 3, none⟩ = false := z3
      cases o1 with
      | false =>
        obtain rfl : res = false := by rw [hr]; rfl
        clear hr
        go_upto_region 8 with fail
        go_region
        go_wp2
        have R7 := (((R6.out.set 0 (.int .i64 n1)).set 1 (.int .i64 n2)).set 2 (.bool true)).set 3 (.bool true)
        have Z7 := (((Z6.out.drew.setCell (p := ⟨w.heap.size, 0, none⟩) (Nat.le_refl _) (.int .i64 n1)).setCell (p := ⟨w.heap.size, 1, none⟩) (Nat.le_refl _) (.int .i64 n2)).setCell (p := ⟨w.heap.size, 2, none⟩) (Nat.le_refl _) (.bool true)).setCell (p := ⟨w.heap.size, 3, none⟩) (Nat.le_refl _) (.bool true)
        exact part_end w _ n1 n2 _ _ _ _ rfl rfl rfl R7 Z7
      | true =>
        cases o2 with
        | false =>
          obtain rfl : res = false := by rw [hr]; rfl
          clear hr
          go_upto_region 8 with fail
          go_region
          go_wp2
          have R7 := (((R6.out.set 0 (.int .i64 n1)).set 1 (.int .i64 n2)).set 2 (.bool true)).set 3 (.bool true)
          have Z7 := (((Z6.out.drew.setCell (p := ⟨w.heap.size, 0, none⟩) (Nat.le_refl _) (.int .i64 n1)).setCell (p := ⟨w.heap.size, 1, none⟩) (Nat.le_refl _) (.int .i64 n2)).setCell (p := ⟨w.heap.size, 2, none⟩) (Nat.le_refl _) (.bool true)).setCell (p := ⟨w.heap.size, 3, none⟩) (Nat.le_refl _) (.bool true)
          exact part_end w _ n1 n2 _ _ _ _ rfl rfl rfl R7 Z7
        | true =>
          have s0 : ((((W6.setCell ⟨w.heap.size, 0, none⟩ (.int .i64 n1)).setCell ⟨w.heap.size, 1, none⟩ (.int .i64 n2)).setCell ⟨w.heap.size, 2, none⟩ (.bool true)).setCell ⟨w.heap.size, 3, none⟩ (.bool true)).drew.cell? ⟨q, 0, none⟩ = some (.int .i64 n1) := (four_far W6 _ q 0 _ _ _ _ (Nat.ne_of_lt hq.out)).trans k0
          have s1 : ((((W6.setCell ⟨w.heap.size, 0, none⟩ (.int .i64 n1)).setCell ⟨w.heap.size, 1, none⟩ (.int .i64 n2)).setCell ⟨w.heap.size, 2, none⟩ (.bool true)).setCell ⟨w.heap.size, 3, none⟩ (.bool true)).drew.cell? ⟨q, 1, none⟩ = some (.int .i64 n2) := (four_far W6 _ q 1 _ _ _ _ (Nat.ne_of_lt hq.out)).trans k1
          by_cases hle : n1 ≤ n2
          · obtain rfl : res = true := by rw [hr]; simp [hle]
            clear hr
            go_upto_region 8 with fail
            go_region
            go_wp2
            have R7 := (((R6.out.set 0 (.int .i64 n1)).set 1 (.int .i64 n2)).set 2 (.bool true)).set 3 (.bool true)
            have Z7 := (((Z6.out.drew.setCell (p := ⟨w.heap.size, 0, none⟩) (Nat.le_refl _) (.int .i64 n1)).setCell (p := ⟨w.heap.size, 1, none⟩) (Nat.le_refl _) (.int .i64 n2)).setCell (p := ⟨w.heap.size, 2, none⟩) (Nat.le_refl _) (.bool true)).setCell (p := ⟨w.heap.size, 3, none⟩) (Nat.le_refl _) (.bool true)
            exact part_end w _ n1 n2 _ _ _ _ rfl rfl rfl R7 Z7
          · obtain rfl : res = false := by rw [hr]; simp [hle]
            clear hr
            go_upto_region 8 with fail
            go_region
            go_wp2
            have R7 := (((R6.out.set 0 (.int .i64 n1)).set 1 (.int .i64 n2)).set 2 (.bool true)).set 3 (.bool true)
            have Z7 := (((Z6.out.drew.setCell (p := ⟨w.heap.size, 0, none⟩) (Nat.le_refl _) (.int .i64 n1)).setCell (p := ⟨w.heap.size, 1, none⟩) (Nat.le_refl _) (.int .i64 n2)).setCell (p := ⟨w.heap.size, 2, none⟩) (Nat.le_refl _) (.bool true)).setCell (p := ⟨w.heap.size, 3, none⟩) (Nat.le_refl _) (.bool true)
            exact part_end w _ n1 n2 _ _ _ _ rfl rfl rfl R7 Z7

theorem part_any (l : List UInt8) (hl : l.length ≤ 4611686018427387904) (w : World) :
    Calls Tryd.prog 29 #[.string (txt l)] w fun e w' => e = .returned (.tuple #[rpV (partE l).1, .bool (partE l).2]) ∧ Below w.heap.size w w' := by
  have hcl := cutB_len 45 l
  refine part_core l (cutB 45 l).1 (cutB 45 l).2.1 (cutB 45 l).2.2 _ _ _ _ (decide ((cutB 45 l).1 = [])) (decide ((cutB 45 l).2.1 = [])) _ w (txt_size _) (txt_size _) hl hcl.1 (txt_empty _) (txt_empty _) (cut_any 45 l hl) (number_any _ (by omega)) (number_any _ (by omega)) ?_
  unfold partE partC
  simp only [decide_eq_true_eq]
end Go.Proofs.YtdfebmjincnfiaaDoor
