/- Layer 8: maps of numbers that are open; what a call of a script settles. -/
import Derived.Test.YtobalbaieakcmaaSnB8
set_option linter.unusedSimpArgs false
set_option linter.unusedVariables false
namespace Go.Proofs.Ytobalbaieakcmaa
open Go.RowKit Go.Maps

def opD (_ : Pk) : DataW Unit := .lit (.bool true)
noncomputable def opR : Value → Option (DataW Unit × List MemPlace) := plainElem Try.prog 4
/-- block ob IS THE MAP OF THE NUMBERS OF l, each true -/
def Mo (w : World) (ob : Nat) (l : List Pk) : Prop := w.ownsMap Try.prog 3 opR ob l.length (dm opD l)
theorem Mo.of {w : World} {ob n : Nat} {l : List Pk} (h : w.ownsMap Try.prog 3 opR ob n (dm opD l)) : Mo w ob l := by
  have := tight h
  rwa [dm_size] at this
theorem Mo.lt {w : World} {ob : Nat} {l : List Pk} (h : Mo w ob l) : ob < w.heap.size := World.ownsMap.lt h
theorem Mo.kept {w w' : World} {ob : Nat} {l : List Pk} {row : Option Nat} (h : Mo w ob l) (hg : w.grownBy w' row) (hne : some ob ≠ row) : Mo w' ob l := World.ownsMap.kept h hg hne
theorem Mo.made (w : World) : Mo (w.alloc (.map #[] 0)) w.heap.size [] := World.ownsMap_made w _ _ _
theorem Mo.keep {S : List Nat} {w w' : World} {ob : Nat} {l : List Pk} (h : Mo w ob l) (k : Keep S w w') (hn : ob ∉ S) : Mo w' ob l := by
  have hb := k.block ob h.lt hn
  obtain ⟨es, clock, h1, h2⟩ := h
  exact ⟨es, clock, hb.trans h1, h2⟩
theorem Mo.below {w w' : World} {ob : Nat} {l : List Pk} (h : Mo w ob l) (hb : Below w.heap.size w w') : Mo w' ob l := h.keep (Keep.of_below (S := []) hb) (by simp)
theorem opR_bool (x : Bool) : opR (.bool x) = some (.lit (.bool x), []) := plainElem_bool Try.underlying4 x
set_option maxRecDepth 100000 in
theorem opR_inv {v : Value} {x : Bool} {ps : List MemPlace} (h : opR v = some (.lit (.bool x), ps)) : v = .bool x := by
  unfold opR plainElem at h
  rw [Try.underlying4] at h
  cases v <;> simp at h
  rw [h.1]
theorem dm_look (d : Pk → DataW Unit) (l : List Pk) (x : Int) (z : DataW Unit) : (dm d l).atKey (.int .i64 x) z = match l.find? (fun p => decide (p.n = x)) with | some p => d p | none => z := by
  unfold dm DataW.atKey
  simp only
  rw [List.find?_map]
  have e : ((fun p : Lit × DataW Unit => p.1.sameKey (.int .i64 x)) ∘ fun p : Pk => (keyL p, d p)) = fun p : Pk => decide (p.n = x) := by
    funext p; exact key_same p x
  rw [e]
  cases l.find? (fun p => decide (p.n = x)) <;> rfl
theorem op_at (l : List Pk) (x : Int) : (dm opD l).atKey (.int .i64 x) (.lit (.bool false)) = .lit (.bool (l.any fun p => decide (p.n = x))) := by
  rw [dm_look]
  cases h : l.find? (fun p => decide (p.n = x)) with
  | none =>
    have : l.any (fun p => decide (p.n = x)) = false := by
      rw [List.any_eq_false]
      exact List.find?_eq_none.1 h
    rw [this]
  | some p =>
    have hs := List.find?_some (p := fun p : Pk => decide (p.n = x)) h
    have : l.any (fun p => decide (p.n = x)) = true := List.any_eq_true.2 ⟨p, List.mem_of_find?_eq_some h, hs⟩
    rw [this]; rfl
/-- 'open[x]' -/
theorem look_open (w : World) (ob : Nat) (l : List Pk) (x : Int) (h : Mo w ob l) (h0 : 0 ≤ x) (h1 : x ≤ 4611686018427387903) :
    (Instr.lookup 50 (.map (some ob)) (.int .i64 x) false).run Try.prog w = .ok (.bool (l.any fun p => decide (p.n = x))) w := by
  obtain ⟨v, ps, hrun, hv⟩ := World.ownsMap.lookup h lawI Try.underlying50 (Try.zeroValue4 w) (opR_bool false) (keyOf_int_mk Try.underlying3 (wfI h0 h1))
  rw [op_at] at hv
  rw [hrun, opR_inv hv]

section
variable (w : World) {ops : Array Oper} {rest : List Oper} {o : Oper} {a : Act} {Q : Exit → Act → World → Prop}
theorem wpList_del_open (hg : o.guard = none) (m x : Operand) (hop : o.op = Op.call { callee := Callee.builtin Builtin.delete, args := #[m, x], argTypes := #[50, 3] })
    (ob : Nat) (l : List Pk) (n : Int) (hm : a.eval m = .map (some ob)) (h : Mo w ob l) (hx : a.eval x = .int .i64 n) (h0 : 0 ≤ n ∧ n ≤ 4611686018427387903)
    (hK : ∀ w', Mo w' ob (l.filter fun q => !decide (q.n = n)) → w.mapTurned w' ob → wpList Try.prog ops Q rest (a.put o.dst (.tuple #[])) w') :
    wpList Try.prog ops Q (o :: rest) a w :=
  wpList_delete_own w hg m x 50 3 hop 4 lawI Try.underlying50 opR ob l.length (dm opD l) hm h (.int .i64 n) (.int .i64 n) hx (keyOf_int_mk Try.underlying3 (wfI h0.1 h0.2)) fun w' h1 h2 =>
    hK w' (Mo.of (by rw [dm_del] at h1; exact h1)) h2
theorem wpList_len_open (hg : o.guard = none) (m : Operand) (hop : o.op = Op.call { callee := Callee.builtin Builtin.len, args := #[m], argTypes := #[50] }) (ob : Nat) (l : List Pk) (hm : a.eval m = .map (some ob)) (hM : Mo w ob l)
    (hK : wpList Try.prog ops Q rest (a.put o.dst (.int .i64 l.length)) w) : wpList Try.prog ops Q (o :: rest) a w :=
  wpList_len_own w hg m 50 hop 3 4 Try.underlying50 opR ob l.length (dm opD l) hm hM (by rw [dm_size]; exact hK)
theorem wpList_put_open (hg : o.guard = none) (m x v : Operand) (hop : o.op = Op.mapUpdate 50 m x v) (ob : Nat) (l : List Pk) (p : Pk) (hm : a.eval m = .map (some ob)) (hM : Mo w ob l) (hl : l.length ≤ 512)
    (hx : a.eval x = .int .i64 p.n) (hv : a.eval v = .bool true) (h0 : 0 ≤ p.n ∧ p.n ≤ 4611686018427387903) (hup : ∀ q ∈ l, q.n < p.n)
    (hK : ∀ w', Mo w' ob (l ++ [p]) → w.mapTurned w' ob → wpList Try.prog ops Q rest (a.put o.dst undef) w') : wpList Try.prog ops Q (o :: rest) a w :=
  wpList_mapUpdate_in w hg m x v 50 hop 3 4 lawI Try.underlying50 opR ob l.length (dm opD l) hm hM (by unfold maxLen; omega) _ _ (keyL p) hx hv (keyOf_int_mk Try.underlying3 (wfI h0.1 h0.2)) (opD p) [] (opR_bool true)
    fun w' h1 h2 => hK w' (Mo.of (by rw [dm_put opD l p hup] at h1; exact h1)) h2
end

/-! ### what a call of a script settles -/
theorem filter_perm (f : Pk → Bool) (l : List Pk) : l.Perm (l.filter f ++ l.filter fun p => !f p) := (List.filter_append_perm f l).symm
theorem lose_perm (q : Lg) (now wait : Int) : q.l.Perm ((loseE q now wait).2 ++ (loseE q now wait).1.l) := by
  unfold loseE
  split
  · exact List.Perm.refl _
  · exact filter_perm _ _
theorem ack_perm (q : Lg) (ss : List (Int × Int)) (now wait : Int) : q.l.Perm (((ackE q ss now wait).2.1 ++ (ackE q ss now wait).2.2.1) ++ (ackE q ss now wait).1.l) := by
  unfold ackE
  by_cases h1 : ackB ss now wait = false
  · rw [if_pos h1]; exact List.Perm.refl _
  rw [if_neg h1]
  by_cases h2 : q.last < topI ss
  · rw [if_pos h2]; exact List.Perm.refl _
  rw [if_neg h2]
  have h := lose_perm (cameQ q ss) now wait
  show q.l.Perm ((_ ++ _) ++ _)
  rw [List.append_assoc]
  exact (filter_perm (fun p => inB p.n ss) q.l).trans (List.Perm.append_left _ h)
/-- ONE MORE IS OUT, AND NONE SETTLED; OR WHAT WAS OUT IS SETTLED OR STILL OUT -/
theorem does_ways {q : Lg} (hq : Ok q) (k n now size wait : Int) (ss : List (Int × Int)) {q' : Lg} {X : List Pk} {one : Bool} (h : doesE q k n now size wait ss = (q', X, one)) :
    (one = true ∧ X = [] ∧ q'.l = q.l ++ [⟨n, now, size⟩] ∧ (0 ≤ n ∧ n ≤ 4611686018427387903) ∧ ∀ p ∈ q.l, p.n < n) ∨ (one = false ∧ q.l.Perm (X ++ q'.l)) := by
  unfold doesE at h
  by_cases h0 : k % 5 = 0
  · rw [if_pos h0] at h
    unfold sentE at h
    by_cases h1 : sendB n now size = false
    · rw [if_pos h1] at h
      simp only [Prod.mk.injEq] at h
      obtain ⟨rfl, rfl, rfl⟩ := h
      exact .inr ⟨rfl, List.Perm.refl _⟩
    rw [if_neg h1] at h
    by_cases h2 : n ≤ q.last ∨ now < q.time
    · rw [if_pos h2] at h
      simp only [Prod.mk.injEq] at h
      obtain ⟨rfl, rfl, rfl⟩ := h
      exact .inr ⟨rfl, List.Perm.refl _⟩
    rw [if_neg h2] at h
    by_cases h3 : 512 ≤ q.l.length
    · rw [if_pos h3] at h
      simp only [Prod.mk.injEq] at h
      obtain ⟨rfl, rfl, rfl⟩ := h
      exact .inr ⟨rfl, List.Perm.refl _⟩
    rw [if_neg h3] at h
    simp only [Prod.mk.injEq] at h
    obtain ⟨rfl, rfl, rfl⟩ := h
    have hb : (withinB n 0 4611686018427387903 = true ∧ nowB now = true) ∧ withinB size 1 1200 = true := by simpa only [sendB, Bool.not_eq_false, Bool.and_eq_true] using h1
    exact .inl ⟨rfl, rfl, rfl, within_iff.1 hb.1.1, fun p hp => by have := hq.each p hp; omega⟩
  rw [if_neg h0] at h
  by_cases h1 : k % 5 = 1
  · rw [if_pos h1] at h
    simp only [Prod.mk.injEq] at h
    obtain ⟨rfl, rfl, rfl⟩ := h
    exact .inr ⟨rfl, ack_perm q ss now wait⟩
  rw [if_neg h1] at h
  by_cases h2 : k % 5 = 2
  · rw [if_pos h2] at h
    simp only [Prod.mk.injEq] at h
    obtain ⟨rfl, rfl, rfl⟩ := h
    exact .inr ⟨rfl, lose_perm q now wait⟩
  rw [if_neg h2] at h
  by_cases h3 : k % 5 = 3
  · rw [if_pos h3] at h
    simp only [Prod.mk.injEq] at h
    obtain ⟨rfl, rfl, rfl⟩ := h
    exact .inr ⟨rfl, List.Perm.refl _⟩
  rw [if_neg h3] at h
  simp only [Prod.mk.injEq] at h
  obtain ⟨rfl, rfl, rfl⟩ := h
  exact .inr ⟨rfl, by show q.l.Perm (q.l ++ []); simp⟩
/-- the next one that is settled stands among those open -/
theorem strike_next {M X : List Pk} {l' : List Pk} {j : Nat} (hM : Up M) (hp : M.Perm (X.drop j ++ l')) (hj : j < X.length) :
    X.getD j default ∈ M ∧ (M.filter fun q => !decide (q.n = (X.getD j default).n)).Perm (X.drop (j + 1) ++ l') := by
  have hd : X.drop j = X.getD j default :: X.drop (j + 1) := by rw [List.drop_eq_getElem_cons hj]; simp [List.getD, hj]
  rw [hd, List.cons_append] at hp
  have hm : X.getD j default ∈ M := hp.mem_iff.2 (by simp)
  refine ⟨hm, ?_⟩
  have h2 := (apart_split hM.apart hm).symm.trans hp
  exact (List.perm_cons _).1 h2
end Go.Proofs.Ytobalbaieakcmaa
