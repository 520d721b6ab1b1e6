/- A region that draws its order, walked operation by operation: its operations under one name, each take by one closed check. -/
import Derived.Test.YtgefnndegjpcpaaDoorGen
import Derived.Deep.RegionHeld
set_option linter.unusedSimpArgs false
set_option linter.unusedVariables false
namespace Go.Proofs.YtgefnndegjpcpaaDoor
open Go.RowKit

/-- the operations of the region of that number -/
def opsIn (n : Nat) : Code → Option (Array Oper)
  | .region id ops _ => if id = n then some ops else none
  | .seq a b => (opsIn n a).or (opsIn n b)
  | .cond _ a b => (opsIn n a).or (opsIn n b)
  | .block _ b => opsIn n b
  | .loop b => opsIn n b
  | .rangeFunc _ _ a b => (opsIn n a).or (opsIn n b)
  | .scope b => opsIn n b
  | _ => none
def opsOf (f : Func) (n : Nat) : Array Oper :=
  match f.body with
  | some c => match opsIn n c with
    | some o => o
    | none => #[]
  | none => #[]
def opOf (ops : Array Oper) (i : Nat) : Oper :=
  match ops[i]? with
  | some o => o
  | none => ⟨none, .move (.tmp 0), 0, "", #[], none⟩
def mayTake (md : Region.Mode) (ops : Array Oper) (listed : Array Bool) (i slot : Nat) : Bool :=
  (Region.noSelect ops && Region.free md ops listed i) && ((Region.ready md ops listed).contains i && ((ops[i]?).isSome && (opOf ops i).dst == some slot))
theorem opOf_some {ops : Array Oper} {i : Nat} (h : (ops[i]?).isSome = true) : ops[i]? = some (opOf ops i) := by
  unfold opOf
  cases e : ops[i]? with
  | none => rw [e] at h; cases h
  | some o => rfl

section
variable {P : Program} {Q : Exit → Act → World → Prop} {md : Region.Mode} {S : World → Prop}
theorem region_named {ops : Array Oper} (ops' : Array Oper) (h : ops = ops') {id : Nat} {b : Bool} {a : Act} {w : World} (k : (Code.region id ops' b).wp P Q a w) : (Code.region id ops b).wp P Q a w := by rw [h]; exact k
theorem take_wanted {ops : Array Oper} {fuel : Nat} {listed : Array Bool} {a : Act} {w : World} (i slot : Nat) (v : Value) (h : mayTake md ops listed i slot = true) (hw : Region.wanted (opOf ops i) (yielded ops a.tmps) = true)
    (hQ : ∀ c a w, Q (.panic c) (a.put (some slot) v) w → Q (.panic c) a w) (hy : ∀ w, S w → (execOp a.eval (opOf ops i)).run P w = .ok (.value v) w) (hS : S w)
    (k : wpAnyH P md ops Q S fuel (listed.setIfInBounds i true) (a.put (some slot) v) w) : wpAnyH P md ops Q S (fuel + 1) listed a w := by
  simp only [mayTake, Bool.and_eq_true, beq_iff_eq] at h
  obtain ⟨⟨h1, h2⟩, h3, h4, h5⟩ := h
  exact wpAnyH_take (opOf_some h4) h1 h2 h3 (by rw [h5]; exact hQ) (.inl ⟨hw, hy⟩) hS (by rw [h5]; exact k)
theorem take_not {ops : Array Oper} {fuel : Nat} {listed : Array Bool} {a : Act} {w : World} (i slot : Nat) (h : mayTake md ops listed i slot = true) (hw : Region.wanted (opOf ops i) (yielded ops a.tmps) = false)
    (hQ : ∀ c a w, Q (.panic c) (a.put (some slot) undef) w → Q (.panic c) a w) (hS : S w)
    (k : wpAnyH P md ops Q S fuel (listed.setIfInBounds i true) (a.put (some slot) undef) w) : wpAnyH P md ops Q S (fuel + 1) listed a w := by
  simp only [mayTake, Bool.and_eq_true, beq_iff_eq] at h
  obtain ⟨⟨h1, h2⟩, h3, h4, h5⟩ := h
  exact wpAnyH_take (opOf_some h4) h1 h2 h3 (by rw [h5]; exact hQ) (.inr ⟨hw, rfl⟩) hS (by rw [h5]; exact k)
/-- a call of a Go function comes up alone -/
theorem take_call {ops : Array Oper} {fuel : Nat} {listed : Array Bool} {a : Act} {w : World} (i slot : Nat) (f : FuncId) (args : Array Value) (hr : Region.ready md ops listed = [i]) (h4 : (ops[i]?).isSome = true) (h5 : (opOf ops i).dst = some slot)
    (hw : Region.wanted (opOf ops i) (yielded ops a.tmps) = true) (he : (execOp a.eval (opOf ops i)).run P w = .ok (.enter f args) w)
    (k : Calls P f args w fun e w' => ∃ v, e = .returned v ∧ S w' ∧ wpAnyH P md ops Q S fuel (listed.setIfInBounds i true) (a.put (some slot) v) w') : wpAnyH P md ops Q S (fuel + 1) listed a w := by
  refine wpAnyH_ready hr (by simp) (AllReadyH.cons (opOf_some h4) (fun K hK => ?_) AllReadyH.nil)
  rw [if_pos hw]
  unfold Oper.wp
  rw [he]
  show Calls P f args w _
  refine k.mono ?_
  rintro e w' ⟨v, rfl, hS, hk⟩
  show K (a.put (opOf ops i).dst v) w'
  rw [h5]
  exact hK.out _ _ hS (fun _ => hk)
theorem run_load {P : Program} {o : Oper} {a : Act} {w : World} (t : TypeId) (x : Operand) (ho : o.op = .load t x) (ha : ∀ w, (isAgg t).run P w = .ok false w) (p : Addr) (v : Value) (hx : a.eval x = .pointer (some p)) (hc : w.cell? p = some v) :
    (execOp a.eval o).run P w = .ok (.value v) w := by
  unfold execOp
  simp only [ho, hx]
  go_simp
end
end Go.Proofs.YtgefnndegjpcpaaDoor
