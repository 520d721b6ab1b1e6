/- Walks of layer 16: which dates there are. -/
import Derived.Test.YtgefnndegjpcpaaDoorDtC
import Derived.Test.YtgefnndegjpcpaaDoorHeld
set_option maxRecDepth 100000
set_option linter.unusedSimpArgs false
set_option linter.unusedVariables false
namespace Go.Proofs.YtgefnndegjpcpaaDoor
open Go.RowKit

theorem Cs.six {w : World} {g : Nat} {a b c d e f : Value} (h : Cs w g [a, b, c, d, e, f]) : w.cell? ⟨g, 0, none⟩ = some a ∧ w.cell? ⟨g, 1, none⟩ = some b ∧ w.cell? ⟨g, 2, none⟩ = some c ∧ w.cell? ⟨g, 3, none⟩ = some d ∧ w.cell? ⟨g, 4, none⟩ = some e ∧ w.cell? ⟨g, 5, none⟩ = some f :=
  ⟨h.get 0 _ rfl, h.get 1 _ rfl, h.get 2 _ rfl, h.get 3 _ rfl, h.get 4 _ rfl, h.get 5 _ rfl⟩
theorem Cs.drew {w : World} {g : Nat} {cs : List Value} (h : Cs w g cs) : Cs w.drew g cs := h
/-- a block of six numbers -/
def SixB (b : Nat) (y m d h i s : Int) (W : World) : Prop :=
  W.cell? ⟨b, 0, none⟩ = some (.int .i64 y) ∧ W.cell? ⟨b, 1, none⟩ = some (.int .i64 m) ∧ W.cell? ⟨b, 2, none⟩ = some (.int .i64 d) ∧ W.cell? ⟨b, 3, none⟩ = some (.int .i64 h) ∧ W.cell? ⟨b, 4, none⟩ = some (.int .i64 i) ∧ W.cell? ⟨b, 5, none⟩ = some (.int .i64 s)
noncomputable def dateOps : Array Oper := opsOf Tryd.f22 1
end Go.Proofs.YtgefnndegjpcpaaDoor
