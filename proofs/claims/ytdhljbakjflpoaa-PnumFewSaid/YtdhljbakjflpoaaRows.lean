/-
  No cell of these rows narrows 'for every input' (looked for: loops, veiled, ifaces, maps, wideKeys, modest, calm, conditions, laid).
  DERIVED. THE GIVEN ROWS OF THIS SEAT. 5 by the template 'for every input the law returns true; each argument reads behind the call as it read before'; 0 by the template 'total and deterministic' (their statements: YtdhljbakjflpoaaTotals.lean).
  GIVEN WITH THE SEED: the statements are not yours to turn. If you find one false, say at which input.
  Laid BY PROGRAM, IN A SANDBOX (cutbox-rows.mjs): the forced cells as the released guide's own fill.sh prints them over the translation 78ad910f9f11545c… (all of the seat's roots in one cut). By AI agents, Wed Nov 11 2026. No macro, syntax, notation, axiom, sorry.
-/
import Derived.Test.YtdhljbakjflpoaaChecked
import GoSem.Claim
import GoSem.ClaimJoined
import GoSem.ClaimMapViews
import Derived.JoinedTies
import Derived.KernelRfl
namespace Go.Proofs.Ytdhljbakjflpoaa
/- THE CELL 'sum', in the pinned program and in every row, IS THE sha256 OF THE DUMP (.gsa) THAT YtdhljbakjflpoaaProg.lean LOADS. Nothing in Lean hashes anything: it is a label: what it is worth is what the hold of that sum in a sandbox is worth. -/
noncomputable def Try.pinned : Pinned := { name := "ytdhljbakjflpoaa", sum := "78ad910f9f11545c36821f9b2b9f9583a870ad1127ea1bdacc6cabb7cf2a52dc", checked := Try.checked }
namespace Rows
def none {H : Type} : Left H := { results := [], args := [] }

/-- 'turnbucklelaw03.PnumWidths': WHATEVER THE INPUT: true; the input reads as it did. -/
def pnumWidthsSpec : ChangeSpec := { name := "pnumWidths", fn := fun _ => fun
  | [d1, d2, d3] => { results := [.lit (.bool true)], args := [d1, d2, d3] }
  | _ => none }
def pnumWidthsRow : OpenClaim := { program := "ytdhljbakjflpoaa", sum := "78ad910f9f11545c36821f9b2b9f9583a870ad1127ea1bdacc6cabb7cf2a52dc", func := "turnbuckle/turnbucklelaw03.PnumWidths", spec := "pnumWidths", apart := false }
def PnumWidthsSaid : Prop := pnumWidthsRow.holds Try.pinned (OpenSpec.ofChange pnumWidthsSpec)

/-- ITS FALSE NEIGHBOUR: 'it returns false'. Refute it at one input. -/
def pnumWidthsWrong : ChangeSpec := { name := "pnumWidths", fn := fun _ => fun
  | [d1, d2, d3] => { results := [.lit (.bool false)], args := [d1, d2, d3] }
  | _ => none }
def PnumWidthsWrongFalsely : Prop := pnumWidthsRow.holds Try.pinned (OpenSpec.ofChange pnumWidthsWrong)

/-- 'turnbucklelaw03.PnumGrows': WHATEVER THE INPUT: true; the input reads as it did. -/
def pnumGrowsSpec : ChangeSpec := { name := "pnumGrows", fn := fun _ => fun
  | [d1, d2, d3] => { results := [.lit (.bool true)], args := [d1, d2, d3] }
  | _ => none }
def pnumGrowsRow : OpenClaim := { program := "ytdhljbakjflpoaa", sum := "78ad910f9f11545c36821f9b2b9f9583a870ad1127ea1bdacc6cabb7cf2a52dc", func := "turnbuckle/turnbucklelaw03.PnumGrows", spec := "pnumGrows", apart := false }
def PnumGrowsSaid : Prop := pnumGrowsRow.holds Try.pinned (OpenSpec.ofChange pnumGrowsSpec)

/-- ITS FALSE NEIGHBOUR: 'it returns false'. Refute it at one input. -/
def pnumGrowsWrong : ChangeSpec := { name := "pnumGrows", fn := fun _ => fun
  | [d1, d2, d3] => { results := [.lit (.bool false)], args := [d1, d2, d3] }
  | _ => none }
def PnumGrowsWrongFalsely : Prop := pnumGrowsRow.holds Try.pinned (OpenSpec.ofChange pnumGrowsWrong)

/-- 'turnbucklelaw03.PnumBack': WHATEVER THE INPUT: true; the input reads as it did. -/
def pnumBackSpec : ChangeSpec := { name := "pnumBack", fn := fun _ => fun
  | [d1, d2, d3] => { results := [.lit (.bool true)], args := [d1, d2, d3] }
  | _ => none }
def pnumBackRow : OpenClaim := { program := "ytdhljbakjflpoaa", sum := "78ad910f9f11545c36821f9b2b9f9583a870ad1127ea1bdacc6cabb7cf2a52dc", func := "turnbuckle/turnbucklelaw03.PnumBack", spec := "pnumBack", apart := false }
def PnumBackSaid : Prop := pnumBackRow.holds Try.pinned (OpenSpec.ofChange pnumBackSpec)

/-- ITS FALSE NEIGHBOUR: 'it returns false'. Refute it at one input. -/
def pnumBackWrong : ChangeSpec := { name := "pnumBack", fn := fun _ => fun
  | [d1, d2, d3] => { results := [.lit (.bool false)], args := [d1, d2, d3] }
  | _ => none }
def PnumBackWrongFalsely : Prop := pnumBackRow.holds Try.pinned (OpenSpec.ofChange pnumBackWrong)

/-- 'turnbucklelaw03.PnumNear': WHATEVER THE INPUT: true; the input reads as it did. -/
def pnumNearSpec : ChangeSpec := { name := "pnumNear", fn := fun _ => fun
  | [d1, d2, d3] => { results := [.lit (.bool true)], args := [d1, d2, d3] }
  | _ => none }
def pnumNearRow : OpenClaim := { program := "ytdhljbakjflpoaa", sum := "78ad910f9f11545c36821f9b2b9f9583a870ad1127ea1bdacc6cabb7cf2a52dc", func := "turnbuckle/turnbucklelaw03.PnumNear", spec := "pnumNear", apart := false }
def PnumNearSaid : Prop := pnumNearRow.holds Try.pinned (OpenSpec.ofChange pnumNearSpec)

/-- ITS FALSE NEIGHBOUR: 'it returns false'. Refute it at one input. -/
def pnumNearWrong : ChangeSpec := { name := "pnumNear", fn := fun _ => fun
  | [d1, d2, d3] => { results := [.lit (.bool false)], args := [d1, d2, d3] }
  | _ => none }
def PnumNearWrongFalsely : Prop := pnumNearRow.holds Try.pinned (OpenSpec.ofChange pnumNearWrong)

/-- 'turnbucklelaw03.PnumFew': WHATEVER THE INPUT: true; the input reads as it did. -/
def pnumFewSpec : ChangeSpec := { name := "pnumFew", fn := fun _ => fun
  | [d1, d2] => { results := [.lit (.bool true)], args := [d1, d2] }
  | _ => none }
def pnumFewRow : OpenClaim := { program := "ytdhljbakjflpoaa", sum := "78ad910f9f11545c36821f9b2b9f9583a870ad1127ea1bdacc6cabb7cf2a52dc", func := "turnbuckle/turnbucklelaw03.PnumFew", spec := "pnumFew", apart := false }
def PnumFewSaid : Prop := pnumFewRow.holds Try.pinned (OpenSpec.ofChange pnumFewSpec)

/-- ITS FALSE NEIGHBOUR: 'it returns false'. Refute it at one input. -/
def pnumFewWrong : ChangeSpec := { name := "pnumFew", fn := fun _ => fun
  | [d1, d2] => { results := [.lit (.bool false)], args := [d1, d2] }
  | _ => none }
def PnumFewWrongFalsely : Prop := pnumFewRow.holds Try.pinned (OpenSpec.ofChange pnumFewWrong)

/- THE SECOND FORM. 'bulk': how many values and letters a reading holds, each counted each time it is reached (what is shared counts as often as it is met; a slice's spare places count too). A statement '..UptoSaid' is the law's where the arguments, and the package variables that the reading takes, are together of bulk at most 1048576: NARROWER than '..Said'. Prove '..Said' where nothing that the law and all that it calls make is longer than what came in: it says more and counts as full. Else prove '..UptoSaid'. A law counts once. -/
mutual
def uptoBulk {H : Type} : DataW H → Nat
  | .lit (.string bytes) => bytes.length + 1
  | .lit _ => 1
  | .nil => 1
  | .ptr d => uptoBulk d + 1
  | .slice elems spare => uptoBulkAll elems + uptoBulkAll spare + 1
  | .agg parts => uptoBulkAll parts + 1
  | .iface _ d => uptoBulk d + 1
  | .map entries => uptoBulkEntries entries + 1
  | .held _ => 1
def uptoBulkAll {H : Type} : List (DataW H) → Nat
  | [] => 0
  | d :: r => uptoBulk d + uptoBulkAll r
def uptoBulkEntries {H : Type} : List (Lit × DataW H) → Nat
  | [] => 0
  | x :: r => uptoBulkEntry x + uptoBulkEntries r
def uptoBulkEntry {H : Type} : Lit × DataW H → Nat
  | (.string bytes, d) => bytes.length + uptoBulk d + 1
  | (_, d) => uptoBulk d + 1
 end
def uptoSmall : (H : Type) → List (DataW H) → Bool := fun _ ds => decide (uptoBulkAll ds ≤ 1048576)
def OpenSpec.upto (s : _root_.Go.ChangeSpec) : _root_.Go.OpenSpec := { _root_.Go.OpenSpec.ofChange s with cond := some uptoSmall }

/-- 'turnbucklelaw03.PnumWidths', WHERE WHAT IT READS IS OF BULK AT MOST 1048576: true; the input reads as it did. -/
def pnumWidthsUptoRow : OpenClaim := { program := "ytdhljbakjflpoaa", sum := "78ad910f9f11545c36821f9b2b9f9583a870ad1127ea1bdacc6cabb7cf2a52dc", func := "turnbuckle/turnbucklelaw03.PnumWidths", spec := "pnumWidths", apart := false, narrowed := true }
def PnumWidthsUptoSaid : Prop := pnumWidthsUptoRow.holds Try.pinned (OpenSpec.upto pnumWidthsSpec)

/-- 'turnbucklelaw03.PnumGrows', WHERE WHAT IT READS IS OF BULK AT MOST 1048576: true; the input reads as it did. -/
def pnumGrowsUptoRow : OpenClaim := { program := "ytdhljbakjflpoaa", sum := "78ad910f9f11545c36821f9b2b9f9583a870ad1127ea1bdacc6cabb7cf2a52dc", func := "turnbuckle/turnbucklelaw03.PnumGrows", spec := "pnumGrows", apart := false, narrowed := true }
def PnumGrowsUptoSaid : Prop := pnumGrowsUptoRow.holds Try.pinned (OpenSpec.upto pnumGrowsSpec)

/-- 'turnbucklelaw03.PnumBack', WHERE WHAT IT READS IS OF BULK AT MOST 1048576: true; the input reads as it did. -/
def pnumBackUptoRow : OpenClaim := { program := "ytdhljbakjflpoaa", sum := "78ad910f9f11545c36821f9b2b9f9583a870ad1127ea1bdacc6cabb7cf2a52dc", func := "turnbuckle/turnbucklelaw03.PnumBack", spec := "pnumBack", apart := false, narrowed := true }
def PnumBackUptoSaid : Prop := pnumBackUptoRow.holds Try.pinned (OpenSpec.upto pnumBackSpec)

/-- 'turnbucklelaw03.PnumNear', WHERE WHAT IT READS IS OF BULK AT MOST 1048576: true; the input reads as it did. -/
def pnumNearUptoRow : OpenClaim := { program := "ytdhljbakjflpoaa", sum := "78ad910f9f11545c36821f9b2b9f9583a870ad1127ea1bdacc6cabb7cf2a52dc", func := "turnbuckle/turnbucklelaw03.PnumNear", spec := "pnumNear", apart := false, narrowed := true }
def PnumNearUptoSaid : Prop := pnumNearUptoRow.holds Try.pinned (OpenSpec.upto pnumNearSpec)

/-- 'turnbucklelaw03.PnumFew', WHERE WHAT IT READS IS OF BULK AT MOST 1048576: true; the input reads as it did. -/
def pnumFewUptoRow : OpenClaim := { program := "ytdhljbakjflpoaa", sum := "78ad910f9f11545c36821f9b2b9f9583a870ad1127ea1bdacc6cabb7cf2a52dc", func := "turnbuckle/turnbucklelaw03.PnumFew", spec := "pnumFew", apart := false, narrowed := true }
def PnumFewUptoSaid : Prop := pnumFewUptoRow.holds Try.pinned (OpenSpec.upto pnumFewSpec)

end Rows
end Go.Proofs.Ytdhljbakjflpoaa
