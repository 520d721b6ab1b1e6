/-
  NARROWER THAN 'FOR EVERY INPUT', by the rows' own cells (each row's printed sentence says how): VintPuts: laid · VintGets: laid · VintAll: laid · VintBack: laid · VintRow: laid · VintFew: laid · VintOwn: laid.
  DERIVED. THE GIVEN ROWS OF THIS SEAT. 7 by the template 'for every input the law returns true; each argument reads behind the call as it read before'; 0 by the template 'total and deterministic' (their statements: YtkalncahelnamaaDoorTotals.lean).
  GIVEN WITH THE SEED: the statements are not yours to turn. If you find one false, say at which input.
  Laid BY PROGRAM, IN A SANDBOX (cutbox-rows.mjs): the forced cells as the released guide's own fill.sh prints them over the translation 197619531287c903… (all of the seat's roots in one cut). By AI agents, Wed Nov 11 2026. No macro, syntax, notation, axiom, sorry.
-/
import Derived.Test.YtkalncahelnamaaDoorChecked
import GoSem.Claim
import GoSem.ClaimJoined
import GoSem.ClaimMapViews
import Derived.JoinedTies
import Derived.KernelRfl
namespace Go.Proofs.YtkalncahelnamaaDoor
/- THE CELL 'sum', in the pinned program and in every row, IS THE sha256 OF THE DUMP (.gsa) THAT YtkalncahelnamaaDoorProg.lean LOADS. Nothing in Lean hashes anything: it is a label: what it is worth is what the hold of that sum in a sandbox is worth. -/
noncomputable def Tryd.pinned : Pinned := { name := "ytkalncahelnamaadoor", sum := "197619531287c90363af6b2c32a938f6ecd2ade9e1c5b5304ab48f0aa4ca9d79", checked := Tryd.checked }
namespace Rows
def none {H : Type} : Left H := { results := [], args := [] }

/- WHAT THE LISTED PACKAGE-LEVEL VARIABLES READ AS WHEN THE CALL BEGINS. Each datum BY PROGRAM (the guide's laid-datum.mjs) off the statement by which the dump's own 'gosem.cut.vars' lays the variable. In a bare row this is a premise. The card (YtkalncahelnamaaDoorCards.lean) ties it to the program's text. -/
def laid_turnbuckle_vint_widths {H : Type} : DataW H := .agg [.lit (.int .i64 1), .lit (.int .i64 2), .lit (.int .i64 4), .lit (.int .i64 8)]

/-- 'turnbucklelaw01.VintPuts': WHATEVER THE INPUT: true; the input reads as it did. -/
def vintPutsSpec : ChangeSpec := { name := "vintPuts", fn := fun _ => fun
  | [d1, d2, d3] => { results := [.lit (.bool true)], args := [d1, d2, d3] }
  | _ => none }
def vintPutsRow : OpenClaim := { program := "ytkalncahelnamaadoor", sum := "197619531287c90363af6b2c32a938f6ecd2ade9e1c5b5304ab48f0aa4ca9d79", func := "turnbuckle/turnbucklelaw01.VintPuts", spec := "vintPuts", named := ["turnbuckle/vint.widths"], apart := false, laid := [("turnbuckle/vint.widths", laid_turnbuckle_vint_widths)] }
def VintPutsSaid : Prop := vintPutsRow.holds Tryd.pinned (OpenSpec.ofChange vintPutsSpec)

/-- ITS FALSE NEIGHBOUR: 'it returns false'. Refute it at one input. -/
def vintPutsWrong : ChangeSpec := { name := "vintPuts", fn := fun _ => fun
  | [d1, d2, d3] => { results := [.lit (.bool false)], args := [d1, d2, d3] }
  | _ => none }
def VintPutsWrongFalsely : Prop := vintPutsRow.holds Tryd.pinned (OpenSpec.ofChange vintPutsWrong)

/-- 'turnbucklelaw01.VintGets': WHATEVER THE INPUT: true; the input reads as it did. -/
def vintGetsSpec : ChangeSpec := { name := "vintGets", fn := fun _ => fun
  | [d1, d2] => { results := [.lit (.bool true)], args := [d1, d2] }
  | _ => none }
def vintGetsRow : OpenClaim := { program := "ytkalncahelnamaadoor", sum := "197619531287c90363af6b2c32a938f6ecd2ade9e1c5b5304ab48f0aa4ca9d79", func := "turnbuckle/turnbucklelaw01.VintGets", spec := "vintGets", named := ["turnbuckle/vint.widths"], apart := false, laid := [("turnbuckle/vint.widths", laid_turnbuckle_vint_widths)] }
def VintGetsSaid : Prop := vintGetsRow.holds Tryd.pinned (OpenSpec.ofChange vintGetsSpec)

/-- ITS FALSE NEIGHBOUR: 'it returns false'. Refute it at one input. -/
def vintGetsWrong : ChangeSpec := { name := "vintGets", fn := fun _ => fun
  | [d1, d2] => { results := [.lit (.bool false)], args := [d1, d2] }
  | _ => none }
def VintGetsWrongFalsely : Prop := vintGetsRow.holds Tryd.pinned (OpenSpec.ofChange vintGetsWrong)

/-- 'turnbucklelaw01.VintAll': WHATEVER THE INPUT: true; the input reads as it did. -/
def vintAllSpec : ChangeSpec := { name := "vintAll", fn := fun _ => fun
  | [d] => { results := [.lit (.bool true)], args := [d] }
  | _ => none }
def vintAllRow : OpenClaim := { program := "ytkalncahelnamaadoor", sum := "197619531287c90363af6b2c32a938f6ecd2ade9e1c5b5304ab48f0aa4ca9d79", func := "turnbuckle/turnbucklelaw01.VintAll", spec := "vintAll", named := ["turnbuckle/vint.widths"], apart := false, laid := [("turnbuckle/vint.widths", laid_turnbuckle_vint_widths)] }
def VintAllSaid : Prop := vintAllRow.holds Tryd.pinned (OpenSpec.ofChange vintAllSpec)

/-- ITS FALSE NEIGHBOUR: 'it returns false'. Refute it at one input. -/
def vintAllWrong : ChangeSpec := { name := "vintAll", fn := fun _ => fun
  | [d] => { results := [.lit (.bool false)], args := [d] }
  | _ => none }
def VintAllWrongFalsely : Prop := vintAllRow.holds Tryd.pinned (OpenSpec.ofChange vintAllWrong)

/-- 'turnbucklelaw01.VintBack': WHATEVER THE INPUT: true; the input reads as it did. -/
def vintBackSpec : ChangeSpec := { name := "vintBack", fn := fun _ => fun
  | [d1, d2, d3] => { results := [.lit (.bool true)], args := [d1, d2, d3] }
  | _ => none }
def vintBackRow : OpenClaim := { program := "ytkalncahelnamaadoor", sum := "197619531287c90363af6b2c32a938f6ecd2ade9e1c5b5304ab48f0aa4ca9d79", func := "turnbuckle/turnbucklelaw01.VintBack", spec := "vintBack", named := ["turnbuckle/vint.widths"], apart := false, laid := [("turnbuckle/vint.widths", laid_turnbuckle_vint_widths)] }
def VintBackSaid : Prop := vintBackRow.holds Tryd.pinned (OpenSpec.ofChange vintBackSpec)

/-- ITS FALSE NEIGHBOUR: 'it returns false'. Refute it at one input. -/
def vintBackWrong : ChangeSpec := { name := "vintBack", fn := fun _ => fun
  | [d1, d2, d3] => { results := [.lit (.bool false)], args := [d1, d2, d3] }
  | _ => none }
def VintBackWrongFalsely : Prop := vintBackRow.holds Tryd.pinned (OpenSpec.ofChange vintBackWrong)

/-- 'turnbucklelaw01.VintRow': WHATEVER THE INPUT: true; the input reads as it did. -/
def vintRowSpec : ChangeSpec := { name := "vintRow", fn := fun _ => fun
  | [d] => { results := [.lit (.bool true)], args := [d] }
  | _ => none }
def vintRowRow : OpenClaim := { program := "ytkalncahelnamaadoor", sum := "197619531287c90363af6b2c32a938f6ecd2ade9e1c5b5304ab48f0aa4ca9d79", func := "turnbuckle/turnbucklelaw01.VintRow", spec := "vintRow", named := ["turnbuckle/vint.widths"], apart := false, laid := [("turnbuckle/vint.widths", laid_turnbuckle_vint_widths)] }
def VintRowSaid : Prop := vintRowRow.holds Tryd.pinned (OpenSpec.ofChange vintRowSpec)

/-- ITS FALSE NEIGHBOUR: 'it returns false'. Refute it at one input. -/
def vintRowWrong : ChangeSpec := { name := "vintRow", fn := fun _ => fun
  | [d] => { results := [.lit (.bool false)], args := [d] }
  | _ => none }
def VintRowWrongFalsely : Prop := vintRowRow.holds Tryd.pinned (OpenSpec.ofChange vintRowWrong)

/-- 'turnbucklelaw01.VintFew': WHATEVER THE INPUT: true; the input reads as it did. -/
def vintFewSpec : ChangeSpec := { name := "vintFew", fn := fun _ => fun
  | [d1, d2] => { results := [.lit (.bool true)], args := [d1, d2] }
  | _ => none }
def vintFewRow : OpenClaim := { program := "ytkalncahelnamaadoor", sum := "197619531287c90363af6b2c32a938f6ecd2ade9e1c5b5304ab48f0aa4ca9d79", func := "turnbuckle/turnbucklelaw01.VintFew", spec := "vintFew", named := ["turnbuckle/vint.widths"], apart := false, laid := [("turnbuckle/vint.widths", laid_turnbuckle_vint_widths)] }
def VintFewSaid : Prop := vintFewRow.holds Tryd.pinned (OpenSpec.ofChange vintFewSpec)

/-- ITS FALSE NEIGHBOUR: 'it returns false'. Refute it at one input. -/
def vintFewWrong : ChangeSpec := { name := "vintFew", fn := fun _ => fun
  | [d1, d2] => { results := [.lit (.bool false)], args := [d1, d2] }
  | _ => none }
def VintFewWrongFalsely : Prop := vintFewRow.holds Tryd.pinned (OpenSpec.ofChange vintFewWrong)

/-- 'turnbucklelaw01.VintOwn': WHATEVER THE INPUT: true; the input reads as it did. -/
def vintOwnSpec : ChangeSpec := { name := "vintOwn", fn := fun _ => fun
  | [d1, d2] => { results := [.lit (.bool true)], args := [d1, d2] }
  | _ => none }
def vintOwnRow : OpenClaim := { program := "ytkalncahelnamaadoor", sum := "197619531287c90363af6b2c32a938f6ecd2ade9e1c5b5304ab48f0aa4ca9d79", func := "turnbuckle/turnbucklelaw01.VintOwn", spec := "vintOwn", named := ["turnbuckle/vint.widths"], apart := false, laid := [("turnbuckle/vint.widths", laid_turnbuckle_vint_widths)] }
def VintOwnSaid : Prop := vintOwnRow.holds Tryd.pinned (OpenSpec.ofChange vintOwnSpec)

/-- ITS FALSE NEIGHBOUR: 'it returns false'. Refute it at one input. -/
def vintOwnWrong : ChangeSpec := { name := "vintOwn", fn := fun _ => fun
  | [d1, d2] => { results := [.lit (.bool false)], args := [d1, d2] }
  | _ => none }
def VintOwnWrongFalsely : Prop := vintOwnRow.holds Tryd.pinned (OpenSpec.ofChange vintOwnWrong)

/- THE SECOND FORM. 'bulk': how many values and letters a reading holds, each counted each time it is reached (what is shared counts as often as it is met; a slice's spare places count too). A statement '..UptoSaid' is the law's where the arguments, and the package variables that the reading takes, are together of bulk at most 1048576: NARROWER than '..Said'. Prove '..Said' where nothing that the law and all that it calls make is longer than what came in: it says more and counts as full. Else prove '..UptoSaid'. A law counts once. -/
mutual
def uptoBulk {H : Type} : DataW H → Nat
  | .lit (.string bytes) => bytes.length + 1
  | .lit _ => 1
  | .nil => 1
  | .ptr d => uptoBulk d + 1
  | .slice elems spare => uptoBulkAll elems + uptoBulkAll spare + 1
  | .agg parts => uptoBulkAll parts + 1
  | .iface _ d => uptoBulk d + 1
  | .map entries => uptoBulkEntries entries + 1
  | .held _ => 1
def uptoBulkAll {H : Type} : List (DataW H) → Nat
  | [] => 0
  | d :: r => uptoBulk d + uptoBulkAll r
def uptoBulkEntries {H : Type} : List (Lit × DataW H) → Nat
  | [] => 0
  | x :: r => uptoBulkEntry x + uptoBulkEntries r
def uptoBulkEntry {H : Type} : Lit × DataW H → Nat
  | (.string bytes, d) => bytes.length + uptoBulk d + 1
  | (_, d) => uptoBulk d + 1
 end
def uptoSmall : (H : Type) → List (DataW H) → Bool := fun _ ds => decide (uptoBulkAll ds ≤ 1048576)
def OpenSpec.upto (s : _root_.Go.ChangeSpec) : _root_.Go.OpenSpec := { _root_.Go.OpenSpec.ofChange s with cond := some uptoSmall }

/-- 'turnbucklelaw01.VintPuts', WHERE WHAT IT READS IS OF BULK AT MOST 1048576: true; the input reads as it did. -/
def vintPutsUptoRow : OpenClaim := { program := "ytkalncahelnamaadoor", sum := "197619531287c90363af6b2c32a938f6ecd2ade9e1c5b5304ab48f0aa4ca9d79", func := "turnbuckle/turnbucklelaw01.VintPuts", spec := "vintPuts", named := ["turnbuckle/vint.widths"], apart := false, laid := [("turnbuckle/vint.widths", laid_turnbuckle_vint_widths)], narrowed := true }
def VintPutsUptoSaid : Prop := vintPutsUptoRow.holds Tryd.pinned (OpenSpec.upto vintPutsSpec)

/-- 'turnbucklelaw01.VintGets', WHERE WHAT IT READS IS OF BULK AT MOST 1048576: true; the input reads as it did. -/
def vintGetsUptoRow : OpenClaim := { program := "ytkalncahelnamaadoor", sum := "197619531287c90363af6b2c32a938f6ecd2ade9e1c5b5304ab48f0aa4ca9d79", func := "turnbuckle/turnbucklelaw01.VintGets", spec := "vintGets", named := ["turnbuckle/vint.widths"], apart := false, laid := [("turnbuckle/vint.widths", laid_turnbuckle_vint_widths)], narrowed := true }
def VintGetsUptoSaid : Prop := vintGetsUptoRow.holds Tryd.pinned (OpenSpec.upto vintGetsSpec)

/-- 'turnbucklelaw01.VintAll', WHERE WHAT IT READS IS OF BULK AT MOST 1048576: true; the input reads as it did. -/
def vintAllUptoRow : OpenClaim := { program := "ytkalncahelnamaadoor", sum := "197619531287c90363af6b2c32a938f6ecd2ade9e1c5b5304ab48f0aa4ca9d79", func := "turnbuckle/turnbucklelaw01.VintAll", spec := "vintAll", named := ["turnbuckle/vint.widths"], apart := false, laid := [("turnbuckle/vint.widths", laid_turnbuckle_vint_widths)], narrowed := true }
def VintAllUptoSaid : Prop := vintAllUptoRow.holds Tryd.pinned (OpenSpec.upto vintAllSpec)

/-- 'turnbucklelaw01.VintBack', WHERE WHAT IT READS IS OF BULK AT MOST 1048576: true; the input reads as it did. -/
def vintBackUptoRow : OpenClaim := { program := "ytkalncahelnamaadoor", sum := "197619531287c90363af6b2c32a938f6ecd2ade9e1c5b5304ab48f0aa4ca9d79", func := "turnbuckle/turnbucklelaw01.VintBack", spec := "vintBack", named := ["turnbuckle/vint.widths"], apart := false, laid := [("turnbuckle/vint.widths", laid_turnbuckle_vint_widths)], narrowed := true }
def VintBackUptoSaid : Prop := vintBackUptoRow.holds Tryd.pinned (OpenSpec.upto vintBackSpec)

/-- 'turnbucklelaw01.VintRow', WHERE WHAT IT READS IS OF BULK AT MOST 1048576: true; the input reads as it did. -/
def vintRowUptoRow : OpenClaim := { program := "ytkalncahelnamaadoor", sum := "197619531287c90363af6b2c32a938f6ecd2ade9e1c5b5304ab48f0aa4ca9d79", func := "turnbuckle/turnbucklelaw01.VintRow", spec := "vintRow", named := ["turnbuckle/vint.widths"], apart := false, laid := [("turnbuckle/vint.widths", laid_turnbuckle_vint_widths)], narrowed := true }
def VintRowUptoSaid : Prop := vintRowUptoRow.holds Tryd.pinned (OpenSpec.upto vintRowSpec)

/-- 'turnbucklelaw01.VintFew', WHERE WHAT IT READS IS OF BULK AT MOST 1048576: true; the input reads as it did. -/
def vintFewUptoRow : OpenClaim := { program := "ytkalncahelnamaadoor", sum := "197619531287c90363af6b2c32a938f6ecd2ade9e1c5b5304ab48f0aa4ca9d79", func := "turnbuckle/turnbucklelaw01.VintFew", spec := "vintFew", named := ["turnbuckle/vint.widths"], apart := false, laid := [("turnbuckle/vint.widths", laid_turnbuckle_vint_widths)], narrowed := true }
def VintFewUptoSaid : Prop := vintFewUptoRow.holds Tryd.pinned (OpenSpec.upto vintFewSpec)

/-- 'turnbucklelaw01.VintOwn', WHERE WHAT IT READS IS OF BULK AT MOST 1048576: true; the input reads as it did. -/
def vintOwnUptoRow : OpenClaim := { program := "ytkalncahelnamaadoor", sum := "197619531287c90363af6b2c32a938f6ecd2ade9e1c5b5304ab48f0aa4ca9d79", func := "turnbuckle/turnbucklelaw01.VintOwn", spec := "vintOwn", named := ["turnbuckle/vint.widths"], apart := false, laid := [("turnbuckle/vint.widths", laid_turnbuckle_vint_widths)], narrowed := true }
def VintOwnUptoSaid : Prop := vintOwnUptoRow.holds Tryd.pinned (OpenSpec.upto vintOwnSpec)

end Rows
end Go.Proofs.YtkalncahelnamaaDoor
