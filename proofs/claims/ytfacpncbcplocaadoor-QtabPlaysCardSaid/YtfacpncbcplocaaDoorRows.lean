/-
  NARROWER THAN 'FOR EVERY INPUT', by the rows' own cells (each row's printed sentence says how): QtabFixed: laid · QtabPlays: laid · QtabBounds: laid · QtabOrder: laid · QtabLast: laid · QtabNobody: laid.
  DERIVED. THE GIVEN ROWS OF THIS SEAT. 6 by the template 'for every input the law returns true; each argument reads behind the call as it read before'; 0 by the template 'total and deterministic' (their statements: YtfacpncbcplocaaDoorTotals.lean).
  GIVEN WITH THE SEED: the statements are not yours to turn. If you find one false, say at which input.
  Laid BY PROGRAM, IN A SANDBOX (cutbox-rows.mjs): the forced cells as the released guide's own fill.sh prints them over the translation 0626afff58dd372a… (all of the seat's roots in one cut). By AI agents, Wed Nov 11 2026. No macro, syntax, notation, axiom, sorry.
-/
import Derived.Test.YtfacpncbcplocaaDoorChecked
import GoSem.Claim
import GoSem.ClaimJoined
import GoSem.ClaimMapViews
import Derived.JoinedTies
import Derived.KernelRfl
namespace Go.Proofs.YtfacpncbcplocaaDoor
/- THE CELL 'sum', in the pinned program and in every row, IS THE sha256 OF THE DUMP (.gsa) THAT YtfacpncbcplocaaDoorProg.lean LOADS. Nothing in Lean hashes anything: it is a label: what it is worth is what the hold of that sum in a sandbox is worth. -/
noncomputable def Tryd.pinned : Pinned := { name := "ytfacpncbcplocaadoor", sum := "0626afff58dd372ad97ca5279105b81e97aff0eba0e0c80ae8828aa65eb6d4a7", checked := Tryd.checked }
namespace Rows
def none {H : Type} : Left H := { results := [], args := [] }

/- WHAT THE LISTED PACKAGE-LEVEL VARIABLES READ AS WHEN THE CALL BEGINS. Each datum BY PROGRAM (the guide's laid-datum.mjs) off the statement by which the dump's own 'gosem.cut.vars' lays the variable. In a bare row this is a premise. The card (YtfacpncbcplocaaDoorCards.lean) ties it to the program's text. -/
def laid_turnbuckle_qtab_fixed {H : Type} : DataW H := .agg [.agg [.lit (.string [58, 97, 117, 116, 104, 111, 114, 105, 116, 121]), .lit (.string [])], .agg [.lit (.string [58, 112, 97, 116, 104]), .lit (.string [47])], .agg [.lit (.string [58, 109, 101, 116, 104, 111, 100]), .lit (.string [71, 69, 84])], .agg [.lit (.string [58, 109, 101, 116, 104, 111, 100]), .lit (.string [72, 69, 65, 68])], .agg [.lit (.string [58, 109, 101, 116, 104, 111, 100]), .lit (.string [80, 79, 83, 84])], .agg [.lit (.string [58, 109, 101, 116, 104, 111, 100]), .lit (.string [80, 85, 84])], .agg [.lit (.string [58, 109, 101, 116, 104, 111, 100]), .lit (.string [68, 69, 76, 69, 84, 69])], .agg [.lit (.string [58, 115, 99, 104, 101, 109, 101]), .lit (.string [104, 116, 116, 112, 115])], .agg [.lit (.string [58, 115, 99, 104, 101, 109, 101]), .lit (.string [104, 116, 116, 112])], .agg [.lit (.string [58, 115, 116, 97, 116, 117, 115]), .lit (.string [50, 48, 48])], .agg [.lit (.string [58, 115, 116, 97, 116, 117, 115]), .lit (.string [51, 48, 52])], .agg [.lit (.string [58, 115, 116, 97, 116, 117, 115]), .lit (.string [52, 48, 52])], .agg [.lit (.string [58, 115, 116, 97, 116, 117, 115]), .lit (.string [50, 48, 54])], .agg [.lit (.string [58, 115, 116, 97, 116, 117, 115]), .lit (.string [53, 48, 52])], .agg [.lit (.string [97, 103, 101]), .lit (.string [48])], .agg [.lit (.string [99, 97, 99, 104, 101, 45, 99, 111, 110, 116, 114, 111, 108]), .lit (.string [110, 111, 45, 99, 97, 99, 104, 101])], .agg [.lit (.string [99, 97, 99, 104, 101, 45, 99, 111, 110, 116, 114, 111, 108]), .lit (.string [109, 97, 120, 45, 97, 103, 101, 61, 54, 48])], .agg [.lit (.string [99, 111, 110, 116, 101, 110, 116, 45, 108, 101, 110, 103, 116, 104]), .lit (.string [48])], .agg [.lit (.string [100, 97, 116, 101]), .lit (.string [])], .agg [.lit (.string [101, 116, 97, 103]), .lit (.string [])], .agg [.lit (.string [105, 102, 45, 110, 111, 110, 101, 45, 109, 97, 116, 99, 104]), .lit (.string [])], .agg [.lit (.string [108, 97, 115, 116, 45, 109, 111, 100, 105, 102, 105, 101, 100]), .lit (.string [])], .agg [.lit (.string [114, 97, 110, 103, 101]), .lit (.string [98, 121, 116, 101, 115, 61, 48, 45])], .agg [.lit (.string [118, 97, 114, 121]), .lit (.string [97, 99, 99, 101, 112, 116, 45, 101, 110, 99, 111, 100, 105, 110, 103])]]

/-- 'turnbucklelaw13.QtabFixed': WHATEVER THE INPUT: true; the input reads as it did. -/
def qtabFixedSpec : ChangeSpec := { name := "qtabFixed", fn := fun _ => fun
  | [d1, d2] => { results := [.lit (.bool true)], args := [d1, d2] }
  | _ => none }
def qtabFixedRow : OpenClaim := { program := "ytfacpncbcplocaadoor", sum := "0626afff58dd372ad97ca5279105b81e97aff0eba0e0c80ae8828aa65eb6d4a7", func := "turnbuckle/turnbucklelaw13.QtabFixed", spec := "qtabFixed", named := ["turnbuckle/qtab.fixed"], apart := false, laid := [("turnbuckle/qtab.fixed", laid_turnbuckle_qtab_fixed)] }
def QtabFixedSaid : Prop := qtabFixedRow.holds Tryd.pinned (OpenSpec.ofChange qtabFixedSpec)

/-- ITS FALSE NEIGHBOUR: 'it returns false'. Refute it at one input. -/
def qtabFixedWrong : ChangeSpec := { name := "qtabFixed", fn := fun _ => fun
  | [d1, d2] => { results := [.lit (.bool false)], args := [d1, d2] }
  | _ => none }
def QtabFixedWrongFalsely : Prop := qtabFixedRow.holds Tryd.pinned (OpenSpec.ofChange qtabFixedWrong)

/-- 'turnbucklelaw13.QtabPlays': WHATEVER THE INPUT: true; the input reads as it did. -/
def qtabPlaysSpec : ChangeSpec := { name := "qtabPlays", fn := fun _ => fun
  | [d1, d2] => { results := [.lit (.bool true)], args := [d1, d2] }
  | _ => none }
def qtabPlaysRow : OpenClaim := { program := "ytfacpncbcplocaadoor", sum := "0626afff58dd372ad97ca5279105b81e97aff0eba0e0c80ae8828aa65eb6d4a7", func := "turnbuckle/turnbucklelaw13.QtabPlays", spec := "qtabPlays", named := ["turnbuckle/qtab.fixed"], apart := false, laid := [("turnbuckle/qtab.fixed", laid_turnbuckle_qtab_fixed)] }
def QtabPlaysSaid : Prop := qtabPlaysRow.holds Tryd.pinned (OpenSpec.ofChange qtabPlaysSpec)

/-- ITS FALSE NEIGHBOUR: 'it returns false'. Refute it at one input. -/
def qtabPlaysWrong : ChangeSpec := { name := "qtabPlays", fn := fun _ => fun
  | [d1, d2] => { results := [.lit (.bool false)], args := [d1, d2] }
  | _ => none }
def QtabPlaysWrongFalsely : Prop := qtabPlaysRow.holds Tryd.pinned (OpenSpec.ofChange qtabPlaysWrong)

/-- 'turnbucklelaw13.QtabBounds': WHATEVER THE INPUT: true; the input reads as it did. -/
def qtabBoundsSpec : ChangeSpec := { name := "qtabBounds", fn := fun _ => fun
  | [d1, d2] => { results := [.lit (.bool true)], args := [d1, d2] }
  | _ => none }
def qtabBoundsRow : OpenClaim := { program := "ytfacpncbcplocaadoor", sum := "0626afff58dd372ad97ca5279105b81e97aff0eba0e0c80ae8828aa65eb6d4a7", func := "turnbuckle/turnbucklelaw13.QtabBounds", spec := "qtabBounds", named := ["turnbuckle/qtab.fixed"], apart := false, laid := [("turnbuckle/qtab.fixed", laid_turnbuckle_qtab_fixed)] }
def QtabBoundsSaid : Prop := qtabBoundsRow.holds Tryd.pinned (OpenSpec.ofChange qtabBoundsSpec)

/-- ITS FALSE NEIGHBOUR: 'it returns false'. Refute it at one input. -/
def qtabBoundsWrong : ChangeSpec := { name := "qtabBounds", fn := fun _ => fun
  | [d1, d2] => { results := [.lit (.bool false)], args := [d1, d2] }
  | _ => none }
def QtabBoundsWrongFalsely : Prop := qtabBoundsRow.holds Tryd.pinned (OpenSpec.ofChange qtabBoundsWrong)

/-- 'turnbucklelaw13.QtabOrder': WHATEVER THE INPUT: true; the input reads as it did. -/
def qtabOrderSpec : ChangeSpec := { name := "qtabOrder", fn := fun _ => fun
  | [d1, d2] => { results := [.lit (.bool true)], args := [d1, d2] }
  | _ => none }
def qtabOrderRow : OpenClaim := { program := "ytfacpncbcplocaadoor", sum := "0626afff58dd372ad97ca5279105b81e97aff0eba0e0c80ae8828aa65eb6d4a7", func := "turnbuckle/turnbucklelaw13.QtabOrder", spec := "qtabOrder", named := ["turnbuckle/qtab.fixed"], apart := false, laid := [("turnbuckle/qtab.fixed", laid_turnbuckle_qtab_fixed)] }
def QtabOrderSaid : Prop := qtabOrderRow.holds Tryd.pinned (OpenSpec.ofChange qtabOrderSpec)

/-- ITS FALSE NEIGHBOUR: 'it returns false'. Refute it at one input. -/
def qtabOrderWrong : ChangeSpec := { name := "qtabOrder", fn := fun _ => fun
  | [d1, d2] => { results := [.lit (.bool false)], args := [d1, d2] }
  | _ => none }
def QtabOrderWrongFalsely : Prop := qtabOrderRow.holds Tryd.pinned (OpenSpec.ofChange qtabOrderWrong)

/-- 'turnbucklelaw13.QtabLast': WHATEVER THE INPUT: true; the input reads as it did. -/
def qtabLastSpec : ChangeSpec := { name := "qtabLast", fn := fun _ => fun
  | [d1, d2] => { results := [.lit (.bool true)], args := [d1, d2] }
  | _ => none }
def qtabLastRow : OpenClaim := { program := "ytfacpncbcplocaadoor", sum := "0626afff58dd372ad97ca5279105b81e97aff0eba0e0c80ae8828aa65eb6d4a7", func := "turnbuckle/turnbucklelaw13.QtabLast", spec := "qtabLast", named := ["turnbuckle/qtab.fixed"], apart := false, laid := [("turnbuckle/qtab.fixed", laid_turnbuckle_qtab_fixed)] }
def QtabLastSaid : Prop := qtabLastRow.holds Tryd.pinned (OpenSpec.ofChange qtabLastSpec)

/-- ITS FALSE NEIGHBOUR: 'it returns false'. Refute it at one input. -/
def qtabLastWrong : ChangeSpec := { name := "qtabLast", fn := fun _ => fun
  | [d1, d2] => { results := [.lit (.bool false)], args := [d1, d2] }
  | _ => none }
def QtabLastWrongFalsely : Prop := qtabLastRow.holds Tryd.pinned (OpenSpec.ofChange qtabLastWrong)

/-- 'turnbucklelaw13.QtabNobody': WHATEVER THE INPUT: true; the input reads as it did. -/
def qtabNobodySpec : ChangeSpec := { name := "qtabNobody", fn := fun _ => fun
  | [d] => { results := [.lit (.bool true)], args := [d] }
  | _ => none }
def qtabNobodyRow : OpenClaim := { program := "ytfacpncbcplocaadoor", sum := "0626afff58dd372ad97ca5279105b81e97aff0eba0e0c80ae8828aa65eb6d4a7", func := "turnbuckle/turnbucklelaw13.QtabNobody", spec := "qtabNobody", named := ["turnbuckle/qtab.fixed"], apart := false, laid := [("turnbuckle/qtab.fixed", laid_turnbuckle_qtab_fixed)] }
def QtabNobodySaid : Prop := qtabNobodyRow.holds Tryd.pinned (OpenSpec.ofChange qtabNobodySpec)

/-- ITS FALSE NEIGHBOUR: 'it returns false'. Refute it at one input. -/
def qtabNobodyWrong : ChangeSpec := { name := "qtabNobody", fn := fun _ => fun
  | [d] => { results := [.lit (.bool false)], args := [d] }
  | _ => none }
def QtabNobodyWrongFalsely : Prop := qtabNobodyRow.holds Tryd.pinned (OpenSpec.ofChange qtabNobodyWrong)

/- THE SECOND FORM. 'bulk': how many values and letters a reading holds, each counted each time it is reached (what is shared counts as often as it is met; a slice's spare places count too). A statement '..UptoSaid' is the law's where the arguments, and the package variables that the reading takes, are together of bulk at most 1048576: NARROWER than '..Said'. Prove '..Said' where nothing that the law and all that it calls make is longer than what came in: it says more and counts as full. Else prove '..UptoSaid'. A law counts once. -/
mutual
def uptoBulk {H : Type} : DataW H → Nat
  | .lit (.string bytes) => bytes.length + 1
  | .lit _ => 1
  | .nil => 1
  | .ptr d => uptoBulk d + 1
  | .slice elems spare => uptoBulkAll elems + uptoBulkAll spare + 1
  | .agg parts => uptoBulkAll parts + 1
  | .iface _ d => uptoBulk d + 1
  | .map entries => uptoBulkEntries entries + 1
  | .held _ => 1
def uptoBulkAll {H : Type} : List (DataW H) → Nat
  | [] => 0
  | d :: r => uptoBulk d + uptoBulkAll r
def uptoBulkEntries {H : Type} : List (Lit × DataW H) → Nat
  | [] => 0
  | x :: r => uptoBulkEntry x + uptoBulkEntries r
def uptoBulkEntry {H : Type} : Lit × DataW H → Nat
  | (.string bytes, d) => bytes.length + uptoBulk d + 1
  | (_, d) => uptoBulk d + 1
 end
def uptoSmall : (H : Type) → List (DataW H) → Bool := fun _ ds => decide (uptoBulkAll ds ≤ 1048576)
def OpenSpec.upto (s : _root_.Go.ChangeSpec) : _root_.Go.OpenSpec := { _root_.Go.OpenSpec.ofChange s with cond := some uptoSmall }

/-- 'turnbucklelaw13.QtabFixed', WHERE WHAT IT READS IS OF BULK AT MOST 1048576: true; the input reads as it did. -/
def qtabFixedUptoRow : OpenClaim := { program := "ytfacpncbcplocaadoor", sum := "0626afff58dd372ad97ca5279105b81e97aff0eba0e0c80ae8828aa65eb6d4a7", func := "turnbuckle/turnbucklelaw13.QtabFixed", spec := "qtabFixed", named := ["turnbuckle/qtab.fixed"], apart := false, laid := [("turnbuckle/qtab.fixed", laid_turnbuckle_qtab_fixed)], narrowed := true }
def QtabFixedUptoSaid : Prop := qtabFixedUptoRow.holds Tryd.pinned (OpenSpec.upto qtabFixedSpec)

/-- 'turnbucklelaw13.QtabPlays', WHERE WHAT IT READS IS OF BULK AT MOST 1048576: true; the input reads as it did. -/
def qtabPlaysUptoRow : OpenClaim := { program := "ytfacpncbcplocaadoor", sum := "0626afff58dd372ad97ca5279105b81e97aff0eba0e0c80ae8828aa65eb6d4a7", func := "turnbuckle/turnbucklelaw13.QtabPlays", spec := "qtabPlays", named := ["turnbuckle/qtab.fixed"], apart := false, laid := [("turnbuckle/qtab.fixed", laid_turnbuckle_qtab_fixed)], narrowed := true }
def QtabPlaysUptoSaid : Prop := qtabPlaysUptoRow.holds Tryd.pinned (OpenSpec.upto qtabPlaysSpec)

/-- 'turnbucklelaw13.QtabBounds', WHERE WHAT IT READS IS OF BULK AT MOST 1048576: true; the input reads as it did. -/
def qtabBoundsUptoRow : OpenClaim := { program := "ytfacpncbcplocaadoor", sum := "0626afff58dd372ad97ca5279105b81e97aff0eba0e0c80ae8828aa65eb6d4a7", func := "turnbuckle/turnbucklelaw13.QtabBounds", spec := "qtabBounds", named := ["turnbuckle/qtab.fixed"], apart := false, laid := [("turnbuckle/qtab.fixed", laid_turnbuckle_qtab_fixed)], narrowed := true }
def QtabBoundsUptoSaid : Prop := qtabBoundsUptoRow.holds Tryd.pinned (OpenSpec.upto qtabBoundsSpec)

/-- 'turnbucklelaw13.QtabOrder', WHERE WHAT IT READS IS OF BULK AT MOST 1048576: true; the input reads as it did. -/
def qtabOrderUptoRow : OpenClaim := { program := "ytfacpncbcplocaadoor", sum := "0626afff58dd372ad97ca5279105b81e97aff0eba0e0c80ae8828aa65eb6d4a7", func := "turnbuckle/turnbucklelaw13.QtabOrder", spec := "qtabOrder", named := ["turnbuckle/qtab.fixed"], apart := false, laid := [("turnbuckle/qtab.fixed", laid_turnbuckle_qtab_fixed)], narrowed := true }
def QtabOrderUptoSaid : Prop := qtabOrderUptoRow.holds Tryd.pinned (OpenSpec.upto qtabOrderSpec)

/-- 'turnbucklelaw13.QtabLast', WHERE WHAT IT READS IS OF BULK AT MOST 1048576: true; the input reads as it did. -/
def qtabLastUptoRow : OpenClaim := { program := "ytfacpncbcplocaadoor", sum := "0626afff58dd372ad97ca5279105b81e97aff0eba0e0c80ae8828aa65eb6d4a7", func := "turnbuckle/turnbucklelaw13.QtabLast", spec := "qtabLast", named := ["turnbuckle/qtab.fixed"], apart := false, laid := [("turnbuckle/qtab.fixed", laid_turnbuckle_qtab_fixed)], narrowed := true }
def QtabLastUptoSaid : Prop := qtabLastUptoRow.holds Tryd.pinned (OpenSpec.upto qtabLastSpec)

/-- 'turnbucklelaw13.QtabNobody', WHERE WHAT IT READS IS OF BULK AT MOST 1048576: true; the input reads as it did. -/
def qtabNobodyUptoRow : OpenClaim := { program := "ytfacpncbcplocaadoor", sum := "0626afff58dd372ad97ca5279105b81e97aff0eba0e0c80ae8828aa65eb6d4a7", func := "turnbuckle/turnbucklelaw13.QtabNobody", spec := "qtabNobody", named := ["turnbuckle/qtab.fixed"], apart := false, laid := [("turnbuckle/qtab.fixed", laid_turnbuckle_qtab_fixed)], narrowed := true }
def QtabNobodyUptoSaid : Prop := qtabNobodyUptoRow.holds Tryd.pinned (OpenSpec.upto qtabNobodySpec)

end Rows
end Go.Proofs.YtfacpncbcplocaaDoor
