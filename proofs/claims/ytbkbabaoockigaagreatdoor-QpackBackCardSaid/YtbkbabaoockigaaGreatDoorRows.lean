/-
  NARROWER THAN 'FOR EVERY INPUT', by the rows' own cells (each row's printed sentence says how): QpackBack: laid · QpackBoth: laid · QpackWaits: laid · QpackWrong: laid · QpackPlain: laid · QpackNobody: laid.
  DERIVED. THE GIVEN ROWS OF THIS SEAT. 6 by the template 'for every input the law returns true; each argument reads behind the call as it read before'; 0 by the template 'total and deterministic' (their statements: YtbkbabaoockigaaGreatDoorTotals.lean).
  GIVEN WITH THE SEED: the statements are not yours to turn. If you find one false, say at which input.
  Laid BY PROGRAM, IN A SANDBOX (cutbox-rows.mjs): the forced cells as the released guide's own fill.sh prints them over the translation 9efbb4565625d63c… (all of the seat's roots in one cut). By AI agents, Wed Nov 11 2026. No macro, syntax, notation, axiom, sorry.
-/
import Derived.Test.YtbkbabaoockigaaGreatDoorChecked
import GoSem.Claim
import GoSem.ClaimJoined
import GoSem.ClaimMapViews
import Derived.JoinedTies
import Derived.KernelRfl
namespace Go.Proofs.YtbkbabaoockigaaGreatDoor
/- THE CELL 'sum', in the pinned program and in every row, IS THE sha256 OF THE DUMP (.gsa) THAT YtbkbabaoockigaaGreatDoorProg.lean LOADS. Nothing in Lean hashes anything: it is a label: what it is worth is what the hold of that sum in a sandbox is worth. -/
noncomputable def Tryz.pinned : Pinned := { name := "ytbkbabaoockigaagreatdoor", sum := "9efbb4565625d63cb7ae76bda0600caab867e120cee6d921840aed22025b9fd6", checked := Tryz.checked }
namespace Rows
def none {H : Type} : Left H := { results := [], args := [] }

/- WHAT THE LISTED PACKAGE-LEVEL VARIABLES READ AS WHEN THE CALL BEGINS. Each datum BY PROGRAM (the guide's laid-datum.mjs) off the statement by which the dump's own 'gosem.cut.vars' lays the variable. In a bare row this is a premise. The card (YtbkbabaoockigaaGreatDoorCards.lean) ties it to the program's text. -/
def laid_errors_errorType {H : Type} : DataW H := .iface "internal/reflectlite.rtype" (.agg [.ptr (.lit (.string [101, 114, 114, 111, 114]))])
def laid_turnbuckle_qtab_fixed {H : Type} : DataW H := .agg [.agg [.lit (.string [58, 97, 117, 116, 104, 111, 114, 105, 116, 121]), .lit (.string [])], .agg [.lit (.string [58, 112, 97, 116, 104]), .lit (.string [47])], .agg [.lit (.string [58, 109, 101, 116, 104, 111, 100]), .lit (.string [71, 69, 84])], .agg [.lit (.string [58, 109, 101, 116, 104, 111, 100]), .lit (.string [72, 69, 65, 68])], .agg [.lit (.string [58, 109, 101, 116, 104, 111, 100]), .lit (.string [80, 79, 83, 84])], .agg [.lit (.string [58, 109, 101, 116, 104, 111, 100]), .lit (.string [80, 85, 84])], .agg [.lit (.string [58, 109, 101, 116, 104, 111, 100]), .lit (.string [68, 69, 76, 69, 84, 69])], .agg [.lit (.string [58, 115, 99, 104, 101, 109, 101]), .lit (.string [104, 116, 116, 112, 115])], .agg [.lit (.string [58, 115, 99, 104, 101, 109, 101]), .lit (.string [104, 116, 116, 112])], .agg [.lit (.string [58, 115, 116, 97, 116, 117, 115]), .lit (.string [50, 48, 48])], .agg [.lit (.string [58, 115, 116, 97, 116, 117, 115]), .lit (.string [51, 48, 52])], .agg [.lit (.string [58, 115, 116, 97, 116, 117, 115]), .lit (.string [52, 48, 52])], .agg [.lit (.string [58, 115, 116, 97, 116, 117, 115]), .lit (.string [50, 48, 54])], .agg [.lit (.string [58, 115, 116, 97, 116, 117, 115]), .lit (.string [53, 48, 52])], .agg [.lit (.string [97, 103, 101]), .lit (.string [48])], .agg [.lit (.string [99, 97, 99, 104, 101, 45, 99, 111, 110, 116, 114, 111, 108]), .lit (.string [110, 111, 45, 99, 97, 99, 104, 101])], .agg [.lit (.string [99, 97, 99, 104, 101, 45, 99, 111, 110, 116, 114, 111, 108]), .lit (.string [109, 97, 120, 45, 97, 103, 101, 61, 54, 48])], .agg [.lit (.string [99, 111, 110, 116, 101, 110, 116, 45, 108, 101, 110, 103, 116, 104]), .lit (.string [48])], .agg [.lit (.string [100, 97, 116, 101]), .lit (.string [])], .agg [.lit (.string [101, 116, 97, 103]), .lit (.string [])], .agg [.lit (.string [105, 102, 45, 110, 111, 110, 101, 45, 109, 97, 116, 99, 104]), .lit (.string [])], .agg [.lit (.string [108, 97, 115, 116, 45, 109, 111, 100, 105, 102, 105, 101, 100]), .lit (.string [])], .agg [.lit (.string [114, 97, 110, 103, 101]), .lit (.string [98, 121, 116, 101, 115, 61, 48, 45])], .agg [.lit (.string [118, 97, 114, 121]), .lit (.string [97, 99, 99, 101, 112, 116, 45, 101, 110, 99, 111, 100, 105, 110, 103])]]

/-- 'turnbucklelaw14.QpackBack': WHATEVER THE INPUT: true; the input reads as it did. -/
def qpackBackSpec : ChangeSpec := { name := "qpackBack", fn := fun _ => fun
  | [d1, d2] => { results := [.lit (.bool true)], args := [d1, d2] }
  | _ => none }
def qpackBackRow : OpenClaim := { program := "ytbkbabaoockigaagreatdoor", sum := "9efbb4565625d63cb7ae76bda0600caab867e120cee6d921840aed22025b9fd6", func := "turnbuckle/turnbucklelaw14.QpackBack", spec := "qpackBack", inPlace := ["internal/reflectlite.ValueOf", "(internal/reflectlite.Value).Type", "(internal/reflectlite.Value).IsNil", "internal/reflectlite.TypeOf", "(internal/reflectlite.Value).Elem", "(internal/reflectlite.Value).Set"], unfollowed := true, recurses := true, named := ["errors.errorType", "turnbuckle/qtab.fixed"], plainKeys := false, apart := false, laid := [("errors.errorType", laid_errors_errorType), ("turnbuckle/qtab.fixed", laid_turnbuckle_qtab_fixed)] }
def QpackBackSaid : Prop := qpackBackRow.holds Tryz.pinned (OpenSpec.ofChange qpackBackSpec)

/-- ITS FALSE NEIGHBOUR: 'it returns false'. Refute it at one input. -/
def qpackBackWrong : ChangeSpec := { name := "qpackBack", fn := fun _ => fun
  | [d1, d2] => { results := [.lit (.bool false)], args := [d1, d2] }
  | _ => none }
def QpackBackWrongFalsely : Prop := qpackBackRow.holds Tryz.pinned (OpenSpec.ofChange qpackBackWrong)

/-- 'turnbucklelaw14.QpackBoth': WHATEVER THE INPUT: true; the input reads as it did. -/
def qpackBothSpec : ChangeSpec := { name := "qpackBoth", fn := fun _ => fun
  | [d1, d2] => { results := [.lit (.bool true)], args := [d1, d2] }
  | _ => none }
def qpackBothRow : OpenClaim := { program := "ytbkbabaoockigaagreatdoor", sum := "9efbb4565625d63cb7ae76bda0600caab867e120cee6d921840aed22025b9fd6", func := "turnbuckle/turnbucklelaw14.QpackBoth", spec := "qpackBoth", inPlace := ["internal/reflectlite.ValueOf", "(internal/reflectlite.Value).Type", "(internal/reflectlite.Value).IsNil", "internal/reflectlite.TypeOf", "(internal/reflectlite.Value).Elem", "(internal/reflectlite.Value).Set"], unfollowed := true, recurses := true, named := ["errors.errorType", "turnbuckle/qtab.fixed"], plainKeys := false, apart := false, laid := [("errors.errorType", laid_errors_errorType), ("turnbuckle/qtab.fixed", laid_turnbuckle_qtab_fixed)] }
def QpackBothSaid : Prop := qpackBothRow.holds Tryz.pinned (OpenSpec.ofChange qpackBothSpec)

/-- ITS FALSE NEIGHBOUR: 'it returns false'. Refute it at one input. -/
def qpackBothWrong : ChangeSpec := { name := "qpackBoth", fn := fun _ => fun
  | [d1, d2] => { results := [.lit (.bool false)], args := [d1, d2] }
  | _ => none }
def QpackBothWrongFalsely : Prop := qpackBothRow.holds Tryz.pinned (OpenSpec.ofChange qpackBothWrong)

/-- 'turnbucklelaw14.QpackWaits': WHATEVER THE INPUT: true; the input reads as it did. -/
def qpackWaitsSpec : ChangeSpec := { name := "qpackWaits", fn := fun _ => fun
  | [d] => { results := [.lit (.bool true)], args := [d] }
  | _ => none }
def qpackWaitsRow : OpenClaim := { program := "ytbkbabaoockigaagreatdoor", sum := "9efbb4565625d63cb7ae76bda0600caab867e120cee6d921840aed22025b9fd6", func := "turnbuckle/turnbucklelaw14.QpackWaits", spec := "qpackWaits", inPlace := ["internal/reflectlite.ValueOf", "(internal/reflectlite.Value).Type", "(internal/reflectlite.Value).IsNil", "internal/reflectlite.TypeOf", "(internal/reflectlite.Value).Elem", "(internal/reflectlite.Value).Set"], unfollowed := true, recurses := true, named := ["errors.errorType", "turnbuckle/qtab.fixed"], plainKeys := false, apart := false, laid := [("errors.errorType", laid_errors_errorType), ("turnbuckle/qtab.fixed", laid_turnbuckle_qtab_fixed)] }
def QpackWaitsSaid : Prop := qpackWaitsRow.holds Tryz.pinned (OpenSpec.ofChange qpackWaitsSpec)

/-- ITS FALSE NEIGHBOUR: 'it returns false'. Refute it at one input. -/
def qpackWaitsWrong : ChangeSpec := { name := "qpackWaits", fn := fun _ => fun
  | [d] => { results := [.lit (.bool false)], args := [d] }
  | _ => none }
def QpackWaitsWrongFalsely : Prop := qpackWaitsRow.holds Tryz.pinned (OpenSpec.ofChange qpackWaitsWrong)

/-- 'turnbucklelaw14.QpackWrong': WHATEVER THE INPUT: true; the input reads as it did. -/
def qpackWrongSpec : ChangeSpec := { name := "qpackWrong", fn := fun _ => fun
  | [d1, d2, d3] => { results := [.lit (.bool true)], args := [d1, d2, d3] }
  | _ => none }
def qpackWrongRow : OpenClaim := { program := "ytbkbabaoockigaagreatdoor", sum := "9efbb4565625d63cb7ae76bda0600caab867e120cee6d921840aed22025b9fd6", func := "turnbuckle/turnbucklelaw14.QpackWrong", spec := "qpackWrong", inPlace := ["internal/reflectlite.ValueOf", "(internal/reflectlite.Value).Type", "(internal/reflectlite.Value).IsNil", "internal/reflectlite.TypeOf", "(internal/reflectlite.Value).Elem", "(internal/reflectlite.Value).Set"], unfollowed := true, recurses := true, named := ["errors.errorType", "turnbuckle/qtab.fixed"], plainKeys := false, apart := false, laid := [("errors.errorType", laid_errors_errorType), ("turnbuckle/qtab.fixed", laid_turnbuckle_qtab_fixed)] }
def QpackWrongSaid : Prop := qpackWrongRow.holds Tryz.pinned (OpenSpec.ofChange qpackWrongSpec)

/-- ITS FALSE NEIGHBOUR: 'it returns false'. Refute it at one input. -/
def qpackWrongWrong : ChangeSpec := { name := "qpackWrong", fn := fun _ => fun
  | [d1, d2, d3] => { results := [.lit (.bool false)], args := [d1, d2, d3] }
  | _ => none }
def QpackWrongWrongFalsely : Prop := qpackWrongRow.holds Tryz.pinned (OpenSpec.ofChange qpackWrongWrong)

/-- 'turnbucklelaw14.QpackPlain': WHATEVER THE INPUT: true; the input reads as it did. -/
def qpackPlainSpec : ChangeSpec := { name := "qpackPlain", fn := fun _ => fun
  | [d1, d2] => { results := [.lit (.bool true)], args := [d1, d2] }
  | _ => none }
def qpackPlainRow : OpenClaim := { program := "ytbkbabaoockigaagreatdoor", sum := "9efbb4565625d63cb7ae76bda0600caab867e120cee6d921840aed22025b9fd6", func := "turnbuckle/turnbucklelaw14.QpackPlain", spec := "qpackPlain", inPlace := ["internal/reflectlite.ValueOf", "(internal/reflectlite.Value).Type", "(internal/reflectlite.Value).IsNil", "internal/reflectlite.TypeOf", "(internal/reflectlite.Value).Elem", "(internal/reflectlite.Value).Set"], unfollowed := true, recurses := true, named := ["errors.errorType", "turnbuckle/qtab.fixed"], plainKeys := false, apart := false, laid := [("errors.errorType", laid_errors_errorType), ("turnbuckle/qtab.fixed", laid_turnbuckle_qtab_fixed)] }
def QpackPlainSaid : Prop := qpackPlainRow.holds Tryz.pinned (OpenSpec.ofChange qpackPlainSpec)

/-- ITS FALSE NEIGHBOUR: 'it returns false'. Refute it at one input. -/
def qpackPlainWrong : ChangeSpec := { name := "qpackPlain", fn := fun _ => fun
  | [d1, d2] => { results := [.lit (.bool false)], args := [d1, d2] }
  | _ => none }
def QpackPlainWrongFalsely : Prop := qpackPlainRow.holds Tryz.pinned (OpenSpec.ofChange qpackPlainWrong)

/-- 'turnbucklelaw14.QpackNobody': WHATEVER THE INPUT: true; the input reads as it did. -/
def qpackNobodySpec : ChangeSpec := { name := "qpackNobody", fn := fun _ => fun
  | [d1, d2] => { results := [.lit (.bool true)], args := [d1, d2] }
  | _ => none }
def qpackNobodyRow : OpenClaim := { program := "ytbkbabaoockigaagreatdoor", sum := "9efbb4565625d63cb7ae76bda0600caab867e120cee6d921840aed22025b9fd6", func := "turnbuckle/turnbucklelaw14.QpackNobody", spec := "qpackNobody", inPlace := ["internal/reflectlite.ValueOf", "(internal/reflectlite.Value).Type", "(internal/reflectlite.Value).IsNil", "internal/reflectlite.TypeOf", "(internal/reflectlite.Value).Elem", "(internal/reflectlite.Value).Set"], unfollowed := true, recurses := true, named := ["errors.errorType", "turnbuckle/qtab.fixed"], plainKeys := false, apart := false, laid := [("errors.errorType", laid_errors_errorType), ("turnbuckle/qtab.fixed", laid_turnbuckle_qtab_fixed)] }
def QpackNobodySaid : Prop := qpackNobodyRow.holds Tryz.pinned (OpenSpec.ofChange qpackNobodySpec)

/-- ITS FALSE NEIGHBOUR: 'it returns false'. Refute it at one input. -/
def qpackNobodyWrong : ChangeSpec := { name := "qpackNobody", fn := fun _ => fun
  | [d1, d2] => { results := [.lit (.bool false)], args := [d1, d2] }
  | _ => none }
def QpackNobodyWrongFalsely : Prop := qpackNobodyRow.holds Tryz.pinned (OpenSpec.ofChange qpackNobodyWrong)

/- THE SECOND FORM. 'bulk': how many values and letters a reading holds, each counted each time it is reached (what is shared counts as often as it is met; a slice's spare places count too). A statement '..UptoSaid' is the law's where the arguments, and the package variables that the reading takes, are together of bulk at most 1048576: NARROWER than '..Said'. Prove '..Said' where nothing that the law and all that it calls make is longer than what came in: it says more and counts as full. Else prove '..UptoSaid'. A law counts once. -/
mutual
def uptoBulk {H : Type} : DataW H → Nat
  | .lit (.string bytes) => bytes.length + 1
  | .lit _ => 1
  | .nil => 1
  | .ptr d => uptoBulk d + 1
  | .slice elems spare => uptoBulkAll elems + uptoBulkAll spare + 1
  | .agg parts => uptoBulkAll parts + 1
  | .iface _ d => uptoBulk d + 1
  | .map entries => uptoBulkEntries entries + 1
  | .held _ => 1
def uptoBulkAll {H : Type} : List (DataW H) → Nat
  | [] => 0
  | d :: r => uptoBulk d + uptoBulkAll r
def uptoBulkEntries {H : Type} : List (Lit × DataW H) → Nat
  | [] => 0
  | x :: r => uptoBulkEntry x + uptoBulkEntries r
def uptoBulkEntry {H : Type} : Lit × DataW H → Nat
  | (.string bytes, d) => bytes.length + uptoBulk d + 1
  | (_, d) => uptoBulk d + 1
 end
def uptoSmall : (H : Type) → List (DataW H) → Bool := fun _ ds => decide (uptoBulkAll ds ≤ 1048576)
def OpenSpec.upto (s : _root_.Go.ChangeSpec) : _root_.Go.OpenSpec := { _root_.Go.OpenSpec.ofChange s with cond := some uptoSmall }

/-- 'turnbucklelaw14.QpackBack', WHERE WHAT IT READS IS OF BULK AT MOST 1048576: true; the input reads as it did. -/
def qpackBackUptoRow : OpenClaim := { program := "ytbkbabaoockigaagreatdoor", sum := "9efbb4565625d63cb7ae76bda0600caab867e120cee6d921840aed22025b9fd6", func := "turnbuckle/turnbucklelaw14.QpackBack", spec := "qpackBack", inPlace := ["internal/reflectlite.ValueOf", "(internal/reflectlite.Value).Type", "(internal/reflectlite.Value).IsNil", "internal/reflectlite.TypeOf", "(internal/reflectlite.Value).Elem", "(internal/reflectlite.Value).Set"], unfollowed := true, recurses := true, named := ["errors.errorType", "turnbuckle/qtab.fixed"], plainKeys := false, apart := false, laid := [("errors.errorType", laid_errors_errorType), ("turnbuckle/qtab.fixed", laid_turnbuckle_qtab_fixed)], narrowed := true }
def QpackBackUptoSaid : Prop := qpackBackUptoRow.holds Tryz.pinned (OpenSpec.upto qpackBackSpec)

/-- 'turnbucklelaw14.QpackBoth', WHERE WHAT IT READS IS OF BULK AT MOST 1048576: true; the input reads as it did. -/
def qpackBothUptoRow : OpenClaim := { program := "ytbkbabaoockigaagreatdoor", sum := "9efbb4565625d63cb7ae76bda0600caab867e120cee6d921840aed22025b9fd6", func := "turnbuckle/turnbucklelaw14.QpackBoth", spec := "qpackBoth", inPlace := ["internal/reflectlite.ValueOf", "(internal/reflectlite.Value).Type", "(internal/reflectlite.Value).IsNil", "internal/reflectlite.TypeOf", "(internal/reflectlite.Value).Elem", "(internal/reflectlite.Value).Set"], unfollowed := true, recurses := true, named := ["errors.errorType", "turnbuckle/qtab.fixed"], plainKeys := false, apart := false, laid := [("errors.errorType", laid_errors_errorType), ("turnbuckle/qtab.fixed", laid_turnbuckle_qtab_fixed)], narrowed := true }
def QpackBothUptoSaid : Prop := qpackBothUptoRow.holds Tryz.pinned (OpenSpec.upto qpackBothSpec)

/-- 'turnbucklelaw14.QpackWaits', WHERE WHAT IT READS IS OF BULK AT MOST 1048576: true; the input reads as it did. -/
def qpackWaitsUptoRow : OpenClaim := { program := "ytbkbabaoockigaagreatdoor", sum := "9efbb4565625d63cb7ae76bda0600caab867e120cee6d921840aed22025b9fd6", func := "turnbuckle/turnbucklelaw14.QpackWaits", spec := "qpackWaits", inPlace := ["internal/reflectlite.ValueOf", "(internal/reflectlite.Value).Type", "(internal/reflectlite.Value).IsNil", "internal/reflectlite.TypeOf", "(internal/reflectlite.Value).Elem", "(internal/reflectlite.Value).Set"], unfollowed := true, recurses := true, named := ["errors.errorType", "turnbuckle/qtab.fixed"], plainKeys := false, apart := false, laid := [("errors.errorType", laid_errors_errorType), ("turnbuckle/qtab.fixed", laid_turnbuckle_qtab_fixed)], narrowed := true }
def QpackWaitsUptoSaid : Prop := qpackWaitsUptoRow.holds Tryz.pinned (OpenSpec.upto qpackWaitsSpec)

/-- 'turnbucklelaw14.QpackWrong', WHERE WHAT IT READS IS OF BULK AT MOST 1048576: true; the input reads as it did. -/
def qpackWrongUptoRow : OpenClaim := { program := "ytbkbabaoockigaagreatdoor", sum := "9efbb4565625d63cb7ae76bda0600caab867e120cee6d921840aed22025b9fd6", func := "turnbuckle/turnbucklelaw14.QpackWrong", spec := "qpackWrong", inPlace := ["internal/reflectlite.ValueOf", "(internal/reflectlite.Value).Type", "(internal/reflectlite.Value).IsNil", "internal/reflectlite.TypeOf", "(internal/reflectlite.Value).Elem", "(internal/reflectlite.Value).Set"], unfollowed := true, recurses := true, named := ["errors.errorType", "turnbuckle/qtab.fixed"], plainKeys := false, apart := false, laid := [("errors.errorType", laid_errors_errorType), ("turnbuckle/qtab.fixed", laid_turnbuckle_qtab_fixed)], narrowed := true }
def QpackWrongUptoSaid : Prop := qpackWrongUptoRow.holds Tryz.pinned (OpenSpec.upto qpackWrongSpec)

/-- 'turnbucklelaw14.QpackPlain', WHERE WHAT IT READS IS OF BULK AT MOST 1048576: true; the input reads as it did. -/
def qpackPlainUptoRow : OpenClaim := { program := "ytbkbabaoockigaagreatdoor", sum := "9efbb4565625d63cb7ae76bda0600caab867e120cee6d921840aed22025b9fd6", func := "turnbuckle/turnbucklelaw14.QpackPlain", spec := "qpackPlain", inPlace := ["internal/reflectlite.ValueOf", "(internal/reflectlite.Value).Type", "(internal/reflectlite.Value).IsNil", "internal/reflectlite.TypeOf", "(internal/reflectlite.Value).Elem", "(internal/reflectlite.Value).Set"], unfollowed := true, recurses := true, named := ["errors.errorType", "turnbuckle/qtab.fixed"], plainKeys := false, apart := false, laid := [("errors.errorType", laid_errors_errorType), ("turnbuckle/qtab.fixed", laid_turnbuckle_qtab_fixed)], narrowed := true }
def QpackPlainUptoSaid : Prop := qpackPlainUptoRow.holds Tryz.pinned (OpenSpec.upto qpackPlainSpec)

/-- 'turnbucklelaw14.QpackNobody', WHERE WHAT IT READS IS OF BULK AT MOST 1048576: true; the input reads as it did. -/
def qpackNobodyUptoRow : OpenClaim := { program := "ytbkbabaoockigaagreatdoor", sum := "9efbb4565625d63cb7ae76bda0600caab867e120cee6d921840aed22025b9fd6", func := "turnbuckle/turnbucklelaw14.QpackNobody", spec := "qpackNobody", inPlace := ["internal/reflectlite.ValueOf", "(internal/reflectlite.Value).Type", "(internal/reflectlite.Value).IsNil", "internal/reflectlite.TypeOf", "(internal/reflectlite.Value).Elem", "(internal/reflectlite.Value).Set"], unfollowed := true, recurses := true, named := ["errors.errorType", "turnbuckle/qtab.fixed"], plainKeys := false, apart := false, laid := [("errors.errorType", laid_errors_errorType), ("turnbuckle/qtab.fixed", laid_turnbuckle_qtab_fixed)], narrowed := true }
def QpackNobodyUptoSaid : Prop := qpackNobodyUptoRow.holds Tryz.pinned (OpenSpec.upto qpackNobodySpec)

end Rows
end Go.Proofs.YtbkbabaoockigaaGreatDoor
