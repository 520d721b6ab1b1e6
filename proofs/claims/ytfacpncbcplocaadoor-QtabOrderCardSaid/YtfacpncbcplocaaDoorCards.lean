/-
  DERIVED. GIVEN WITH THE SEED: THE CARDS: each row of YtfacpncbcplocaaDoorRows.lean that lists a variable, with what it lists TIED to the program's text (the seventh form; the later family's looks); each row that meets fmt, with fmt's text TOLD by the authors' own Lean function (tested against real Go, not proved from fmt's source: count such statements apart). THE CARD IS WHAT COUNTS. Prove the row's statement (the work); the ties are given (YtfacpncbcplocaaDoorTie.lean); close each card by the builder's one call (the guide's Derived/Test/ToyasCard.lean, 'card_holds'). Laid BY PROGRAM, IN A SANDBOX (cutbox-door.mjs). By AI agents, Wed Nov 11 2026. No macro, syntax, notation, axiom, sorry.
-/
import Derived.Test.YtfacpncbcplocaaDoorRows
import GoSem.ClaimSeven
namespace Go.Proofs.YtfacpncbcplocaaDoor
namespace Rows

/-- THE TIED CARD OF 'turnbucklelaw13.QtabFixed'. -/
def qtabFixedCard : Claim7 := { stood := { row := qtabFixedRow, standIns := [], harness := (true, "6ea3afca6c28a02d57b3bcf3987b8ae1220e1aa172f4d3a73774d8629b9da99e"), looks := false }, kinds := [], alts := [], laidByText := true, laidKinds := [.data], laidTests := true, laidLooks := .later }
def QtabFixedCardSaid : Prop := Claim7.holds Tryd.pinned (.plain (OpenSpec.ofChange qtabFixedSpec)) qtabFixedCard

/-- THE TIED CARD OF 'turnbucklelaw13.QtabPlays'. -/
def qtabPlaysCard : Claim7 := { stood := { row := qtabPlaysRow, standIns := [], harness := (true, "6ea3afca6c28a02d57b3bcf3987b8ae1220e1aa172f4d3a73774d8629b9da99e"), looks := false }, kinds := [], alts := [], laidByText := true, laidKinds := [.data], laidTests := true, laidLooks := .later }
def QtabPlaysCardSaid : Prop := Claim7.holds Tryd.pinned (.plain (OpenSpec.ofChange qtabPlaysSpec)) qtabPlaysCard

/-- THE TIED CARD OF 'turnbucklelaw13.QtabBounds'. -/
def qtabBoundsCard : Claim7 := { stood := { row := qtabBoundsRow, standIns := [], harness := (true, "6ea3afca6c28a02d57b3bcf3987b8ae1220e1aa172f4d3a73774d8629b9da99e"), looks := false }, kinds := [], alts := [], laidByText := true, laidKinds := [.data], laidTests := true, laidLooks := .later }
def QtabBoundsCardSaid : Prop := Claim7.holds Tryd.pinned (.plain (OpenSpec.ofChange qtabBoundsSpec)) qtabBoundsCard

/-- THE TIED CARD OF 'turnbucklelaw13.QtabOrder'. -/
def qtabOrderCard : Claim7 := { stood := { row := qtabOrderRow, standIns := [], harness := (true, "6ea3afca6c28a02d57b3bcf3987b8ae1220e1aa172f4d3a73774d8629b9da99e"), looks := false }, kinds := [], alts := [], laidByText := true, laidKinds := [.data], laidTests := true, laidLooks := .later }
def QtabOrderCardSaid : Prop := Claim7.holds Tryd.pinned (.plain (OpenSpec.ofChange qtabOrderSpec)) qtabOrderCard

/-- THE TIED CARD OF 'turnbucklelaw13.QtabLast'. -/
def qtabLastCard : Claim7 := { stood := { row := qtabLastRow, standIns := [], harness := (true, "6ea3afca6c28a02d57b3bcf3987b8ae1220e1aa172f4d3a73774d8629b9da99e"), looks := false }, kinds := [], alts := [], laidByText := true, laidKinds := [.data], laidTests := true, laidLooks := .later }
def QtabLastCardSaid : Prop := Claim7.holds Tryd.pinned (.plain (OpenSpec.ofChange qtabLastSpec)) qtabLastCard

/-- THE TIED CARD OF 'turnbucklelaw13.QtabNobody'. -/
def qtabNobodyCard : Claim7 := { stood := { row := qtabNobodyRow, standIns := [], harness := (true, "6ea3afca6c28a02d57b3bcf3987b8ae1220e1aa172f4d3a73774d8629b9da99e"), looks := false }, kinds := [], alts := [], laidByText := true, laidKinds := [.data], laidTests := true, laidLooks := .later }
def QtabNobodyCardSaid : Prop := Claim7.holds Tryd.pinned (.plain (OpenSpec.ofChange qtabNobodySpec)) qtabNobodyCard

/-- THE SECOND FORM's CARD OF 'turnbucklelaw13.QtabFixed'. -/
def qtabFixedUptoCard : Claim7 := { stood := { row := qtabFixedUptoRow, standIns := [], harness := (true, "6ea3afca6c28a02d57b3bcf3987b8ae1220e1aa172f4d3a73774d8629b9da99e"), looks := false }, kinds := [], alts := [], laidByText := true, laidKinds := [.data], laidTests := true, laidLooks := .later }
def QtabFixedUptoCardSaid : Prop := Claim7.holds Tryd.pinned (.plain (OpenSpec.upto qtabFixedSpec)) qtabFixedUptoCard

/-- THE SECOND FORM's CARD OF 'turnbucklelaw13.QtabPlays'. -/
def qtabPlaysUptoCard : Claim7 := { stood := { row := qtabPlaysUptoRow, standIns := [], harness := (true, "6ea3afca6c28a02d57b3bcf3987b8ae1220e1aa172f4d3a73774d8629b9da99e"), looks := false }, kinds := [], alts := [], laidByText := true, laidKinds := [.data], laidTests := true, laidLooks := .later }
def QtabPlaysUptoCardSaid : Prop := Claim7.holds Tryd.pinned (.plain (OpenSpec.upto qtabPlaysSpec)) qtabPlaysUptoCard

/-- THE SECOND FORM's CARD OF 'turnbucklelaw13.QtabBounds'. -/
def qtabBoundsUptoCard : Claim7 := { stood := { row := qtabBoundsUptoRow, standIns := [], harness := (true, "6ea3afca6c28a02d57b3bcf3987b8ae1220e1aa172f4d3a73774d8629b9da99e"), looks := false }, kinds := [], alts := [], laidByText := true, laidKinds := [.data], laidTests := true, laidLooks := .later }
def QtabBoundsUptoCardSaid : Prop := Claim7.holds Tryd.pinned (.plain (OpenSpec.upto qtabBoundsSpec)) qtabBoundsUptoCard

/-- THE SECOND FORM's CARD OF 'turnbucklelaw13.QtabOrder'. -/
def qtabOrderUptoCard : Claim7 := { stood := { row := qtabOrderUptoRow, standIns := [], harness := (true, "6ea3afca6c28a02d57b3bcf3987b8ae1220e1aa172f4d3a73774d8629b9da99e"), looks := false }, kinds := [], alts := [], laidByText := true, laidKinds := [.data], laidTests := true, laidLooks := .later }
def QtabOrderUptoCardSaid : Prop := Claim7.holds Tryd.pinned (.plain (OpenSpec.upto qtabOrderSpec)) qtabOrderUptoCard

/-- THE SECOND FORM's CARD OF 'turnbucklelaw13.QtabLast'. -/
def qtabLastUptoCard : Claim7 := { stood := { row := qtabLastUptoRow, standIns := [], harness := (true, "6ea3afca6c28a02d57b3bcf3987b8ae1220e1aa172f4d3a73774d8629b9da99e"), looks := false }, kinds := [], alts := [], laidByText := true, laidKinds := [.data], laidTests := true, laidLooks := .later }
def QtabLastUptoCardSaid : Prop := Claim7.holds Tryd.pinned (.plain (OpenSpec.upto qtabLastSpec)) qtabLastUptoCard

/-- THE SECOND FORM's CARD OF 'turnbucklelaw13.QtabNobody'. -/
def qtabNobodyUptoCard : Claim7 := { stood := { row := qtabNobodyUptoRow, standIns := [], harness := (true, "6ea3afca6c28a02d57b3bcf3987b8ae1220e1aa172f4d3a73774d8629b9da99e"), looks := false }, kinds := [], alts := [], laidByText := true, laidKinds := [.data], laidTests := true, laidLooks := .later }
def QtabNobodyUptoCardSaid : Prop := Claim7.holds Tryd.pinned (.plain (OpenSpec.upto qtabNobodySpec)) qtabNobodyUptoCard
end Rows
end Go.Proofs.YtfacpncbcplocaaDoor
