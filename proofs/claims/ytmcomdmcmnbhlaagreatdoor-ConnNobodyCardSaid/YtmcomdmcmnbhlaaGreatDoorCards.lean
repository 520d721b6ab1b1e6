/-
  DERIVED. GIVEN WITH THE SEED: THE CARDS: each row of YtmcomdmcmnbhlaaGreatDoorRows.lean that lists a variable, with what it lists TIED to the program's text (the seventh form; the later family's looks); each row that meets fmt, with fmt's text TOLD by the authors' own Lean function (tested against real Go, not proved from fmt's source: count such statements apart). THE CARD IS WHAT COUNTS. Prove the row's statement (the work); the ties are given (YtmcomdmcmnbhlaaGreatDoorTie.lean); close each card by the builder's one call (the guide's Derived/Test/ToyasCard.lean, 'card_holds'). Laid BY PROGRAM, IN A SANDBOX (cutbox-door.mjs). By AI agents, Wed Nov 11 2026. No macro, syntax, notation, axiom, sorry.
-/
import Derived.Test.YtmcomdmcmnbhlaaGreatDoorRows
import GoSem.ClaimSeven
namespace Go.Proofs.YtmcomdmcmnbhlaaGreatDoor
namespace Rows

/-- THE TIED CARD OF 'turnbucklelaw10.ConnPrefix'. -/
def connPrefixCard : Claim7 := { stood := { row := connPrefixRow, standIns := [], harness := (true, "ae80f3039f7de71037a29f7318ed73ff38bdc2ae364d9ba38e68d7f3e8fdbe53"), looks := true }, kinds := [], alts := [], laidByText := true, laidKinds := [.data], laidTests := true, laidLooks := .later }
def ConnPrefixCardSaid : Prop := Claim7.holds Tryz.pinned (.plain (OpenSpec.ofChange connPrefixSpec)) connPrefixCard

/-- THE TIED CARD OF 'turnbucklelaw10.ConnTurned'. -/
def connTurnedCard : Claim7 := { stood := { row := connTurnedRow, standIns := [], harness := (true, "ae80f3039f7de71037a29f7318ed73ff38bdc2ae364d9ba38e68d7f3e8fdbe53"), looks := true }, kinds := [], alts := [], laidByText := true, laidKinds := [.data], laidTests := true, laidLooks := .later }
def ConnTurnedCardSaid : Prop := Claim7.holds Tryz.pinned (.plain (OpenSpec.ofChange connTurnedSpec)) connTurnedCard

/-- THE TIED CARD OF 'turnbucklelaw10.ConnBounds'. -/
def connBoundsCard : Claim7 := { stood := { row := connBoundsRow, standIns := [], harness := (true, "ae80f3039f7de71037a29f7318ed73ff38bdc2ae364d9ba38e68d7f3e8fdbe53"), looks := true }, kinds := [], alts := [], laidByText := true, laidKinds := [.data], laidTests := true, laidLooks := .later }
def ConnBoundsCardSaid : Prop := Claim7.holds Tryz.pinned (.plain (OpenSpec.ofChange connBoundsSpec)) connBoundsCard

/-- THE TIED CARD OF 'turnbucklelaw10.ConnNobody'. -/
def connNobodyCard : Claim7 := { stood := { row := connNobodyRow, standIns := [], harness := (true, "ae80f3039f7de71037a29f7318ed73ff38bdc2ae364d9ba38e68d7f3e8fdbe53"), looks := true }, kinds := [], alts := [], laidByText := true, laidKinds := [.data], laidTests := true, laidLooks := .later }
def ConnNobodyCardSaid : Prop := Claim7.holds Tryz.pinned (.plain (OpenSpec.ofChange connNobodySpec)) connNobodyCard

/-- THE SECOND FORM's CARD OF 'turnbucklelaw10.ConnPrefix'. -/
def connPrefixUptoCard : Claim7 := { stood := { row := connPrefixUptoRow, standIns := [], harness := (true, "ae80f3039f7de71037a29f7318ed73ff38bdc2ae364d9ba38e68d7f3e8fdbe53"), looks := true }, kinds := [], alts := [], laidByText := true, laidKinds := [.data], laidTests := true, laidLooks := .later }
def ConnPrefixUptoCardSaid : Prop := Claim7.holds Tryz.pinned (.plain (OpenSpec.upto connPrefixSpec)) connPrefixUptoCard

/-- THE SECOND FORM's CARD OF 'turnbucklelaw10.ConnTurned'. -/
def connTurnedUptoCard : Claim7 := { stood := { row := connTurnedUptoRow, standIns := [], harness := (true, "ae80f3039f7de71037a29f7318ed73ff38bdc2ae364d9ba38e68d7f3e8fdbe53"), looks := true }, kinds := [], alts := [], laidByText := true, laidKinds := [.data], laidTests := true, laidLooks := .later }
def ConnTurnedUptoCardSaid : Prop := Claim7.holds Tryz.pinned (.plain (OpenSpec.upto connTurnedSpec)) connTurnedUptoCard

/-- THE SECOND FORM's CARD OF 'turnbucklelaw10.ConnBounds'. -/
def connBoundsUptoCard : Claim7 := { stood := { row := connBoundsUptoRow, standIns := [], harness := (true, "ae80f3039f7de71037a29f7318ed73ff38bdc2ae364d9ba38e68d7f3e8fdbe53"), looks := true }, kinds := [], alts := [], laidByText := true, laidKinds := [.data], laidTests := true, laidLooks := .later }
def ConnBoundsUptoCardSaid : Prop := Claim7.holds Tryz.pinned (.plain (OpenSpec.upto connBoundsSpec)) connBoundsUptoCard

/-- THE SECOND FORM's CARD OF 'turnbucklelaw10.ConnNobody'. -/
def connNobodyUptoCard : Claim7 := { stood := { row := connNobodyUptoRow, standIns := [], harness := (true, "ae80f3039f7de71037a29f7318ed73ff38bdc2ae364d9ba38e68d7f3e8fdbe53"), looks := true }, kinds := [], alts := [], laidByText := true, laidKinds := [.data], laidTests := true, laidLooks := .later }
def ConnNobodyUptoCardSaid : Prop := Claim7.holds Tryz.pinned (.plain (OpenSpec.upto connNobodySpec)) connNobodyUptoCard
end Rows
end Go.Proofs.YtmcomdmcmnbhlaaGreatDoor
