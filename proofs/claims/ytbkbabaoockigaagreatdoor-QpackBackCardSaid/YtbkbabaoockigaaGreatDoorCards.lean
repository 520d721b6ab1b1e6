/-
  DERIVED. GIVEN WITH THE SEED: THE CARDS: each row of YtbkbabaoockigaaGreatDoorRows.lean that lists a variable, with what it lists TIED to the program's text (the seventh form; the later family's looks); each row that meets fmt, with fmt's text TOLD by the authors' own Lean function (tested against real Go, not proved from fmt's source: count such statements apart). THE CARD IS WHAT COUNTS. Prove the row's statement (the work); the ties are given (YtbkbabaoockigaaGreatDoorTie.lean); close each card by the builder's one call (the guide's Derived/Test/ToyasCard.lean, 'card_holds'). Laid BY PROGRAM, IN A SANDBOX (cutbox-door.mjs). By AI agents, Wed Nov 11 2026. No macro, syntax, notation, axiom, sorry.
-/
import Derived.Test.YtbkbabaoockigaaGreatDoorRows
import GoSem.ClaimSeven
namespace Go.Proofs.YtbkbabaoockigaaGreatDoor
namespace Rows

/-- THE TIED CARD OF 'turnbucklelaw14.QpackBack'. -/
def qpackBackCard : Claim7 := { stood := { row := qpackBackRow, standIns := [], harness := (true, "091c0bb56292abd3a1fef71e37f3adb8ac3f858e6b7186ec55e0690f8a46a134"), looks := true }, kinds := [], alts := [], laidByText := true, laidKinds := [.handle, .data], laidTests := true, laidLooks := .later }
def QpackBackCardSaid : Prop := Claim7.holds Tryz.pinned (.plain (OpenSpec.ofChange qpackBackSpec)) qpackBackCard

/-- THE TIED CARD OF 'turnbucklelaw14.QpackBoth'. -/
def qpackBothCard : Claim7 := { stood := { row := qpackBothRow, standIns := [], harness := (true, "091c0bb56292abd3a1fef71e37f3adb8ac3f858e6b7186ec55e0690f8a46a134"), looks := true }, kinds := [], alts := [], laidByText := true, laidKinds := [.handle, .data], laidTests := true, laidLooks := .later }
def QpackBothCardSaid : Prop := Claim7.holds Tryz.pinned (.plain (OpenSpec.ofChange qpackBothSpec)) qpackBothCard

/-- THE TIED CARD OF 'turnbucklelaw14.QpackWaits'. -/
def qpackWaitsCard : Claim7 := { stood := { row := qpackWaitsRow, standIns := [], harness := (true, "091c0bb56292abd3a1fef71e37f3adb8ac3f858e6b7186ec55e0690f8a46a134"), looks := true }, kinds := [], alts := [], laidByText := true, laidKinds := [.handle, .data], laidTests := true, laidLooks := .later }
def QpackWaitsCardSaid : Prop := Claim7.holds Tryz.pinned (.plain (OpenSpec.ofChange qpackWaitsSpec)) qpackWaitsCard

/-- THE TIED CARD OF 'turnbucklelaw14.QpackWrong'. -/
def qpackWrongCard : Claim7 := { stood := { row := qpackWrongRow, standIns := [], harness := (true, "091c0bb56292abd3a1fef71e37f3adb8ac3f858e6b7186ec55e0690f8a46a134"), looks := true }, kinds := [], alts := [], laidByText := true, laidKinds := [.handle, .data], laidTests := true, laidLooks := .later }
def QpackWrongCardSaid : Prop := Claim7.holds Tryz.pinned (.plain (OpenSpec.ofChange qpackWrongSpec)) qpackWrongCard

/-- THE TIED CARD OF 'turnbucklelaw14.QpackPlain'. -/
def qpackPlainCard : Claim7 := { stood := { row := qpackPlainRow, standIns := [], harness := (true, "091c0bb56292abd3a1fef71e37f3adb8ac3f858e6b7186ec55e0690f8a46a134"), looks := true }, kinds := [], alts := [], laidByText := true, laidKinds := [.handle, .data], laidTests := true, laidLooks := .later }
def QpackPlainCardSaid : Prop := Claim7.holds Tryz.pinned (.plain (OpenSpec.ofChange qpackPlainSpec)) qpackPlainCard

/-- THE TIED CARD OF 'turnbucklelaw14.QpackNobody'. -/
def qpackNobodyCard : Claim7 := { stood := { row := qpackNobodyRow, standIns := [], harness := (true, "091c0bb56292abd3a1fef71e37f3adb8ac3f858e6b7186ec55e0690f8a46a134"), looks := true }, kinds := [], alts := [], laidByText := true, laidKinds := [.handle, .data], laidTests := true, laidLooks := .later }
def QpackNobodyCardSaid : Prop := Claim7.holds Tryz.pinned (.plain (OpenSpec.ofChange qpackNobodySpec)) qpackNobodyCard

/-- THE SECOND FORM's CARD OF 'turnbucklelaw14.QpackBack'. -/
def qpackBackUptoCard : Claim7 := { stood := { row := qpackBackUptoRow, standIns := [], harness := (true, "091c0bb56292abd3a1fef71e37f3adb8ac3f858e6b7186ec55e0690f8a46a134"), looks := true }, kinds := [], alts := [], laidByText := true, laidKinds := [.handle, .data], laidTests := true, laidLooks := .later }
def QpackBackUptoCardSaid : Prop := Claim7.holds Tryz.pinned (.plain (OpenSpec.upto qpackBackSpec)) qpackBackUptoCard

/-- THE SECOND FORM's CARD OF 'turnbucklelaw14.QpackBoth'. -/
def qpackBothUptoCard : Claim7 := { stood := { row := qpackBothUptoRow, standIns := [], harness := (true, "091c0bb56292abd3a1fef71e37f3adb8ac3f858e6b7186ec55e0690f8a46a134"), looks := true }, kinds := [], alts := [], laidByText := true, laidKinds := [.handle, .data], laidTests := true, laidLooks := .later }
def QpackBothUptoCardSaid : Prop := Claim7.holds Tryz.pinned (.plain (OpenSpec.upto qpackBothSpec)) qpackBothUptoCard

/-- THE SECOND FORM's CARD OF 'turnbucklelaw14.QpackWaits'. -/
def qpackWaitsUptoCard : Claim7 := { stood := { row := qpackWaitsUptoRow, standIns := [], harness := (true, "091c0bb56292abd3a1fef71e37f3adb8ac3f858e6b7186ec55e0690f8a46a134"), looks := true }, kinds := [], alts := [], laidByText := true, laidKinds := [.handle, .data], laidTests := true, laidLooks := .later }
def QpackWaitsUptoCardSaid : Prop := Claim7.holds Tryz.pinned (.plain (OpenSpec.upto qpackWaitsSpec)) qpackWaitsUptoCard

/-- THE SECOND FORM's CARD OF 'turnbucklelaw14.QpackWrong'. -/
def qpackWrongUptoCard : Claim7 := { stood := { row := qpackWrongUptoRow, standIns := [], harness := (true, "091c0bb56292abd3a1fef71e37f3adb8ac3f858e6b7186ec55e0690f8a46a134"), looks := true }, kinds := [], alts := [], laidByText := true, laidKinds := [.handle, .data], laidTests := true, laidLooks := .later }
def QpackWrongUptoCardSaid : Prop := Claim7.holds Tryz.pinned (.plain (OpenSpec.upto qpackWrongSpec)) qpackWrongUptoCard

/-- THE SECOND FORM's CARD OF 'turnbucklelaw14.QpackPlain'. -/
def qpackPlainUptoCard : Claim7 := { stood := { row := qpackPlainUptoRow, standIns := [], harness := (true, "091c0bb56292abd3a1fef71e37f3adb8ac3f858e6b7186ec55e0690f8a46a134"), looks := true }, kinds := [], alts := [], laidByText := true, laidKinds := [.handle, .data], laidTests := true, laidLooks := .later }
def QpackPlainUptoCardSaid : Prop := Claim7.holds Tryz.pinned (.plain (OpenSpec.upto qpackPlainSpec)) qpackPlainUptoCard

/-- THE SECOND FORM's CARD OF 'turnbucklelaw14.QpackNobody'. -/
def qpackNobodyUptoCard : Claim7 := { stood := { row := qpackNobodyUptoRow, standIns := [], harness := (true, "091c0bb56292abd3a1fef71e37f3adb8ac3f858e6b7186ec55e0690f8a46a134"), looks := true }, kinds := [], alts := [], laidByText := true, laidKinds := [.handle, .data], laidTests := true, laidLooks := .later }
def QpackNobodyUptoCardSaid : Prop := Claim7.holds Tryz.pinned (.plain (OpenSpec.upto qpackNobodySpec)) qpackNobodyUptoCard
end Rows
end Go.Proofs.YtbkbabaoockigaaGreatDoor
