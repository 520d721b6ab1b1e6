/-
  DERIVED. GIVEN WITH THE SEED: THE CARDS: each row of YtfkkimaebhjneaaDoorRows.lean that lists a variable, with what it lists TIED to the program's text (the seventh form; the later family's looks); each row that meets fmt, with fmt's text TOLD by the authors' own Lean function (tested against real Go, not proved from fmt's source: count such statements apart). THE CARD IS WHAT COUNTS. Prove the row's statement (the work); the ties are given (YtfkkimaebhjneaaDoorTie.lean); close each card by the builder's one call (the guide's Derived/Test/ToyasCard.lean, 'card_holds'). Laid BY PROGRAM, IN A SANDBOX (cutbox-door.mjs). By AI agents, Wed Nov 11 2026. No macro, syntax, notation, axiom, sorry.
-/
import Derived.Test.YtfkkimaebhjneaaDoorRows
import GoSem.ClaimSeven
namespace Go.Proofs.YtfkkimaebhjneaaDoor
namespace Rows

/-- THE TIED CARD OF 'turnbucklelaw04.FramesWrites'. -/
def framesWritesCard : Claim7 := { stood := { row := framesWritesRow, standIns := [], harness := (true, "795cdd7bb450dedb4cf2c4e8d42851119ca5958ecdfd66cdc1f6a2ae310f1ea5"), looks := true }, kinds := [], alts := [], laidByText := true, laidKinds := [.data], laidTests := true, laidLooks := .later }
def FramesWritesCardSaid : Prop := Claim7.holds Tryd.pinned (.plain (OpenSpec.ofChange framesWritesSpec)) framesWritesCard

/-- THE TIED CARD OF 'turnbucklelaw04.FramesBack'. -/
def framesBackCard : Claim7 := { stood := { row := framesBackRow, standIns := [], harness := (true, "795cdd7bb450dedb4cf2c4e8d42851119ca5958ecdfd66cdc1f6a2ae310f1ea5"), looks := true }, kinds := [], alts := [], laidByText := true, laidKinds := [.data], laidTests := true, laidLooks := .later }
def FramesBackCardSaid : Prop := Claim7.holds Tryd.pinned (.plain (OpenSpec.ofChange framesBackSpec)) framesBackCard

/-- THE TIED CARD OF 'turnbucklelaw04.FramesAgain'. -/
def framesAgainCard : Claim7 := { stood := { row := framesAgainRow, standIns := [], harness := (true, "795cdd7bb450dedb4cf2c4e8d42851119ca5958ecdfd66cdc1f6a2ae310f1ea5"), looks := true }, kinds := [], alts := [], laidByText := true, laidKinds := [.data], laidTests := true, laidLooks := .later }
def FramesAgainCardSaid : Prop := Claim7.holds Tryd.pinned (.plain (OpenSpec.ofChange framesAgainSpec)) framesAgainCard

/-- THE TIED CARD OF 'turnbucklelaw04.FramesBoth'. -/
def framesBothCard : Claim7 := { stood := { row := framesBothRow, standIns := [], harness := (true, "795cdd7bb450dedb4cf2c4e8d42851119ca5958ecdfd66cdc1f6a2ae310f1ea5"), looks := true }, kinds := [], alts := [], laidByText := true, laidKinds := [.data], laidTests := true, laidLooks := .later }
def FramesBothCardSaid : Prop := Claim7.holds Tryd.pinned (.plain (OpenSpec.ofChange framesBothSpec)) framesBothCard

/-- THE TIED CARD OF 'turnbucklelaw04.FramesFirst'. -/
def framesFirstCard : Claim7 := { stood := { row := framesFirstRow, standIns := [], harness := (true, "795cdd7bb450dedb4cf2c4e8d42851119ca5958ecdfd66cdc1f6a2ae310f1ea5"), looks := true }, kinds := [], alts := [], laidByText := true, laidKinds := [.data], laidTests := true, laidLooks := .later }
def FramesFirstCardSaid : Prop := Claim7.holds Tryd.pinned (.plain (OpenSpec.ofChange framesFirstSpec)) framesFirstCard

/-- THE TIED CARD OF 'turnbucklelaw04.FramesOwn'. -/
def framesOwnCard : Claim7 := { stood := { row := framesOwnRow, standIns := [], harness := (true, "795cdd7bb450dedb4cf2c4e8d42851119ca5958ecdfd66cdc1f6a2ae310f1ea5"), looks := true }, kinds := [], alts := [], laidByText := true, laidKinds := [.data], laidTests := true, laidLooks := .later }
def FramesOwnCardSaid : Prop := Claim7.holds Tryd.pinned (.plain (OpenSpec.ofChange framesOwnSpec)) framesOwnCard

/-- THE SECOND FORM's CARD OF 'turnbucklelaw04.FramesWrites'. -/
def framesWritesUptoCard : Claim7 := { stood := { row := framesWritesUptoRow, standIns := [], harness := (true, "795cdd7bb450dedb4cf2c4e8d42851119ca5958ecdfd66cdc1f6a2ae310f1ea5"), looks := true }, kinds := [], alts := [], laidByText := true, laidKinds := [.data], laidTests := true, laidLooks := .later }
def FramesWritesUptoCardSaid : Prop := Claim7.holds Tryd.pinned (.plain (OpenSpec.upto framesWritesSpec)) framesWritesUptoCard

/-- THE SECOND FORM's CARD OF 'turnbucklelaw04.FramesBack'. -/
def framesBackUptoCard : Claim7 := { stood := { row := framesBackUptoRow, standIns := [], harness := (true, "795cdd7bb450dedb4cf2c4e8d42851119ca5958ecdfd66cdc1f6a2ae310f1ea5"), looks := true }, kinds := [], alts := [], laidByText := true, laidKinds := [.data], laidTests := true, laidLooks := .later }
def FramesBackUptoCardSaid : Prop := Claim7.holds Tryd.pinned (.plain (OpenSpec.upto framesBackSpec)) framesBackUptoCard

/-- THE SECOND FORM's CARD OF 'turnbucklelaw04.FramesAgain'. -/
def framesAgainUptoCard : Claim7 := { stood := { row := framesAgainUptoRow, standIns := [], harness := (true, "795cdd7bb450dedb4cf2c4e8d42851119ca5958ecdfd66cdc1f6a2ae310f1ea5"), looks := true }, kinds := [], alts := [], laidByText := true, laidKinds := [.data], laidTests := true, laidLooks := .later }
def FramesAgainUptoCardSaid : Prop := Claim7.holds Tryd.pinned (.plain (OpenSpec.upto framesAgainSpec)) framesAgainUptoCard

/-- THE SECOND FORM's CARD OF 'turnbucklelaw04.FramesBoth'. -/
def framesBothUptoCard : Claim7 := { stood := { row := framesBothUptoRow, standIns := [], harness := (true, "795cdd7bb450dedb4cf2c4e8d42851119ca5958ecdfd66cdc1f6a2ae310f1ea5"), looks := true }, kinds := [], alts := [], laidByText := true, laidKinds := [.data], laidTests := true, laidLooks := .later }
def FramesBothUptoCardSaid : Prop := Claim7.holds Tryd.pinned (.plain (OpenSpec.upto framesBothSpec)) framesBothUptoCard

/-- THE SECOND FORM's CARD OF 'turnbucklelaw04.FramesFirst'. -/
def framesFirstUptoCard : Claim7 := { stood := { row := framesFirstUptoRow, standIns := [], harness := (true, "795cdd7bb450dedb4cf2c4e8d42851119ca5958ecdfd66cdc1f6a2ae310f1ea5"), looks := true }, kinds := [], alts := [], laidByText := true, laidKinds := [.data], laidTests := true, laidLooks := .later }
def FramesFirstUptoCardSaid : Prop := Claim7.holds Tryd.pinned (.plain (OpenSpec.upto framesFirstSpec)) framesFirstUptoCard

/-- THE SECOND FORM's CARD OF 'turnbucklelaw04.FramesOwn'. -/
def framesOwnUptoCard : Claim7 := { stood := { row := framesOwnUptoRow, standIns := [], harness := (true, "795cdd7bb450dedb4cf2c4e8d42851119ca5958ecdfd66cdc1f6a2ae310f1ea5"), looks := true }, kinds := [], alts := [], laidByText := true, laidKinds := [.data], laidTests := true, laidLooks := .later }
def FramesOwnUptoCardSaid : Prop := Claim7.holds Tryd.pinned (.plain (OpenSpec.upto framesOwnSpec)) framesOwnUptoCard
end Rows
end Go.Proofs.YtfkkimaebhjneaaDoor
