/-
  DERIVED. GIVEN WITH THE SEED: THE CARDS: each row of YtkalncahelnamaaDoorRows.lean that lists a variable, with what it lists TIED to the program's text (the seventh form; the later family's looks); each row that meets fmt, with fmt's text TOLD by the authors' own Lean function (tested against real Go, not proved from fmt's source: count such statements apart). THE CARD IS WHAT COUNTS. Prove the row's statement (the work); the ties are given (YtkalncahelnamaaDoorTie.lean); close each card by the builder's one call (the guide's Derived/Test/ToyasCard.lean, 'card_holds'). Laid BY PROGRAM, IN A SANDBOX (cutbox-door.mjs). By AI agents, Wed Nov 11 2026. No macro, syntax, notation, axiom, sorry.
-/
import Derived.Test.YtkalncahelnamaaDoorRows
import GoSem.ClaimSeven
namespace Go.Proofs.YtkalncahelnamaaDoor
namespace Rows

/-- THE TIED CARD OF 'turnbucklelaw01.VintPuts'. -/
def vintPutsCard : Claim7 := { stood := { row := vintPutsRow, standIns := [], harness := (true, "2dc1245398905967015050acefb168649a4eab6ef7747dd9d84406b36e37be63"), looks := false }, kinds := [], alts := [], laidByText := true, laidKinds := [.data], laidTests := true, laidLooks := .later }
def VintPutsCardSaid : Prop := Claim7.holds Tryd.pinned (.plain (OpenSpec.ofChange vintPutsSpec)) vintPutsCard

/-- THE TIED CARD OF 'turnbucklelaw01.VintGets'. -/
def vintGetsCard : Claim7 := { stood := { row := vintGetsRow, standIns := [], harness := (true, "2dc1245398905967015050acefb168649a4eab6ef7747dd9d84406b36e37be63"), looks := false }, kinds := [], alts := [], laidByText := true, laidKinds := [.data], laidTests := true, laidLooks := .later }
def VintGetsCardSaid : Prop := Claim7.holds Tryd.pinned (.plain (OpenSpec.ofChange vintGetsSpec)) vintGetsCard

/-- THE TIED CARD OF 'turnbucklelaw01.VintAll'. -/
def vintAllCard : Claim7 := { stood := { row := vintAllRow, standIns := [], harness := (true, "2dc1245398905967015050acefb168649a4eab6ef7747dd9d84406b36e37be63"), looks := false }, kinds := [], alts := [], laidByText := true, laidKinds := [.data], laidTests := true, laidLooks := .later }
def VintAllCardSaid : Prop := Claim7.holds Tryd.pinned (.plain (OpenSpec.ofChange vintAllSpec)) vintAllCard

/-- THE TIED CARD OF 'turnbucklelaw01.VintBack'. -/
def vintBackCard : Claim7 := { stood := { row := vintBackRow, standIns := [], harness := (true, "2dc1245398905967015050acefb168649a4eab6ef7747dd9d84406b36e37be63"), looks := false }, kinds := [], alts := [], laidByText := true, laidKinds := [.data], laidTests := true, laidLooks := .later }
def VintBackCardSaid : Prop := Claim7.holds Tryd.pinned (.plain (OpenSpec.ofChange vintBackSpec)) vintBackCard

/-- THE TIED CARD OF 'turnbucklelaw01.VintRow'. -/
def vintRowCard : Claim7 := { stood := { row := vintRowRow, standIns := [], harness := (true, "2dc1245398905967015050acefb168649a4eab6ef7747dd9d84406b36e37be63"), looks := false }, kinds := [], alts := [], laidByText := true, laidKinds := [.data], laidTests := true, laidLooks := .later }
def VintRowCardSaid : Prop := Claim7.holds Tryd.pinned (.plain (OpenSpec.ofChange vintRowSpec)) vintRowCard

/-- THE TIED CARD OF 'turnbucklelaw01.VintFew'. -/
def vintFewCard : Claim7 := { stood := { row := vintFewRow, standIns := [], harness := (true, "2dc1245398905967015050acefb168649a4eab6ef7747dd9d84406b36e37be63"), looks := false }, kinds := [], alts := [], laidByText := true, laidKinds := [.data], laidTests := true, laidLooks := .later }
def VintFewCardSaid : Prop := Claim7.holds Tryd.pinned (.plain (OpenSpec.ofChange vintFewSpec)) vintFewCard

/-- THE TIED CARD OF 'turnbucklelaw01.VintOwn'. -/
def vintOwnCard : Claim7 := { stood := { row := vintOwnRow, standIns := [], harness := (true, "2dc1245398905967015050acefb168649a4eab6ef7747dd9d84406b36e37be63"), looks := false }, kinds := [], alts := [], laidByText := true, laidKinds := [.data], laidTests := true, laidLooks := .later }
def VintOwnCardSaid : Prop := Claim7.holds Tryd.pinned (.plain (OpenSpec.ofChange vintOwnSpec)) vintOwnCard

/-- THE SECOND FORM's CARD OF 'turnbucklelaw01.VintPuts'. -/
def vintPutsUptoCard : Claim7 := { stood := { row := vintPutsUptoRow, standIns := [], harness := (true, "2dc1245398905967015050acefb168649a4eab6ef7747dd9d84406b36e37be63"), looks := false }, kinds := [], alts := [], laidByText := true, laidKinds := [.data], laidTests := true, laidLooks := .later }
def VintPutsUptoCardSaid : Prop := Claim7.holds Tryd.pinned (.plain (OpenSpec.upto vintPutsSpec)) vintPutsUptoCard

/-- THE SECOND FORM's CARD OF 'turnbucklelaw01.VintGets'. -/
def vintGetsUptoCard : Claim7 := { stood := { row := vintGetsUptoRow, standIns := [], harness := (true, "2dc1245398905967015050acefb168649a4eab6ef7747dd9d84406b36e37be63"), looks := false }, kinds := [], alts := [], laidByText := true, laidKinds := [.data], laidTests := true, laidLooks := .later }
def VintGetsUptoCardSaid : Prop := Claim7.holds Tryd.pinned (.plain (OpenSpec.upto vintGetsSpec)) vintGetsUptoCard

/-- THE SECOND FORM's CARD OF 'turnbucklelaw01.VintAll'. -/
def vintAllUptoCard : Claim7 := { stood := { row := vintAllUptoRow, standIns := [], harness := (true, "2dc1245398905967015050acefb168649a4eab6ef7747dd9d84406b36e37be63"), looks := false }, kinds := [], alts := [], laidByText := true, laidKinds := [.data], laidTests := true, laidLooks := .later }
def VintAllUptoCardSaid : Prop := Claim7.holds Tryd.pinned (.plain (OpenSpec.upto vintAllSpec)) vintAllUptoCard

/-- THE SECOND FORM's CARD OF 'turnbucklelaw01.VintBack'. -/
def vintBackUptoCard : Claim7 := { stood := { row := vintBackUptoRow, standIns := [], harness := (true, "2dc1245398905967015050acefb168649a4eab6ef7747dd9d84406b36e37be63"), looks := false }, kinds := [], alts := [], laidByText := true, laidKinds := [.data], laidTests := true, laidLooks := .later }
def VintBackUptoCardSaid : Prop := Claim7.holds Tryd.pinned (.plain (OpenSpec.upto vintBackSpec)) vintBackUptoCard

/-- THE SECOND FORM's CARD OF 'turnbucklelaw01.VintRow'. -/
def vintRowUptoCard : Claim7 := { stood := { row := vintRowUptoRow, standIns := [], harness := (true, "2dc1245398905967015050acefb168649a4eab6ef7747dd9d84406b36e37be63"), looks := false }, kinds := [], alts := [], laidByText := true, laidKinds := [.data], laidTests := true, laidLooks := .later }
def VintRowUptoCardSaid : Prop := Claim7.holds Tryd.pinned (.plain (OpenSpec.upto vintRowSpec)) vintRowUptoCard

/-- THE SECOND FORM's CARD OF 'turnbucklelaw01.VintFew'. -/
def vintFewUptoCard : Claim7 := { stood := { row := vintFewUptoRow, standIns := [], harness := (true, "2dc1245398905967015050acefb168649a4eab6ef7747dd9d84406b36e37be63"), looks := false }, kinds := [], alts := [], laidByText := true, laidKinds := [.data], laidTests := true, laidLooks := .later }
def VintFewUptoCardSaid : Prop := Claim7.holds Tryd.pinned (.plain (OpenSpec.upto vintFewSpec)) vintFewUptoCard

/-- THE SECOND FORM's CARD OF 'turnbucklelaw01.VintOwn'. -/
def vintOwnUptoCard : Claim7 := { stood := { row := vintOwnUptoRow, standIns := [], harness := (true, "2dc1245398905967015050acefb168649a4eab6ef7747dd9d84406b36e37be63"), looks := false }, kinds := [], alts := [], laidByText := true, laidKinds := [.data], laidTests := true, laidLooks := .later }
def VintOwnUptoCardSaid : Prop := Claim7.holds Tryd.pinned (.plain (OpenSpec.upto vintOwnSpec)) vintOwnUptoCard
end Rows
end Go.Proofs.YtkalncahelnamaaDoor
