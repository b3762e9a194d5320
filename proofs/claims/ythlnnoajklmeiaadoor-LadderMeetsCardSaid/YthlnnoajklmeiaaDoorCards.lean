/-
  DERIVED. GIVEN WITH THE SEED: THE CARDS: each row of YthlnnoajklmeiaaDoorRows.lean that lists a variable, with what it lists TIED to the program's text (the seventh form; the later family's looks); each row that meets fmt, with fmt's text TOLD by the authors' own Lean function (tested against real Go, not proved from fmt's source: count such statements apart). THE CARD IS WHAT COUNTS. Prove the row's statement (the work); the ties are given (YthlnnoajklmeiaaDoorTie.lean); close each card by the builder's one call (the guide's Derived/Test/ToyasCard.lean, 'card_holds'). Laid BY PROGRAM, IN A SANDBOX (cutbox-door.mjs). By AI agents, Wed Nov 11 2026. No macro, syntax, notation, axiom, sorry.
-/
import Derived.Test.YthlnnoajklmeiaaDoorRows
import GoSem.ClaimSeven
namespace Go.Proofs.YthlnnoajklmeiaaDoor
namespace Rows

/-- THE TIED CARD OF 'escutcheonlaw04.LadderMuls'. -/
def ladderMulsCard : Claim7 := { stood := { row := ladderMulsRow, standIns := [], harness := (true, "68703be370cfcfcee63b0c04a6392d10b8d1c5b399084963ff0a5ca227206acf"), looks := false }, kinds := [], alts := [], laidByText := true, laidKinds := [.data], laidTests := true, laidLooks := .later }
def LadderMulsCardSaid : Prop := Claim7.holds Tryd.pinned (.plain (OpenSpec.ofChange ladderMulsSpec)) ladderMulsCard

/-- THE TIED CARD OF 'escutcheonlaw04.LadderMeets'. -/
def ladderMeetsCard : Claim7 := { stood := { row := ladderMeetsRow, standIns := [], harness := (true, "68703be370cfcfcee63b0c04a6392d10b8d1c5b399084963ff0a5ca227206acf"), looks := false }, kinds := [], alts := [], laidByText := true, laidKinds := [.data], laidTests := true, laidLooks := .later }
def LadderMeetsCardSaid : Prop := Claim7.holds Tryd.pinned (.plain (OpenSpec.ofChange ladderMeetsSpec)) ladderMeetsCard

/-- THE TIED CARD OF 'escutcheonlaw04.LadderTurns'. -/
def ladderTurnsCard : Claim7 := { stood := { row := ladderTurnsRow, standIns := [], harness := (true, "68703be370cfcfcee63b0c04a6392d10b8d1c5b399084963ff0a5ca227206acf"), looks := false }, kinds := [], alts := [], laidByText := true, laidKinds := [.data], laidTests := true, laidLooks := .later }
def LadderTurnsCardSaid : Prop := Claim7.holds Tryd.pinned (.plain (OpenSpec.ofChange ladderTurnsSpec)) ladderTurnsCard

/-- THE TIED CARD OF 'escutcheonlaw04.LadderLow'. -/
def ladderLowCard : Claim7 := { stood := { row := ladderLowRow, standIns := [], harness := (true, "68703be370cfcfcee63b0c04a6392d10b8d1c5b399084963ff0a5ca227206acf"), looks := false }, kinds := [], alts := [], laidByText := true, laidKinds := [.data], laidTests := true, laidLooks := .later }
def LadderLowCardSaid : Prop := Claim7.holds Tryd.pinned (.plain (OpenSpec.ofChange ladderLowSpec)) ladderLowCard

/-- THE SECOND FORM's CARD OF 'escutcheonlaw04.LadderMuls'. -/
def ladderMulsUptoCard : Claim7 := { stood := { row := ladderMulsUptoRow, standIns := [], harness := (true, "68703be370cfcfcee63b0c04a6392d10b8d1c5b399084963ff0a5ca227206acf"), looks := false }, kinds := [], alts := [], laidByText := true, laidKinds := [.data], laidTests := true, laidLooks := .later }
def LadderMulsUptoCardSaid : Prop := Claim7.holds Tryd.pinned (.plain (OpenSpec.upto ladderMulsSpec)) ladderMulsUptoCard

/-- THE SECOND FORM's CARD OF 'escutcheonlaw04.LadderMeets'. -/
def ladderMeetsUptoCard : Claim7 := { stood := { row := ladderMeetsUptoRow, standIns := [], harness := (true, "68703be370cfcfcee63b0c04a6392d10b8d1c5b399084963ff0a5ca227206acf"), looks := false }, kinds := [], alts := [], laidByText := true, laidKinds := [.data], laidTests := true, laidLooks := .later }
def LadderMeetsUptoCardSaid : Prop := Claim7.holds Tryd.pinned (.plain (OpenSpec.upto ladderMeetsSpec)) ladderMeetsUptoCard

/-- THE SECOND FORM's CARD OF 'escutcheonlaw04.LadderTurns'. -/
def ladderTurnsUptoCard : Claim7 := { stood := { row := ladderTurnsUptoRow, standIns := [], harness := (true, "68703be370cfcfcee63b0c04a6392d10b8d1c5b399084963ff0a5ca227206acf"), looks := false }, kinds := [], alts := [], laidByText := true, laidKinds := [.data], laidTests := true, laidLooks := .later }
def LadderTurnsUptoCardSaid : Prop := Claim7.holds Tryd.pinned (.plain (OpenSpec.upto ladderTurnsSpec)) ladderTurnsUptoCard

/-- THE SECOND FORM's CARD OF 'escutcheonlaw04.LadderLow'. -/
def ladderLowUptoCard : Claim7 := { stood := { row := ladderLowUptoRow, standIns := [], harness := (true, "68703be370cfcfcee63b0c04a6392d10b8d1c5b399084963ff0a5ca227206acf"), looks := false }, kinds := [], alts := [], laidByText := true, laidKinds := [.data], laidTests := true, laidLooks := .later }
def LadderLowUptoCardSaid : Prop := Claim7.holds Tryd.pinned (.plain (OpenSpec.upto ladderLowSpec)) ladderLowUptoCard
end Rows
end Go.Proofs.YthlnnoajklmeiaaDoor
