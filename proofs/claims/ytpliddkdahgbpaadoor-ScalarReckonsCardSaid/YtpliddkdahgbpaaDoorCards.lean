/-
  DERIVED. GIVEN WITH THE SEED: THE CARDS: each row of YtpliddkdahgbpaaDoorRows.lean that lists a variable, with what it lists TIED to the program's text (the seventh form; the later family's looks); each row that meets fmt, with fmt's text TOLD by the authors' own Lean function (tested against real Go, not proved from fmt's source: count such statements apart). THE CARD IS WHAT COUNTS. Prove the row's statement (the work); the ties are given (YtpliddkdahgbpaaDoorTie.lean); close each card by the builder's one call (the guide's Derived/Test/ToyasCard.lean, 'card_holds'). Laid BY PROGRAM, IN A SANDBOX (cutbox-door.mjs). By AI agents, Wed Nov 11 2026. No macro, syntax, notation, axiom, sorry.
-/
import Derived.Test.YtpliddkdahgbpaaDoorRows
import GoSem.ClaimSeven
namespace Go.Proofs.YtpliddkdahgbpaaDoor
namespace Rows

/-- THE TIED CARD OF 'escutcheonlaw03.ScalarReduces'. -/
def scalarReducesCard : Claim7 := { stood := { row := scalarReducesRow, standIns := [], harness := (true, "dfc718c1322dc20c33e5e95c744efc062a6d9b8f2cc525c30798eee40e1b8e48"), looks := false }, kinds := [], alts := [], laidByText := true, laidKinds := [.data], laidTests := true, laidLooks := .later }
def ScalarReducesCardSaid : Prop := Claim7.holds Tryd.pinned (.plain (OpenSpec.ofChange scalarReducesSpec)) scalarReducesCard

/-- THE TIED CARD OF 'escutcheonlaw03.ScalarReckons'. -/
def scalarReckonsCard : Claim7 := { stood := { row := scalarReckonsRow, standIns := [], harness := (true, "dfc718c1322dc20c33e5e95c744efc062a6d9b8f2cc525c30798eee40e1b8e48"), looks := false }, kinds := [], alts := [], laidByText := true, laidKinds := [.data], laidTests := true, laidLooks := .later }
def ScalarReckonsCardSaid : Prop := Claim7.holds Tryd.pinned (.plain (OpenSpec.ofChange scalarReckonsSpec)) scalarReckonsCard

/-- THE TIED CARD OF 'escutcheonlaw03.ScalarIs'. -/
def scalarIsCard : Claim7 := { stood := { row := scalarIsRow, standIns := [], harness := (true, "dfc718c1322dc20c33e5e95c744efc062a6d9b8f2cc525c30798eee40e1b8e48"), looks := false }, kinds := [], alts := [], laidByText := true, laidKinds := [.data], laidTests := true, laidLooks := .later }
def ScalarIsCardSaid : Prop := Claim7.holds Tryd.pinned (.plain (OpenSpec.ofChange scalarIsSpec)) scalarIsCard

/-- THE TIED CARD OF 'escutcheonlaw03.ScalarWhole'. -/
def scalarWholeCard : Claim7 := { stood := { row := scalarWholeRow, standIns := [], harness := (true, "dfc718c1322dc20c33e5e95c744efc062a6d9b8f2cc525c30798eee40e1b8e48"), looks := false }, kinds := [], alts := [], laidByText := true, laidKinds := [.data], laidTests := true, laidLooks := .later }
def ScalarWholeCardSaid : Prop := Claim7.holds Tryd.pinned (.plain (OpenSpec.ofChange scalarWholeSpec)) scalarWholeCard

/-- THE TIED CARD OF 'escutcheonlaw03.ScalarSigns'. -/
def scalarSignsCard : Claim7 := { stood := { row := scalarSignsRow, standIns := [], harness := (true, "dfc718c1322dc20c33e5e95c744efc062a6d9b8f2cc525c30798eee40e1b8e48"), looks := false }, kinds := [], alts := [], laidByText := true, laidKinds := [.data], laidTests := true, laidLooks := .later }
def ScalarSignsCardSaid : Prop := Claim7.holds Tryd.pinned (.plain (OpenSpec.ofChange scalarSignsSpec)) scalarSignsCard

/-- THE SECOND FORM's CARD OF 'escutcheonlaw03.ScalarReduces'. -/
def scalarReducesUptoCard : Claim7 := { stood := { row := scalarReducesUptoRow, standIns := [], harness := (true, "dfc718c1322dc20c33e5e95c744efc062a6d9b8f2cc525c30798eee40e1b8e48"), looks := false }, kinds := [], alts := [], laidByText := true, laidKinds := [.data], laidTests := true, laidLooks := .later }
def ScalarReducesUptoCardSaid : Prop := Claim7.holds Tryd.pinned (.plain (OpenSpec.upto scalarReducesSpec)) scalarReducesUptoCard

/-- THE SECOND FORM's CARD OF 'escutcheonlaw03.ScalarReckons'. -/
def scalarReckonsUptoCard : Claim7 := { stood := { row := scalarReckonsUptoRow, standIns := [], harness := (true, "dfc718c1322dc20c33e5e95c744efc062a6d9b8f2cc525c30798eee40e1b8e48"), looks := false }, kinds := [], alts := [], laidByText := true, laidKinds := [.data], laidTests := true, laidLooks := .later }
def ScalarReckonsUptoCardSaid : Prop := Claim7.holds Tryd.pinned (.plain (OpenSpec.upto scalarReckonsSpec)) scalarReckonsUptoCard

/-- THE SECOND FORM's CARD OF 'escutcheonlaw03.ScalarIs'. -/
def scalarIsUptoCard : Claim7 := { stood := { row := scalarIsUptoRow, standIns := [], harness := (true, "dfc718c1322dc20c33e5e95c744efc062a6d9b8f2cc525c30798eee40e1b8e48"), looks := false }, kinds := [], alts := [], laidByText := true, laidKinds := [.data], laidTests := true, laidLooks := .later }
def ScalarIsUptoCardSaid : Prop := Claim7.holds Tryd.pinned (.plain (OpenSpec.upto scalarIsSpec)) scalarIsUptoCard

/-- THE SECOND FORM's CARD OF 'escutcheonlaw03.ScalarWhole'. -/
def scalarWholeUptoCard : Claim7 := { stood := { row := scalarWholeUptoRow, standIns := [], harness := (true, "dfc718c1322dc20c33e5e95c744efc062a6d9b8f2cc525c30798eee40e1b8e48"), looks := false }, kinds := [], alts := [], laidByText := true, laidKinds := [.data], laidTests := true, laidLooks := .later }
def ScalarWholeUptoCardSaid : Prop := Claim7.holds Tryd.pinned (.plain (OpenSpec.upto scalarWholeSpec)) scalarWholeUptoCard

/-- THE SECOND FORM's CARD OF 'escutcheonlaw03.ScalarSigns'. -/
def scalarSignsUptoCard : Claim7 := { stood := { row := scalarSignsUptoRow, standIns := [], harness := (true, "dfc718c1322dc20c33e5e95c744efc062a6d9b8f2cc525c30798eee40e1b8e48"), looks := false }, kinds := [], alts := [], laidByText := true, laidKinds := [.data], laidTests := true, laidLooks := .later }
def ScalarSignsUptoCardSaid : Prop := Claim7.holds Tryd.pinned (.plain (OpenSpec.upto scalarSignsSpec)) scalarSignsUptoCard
end Rows
end Go.Proofs.YtpliddkdahgbpaaDoor
