/-
  DERIVED. GIVEN WITH THE SEED: THE CARDS: each row of YtompjaponedjoaaDoorRows.lean that lists a variable, with what it lists TIED to the program's text (the seventh form; the later family's looks); each row that meets fmt, with fmt's text TOLD by the authors' own Lean function (tested against real Go, not proved from fmt's source: count such statements apart). THE CARD IS WHAT COUNTS. Prove the row's statement (the work); the ties are given (YtompjaponedjoaaDoorTie.lean); close each card by the builder's one call (the guide's Derived/Test/ToyasCard.lean, 'card_holds'). Laid BY PROGRAM, IN A SANDBOX (cutbox-door.mjs). By AI agents, Wed Nov 11 2026. No macro, syntax, notation, axiom, sorry.
-/
import Derived.Test.YtompjaponedjoaaDoorRows
import GoSem.ClaimSeven
namespace Go.Proofs.YtompjaponedjoaaDoor
namespace Rows

/-- THE TIED CARD OF 'escutcheonlaw09.PolyTags'. -/
def polyTagsCard : Claim7 := { stood := { row := polyTagsRow, standIns := [], harness := (true, "08fea161d122f4330bda28e32cfb7c6a549e1ce5d808b03de1c31aa899bc7b16"), looks := false }, kinds := [], alts := [], laidByText := true, laidKinds := [.data], laidTests := true, laidLooks := .later }
def PolyTagsCardSaid : Prop := Claim7.holds Tryd.pinned (.plain (OpenSpec.ofChange polyTagsSpec)) polyTagsCard

/-- THE TIED CARD OF 'escutcheonlaw09.PolyNoughts'. -/
def polyNoughtsCard : Claim7 := { stood := { row := polyNoughtsRow, standIns := [], harness := (true, "08fea161d122f4330bda28e32cfb7c6a549e1ce5d808b03de1c31aa899bc7b16"), looks := false }, kinds := [], alts := [], laidByText := true, laidKinds := [.data], laidTests := true, laidLooks := .later }
def PolyNoughtsCardSaid : Prop := Claim7.holds Tryd.pinned (.plain (OpenSpec.ofChange polyNoughtsSpec)) polyNoughtsCard

/-- THE TIED CARD OF 'escutcheonlaw09.PolyEqual'. -/
def polyEqualCard : Claim7 := { stood := { row := polyEqualRow, standIns := [], harness := (true, "08fea161d122f4330bda28e32cfb7c6a549e1ce5d808b03de1c31aa899bc7b16"), looks := false }, kinds := [], alts := [], laidByText := true, laidKinds := [.data], laidTests := true, laidLooks := .later }
def PolyEqualCardSaid : Prop := Claim7.holds Tryd.pinned (.plain (OpenSpec.ofChange polyEqualSpec)) polyEqualCard

/-- THE TIED CARD OF 'escutcheonlaw09.PolySums'. -/
def polySumsCard : Claim7 := { stood := { row := polySumsRow, standIns := [], harness := (true, "08fea161d122f4330bda28e32cfb7c6a549e1ce5d808b03de1c31aa899bc7b16"), looks := false }, kinds := [], alts := [], laidByText := true, laidKinds := [.data], laidTests := true, laidLooks := .later }
def PolySumsCardSaid : Prop := Claim7.holds Tryd.pinned (.plain (OpenSpec.ofChange polySumsSpec)) polySumsCard

/-- THE SECOND FORM's CARD OF 'escutcheonlaw09.PolyTags'. -/
def polyTagsUptoCard : Claim7 := { stood := { row := polyTagsUptoRow, standIns := [], harness := (true, "08fea161d122f4330bda28e32cfb7c6a549e1ce5d808b03de1c31aa899bc7b16"), looks := false }, kinds := [], alts := [], laidByText := true, laidKinds := [.data], laidTests := true, laidLooks := .later }
def PolyTagsUptoCardSaid : Prop := Claim7.holds Tryd.pinned (.plain (OpenSpec.upto polyTagsSpec)) polyTagsUptoCard

/-- THE SECOND FORM's CARD OF 'escutcheonlaw09.PolyNoughts'. -/
def polyNoughtsUptoCard : Claim7 := { stood := { row := polyNoughtsUptoRow, standIns := [], harness := (true, "08fea161d122f4330bda28e32cfb7c6a549e1ce5d808b03de1c31aa899bc7b16"), looks := false }, kinds := [], alts := [], laidByText := true, laidKinds := [.data], laidTests := true, laidLooks := .later }
def PolyNoughtsUptoCardSaid : Prop := Claim7.holds Tryd.pinned (.plain (OpenSpec.upto polyNoughtsSpec)) polyNoughtsUptoCard

/-- THE SECOND FORM's CARD OF 'escutcheonlaw09.PolyEqual'. -/
def polyEqualUptoCard : Claim7 := { stood := { row := polyEqualUptoRow, standIns := [], harness := (true, "08fea161d122f4330bda28e32cfb7c6a549e1ce5d808b03de1c31aa899bc7b16"), looks := false }, kinds := [], alts := [], laidByText := true, laidKinds := [.data], laidTests := true, laidLooks := .later }
def PolyEqualUptoCardSaid : Prop := Claim7.holds Tryd.pinned (.plain (OpenSpec.upto polyEqualSpec)) polyEqualUptoCard

/-- THE SECOND FORM's CARD OF 'escutcheonlaw09.PolySums'. -/
def polySumsUptoCard : Claim7 := { stood := { row := polySumsUptoRow, standIns := [], harness := (true, "08fea161d122f4330bda28e32cfb7c6a549e1ce5d808b03de1c31aa899bc7b16"), looks := false }, kinds := [], alts := [], laidByText := true, laidKinds := [.data], laidTests := true, laidLooks := .later }
def PolySumsUptoCardSaid : Prop := Claim7.holds Tryd.pinned (.plain (OpenSpec.upto polySumsSpec)) polySumsUptoCard
end Rows
end Go.Proofs.YtompjaponedjoaaDoor
