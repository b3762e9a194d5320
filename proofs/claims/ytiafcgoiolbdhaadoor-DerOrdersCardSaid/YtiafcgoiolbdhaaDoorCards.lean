/-
  DERIVED. GIVEN WITH THE SEED: THE CARDS: each row of YtiafcgoiolbdhaaDoorRows.lean that lists a variable, with what it lists TIED to the program's text (the seventh form; the later family's looks); each row that meets fmt, with fmt's text TOLD by the authors' own Lean function (tested against real Go, not proved from fmt's source: count such statements apart). THE CARD IS WHAT COUNTS. Prove the row's statement (the work); the ties are given (YtiafcgoiolbdhaaDoorTie.lean); close each card by the builder's one call (the guide's Derived/Test/ToyasCard.lean, 'card_holds'). Laid BY PROGRAM, IN A SANDBOX (cutbox-door.mjs). By AI agents, Wed Nov 11 2026. No macro, syntax, notation, axiom, sorry.
-/
import Derived.Test.YtiafcgoiolbdhaaDoorRows
import GoSem.ClaimSeven
namespace Go.Proofs.YtiafcgoiolbdhaaDoor
namespace Rows

/-- THE TIED CARD OF 'escutcheonlaw13.DerPacks'. -/
def derPacksCard : Claim7 := { stood := { row := derPacksRow, standIns := [], harness := (true, "4dfe3cfdc64b5519634e5a98105921e35c8f62c5421f4b47e4ea921596b704de"), looks := false }, kinds := [], alts := [], laidByText := true, laidKinds := [.data, .data, .pinned], laidTests := true, laidLooks := .later }
def DerPacksCardSaid : Prop := Claim7.holds Tryd.pinned (.plain (OpenSpec.ofChange derPacksSpec)) derPacksCard

/-- THE TIED CARD OF 'escutcheonlaw13.DerReads'. -/
def derReadsCard : Claim7 := { stood := { row := derReadsRow, standIns := [], harness := (true, "4dfe3cfdc64b5519634e5a98105921e35c8f62c5421f4b47e4ea921596b704de"), looks := false }, kinds := [], alts := [], laidByText := true, laidKinds := [.data, .data, .pinned], laidTests := true, laidLooks := .later }
def DerReadsCardSaid : Prop := Claim7.holds Tryd.pinned (.plain (OpenSpec.ofChange derReadsSpec)) derReadsCard

/-- THE TIED CARD OF 'escutcheonlaw13.DerMakes'. -/
def derMakesCard : Claim7 := { stood := { row := derMakesRow, standIns := [], harness := (true, "4dfe3cfdc64b5519634e5a98105921e35c8f62c5421f4b47e4ea921596b704de"), looks := false }, kinds := [], alts := [], laidByText := true, laidKinds := [.data, .data, .pinned], laidTests := true, laidLooks := .later }
def DerMakesCardSaid : Prop := Claim7.holds Tryd.pinned (.plain (OpenSpec.ofChange derMakesSpec)) derMakesCard

/-- THE TIED CARD OF 'escutcheonlaw13.DerMeans'. -/
def derMeansCard : Claim7 := { stood := { row := derMeansRow, standIns := [], harness := (true, "4dfe3cfdc64b5519634e5a98105921e35c8f62c5421f4b47e4ea921596b704de"), looks := false }, kinds := [], alts := [], laidByText := true, laidKinds := [.data, .data, .pinned], laidTests := true, laidLooks := .later }
def DerMeansCardSaid : Prop := Claim7.holds Tryd.pinned (.plain (OpenSpec.ofChange derMeansSpec)) derMeansCard

/-- THE TIED CARD OF 'escutcheonlaw13.DerOrders'. -/
def derOrdersCard : Claim7 := { stood := { row := derOrdersRow, standIns := [], harness := (true, "4dfe3cfdc64b5519634e5a98105921e35c8f62c5421f4b47e4ea921596b704de"), looks := false }, kinds := [], alts := [], laidByText := true, laidKinds := [.data, .data, .pinned], laidTests := true, laidLooks := .later }
def DerOrdersCardSaid : Prop := Claim7.holds Tryd.pinned (.plain (OpenSpec.ofChange derOrdersSpec)) derOrdersCard

/-- THE TIED CARD OF 'escutcheonlaw13.DerBounds'. -/
def derBoundsCard : Claim7 := { stood := { row := derBoundsRow, standIns := [], harness := (true, "4dfe3cfdc64b5519634e5a98105921e35c8f62c5421f4b47e4ea921596b704de"), looks := false }, kinds := [], alts := [], laidByText := true, laidKinds := [.data, .data, .pinned], laidTests := true, laidLooks := .later }
def DerBoundsCardSaid : Prop := Claim7.holds Tryd.pinned (.plain (OpenSpec.ofChange derBoundsSpec)) derBoundsCard

/-- THE TIED CARD OF 'escutcheonlaw13.DerNests'. -/
def derNestsCard : Claim7 := { stood := { row := derNestsRow, standIns := [], harness := (true, "4dfe3cfdc64b5519634e5a98105921e35c8f62c5421f4b47e4ea921596b704de"), looks := false }, kinds := [], alts := [], laidByText := true, laidKinds := [.data, .data, .pinned], laidTests := true, laidLooks := .later }
def DerNestsCardSaid : Prop := Claim7.holds Tryd.pinned (.plain (OpenSpec.ofChange derNestsSpec)) derNestsCard

/-- THE SECOND FORM's CARD OF 'escutcheonlaw13.DerPacks'. -/
def derPacksUptoCard : Claim7 := { stood := { row := derPacksUptoRow, standIns := [], harness := (true, "4dfe3cfdc64b5519634e5a98105921e35c8f62c5421f4b47e4ea921596b704de"), looks := false }, kinds := [], alts := [], laidByText := true, laidKinds := [.data, .data, .pinned], laidTests := true, laidLooks := .later }
def DerPacksUptoCardSaid : Prop := Claim7.holds Tryd.pinned (.plain (OpenSpec.upto derPacksSpec)) derPacksUptoCard

/-- THE SECOND FORM's CARD OF 'escutcheonlaw13.DerReads'. -/
def derReadsUptoCard : Claim7 := { stood := { row := derReadsUptoRow, standIns := [], harness := (true, "4dfe3cfdc64b5519634e5a98105921e35c8f62c5421f4b47e4ea921596b704de"), looks := false }, kinds := [], alts := [], laidByText := true, laidKinds := [.data, .data, .pinned], laidTests := true, laidLooks := .later }
def DerReadsUptoCardSaid : Prop := Claim7.holds Tryd.pinned (.plain (OpenSpec.upto derReadsSpec)) derReadsUptoCard

/-- THE SECOND FORM's CARD OF 'escutcheonlaw13.DerMakes'. -/
def derMakesUptoCard : Claim7 := { stood := { row := derMakesUptoRow, standIns := [], harness := (true, "4dfe3cfdc64b5519634e5a98105921e35c8f62c5421f4b47e4ea921596b704de"), looks := false }, kinds := [], alts := [], laidByText := true, laidKinds := [.data, .data, .pinned], laidTests := true, laidLooks := .later }
def DerMakesUptoCardSaid : Prop := Claim7.holds Tryd.pinned (.plain (OpenSpec.upto derMakesSpec)) derMakesUptoCard

/-- THE SECOND FORM's CARD OF 'escutcheonlaw13.DerMeans'. -/
def derMeansUptoCard : Claim7 := { stood := { row := derMeansUptoRow, standIns := [], harness := (true, "4dfe3cfdc64b5519634e5a98105921e35c8f62c5421f4b47e4ea921596b704de"), looks := false }, kinds := [], alts := [], laidByText := true, laidKinds := [.data, .data, .pinned], laidTests := true, laidLooks := .later }
def DerMeansUptoCardSaid : Prop := Claim7.holds Tryd.pinned (.plain (OpenSpec.upto derMeansSpec)) derMeansUptoCard

/-- THE SECOND FORM's CARD OF 'escutcheonlaw13.DerOrders'. -/
def derOrdersUptoCard : Claim7 := { stood := { row := derOrdersUptoRow, standIns := [], harness := (true, "4dfe3cfdc64b5519634e5a98105921e35c8f62c5421f4b47e4ea921596b704de"), looks := false }, kinds := [], alts := [], laidByText := true, laidKinds := [.data, .data, .pinned], laidTests := true, laidLooks := .later }
def DerOrdersUptoCardSaid : Prop := Claim7.holds Tryd.pinned (.plain (OpenSpec.upto derOrdersSpec)) derOrdersUptoCard

/-- THE SECOND FORM's CARD OF 'escutcheonlaw13.DerBounds'. -/
def derBoundsUptoCard : Claim7 := { stood := { row := derBoundsUptoRow, standIns := [], harness := (true, "4dfe3cfdc64b5519634e5a98105921e35c8f62c5421f4b47e4ea921596b704de"), looks := false }, kinds := [], alts := [], laidByText := true, laidKinds := [.data, .data, .pinned], laidTests := true, laidLooks := .later }
def DerBoundsUptoCardSaid : Prop := Claim7.holds Tryd.pinned (.plain (OpenSpec.upto derBoundsSpec)) derBoundsUptoCard

/-- THE SECOND FORM's CARD OF 'escutcheonlaw13.DerNests'. -/
def derNestsUptoCard : Claim7 := { stood := { row := derNestsUptoRow, standIns := [], harness := (true, "4dfe3cfdc64b5519634e5a98105921e35c8f62c5421f4b47e4ea921596b704de"), looks := false }, kinds := [], alts := [], laidByText := true, laidKinds := [.data, .data, .pinned], laidTests := true, laidLooks := .later }
def DerNestsUptoCardSaid : Prop := Claim7.holds Tryd.pinned (.plain (OpenSpec.upto derNestsSpec)) derNestsUptoCard
end Rows
end Go.Proofs.YtiafcgoiolbdhaaDoor
