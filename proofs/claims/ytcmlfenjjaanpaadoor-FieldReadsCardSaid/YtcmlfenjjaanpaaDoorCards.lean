/-
  DERIVED. GIVEN WITH THE SEED: THE CARDS: each row of YtcmlfenjjaanpaaDoorRows.lean that lists a variable, with what it lists TIED to the program's text (the seventh form; the later family's looks); each row that meets fmt, with fmt's text TOLD by the authors' own Lean function (tested against real Go, not proved from fmt's source: count such statements apart). THE CARD IS WHAT COUNTS. Prove the row's statement (the work); the ties are given (YtcmlfenjjaanpaaDoorTie.lean); close each card by the builder's one call (the guide's Derived/Test/ToyasCard.lean, 'card_holds'). Laid BY PROGRAM, IN A SANDBOX (cutbox-door.mjs). By AI agents, Wed Nov 11 2026. No macro, syntax, notation, axiom, sorry.
-/
import Derived.Test.YtcmlfenjjaanpaaDoorRows
import GoSem.ClaimSeven
namespace Go.Proofs.YtcmlfenjjaanpaaDoor
namespace Rows

/-- THE TIED CARD OF 'escutcheonlaw02.FieldReads'. -/
def fieldReadsCard : Claim7 := { stood := { row := fieldReadsRow, standIns := [], harness := (true, "1286c392048c1a950618aa3de3165d0498ee0c218fe27196c74ec89e971db13d"), looks := false }, kinds := [], alts := [], laidByText := true, laidKinds := [.data], laidTests := true, laidLooks := .later }
def FieldReadsCardSaid : Prop := Claim7.holds Tryd.pinned (.plain (OpenSpec.ofChange fieldReadsSpec)) fieldReadsCard

/-- THE TIED CARD OF 'escutcheonlaw02.FieldReckons'. -/
def fieldReckonsCard : Claim7 := { stood := { row := fieldReckonsRow, standIns := [], harness := (true, "1286c392048c1a950618aa3de3165d0498ee0c218fe27196c74ec89e971db13d"), looks := false }, kinds := [], alts := [], laidByText := true, laidKinds := [.data], laidTests := true, laidLooks := .later }
def FieldReckonsCardSaid : Prop := Claim7.holds Tryd.pinned (.plain (OpenSpec.ofChange fieldReckonsSpec)) fieldReckonsCard

/-- THE TIED CARD OF 'escutcheonlaw02.FieldPowers'. -/
def fieldPowersCard : Claim7 := { stood := { row := fieldPowersRow, standIns := [], harness := (true, "1286c392048c1a950618aa3de3165d0498ee0c218fe27196c74ec89e971db13d"), looks := false }, kinds := [], alts := [], laidByText := true, laidKinds := [.data], laidTests := true, laidLooks := .later }
def FieldPowersCardSaid : Prop := Claim7.holds Tryd.pinned (.plain (OpenSpec.ofChange fieldPowersSpec)) fieldPowersCard

/-- THE TIED CARD OF 'escutcheonlaw02.FieldRoots'. -/
def fieldRootsCard : Claim7 := { stood := { row := fieldRootsRow, standIns := [], harness := (true, "1286c392048c1a950618aa3de3165d0498ee0c218fe27196c74ec89e971db13d"), looks := false }, kinds := [], alts := [], laidByText := true, laidKinds := [.data], laidTests := true, laidLooks := .later }
def FieldRootsCardSaid : Prop := Claim7.holds Tryd.pinned (.plain (OpenSpec.ofChange fieldRootsSpec)) fieldRootsCard

/-- THE TIED CARD OF 'escutcheonlaw02.FieldIs'. -/
def fieldIsCard : Claim7 := { stood := { row := fieldIsRow, standIns := [], harness := (true, "1286c392048c1a950618aa3de3165d0498ee0c218fe27196c74ec89e971db13d"), looks := false }, kinds := [], alts := [], laidByText := true, laidKinds := [.data], laidTests := true, laidLooks := .later }
def FieldIsCardSaid : Prop := Claim7.holds Tryd.pinned (.plain (OpenSpec.ofChange fieldIsSpec)) fieldIsCard

/-- THE TIED CARD OF 'escutcheonlaw02.FieldPicks'. -/
def fieldPicksCard : Claim7 := { stood := { row := fieldPicksRow, standIns := [], harness := (true, "1286c392048c1a950618aa3de3165d0498ee0c218fe27196c74ec89e971db13d"), looks := false }, kinds := [], alts := [], laidByText := true, laidKinds := [.data], laidTests := true, laidLooks := .later }
def FieldPicksCardSaid : Prop := Claim7.holds Tryd.pinned (.plain (OpenSpec.ofChange fieldPicksSpec)) fieldPicksCard

/-- THE TIED CARD OF 'escutcheonlaw02.FieldInverts'. -/
def fieldInvertsCard : Claim7 := { stood := { row := fieldInvertsRow, standIns := [], harness := (true, "1286c392048c1a950618aa3de3165d0498ee0c218fe27196c74ec89e971db13d"), looks := false }, kinds := [], alts := [], laidByText := true, laidKinds := [.data], laidTests := true, laidLooks := .later }
def FieldInvertsCardSaid : Prop := Claim7.holds Tryd.pinned (.plain (OpenSpec.ofChange fieldInvertsSpec)) fieldInvertsCard

/-- THE SECOND FORM's CARD OF 'escutcheonlaw02.FieldReads'. -/
def fieldReadsUptoCard : Claim7 := { stood := { row := fieldReadsUptoRow, standIns := [], harness := (true, "1286c392048c1a950618aa3de3165d0498ee0c218fe27196c74ec89e971db13d"), looks := false }, kinds := [], alts := [], laidByText := true, laidKinds := [.data], laidTests := true, laidLooks := .later }
def FieldReadsUptoCardSaid : Prop := Claim7.holds Tryd.pinned (.plain (OpenSpec.upto fieldReadsSpec)) fieldReadsUptoCard

/-- THE SECOND FORM's CARD OF 'escutcheonlaw02.FieldReckons'. -/
def fieldReckonsUptoCard : Claim7 := { stood := { row := fieldReckonsUptoRow, standIns := [], harness := (true, "1286c392048c1a950618aa3de3165d0498ee0c218fe27196c74ec89e971db13d"), looks := false }, kinds := [], alts := [], laidByText := true, laidKinds := [.data], laidTests := true, laidLooks := .later }
def FieldReckonsUptoCardSaid : Prop := Claim7.holds Tryd.pinned (.plain (OpenSpec.upto fieldReckonsSpec)) fieldReckonsUptoCard

/-- THE SECOND FORM's CARD OF 'escutcheonlaw02.FieldPowers'. -/
def fieldPowersUptoCard : Claim7 := { stood := { row := fieldPowersUptoRow, standIns := [], harness := (true, "1286c392048c1a950618aa3de3165d0498ee0c218fe27196c74ec89e971db13d"), looks := false }, kinds := [], alts := [], laidByText := true, laidKinds := [.data], laidTests := true, laidLooks := .later }
def FieldPowersUptoCardSaid : Prop := Claim7.holds Tryd.pinned (.plain (OpenSpec.upto fieldPowersSpec)) fieldPowersUptoCard

/-- THE SECOND FORM's CARD OF 'escutcheonlaw02.FieldRoots'. -/
def fieldRootsUptoCard : Claim7 := { stood := { row := fieldRootsUptoRow, standIns := [], harness := (true, "1286c392048c1a950618aa3de3165d0498ee0c218fe27196c74ec89e971db13d"), looks := false }, kinds := [], alts := [], laidByText := true, laidKinds := [.data], laidTests := true, laidLooks := .later }
def FieldRootsUptoCardSaid : Prop := Claim7.holds Tryd.pinned (.plain (OpenSpec.upto fieldRootsSpec)) fieldRootsUptoCard

/-- THE SECOND FORM's CARD OF 'escutcheonlaw02.FieldIs'. -/
def fieldIsUptoCard : Claim7 := { stood := { row := fieldIsUptoRow, standIns := [], harness := (true, "1286c392048c1a950618aa3de3165d0498ee0c218fe27196c74ec89e971db13d"), looks := false }, kinds := [], alts := [], laidByText := true, laidKinds := [.data], laidTests := true, laidLooks := .later }
def FieldIsUptoCardSaid : Prop := Claim7.holds Tryd.pinned (.plain (OpenSpec.upto fieldIsSpec)) fieldIsUptoCard

/-- THE SECOND FORM's CARD OF 'escutcheonlaw02.FieldPicks'. -/
def fieldPicksUptoCard : Claim7 := { stood := { row := fieldPicksUptoRow, standIns := [], harness := (true, "1286c392048c1a950618aa3de3165d0498ee0c218fe27196c74ec89e971db13d"), looks := false }, kinds := [], alts := [], laidByText := true, laidKinds := [.data], laidTests := true, laidLooks := .later }
def FieldPicksUptoCardSaid : Prop := Claim7.holds Tryd.pinned (.plain (OpenSpec.upto fieldPicksSpec)) fieldPicksUptoCard

/-- THE SECOND FORM's CARD OF 'escutcheonlaw02.FieldInverts'. -/
def fieldInvertsUptoCard : Claim7 := { stood := { row := fieldInvertsUptoRow, standIns := [], harness := (true, "1286c392048c1a950618aa3de3165d0498ee0c218fe27196c74ec89e971db13d"), looks := false }, kinds := [], alts := [], laidByText := true, laidKinds := [.data], laidTests := true, laidLooks := .later }
def FieldInvertsUptoCardSaid : Prop := Claim7.holds Tryd.pinned (.plain (OpenSpec.upto fieldInvertsSpec)) fieldInvertsUptoCard
end Rows
end Go.Proofs.YtcmlfenjjaanpaaDoor
