/-
  DERIVED. GIVEN WITH THE SEED: THE CARDS: each row of YtcijaoihcckofaaDoorRows.lean that lists a variable, with what it lists TIED to the program's text (the seventh form; the later family's looks); each row that meets fmt, with fmt's text TOLD by the authors' own Lean function (tested against real Go, not proved from fmt's source: count such statements apart). THE CARD IS WHAT COUNTS. Prove the row's statement (the work); the ties are given (YtcijaoihcckofaaDoorTie.lean); close each card by the builder's one call (the guide's Derived/Test/ToyasCard.lean, 'card_holds'). Laid BY PROGRAM, IN A SANDBOX (cutbox-door.mjs). By AI agents, Wed Nov 11 2026. No macro, syntax, notation, axiom, sorry.
-/
import Derived.Test.YtcijaoihcckofaaDoorRows
import GoSem.ClaimSeven
namespace Go.Proofs.YtcijaoihcckofaaDoor
namespace Rows

/-- THE TIED CARD OF 'escutcheonlaw06.EdwardsReads'. -/
def edwardsReadsCard : Claim7 := { stood := { row := edwardsReadsRow, standIns := [], harness := (true, "33d81301214ee376ed5cca1b8bb395fdf2ebe88d0e57888b3856ce6b0664b0bd"), looks := false }, kinds := [], alts := [], laidByText := true, laidKinds := [.data], laidTests := true, laidLooks := .later }
def EdwardsReadsCardSaid : Prop := Claim7.holds Tryd.pinned (.plain (OpenSpec.ofChange edwardsReadsSpec)) edwardsReadsCard

/-- THE TIED CARD OF 'escutcheonlaw06.EdwardsAdds'. -/
def edwardsAddsCard : Claim7 := { stood := { row := edwardsAddsRow, standIns := [], harness := (true, "33d81301214ee376ed5cca1b8bb395fdf2ebe88d0e57888b3856ce6b0664b0bd"), looks := false }, kinds := [], alts := [], laidByText := true, laidKinds := [.data], laidTests := true, laidLooks := .later }
def EdwardsAddsCardSaid : Prop := Claim7.holds Tryd.pinned (.plain (OpenSpec.ofChange edwardsAddsSpec)) edwardsAddsCard

/-- THE TIED CARD OF 'escutcheonlaw06.EdwardsMuls'. -/
def edwardsMulsCard : Claim7 := { stood := { row := edwardsMulsRow, standIns := [], harness := (true, "33d81301214ee376ed5cca1b8bb395fdf2ebe88d0e57888b3856ce6b0664b0bd"), looks := false }, kinds := [], alts := [], laidByText := true, laidKinds := [.data], laidTests := true, laidLooks := .later }
def EdwardsMulsCardSaid : Prop := Claim7.holds Tryd.pinned (.plain (OpenSpec.ofChange edwardsMulsSpec)) edwardsMulsCard

/-- THE TIED CARD OF 'escutcheonlaw06.EdwardsIs'. -/
def edwardsIsCard : Claim7 := { stood := { row := edwardsIsRow, standIns := [], harness := (true, "33d81301214ee376ed5cca1b8bb395fdf2ebe88d0e57888b3856ce6b0664b0bd"), looks := false }, kinds := [], alts := [], laidByText := true, laidKinds := [.data], laidTests := true, laidLooks := .later }
def EdwardsIsCardSaid : Prop := Claim7.holds Tryd.pinned (.plain (OpenSpec.ofChange edwardsIsSpec)) edwardsIsCard

/-- THE TIED CARD OF 'escutcheonlaw06.EdwardsOrder'. -/
def edwardsOrderCard : Claim7 := { stood := { row := edwardsOrderRow, standIns := [], harness := (true, "33d81301214ee376ed5cca1b8bb395fdf2ebe88d0e57888b3856ce6b0664b0bd"), looks := false }, kinds := [], alts := [], laidByText := true, laidKinds := [.data], laidTests := true, laidLooks := .later }
def EdwardsOrderCardSaid : Prop := Claim7.holds Tryd.pinned (.plain (OpenSpec.ofChange edwardsOrderSpec)) edwardsOrderCard

/-- THE TIED CARD OF 'escutcheonlaw06.EdwardsBytes'. -/
def edwardsBytesCard : Claim7 := { stood := { row := edwardsBytesRow, standIns := [], harness := (true, "33d81301214ee376ed5cca1b8bb395fdf2ebe88d0e57888b3856ce6b0664b0bd"), looks := false }, kinds := [], alts := [], laidByText := true, laidKinds := [.data], laidTests := true, laidLooks := .later }
def EdwardsBytesCardSaid : Prop := Claim7.holds Tryd.pinned (.plain (OpenSpec.ofChange edwardsBytesSpec)) edwardsBytesCard

/-- THE TIED CARD OF 'escutcheonlaw06.EdwardsLadder'. -/
def edwardsLadderCard : Claim7 := { stood := { row := edwardsLadderRow, standIns := [], harness := (true, "33d81301214ee376ed5cca1b8bb395fdf2ebe88d0e57888b3856ce6b0664b0bd"), looks := false }, kinds := [], alts := [], laidByText := true, laidKinds := [.data], laidTests := true, laidLooks := .later }
def EdwardsLadderCardSaid : Prop := Claim7.holds Tryd.pinned (.plain (OpenSpec.ofChange edwardsLadderSpec)) edwardsLadderCard

/-- THE SECOND FORM's CARD OF 'escutcheonlaw06.EdwardsReads'. -/
def edwardsReadsUptoCard : Claim7 := { stood := { row := edwardsReadsUptoRow, standIns := [], harness := (true, "33d81301214ee376ed5cca1b8bb395fdf2ebe88d0e57888b3856ce6b0664b0bd"), looks := false }, kinds := [], alts := [], laidByText := true, laidKinds := [.data], laidTests := true, laidLooks := .later }
def EdwardsReadsUptoCardSaid : Prop := Claim7.holds Tryd.pinned (.plain (OpenSpec.upto edwardsReadsSpec)) edwardsReadsUptoCard

/-- THE SECOND FORM's CARD OF 'escutcheonlaw06.EdwardsAdds'. -/
def edwardsAddsUptoCard : Claim7 := { stood := { row := edwardsAddsUptoRow, standIns := [], harness := (true, "33d81301214ee376ed5cca1b8bb395fdf2ebe88d0e57888b3856ce6b0664b0bd"), looks := false }, kinds := [], alts := [], laidByText := true, laidKinds := [.data], laidTests := true, laidLooks := .later }
def EdwardsAddsUptoCardSaid : Prop := Claim7.holds Tryd.pinned (.plain (OpenSpec.upto edwardsAddsSpec)) edwardsAddsUptoCard

/-- THE SECOND FORM's CARD OF 'escutcheonlaw06.EdwardsMuls'. -/
def edwardsMulsUptoCard : Claim7 := { stood := { row := edwardsMulsUptoRow, standIns := [], harness := (true, "33d81301214ee376ed5cca1b8bb395fdf2ebe88d0e57888b3856ce6b0664b0bd"), looks := false }, kinds := [], alts := [], laidByText := true, laidKinds := [.data], laidTests := true, laidLooks := .later }
def EdwardsMulsUptoCardSaid : Prop := Claim7.holds Tryd.pinned (.plain (OpenSpec.upto edwardsMulsSpec)) edwardsMulsUptoCard

/-- THE SECOND FORM's CARD OF 'escutcheonlaw06.EdwardsIs'. -/
def edwardsIsUptoCard : Claim7 := { stood := { row := edwardsIsUptoRow, standIns := [], harness := (true, "33d81301214ee376ed5cca1b8bb395fdf2ebe88d0e57888b3856ce6b0664b0bd"), looks := false }, kinds := [], alts := [], laidByText := true, laidKinds := [.data], laidTests := true, laidLooks := .later }
def EdwardsIsUptoCardSaid : Prop := Claim7.holds Tryd.pinned (.plain (OpenSpec.upto edwardsIsSpec)) edwardsIsUptoCard

/-- THE SECOND FORM's CARD OF 'escutcheonlaw06.EdwardsOrder'. -/
def edwardsOrderUptoCard : Claim7 := { stood := { row := edwardsOrderUptoRow, standIns := [], harness := (true, "33d81301214ee376ed5cca1b8bb395fdf2ebe88d0e57888b3856ce6b0664b0bd"), looks := false }, kinds := [], alts := [], laidByText := true, laidKinds := [.data], laidTests := true, laidLooks := .later }
def EdwardsOrderUptoCardSaid : Prop := Claim7.holds Tryd.pinned (.plain (OpenSpec.upto edwardsOrderSpec)) edwardsOrderUptoCard

/-- THE SECOND FORM's CARD OF 'escutcheonlaw06.EdwardsBytes'. -/
def edwardsBytesUptoCard : Claim7 := { stood := { row := edwardsBytesUptoRow, standIns := [], harness := (true, "33d81301214ee376ed5cca1b8bb395fdf2ebe88d0e57888b3856ce6b0664b0bd"), looks := false }, kinds := [], alts := [], laidByText := true, laidKinds := [.data], laidTests := true, laidLooks := .later }
def EdwardsBytesUptoCardSaid : Prop := Claim7.holds Tryd.pinned (.plain (OpenSpec.upto edwardsBytesSpec)) edwardsBytesUptoCard

/-- THE SECOND FORM's CARD OF 'escutcheonlaw06.EdwardsLadder'. -/
def edwardsLadderUptoCard : Claim7 := { stood := { row := edwardsLadderUptoRow, standIns := [], harness := (true, "33d81301214ee376ed5cca1b8bb395fdf2ebe88d0e57888b3856ce6b0664b0bd"), looks := false }, kinds := [], alts := [], laidByText := true, laidKinds := [.data], laidTests := true, laidLooks := .later }
def EdwardsLadderUptoCardSaid : Prop := Claim7.holds Tryd.pinned (.plain (OpenSpec.upto edwardsLadderSpec)) edwardsLadderUptoCard
end Rows
end Go.Proofs.YtcijaoihcckofaaDoor
