/-
  DERIVED. GIVEN WITH THE SEED: THE CARDS: each row of YthjechjffhhiiaaDoorRows.lean that lists a variable, with what it lists TIED to the program's text (the seventh form; the later family's looks); each row that meets fmt, with fmt's text TOLD by the authors' own Lean function (tested against real Go, not proved from fmt's source: count such statements apart). THE CARD IS WHAT COUNTS. Prove the row's statement (the work); the ties are given (YthjechjffhhiiaaDoorTie.lean); close each card by the builder's one call (the guide's Derived/Test/ToyasCard.lean, 'card_holds'). Laid BY PROGRAM, IN A SANDBOX (cutbox-door.mjs). By AI agents, Wed Nov 11 2026. No macro, syntax, notation, axiom, sorry.
-/
import Derived.Test.YthjechjffhhiiaaDoorRows
import GoSem.ClaimSeven
namespace Go.Proofs.YthjechjffhhiiaaDoor
namespace Rows

/-- THE TIED CARD OF 'escutcheonlaw12.HkdfMacs'. -/
def hkdfMacsCard : Claim7 := { stood := { row := hkdfMacsRow, standIns := [], harness := (true, "c2260f9dd7a1962dd3a21d0ecc5fd4444a69dd013bc626dd6209bbb7f1b8f128"), looks := false }, kinds := [], alts := [], laidByText := true, laidKinds := [.data, .data], laidTests := true, laidLooks := .later }
def HkdfMacsCardSaid : Prop := Claim7.holds Tryd.pinned (.plain (OpenSpec.ofChange hkdfMacsSpec)) hkdfMacsCard

/-- THE TIED CARD OF 'escutcheonlaw12.HkdfOutputs'. -/
def hkdfOutputsCard : Claim7 := { stood := { row := hkdfOutputsRow, standIns := [], harness := (true, "c2260f9dd7a1962dd3a21d0ecc5fd4444a69dd013bc626dd6209bbb7f1b8f128"), looks := false }, kinds := [], alts := [], laidByText := true, laidKinds := [.data, .data], laidTests := true, laidLooks := .later }
def HkdfOutputsCardSaid : Prop := Claim7.holds Tryd.pinned (.plain (OpenSpec.ofChange hkdfOutputsSpec)) hkdfOutputsCard

/-- THE TIED CARD OF 'escutcheonlaw12.HkdfLongs'. -/
def hkdfLongsCard : Claim7 := { stood := { row := hkdfLongsRow, standIns := [], harness := (true, "c2260f9dd7a1962dd3a21d0ecc5fd4444a69dd013bc626dd6209bbb7f1b8f128"), looks := false }, kinds := [], alts := [], laidByText := true, laidKinds := [.data, .data], laidTests := true, laidLooks := .later }
def HkdfLongsCardSaid : Prop := Claim7.holds Tryd.pinned (.plain (OpenSpec.ofChange hkdfLongsSpec)) hkdfLongsCard

/-- THE TIED CARD OF 'escutcheonlaw12.HkdfChains'. -/
def hkdfChainsCard : Claim7 := { stood := { row := hkdfChainsRow, standIns := [], harness := (true, "c2260f9dd7a1962dd3a21d0ecc5fd4444a69dd013bc626dd6209bbb7f1b8f128"), looks := false }, kinds := [], alts := [], laidByText := true, laidKinds := [.data, .data], laidTests := true, laidLooks := .later }
def HkdfChainsCardSaid : Prop := Claim7.holds Tryd.pinned (.plain (OpenSpec.ofChange hkdfChainsSpec)) hkdfChainsCard

/-- THE SECOND FORM's CARD OF 'escutcheonlaw12.HkdfMacs'. -/
def hkdfMacsUptoCard : Claim7 := { stood := { row := hkdfMacsUptoRow, standIns := [], harness := (true, "c2260f9dd7a1962dd3a21d0ecc5fd4444a69dd013bc626dd6209bbb7f1b8f128"), looks := false }, kinds := [], alts := [], laidByText := true, laidKinds := [.data, .data], laidTests := true, laidLooks := .later }
def HkdfMacsUptoCardSaid : Prop := Claim7.holds Tryd.pinned (.plain (OpenSpec.upto hkdfMacsSpec)) hkdfMacsUptoCard

/-- THE SECOND FORM's CARD OF 'escutcheonlaw12.HkdfOutputs'. -/
def hkdfOutputsUptoCard : Claim7 := { stood := { row := hkdfOutputsUptoRow, standIns := [], harness := (true, "c2260f9dd7a1962dd3a21d0ecc5fd4444a69dd013bc626dd6209bbb7f1b8f128"), looks := false }, kinds := [], alts := [], laidByText := true, laidKinds := [.data, .data], laidTests := true, laidLooks := .later }
def HkdfOutputsUptoCardSaid : Prop := Claim7.holds Tryd.pinned (.plain (OpenSpec.upto hkdfOutputsSpec)) hkdfOutputsUptoCard

/-- THE SECOND FORM's CARD OF 'escutcheonlaw12.HkdfLongs'. -/
def hkdfLongsUptoCard : Claim7 := { stood := { row := hkdfLongsUptoRow, standIns := [], harness := (true, "c2260f9dd7a1962dd3a21d0ecc5fd4444a69dd013bc626dd6209bbb7f1b8f128"), looks := false }, kinds := [], alts := [], laidByText := true, laidKinds := [.data, .data], laidTests := true, laidLooks := .later }
def HkdfLongsUptoCardSaid : Prop := Claim7.holds Tryd.pinned (.plain (OpenSpec.upto hkdfLongsSpec)) hkdfLongsUptoCard

/-- THE SECOND FORM's CARD OF 'escutcheonlaw12.HkdfChains'. -/
def hkdfChainsUptoCard : Claim7 := { stood := { row := hkdfChainsUptoRow, standIns := [], harness := (true, "c2260f9dd7a1962dd3a21d0ecc5fd4444a69dd013bc626dd6209bbb7f1b8f128"), looks := false }, kinds := [], alts := [], laidByText := true, laidKinds := [.data, .data], laidTests := true, laidLooks := .later }
def HkdfChainsUptoCardSaid : Prop := Claim7.holds Tryd.pinned (.plain (OpenSpec.upto hkdfChainsSpec)) hkdfChainsUptoCard
end Rows
end Go.Proofs.YthjechjffhhiiaaDoor
