/-
  DERIVED. GIVEN WITH THE SEED: THE CARDS: each row of YtpagiffbjofihaaDoorRows.lean that lists a variable, with what it lists TIED to the program's text (the seventh form; the later family's looks); each row that meets fmt, with fmt's text TOLD by the authors' own Lean function (tested against real Go, not proved from fmt's source: count such statements apart). THE CARD IS WHAT COUNTS. Prove the row's statement (the work); the ties are given (YtpagiffbjofihaaDoorTie.lean); close each card by the builder's one call (the guide's Derived/Test/ToyasCard.lean, 'card_holds'). Laid BY PROGRAM, IN A SANDBOX (cutbox-door.mjs). By AI agents, Wed Nov 11 2026. No macro, syntax, notation, axiom, sorry.
-/
import Derived.Test.YtpagiffbjofihaaDoorRows
import GoSem.ClaimSeven
namespace Go.Proofs.YtpagiffbjofihaaDoor
namespace Rows

/-- THE TIED CARD OF 'escutcheonlaw07.SignOther'. -/
def signOtherCard : Claim7 := { stood := { row := signOtherRow, standIns := [], harness := (true, "10de0d46108d8c6318204816b14b429229e186a87c071ebd1073a5d00274fa72"), looks := false }, kinds := [], alts := [], laidByText := true, laidKinds := [.data, .data, .data], laidTests := true, laidLooks := .later }
def SignOtherCardSaid : Prop := Claim7.holds Tryd.pinned (.plain (OpenSpec.ofChange signOtherSpec)) signOtherCard

/-- THE SECOND FORM's CARD OF 'escutcheonlaw07.SignOther'. -/
def signOtherUptoCard : Claim7 := { stood := { row := signOtherUptoRow, standIns := [], harness := (true, "10de0d46108d8c6318204816b14b429229e186a87c071ebd1073a5d00274fa72"), looks := false }, kinds := [], alts := [], laidByText := true, laidKinds := [.data, .data, .data], laidTests := true, laidLooks := .later }
def SignOtherUptoCardSaid : Prop := Claim7.holds Tryd.pinned (.plain (OpenSpec.upto signOtherSpec)) signOtherUptoCard
end Rows
end Go.Proofs.YtpagiffbjofihaaDoor
