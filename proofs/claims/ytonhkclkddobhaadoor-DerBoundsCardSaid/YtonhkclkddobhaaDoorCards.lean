/-
  DERIVED. GIVEN WITH THE SEED: THE CARDS: each row of YtonhkclkddobhaaDoorRows.lean that lists a variable, with what it lists TIED to the program's text (the seventh form; the later family's looks); each row that meets fmt, with fmt's text TOLD by the authors' own Lean function (tested against real Go, not proved from fmt's source: count such statements apart). THE CARD IS WHAT COUNTS. Prove the row's statement (the work); the ties are given (YtonhkclkddobhaaDoorTie.lean); close each card by the builder's one call (the guide's Derived/Test/ToyasCard.lean, 'card_holds'). Laid BY PROGRAM, IN A SANDBOX (cutbox-door.mjs). By AI agents, Wed Nov 11 2026. No macro, syntax, notation, axiom, sorry.
-/
import Derived.Test.YtonhkclkddobhaaDoorRows
import GoSem.ClaimSeven
namespace Go.Proofs.YtonhkclkddobhaaDoor
namespace Rows

/-- THE TIED CARD OF 'escutcheonlaw13.DerBounds'. -/
def derBoundsCard : Claim7 := { stood := { row := derBoundsRow, standIns := [], harness := (true, "79516a89488a9a789ad09d7410a469f8273f9e7c4a50292deef9cdae4ed5b809"), looks := false }, kinds := [], alts := [], laidByText := true, laidKinds := [.data, .data, .pinned], laidTests := true, laidLooks := .later }
def DerBoundsCardSaid : Prop := Claim7.holds Tryd.pinned (.plain (OpenSpec.ofChange derBoundsSpec)) derBoundsCard

/-- THE SECOND FORM's CARD OF 'escutcheonlaw13.DerBounds'. -/
def derBoundsUptoCard : Claim7 := { stood := { row := derBoundsUptoRow, standIns := [], harness := (true, "79516a89488a9a789ad09d7410a469f8273f9e7c4a50292deef9cdae4ed5b809"), looks := false }, kinds := [], alts := [], laidByText := true, laidKinds := [.data, .data, .pinned], laidTests := true, laidLooks := .later }
def DerBoundsUptoCardSaid : Prop := Claim7.holds Tryd.pinned (.plain (OpenSpec.upto derBoundsSpec)) derBoundsUptoCard
end Rows
end Go.Proofs.YtonhkclkddobhaaDoor
