/-
  DERIVED. GIVEN WITH THE SEED: THE CARDS: each row of YtkohaibihkckbaaDoorRows.lean that lists a variable, with what it lists TIED to the program's text (the seventh form; the later family's looks); each row that meets fmt, with fmt's text TOLD by the authors' own Lean function (tested against real Go, not proved from fmt's source: count such statements apart). THE CARD IS WHAT COUNTS. Prove the row's statement (the work); the ties are given (YtkohaibihkckbaaDoorTie.lean); close each card by the builder's one call (the guide's Derived/Test/ToyasCard.lean, 'card_holds'). Laid BY PROGRAM, IN A SANDBOX (cutbox-door.mjs). By AI agents, Wed Nov 11 2026. No macro, syntax, notation, axiom, sorry.
-/
import Derived.Test.YtkohaibihkckbaaDoorRows
import GoSem.ClaimSeven
namespace Go.Proofs.YtkohaibihkckbaaDoor
namespace Rows

/-- THE TIED CARD OF 'escutcheonlaw11.BlakeSums'. -/
def blakeSumsCard : Claim7 := { stood := { row := blakeSumsRow, standIns := [], harness := (true, "34a6f377ac9b2f2e077bc147301f8754179eff791dfbf5ece77c4cf7eab644c6"), looks := false }, kinds := [], alts := [], laidByText := true, laidKinds := [.data, .data], laidTests := true, laidLooks := .later }
def BlakeSumsCardSaid : Prop := Claim7.holds Tryd.pinned (.plain (OpenSpec.ofChange blakeSumsSpec)) blakeSumsCard

/-- THE TIED CARD OF 'escutcheonlaw11.BlakeTables'. -/
def blakeTablesCard : Claim7 := { stood := { row := blakeTablesRow, standIns := [], harness := (true, "34a6f377ac9b2f2e077bc147301f8754179eff791dfbf5ece77c4cf7eab644c6"), looks := false }, kinds := [], alts := [], laidByText := true, laidKinds := [.data, .data], laidTests := true, laidLooks := .later }
def BlakeTablesCardSaid : Prop := Claim7.holds Tryd.pinned (.plain (OpenSpec.ofChange blakeTablesSpec)) blakeTablesCard

/-- THE SECOND FORM's CARD OF 'escutcheonlaw11.BlakeSums'. -/
def blakeSumsUptoCard : Claim7 := { stood := { row := blakeSumsUptoRow, standIns := [], harness := (true, "34a6f377ac9b2f2e077bc147301f8754179eff791dfbf5ece77c4cf7eab644c6"), looks := false }, kinds := [], alts := [], laidByText := true, laidKinds := [.data, .data], laidTests := true, laidLooks := .later }
def BlakeSumsUptoCardSaid : Prop := Claim7.holds Tryd.pinned (.plain (OpenSpec.upto blakeSumsSpec)) blakeSumsUptoCard

/-- THE SECOND FORM's CARD OF 'escutcheonlaw11.BlakeTables'. -/
def blakeTablesUptoCard : Claim7 := { stood := { row := blakeTablesUptoRow, standIns := [], harness := (true, "34a6f377ac9b2f2e077bc147301f8754179eff791dfbf5ece77c4cf7eab644c6"), looks := false }, kinds := [], alts := [], laidByText := true, laidKinds := [.data, .data], laidTests := true, laidLooks := .later }
def BlakeTablesUptoCardSaid : Prop := Claim7.holds Tryd.pinned (.plain (OpenSpec.upto blakeTablesSpec)) blakeTablesUptoCard
end Rows
end Go.Proofs.YtkohaibihkckbaaDoor
