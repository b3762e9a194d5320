/-
  DERIVED. GIVEN WITH THE SEED: THE CARDS: each row of YtghbknebaknmjaaDoorRows.lean that lists a variable, with what it lists TIED to the program's text (the seventh form; the later family's looks); each row that meets fmt, with fmt's text TOLD by the authors' own Lean function (tested against real Go, not proved from fmt's source: count such statements apart). THE CARD IS WHAT COUNTS. Prove the row's statement (the work); the ties are given (YtghbknebaknmjaaDoorTie.lean); close each card by the builder's one call (the guide's Derived/Test/ToyasCard.lean, 'card_holds'). Laid BY PROGRAM, IN A SANDBOX (cutbox-door.mjs). By AI agents, Wed Nov 11 2026. No macro, syntax, notation, axiom, sorry.
-/
import Derived.Test.YtghbknebaknmjaaDoorRows
import GoSem.ClaimSeven
namespace Go.Proofs.YtghbknebaknmjaaDoor
namespace Rows

/-- THE TIED CARD OF 'escutcheonlaw10.AeadSeals'. -/
def aeadSealsCard : Claim7 := { stood := { row := aeadSealsRow, standIns := [], harness := (true, "bf5d8d193154ea349ca3b3a3688157bf6901e5dd66eb402ba2f0a0fbbab0f18a"), looks := false }, kinds := [], alts := [], laidByText := true, laidKinds := [.data], laidTests := true, laidLooks := .later }
def AeadSealsCardSaid : Prop := Claim7.holds Tryd.pinned (.plain (OpenSpec.ofChange aeadSealsSpec)) aeadSealsCard

/-- THE TIED CARD OF 'escutcheonlaw10.AeadOpens'. -/
def aeadOpensCard : Claim7 := { stood := { row := aeadOpensRow, standIns := [], harness := (true, "bf5d8d193154ea349ca3b3a3688157bf6901e5dd66eb402ba2f0a0fbbab0f18a"), looks := false }, kinds := [], alts := [], laidByText := true, laidKinds := [.data], laidTests := true, laidLooks := .later }
def AeadOpensCardSaid : Prop := Claim7.holds Tryd.pinned (.plain (OpenSpec.ofChange aeadOpensSpec)) aeadOpensCard

/-- THE TIED CARD OF 'escutcheonlaw10.AeadTurns'. -/
def aeadTurnsCard : Claim7 := { stood := { row := aeadTurnsRow, standIns := [], harness := (true, "bf5d8d193154ea349ca3b3a3688157bf6901e5dd66eb402ba2f0a0fbbab0f18a"), looks := false }, kinds := [], alts := [], laidByText := true, laidKinds := [.data], laidTests := true, laidLooks := .later }
def AeadTurnsCardSaid : Prop := Claim7.holds Tryd.pinned (.plain (OpenSpec.ofChange aeadTurnsSpec)) aeadTurnsCard

/-- THE TIED CARD OF 'escutcheonlaw10.AeadCounts'. -/
def aeadCountsCard : Claim7 := { stood := { row := aeadCountsRow, standIns := [], harness := (true, "bf5d8d193154ea349ca3b3a3688157bf6901e5dd66eb402ba2f0a0fbbab0f18a"), looks := false }, kinds := [], alts := [], laidByText := true, laidKinds := [.data], laidTests := true, laidLooks := .later }
def AeadCountsCardSaid : Prop := Claim7.holds Tryd.pinned (.plain (OpenSpec.ofChange aeadCountsSpec)) aeadCountsCard

/-- THE SECOND FORM's CARD OF 'escutcheonlaw10.AeadSeals'. -/
def aeadSealsUptoCard : Claim7 := { stood := { row := aeadSealsUptoRow, standIns := [], harness := (true, "bf5d8d193154ea349ca3b3a3688157bf6901e5dd66eb402ba2f0a0fbbab0f18a"), looks := false }, kinds := [], alts := [], laidByText := true, laidKinds := [.data], laidTests := true, laidLooks := .later }
def AeadSealsUptoCardSaid : Prop := Claim7.holds Tryd.pinned (.plain (OpenSpec.upto aeadSealsSpec)) aeadSealsUptoCard

/-- THE SECOND FORM's CARD OF 'escutcheonlaw10.AeadOpens'. -/
def aeadOpensUptoCard : Claim7 := { stood := { row := aeadOpensUptoRow, standIns := [], harness := (true, "bf5d8d193154ea349ca3b3a3688157bf6901e5dd66eb402ba2f0a0fbbab0f18a"), looks := false }, kinds := [], alts := [], laidByText := true, laidKinds := [.data], laidTests := true, laidLooks := .later }
def AeadOpensUptoCardSaid : Prop := Claim7.holds Tryd.pinned (.plain (OpenSpec.upto aeadOpensSpec)) aeadOpensUptoCard

/-- THE SECOND FORM's CARD OF 'escutcheonlaw10.AeadTurns'. -/
def aeadTurnsUptoCard : Claim7 := { stood := { row := aeadTurnsUptoRow, standIns := [], harness := (true, "bf5d8d193154ea349ca3b3a3688157bf6901e5dd66eb402ba2f0a0fbbab0f18a"), looks := false }, kinds := [], alts := [], laidByText := true, laidKinds := [.data], laidTests := true, laidLooks := .later }
def AeadTurnsUptoCardSaid : Prop := Claim7.holds Tryd.pinned (.plain (OpenSpec.upto aeadTurnsSpec)) aeadTurnsUptoCard

/-- THE SECOND FORM's CARD OF 'escutcheonlaw10.AeadCounts'. -/
def aeadCountsUptoCard : Claim7 := { stood := { row := aeadCountsUptoRow, standIns := [], harness := (true, "bf5d8d193154ea349ca3b3a3688157bf6901e5dd66eb402ba2f0a0fbbab0f18a"), looks := false }, kinds := [], alts := [], laidByText := true, laidKinds := [.data], laidTests := true, laidLooks := .later }
def AeadCountsUptoCardSaid : Prop := Claim7.holds Tryd.pinned (.plain (OpenSpec.upto aeadCountsSpec)) aeadCountsUptoCard
end Rows
end Go.Proofs.YtghbknebaknmjaaDoor
