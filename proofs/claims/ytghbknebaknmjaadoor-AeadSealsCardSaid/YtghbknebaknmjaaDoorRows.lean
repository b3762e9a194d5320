/-
  NARROWER THAN 'FOR EVERY INPUT', by the rows' own cells (each row's printed sentence says how): AeadSeals: laid · AeadOpens: laid · AeadTurns: laid · AeadCounts: laid.
  DERIVED. THE GIVEN ROWS OF THIS SEAT. 4 by the template 'for every input the law returns true; each argument reads behind the call as it read before'; 0 by the template 'total and deterministic' (their statements: YtghbknebaknmjaaDoorTotals.lean).
  GIVEN WITH THE SEED: the statements are not yours to turn. If you find one false, say at which input.
  Laid BY PROGRAM, IN A SANDBOX (cutbox-rows.mjs): the forced cells as the released guide's own fill.sh prints them over the translation 626ddd025266f3ae… (all of the seat's roots in one cut). By AI agents, Wed Nov 11 2026. No macro, syntax, notation, axiom, sorry.
-/
import Derived.Test.YtghbknebaknmjaaDoorChecked
import GoSem.Claim
import GoSem.ClaimJoined
import GoSem.ClaimMapViews
import Derived.JoinedTies
import Derived.KernelRfl
namespace Go.Proofs.YtghbknebaknmjaaDoor
/- THE CELL 'sum', in the pinned program and in every row, IS THE sha256 OF THE DUMP (.gsa) THAT YtghbknebaknmjaaDoorProg.lean LOADS. Nothing in Lean hashes anything: it is a label: what it is worth is what the hold of that sum in a sandbox is worth. -/
noncomputable def Tryd.pinned : Pinned := { name := "ytghbknebaknmjaadoor", sum := "626ddd025266f3aeae07095acdb680db65bc059fe2cb587e1acb7472a5d583f8", checked := Tryd.checked }
namespace Rows
def none {H : Type} : Left H := { results := [], args := [] }

/- WHAT THE LISTED PACKAGE-LEVEL VARIABLES READ AS WHEN THE CALL BEGINS. Each datum BY PROGRAM (the guide's laid-datum.mjs) off the statement by which the dump's own 'gosem.cut.vars' lays the variable. In a bare row this is a premise. The card (YtghbknebaknmjaaDoorCards.lean) ties it to the program's text. -/
def laid_escutcheon_poly_p {H : Type} : DataW H := .agg [.lit (.int .u64 18446744073709551611), .lit (.int .u64 18446744073709551615), .lit (.int .u64 3)]

/-- 'escutcheonlaw10.AeadSeals': WHATEVER THE INPUT: true; the input reads as it did. -/
def aeadSealsSpec : ChangeSpec := { name := "aeadSeals", fn := fun _ => fun
  | [d1, d2, d3, d4] => { results := [.lit (.bool true)], args := [d1, d2, d3, d4] }
  | _ => none }
def aeadSealsRow : OpenClaim := { program := "ytghbknebaknmjaadoor", sum := "626ddd025266f3aeae07095acdb680db65bc059fe2cb587e1acb7472a5d583f8", func := "escutcheon/escutcheonlaw10.AeadSeals", spec := "aeadSeals", inPlace := ["math/bits.Add64", "math/bits.Sub64"], unfollowed := true, recurses := true, named := ["escutcheon/poly.p"], apart := false, laid := [("escutcheon/poly.p", laid_escutcheon_poly_p)] }
def AeadSealsSaid : Prop := aeadSealsRow.holds Tryd.pinned (OpenSpec.ofChange aeadSealsSpec)

/-- ITS FALSE NEIGHBOUR: 'it returns false'. Refute it at one input. -/
def aeadSealsWrong : ChangeSpec := { name := "aeadSeals", fn := fun _ => fun
  | [d1, d2, d3, d4] => { results := [.lit (.bool false)], args := [d1, d2, d3, d4] }
  | _ => none }
def AeadSealsWrongFalsely : Prop := aeadSealsRow.holds Tryd.pinned (OpenSpec.ofChange aeadSealsWrong)

/-- 'escutcheonlaw10.AeadOpens': WHATEVER THE INPUT: true; the input reads as it did. -/
def aeadOpensSpec : ChangeSpec := { name := "aeadOpens", fn := fun _ => fun
  | [d1, d2, d3, d4] => { results := [.lit (.bool true)], args := [d1, d2, d3, d4] }
  | _ => none }
def aeadOpensRow : OpenClaim := { program := "ytghbknebaknmjaadoor", sum := "626ddd025266f3aeae07095acdb680db65bc059fe2cb587e1acb7472a5d583f8", func := "escutcheon/escutcheonlaw10.AeadOpens", spec := "aeadOpens", inPlace := ["math/bits.Add64", "math/bits.Sub64"], unfollowed := true, recurses := true, named := ["escutcheon/poly.p"], apart := false, laid := [("escutcheon/poly.p", laid_escutcheon_poly_p)] }
def AeadOpensSaid : Prop := aeadOpensRow.holds Tryd.pinned (OpenSpec.ofChange aeadOpensSpec)

/-- ITS FALSE NEIGHBOUR: 'it returns false'. Refute it at one input. -/
def aeadOpensWrong : ChangeSpec := { name := "aeadOpens", fn := fun _ => fun
  | [d1, d2, d3, d4] => { results := [.lit (.bool false)], args := [d1, d2, d3, d4] }
  | _ => none }
def AeadOpensWrongFalsely : Prop := aeadOpensRow.holds Tryd.pinned (OpenSpec.ofChange aeadOpensWrong)

/-- 'escutcheonlaw10.AeadTurns': WHATEVER THE INPUT: true; the input reads as it did. -/
def aeadTurnsSpec : ChangeSpec := { name := "aeadTurns", fn := fun _ => fun
  | [d1, d2, d3, d4, d5, d6] => { results := [.lit (.bool true)], args := [d1, d2, d3, d4, d5, d6] }
  | _ => none }
def aeadTurnsRow : OpenClaim := { program := "ytghbknebaknmjaadoor", sum := "626ddd025266f3aeae07095acdb680db65bc059fe2cb587e1acb7472a5d583f8", func := "escutcheon/escutcheonlaw10.AeadTurns", spec := "aeadTurns", inPlace := ["math/bits.Add64", "math/bits.Sub64"], unfollowed := true, recurses := true, named := ["escutcheon/poly.p"], apart := false, laid := [("escutcheon/poly.p", laid_escutcheon_poly_p)] }
def AeadTurnsSaid : Prop := aeadTurnsRow.holds Tryd.pinned (OpenSpec.ofChange aeadTurnsSpec)

/-- ITS FALSE NEIGHBOUR: 'it returns false'. Refute it at one input. -/
def aeadTurnsWrong : ChangeSpec := { name := "aeadTurns", fn := fun _ => fun
  | [d1, d2, d3, d4, d5, d6] => { results := [.lit (.bool false)], args := [d1, d2, d3, d4, d5, d6] }
  | _ => none }
def AeadTurnsWrongFalsely : Prop := aeadTurnsRow.holds Tryd.pinned (OpenSpec.ofChange aeadTurnsWrong)

/-- 'escutcheonlaw10.AeadCounts': WHATEVER THE INPUT: true; the input reads as it did. -/
def aeadCountsSpec : ChangeSpec := { name := "aeadCounts", fn := fun _ => fun
  | [d1, d2] => { results := [.lit (.bool true)], args := [d1, d2] }
  | _ => none }
def aeadCountsRow : OpenClaim := { program := "ytghbknebaknmjaadoor", sum := "626ddd025266f3aeae07095acdb680db65bc059fe2cb587e1acb7472a5d583f8", func := "escutcheon/escutcheonlaw10.AeadCounts", spec := "aeadCounts", inPlace := ["math/bits.Add64", "math/bits.Sub64"], unfollowed := true, recurses := true, named := ["escutcheon/poly.p"], apart := false, laid := [("escutcheon/poly.p", laid_escutcheon_poly_p)] }
def AeadCountsSaid : Prop := aeadCountsRow.holds Tryd.pinned (OpenSpec.ofChange aeadCountsSpec)

/-- ITS FALSE NEIGHBOUR: 'it returns false'. Refute it at one input. -/
def aeadCountsWrong : ChangeSpec := { name := "aeadCounts", fn := fun _ => fun
  | [d1, d2] => { results := [.lit (.bool false)], args := [d1, d2] }
  | _ => none }
def AeadCountsWrongFalsely : Prop := aeadCountsRow.holds Tryd.pinned (OpenSpec.ofChange aeadCountsWrong)

/- THE SECOND FORM. 'bulk': how many values and letters a reading holds, each counted each time it is reached (what is shared counts as often as it is met; a slice's spare places count too). A statement '..UptoSaid' is the law's where the arguments, and the package variables that the reading takes, are together of bulk at most 1048576: NARROWER than '..Said'. Prove '..Said' where nothing that the law and all that it calls make is longer than what came in: it says more and counts as full. Else prove '..UptoSaid'. A law counts once. -/
mutual
def uptoBulk {H : Type} : DataW H → Nat
  | .lit (.string bytes) => bytes.length + 1
  | .lit _ => 1
  | .nil => 1
  | .ptr d => uptoBulk d + 1
  | .slice elems spare => uptoBulkAll elems + uptoBulkAll spare + 1
  | .agg parts => uptoBulkAll parts + 1
  | .iface _ d => uptoBulk d + 1
  | .map entries => uptoBulkEntries entries + 1
  | .held _ => 1
def uptoBulkAll {H : Type} : List (DataW H) → Nat
  | [] => 0
  | d :: r => uptoBulk d + uptoBulkAll r
def uptoBulkEntries {H : Type} : List (Lit × DataW H) → Nat
  | [] => 0
  | x :: r => uptoBulkEntry x + uptoBulkEntries r
def uptoBulkEntry {H : Type} : Lit × DataW H → Nat
  | (.string bytes, d) => bytes.length + uptoBulk d + 1
  | (_, d) => uptoBulk d + 1
 end
def uptoSmall : (H : Type) → List (DataW H) → Bool := fun _ ds => decide (uptoBulkAll ds ≤ 1048576)
def OpenSpec.upto (s : _root_.Go.ChangeSpec) : _root_.Go.OpenSpec := { _root_.Go.OpenSpec.ofChange s with cond := some uptoSmall }

/-- 'escutcheonlaw10.AeadSeals', WHERE WHAT IT READS IS OF BULK AT MOST 1048576: true; the input reads as it did. -/
def aeadSealsUptoRow : OpenClaim := { program := "ytghbknebaknmjaadoor", sum := "626ddd025266f3aeae07095acdb680db65bc059fe2cb587e1acb7472a5d583f8", func := "escutcheon/escutcheonlaw10.AeadSeals", spec := "aeadSeals", inPlace := ["math/bits.Add64", "math/bits.Sub64"], unfollowed := true, recurses := true, named := ["escutcheon/poly.p"], apart := false, laid := [("escutcheon/poly.p", laid_escutcheon_poly_p)], narrowed := true }
def AeadSealsUptoSaid : Prop := aeadSealsUptoRow.holds Tryd.pinned (OpenSpec.upto aeadSealsSpec)

/-- 'escutcheonlaw10.AeadOpens', WHERE WHAT IT READS IS OF BULK AT MOST 1048576: true; the input reads as it did. -/
def aeadOpensUptoRow : OpenClaim := { program := "ytghbknebaknmjaadoor", sum := "626ddd025266f3aeae07095acdb680db65bc059fe2cb587e1acb7472a5d583f8", func := "escutcheon/escutcheonlaw10.AeadOpens", spec := "aeadOpens", inPlace := ["math/bits.Add64", "math/bits.Sub64"], unfollowed := true, recurses := true, named := ["escutcheon/poly.p"], apart := false, laid := [("escutcheon/poly.p", laid_escutcheon_poly_p)], narrowed := true }
def AeadOpensUptoSaid : Prop := aeadOpensUptoRow.holds Tryd.pinned (OpenSpec.upto aeadOpensSpec)

/-- 'escutcheonlaw10.AeadTurns', WHERE WHAT IT READS IS OF BULK AT MOST 1048576: true; the input reads as it did. -/
def aeadTurnsUptoRow : OpenClaim := { program := "ytghbknebaknmjaadoor", sum := "626ddd025266f3aeae07095acdb680db65bc059fe2cb587e1acb7472a5d583f8", func := "escutcheon/escutcheonlaw10.AeadTurns", spec := "aeadTurns", inPlace := ["math/bits.Add64", "math/bits.Sub64"], unfollowed := true, recurses := true, named := ["escutcheon/poly.p"], apart := false, laid := [("escutcheon/poly.p", laid_escutcheon_poly_p)], narrowed := true }
def AeadTurnsUptoSaid : Prop := aeadTurnsUptoRow.holds Tryd.pinned (OpenSpec.upto aeadTurnsSpec)

/-- 'escutcheonlaw10.AeadCounts', WHERE WHAT IT READS IS OF BULK AT MOST 1048576: true; the input reads as it did. -/
def aeadCountsUptoRow : OpenClaim := { program := "ytghbknebaknmjaadoor", sum := "626ddd025266f3aeae07095acdb680db65bc059fe2cb587e1acb7472a5d583f8", func := "escutcheon/escutcheonlaw10.AeadCounts", spec := "aeadCounts", inPlace := ["math/bits.Add64", "math/bits.Sub64"], unfollowed := true, recurses := true, named := ["escutcheon/poly.p"], apart := false, laid := [("escutcheon/poly.p", laid_escutcheon_poly_p)], narrowed := true }
def AeadCountsUptoSaid : Prop := aeadCountsUptoRow.holds Tryd.pinned (OpenSpec.upto aeadCountsSpec)

end Rows
end Go.Proofs.YtghbknebaknmjaaDoor
