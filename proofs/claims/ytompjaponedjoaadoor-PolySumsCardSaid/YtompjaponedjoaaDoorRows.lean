/-
  NARROWER THAN 'FOR EVERY INPUT', by the rows' own cells (each row's printed sentence says how): PolyTags: laid · PolyNoughts: laid · PolyEqual: laid · PolySums: laid.
  DERIVED. THE GIVEN ROWS OF THIS SEAT. 4 by the template 'for every input the law returns true; each argument reads behind the call as it read before'; 0 by the template 'total and deterministic' (their statements: YtompjaponedjoaaDoorTotals.lean).
  GIVEN WITH THE SEED: the statements are not yours to turn. If you find one false, say at which input.
  Laid BY PROGRAM, IN A SANDBOX (cutbox-rows.mjs): the forced cells as the released guide's own fill.sh prints them over the translation 6d0f6556d5245964… (all of the seat's roots in one cut). By AI agents, Wed Nov 11 2026. No macro, syntax, notation, axiom, sorry.
-/
import Derived.Test.YtompjaponedjoaaDoorChecked
import GoSem.Claim
import GoSem.ClaimJoined
import GoSem.ClaimMapViews
import Derived.JoinedTies
import Derived.KernelRfl
namespace Go.Proofs.YtompjaponedjoaaDoor
/- THE CELL 'sum', in the pinned program and in every row, IS THE sha256 OF THE DUMP (.gsa) THAT YtompjaponedjoaaDoorProg.lean LOADS. Nothing in Lean hashes anything: it is a label: what it is worth is what the hold of that sum in a sandbox is worth. -/
noncomputable def Tryd.pinned : Pinned := { name := "ytompjaponedjoaadoor", sum := "6d0f6556d52459645bd5c10dceb1653700966d313bb5e45eeaeb786e48efece4", checked := Tryd.checked }
namespace Rows
def none {H : Type} : Left H := { results := [], args := [] }

/- WHAT THE LISTED PACKAGE-LEVEL VARIABLES READ AS WHEN THE CALL BEGINS. Each datum BY PROGRAM (the guide's laid-datum.mjs) off the statement by which the dump's own 'gosem.cut.vars' lays the variable. In a bare row this is a premise. The card (YtompjaponedjoaaDoorCards.lean) ties it to the program's text. -/
def laid_escutcheon_poly_p {H : Type} : DataW H := .agg [.lit (.int .u64 18446744073709551611), .lit (.int .u64 18446744073709551615), .lit (.int .u64 3)]

/-- 'escutcheonlaw09.PolyTags': WHATEVER THE INPUT: true; the input reads as it did. -/
def polyTagsSpec : ChangeSpec := { name := "polyTags", fn := fun _ => fun
  | [d1, d2, d3] => { results := [.lit (.bool true)], args := [d1, d2, d3] }
  | _ => none }
def polyTagsRow : OpenClaim := { program := "ytompjaponedjoaadoor", sum := "6d0f6556d52459645bd5c10dceb1653700966d313bb5e45eeaeb786e48efece4", func := "escutcheon/escutcheonlaw09.PolyTags", spec := "polyTags", inPlace := ["math/bits.Add64", "math/bits.Sub64"], named := ["escutcheon/poly.p"], apart := false, laid := [("escutcheon/poly.p", laid_escutcheon_poly_p)] }
def PolyTagsSaid : Prop := polyTagsRow.holds Tryd.pinned (OpenSpec.ofChange polyTagsSpec)

/-- ITS FALSE NEIGHBOUR: 'it returns false'. Refute it at one input. -/
def polyTagsWrong : ChangeSpec := { name := "polyTags", fn := fun _ => fun
  | [d1, d2, d3] => { results := [.lit (.bool false)], args := [d1, d2, d3] }
  | _ => none }
def PolyTagsWrongFalsely : Prop := polyTagsRow.holds Tryd.pinned (OpenSpec.ofChange polyTagsWrong)

/-- 'escutcheonlaw09.PolyNoughts': WHATEVER THE INPUT: true; the input reads as it did. -/
def polyNoughtsSpec : ChangeSpec := { name := "polyNoughts", fn := fun _ => fun
  | [d1, d2] => { results := [.lit (.bool true)], args := [d1, d2] }
  | _ => none }
def polyNoughtsRow : OpenClaim := { program := "ytompjaponedjoaadoor", sum := "6d0f6556d52459645bd5c10dceb1653700966d313bb5e45eeaeb786e48efece4", func := "escutcheon/escutcheonlaw09.PolyNoughts", spec := "polyNoughts", inPlace := ["math/bits.Add64", "math/bits.Sub64"], named := ["escutcheon/poly.p"], apart := false, laid := [("escutcheon/poly.p", laid_escutcheon_poly_p)] }
def PolyNoughtsSaid : Prop := polyNoughtsRow.holds Tryd.pinned (OpenSpec.ofChange polyNoughtsSpec)

/-- ITS FALSE NEIGHBOUR: 'it returns false'. Refute it at one input. -/
def polyNoughtsWrong : ChangeSpec := { name := "polyNoughts", fn := fun _ => fun
  | [d1, d2] => { results := [.lit (.bool false)], args := [d1, d2] }
  | _ => none }
def PolyNoughtsWrongFalsely : Prop := polyNoughtsRow.holds Tryd.pinned (OpenSpec.ofChange polyNoughtsWrong)

/-- 'escutcheonlaw09.PolyEqual': WHATEVER THE INPUT: true; the input reads as it did. -/
def polyEqualSpec : ChangeSpec := { name := "polyEqual", fn := fun _ => fun
  | [d1, d2] => { results := [.lit (.bool true)], args := [d1, d2] }
  | _ => none }
def polyEqualRow : OpenClaim := { program := "ytompjaponedjoaadoor", sum := "6d0f6556d52459645bd5c10dceb1653700966d313bb5e45eeaeb786e48efece4", func := "escutcheon/escutcheonlaw09.PolyEqual", spec := "polyEqual", inPlace := ["math/bits.Add64", "math/bits.Sub64"], named := ["escutcheon/poly.p"], apart := false, laid := [("escutcheon/poly.p", laid_escutcheon_poly_p)] }
def PolyEqualSaid : Prop := polyEqualRow.holds Tryd.pinned (OpenSpec.ofChange polyEqualSpec)

/-- ITS FALSE NEIGHBOUR: 'it returns false'. Refute it at one input. -/
def polyEqualWrong : ChangeSpec := { name := "polyEqual", fn := fun _ => fun
  | [d1, d2] => { results := [.lit (.bool false)], args := [d1, d2] }
  | _ => none }
def PolyEqualWrongFalsely : Prop := polyEqualRow.holds Tryd.pinned (OpenSpec.ofChange polyEqualWrong)

/-- 'escutcheonlaw09.PolySums': WHATEVER THE INPUT: true; the input reads as it did. -/
def polySumsSpec : ChangeSpec := { name := "polySums", fn := fun _ => fun
  | [d1, d2, d3] => { results := [.lit (.bool true)], args := [d1, d2, d3] }
  | _ => none }
def polySumsRow : OpenClaim := { program := "ytompjaponedjoaadoor", sum := "6d0f6556d52459645bd5c10dceb1653700966d313bb5e45eeaeb786e48efece4", func := "escutcheon/escutcheonlaw09.PolySums", spec := "polySums", inPlace := ["math/bits.Add64", "math/bits.Sub64"], named := ["escutcheon/poly.p"], apart := false, laid := [("escutcheon/poly.p", laid_escutcheon_poly_p)] }
def PolySumsSaid : Prop := polySumsRow.holds Tryd.pinned (OpenSpec.ofChange polySumsSpec)

/-- ITS FALSE NEIGHBOUR: 'it returns false'. Refute it at one input. -/
def polySumsWrong : ChangeSpec := { name := "polySums", fn := fun _ => fun
  | [d1, d2, d3] => { results := [.lit (.bool false)], args := [d1, d2, d3] }
  | _ => none }
def PolySumsWrongFalsely : Prop := polySumsRow.holds Tryd.pinned (OpenSpec.ofChange polySumsWrong)

/- THE SECOND FORM. 'bulk': how many values and letters a reading holds, each counted each time it is reached (what is shared counts as often as it is met; a slice's spare places count too). A statement '..UptoSaid' is the law's where the arguments, and the package variables that the reading takes, are together of bulk at most 1048576: NARROWER than '..Said'. Prove '..Said' where nothing that the law and all that it calls make is longer than what came in: it says more and counts as full. Else prove '..UptoSaid'. A law counts once. -/
mutual
def uptoBulk {H : Type} : DataW H → Nat
  | .lit (.string bytes) => bytes.length + 1
  | .lit _ => 1
  | .nil => 1
  | .ptr d => uptoBulk d + 1
  | .slice elems spare => uptoBulkAll elems + uptoBulkAll spare + 1
  | .agg parts => uptoBulkAll parts + 1
  | .iface _ d => uptoBulk d + 1
  | .map entries => uptoBulkEntries entries + 1
  | .held _ => 1
def uptoBulkAll {H : Type} : List (DataW H) → Nat
  | [] => 0
  | d :: r => uptoBulk d + uptoBulkAll r
def uptoBulkEntries {H : Type} : List (Lit × DataW H) → Nat
  | [] => 0
  | x :: r => uptoBulkEntry x + uptoBulkEntries r
def uptoBulkEntry {H : Type} : Lit × DataW H → Nat
  | (.string bytes, d) => bytes.length + uptoBulk d + 1
  | (_, d) => uptoBulk d + 1
 end
def uptoSmall : (H : Type) → List (DataW H) → Bool := fun _ ds => decide (uptoBulkAll ds ≤ 1048576)
def OpenSpec.upto (s : _root_.Go.ChangeSpec) : _root_.Go.OpenSpec := { _root_.Go.OpenSpec.ofChange s with cond := some uptoSmall }

/-- 'escutcheonlaw09.PolyTags', WHERE WHAT IT READS IS OF BULK AT MOST 1048576: true; the input reads as it did. -/
def polyTagsUptoRow : OpenClaim := { program := "ytompjaponedjoaadoor", sum := "6d0f6556d52459645bd5c10dceb1653700966d313bb5e45eeaeb786e48efece4", func := "escutcheon/escutcheonlaw09.PolyTags", spec := "polyTags", inPlace := ["math/bits.Add64", "math/bits.Sub64"], named := ["escutcheon/poly.p"], apart := false, laid := [("escutcheon/poly.p", laid_escutcheon_poly_p)], narrowed := true }
def PolyTagsUptoSaid : Prop := polyTagsUptoRow.holds Tryd.pinned (OpenSpec.upto polyTagsSpec)

/-- 'escutcheonlaw09.PolyNoughts', WHERE WHAT IT READS IS OF BULK AT MOST 1048576: true; the input reads as it did. -/
def polyNoughtsUptoRow : OpenClaim := { program := "ytompjaponedjoaadoor", sum := "6d0f6556d52459645bd5c10dceb1653700966d313bb5e45eeaeb786e48efece4", func := "escutcheon/escutcheonlaw09.PolyNoughts", spec := "polyNoughts", inPlace := ["math/bits.Add64", "math/bits.Sub64"], named := ["escutcheon/poly.p"], apart := false, laid := [("escutcheon/poly.p", laid_escutcheon_poly_p)], narrowed := true }
def PolyNoughtsUptoSaid : Prop := polyNoughtsUptoRow.holds Tryd.pinned (OpenSpec.upto polyNoughtsSpec)

/-- 'escutcheonlaw09.PolyEqual', WHERE WHAT IT READS IS OF BULK AT MOST 1048576: true; the input reads as it did. -/
def polyEqualUptoRow : OpenClaim := { program := "ytompjaponedjoaadoor", sum := "6d0f6556d52459645bd5c10dceb1653700966d313bb5e45eeaeb786e48efece4", func := "escutcheon/escutcheonlaw09.PolyEqual", spec := "polyEqual", inPlace := ["math/bits.Add64", "math/bits.Sub64"], named := ["escutcheon/poly.p"], apart := false, laid := [("escutcheon/poly.p", laid_escutcheon_poly_p)], narrowed := true }
def PolyEqualUptoSaid : Prop := polyEqualUptoRow.holds Tryd.pinned (OpenSpec.upto polyEqualSpec)

/-- 'escutcheonlaw09.PolySums', WHERE WHAT IT READS IS OF BULK AT MOST 1048576: true; the input reads as it did. -/
def polySumsUptoRow : OpenClaim := { program := "ytompjaponedjoaadoor", sum := "6d0f6556d52459645bd5c10dceb1653700966d313bb5e45eeaeb786e48efece4", func := "escutcheon/escutcheonlaw09.PolySums", spec := "polySums", inPlace := ["math/bits.Add64", "math/bits.Sub64"], named := ["escutcheon/poly.p"], apart := false, laid := [("escutcheon/poly.p", laid_escutcheon_poly_p)], narrowed := true }
def PolySumsUptoSaid : Prop := polySumsUptoRow.holds Tryd.pinned (OpenSpec.upto polySumsSpec)

end Rows
end Go.Proofs.YtompjaponedjoaaDoor
