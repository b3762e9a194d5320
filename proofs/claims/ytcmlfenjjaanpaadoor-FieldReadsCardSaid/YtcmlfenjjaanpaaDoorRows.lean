/-
  NARROWER THAN 'FOR EVERY INPUT', by the rows' own cells (each row's printed sentence says how): FieldReads: laid · FieldReckons: laid · FieldPowers: laid · FieldRoots: laid · FieldIs: laid · FieldPicks: laid · FieldInverts: laid.
  DERIVED. THE GIVEN ROWS OF THIS SEAT. 7 by the template 'for every input the law returns true; each argument reads behind the call as it read before'; 0 by the template 'total and deterministic' (their statements: YtcmlfenjjaanpaaDoorTotals.lean).
  GIVEN WITH THE SEED: the statements are not yours to turn. If you find one false, say at which input.
  Laid BY PROGRAM, IN A SANDBOX (cutbox-rows.mjs): the forced cells as the released guide's own fill.sh prints them over the translation bdb9fbded85b5d57… (all of the seat's roots in one cut). By AI agents, Wed Nov 11 2026. No macro, syntax, notation, axiom, sorry.
-/
import Derived.Test.YtcmlfenjjaanpaaDoorChecked
import GoSem.Claim
import GoSem.ClaimJoined
import GoSem.ClaimMapViews
import Derived.JoinedTies
import Derived.KernelRfl
namespace Go.Proofs.YtcmlfenjjaanpaaDoor
/- THE CELL 'sum', in the pinned program and in every row, IS THE sha256 OF THE DUMP (.gsa) THAT YtcmlfenjjaanpaaDoorProg.lean LOADS. Nothing in Lean hashes anything: it is a label: what it is worth is what the hold of that sum in a sandbox is worth. -/
noncomputable def Tryd.pinned : Pinned := { name := "ytcmlfenjjaanpaadoor", sum := "bdb9fbded85b5d57a04c48b07cd64331d751451f6d7862ce8ee938af6184e5c7", checked := Tryd.checked }
namespace Rows
def none {H : Type} : Left H := { results := [], args := [] }

/- WHAT THE LISTED PACKAGE-LEVEL VARIABLES READ AS WHEN THE CALL BEGINS. Each datum BY PROGRAM (the guide's laid-datum.mjs) off the statement by which the dump's own 'gosem.cut.vars' lays the variable. In a bare row this is a premise. The card (YtcmlfenjjaanpaaDoorCards.lean) ties it to the program's text. -/
def laid_escutcheon_field_p {H : Type} : DataW H := .agg [.lit (.int .u64 18446744073709551597), .lit (.int .u64 18446744073709551615), .lit (.int .u64 18446744073709551615), .lit (.int .u64 9223372036854775807)]

/-- 'escutcheonlaw02.FieldReads': WHATEVER THE INPUT: true; the input reads as it did. -/
def fieldReadsSpec : ChangeSpec := { name := "fieldReads", fn := fun _ => fun
  | [d1, d2] => { results := [.lit (.bool true)], args := [d1, d2] }
  | _ => none }
def fieldReadsRow : OpenClaim := { program := "ytcmlfenjjaanpaadoor", sum := "bdb9fbded85b5d57a04c48b07cd64331d751451f6d7862ce8ee938af6184e5c7", func := "escutcheon/escutcheonlaw02.FieldReads", spec := "fieldReads", inPlace := ["math/bits.Add64", "math/bits.Sub64"], recurses := true, named := ["escutcheon/field.p"], apart := false, laid := [("escutcheon/field.p", laid_escutcheon_field_p)] }
def FieldReadsSaid : Prop := fieldReadsRow.holds Tryd.pinned (OpenSpec.ofChange fieldReadsSpec)

/-- ITS FALSE NEIGHBOUR: 'it returns false'. Refute it at one input. -/
def fieldReadsWrong : ChangeSpec := { name := "fieldReads", fn := fun _ => fun
  | [d1, d2] => { results := [.lit (.bool false)], args := [d1, d2] }
  | _ => none }
def FieldReadsWrongFalsely : Prop := fieldReadsRow.holds Tryd.pinned (OpenSpec.ofChange fieldReadsWrong)

/-- 'escutcheonlaw02.FieldReckons': WHATEVER THE INPUT: true; the input reads as it did. -/
def fieldReckonsSpec : ChangeSpec := { name := "fieldReckons", fn := fun _ => fun
  | [d1, d2] => { results := [.lit (.bool true)], args := [d1, d2] }
  | _ => none }
def fieldReckonsRow : OpenClaim := { program := "ytcmlfenjjaanpaadoor", sum := "bdb9fbded85b5d57a04c48b07cd64331d751451f6d7862ce8ee938af6184e5c7", func := "escutcheon/escutcheonlaw02.FieldReckons", spec := "fieldReckons", inPlace := ["math/bits.Add64", "math/bits.Sub64"], recurses := true, named := ["escutcheon/field.p"], apart := false, laid := [("escutcheon/field.p", laid_escutcheon_field_p)] }
def FieldReckonsSaid : Prop := fieldReckonsRow.holds Tryd.pinned (OpenSpec.ofChange fieldReckonsSpec)

/-- ITS FALSE NEIGHBOUR: 'it returns false'. Refute it at one input. -/
def fieldReckonsWrong : ChangeSpec := { name := "fieldReckons", fn := fun _ => fun
  | [d1, d2] => { results := [.lit (.bool false)], args := [d1, d2] }
  | _ => none }
def FieldReckonsWrongFalsely : Prop := fieldReckonsRow.holds Tryd.pinned (OpenSpec.ofChange fieldReckonsWrong)

/-- 'escutcheonlaw02.FieldPowers': WHATEVER THE INPUT: true; the input reads as it did. -/
def fieldPowersSpec : ChangeSpec := { name := "fieldPowers", fn := fun _ => fun
  | [d1, d2] => { results := [.lit (.bool true)], args := [d1, d2] }
  | _ => none }
def fieldPowersRow : OpenClaim := { program := "ytcmlfenjjaanpaadoor", sum := "bdb9fbded85b5d57a04c48b07cd64331d751451f6d7862ce8ee938af6184e5c7", func := "escutcheon/escutcheonlaw02.FieldPowers", spec := "fieldPowers", inPlace := ["math/bits.Add64", "math/bits.Sub64"], recurses := true, named := ["escutcheon/field.p"], apart := false, laid := [("escutcheon/field.p", laid_escutcheon_field_p)] }
def FieldPowersSaid : Prop := fieldPowersRow.holds Tryd.pinned (OpenSpec.ofChange fieldPowersSpec)

/-- ITS FALSE NEIGHBOUR: 'it returns false'. Refute it at one input. -/
def fieldPowersWrong : ChangeSpec := { name := "fieldPowers", fn := fun _ => fun
  | [d1, d2] => { results := [.lit (.bool false)], args := [d1, d2] }
  | _ => none }
def FieldPowersWrongFalsely : Prop := fieldPowersRow.holds Tryd.pinned (OpenSpec.ofChange fieldPowersWrong)

/-- 'escutcheonlaw02.FieldRoots': WHATEVER THE INPUT: true; the input reads as it did. -/
def fieldRootsSpec : ChangeSpec := { name := "fieldRoots", fn := fun _ => fun
  | [d1, d2, d3] => { results := [.lit (.bool true)], args := [d1, d2, d3] }
  | _ => none }
def fieldRootsRow : OpenClaim := { program := "ytcmlfenjjaanpaadoor", sum := "bdb9fbded85b5d57a04c48b07cd64331d751451f6d7862ce8ee938af6184e5c7", func := "escutcheon/escutcheonlaw02.FieldRoots", spec := "fieldRoots", inPlace := ["math/bits.Add64", "math/bits.Sub64"], recurses := true, named := ["escutcheon/field.p"], apart := false, laid := [("escutcheon/field.p", laid_escutcheon_field_p)] }
def FieldRootsSaid : Prop := fieldRootsRow.holds Tryd.pinned (OpenSpec.ofChange fieldRootsSpec)

/-- ITS FALSE NEIGHBOUR: 'it returns false'. Refute it at one input. -/
def fieldRootsWrong : ChangeSpec := { name := "fieldRoots", fn := fun _ => fun
  | [d1, d2, d3] => { results := [.lit (.bool false)], args := [d1, d2, d3] }
  | _ => none }
def FieldRootsWrongFalsely : Prop := fieldRootsRow.holds Tryd.pinned (OpenSpec.ofChange fieldRootsWrong)

/-- 'escutcheonlaw02.FieldIs': WHATEVER THE INPUT: true; the input reads as it did. -/
def fieldIsSpec : ChangeSpec := { name := "fieldIs", fn := fun _ => fun
  | [d1, d2, d3] => { results := [.lit (.bool true)], args := [d1, d2, d3] }
  | _ => none }
def fieldIsRow : OpenClaim := { program := "ytcmlfenjjaanpaadoor", sum := "bdb9fbded85b5d57a04c48b07cd64331d751451f6d7862ce8ee938af6184e5c7", func := "escutcheon/escutcheonlaw02.FieldIs", spec := "fieldIs", inPlace := ["math/bits.Add64", "math/bits.Sub64"], named := ["escutcheon/field.p"], apart := false, laid := [("escutcheon/field.p", laid_escutcheon_field_p)] }
def FieldIsSaid : Prop := fieldIsRow.holds Tryd.pinned (OpenSpec.ofChange fieldIsSpec)

/-- ITS FALSE NEIGHBOUR: 'it returns false'. Refute it at one input. -/
def fieldIsWrong : ChangeSpec := { name := "fieldIs", fn := fun _ => fun
  | [d1, d2, d3] => { results := [.lit (.bool false)], args := [d1, d2, d3] }
  | _ => none }
def FieldIsWrongFalsely : Prop := fieldIsRow.holds Tryd.pinned (OpenSpec.ofChange fieldIsWrong)

/-- 'escutcheonlaw02.FieldPicks': WHATEVER THE INPUT: true; the input reads as it did. -/
def fieldPicksSpec : ChangeSpec := { name := "fieldPicks", fn := fun _ => fun
  | [d1, d2, d3] => { results := [.lit (.bool true)], args := [d1, d2, d3] }
  | _ => none }
def fieldPicksRow : OpenClaim := { program := "ytcmlfenjjaanpaadoor", sum := "bdb9fbded85b5d57a04c48b07cd64331d751451f6d7862ce8ee938af6184e5c7", func := "escutcheon/escutcheonlaw02.FieldPicks", spec := "fieldPicks", inPlace := ["math/bits.Add64", "math/bits.Sub64"], named := ["escutcheon/field.p"], apart := false, laid := [("escutcheon/field.p", laid_escutcheon_field_p)] }
def FieldPicksSaid : Prop := fieldPicksRow.holds Tryd.pinned (OpenSpec.ofChange fieldPicksSpec)

/-- ITS FALSE NEIGHBOUR: 'it returns false'. Refute it at one input. -/
def fieldPicksWrong : ChangeSpec := { name := "fieldPicks", fn := fun _ => fun
  | [d1, d2, d3] => { results := [.lit (.bool false)], args := [d1, d2, d3] }
  | _ => none }
def FieldPicksWrongFalsely : Prop := fieldPicksRow.holds Tryd.pinned (OpenSpec.ofChange fieldPicksWrong)

/-- 'escutcheonlaw02.FieldInverts': WHATEVER THE INPUT: true; the input reads as it did. -/
def fieldInvertsSpec : ChangeSpec := { name := "fieldInverts", fn := fun _ => fun
  | [d1, d2] => { results := [.lit (.bool true)], args := [d1, d2] }
  | _ => none }
def fieldInvertsRow : OpenClaim := { program := "ytcmlfenjjaanpaadoor", sum := "bdb9fbded85b5d57a04c48b07cd64331d751451f6d7862ce8ee938af6184e5c7", func := "escutcheon/escutcheonlaw02.FieldInverts", spec := "fieldInverts", inPlace := ["math/bits.Add64", "math/bits.Sub64"], named := ["escutcheon/field.p"], apart := false, laid := [("escutcheon/field.p", laid_escutcheon_field_p)] }
def FieldInvertsSaid : Prop := fieldInvertsRow.holds Tryd.pinned (OpenSpec.ofChange fieldInvertsSpec)

/-- ITS FALSE NEIGHBOUR: 'it returns false'. Refute it at one input. -/
def fieldInvertsWrong : ChangeSpec := { name := "fieldInverts", fn := fun _ => fun
  | [d1, d2] => { results := [.lit (.bool false)], args := [d1, d2] }
  | _ => none }
def FieldInvertsWrongFalsely : Prop := fieldInvertsRow.holds Tryd.pinned (OpenSpec.ofChange fieldInvertsWrong)

/- THE SECOND FORM. 'bulk': how many values and letters a reading holds, each counted each time it is reached (what is shared counts as often as it is met; a slice's spare places count too). A statement '..UptoSaid' is the law's where the arguments, and the package variables that the reading takes, are together of bulk at most 1048576: NARROWER than '..Said'. Prove '..Said' where nothing that the law and all that it calls make is longer than what came in: it says more and counts as full. Else prove '..UptoSaid'. A law counts once. -/
mutual
def uptoBulk {H : Type} : DataW H → Nat
  | .lit (.string bytes) => bytes.length + 1
  | .lit _ => 1
  | .nil => 1
  | .ptr d => uptoBulk d + 1
  | .slice elems spare => uptoBulkAll elems + uptoBulkAll spare + 1
  | .agg parts => uptoBulkAll parts + 1
  | .iface _ d => uptoBulk d + 1
  | .map entries => uptoBulkEntries entries + 1
  | .held _ => 1
def uptoBulkAll {H : Type} : List (DataW H) → Nat
  | [] => 0
  | d :: r => uptoBulk d + uptoBulkAll r
def uptoBulkEntries {H : Type} : List (Lit × DataW H) → Nat
  | [] => 0
  | x :: r => uptoBulkEntry x + uptoBulkEntries r
def uptoBulkEntry {H : Type} : Lit × DataW H → Nat
  | (.string bytes, d) => bytes.length + uptoBulk d + 1
  | (_, d) => uptoBulk d + 1
 end
def uptoSmall : (H : Type) → List (DataW H) → Bool := fun _ ds => decide (uptoBulkAll ds ≤ 1048576)
def OpenSpec.upto (s : _root_.Go.ChangeSpec) : _root_.Go.OpenSpec := { _root_.Go.OpenSpec.ofChange s with cond := some uptoSmall }

/-- 'escutcheonlaw02.FieldReads', WHERE WHAT IT READS IS OF BULK AT MOST 1048576: true; the input reads as it did. -/
def fieldReadsUptoRow : OpenClaim := { program := "ytcmlfenjjaanpaadoor", sum := "bdb9fbded85b5d57a04c48b07cd64331d751451f6d7862ce8ee938af6184e5c7", func := "escutcheon/escutcheonlaw02.FieldReads", spec := "fieldReads", inPlace := ["math/bits.Add64", "math/bits.Sub64"], recurses := true, named := ["escutcheon/field.p"], apart := false, laid := [("escutcheon/field.p", laid_escutcheon_field_p)], narrowed := true }
def FieldReadsUptoSaid : Prop := fieldReadsUptoRow.holds Tryd.pinned (OpenSpec.upto fieldReadsSpec)

/-- 'escutcheonlaw02.FieldReckons', WHERE WHAT IT READS IS OF BULK AT MOST 1048576: true; the input reads as it did. -/
def fieldReckonsUptoRow : OpenClaim := { program := "ytcmlfenjjaanpaadoor", sum := "bdb9fbded85b5d57a04c48b07cd64331d751451f6d7862ce8ee938af6184e5c7", func := "escutcheon/escutcheonlaw02.FieldReckons", spec := "fieldReckons", inPlace := ["math/bits.Add64", "math/bits.Sub64"], recurses := true, named := ["escutcheon/field.p"], apart := false, laid := [("escutcheon/field.p", laid_escutcheon_field_p)], narrowed := true }
def FieldReckonsUptoSaid : Prop := fieldReckonsUptoRow.holds Tryd.pinned (OpenSpec.upto fieldReckonsSpec)

/-- 'escutcheonlaw02.FieldPowers', WHERE WHAT IT READS IS OF BULK AT MOST 1048576: true; the input reads as it did. -/
def fieldPowersUptoRow : OpenClaim := { program := "ytcmlfenjjaanpaadoor", sum := "bdb9fbded85b5d57a04c48b07cd64331d751451f6d7862ce8ee938af6184e5c7", func := "escutcheon/escutcheonlaw02.FieldPowers", spec := "fieldPowers", inPlace := ["math/bits.Add64", "math/bits.Sub64"], recurses := true, named := ["escutcheon/field.p"], apart := false, laid := [("escutcheon/field.p", laid_escutcheon_field_p)], narrowed := true }
def FieldPowersUptoSaid : Prop := fieldPowersUptoRow.holds Tryd.pinned (OpenSpec.upto fieldPowersSpec)

/-- 'escutcheonlaw02.FieldRoots', WHERE WHAT IT READS IS OF BULK AT MOST 1048576: true; the input reads as it did. -/
def fieldRootsUptoRow : OpenClaim := { program := "ytcmlfenjjaanpaadoor", sum := "bdb9fbded85b5d57a04c48b07cd64331d751451f6d7862ce8ee938af6184e5c7", func := "escutcheon/escutcheonlaw02.FieldRoots", spec := "fieldRoots", inPlace := ["math/bits.Add64", "math/bits.Sub64"], recurses := true, named := ["escutcheon/field.p"], apart := false, laid := [("escutcheon/field.p", laid_escutcheon_field_p)], narrowed := true }
def FieldRootsUptoSaid : Prop := fieldRootsUptoRow.holds Tryd.pinned (OpenSpec.upto fieldRootsSpec)

/-- 'escutcheonlaw02.FieldIs', WHERE WHAT IT READS IS OF BULK AT MOST 1048576: true; the input reads as it did. -/
def fieldIsUptoRow : OpenClaim := { program := "ytcmlfenjjaanpaadoor", sum := "bdb9fbded85b5d57a04c48b07cd64331d751451f6d7862ce8ee938af6184e5c7", func := "escutcheon/escutcheonlaw02.FieldIs", spec := "fieldIs", inPlace := ["math/bits.Add64", "math/bits.Sub64"], named := ["escutcheon/field.p"], apart := false, laid := [("escutcheon/field.p", laid_escutcheon_field_p)], narrowed := true }
def FieldIsUptoSaid : Prop := fieldIsUptoRow.holds Tryd.pinned (OpenSpec.upto fieldIsSpec)

/-- 'escutcheonlaw02.FieldPicks', WHERE WHAT IT READS IS OF BULK AT MOST 1048576: true; the input reads as it did. -/
def fieldPicksUptoRow : OpenClaim := { program := "ytcmlfenjjaanpaadoor", sum := "bdb9fbded85b5d57a04c48b07cd64331d751451f6d7862ce8ee938af6184e5c7", func := "escutcheon/escutcheonlaw02.FieldPicks", spec := "fieldPicks", inPlace := ["math/bits.Add64", "math/bits.Sub64"], named := ["escutcheon/field.p"], apart := false, laid := [("escutcheon/field.p", laid_escutcheon_field_p)], narrowed := true }
def FieldPicksUptoSaid : Prop := fieldPicksUptoRow.holds Tryd.pinned (OpenSpec.upto fieldPicksSpec)

/-- 'escutcheonlaw02.FieldInverts', WHERE WHAT IT READS IS OF BULK AT MOST 1048576: true; the input reads as it did. -/
def fieldInvertsUptoRow : OpenClaim := { program := "ytcmlfenjjaanpaadoor", sum := "bdb9fbded85b5d57a04c48b07cd64331d751451f6d7862ce8ee938af6184e5c7", func := "escutcheon/escutcheonlaw02.FieldInverts", spec := "fieldInverts", inPlace := ["math/bits.Add64", "math/bits.Sub64"], named := ["escutcheon/field.p"], apart := false, laid := [("escutcheon/field.p", laid_escutcheon_field_p)], narrowed := true }
def FieldInvertsUptoSaid : Prop := fieldInvertsUptoRow.holds Tryd.pinned (OpenSpec.upto fieldInvertsSpec)

end Rows
end Go.Proofs.YtcmlfenjjaanpaaDoor
