/-
  NARROWER THAN 'FOR EVERY INPUT', by the rows' own cells (each row's printed sentence says how): LadderMuls: laid · LadderMeets: laid · LadderTurns: laid · LadderLow: laid.
  DERIVED. THE GIVEN ROWS OF THIS SEAT. 4 by the template 'for every input the law returns true; each argument reads behind the call as it read before'; 0 by the template 'total and deterministic' (their statements: YthlnnoajklmeiaaDoorTotals.lean).
  GIVEN WITH THE SEED: the statements are not yours to turn. If you find one false, say at which input.
  Laid BY PROGRAM, IN A SANDBOX (cutbox-rows.mjs): the forced cells as the released guide's own fill.sh prints them over the translation 487717bcf83b2b66… (all of the seat's roots in one cut). By AI agents, Wed Nov 11 2026. No macro, syntax, notation, axiom, sorry.
-/
import Derived.Test.YthlnnoajklmeiaaDoorChecked
import GoSem.Claim
import GoSem.ClaimJoined
import GoSem.ClaimMapViews
import Derived.JoinedTies
import Derived.KernelRfl
namespace Go.Proofs.YthlnnoajklmeiaaDoor
/- THE CELL 'sum', in the pinned program and in every row, IS THE sha256 OF THE DUMP (.gsa) THAT YthlnnoajklmeiaaDoorProg.lean LOADS. Nothing in Lean hashes anything: it is a label: what it is worth is what the hold of that sum in a sandbox is worth. -/
noncomputable def Tryd.pinned : Pinned := { name := "ythlnnoajklmeiaadoor", sum := "487717bcf83b2b66b663819f1b3a4eb001c3380a6e821b88314303a97ed1ca83", checked := Tryd.checked }
namespace Rows
def none {H : Type} : Left H := { results := [], args := [] }

/- WHAT THE LISTED PACKAGE-LEVEL VARIABLES READ AS WHEN THE CALL BEGINS. Each datum BY PROGRAM (the guide's laid-datum.mjs) off the statement by which the dump's own 'gosem.cut.vars' lays the variable. In a bare row this is a premise. The card (YthlnnoajklmeiaaDoorCards.lean) ties it to the program's text. -/
def laid_escutcheon_field_p {H : Type} : DataW H := .agg [.lit (.int .u64 18446744073709551597), .lit (.int .u64 18446744073709551615), .lit (.int .u64 18446744073709551615), .lit (.int .u64 9223372036854775807)]

/-- 'escutcheonlaw04.LadderMuls': WHATEVER THE INPUT: true; the input reads as it did. -/
def ladderMulsSpec : ChangeSpec := { name := "ladderMuls", fn := fun _ => fun
  | [d1, d2] => { results := [.lit (.bool true)], args := [d1, d2] }
  | _ => none }
def ladderMulsRow : OpenClaim := { program := "ythlnnoajklmeiaadoor", sum := "487717bcf83b2b66b663819f1b3a4eb001c3380a6e821b88314303a97ed1ca83", func := "escutcheon/escutcheonlaw04.LadderMuls", spec := "ladderMuls", inPlace := ["math/bits.Add64", "math/bits.Sub64"], recurses := true, named := ["escutcheon/field.p"], apart := false, laid := [("escutcheon/field.p", laid_escutcheon_field_p)] }
def LadderMulsSaid : Prop := ladderMulsRow.holds Tryd.pinned (OpenSpec.ofChange ladderMulsSpec)

/-- ITS FALSE NEIGHBOUR: 'it returns false'. Refute it at one input. -/
def ladderMulsWrong : ChangeSpec := { name := "ladderMuls", fn := fun _ => fun
  | [d1, d2] => { results := [.lit (.bool false)], args := [d1, d2] }
  | _ => none }
def LadderMulsWrongFalsely : Prop := ladderMulsRow.holds Tryd.pinned (OpenSpec.ofChange ladderMulsWrong)

/-- 'escutcheonlaw04.LadderMeets': WHATEVER THE INPUT: true; the input reads as it did. -/
def ladderMeetsSpec : ChangeSpec := { name := "ladderMeets", fn := fun _ => fun
  | [d1, d2] => { results := [.lit (.bool true)], args := [d1, d2] }
  | _ => none }
def ladderMeetsRow : OpenClaim := { program := "ythlnnoajklmeiaadoor", sum := "487717bcf83b2b66b663819f1b3a4eb001c3380a6e821b88314303a97ed1ca83", func := "escutcheon/escutcheonlaw04.LadderMeets", spec := "ladderMeets", inPlace := ["math/bits.Add64", "math/bits.Sub64"], recurses := true, named := ["escutcheon/field.p"], apart := false, laid := [("escutcheon/field.p", laid_escutcheon_field_p)] }
def LadderMeetsSaid : Prop := ladderMeetsRow.holds Tryd.pinned (OpenSpec.ofChange ladderMeetsSpec)

/-- ITS FALSE NEIGHBOUR: 'it returns false'. Refute it at one input. -/
def ladderMeetsWrong : ChangeSpec := { name := "ladderMeets", fn := fun _ => fun
  | [d1, d2] => { results := [.lit (.bool false)], args := [d1, d2] }
  | _ => none }
def LadderMeetsWrongFalsely : Prop := ladderMeetsRow.holds Tryd.pinned (OpenSpec.ofChange ladderMeetsWrong)

/-- 'escutcheonlaw04.LadderTurns': WHATEVER THE INPUT: true; the input reads as it did. -/
def ladderTurnsSpec : ChangeSpec := { name := "ladderTurns", fn := fun _ => fun
  | [d1, d2, d3, d4] => { results := [.lit (.bool true)], args := [d1, d2, d3, d4] }
  | _ => none }
def ladderTurnsRow : OpenClaim := { program := "ythlnnoajklmeiaadoor", sum := "487717bcf83b2b66b663819f1b3a4eb001c3380a6e821b88314303a97ed1ca83", func := "escutcheon/escutcheonlaw04.LadderTurns", spec := "ladderTurns", inPlace := ["math/bits.Add64", "math/bits.Sub64"], named := ["escutcheon/field.p"], apart := false, laid := [("escutcheon/field.p", laid_escutcheon_field_p)] }
def LadderTurnsSaid : Prop := ladderTurnsRow.holds Tryd.pinned (OpenSpec.ofChange ladderTurnsSpec)

/-- ITS FALSE NEIGHBOUR: 'it returns false'. Refute it at one input. -/
def ladderTurnsWrong : ChangeSpec := { name := "ladderTurns", fn := fun _ => fun
  | [d1, d2, d3, d4] => { results := [.lit (.bool false)], args := [d1, d2, d3, d4] }
  | _ => none }
def LadderTurnsWrongFalsely : Prop := ladderTurnsRow.holds Tryd.pinned (OpenSpec.ofChange ladderTurnsWrong)

/-- 'escutcheonlaw04.LadderLow': WHATEVER THE INPUT: true; the input reads as it did. -/
def ladderLowSpec : ChangeSpec := { name := "ladderLow", fn := fun _ => fun
  | [d1, d2] => { results := [.lit (.bool true)], args := [d1, d2] }
  | _ => none }
def ladderLowRow : OpenClaim := { program := "ythlnnoajklmeiaadoor", sum := "487717bcf83b2b66b663819f1b3a4eb001c3380a6e821b88314303a97ed1ca83", func := "escutcheon/escutcheonlaw04.LadderLow", spec := "ladderLow", inPlace := ["math/bits.Add64", "math/bits.Sub64"], named := ["escutcheon/field.p"], apart := false, laid := [("escutcheon/field.p", laid_escutcheon_field_p)] }
def LadderLowSaid : Prop := ladderLowRow.holds Tryd.pinned (OpenSpec.ofChange ladderLowSpec)

/-- ITS FALSE NEIGHBOUR: 'it returns false'. Refute it at one input. -/
def ladderLowWrong : ChangeSpec := { name := "ladderLow", fn := fun _ => fun
  | [d1, d2] => { results := [.lit (.bool false)], args := [d1, d2] }
  | _ => none }
def LadderLowWrongFalsely : Prop := ladderLowRow.holds Tryd.pinned (OpenSpec.ofChange ladderLowWrong)

/- THE SECOND FORM. 'bulk': how many values and letters a reading holds, each counted each time it is reached (what is shared counts as often as it is met; a slice's spare places count too). A statement '..UptoSaid' is the law's where the arguments, and the package variables that the reading takes, are together of bulk at most 1048576: NARROWER than '..Said'. Prove '..Said' where nothing that the law and all that it calls make is longer than what came in: it says more and counts as full. Else prove '..UptoSaid'. A law counts once. -/
mutual
def uptoBulk {H : Type} : DataW H → Nat
  | .lit (.string bytes) => bytes.length + 1
  | .lit _ => 1
  | .nil => 1
  | .ptr d => uptoBulk d + 1
  | .slice elems spare => uptoBulkAll elems + uptoBulkAll spare + 1
  | .agg parts => uptoBulkAll parts + 1
  | .iface _ d => uptoBulk d + 1
  | .map entries => uptoBulkEntries entries + 1
  | .held _ => 1
def uptoBulkAll {H : Type} : List (DataW H) → Nat
  | [] => 0
  | d :: r => uptoBulk d + uptoBulkAll r
def uptoBulkEntries {H : Type} : List (Lit × DataW H) → Nat
  | [] => 0
  | x :: r => uptoBulkEntry x + uptoBulkEntries r
def uptoBulkEntry {H : Type} : Lit × DataW H → Nat
  | (.string bytes, d) => bytes.length + uptoBulk d + 1
  | (_, d) => uptoBulk d + 1
 end
def uptoSmall : (H : Type) → List (DataW H) → Bool := fun _ ds => decide (uptoBulkAll ds ≤ 1048576)
def OpenSpec.upto (s : _root_.Go.ChangeSpec) : _root_.Go.OpenSpec := { _root_.Go.OpenSpec.ofChange s with cond := some uptoSmall }

/-- 'escutcheonlaw04.LadderMuls', WHERE WHAT IT READS IS OF BULK AT MOST 1048576: true; the input reads as it did. -/
def ladderMulsUptoRow : OpenClaim := { program := "ythlnnoajklmeiaadoor", sum := "487717bcf83b2b66b663819f1b3a4eb001c3380a6e821b88314303a97ed1ca83", func := "escutcheon/escutcheonlaw04.LadderMuls", spec := "ladderMuls", inPlace := ["math/bits.Add64", "math/bits.Sub64"], recurses := true, named := ["escutcheon/field.p"], apart := false, laid := [("escutcheon/field.p", laid_escutcheon_field_p)], narrowed := true }
def LadderMulsUptoSaid : Prop := ladderMulsUptoRow.holds Tryd.pinned (OpenSpec.upto ladderMulsSpec)

/-- 'escutcheonlaw04.LadderMeets', WHERE WHAT IT READS IS OF BULK AT MOST 1048576: true; the input reads as it did. -/
def ladderMeetsUptoRow : OpenClaim := { program := "ythlnnoajklmeiaadoor", sum := "487717bcf83b2b66b663819f1b3a4eb001c3380a6e821b88314303a97ed1ca83", func := "escutcheon/escutcheonlaw04.LadderMeets", spec := "ladderMeets", inPlace := ["math/bits.Add64", "math/bits.Sub64"], recurses := true, named := ["escutcheon/field.p"], apart := false, laid := [("escutcheon/field.p", laid_escutcheon_field_p)], narrowed := true }
def LadderMeetsUptoSaid : Prop := ladderMeetsUptoRow.holds Tryd.pinned (OpenSpec.upto ladderMeetsSpec)

/-- 'escutcheonlaw04.LadderTurns', WHERE WHAT IT READS IS OF BULK AT MOST 1048576: true; the input reads as it did. -/
def ladderTurnsUptoRow : OpenClaim := { program := "ythlnnoajklmeiaadoor", sum := "487717bcf83b2b66b663819f1b3a4eb001c3380a6e821b88314303a97ed1ca83", func := "escutcheon/escutcheonlaw04.LadderTurns", spec := "ladderTurns", inPlace := ["math/bits.Add64", "math/bits.Sub64"], named := ["escutcheon/field.p"], apart := false, laid := [("escutcheon/field.p", laid_escutcheon_field_p)], narrowed := true }
def LadderTurnsUptoSaid : Prop := ladderTurnsUptoRow.holds Tryd.pinned (OpenSpec.upto ladderTurnsSpec)

/-- 'escutcheonlaw04.LadderLow', WHERE WHAT IT READS IS OF BULK AT MOST 1048576: true; the input reads as it did. -/
def ladderLowUptoRow : OpenClaim := { program := "ythlnnoajklmeiaadoor", sum := "487717bcf83b2b66b663819f1b3a4eb001c3380a6e821b88314303a97ed1ca83", func := "escutcheon/escutcheonlaw04.LadderLow", spec := "ladderLow", inPlace := ["math/bits.Add64", "math/bits.Sub64"], named := ["escutcheon/field.p"], apart := false, laid := [("escutcheon/field.p", laid_escutcheon_field_p)], narrowed := true }
def LadderLowUptoSaid : Prop := ladderLowUptoRow.holds Tryd.pinned (OpenSpec.upto ladderLowSpec)

end Rows
end Go.Proofs.YthlnnoajklmeiaaDoor
