/-
  NARROWER THAN 'FOR EVERY INPUT', by the rows' own cells (each row's printed sentence says how): ScalarReduces: laid · ScalarReckons: laid · ScalarIs: laid · ScalarWhole: laid · ScalarSigns: laid.
  DERIVED. THE GIVEN ROWS OF THIS SEAT. 5 by the template 'for every input the law returns true; each argument reads behind the call as it read before'; 0 by the template 'total and deterministic' (their statements: YtpliddkdahgbpaaDoorTotals.lean).
  GIVEN WITH THE SEED: the statements are not yours to turn. If you find one false, say at which input.
  Laid BY PROGRAM, IN A SANDBOX (cutbox-rows.mjs): the forced cells as the released guide's own fill.sh prints them over the translation 1eb5c866771df9db… (all of the seat's roots in one cut). By AI agents, Wed Nov 11 2026. No macro, syntax, notation, axiom, sorry.
-/
import Derived.Test.YtpliddkdahgbpaaDoorChecked
import GoSem.Claim
import GoSem.ClaimJoined
import GoSem.ClaimMapViews
import Derived.JoinedTies
import Derived.KernelRfl
namespace Go.Proofs.YtpliddkdahgbpaaDoor
/- THE CELL 'sum', in the pinned program and in every row, IS THE sha256 OF THE DUMP (.gsa) THAT YtpliddkdahgbpaaDoorProg.lean LOADS. Nothing in Lean hashes anything: it is a label: what it is worth is what the hold of that sum in a sandbox is worth. -/
noncomputable def Tryd.pinned : Pinned := { name := "ytpliddkdahgbpaadoor", sum := "1eb5c866771df9db47b8dec64d1938bb1ac4399a08c047bd24626f9a2d4dc639", checked := Tryd.checked }
namespace Rows
def none {H : Type} : Left H := { results := [], args := [] }

/- WHAT THE LISTED PACKAGE-LEVEL VARIABLES READ AS WHEN THE CALL BEGINS. Each datum BY PROGRAM (the guide's laid-datum.mjs) off the statement by which the dump's own 'gosem.cut.vars' lays the variable. In a bare row this is a premise. The card (YtpliddkdahgbpaaDoorCards.lean) ties it to the program's text. -/
def laid_escutcheon_scalar_order {H : Type} : DataW H := .agg [.lit (.int .u64 6346243789798364141), .lit (.int .u64 1503914060200516822), .lit (.int .u64 0), .lit (.int .u64 1152921504606846976)]

/-- 'escutcheonlaw03.ScalarReduces': WHATEVER THE INPUT: true; the input reads as it did. -/
def scalarReducesSpec : ChangeSpec := { name := "scalarReduces", fn := fun _ => fun
  | [d1, d2] => { results := [.lit (.bool true)], args := [d1, d2] }
  | _ => none }
def scalarReducesRow : OpenClaim := { program := "ytpliddkdahgbpaadoor", sum := "1eb5c866771df9db47b8dec64d1938bb1ac4399a08c047bd24626f9a2d4dc639", func := "escutcheon/escutcheonlaw03.ScalarReduces", spec := "scalarReduces", inPlace := ["math/bits.Add64", "math/bits.Sub64"], named := ["escutcheon/scalar.order"], apart := false, laid := [("escutcheon/scalar.order", laid_escutcheon_scalar_order)] }
def ScalarReducesSaid : Prop := scalarReducesRow.holds Tryd.pinned (OpenSpec.ofChange scalarReducesSpec)

/-- ITS FALSE NEIGHBOUR: 'it returns false'. Refute it at one input. -/
def scalarReducesWrong : ChangeSpec := { name := "scalarReduces", fn := fun _ => fun
  | [d1, d2] => { results := [.lit (.bool false)], args := [d1, d2] }
  | _ => none }
def ScalarReducesWrongFalsely : Prop := scalarReducesRow.holds Tryd.pinned (OpenSpec.ofChange scalarReducesWrong)

/-- 'escutcheonlaw03.ScalarReckons': WHATEVER THE INPUT: true; the input reads as it did. -/
def scalarReckonsSpec : ChangeSpec := { name := "scalarReckons", fn := fun _ => fun
  | [d1, d2, d3] => { results := [.lit (.bool true)], args := [d1, d2, d3] }
  | _ => none }
def scalarReckonsRow : OpenClaim := { program := "ytpliddkdahgbpaadoor", sum := "1eb5c866771df9db47b8dec64d1938bb1ac4399a08c047bd24626f9a2d4dc639", func := "escutcheon/escutcheonlaw03.ScalarReckons", spec := "scalarReckons", inPlace := ["math/bits.Add64", "math/bits.Sub64"], named := ["escutcheon/scalar.order"], apart := false, laid := [("escutcheon/scalar.order", laid_escutcheon_scalar_order)] }
def ScalarReckonsSaid : Prop := scalarReckonsRow.holds Tryd.pinned (OpenSpec.ofChange scalarReckonsSpec)

/-- ITS FALSE NEIGHBOUR: 'it returns false'. Refute it at one input. -/
def scalarReckonsWrong : ChangeSpec := { name := "scalarReckons", fn := fun _ => fun
  | [d1, d2, d3] => { results := [.lit (.bool false)], args := [d1, d2, d3] }
  | _ => none }
def ScalarReckonsWrongFalsely : Prop := scalarReckonsRow.holds Tryd.pinned (OpenSpec.ofChange scalarReckonsWrong)

/-- 'escutcheonlaw03.ScalarIs': WHATEVER THE INPUT: true; the input reads as it did. -/
def scalarIsSpec : ChangeSpec := { name := "scalarIs", fn := fun _ => fun
  | [d1, d2, d3] => { results := [.lit (.bool true)], args := [d1, d2, d3] }
  | _ => none }
def scalarIsRow : OpenClaim := { program := "ytpliddkdahgbpaadoor", sum := "1eb5c866771df9db47b8dec64d1938bb1ac4399a08c047bd24626f9a2d4dc639", func := "escutcheon/escutcheonlaw03.ScalarIs", spec := "scalarIs", inPlace := ["math/bits.Add64", "math/bits.Sub64"], named := ["escutcheon/scalar.order"], apart := false, laid := [("escutcheon/scalar.order", laid_escutcheon_scalar_order)] }
def ScalarIsSaid : Prop := scalarIsRow.holds Tryd.pinned (OpenSpec.ofChange scalarIsSpec)

/-- ITS FALSE NEIGHBOUR: 'it returns false'. Refute it at one input. -/
def scalarIsWrong : ChangeSpec := { name := "scalarIs", fn := fun _ => fun
  | [d1, d2, d3] => { results := [.lit (.bool false)], args := [d1, d2, d3] }
  | _ => none }
def ScalarIsWrongFalsely : Prop := scalarIsRow.holds Tryd.pinned (OpenSpec.ofChange scalarIsWrong)

/-- 'escutcheonlaw03.ScalarWhole': WHATEVER THE INPUT: true; the input reads as it did. -/
def scalarWholeSpec : ChangeSpec := { name := "scalarWhole", fn := fun _ => fun
  | [d1, d2] => { results := [.lit (.bool true)], args := [d1, d2] }
  | _ => none }
def scalarWholeRow : OpenClaim := { program := "ytpliddkdahgbpaadoor", sum := "1eb5c866771df9db47b8dec64d1938bb1ac4399a08c047bd24626f9a2d4dc639", func := "escutcheon/escutcheonlaw03.ScalarWhole", spec := "scalarWhole", inPlace := ["math/bits.Add64", "math/bits.Sub64"], named := ["escutcheon/scalar.order"], apart := false, laid := [("escutcheon/scalar.order", laid_escutcheon_scalar_order)] }
def ScalarWholeSaid : Prop := scalarWholeRow.holds Tryd.pinned (OpenSpec.ofChange scalarWholeSpec)

/-- ITS FALSE NEIGHBOUR: 'it returns false'. Refute it at one input. -/
def scalarWholeWrong : ChangeSpec := { name := "scalarWhole", fn := fun _ => fun
  | [d1, d2] => { results := [.lit (.bool false)], args := [d1, d2] }
  | _ => none }
def ScalarWholeWrongFalsely : Prop := scalarWholeRow.holds Tryd.pinned (OpenSpec.ofChange scalarWholeWrong)

/-- 'escutcheonlaw03.ScalarSigns': WHATEVER THE INPUT: true; the input reads as it did. -/
def scalarSignsSpec : ChangeSpec := { name := "scalarSigns", fn := fun _ => fun
  | [d1, d2] => { results := [.lit (.bool true)], args := [d1, d2] }
  | _ => none }
def scalarSignsRow : OpenClaim := { program := "ytpliddkdahgbpaadoor", sum := "1eb5c866771df9db47b8dec64d1938bb1ac4399a08c047bd24626f9a2d4dc639", func := "escutcheon/escutcheonlaw03.ScalarSigns", spec := "scalarSigns", inPlace := ["math/bits.Add64", "math/bits.Sub64"], named := ["escutcheon/scalar.order"], apart := false, laid := [("escutcheon/scalar.order", laid_escutcheon_scalar_order)] }
def ScalarSignsSaid : Prop := scalarSignsRow.holds Tryd.pinned (OpenSpec.ofChange scalarSignsSpec)

/-- ITS FALSE NEIGHBOUR: 'it returns false'. Refute it at one input. -/
def scalarSignsWrong : ChangeSpec := { name := "scalarSigns", fn := fun _ => fun
  | [d1, d2] => { results := [.lit (.bool false)], args := [d1, d2] }
  | _ => none }
def ScalarSignsWrongFalsely : Prop := scalarSignsRow.holds Tryd.pinned (OpenSpec.ofChange scalarSignsWrong)

/- THE SECOND FORM. 'bulk': how many values and letters a reading holds, each counted each time it is reached (what is shared counts as often as it is met; a slice's spare places count too). A statement '..UptoSaid' is the law's where the arguments, and the package variables that the reading takes, are together of bulk at most 1048576: NARROWER than '..Said'. Prove '..Said' where nothing that the law and all that it calls make is longer than what came in: it says more and counts as full. Else prove '..UptoSaid'. A law counts once. -/
mutual
def uptoBulk {H : Type} : DataW H → Nat
  | .lit (.string bytes) => bytes.length + 1
  | .lit _ => 1
  | .nil => 1
  | .ptr d => uptoBulk d + 1
  | .slice elems spare => uptoBulkAll elems + uptoBulkAll spare + 1
  | .agg parts => uptoBulkAll parts + 1
  | .iface _ d => uptoBulk d + 1
  | .map entries => uptoBulkEntries entries + 1
  | .held _ => 1
def uptoBulkAll {H : Type} : List (DataW H) → Nat
  | [] => 0
  | d :: r => uptoBulk d + uptoBulkAll r
def uptoBulkEntries {H : Type} : List (Lit × DataW H) → Nat
  | [] => 0
  | x :: r => uptoBulkEntry x + uptoBulkEntries r
def uptoBulkEntry {H : Type} : Lit × DataW H → Nat
  | (.string bytes, d) => bytes.length + uptoBulk d + 1
  | (_, d) => uptoBulk d + 1
 end
def uptoSmall : (H : Type) → List (DataW H) → Bool := fun _ ds => decide (uptoBulkAll ds ≤ 1048576)
def OpenSpec.upto (s : _root_.Go.ChangeSpec) : _root_.Go.OpenSpec := { _root_.Go.OpenSpec.ofChange s with cond := some uptoSmall }

/-- 'escutcheonlaw03.ScalarReduces', WHERE WHAT IT READS IS OF BULK AT MOST 1048576: true; the input reads as it did. -/
def scalarReducesUptoRow : OpenClaim := { program := "ytpliddkdahgbpaadoor", sum := "1eb5c866771df9db47b8dec64d1938bb1ac4399a08c047bd24626f9a2d4dc639", func := "escutcheon/escutcheonlaw03.ScalarReduces", spec := "scalarReduces", inPlace := ["math/bits.Add64", "math/bits.Sub64"], named := ["escutcheon/scalar.order"], apart := false, laid := [("escutcheon/scalar.order", laid_escutcheon_scalar_order)], narrowed := true }
def ScalarReducesUptoSaid : Prop := scalarReducesUptoRow.holds Tryd.pinned (OpenSpec.upto scalarReducesSpec)

/-- 'escutcheonlaw03.ScalarReckons', WHERE WHAT IT READS IS OF BULK AT MOST 1048576: true; the input reads as it did. -/
def scalarReckonsUptoRow : OpenClaim := { program := "ytpliddkdahgbpaadoor", sum := "1eb5c866771df9db47b8dec64d1938bb1ac4399a08c047bd24626f9a2d4dc639", func := "escutcheon/escutcheonlaw03.ScalarReckons", spec := "scalarReckons", inPlace := ["math/bits.Add64", "math/bits.Sub64"], named := ["escutcheon/scalar.order"], apart := false, laid := [("escutcheon/scalar.order", laid_escutcheon_scalar_order)], narrowed := true }
def ScalarReckonsUptoSaid : Prop := scalarReckonsUptoRow.holds Tryd.pinned (OpenSpec.upto scalarReckonsSpec)

/-- 'escutcheonlaw03.ScalarIs', WHERE WHAT IT READS IS OF BULK AT MOST 1048576: true; the input reads as it did. -/
def scalarIsUptoRow : OpenClaim := { program := "ytpliddkdahgbpaadoor", sum := "1eb5c866771df9db47b8dec64d1938bb1ac4399a08c047bd24626f9a2d4dc639", func := "escutcheon/escutcheonlaw03.ScalarIs", spec := "scalarIs", inPlace := ["math/bits.Add64", "math/bits.Sub64"], named := ["escutcheon/scalar.order"], apart := false, laid := [("escutcheon/scalar.order", laid_escutcheon_scalar_order)], narrowed := true }
def ScalarIsUptoSaid : Prop := scalarIsUptoRow.holds Tryd.pinned (OpenSpec.upto scalarIsSpec)

/-- 'escutcheonlaw03.ScalarWhole', WHERE WHAT IT READS IS OF BULK AT MOST 1048576: true; the input reads as it did. -/
def scalarWholeUptoRow : OpenClaim := { program := "ytpliddkdahgbpaadoor", sum := "1eb5c866771df9db47b8dec64d1938bb1ac4399a08c047bd24626f9a2d4dc639", func := "escutcheon/escutcheonlaw03.ScalarWhole", spec := "scalarWhole", inPlace := ["math/bits.Add64", "math/bits.Sub64"], named := ["escutcheon/scalar.order"], apart := false, laid := [("escutcheon/scalar.order", laid_escutcheon_scalar_order)], narrowed := true }
def ScalarWholeUptoSaid : Prop := scalarWholeUptoRow.holds Tryd.pinned (OpenSpec.upto scalarWholeSpec)

/-- 'escutcheonlaw03.ScalarSigns', WHERE WHAT IT READS IS OF BULK AT MOST 1048576: true; the input reads as it did. -/
def scalarSignsUptoRow : OpenClaim := { program := "ytpliddkdahgbpaadoor", sum := "1eb5c866771df9db47b8dec64d1938bb1ac4399a08c047bd24626f9a2d4dc639", func := "escutcheon/escutcheonlaw03.ScalarSigns", spec := "scalarSigns", inPlace := ["math/bits.Add64", "math/bits.Sub64"], named := ["escutcheon/scalar.order"], apart := false, laid := [("escutcheon/scalar.order", laid_escutcheon_scalar_order)], narrowed := true }
def ScalarSignsUptoSaid : Prop := scalarSignsUptoRow.holds Tryd.pinned (OpenSpec.upto scalarSignsSpec)

end Rows
end Go.Proofs.YtpliddkdahgbpaaDoor
