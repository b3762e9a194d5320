/-
  NARROWER THAN 'FOR EVERY INPUT', by the rows' own cells (each row's printed sentence says how): EdwardsReads: laid · EdwardsAdds: laid · EdwardsMuls: laid · EdwardsIs: laid · EdwardsOrder: laid · EdwardsBytes: laid · EdwardsLadder: laid.
  DERIVED. THE GIVEN ROWS OF THIS SEAT. 7 by the template 'for every input the law returns true; each argument reads behind the call as it read before'; 0 by the template 'total and deterministic' (their statements: YtcijaoihcckofaaDoorTotals.lean).
  GIVEN WITH THE SEED: the statements are not yours to turn. If you find one false, say at which input.
  Laid BY PROGRAM, IN A SANDBOX (cutbox-rows.mjs): the forced cells as the released guide's own fill.sh prints them over the translation e55c2b6a59cf668e… (all of the seat's roots in one cut). By AI agents, Wed Nov 11 2026. No macro, syntax, notation, axiom, sorry.
-/
import Derived.Test.YtcijaoihcckofaaDoorChecked
import GoSem.Claim
import GoSem.ClaimJoined
import GoSem.ClaimMapViews
import Derived.JoinedTies
import Derived.KernelRfl
namespace Go.Proofs.YtcijaoihcckofaaDoor
/- THE CELL 'sum', in the pinned program and in every row, IS THE sha256 OF THE DUMP (.gsa) THAT YtcijaoihcckofaaDoorProg.lean LOADS. Nothing in Lean hashes anything: it is a label: what it is worth is what the hold of that sum in a sandbox is worth. -/
noncomputable def Tryd.pinned : Pinned := { name := "ytcijaoihcckofaadoor", sum := "e55c2b6a59cf668e20780ca9111a9ff6986d72eb218f0d03b486484a2b26fefa", checked := Tryd.checked }
namespace Rows
def none {H : Type} : Left H := { results := [], args := [] }

/- WHAT THE LISTED PACKAGE-LEVEL VARIABLES READ AS WHEN THE CALL BEGINS. Each datum BY PROGRAM (the guide's laid-datum.mjs) off the statement by which the dump's own 'gosem.cut.vars' lays the variable. In a bare row this is a premise. The card (YtcijaoihcckofaaDoorCards.lean) ties it to the program's text. -/
def laid_escutcheon_field_p {H : Type} : DataW H := .agg [.lit (.int .u64 18446744073709551597), .lit (.int .u64 18446744073709551615), .lit (.int .u64 18446744073709551615), .lit (.int .u64 9223372036854775807)]

/-- 'escutcheonlaw06.EdwardsReads': WHATEVER THE INPUT: true; the input reads as it did. -/
def edwardsReadsSpec : ChangeSpec := { name := "edwardsReads", fn := fun _ => fun
  | [d] => { results := [.lit (.bool true)], args := [d] }
  | _ => none }
def edwardsReadsRow : OpenClaim := { program := "ytcijaoihcckofaadoor", sum := "e55c2b6a59cf668e20780ca9111a9ff6986d72eb218f0d03b486484a2b26fefa", func := "escutcheon/escutcheonlaw06.EdwardsReads", spec := "edwardsReads", inPlace := ["math/bits.Sub64", "math/bits.Add64"], recurses := true, named := ["escutcheon/field.p"], apart := false, laid := [("escutcheon/field.p", laid_escutcheon_field_p)] }
def EdwardsReadsSaid : Prop := edwardsReadsRow.holds Tryd.pinned (OpenSpec.ofChange edwardsReadsSpec)

/-- ITS FALSE NEIGHBOUR: 'it returns false'. Refute it at one input. -/
def edwardsReadsWrong : ChangeSpec := { name := "edwardsReads", fn := fun _ => fun
  | [d] => { results := [.lit (.bool false)], args := [d] }
  | _ => none }
def EdwardsReadsWrongFalsely : Prop := edwardsReadsRow.holds Tryd.pinned (OpenSpec.ofChange edwardsReadsWrong)

/-- 'escutcheonlaw06.EdwardsAdds': WHATEVER THE INPUT: true; the input reads as it did. -/
def edwardsAddsSpec : ChangeSpec := { name := "edwardsAdds", fn := fun _ => fun
  | [d1, d2] => { results := [.lit (.bool true)], args := [d1, d2] }
  | _ => none }
def edwardsAddsRow : OpenClaim := { program := "ytcijaoihcckofaadoor", sum := "e55c2b6a59cf668e20780ca9111a9ff6986d72eb218f0d03b486484a2b26fefa", func := "escutcheon/escutcheonlaw06.EdwardsAdds", spec := "edwardsAdds", inPlace := ["math/bits.Sub64", "math/bits.Add64"], recurses := true, named := ["escutcheon/field.p"], apart := false, laid := [("escutcheon/field.p", laid_escutcheon_field_p)] }
def EdwardsAddsSaid : Prop := edwardsAddsRow.holds Tryd.pinned (OpenSpec.ofChange edwardsAddsSpec)

/-- ITS FALSE NEIGHBOUR: 'it returns false'. Refute it at one input. -/
def edwardsAddsWrong : ChangeSpec := { name := "edwardsAdds", fn := fun _ => fun
  | [d1, d2] => { results := [.lit (.bool false)], args := [d1, d2] }
  | _ => none }
def EdwardsAddsWrongFalsely : Prop := edwardsAddsRow.holds Tryd.pinned (OpenSpec.ofChange edwardsAddsWrong)

/-- 'escutcheonlaw06.EdwardsMuls': WHATEVER THE INPUT: true; the input reads as it did. -/
def edwardsMulsSpec : ChangeSpec := { name := "edwardsMuls", fn := fun _ => fun
  | [d1, d2] => { results := [.lit (.bool true)], args := [d1, d2] }
  | _ => none }
def edwardsMulsRow : OpenClaim := { program := "ytcijaoihcckofaadoor", sum := "e55c2b6a59cf668e20780ca9111a9ff6986d72eb218f0d03b486484a2b26fefa", func := "escutcheon/escutcheonlaw06.EdwardsMuls", spec := "edwardsMuls", inPlace := ["math/bits.Sub64", "math/bits.Add64"], recurses := true, named := ["escutcheon/field.p"], apart := false, laid := [("escutcheon/field.p", laid_escutcheon_field_p)] }
def EdwardsMulsSaid : Prop := edwardsMulsRow.holds Tryd.pinned (OpenSpec.ofChange edwardsMulsSpec)

/-- ITS FALSE NEIGHBOUR: 'it returns false'. Refute it at one input. -/
def edwardsMulsWrong : ChangeSpec := { name := "edwardsMuls", fn := fun _ => fun
  | [d1, d2] => { results := [.lit (.bool false)], args := [d1, d2] }
  | _ => none }
def EdwardsMulsWrongFalsely : Prop := edwardsMulsRow.holds Tryd.pinned (OpenSpec.ofChange edwardsMulsWrong)

/-- 'escutcheonlaw06.EdwardsIs': WHATEVER THE INPUT: true; the input reads as it did. -/
def edwardsIsSpec : ChangeSpec := { name := "edwardsIs", fn := fun _ => fun
  | [d1, d2, d3, d4] => { results := [.lit (.bool true)], args := [d1, d2, d3, d4] }
  | _ => none }
def edwardsIsRow : OpenClaim := { program := "ytcijaoihcckofaadoor", sum := "e55c2b6a59cf668e20780ca9111a9ff6986d72eb218f0d03b486484a2b26fefa", func := "escutcheon/escutcheonlaw06.EdwardsIs", spec := "edwardsIs", inPlace := ["math/bits.Sub64", "math/bits.Add64"], recurses := true, named := ["escutcheon/field.p"], apart := false, laid := [("escutcheon/field.p", laid_escutcheon_field_p)] }
def EdwardsIsSaid : Prop := edwardsIsRow.holds Tryd.pinned (OpenSpec.ofChange edwardsIsSpec)

/-- ITS FALSE NEIGHBOUR: 'it returns false'. Refute it at one input. -/
def edwardsIsWrong : ChangeSpec := { name := "edwardsIs", fn := fun _ => fun
  | [d1, d2, d3, d4] => { results := [.lit (.bool false)], args := [d1, d2, d3, d4] }
  | _ => none }
def EdwardsIsWrongFalsely : Prop := edwardsIsRow.holds Tryd.pinned (OpenSpec.ofChange edwardsIsWrong)

/-- 'escutcheonlaw06.EdwardsOrder': WHATEVER THE INPUT: true; the input reads as it did. -/
def edwardsOrderSpec : ChangeSpec := { name := "edwardsOrder", fn := fun _ => fun
  | [d1, d2] => { results := [.lit (.bool true)], args := [d1, d2] }
  | _ => none }
def edwardsOrderRow : OpenClaim := { program := "ytcijaoihcckofaadoor", sum := "e55c2b6a59cf668e20780ca9111a9ff6986d72eb218f0d03b486484a2b26fefa", func := "escutcheon/escutcheonlaw06.EdwardsOrder", spec := "edwardsOrder", inPlace := ["math/bits.Add64", "math/bits.Sub64"], named := ["escutcheon/field.p"], apart := false, laid := [("escutcheon/field.p", laid_escutcheon_field_p)] }
def EdwardsOrderSaid : Prop := edwardsOrderRow.holds Tryd.pinned (OpenSpec.ofChange edwardsOrderSpec)

/-- ITS FALSE NEIGHBOUR: 'it returns false'. Refute it at one input. -/
def edwardsOrderWrong : ChangeSpec := { name := "edwardsOrder", fn := fun _ => fun
  | [d1, d2] => { results := [.lit (.bool false)], args := [d1, d2] }
  | _ => none }
def EdwardsOrderWrongFalsely : Prop := edwardsOrderRow.holds Tryd.pinned (OpenSpec.ofChange edwardsOrderWrong)

/-- 'escutcheonlaw06.EdwardsBytes': WHATEVER THE INPUT: true; the input reads as it did. -/
def edwardsBytesSpec : ChangeSpec := { name := "edwardsBytes", fn := fun _ => fun
  | [d] => { results := [.lit (.bool true)], args := [d] }
  | _ => none }
def edwardsBytesRow : OpenClaim := { program := "ytcijaoihcckofaadoor", sum := "e55c2b6a59cf668e20780ca9111a9ff6986d72eb218f0d03b486484a2b26fefa", func := "escutcheon/escutcheonlaw06.EdwardsBytes", spec := "edwardsBytes", inPlace := ["math/bits.Sub64", "math/bits.Add64"], recurses := true, named := ["escutcheon/field.p"], apart := false, laid := [("escutcheon/field.p", laid_escutcheon_field_p)] }
def EdwardsBytesSaid : Prop := edwardsBytesRow.holds Tryd.pinned (OpenSpec.ofChange edwardsBytesSpec)

/-- ITS FALSE NEIGHBOUR: 'it returns false'. Refute it at one input. -/
def edwardsBytesWrong : ChangeSpec := { name := "edwardsBytes", fn := fun _ => fun
  | [d] => { results := [.lit (.bool false)], args := [d] }
  | _ => none }
def EdwardsBytesWrongFalsely : Prop := edwardsBytesRow.holds Tryd.pinned (OpenSpec.ofChange edwardsBytesWrong)

/-- 'escutcheonlaw06.EdwardsLadder': WHATEVER THE INPUT: true; the input reads as it did. -/
def edwardsLadderSpec : ChangeSpec := { name := "edwardsLadder", fn := fun _ => fun
  | [d] => { results := [.lit (.bool true)], args := [d] }
  | _ => none }
def edwardsLadderRow : OpenClaim := { program := "ytcijaoihcckofaadoor", sum := "e55c2b6a59cf668e20780ca9111a9ff6986d72eb218f0d03b486484a2b26fefa", func := "escutcheon/escutcheonlaw06.EdwardsLadder", spec := "edwardsLadder", inPlace := ["math/bits.Add64", "math/bits.Sub64"], named := ["escutcheon/field.p"], apart := false, laid := [("escutcheon/field.p", laid_escutcheon_field_p)] }
def EdwardsLadderSaid : Prop := edwardsLadderRow.holds Tryd.pinned (OpenSpec.ofChange edwardsLadderSpec)

/-- ITS FALSE NEIGHBOUR: 'it returns false'. Refute it at one input. -/
def edwardsLadderWrong : ChangeSpec := { name := "edwardsLadder", fn := fun _ => fun
  | [d] => { results := [.lit (.bool false)], args := [d] }
  | _ => none }
def EdwardsLadderWrongFalsely : Prop := edwardsLadderRow.holds Tryd.pinned (OpenSpec.ofChange edwardsLadderWrong)

/- THE SECOND FORM. 'bulk': how many values and letters a reading holds, each counted each time it is reached (what is shared counts as often as it is met; a slice's spare places count too). A statement '..UptoSaid' is the law's where the arguments, and the package variables that the reading takes, are together of bulk at most 1048576: NARROWER than '..Said'. Prove '..Said' where nothing that the law and all that it calls make is longer than what came in: it says more and counts as full. Else prove '..UptoSaid'. A law counts once. -/
mutual
def uptoBulk {H : Type} : DataW H → Nat
  | .lit (.string bytes) => bytes.length + 1
  | .lit _ => 1
  | .nil => 1
  | .ptr d => uptoBulk d + 1
  | .slice elems spare => uptoBulkAll elems + uptoBulkAll spare + 1
  | .agg parts => uptoBulkAll parts + 1
  | .iface _ d => uptoBulk d + 1
  | .map entries => uptoBulkEntries entries + 1
  | .held _ => 1
def uptoBulkAll {H : Type} : List (DataW H) → Nat
  | [] => 0
  | d :: r => uptoBulk d + uptoBulkAll r
def uptoBulkEntries {H : Type} : List (Lit × DataW H) → Nat
  | [] => 0
  | x :: r => uptoBulkEntry x + uptoBulkEntries r
def uptoBulkEntry {H : Type} : Lit × DataW H → Nat
  | (.string bytes, d) => bytes.length + uptoBulk d + 1
  | (_, d) => uptoBulk d + 1
 end
def uptoSmall : (H : Type) → List (DataW H) → Bool := fun _ ds => decide (uptoBulkAll ds ≤ 1048576)
def OpenSpec.upto (s : _root_.Go.ChangeSpec) : _root_.Go.OpenSpec := { _root_.Go.OpenSpec.ofChange s with cond := some uptoSmall }

/-- 'escutcheonlaw06.EdwardsReads', WHERE WHAT IT READS IS OF BULK AT MOST 1048576: true; the input reads as it did. -/
def edwardsReadsUptoRow : OpenClaim := { program := "ytcijaoihcckofaadoor", sum := "e55c2b6a59cf668e20780ca9111a9ff6986d72eb218f0d03b486484a2b26fefa", func := "escutcheon/escutcheonlaw06.EdwardsReads", spec := "edwardsReads", inPlace := ["math/bits.Sub64", "math/bits.Add64"], recurses := true, named := ["escutcheon/field.p"], apart := false, laid := [("escutcheon/field.p", laid_escutcheon_field_p)], narrowed := true }
def EdwardsReadsUptoSaid : Prop := edwardsReadsUptoRow.holds Tryd.pinned (OpenSpec.upto edwardsReadsSpec)

/-- 'escutcheonlaw06.EdwardsAdds', WHERE WHAT IT READS IS OF BULK AT MOST 1048576: true; the input reads as it did. -/
def edwardsAddsUptoRow : OpenClaim := { program := "ytcijaoihcckofaadoor", sum := "e55c2b6a59cf668e20780ca9111a9ff6986d72eb218f0d03b486484a2b26fefa", func := "escutcheon/escutcheonlaw06.EdwardsAdds", spec := "edwardsAdds", inPlace := ["math/bits.Sub64", "math/bits.Add64"], recurses := true, named := ["escutcheon/field.p"], apart := false, laid := [("escutcheon/field.p", laid_escutcheon_field_p)], narrowed := true }
def EdwardsAddsUptoSaid : Prop := edwardsAddsUptoRow.holds Tryd.pinned (OpenSpec.upto edwardsAddsSpec)

/-- 'escutcheonlaw06.EdwardsMuls', WHERE WHAT IT READS IS OF BULK AT MOST 1048576: true; the input reads as it did. -/
def edwardsMulsUptoRow : OpenClaim := { program := "ytcijaoihcckofaadoor", sum := "e55c2b6a59cf668e20780ca9111a9ff6986d72eb218f0d03b486484a2b26fefa", func := "escutcheon/escutcheonlaw06.EdwardsMuls", spec := "edwardsMuls", inPlace := ["math/bits.Sub64", "math/bits.Add64"], recurses := true, named := ["escutcheon/field.p"], apart := false, laid := [("escutcheon/field.p", laid_escutcheon_field_p)], narrowed := true }
def EdwardsMulsUptoSaid : Prop := edwardsMulsUptoRow.holds Tryd.pinned (OpenSpec.upto edwardsMulsSpec)

/-- 'escutcheonlaw06.EdwardsIs', WHERE WHAT IT READS IS OF BULK AT MOST 1048576: true; the input reads as it did. -/
def edwardsIsUptoRow : OpenClaim := { program := "ytcijaoihcckofaadoor", sum := "e55c2b6a59cf668e20780ca9111a9ff6986d72eb218f0d03b486484a2b26fefa", func := "escutcheon/escutcheonlaw06.EdwardsIs", spec := "edwardsIs", inPlace := ["math/bits.Sub64", "math/bits.Add64"], recurses := true, named := ["escutcheon/field.p"], apart := false, laid := [("escutcheon/field.p", laid_escutcheon_field_p)], narrowed := true }
def EdwardsIsUptoSaid : Prop := edwardsIsUptoRow.holds Tryd.pinned (OpenSpec.upto edwardsIsSpec)

/-- 'escutcheonlaw06.EdwardsOrder', WHERE WHAT IT READS IS OF BULK AT MOST 1048576: true; the input reads as it did. -/
def edwardsOrderUptoRow : OpenClaim := { program := "ytcijaoihcckofaadoor", sum := "e55c2b6a59cf668e20780ca9111a9ff6986d72eb218f0d03b486484a2b26fefa", func := "escutcheon/escutcheonlaw06.EdwardsOrder", spec := "edwardsOrder", inPlace := ["math/bits.Add64", "math/bits.Sub64"], named := ["escutcheon/field.p"], apart := false, laid := [("escutcheon/field.p", laid_escutcheon_field_p)], narrowed := true }
def EdwardsOrderUptoSaid : Prop := edwardsOrderUptoRow.holds Tryd.pinned (OpenSpec.upto edwardsOrderSpec)

/-- 'escutcheonlaw06.EdwardsBytes', WHERE WHAT IT READS IS OF BULK AT MOST 1048576: true; the input reads as it did. -/
def edwardsBytesUptoRow : OpenClaim := { program := "ytcijaoihcckofaadoor", sum := "e55c2b6a59cf668e20780ca9111a9ff6986d72eb218f0d03b486484a2b26fefa", func := "escutcheon/escutcheonlaw06.EdwardsBytes", spec := "edwardsBytes", inPlace := ["math/bits.Sub64", "math/bits.Add64"], recurses := true, named := ["escutcheon/field.p"], apart := false, laid := [("escutcheon/field.p", laid_escutcheon_field_p)], narrowed := true }
def EdwardsBytesUptoSaid : Prop := edwardsBytesUptoRow.holds Tryd.pinned (OpenSpec.upto edwardsBytesSpec)

/-- 'escutcheonlaw06.EdwardsLadder', WHERE WHAT IT READS IS OF BULK AT MOST 1048576: true; the input reads as it did. -/
def edwardsLadderUptoRow : OpenClaim := { program := "ytcijaoihcckofaadoor", sum := "e55c2b6a59cf668e20780ca9111a9ff6986d72eb218f0d03b486484a2b26fefa", func := "escutcheon/escutcheonlaw06.EdwardsLadder", spec := "edwardsLadder", inPlace := ["math/bits.Add64", "math/bits.Sub64"], named := ["escutcheon/field.p"], apart := false, laid := [("escutcheon/field.p", laid_escutcheon_field_p)], narrowed := true }
def EdwardsLadderUptoSaid : Prop := edwardsLadderUptoRow.holds Tryd.pinned (OpenSpec.upto edwardsLadderSpec)

end Rows
end Go.Proofs.YtcijaoihcckofaaDoor
