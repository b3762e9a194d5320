/-
  NARROWER THAN 'FOR EVERY INPUT', by the rows' own cells (each row's printed sentence says how): HkdfMacs: laid · HkdfOutputs: laid · HkdfLongs: laid · HkdfChains: laid.
  DERIVED. THE GIVEN ROWS OF THIS SEAT. 4 by the template 'for every input the law returns true; each argument reads behind the call as it read before'; 0 by the template 'total and deterministic' (their statements: YthjechjffhhiiaaDoorTotals.lean).
  GIVEN WITH THE SEED: the statements are not yours to turn. If you find one false, say at which input.
  Laid BY PROGRAM, IN A SANDBOX (cutbox-rows.mjs): the forced cells as the released guide's own fill.sh prints them over the translation ca95eb63de387647… (all of the seat's roots in one cut). By AI agents, Wed Nov 11 2026. No macro, syntax, notation, axiom, sorry.
-/
import Derived.Test.YthjechjffhhiiaaDoorChecked
import GoSem.Claim
import GoSem.ClaimJoined
import GoSem.ClaimMapViews
import Derived.JoinedTies
import Derived.KernelRfl
namespace Go.Proofs.YthjechjffhhiiaaDoor
/- THE CELL 'sum', in the pinned program and in every row, IS THE sha256 OF THE DUMP (.gsa) THAT YthjechjffhhiiaaDoorProg.lean LOADS. Nothing in Lean hashes anything: it is a label: what it is worth is what the hold of that sum in a sandbox is worth. -/
noncomputable def Tryd.pinned : Pinned := { name := "ythjechjffhhiiaadoor", sum := "ca95eb63de3876470fae205984c8d3be7c0c15e29390d2e155566ed6ed910021", checked := Tryd.checked }
namespace Rows
def none {H : Type} : Left H := { results := [], args := [] }

/- WHAT THE LISTED PACKAGE-LEVEL VARIABLES READ AS WHEN THE CALL BEGINS. Each datum BY PROGRAM (the guide's laid-datum.mjs) off the statement by which the dump's own 'gosem.cut.vars' lays the variable. In a bare row this is a premise. The card (YthjechjffhhiiaaDoorCards.lean) ties it to the program's text. -/
def laid_escutcheon_blake_start {H : Type} : DataW H := .agg [.lit (.int .u32 1779033703), .lit (.int .u32 3144134277), .lit (.int .u32 1013904242), .lit (.int .u32 2773480762), .lit (.int .u32 1359893119), .lit (.int .u32 2600822924), .lit (.int .u32 528734635), .lit (.int .u32 1541459225)]
def laid_escutcheon_blake_orders {H : Type} : DataW H := .agg [.agg [.lit (.int .i64 0), .lit (.int .i64 1), .lit (.int .i64 2), .lit (.int .i64 3), .lit (.int .i64 4), .lit (.int .i64 5), .lit (.int .i64 6), .lit (.int .i64 7), .lit (.int .i64 8), .lit (.int .i64 9), .lit (.int .i64 10), .lit (.int .i64 11), .lit (.int .i64 12), .lit (.int .i64 13), .lit (.int .i64 14), .lit (.int .i64 15)], .agg [.lit (.int .i64 14), .lit (.int .i64 10), .lit (.int .i64 4), .lit (.int .i64 8), .lit (.int .i64 9), .lit (.int .i64 15), .lit (.int .i64 13), .lit (.int .i64 6), .lit (.int .i64 1), .lit (.int .i64 12), .lit (.int .i64 0), .lit (.int .i64 2), .lit (.int .i64 11), .lit (.int .i64 7), .lit (.int .i64 5), .lit (.int .i64 3)], .agg [.lit (.int .i64 11), .lit (.int .i64 8), .lit (.int .i64 12), .lit (.int .i64 0), .lit (.int .i64 5), .lit (.int .i64 2), .lit (.int .i64 15), .lit (.int .i64 13), .lit (.int .i64 10), .lit (.int .i64 14), .lit (.int .i64 3), .lit (.int .i64 6), .lit (.int .i64 7), .lit (.int .i64 1), .lit (.int .i64 9), .lit (.int .i64 4)], .agg [.lit (.int .i64 7), .lit (.int .i64 9), .lit (.int .i64 3), .lit (.int .i64 1), .lit (.int .i64 13), .lit (.int .i64 12), .lit (.int .i64 11), .lit (.int .i64 14), .lit (.int .i64 2), .lit (.int .i64 6), .lit (.int .i64 5), .lit (.int .i64 10), .lit (.int .i64 4), .lit (.int .i64 0), .lit (.int .i64 15), .lit (.int .i64 8)], .agg [.lit (.int .i64 9), .lit (.int .i64 0), .lit (.int .i64 5), .lit (.int .i64 7), .lit (.int .i64 2), .lit (.int .i64 4), .lit (.int .i64 10), .lit (.int .i64 15), .lit (.int .i64 14), .lit (.int .i64 1), .lit (.int .i64 11), .lit (.int .i64 12), .lit (.int .i64 6), .lit (.int .i64 8), .lit (.int .i64 3), .lit (.int .i64 13)], .agg [.lit (.int .i64 2), .lit (.int .i64 12), .lit (.int .i64 6), .lit (.int .i64 10), .lit (.int .i64 0), .lit (.int .i64 11), .lit (.int .i64 8), .lit (.int .i64 3), .lit (.int .i64 4), .lit (.int .i64 13), .lit (.int .i64 7), .lit (.int .i64 5), .lit (.int .i64 15), .lit (.int .i64 14), .lit (.int .i64 1), .lit (.int .i64 9)], .agg [.lit (.int .i64 12), .lit (.int .i64 5), .lit (.int .i64 1), .lit (.int .i64 15), .lit (.int .i64 14), .lit (.int .i64 13), .lit (.int .i64 4), .lit (.int .i64 10), .lit (.int .i64 0), .lit (.int .i64 7), .lit (.int .i64 6), .lit (.int .i64 3), .lit (.int .i64 9), .lit (.int .i64 2), .lit (.int .i64 8), .lit (.int .i64 11)], .agg [.lit (.int .i64 13), .lit (.int .i64 11), .lit (.int .i64 7), .lit (.int .i64 14), .lit (.int .i64 12), .lit (.int .i64 1), .lit (.int .i64 3), .lit (.int .i64 9), .lit (.int .i64 5), .lit (.int .i64 0), .lit (.int .i64 15), .lit (.int .i64 4), .lit (.int .i64 8), .lit (.int .i64 6), .lit (.int .i64 2), .lit (.int .i64 10)], .agg [.lit (.int .i64 6), .lit (.int .i64 15), .lit (.int .i64 14), .lit (.int .i64 9), .lit (.int .i64 11), .lit (.int .i64 3), .lit (.int .i64 0), .lit (.int .i64 8), .lit (.int .i64 12), .lit (.int .i64 2), .lit (.int .i64 13), .lit (.int .i64 7), .lit (.int .i64 1), .lit (.int .i64 4), .lit (.int .i64 10), .lit (.int .i64 5)], .agg [.lit (.int .i64 10), .lit (.int .i64 2), .lit (.int .i64 8), .lit (.int .i64 4), .lit (.int .i64 7), .lit (.int .i64 6), .lit (.int .i64 1), .lit (.int .i64 5), .lit (.int .i64 15), .lit (.int .i64 11), .lit (.int .i64 9), .lit (.int .i64 14), .lit (.int .i64 3), .lit (.int .i64 12), .lit (.int .i64 13), .lit (.int .i64 0)]]

/-- 'escutcheonlaw12.HkdfMacs': WHATEVER THE INPUT: true; the input reads as it did. -/
def hkdfMacsSpec : ChangeSpec := { name := "hkdfMacs", fn := fun _ => fun
  | [d1, d2, d3] => { results := [.lit (.bool true)], args := [d1, d2, d3] }
  | _ => none }
def hkdfMacsRow : OpenClaim := { program := "ythjechjffhhiiaadoor", sum := "ca95eb63de3876470fae205984c8d3be7c0c15e29390d2e155566ed6ed910021", func := "escutcheon/escutcheonlaw12.HkdfMacs", spec := "hkdfMacs", unfollowed := true, recurses := true, named := ["escutcheon/blake.start", "escutcheon/blake.orders"], apart := false, laid := [("escutcheon/blake.start", laid_escutcheon_blake_start), ("escutcheon/blake.orders", laid_escutcheon_blake_orders)] }
def HkdfMacsSaid : Prop := hkdfMacsRow.holds Tryd.pinned (OpenSpec.ofChange hkdfMacsSpec)

/-- ITS FALSE NEIGHBOUR: 'it returns false'. Refute it at one input. -/
def hkdfMacsWrong : ChangeSpec := { name := "hkdfMacs", fn := fun _ => fun
  | [d1, d2, d3] => { results := [.lit (.bool false)], args := [d1, d2, d3] }
  | _ => none }
def HkdfMacsWrongFalsely : Prop := hkdfMacsRow.holds Tryd.pinned (OpenSpec.ofChange hkdfMacsWrong)

/-- 'escutcheonlaw12.HkdfOutputs': WHATEVER THE INPUT: true; the input reads as it did. -/
def hkdfOutputsSpec : ChangeSpec := { name := "hkdfOutputs", fn := fun _ => fun
  | [d1, d2, d3] => { results := [.lit (.bool true)], args := [d1, d2, d3] }
  | _ => none }
def hkdfOutputsRow : OpenClaim := { program := "ythjechjffhhiiaadoor", sum := "ca95eb63de3876470fae205984c8d3be7c0c15e29390d2e155566ed6ed910021", func := "escutcheon/escutcheonlaw12.HkdfOutputs", spec := "hkdfOutputs", unfollowed := true, recurses := true, named := ["escutcheon/blake.start", "escutcheon/blake.orders"], apart := false, laid := [("escutcheon/blake.start", laid_escutcheon_blake_start), ("escutcheon/blake.orders", laid_escutcheon_blake_orders)] }
def HkdfOutputsSaid : Prop := hkdfOutputsRow.holds Tryd.pinned (OpenSpec.ofChange hkdfOutputsSpec)

/-- ITS FALSE NEIGHBOUR: 'it returns false'. Refute it at one input. -/
def hkdfOutputsWrong : ChangeSpec := { name := "hkdfOutputs", fn := fun _ => fun
  | [d1, d2, d3] => { results := [.lit (.bool false)], args := [d1, d2, d3] }
  | _ => none }
def HkdfOutputsWrongFalsely : Prop := hkdfOutputsRow.holds Tryd.pinned (OpenSpec.ofChange hkdfOutputsWrong)

/-- 'escutcheonlaw12.HkdfLongs': WHATEVER THE INPUT: true; the input reads as it did. -/
def hkdfLongsSpec : ChangeSpec := { name := "hkdfLongs", fn := fun _ => fun
  | [d1, d2, d3] => { results := [.lit (.bool true)], args := [d1, d2, d3] }
  | _ => none }
def hkdfLongsRow : OpenClaim := { program := "ythjechjffhhiiaadoor", sum := "ca95eb63de3876470fae205984c8d3be7c0c15e29390d2e155566ed6ed910021", func := "escutcheon/escutcheonlaw12.HkdfLongs", spec := "hkdfLongs", unfollowed := true, recurses := true, named := ["escutcheon/blake.start", "escutcheon/blake.orders"], apart := false, laid := [("escutcheon/blake.start", laid_escutcheon_blake_start), ("escutcheon/blake.orders", laid_escutcheon_blake_orders)] }
def HkdfLongsSaid : Prop := hkdfLongsRow.holds Tryd.pinned (OpenSpec.ofChange hkdfLongsSpec)

/-- ITS FALSE NEIGHBOUR: 'it returns false'. Refute it at one input. -/
def hkdfLongsWrong : ChangeSpec := { name := "hkdfLongs", fn := fun _ => fun
  | [d1, d2, d3] => { results := [.lit (.bool false)], args := [d1, d2, d3] }
  | _ => none }
def HkdfLongsWrongFalsely : Prop := hkdfLongsRow.holds Tryd.pinned (OpenSpec.ofChange hkdfLongsWrong)

/-- 'escutcheonlaw12.HkdfChains': WHATEVER THE INPUT: true; the input reads as it did. -/
def hkdfChainsSpec : ChangeSpec := { name := "hkdfChains", fn := fun _ => fun
  | [d1, d2] => { results := [.lit (.bool true)], args := [d1, d2] }
  | _ => none }
def hkdfChainsRow : OpenClaim := { program := "ythjechjffhhiiaadoor", sum := "ca95eb63de3876470fae205984c8d3be7c0c15e29390d2e155566ed6ed910021", func := "escutcheon/escutcheonlaw12.HkdfChains", spec := "hkdfChains", unfollowed := true, recurses := true, named := ["escutcheon/blake.start", "escutcheon/blake.orders"], apart := false, laid := [("escutcheon/blake.start", laid_escutcheon_blake_start), ("escutcheon/blake.orders", laid_escutcheon_blake_orders)] }
def HkdfChainsSaid : Prop := hkdfChainsRow.holds Tryd.pinned (OpenSpec.ofChange hkdfChainsSpec)

/-- ITS FALSE NEIGHBOUR: 'it returns false'. Refute it at one input. -/
def hkdfChainsWrong : ChangeSpec := { name := "hkdfChains", fn := fun _ => fun
  | [d1, d2] => { results := [.lit (.bool false)], args := [d1, d2] }
  | _ => none }
def HkdfChainsWrongFalsely : Prop := hkdfChainsRow.holds Tryd.pinned (OpenSpec.ofChange hkdfChainsWrong)

/- THE SECOND FORM. 'bulk': how many values and letters a reading holds, each counted each time it is reached (what is shared counts as often as it is met; a slice's spare places count too). A statement '..UptoSaid' is the law's where the arguments, and the package variables that the reading takes, are together of bulk at most 1048576: NARROWER than '..Said'. Prove '..Said' where nothing that the law and all that it calls make is longer than what came in: it says more and counts as full. Else prove '..UptoSaid'. A law counts once. -/
mutual
def uptoBulk {H : Type} : DataW H → Nat
  | .lit (.string bytes) => bytes.length + 1
  | .lit _ => 1
  | .nil => 1
  | .ptr d => uptoBulk d + 1
  | .slice elems spare => uptoBulkAll elems + uptoBulkAll spare + 1
  | .agg parts => uptoBulkAll parts + 1
  | .iface _ d => uptoBulk d + 1
  | .map entries => uptoBulkEntries entries + 1
  | .held _ => 1
def uptoBulkAll {H : Type} : List (DataW H) → Nat
  | [] => 0
  | d :: r => uptoBulk d + uptoBulkAll r
def uptoBulkEntries {H : Type} : List (Lit × DataW H) → Nat
  | [] => 0
  | x :: r => uptoBulkEntry x + uptoBulkEntries r
def uptoBulkEntry {H : Type} : Lit × DataW H → Nat
  | (.string bytes, d) => bytes.length + uptoBulk d + 1
  | (_, d) => uptoBulk d + 1
 end
def uptoSmall : (H : Type) → List (DataW H) → Bool := fun _ ds => decide (uptoBulkAll ds ≤ 1048576)
def OpenSpec.upto (s : _root_.Go.ChangeSpec) : _root_.Go.OpenSpec := { _root_.Go.OpenSpec.ofChange s with cond := some uptoSmall }

/-- 'escutcheonlaw12.HkdfMacs', WHERE WHAT IT READS IS OF BULK AT MOST 1048576: true; the input reads as it did. -/
def hkdfMacsUptoRow : OpenClaim := { program := "ythjechjffhhiiaadoor", sum := "ca95eb63de3876470fae205984c8d3be7c0c15e29390d2e155566ed6ed910021", func := "escutcheon/escutcheonlaw12.HkdfMacs", spec := "hkdfMacs", unfollowed := true, recurses := true, named := ["escutcheon/blake.start", "escutcheon/blake.orders"], apart := false, laid := [("escutcheon/blake.start", laid_escutcheon_blake_start), ("escutcheon/blake.orders", laid_escutcheon_blake_orders)], narrowed := true }
def HkdfMacsUptoSaid : Prop := hkdfMacsUptoRow.holds Tryd.pinned (OpenSpec.upto hkdfMacsSpec)

/-- 'escutcheonlaw12.HkdfOutputs', WHERE WHAT IT READS IS OF BULK AT MOST 1048576: true; the input reads as it did. -/
def hkdfOutputsUptoRow : OpenClaim := { program := "ythjechjffhhiiaadoor", sum := "ca95eb63de3876470fae205984c8d3be7c0c15e29390d2e155566ed6ed910021", func := "escutcheon/escutcheonlaw12.HkdfOutputs", spec := "hkdfOutputs", unfollowed := true, recurses := true, named := ["escutcheon/blake.start", "escutcheon/blake.orders"], apart := false, laid := [("escutcheon/blake.start", laid_escutcheon_blake_start), ("escutcheon/blake.orders", laid_escutcheon_blake_orders)], narrowed := true }
def HkdfOutputsUptoSaid : Prop := hkdfOutputsUptoRow.holds Tryd.pinned (OpenSpec.upto hkdfOutputsSpec)

/-- 'escutcheonlaw12.HkdfLongs', WHERE WHAT IT READS IS OF BULK AT MOST 1048576: true; the input reads as it did. -/
def hkdfLongsUptoRow : OpenClaim := { program := "ythjechjffhhiiaadoor", sum := "ca95eb63de3876470fae205984c8d3be7c0c15e29390d2e155566ed6ed910021", func := "escutcheon/escutcheonlaw12.HkdfLongs", spec := "hkdfLongs", unfollowed := true, recurses := true, named := ["escutcheon/blake.start", "escutcheon/blake.orders"], apart := false, laid := [("escutcheon/blake.start", laid_escutcheon_blake_start), ("escutcheon/blake.orders", laid_escutcheon_blake_orders)], narrowed := true }
def HkdfLongsUptoSaid : Prop := hkdfLongsUptoRow.holds Tryd.pinned (OpenSpec.upto hkdfLongsSpec)

/-- 'escutcheonlaw12.HkdfChains', WHERE WHAT IT READS IS OF BULK AT MOST 1048576: true; the input reads as it did. -/
def hkdfChainsUptoRow : OpenClaim := { program := "ythjechjffhhiiaadoor", sum := "ca95eb63de3876470fae205984c8d3be7c0c15e29390d2e155566ed6ed910021", func := "escutcheon/escutcheonlaw12.HkdfChains", spec := "hkdfChains", unfollowed := true, recurses := true, named := ["escutcheon/blake.start", "escutcheon/blake.orders"], apart := false, laid := [("escutcheon/blake.start", laid_escutcheon_blake_start), ("escutcheon/blake.orders", laid_escutcheon_blake_orders)], narrowed := true }
def HkdfChainsUptoSaid : Prop := hkdfChainsUptoRow.holds Tryd.pinned (OpenSpec.upto hkdfChainsSpec)

end Rows
end Go.Proofs.YthjechjffhhiiaaDoor
