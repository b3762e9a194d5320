/-
  NARROWER THAN 'FOR EVERY INPUT', by the rows' own cells (each row's printed sentence says how): SignSigns: laid · SignChecks: laid · SignParts: laid.
  DERIVED. THE GIVEN ROWS OF THIS SEAT. 3 by the template 'for every input the law returns true; each argument reads behind the call as it read before'; 0 by the template 'total and deterministic' (their statements: YtpagiffbjofihaaGreatDoorTotals.lean).
  GIVEN WITH THE SEED: the statements are not yours to turn. If you find one false, say at which input.
  Laid BY PROGRAM, IN A SANDBOX (cutbox-rows.mjs): the forced cells as the released guide's own fill.sh prints them over the translation caf3346e49dec73e… (all of the seat's roots in one cut). By AI agents, Wed Nov 11 2026. No macro, syntax, notation, axiom, sorry.
-/
import Derived.Test.YtpagiffbjofihaaGreatDoorChecked
import GoSem.Claim
import GoSem.ClaimJoined
import GoSem.ClaimMapViews
import Derived.JoinedTies
import Derived.KernelRfl
namespace Go.Proofs.YtpagiffbjofihaaGreatDoor
/- THE CELL 'sum', in the pinned program and in every row, IS THE sha256 OF THE DUMP (.gsa) THAT YtpagiffbjofihaaGreatDoorProg.lean LOADS. Nothing in Lean hashes anything: it is a label: what it is worth is what the hold of that sum in a sandbox is worth. -/
noncomputable def Tryz.pinned : Pinned := { name := "ytpagiffbjofihaagreatdoor", sum := "caf3346e49dec73eaa2dccc48f46f30bbb7569e7fea0f9429a8e2dc4944a95cb", checked := Tryz.checked }
namespace Rows
def none {H : Type} : Left H := { results := [], args := [] }

/- WHAT THE LISTED PACKAGE-LEVEL VARIABLES READ AS WHEN THE CALL BEGINS. Each datum BY PROGRAM (the guide's laid-datum.mjs) off the statement by which the dump's own 'gosem.cut.vars' lays the variable. In a bare row this is a premise. The card (YtpagiffbjofihaaGreatDoorCards.lean) ties it to the program's text. -/
def laid_escutcheon_field_p {H : Type} : DataW H := .agg [.lit (.int .u64 18446744073709551597), .lit (.int .u64 18446744073709551615), .lit (.int .u64 18446744073709551615), .lit (.int .u64 9223372036854775807)]
def laid_escutcheon_scalar_order {H : Type} : DataW H := .agg [.lit (.int .u64 6346243789798364141), .lit (.int .u64 1503914060200516822), .lit (.int .u64 0), .lit (.int .u64 1152921504606846976)]
def laid_escutcheon_sha_primes {H : Type} : DataW H := .agg [.lit (.int .u64 2), .lit (.int .u64 3), .lit (.int .u64 5), .lit (.int .u64 7), .lit (.int .u64 11), .lit (.int .u64 13), .lit (.int .u64 17), .lit (.int .u64 19), .lit (.int .u64 23), .lit (.int .u64 29), .lit (.int .u64 31), .lit (.int .u64 37), .lit (.int .u64 41), .lit (.int .u64 43), .lit (.int .u64 47), .lit (.int .u64 53), .lit (.int .u64 59), .lit (.int .u64 61), .lit (.int .u64 67), .lit (.int .u64 71), .lit (.int .u64 73), .lit (.int .u64 79), .lit (.int .u64 83), .lit (.int .u64 89), .lit (.int .u64 97), .lit (.int .u64 101), .lit (.int .u64 103), .lit (.int .u64 107), .lit (.int .u64 109), .lit (.int .u64 113), .lit (.int .u64 127), .lit (.int .u64 131), .lit (.int .u64 137), .lit (.int .u64 139), .lit (.int .u64 149), .lit (.int .u64 151), .lit (.int .u64 157), .lit (.int .u64 163), .lit (.int .u64 167), .lit (.int .u64 173), .lit (.int .u64 179), .lit (.int .u64 181), .lit (.int .u64 191), .lit (.int .u64 193), .lit (.int .u64 197), .lit (.int .u64 199), .lit (.int .u64 211), .lit (.int .u64 223), .lit (.int .u64 227), .lit (.int .u64 229), .lit (.int .u64 233), .lit (.int .u64 239), .lit (.int .u64 241), .lit (.int .u64 251), .lit (.int .u64 257), .lit (.int .u64 263), .lit (.int .u64 269), .lit (.int .u64 271), .lit (.int .u64 277), .lit (.int .u64 281), .lit (.int .u64 283), .lit (.int .u64 293), .lit (.int .u64 307), .lit (.int .u64 311), .lit (.int .u64 313), .lit (.int .u64 317), .lit (.int .u64 331), .lit (.int .u64 337), .lit (.int .u64 347), .lit (.int .u64 349), .lit (.int .u64 353), .lit (.int .u64 359), .lit (.int .u64 367), .lit (.int .u64 373), .lit (.int .u64 379), .lit (.int .u64 383), .lit (.int .u64 389), .lit (.int .u64 397), .lit (.int .u64 401), .lit (.int .u64 409)]

/-- 'escutcheonlaw07.SignSigns': WHATEVER THE INPUT: true; the input reads as it did. -/
def signSignsSpec : ChangeSpec := { name := "signSigns", fn := fun _ => fun
  | [d1, d2, d3] => { results := [.lit (.bool true)], args := [d1, d2, d3] }
  | _ => none }
def signSignsRow : OpenClaim := { program := "ytpagiffbjofihaagreatdoor", sum := "caf3346e49dec73eaa2dccc48f46f30bbb7569e7fea0f9429a8e2dc4944a95cb", func := "escutcheon/escutcheonlaw07.SignSigns", spec := "signSigns", inPlace := ["math/bits.Add64", "math/bits.Sub64"], recurses := true, named := ["escutcheon/sha.primes", "math/bits.divideError", "math/bits.overflowError", "escutcheon/field.p", "escutcheon/scalar.order"], apart := false, laid := [("escutcheon/field.p", laid_escutcheon_field_p), ("escutcheon/scalar.order", laid_escutcheon_scalar_order), ("escutcheon/sha.primes", laid_escutcheon_sha_primes)] }
def SignSignsSaid : Prop := signSignsRow.holds Tryz.pinned (OpenSpec.ofChange signSignsSpec)

/-- ITS FALSE NEIGHBOUR: 'it returns false'. Refute it at one input. -/
def signSignsWrong : ChangeSpec := { name := "signSigns", fn := fun _ => fun
  | [d1, d2, d3] => { results := [.lit (.bool false)], args := [d1, d2, d3] }
  | _ => none }
def SignSignsWrongFalsely : Prop := signSignsRow.holds Tryz.pinned (OpenSpec.ofChange signSignsWrong)

/-- 'escutcheonlaw07.SignChecks': WHATEVER THE INPUT: true; the input reads as it did. -/
def signChecksSpec : ChangeSpec := { name := "signChecks", fn := fun _ => fun
  | [d1, d2, d3] => { results := [.lit (.bool true)], args := [d1, d2, d3] }
  | _ => none }
def signChecksRow : OpenClaim := { program := "ytpagiffbjofihaagreatdoor", sum := "caf3346e49dec73eaa2dccc48f46f30bbb7569e7fea0f9429a8e2dc4944a95cb", func := "escutcheon/escutcheonlaw07.SignChecks", spec := "signChecks", inPlace := ["math/bits.Add64", "math/bits.Sub64"], recurses := true, named := ["escutcheon/sha.primes", "math/bits.divideError", "math/bits.overflowError", "escutcheon/field.p", "escutcheon/scalar.order"], apart := false, laid := [("escutcheon/field.p", laid_escutcheon_field_p), ("escutcheon/scalar.order", laid_escutcheon_scalar_order), ("escutcheon/sha.primes", laid_escutcheon_sha_primes)] }
def SignChecksSaid : Prop := signChecksRow.holds Tryz.pinned (OpenSpec.ofChange signChecksSpec)

/-- ITS FALSE NEIGHBOUR: 'it returns false'. Refute it at one input. -/
def signChecksWrong : ChangeSpec := { name := "signChecks", fn := fun _ => fun
  | [d1, d2, d3] => { results := [.lit (.bool false)], args := [d1, d2, d3] }
  | _ => none }
def SignChecksWrongFalsely : Prop := signChecksRow.holds Tryz.pinned (OpenSpec.ofChange signChecksWrong)

/-- 'escutcheonlaw07.SignParts': WHATEVER THE INPUT: true; the input reads as it did. -/
def signPartsSpec : ChangeSpec := { name := "signParts", fn := fun _ => fun
  | [d1, d2, d3, d4] => { results := [.lit (.bool true)], args := [d1, d2, d3, d4] }
  | _ => none }
def signPartsRow : OpenClaim := { program := "ytpagiffbjofihaagreatdoor", sum := "caf3346e49dec73eaa2dccc48f46f30bbb7569e7fea0f9429a8e2dc4944a95cb", func := "escutcheon/escutcheonlaw07.SignParts", spec := "signParts", inPlace := ["math/bits.Add64", "math/bits.Sub64"], recurses := true, named := ["escutcheon/sha.primes", "math/bits.divideError", "math/bits.overflowError", "escutcheon/field.p", "escutcheon/scalar.order"], apart := false, laid := [("escutcheon/field.p", laid_escutcheon_field_p), ("escutcheon/scalar.order", laid_escutcheon_scalar_order), ("escutcheon/sha.primes", laid_escutcheon_sha_primes)] }
def SignPartsSaid : Prop := signPartsRow.holds Tryz.pinned (OpenSpec.ofChange signPartsSpec)

/-- ITS FALSE NEIGHBOUR: 'it returns false'. Refute it at one input. -/
def signPartsWrong : ChangeSpec := { name := "signParts", fn := fun _ => fun
  | [d1, d2, d3, d4] => { results := [.lit (.bool false)], args := [d1, d2, d3, d4] }
  | _ => none }
def SignPartsWrongFalsely : Prop := signPartsRow.holds Tryz.pinned (OpenSpec.ofChange signPartsWrong)

/- THE SECOND FORM. 'bulk': how many values and letters a reading holds, each counted each time it is reached (what is shared counts as often as it is met; a slice's spare places count too). A statement '..UptoSaid' is the law's where the arguments, and the package variables that the reading takes, are together of bulk at most 1048576: NARROWER than '..Said'. Prove '..Said' where nothing that the law and all that it calls make is longer than what came in: it says more and counts as full. Else prove '..UptoSaid'. A law counts once. -/
mutual
def uptoBulk {H : Type} : DataW H → Nat
  | .lit (.string bytes) => bytes.length + 1
  | .lit _ => 1
  | .nil => 1
  | .ptr d => uptoBulk d + 1
  | .slice elems spare => uptoBulkAll elems + uptoBulkAll spare + 1
  | .agg parts => uptoBulkAll parts + 1
  | .iface _ d => uptoBulk d + 1
  | .map entries => uptoBulkEntries entries + 1
  | .held _ => 1
def uptoBulkAll {H : Type} : List (DataW H) → Nat
  | [] => 0
  | d :: r => uptoBulk d + uptoBulkAll r
def uptoBulkEntries {H : Type} : List (Lit × DataW H) → Nat
  | [] => 0
  | x :: r => uptoBulkEntry x + uptoBulkEntries r
def uptoBulkEntry {H : Type} : Lit × DataW H → Nat
  | (.string bytes, d) => bytes.length + uptoBulk d + 1
  | (_, d) => uptoBulk d + 1
 end
def uptoSmall : (H : Type) → List (DataW H) → Bool := fun _ ds => decide (uptoBulkAll ds ≤ 1048576)
def OpenSpec.upto (s : _root_.Go.ChangeSpec) : _root_.Go.OpenSpec := { _root_.Go.OpenSpec.ofChange s with cond := some uptoSmall }

/-- 'escutcheonlaw07.SignSigns', WHERE WHAT IT READS IS OF BULK AT MOST 1048576: true; the input reads as it did. -/
def signSignsUptoRow : OpenClaim := { program := "ytpagiffbjofihaagreatdoor", sum := "caf3346e49dec73eaa2dccc48f46f30bbb7569e7fea0f9429a8e2dc4944a95cb", func := "escutcheon/escutcheonlaw07.SignSigns", spec := "signSigns", inPlace := ["math/bits.Add64", "math/bits.Sub64"], recurses := true, named := ["escutcheon/sha.primes", "math/bits.divideError", "math/bits.overflowError", "escutcheon/field.p", "escutcheon/scalar.order"], apart := false, laid := [("escutcheon/field.p", laid_escutcheon_field_p), ("escutcheon/scalar.order", laid_escutcheon_scalar_order), ("escutcheon/sha.primes", laid_escutcheon_sha_primes)], narrowed := true }
def SignSignsUptoSaid : Prop := signSignsUptoRow.holds Tryz.pinned (OpenSpec.upto signSignsSpec)

/-- 'escutcheonlaw07.SignChecks', WHERE WHAT IT READS IS OF BULK AT MOST 1048576: true; the input reads as it did. -/
def signChecksUptoRow : OpenClaim := { program := "ytpagiffbjofihaagreatdoor", sum := "caf3346e49dec73eaa2dccc48f46f30bbb7569e7fea0f9429a8e2dc4944a95cb", func := "escutcheon/escutcheonlaw07.SignChecks", spec := "signChecks", inPlace := ["math/bits.Add64", "math/bits.Sub64"], recurses := true, named := ["escutcheon/sha.primes", "math/bits.divideError", "math/bits.overflowError", "escutcheon/field.p", "escutcheon/scalar.order"], apart := false, laid := [("escutcheon/field.p", laid_escutcheon_field_p), ("escutcheon/scalar.order", laid_escutcheon_scalar_order), ("escutcheon/sha.primes", laid_escutcheon_sha_primes)], narrowed := true }
def SignChecksUptoSaid : Prop := signChecksUptoRow.holds Tryz.pinned (OpenSpec.upto signChecksSpec)

/-- 'escutcheonlaw07.SignParts', WHERE WHAT IT READS IS OF BULK AT MOST 1048576: true; the input reads as it did. -/
def signPartsUptoRow : OpenClaim := { program := "ytpagiffbjofihaagreatdoor", sum := "caf3346e49dec73eaa2dccc48f46f30bbb7569e7fea0f9429a8e2dc4944a95cb", func := "escutcheon/escutcheonlaw07.SignParts", spec := "signParts", inPlace := ["math/bits.Add64", "math/bits.Sub64"], recurses := true, named := ["escutcheon/sha.primes", "math/bits.divideError", "math/bits.overflowError", "escutcheon/field.p", "escutcheon/scalar.order"], apart := false, laid := [("escutcheon/field.p", laid_escutcheon_field_p), ("escutcheon/scalar.order", laid_escutcheon_scalar_order), ("escutcheon/sha.primes", laid_escutcheon_sha_primes)], narrowed := true }
def SignPartsUptoSaid : Prop := signPartsUptoRow.holds Tryz.pinned (OpenSpec.upto signPartsSpec)

end Rows
end Go.Proofs.YtpagiffbjofihaaGreatDoor
