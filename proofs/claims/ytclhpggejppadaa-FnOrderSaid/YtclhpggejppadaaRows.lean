/-
  No cell of these rows narrows 'for every input' (looked for: loops, veiled, ifaces, maps, wideKeys, modest, calm, conditions, laid).
  DERIVED. THE GIVEN ROWS OF THIS SEAT. 6 by the template 'for every input the law returns true; each argument reads behind the call as it read before'; 0 by the template 'total and deterministic' (their statements: YtclhpggejppadaaTotals.lean).
  GIVEN WITH THE SEED: the statements are not yours to turn. If you find one false, say at which input.
  Laid BY PROGRAM, IN A SANDBOX (cutbox-rows.mjs): the forced cells as the released guide's own fill.sh prints them over the translation 3e0dd80b9a5612b0… (all of the seat's roots in one cut). By AI agents, Wed Nov 11 2026. No macro, syntax, notation, axiom, sorry.
-/
import Derived.Test.YtclhpggejppadaaChecked
import GoSem.Claim
import GoSem.ClaimJoined
import GoSem.ClaimMapViews
import Derived.JoinedTies
import Derived.KernelRfl
namespace Go.Proofs.Ytclhpggejppadaa
/- THE CELL 'sum', in the pinned program and in every row, IS THE sha256 OF THE DUMP (.gsa) THAT YtclhpggejppadaaProg.lean LOADS. Nothing in Lean hashes anything: it is a label: what it is worth is what the hold of that sum in a sandbox is worth. -/
noncomputable def Try.pinned : Pinned := { name := "ytclhpggejppadaa", sum := "3e0dd80b9a5612b0cefc7ad9661b2cae88bf4db8efe5e7ba806c7beec3b5def9", checked := Try.checked }
namespace Rows
def none {H : Type} : Left H := { results := [], args := [] }

/-- 'laws.FnOrder': WHATEVER THE INPUT: true; the input reads as it did. -/
def fnOrderSpec : ChangeSpec := { name := "fnOrder", fn := fun _ => fun
  | [d] => { results := [.lit (.bool true)], args := [d] }
  | _ => none }
def fnOrderRow : OpenClaim := { program := "ytclhpggejppadaa", sum := "3e0dd80b9a5612b0cefc7ad9661b2cae88bf4db8efe5e7ba806c7beec3b5def9", func := "loop.example/g00595/laws.FnOrder", spec := "fnOrder", unfollowed := true, recurses := true, apart := false }
def FnOrderSaid : Prop := fnOrderRow.holds Try.pinned (OpenSpec.ofChange fnOrderSpec)

/-- ITS FALSE NEIGHBOUR: 'it returns false'. Refute it at one input. -/
def fnOrderWrong : ChangeSpec := { name := "fnOrder", fn := fun _ => fun
  | [d] => { results := [.lit (.bool false)], args := [d] }
  | _ => none }
def FnOrderWrongFalsely : Prop := fnOrderRow.holds Try.pinned (OpenSpec.ofChange fnOrderWrong)

/-- 'laws.FnExactSumsOf': WHATEVER THE INPUT: true; the input reads as it did. -/
def fnExactSumsOfSpec : ChangeSpec := { name := "fnExactSumsOf", fn := fun _ => fun
  | [d1, d2] => { results := [.lit (.bool true)], args := [d1, d2] }
  | _ => none }
def fnExactSumsOfRow : OpenClaim := { program := "ytclhpggejppadaa", sum := "3e0dd80b9a5612b0cefc7ad9661b2cae88bf4db8efe5e7ba806c7beec3b5def9", func := "loop.example/g00595/laws.FnExactSumsOf", spec := "fnExactSumsOf", unfollowed := true, recurses := true, apart := false }
def FnExactSumsOfSaid : Prop := fnExactSumsOfRow.holds Try.pinned (OpenSpec.ofChange fnExactSumsOfSpec)

/-- ITS FALSE NEIGHBOUR: 'it returns false'. Refute it at one input. -/
def fnExactSumsOfWrong : ChangeSpec := { name := "fnExactSumsOf", fn := fun _ => fun
  | [d1, d2] => { results := [.lit (.bool false)], args := [d1, d2] }
  | _ => none }
def FnExactSumsOfWrongFalsely : Prop := fnExactSumsOfRow.holds Try.pinned (OpenSpec.ofChange fnExactSumsOfWrong)

/-- 'laws.FnExactIsBelow': WHATEVER THE INPUT: true; the input reads as it did. -/
def fnExactIsBelowSpec : ChangeSpec := { name := "fnExactIsBelow", fn := fun _ => fun
  | [d1, d2, d3] => { results := [.lit (.bool true)], args := [d1, d2, d3] }
  | _ => none }
def fnExactIsBelowRow : OpenClaim := { program := "ytclhpggejppadaa", sum := "3e0dd80b9a5612b0cefc7ad9661b2cae88bf4db8efe5e7ba806c7beec3b5def9", func := "loop.example/g00595/laws.FnExactIsBelow", spec := "fnExactIsBelow", apart := false }
def FnExactIsBelowSaid : Prop := fnExactIsBelowRow.holds Try.pinned (OpenSpec.ofChange fnExactIsBelowSpec)

/-- ITS FALSE NEIGHBOUR: 'it returns false'. Refute it at one input. -/
def fnExactIsBelowWrong : ChangeSpec := { name := "fnExactIsBelow", fn := fun _ => fun
  | [d1, d2, d3] => { results := [.lit (.bool false)], args := [d1, d2, d3] }
  | _ => none }
def FnExactIsBelowWrongFalsely : Prop := fnExactIsBelowRow.holds Try.pinned (OpenSpec.ofChange fnExactIsBelowWrong)

/-- 'laws.FnExactMaximalOf': WHATEVER THE INPUT: true; the input reads as it did. -/
def fnExactMaximalOfSpec : ChangeSpec := { name := "fnExactMaximalOf", fn := fun _ => fun
  | [d1, d2] => { results := [.lit (.bool true)], args := [d1, d2] }
  | _ => none }
def fnExactMaximalOfRow : OpenClaim := { program := "ytclhpggejppadaa", sum := "3e0dd80b9a5612b0cefc7ad9661b2cae88bf4db8efe5e7ba806c7beec3b5def9", func := "loop.example/g00595/laws.FnExactMaximalOf", spec := "fnExactMaximalOf", unfollowed := true, recurses := true, apart := false }
def FnExactMaximalOfSaid : Prop := fnExactMaximalOfRow.holds Try.pinned (OpenSpec.ofChange fnExactMaximalOfSpec)

/-- ITS FALSE NEIGHBOUR: 'it returns false'. Refute it at one input. -/
def fnExactMaximalOfWrong : ChangeSpec := { name := "fnExactMaximalOf", fn := fun _ => fun
  | [d1, d2] => { results := [.lit (.bool false)], args := [d1, d2] }
  | _ => none }
def FnExactMaximalOfWrongFalsely : Prop := fnExactMaximalOfRow.holds Try.pinned (OpenSpec.ofChange fnExactMaximalOfWrong)

/-- 'laws.FnExactMinimalIn': WHATEVER THE INPUT: true; the input reads as it did. -/
def fnExactMinimalInSpec : ChangeSpec := { name := "fnExactMinimalIn", fn := fun _ => fun
  | [d1, d2] => { results := [.lit (.bool true)], args := [d1, d2] }
  | _ => none }
def fnExactMinimalInRow : OpenClaim := { program := "ytclhpggejppadaa", sum := "3e0dd80b9a5612b0cefc7ad9661b2cae88bf4db8efe5e7ba806c7beec3b5def9", func := "loop.example/g00595/laws.FnExactMinimalIn", spec := "fnExactMinimalIn", unfollowed := true, recurses := true, apart := false }
def FnExactMinimalInSaid : Prop := fnExactMinimalInRow.holds Try.pinned (OpenSpec.ofChange fnExactMinimalInSpec)

/-- ITS FALSE NEIGHBOUR: 'it returns false'. Refute it at one input. -/
def fnExactMinimalInWrong : ChangeSpec := { name := "fnExactMinimalIn", fn := fun _ => fun
  | [d1, d2] => { results := [.lit (.bool false)], args := [d1, d2] }
  | _ => none }
def FnExactMinimalInWrongFalsely : Prop := fnExactMinimalInRow.holds Try.pinned (OpenSpec.ofChange fnExactMinimalInWrong)

/-- 'laws.FnExactExceedingOf': WHATEVER THE INPUT: true; the input reads as it did. -/
def fnExactExceedingOfSpec : ChangeSpec := { name := "fnExactExceedingOf", fn := fun _ => fun
  | [d1, d2] => { results := [.lit (.bool true)], args := [d1, d2] }
  | _ => none }
def fnExactExceedingOfRow : OpenClaim := { program := "ytclhpggejppadaa", sum := "3e0dd80b9a5612b0cefc7ad9661b2cae88bf4db8efe5e7ba806c7beec3b5def9", func := "loop.example/g00595/laws.FnExactExceedingOf", spec := "fnExactExceedingOf", unfollowed := true, recurses := true, apart := false }
def FnExactExceedingOfSaid : Prop := fnExactExceedingOfRow.holds Try.pinned (OpenSpec.ofChange fnExactExceedingOfSpec)

/-- ITS FALSE NEIGHBOUR: 'it returns false'. Refute it at one input. -/
def fnExactExceedingOfWrong : ChangeSpec := { name := "fnExactExceedingOf", fn := fun _ => fun
  | [d1, d2] => { results := [.lit (.bool false)], args := [d1, d2] }
  | _ => none }
def FnExactExceedingOfWrongFalsely : Prop := fnExactExceedingOfRow.holds Try.pinned (OpenSpec.ofChange fnExactExceedingOfWrong)

/- THE SECOND FORM. 'bulk': how many values and letters a reading holds, each counted each time it is reached (what is shared counts as often as it is met; a slice's spare places count too). A statement '..UptoSaid' is the law's where the arguments, and the package variables that the reading takes, are together of bulk at most 1048576: NARROWER than '..Said'. Prove '..Said' where nothing that the law and all that it calls make is longer than what came in: it says more and counts as full. Else prove '..UptoSaid'. A law counts once. -/
mutual
def uptoBulk {H : Type} : DataW H → Nat
  | .lit (.string bytes) => bytes.length + 1
  | .lit _ => 1
  | .nil => 1
  | .ptr d => uptoBulk d + 1
  | .slice elems spare => uptoBulkAll elems + uptoBulkAll spare + 1
  | .agg parts => uptoBulkAll parts + 1
  | .iface _ d => uptoBulk d + 1
  | .map entries => uptoBulkEntries entries + 1
  | .held _ => 1
def uptoBulkAll {H : Type} : List (DataW H) → Nat
  | [] => 0
  | d :: r => uptoBulk d + uptoBulkAll r
def uptoBulkEntries {H : Type} : List (Lit × DataW H) → Nat
  | [] => 0
  | x :: r => uptoBulkEntry x + uptoBulkEntries r
def uptoBulkEntry {H : Type} : Lit × DataW H → Nat
  | (.string bytes, d) => bytes.length + uptoBulk d + 1
  | (_, d) => uptoBulk d + 1
 end
def uptoSmall : (H : Type) → List (DataW H) → Bool := fun _ ds => decide (uptoBulkAll ds ≤ 1048576)
def OpenSpec.upto (s : _root_.Go.ChangeSpec) : _root_.Go.OpenSpec := { _root_.Go.OpenSpec.ofChange s with cond := some uptoSmall }

/-- 'laws.FnOrder', WHERE WHAT IT READS IS OF BULK AT MOST 1048576: true; the input reads as it did. -/
def fnOrderUptoRow : OpenClaim := { program := "ytclhpggejppadaa", sum := "3e0dd80b9a5612b0cefc7ad9661b2cae88bf4db8efe5e7ba806c7beec3b5def9", func := "loop.example/g00595/laws.FnOrder", spec := "fnOrder", unfollowed := true, recurses := true, apart := false, narrowed := true }
def FnOrderUptoSaid : Prop := fnOrderUptoRow.holds Try.pinned (OpenSpec.upto fnOrderSpec)

/-- 'laws.FnExactSumsOf', WHERE WHAT IT READS IS OF BULK AT MOST 1048576: true; the input reads as it did. -/
def fnExactSumsOfUptoRow : OpenClaim := { program := "ytclhpggejppadaa", sum := "3e0dd80b9a5612b0cefc7ad9661b2cae88bf4db8efe5e7ba806c7beec3b5def9", func := "loop.example/g00595/laws.FnExactSumsOf", spec := "fnExactSumsOf", unfollowed := true, recurses := true, apart := false, narrowed := true }
def FnExactSumsOfUptoSaid : Prop := fnExactSumsOfUptoRow.holds Try.pinned (OpenSpec.upto fnExactSumsOfSpec)

/-- 'laws.FnExactIsBelow', WHERE WHAT IT READS IS OF BULK AT MOST 1048576: true; the input reads as it did. -/
def fnExactIsBelowUptoRow : OpenClaim := { program := "ytclhpggejppadaa", sum := "3e0dd80b9a5612b0cefc7ad9661b2cae88bf4db8efe5e7ba806c7beec3b5def9", func := "loop.example/g00595/laws.FnExactIsBelow", spec := "fnExactIsBelow", apart := false, narrowed := true }
def FnExactIsBelowUptoSaid : Prop := fnExactIsBelowUptoRow.holds Try.pinned (OpenSpec.upto fnExactIsBelowSpec)

/-- 'laws.FnExactMaximalOf', WHERE WHAT IT READS IS OF BULK AT MOST 1048576: true; the input reads as it did. -/
def fnExactMaximalOfUptoRow : OpenClaim := { program := "ytclhpggejppadaa", sum := "3e0dd80b9a5612b0cefc7ad9661b2cae88bf4db8efe5e7ba806c7beec3b5def9", func := "loop.example/g00595/laws.FnExactMaximalOf", spec := "fnExactMaximalOf", unfollowed := true, recurses := true, apart := false, narrowed := true }
def FnExactMaximalOfUptoSaid : Prop := fnExactMaximalOfUptoRow.holds Try.pinned (OpenSpec.upto fnExactMaximalOfSpec)

/-- 'laws.FnExactMinimalIn', WHERE WHAT IT READS IS OF BULK AT MOST 1048576: true; the input reads as it did. -/
def fnExactMinimalInUptoRow : OpenClaim := { program := "ytclhpggejppadaa", sum := "3e0dd80b9a5612b0cefc7ad9661b2cae88bf4db8efe5e7ba806c7beec3b5def9", func := "loop.example/g00595/laws.FnExactMinimalIn", spec := "fnExactMinimalIn", unfollowed := true, recurses := true, apart := false, narrowed := true }
def FnExactMinimalInUptoSaid : Prop := fnExactMinimalInUptoRow.holds Try.pinned (OpenSpec.upto fnExactMinimalInSpec)

/-- 'laws.FnExactExceedingOf', WHERE WHAT IT READS IS OF BULK AT MOST 1048576: true; the input reads as it did. -/
def fnExactExceedingOfUptoRow : OpenClaim := { program := "ytclhpggejppadaa", sum := "3e0dd80b9a5612b0cefc7ad9661b2cae88bf4db8efe5e7ba806c7beec3b5def9", func := "loop.example/g00595/laws.FnExactExceedingOf", spec := "fnExactExceedingOf", unfollowed := true, recurses := true, apart := false, narrowed := true }
def FnExactExceedingOfUptoSaid : Prop := fnExactExceedingOfUptoRow.holds Try.pinned (OpenSpec.upto fnExactExceedingOfSpec)

end Rows
end Go.Proofs.Ytclhpggejppadaa
