/-
  No cell of these rows narrows 'for every input' (looked for: loops, veiled, ifaces, maps, wideKeys, modest, calm, conditions, laid).
  DERIVED. THE GIVEN ROWS OF THIS SEAT. 8 by the template 'for every input the law returns true; each argument reads behind the call as it read before'; 0 by the template 'total and deterministic' (their statements: YtgkkkmcgnpdchaaTotals.lean).
  GIVEN WITH THE SEED: the statements are not yours to turn. If you find one false, say at which input.
  Laid BY PROGRAM, IN A SANDBOX (cutbox-rows.mjs): the forced cells as the released guide's own fill.sh prints them over the translation 44de070dcb4c6e86… (all of the seat's roots in one cut). By AI agents, Wed Nov 11 2026. No macro, syntax, notation, axiom, sorry.
-/
import Derived.Test.YtgkkkmcgnpdchaaChecked
import GoSem.Claim
import GoSem.ClaimJoined
import GoSem.ClaimMapViews
import Derived.JoinedTies
import Derived.KernelRfl
namespace Go.Proofs.Ytgkkkmcgnpdchaa
/- THE CELL 'sum', in the pinned program and in every row, IS THE sha256 OF THE DUMP (.gsa) THAT YtgkkkmcgnpdchaaProg.lean LOADS. Nothing in Lean hashes anything: it is a label: what it is worth is what the hold of that sum in a sandbox is worth. -/
noncomputable def Try.pinned : Pinned := { name := "ytgkkkmcgnpdchaa", sum := "44de070dcb4c6e866a3b0af8d9f62558cd4b8b9156b2d3853761b5ad6a10784e", checked := Try.checked }
namespace Rows
def none {H : Type} : Left H := { results := [], args := [] }

/-- 'laws.FnCoordinates': WHATEVER THE INPUT: true; the input reads as it did. -/
def fnCoordinatesSpec : ChangeSpec := { name := "fnCoordinates", fn := fun _ => fun
  | [d] => { results := [.lit (.bool true)], args := [d] }
  | _ => none }
def fnCoordinatesRow : OpenClaim := { program := "ytgkkkmcgnpdchaa", sum := "44de070dcb4c6e866a3b0af8d9f62558cd4b8b9156b2d3853761b5ad6a10784e", func := "loop.example/g00595/laws.FnCoordinates", spec := "fnCoordinates", unfollowed := true, recurses := true, apart := false }
def FnCoordinatesSaid : Prop := fnCoordinatesRow.holds Try.pinned (OpenSpec.ofChange fnCoordinatesSpec)

/-- ITS FALSE NEIGHBOUR: 'it returns false'. Refute it at one input. -/
def fnCoordinatesWrong : ChangeSpec := { name := "fnCoordinates", fn := fun _ => fun
  | [d] => { results := [.lit (.bool false)], args := [d] }
  | _ => none }
def FnCoordinatesWrongFalsely : Prop := fnCoordinatesRow.holds Try.pinned (OpenSpec.ofChange fnCoordinatesWrong)

/-- 'laws.FnFromGaps': WHATEVER THE INPUT: true; the input reads as it did. -/
def fnFromGapsSpec : ChangeSpec := { name := "fnFromGaps", fn := fun _ => fun
  | [d] => { results := [.lit (.bool true)], args := [d] }
  | _ => none }
def fnFromGapsRow : OpenClaim := { program := "ytgkkkmcgnpdchaa", sum := "44de070dcb4c6e866a3b0af8d9f62558cd4b8b9156b2d3853761b5ad6a10784e", func := "loop.example/g00595/laws.FnFromGaps", spec := "fnFromGaps", unfollowed := true, recurses := true, apart := false }
def FnFromGapsSaid : Prop := fnFromGapsRow.holds Try.pinned (OpenSpec.ofChange fnFromGapsSpec)

/-- ITS FALSE NEIGHBOUR: 'it returns false'. Refute it at one input. -/
def fnFromGapsWrong : ChangeSpec := { name := "fnFromGaps", fn := fun _ => fun
  | [d] => { results := [.lit (.bool false)], args := [d] }
  | _ => none }
def FnFromGapsWrongFalsely : Prop := fnFromGapsRow.holds Try.pinned (OpenSpec.ofChange fnFromGapsWrong)

/-- 'laws.FnExactCoordinatesOf': WHATEVER THE INPUT: true; the input reads as it did. -/
def fnExactCoordinatesOfSpec : ChangeSpec := { name := "fnExactCoordinatesOf", fn := fun _ => fun
  | [d] => { results := [.lit (.bool true)], args := [d] }
  | _ => none }
def fnExactCoordinatesOfRow : OpenClaim := { program := "ytgkkkmcgnpdchaa", sum := "44de070dcb4c6e866a3b0af8d9f62558cd4b8b9156b2d3853761b5ad6a10784e", func := "loop.example/g00595/laws.FnExactCoordinatesOf", spec := "fnExactCoordinatesOf", apart := false }
def FnExactCoordinatesOfSaid : Prop := fnExactCoordinatesOfRow.holds Try.pinned (OpenSpec.ofChange fnExactCoordinatesOfSpec)

/-- ITS FALSE NEIGHBOUR: 'it returns false'. Refute it at one input. -/
def fnExactCoordinatesOfWrong : ChangeSpec := { name := "fnExactCoordinatesOf", fn := fun _ => fun
  | [d] => { results := [.lit (.bool false)], args := [d] }
  | _ => none }
def FnExactCoordinatesOfWrongFalsely : Prop := fnExactCoordinatesOfRow.holds Try.pinned (OpenSpec.ofChange fnExactCoordinatesOfWrong)

/-- 'laws.FnExactCoordinateClash': WHATEVER THE INPUT: true; the input reads as it did. -/
def fnExactCoordinateClashSpec : ChangeSpec := { name := "fnExactCoordinateClash", fn := fun _ => fun
  | [d] => { results := [.lit (.bool true)], args := [d] }
  | _ => none }
def fnExactCoordinateClashRow : OpenClaim := { program := "ytgkkkmcgnpdchaa", sum := "44de070dcb4c6e866a3b0af8d9f62558cd4b8b9156b2d3853761b5ad6a10784e", func := "loop.example/g00595/laws.FnExactCoordinateClash", spec := "fnExactCoordinateClash", apart := false }
def FnExactCoordinateClashSaid : Prop := fnExactCoordinateClashRow.holds Try.pinned (OpenSpec.ofChange fnExactCoordinateClashSpec)

/-- ITS FALSE NEIGHBOUR: 'it returns false'. Refute it at one input. -/
def fnExactCoordinateClashWrong : ChangeSpec := { name := "fnExactCoordinateClash", fn := fun _ => fun
  | [d] => { results := [.lit (.bool false)], args := [d] }
  | _ => none }
def FnExactCoordinateClashWrongFalsely : Prop := fnExactCoordinateClashRow.holds Try.pinned (OpenSpec.ofChange fnExactCoordinateClashWrong)

/-- 'laws.FnExactFromCoordinates': WHATEVER THE INPUT: true; the input reads as it did. -/
def fnExactFromCoordinatesSpec : ChangeSpec := { name := "fnExactFromCoordinates", fn := fun _ => fun
  | [d] => { results := [.lit (.bool true)], args := [d] }
  | _ => none }
def fnExactFromCoordinatesRow : OpenClaim := { program := "ytgkkkmcgnpdchaa", sum := "44de070dcb4c6e866a3b0af8d9f62558cd4b8b9156b2d3853761b5ad6a10784e", func := "loop.example/g00595/laws.FnExactFromCoordinates", spec := "fnExactFromCoordinates", unfollowed := true, recurses := true, apart := false }
def FnExactFromCoordinatesSaid : Prop := fnExactFromCoordinatesRow.holds Try.pinned (OpenSpec.ofChange fnExactFromCoordinatesSpec)

/-- ITS FALSE NEIGHBOUR: 'it returns false'. Refute it at one input. -/
def fnExactFromCoordinatesWrong : ChangeSpec := { name := "fnExactFromCoordinates", fn := fun _ => fun
  | [d] => { results := [.lit (.bool false)], args := [d] }
  | _ => none }
def FnExactFromCoordinatesWrongFalsely : Prop := fnExactFromCoordinatesRow.holds Try.pinned (OpenSpec.ofChange fnExactFromCoordinatesWrong)

/-- 'laws.FnExactGapClash': WHATEVER THE INPUT: true; the input reads as it did. -/
def fnExactGapClashSpec : ChangeSpec := { name := "fnExactGapClash", fn := fun _ => fun
  | [d] => { results := [.lit (.bool true)], args := [d] }
  | _ => none }
def fnExactGapClashRow : OpenClaim := { program := "ytgkkkmcgnpdchaa", sum := "44de070dcb4c6e866a3b0af8d9f62558cd4b8b9156b2d3853761b5ad6a10784e", func := "loop.example/g00595/laws.FnExactGapClash", spec := "fnExactGapClash", unfollowed := true, recurses := true, apart := false }
def FnExactGapClashSaid : Prop := fnExactGapClashRow.holds Try.pinned (OpenSpec.ofChange fnExactGapClashSpec)

/-- ITS FALSE NEIGHBOUR: 'it returns false'. Refute it at one input. -/
def fnExactGapClashWrong : ChangeSpec := { name := "fnExactGapClash", fn := fun _ => fun
  | [d] => { results := [.lit (.bool false)], args := [d] }
  | _ => none }
def FnExactGapClashWrongFalsely : Prop := fnExactGapClashRow.holds Try.pinned (OpenSpec.ofChange fnExactGapClashWrong)

/-- 'laws.FnExactFromGaps': WHATEVER THE INPUT: true; the input reads as it did. -/
def fnExactFromGapsSpec : ChangeSpec := { name := "fnExactFromGaps", fn := fun _ => fun
  | [d] => { results := [.lit (.bool true)], args := [d] }
  | _ => none }
def fnExactFromGapsRow : OpenClaim := { program := "ytgkkkmcgnpdchaa", sum := "44de070dcb4c6e866a3b0af8d9f62558cd4b8b9156b2d3853761b5ad6a10784e", func := "loop.example/g00595/laws.FnExactFromGaps", spec := "fnExactFromGaps", unfollowed := true, recurses := true, apart := false }
def FnExactFromGapsSaid : Prop := fnExactFromGapsRow.holds Try.pinned (OpenSpec.ofChange fnExactFromGapsSpec)

/-- ITS FALSE NEIGHBOUR: 'it returns false'. Refute it at one input. -/
def fnExactFromGapsWrong : ChangeSpec := { name := "fnExactFromGaps", fn := fun _ => fun
  | [d] => { results := [.lit (.bool false)], args := [d] }
  | _ => none }
def FnExactFromGapsWrongFalsely : Prop := fnExactFromGapsRow.holds Try.pinned (OpenSpec.ofChange fnExactFromGapsWrong)

/-- 'laws.FnExactFromElements': WHATEVER THE INPUT: true; the input reads as it did. -/
def fnExactFromElementsSpec : ChangeSpec := { name := "fnExactFromElements", fn := fun _ => fun
  | [d1, d2] => { results := [.lit (.bool true)], args := [d1, d2] }
  | _ => none }
def fnExactFromElementsRow : OpenClaim := { program := "ytgkkkmcgnpdchaa", sum := "44de070dcb4c6e866a3b0af8d9f62558cd4b8b9156b2d3853761b5ad6a10784e", func := "loop.example/g00595/laws.FnExactFromElements", spec := "fnExactFromElements", unfollowed := true, recurses := true, apart := false }
def FnExactFromElementsSaid : Prop := fnExactFromElementsRow.holds Try.pinned (OpenSpec.ofChange fnExactFromElementsSpec)

/-- ITS FALSE NEIGHBOUR: 'it returns false'. Refute it at one input. -/
def fnExactFromElementsWrong : ChangeSpec := { name := "fnExactFromElements", fn := fun _ => fun
  | [d1, d2] => { results := [.lit (.bool false)], args := [d1, d2] }
  | _ => none }
def FnExactFromElementsWrongFalsely : Prop := fnExactFromElementsRow.holds Try.pinned (OpenSpec.ofChange fnExactFromElementsWrong)

/- THE SECOND FORM. 'bulk': how many values and letters a reading holds, each counted each time it is reached (what is shared counts as often as it is met; a slice's spare places count too). A statement '..UptoSaid' is the law's where the arguments, and the package variables that the reading takes, are together of bulk at most 1048576: NARROWER than '..Said'. Prove '..Said' where nothing that the law and all that it calls make is longer than what came in: it says more and counts as full. Else prove '..UptoSaid'. A law counts once. -/
mutual
def uptoBulk {H : Type} : DataW H → Nat
  | .lit (.string bytes) => bytes.length + 1
  | .lit _ => 1
  | .nil => 1
  | .ptr d => uptoBulk d + 1
  | .slice elems spare => uptoBulkAll elems + uptoBulkAll spare + 1
  | .agg parts => uptoBulkAll parts + 1
  | .iface _ d => uptoBulk d + 1
  | .map entries => uptoBulkEntries entries + 1
  | .held _ => 1
def uptoBulkAll {H : Type} : List (DataW H) → Nat
  | [] => 0
  | d :: r => uptoBulk d + uptoBulkAll r
def uptoBulkEntries {H : Type} : List (Lit × DataW H) → Nat
  | [] => 0
  | x :: r => uptoBulkEntry x + uptoBulkEntries r
def uptoBulkEntry {H : Type} : Lit × DataW H → Nat
  | (.string bytes, d) => bytes.length + uptoBulk d + 1
  | (_, d) => uptoBulk d + 1
 end
def uptoSmall : (H : Type) → List (DataW H) → Bool := fun _ ds => decide (uptoBulkAll ds ≤ 1048576)
def OpenSpec.upto (s : _root_.Go.ChangeSpec) : _root_.Go.OpenSpec := { _root_.Go.OpenSpec.ofChange s with cond := some uptoSmall }

/-- 'laws.FnCoordinates', WHERE WHAT IT READS IS OF BULK AT MOST 1048576: true; the input reads as it did. -/
def fnCoordinatesUptoRow : OpenClaim := { program := "ytgkkkmcgnpdchaa", sum := "44de070dcb4c6e866a3b0af8d9f62558cd4b8b9156b2d3853761b5ad6a10784e", func := "loop.example/g00595/laws.FnCoordinates", spec := "fnCoordinates", unfollowed := true, recurses := true, apart := false, narrowed := true }
def FnCoordinatesUptoSaid : Prop := fnCoordinatesUptoRow.holds Try.pinned (OpenSpec.upto fnCoordinatesSpec)

/-- 'laws.FnFromGaps', WHERE WHAT IT READS IS OF BULK AT MOST 1048576: true; the input reads as it did. -/
def fnFromGapsUptoRow : OpenClaim := { program := "ytgkkkmcgnpdchaa", sum := "44de070dcb4c6e866a3b0af8d9f62558cd4b8b9156b2d3853761b5ad6a10784e", func := "loop.example/g00595/laws.FnFromGaps", spec := "fnFromGaps", unfollowed := true, recurses := true, apart := false, narrowed := true }
def FnFromGapsUptoSaid : Prop := fnFromGapsUptoRow.holds Try.pinned (OpenSpec.upto fnFromGapsSpec)

/-- 'laws.FnExactCoordinatesOf', WHERE WHAT IT READS IS OF BULK AT MOST 1048576: true; the input reads as it did. -/
def fnExactCoordinatesOfUptoRow : OpenClaim := { program := "ytgkkkmcgnpdchaa", sum := "44de070dcb4c6e866a3b0af8d9f62558cd4b8b9156b2d3853761b5ad6a10784e", func := "loop.example/g00595/laws.FnExactCoordinatesOf", spec := "fnExactCoordinatesOf", apart := false, narrowed := true }
def FnExactCoordinatesOfUptoSaid : Prop := fnExactCoordinatesOfUptoRow.holds Try.pinned (OpenSpec.upto fnExactCoordinatesOfSpec)

/-- 'laws.FnExactCoordinateClash', WHERE WHAT IT READS IS OF BULK AT MOST 1048576: true; the input reads as it did. -/
def fnExactCoordinateClashUptoRow : OpenClaim := { program := "ytgkkkmcgnpdchaa", sum := "44de070dcb4c6e866a3b0af8d9f62558cd4b8b9156b2d3853761b5ad6a10784e", func := "loop.example/g00595/laws.FnExactCoordinateClash", spec := "fnExactCoordinateClash", apart := false, narrowed := true }
def FnExactCoordinateClashUptoSaid : Prop := fnExactCoordinateClashUptoRow.holds Try.pinned (OpenSpec.upto fnExactCoordinateClashSpec)

/-- 'laws.FnExactFromCoordinates', WHERE WHAT IT READS IS OF BULK AT MOST 1048576: true; the input reads as it did. -/
def fnExactFromCoordinatesUptoRow : OpenClaim := { program := "ytgkkkmcgnpdchaa", sum := "44de070dcb4c6e866a3b0af8d9f62558cd4b8b9156b2d3853761b5ad6a10784e", func := "loop.example/g00595/laws.FnExactFromCoordinates", spec := "fnExactFromCoordinates", unfollowed := true, recurses := true, apart := false, narrowed := true }
def FnExactFromCoordinatesUptoSaid : Prop := fnExactFromCoordinatesUptoRow.holds Try.pinned (OpenSpec.upto fnExactFromCoordinatesSpec)

/-- 'laws.FnExactGapClash', WHERE WHAT IT READS IS OF BULK AT MOST 1048576: true; the input reads as it did. -/
def fnExactGapClashUptoRow : OpenClaim := { program := "ytgkkkmcgnpdchaa", sum := "44de070dcb4c6e866a3b0af8d9f62558cd4b8b9156b2d3853761b5ad6a10784e", func := "loop.example/g00595/laws.FnExactGapClash", spec := "fnExactGapClash", unfollowed := true, recurses := true, apart := false, narrowed := true }
def FnExactGapClashUptoSaid : Prop := fnExactGapClashUptoRow.holds Try.pinned (OpenSpec.upto fnExactGapClashSpec)

/-- 'laws.FnExactFromGaps', WHERE WHAT IT READS IS OF BULK AT MOST 1048576: true; the input reads as it did. -/
def fnExactFromGapsUptoRow : OpenClaim := { program := "ytgkkkmcgnpdchaa", sum := "44de070dcb4c6e866a3b0af8d9f62558cd4b8b9156b2d3853761b5ad6a10784e", func := "loop.example/g00595/laws.FnExactFromGaps", spec := "fnExactFromGaps", unfollowed := true, recurses := true, apart := false, narrowed := true }
def FnExactFromGapsUptoSaid : Prop := fnExactFromGapsUptoRow.holds Try.pinned (OpenSpec.upto fnExactFromGapsSpec)

/-- 'laws.FnExactFromElements', WHERE WHAT IT READS IS OF BULK AT MOST 1048576: true; the input reads as it did. -/
def fnExactFromElementsUptoRow : OpenClaim := { program := "ytgkkkmcgnpdchaa", sum := "44de070dcb4c6e866a3b0af8d9f62558cd4b8b9156b2d3853761b5ad6a10784e", func := "loop.example/g00595/laws.FnExactFromElements", spec := "fnExactFromElements", unfollowed := true, recurses := true, apart := false, narrowed := true }
def FnExactFromElementsUptoSaid : Prop := fnExactFromElementsUptoRow.holds Try.pinned (OpenSpec.upto fnExactFromElementsSpec)

end Rows
end Go.Proofs.Ytgkkkmcgnpdchaa
