/-
  No cell of these rows narrows 'for every input' (looked for: loops, veiled, ifaces, maps, wideKeys, modest, calm, conditions, laid).
  DERIVED. THE GIVEN ROWS OF THIS SEAT. 7 by the template 'for every input the law returns true; each argument reads behind the call as it read before'; 0 by the template 'total and deterministic' (their statements: YtglonnfagnlmjaaTotals.lean).
  GIVEN WITH THE SEED: the statements are not yours to turn. If you find one false, say at which input.
  Laid BY PROGRAM, IN A SANDBOX (cutbox-rows.mjs): the forced cells as the released guide's own fill.sh prints them over the translation a3a114a761ab50f7… (all of the seat's roots in one cut). By AI agents, Wed Nov 11 2026. No macro, syntax, notation, axiom, sorry.
-/
import Derived.Test.YtglonnfagnlmjaaChecked
import GoSem.Claim
import GoSem.ClaimJoined
import GoSem.ClaimMapViews
import Derived.JoinedTies
import Derived.KernelRfl
namespace Go.Proofs.Ytglonnfagnlmjaa
/- THE CELL 'sum', in the pinned program and in every row, IS THE sha256 OF THE DUMP (.gsa) THAT YtglonnfagnlmjaaProg.lean LOADS. Nothing in Lean hashes anything: it is a label: what it is worth is what the hold of that sum in a sandbox is worth. -/
noncomputable def Try.pinned : Pinned := { name := "ytglonnfagnlmjaa", sum := "a3a114a761ab50f7525bb8b3ff4634ed1a7515f812610e6470f2256f8a1e53ef", checked := Try.checked }
namespace Rows
def none {H : Type} : Left H := { results := [], args := [] }

/-- 'laws.FnSymmetry': WHATEVER THE INPUT: true; the input reads as it did. -/
def fnSymmetrySpec : ChangeSpec := { name := "fnSymmetry", fn := fun _ => fun
  | [d] => { results := [.lit (.bool true)], args := [d] }
  | _ => none }
def fnSymmetryRow : OpenClaim := { program := "ytglonnfagnlmjaa", sum := "a3a114a761ab50f7525bb8b3ff4634ed1a7515f812610e6470f2256f8a1e53ef", func := "loop.example/g00595/laws.FnSymmetry", spec := "fnSymmetry", unfollowed := true, recurses := true, apart := false }
def FnSymmetrySaid : Prop := fnSymmetryRow.holds Try.pinned (OpenSpec.ofChange fnSymmetrySpec)

/-- ITS FALSE NEIGHBOUR: 'it returns false'. Refute it at one input. -/
def fnSymmetryWrong : ChangeSpec := { name := "fnSymmetry", fn := fun _ => fun
  | [d] => { results := [.lit (.bool false)], args := [d] }
  | _ => none }
def FnSymmetryWrongFalsely : Prop := fnSymmetryRow.holds Try.pinned (OpenSpec.ofChange fnSymmetryWrong)

/-- 'laws.FnExactPseudoFrobenius': WHATEVER THE INPUT: true; the input reads as it did. -/
def fnExactPseudoFrobeniusSpec : ChangeSpec := { name := "fnExactPseudoFrobenius", fn := fun _ => fun
  | [d] => { results := [.lit (.bool true)], args := [d] }
  | _ => none }
def fnExactPseudoFrobeniusRow : OpenClaim := { program := "ytglonnfagnlmjaa", sum := "a3a114a761ab50f7525bb8b3ff4634ed1a7515f812610e6470f2256f8a1e53ef", func := "loop.example/g00595/laws.FnExactPseudoFrobenius", spec := "fnExactPseudoFrobenius", unfollowed := true, recurses := true, apart := false }
def FnExactPseudoFrobeniusSaid : Prop := fnExactPseudoFrobeniusRow.holds Try.pinned (OpenSpec.ofChange fnExactPseudoFrobeniusSpec)

/-- ITS FALSE NEIGHBOUR: 'it returns false'. Refute it at one input. -/
def fnExactPseudoFrobeniusWrong : ChangeSpec := { name := "fnExactPseudoFrobenius", fn := fun _ => fun
  | [d] => { results := [.lit (.bool false)], args := [d] }
  | _ => none }
def FnExactPseudoFrobeniusWrongFalsely : Prop := fnExactPseudoFrobeniusRow.holds Try.pinned (OpenSpec.ofChange fnExactPseudoFrobeniusWrong)

/-- 'laws.FnExactTypeOf': WHATEVER THE INPUT: true; the input reads as it did. -/
def fnExactTypeOfSpec : ChangeSpec := { name := "fnExactTypeOf", fn := fun _ => fun
  | [d] => { results := [.lit (.bool true)], args := [d] }
  | _ => none }
def fnExactTypeOfRow : OpenClaim := { program := "ytglonnfagnlmjaa", sum := "a3a114a761ab50f7525bb8b3ff4634ed1a7515f812610e6470f2256f8a1e53ef", func := "loop.example/g00595/laws.FnExactTypeOf", spec := "fnExactTypeOf", unfollowed := true, recurses := true, apart := false }
def FnExactTypeOfSaid : Prop := fnExactTypeOfRow.holds Try.pinned (OpenSpec.ofChange fnExactTypeOfSpec)

/-- ITS FALSE NEIGHBOUR: 'it returns false'. Refute it at one input. -/
def fnExactTypeOfWrong : ChangeSpec := { name := "fnExactTypeOf", fn := fun _ => fun
  | [d] => { results := [.lit (.bool false)], args := [d] }
  | _ => none }
def FnExactTypeOfWrongFalsely : Prop := fnExactTypeOfRow.holds Try.pinned (OpenSpec.ofChange fnExactTypeOfWrong)

/-- 'laws.FnExactIsSymmetric': WHATEVER THE INPUT: true; the input reads as it did. -/
def fnExactIsSymmetricSpec : ChangeSpec := { name := "fnExactIsSymmetric", fn := fun _ => fun
  | [d] => { results := [.lit (.bool true)], args := [d] }
  | _ => none }
def fnExactIsSymmetricRow : OpenClaim := { program := "ytglonnfagnlmjaa", sum := "a3a114a761ab50f7525bb8b3ff4634ed1a7515f812610e6470f2256f8a1e53ef", func := "loop.example/g00595/laws.FnExactIsSymmetric", spec := "fnExactIsSymmetric", unfollowed := true, recurses := true, apart := false }
def FnExactIsSymmetricSaid : Prop := fnExactIsSymmetricRow.holds Try.pinned (OpenSpec.ofChange fnExactIsSymmetricSpec)

/-- ITS FALSE NEIGHBOUR: 'it returns false'. Refute it at one input. -/
def fnExactIsSymmetricWrong : ChangeSpec := { name := "fnExactIsSymmetric", fn := fun _ => fun
  | [d] => { results := [.lit (.bool false)], args := [d] }
  | _ => none }
def FnExactIsSymmetricWrongFalsely : Prop := fnExactIsSymmetricRow.holds Try.pinned (OpenSpec.ofChange fnExactIsSymmetricWrong)

/-- 'laws.FnExactIsPseudoSymmetric': WHATEVER THE INPUT: true; the input reads as it did. -/
def fnExactIsPseudoSymmetricSpec : ChangeSpec := { name := "fnExactIsPseudoSymmetric", fn := fun _ => fun
  | [d] => { results := [.lit (.bool true)], args := [d] }
  | _ => none }
def fnExactIsPseudoSymmetricRow : OpenClaim := { program := "ytglonnfagnlmjaa", sum := "a3a114a761ab50f7525bb8b3ff4634ed1a7515f812610e6470f2256f8a1e53ef", func := "loop.example/g00595/laws.FnExactIsPseudoSymmetric", spec := "fnExactIsPseudoSymmetric", unfollowed := true, recurses := true, apart := false }
def FnExactIsPseudoSymmetricSaid : Prop := fnExactIsPseudoSymmetricRow.holds Try.pinned (OpenSpec.ofChange fnExactIsPseudoSymmetricSpec)

/-- ITS FALSE NEIGHBOUR: 'it returns false'. Refute it at one input. -/
def fnExactIsPseudoSymmetricWrong : ChangeSpec := { name := "fnExactIsPseudoSymmetric", fn := fun _ => fun
  | [d] => { results := [.lit (.bool false)], args := [d] }
  | _ => none }
def FnExactIsPseudoSymmetricWrongFalsely : Prop := fnExactIsPseudoSymmetricRow.holds Try.pinned (OpenSpec.ofChange fnExactIsPseudoSymmetricWrong)

/-- 'laws.FnExactIsIrreducible': WHATEVER THE INPUT: true; the input reads as it did. -/
def fnExactIsIrreducibleSpec : ChangeSpec := { name := "fnExactIsIrreducible", fn := fun _ => fun
  | [d] => { results := [.lit (.bool true)], args := [d] }
  | _ => none }
def fnExactIsIrreducibleRow : OpenClaim := { program := "ytglonnfagnlmjaa", sum := "a3a114a761ab50f7525bb8b3ff4634ed1a7515f812610e6470f2256f8a1e53ef", func := "loop.example/g00595/laws.FnExactIsIrreducible", spec := "fnExactIsIrreducible", unfollowed := true, recurses := true, apart := false }
def FnExactIsIrreducibleSaid : Prop := fnExactIsIrreducibleRow.holds Try.pinned (OpenSpec.ofChange fnExactIsIrreducibleSpec)

/-- ITS FALSE NEIGHBOUR: 'it returns false'. Refute it at one input. -/
def fnExactIsIrreducibleWrong : ChangeSpec := { name := "fnExactIsIrreducible", fn := fun _ => fun
  | [d] => { results := [.lit (.bool false)], args := [d] }
  | _ => none }
def FnExactIsIrreducibleWrongFalsely : Prop := fnExactIsIrreducibleRow.holds Try.pinned (OpenSpec.ofChange fnExactIsIrreducibleWrong)

/-- 'laws.FnExactSpecialGaps': WHATEVER THE INPUT: true; the input reads as it did. -/
def fnExactSpecialGapsSpec : ChangeSpec := { name := "fnExactSpecialGaps", fn := fun _ => fun
  | [d] => { results := [.lit (.bool true)], args := [d] }
  | _ => none }
def fnExactSpecialGapsRow : OpenClaim := { program := "ytglonnfagnlmjaa", sum := "a3a114a761ab50f7525bb8b3ff4634ed1a7515f812610e6470f2256f8a1e53ef", func := "loop.example/g00595/laws.FnExactSpecialGaps", spec := "fnExactSpecialGaps", unfollowed := true, recurses := true, apart := false }
def FnExactSpecialGapsSaid : Prop := fnExactSpecialGapsRow.holds Try.pinned (OpenSpec.ofChange fnExactSpecialGapsSpec)

/-- ITS FALSE NEIGHBOUR: 'it returns false'. Refute it at one input. -/
def fnExactSpecialGapsWrong : ChangeSpec := { name := "fnExactSpecialGaps", fn := fun _ => fun
  | [d] => { results := [.lit (.bool false)], args := [d] }
  | _ => none }
def FnExactSpecialGapsWrongFalsely : Prop := fnExactSpecialGapsRow.holds Try.pinned (OpenSpec.ofChange fnExactSpecialGapsWrong)

/- THE SECOND FORM. 'bulk': how many values and letters a reading holds, each counted each time it is reached (what is shared counts as often as it is met; a slice's spare places count too). A statement '..UptoSaid' is the law's where the arguments, and the package variables that the reading takes, are together of bulk at most 1048576: NARROWER than '..Said'. Prove '..Said' where nothing that the law and all that it calls make is longer than what came in: it says more and counts as full. Else prove '..UptoSaid'. A law counts once. -/
mutual
def uptoBulk {H : Type} : DataW H → Nat
  | .lit (.string bytes) => bytes.length + 1
  | .lit _ => 1
  | .nil => 1
  | .ptr d => uptoBulk d + 1
  | .slice elems spare => uptoBulkAll elems + uptoBulkAll spare + 1
  | .agg parts => uptoBulkAll parts + 1
  | .iface _ d => uptoBulk d + 1
  | .map entries => uptoBulkEntries entries + 1
  | .held _ => 1
def uptoBulkAll {H : Type} : List (DataW H) → Nat
  | [] => 0
  | d :: r => uptoBulk d + uptoBulkAll r
def uptoBulkEntries {H : Type} : List (Lit × DataW H) → Nat
  | [] => 0
  | x :: r => uptoBulkEntry x + uptoBulkEntries r
def uptoBulkEntry {H : Type} : Lit × DataW H → Nat
  | (.string bytes, d) => bytes.length + uptoBulk d + 1
  | (_, d) => uptoBulk d + 1
 end
def uptoSmall : (H : Type) → List (DataW H) → Bool := fun _ ds => decide (uptoBulkAll ds ≤ 1048576)
def OpenSpec.upto (s : _root_.Go.ChangeSpec) : _root_.Go.OpenSpec := { _root_.Go.OpenSpec.ofChange s with cond := some uptoSmall }

/-- 'laws.FnSymmetry', WHERE WHAT IT READS IS OF BULK AT MOST 1048576: true; the input reads as it did. -/
def fnSymmetryUptoRow : OpenClaim := { program := "ytglonnfagnlmjaa", sum := "a3a114a761ab50f7525bb8b3ff4634ed1a7515f812610e6470f2256f8a1e53ef", func := "loop.example/g00595/laws.FnSymmetry", spec := "fnSymmetry", unfollowed := true, recurses := true, apart := false, narrowed := true }
def FnSymmetryUptoSaid : Prop := fnSymmetryUptoRow.holds Try.pinned (OpenSpec.upto fnSymmetrySpec)

/-- 'laws.FnExactPseudoFrobenius', WHERE WHAT IT READS IS OF BULK AT MOST 1048576: true; the input reads as it did. -/
def fnExactPseudoFrobeniusUptoRow : OpenClaim := { program := "ytglonnfagnlmjaa", sum := "a3a114a761ab50f7525bb8b3ff4634ed1a7515f812610e6470f2256f8a1e53ef", func := "loop.example/g00595/laws.FnExactPseudoFrobenius", spec := "fnExactPseudoFrobenius", unfollowed := true, recurses := true, apart := false, narrowed := true }
def FnExactPseudoFrobeniusUptoSaid : Prop := fnExactPseudoFrobeniusUptoRow.holds Try.pinned (OpenSpec.upto fnExactPseudoFrobeniusSpec)

/-- 'laws.FnExactTypeOf', WHERE WHAT IT READS IS OF BULK AT MOST 1048576: true; the input reads as it did. -/
def fnExactTypeOfUptoRow : OpenClaim := { program := "ytglonnfagnlmjaa", sum := "a3a114a761ab50f7525bb8b3ff4634ed1a7515f812610e6470f2256f8a1e53ef", func := "loop.example/g00595/laws.FnExactTypeOf", spec := "fnExactTypeOf", unfollowed := true, recurses := true, apart := false, narrowed := true }
def FnExactTypeOfUptoSaid : Prop := fnExactTypeOfUptoRow.holds Try.pinned (OpenSpec.upto fnExactTypeOfSpec)

/-- 'laws.FnExactIsSymmetric', WHERE WHAT IT READS IS OF BULK AT MOST 1048576: true; the input reads as it did. -/
def fnExactIsSymmetricUptoRow : OpenClaim := { program := "ytglonnfagnlmjaa", sum := "a3a114a761ab50f7525bb8b3ff4634ed1a7515f812610e6470f2256f8a1e53ef", func := "loop.example/g00595/laws.FnExactIsSymmetric", spec := "fnExactIsSymmetric", unfollowed := true, recurses := true, apart := false, narrowed := true }
def FnExactIsSymmetricUptoSaid : Prop := fnExactIsSymmetricUptoRow.holds Try.pinned (OpenSpec.upto fnExactIsSymmetricSpec)

/-- 'laws.FnExactIsPseudoSymmetric', WHERE WHAT IT READS IS OF BULK AT MOST 1048576: true; the input reads as it did. -/
def fnExactIsPseudoSymmetricUptoRow : OpenClaim := { program := "ytglonnfagnlmjaa", sum := "a3a114a761ab50f7525bb8b3ff4634ed1a7515f812610e6470f2256f8a1e53ef", func := "loop.example/g00595/laws.FnExactIsPseudoSymmetric", spec := "fnExactIsPseudoSymmetric", unfollowed := true, recurses := true, apart := false, narrowed := true }
def FnExactIsPseudoSymmetricUptoSaid : Prop := fnExactIsPseudoSymmetricUptoRow.holds Try.pinned (OpenSpec.upto fnExactIsPseudoSymmetricSpec)

/-- 'laws.FnExactIsIrreducible', WHERE WHAT IT READS IS OF BULK AT MOST 1048576: true; the input reads as it did. -/
def fnExactIsIrreducibleUptoRow : OpenClaim := { program := "ytglonnfagnlmjaa", sum := "a3a114a761ab50f7525bb8b3ff4634ed1a7515f812610e6470f2256f8a1e53ef", func := "loop.example/g00595/laws.FnExactIsIrreducible", spec := "fnExactIsIrreducible", unfollowed := true, recurses := true, apart := false, narrowed := true }
def FnExactIsIrreducibleUptoSaid : Prop := fnExactIsIrreducibleUptoRow.holds Try.pinned (OpenSpec.upto fnExactIsIrreducibleSpec)

/-- 'laws.FnExactSpecialGaps', WHERE WHAT IT READS IS OF BULK AT MOST 1048576: true; the input reads as it did. -/
def fnExactSpecialGapsUptoRow : OpenClaim := { program := "ytglonnfagnlmjaa", sum := "a3a114a761ab50f7525bb8b3ff4634ed1a7515f812610e6470f2256f8a1e53ef", func := "loop.example/g00595/laws.FnExactSpecialGaps", spec := "fnExactSpecialGaps", unfollowed := true, recurses := true, apart := false, narrowed := true }
def FnExactSpecialGapsUptoSaid : Prop := fnExactSpecialGapsUptoRow.holds Try.pinned (OpenSpec.upto fnExactSpecialGapsSpec)

end Rows
end Go.Proofs.Ytglonnfagnlmjaa
