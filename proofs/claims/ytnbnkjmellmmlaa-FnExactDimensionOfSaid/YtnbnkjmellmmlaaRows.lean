/-
  No cell of these rows narrows 'for every input' (looked for: loops, veiled, ifaces, maps, wideKeys, modest, calm, conditions, laid).
  DERIVED. THE GIVEN ROWS OF THIS SEAT. 12 by the template 'for every input the law returns true; each argument reads behind the call as it read before'; 0 by the template 'total and deterministic' (their statements: YtnbnkjmellmmlaaTotals.lean).
  GIVEN WITH THE SEED: the statements are not yours to turn. If you find one false, say at which input.
  Laid BY PROGRAM, IN A SANDBOX (cutbox-rows.mjs): the forced cells as the released guide's own fill.sh prints them over the translation 47f5ee4907cc8e7f… (all of the seat's roots in one cut). By AI agents, Wed Nov 11 2026. No macro, syntax, notation, axiom, sorry.
-/
import Derived.Test.YtnbnkjmellmmlaaChecked
import GoSem.Claim
import GoSem.ClaimJoined
import GoSem.ClaimMapViews
import Derived.JoinedTies
import Derived.KernelRfl
namespace Go.Proofs.Ytnbnkjmellmmlaa
/- THE CELL 'sum', in the pinned program and in every row, IS THE sha256 OF THE DUMP (.gsa) THAT YtnbnkjmellmmlaaProg.lean LOADS. Nothing in Lean hashes anything: it is a label: what it is worth is what the hold of that sum in a sandbox is worth. -/
noncomputable def Try.pinned : Pinned := { name := "ytnbnkjmellmmlaa", sum := "47f5ee4907cc8e7fca9821fb8066202083f32e521c32d2f12c9b25637393692d", checked := Try.checked }
namespace Rows
def none {H : Type} : Left H := { results := [], args := [] }

/-- 'laws.FnExactGenerates': WHATEVER THE INPUT: true; the input reads as it did. -/
def fnExactGeneratesSpec : ChangeSpec := { name := "fnExactGenerates", fn := fun _ => fun
  | [d1, d2] => { results := [.lit (.bool true)], args := [d1, d2] }
  | _ => none }
def fnExactGeneratesRow : OpenClaim := { program := "ytnbnkjmellmmlaa", sum := "47f5ee4907cc8e7fca9821fb8066202083f32e521c32d2f12c9b25637393692d", func := "loop.example/g00595/laws.FnExactGenerates", spec := "fnExactGenerates", apart := false }
def FnExactGeneratesSaid : Prop := fnExactGeneratesRow.holds Try.pinned (OpenSpec.ofChange fnExactGeneratesSpec)

/-- ITS FALSE NEIGHBOUR: 'it returns false'. Refute it at one input. -/
def fnExactGeneratesWrong : ChangeSpec := { name := "fnExactGenerates", fn := fun _ => fun
  | [d1, d2] => { results := [.lit (.bool false)], args := [d1, d2] }
  | _ => none }
def FnExactGeneratesWrongFalsely : Prop := fnExactGeneratesRow.holds Try.pinned (OpenSpec.ofChange fnExactGeneratesWrong)

/-- 'laws.FnExactIsSemigroup': WHATEVER THE INPUT: true; the input reads as it did. -/
def fnExactIsSemigroupSpec : ChangeSpec := { name := "fnExactIsSemigroup", fn := fun _ => fun
  | [d] => { results := [.lit (.bool true)], args := [d] }
  | _ => none }
def fnExactIsSemigroupRow : OpenClaim := { program := "ytnbnkjmellmmlaa", sum := "47f5ee4907cc8e7fca9821fb8066202083f32e521c32d2f12c9b25637393692d", func := "loop.example/g00595/laws.FnExactIsSemigroup", spec := "fnExactIsSemigroup", apart := false }
def FnExactIsSemigroupSaid : Prop := fnExactIsSemigroupRow.holds Try.pinned (OpenSpec.ofChange fnExactIsSemigroupSpec)

/-- ITS FALSE NEIGHBOUR: 'it returns false'. Refute it at one input. -/
def fnExactIsSemigroupWrong : ChangeSpec := { name := "fnExactIsSemigroup", fn := fun _ => fun
  | [d] => { results := [.lit (.bool false)], args := [d] }
  | _ => none }
def FnExactIsSemigroupWrongFalsely : Prop := fnExactIsSemigroupRow.holds Try.pinned (OpenSpec.ofChange fnExactIsSemigroupWrong)

/-- 'laws.FnExactContains': WHATEVER THE INPUT: true; the input reads as it did. -/
def fnExactContainsSpec : ChangeSpec := { name := "fnExactContains", fn := fun _ => fun
  | [d1, d2] => { results := [.lit (.bool true)], args := [d1, d2] }
  | _ => none }
def fnExactContainsRow : OpenClaim := { program := "ytnbnkjmellmmlaa", sum := "47f5ee4907cc8e7fca9821fb8066202083f32e521c32d2f12c9b25637393692d", func := "loop.example/g00595/laws.FnExactContains", spec := "fnExactContains", apart := false }
def FnExactContainsSaid : Prop := fnExactContainsRow.holds Try.pinned (OpenSpec.ofChange fnExactContainsSpec)

/-- ITS FALSE NEIGHBOUR: 'it returns false'. Refute it at one input. -/
def fnExactContainsWrong : ChangeSpec := { name := "fnExactContains", fn := fun _ => fun
  | [d1, d2] => { results := [.lit (.bool false)], args := [d1, d2] }
  | _ => none }
def FnExactContainsWrongFalsely : Prop := fnExactContainsRow.holds Try.pinned (OpenSpec.ofChange fnExactContainsWrong)

/-- 'laws.FnExactFromGens': WHATEVER THE INPUT: true; the input reads as it did. -/
def fnExactFromGensSpec : ChangeSpec := { name := "fnExactFromGens", fn := fun _ => fun
  | [d] => { results := [.lit (.bool true)], args := [d] }
  | _ => none }
def fnExactFromGensRow : OpenClaim := { program := "ytnbnkjmellmmlaa", sum := "47f5ee4907cc8e7fca9821fb8066202083f32e521c32d2f12c9b25637393692d", func := "loop.example/g00595/laws.FnExactFromGens", spec := "fnExactFromGens", unfollowed := true, recurses := true, apart := false }
def FnExactFromGensSaid : Prop := fnExactFromGensRow.holds Try.pinned (OpenSpec.ofChange fnExactFromGensSpec)

/-- ITS FALSE NEIGHBOUR: 'it returns false'. Refute it at one input. -/
def fnExactFromGensWrong : ChangeSpec := { name := "fnExactFromGens", fn := fun _ => fun
  | [d] => { results := [.lit (.bool false)], args := [d] }
  | _ => none }
def FnExactFromGensWrongFalsely : Prop := fnExactFromGensRow.holds Try.pinned (OpenSpec.ofChange fnExactFromGensWrong)

/-- 'laws.FnExactMultiplicityOf': WHATEVER THE INPUT: true; the input reads as it did. -/
def fnExactMultiplicityOfSpec : ChangeSpec := { name := "fnExactMultiplicityOf", fn := fun _ => fun
  | [d] => { results := [.lit (.bool true)], args := [d] }
  | _ => none }
def fnExactMultiplicityOfRow : OpenClaim := { program := "ytnbnkjmellmmlaa", sum := "47f5ee4907cc8e7fca9821fb8066202083f32e521c32d2f12c9b25637393692d", func := "loop.example/g00595/laws.FnExactMultiplicityOf", spec := "fnExactMultiplicityOf", apart := false }
def FnExactMultiplicityOfSaid : Prop := fnExactMultiplicityOfRow.holds Try.pinned (OpenSpec.ofChange fnExactMultiplicityOfSpec)

/-- ITS FALSE NEIGHBOUR: 'it returns false'. Refute it at one input. -/
def fnExactMultiplicityOfWrong : ChangeSpec := { name := "fnExactMultiplicityOf", fn := fun _ => fun
  | [d] => { results := [.lit (.bool false)], args := [d] }
  | _ => none }
def FnExactMultiplicityOfWrongFalsely : Prop := fnExactMultiplicityOfRow.holds Try.pinned (OpenSpec.ofChange fnExactMultiplicityOfWrong)

/-- 'laws.FnExactDimensionOf': WHATEVER THE INPUT: true; the input reads as it did. -/
def fnExactDimensionOfSpec : ChangeSpec := { name := "fnExactDimensionOf", fn := fun _ => fun
  | [d] => { results := [.lit (.bool true)], args := [d] }
  | _ => none }
def fnExactDimensionOfRow : OpenClaim := { program := "ytnbnkjmellmmlaa", sum := "47f5ee4907cc8e7fca9821fb8066202083f32e521c32d2f12c9b25637393692d", func := "loop.example/g00595/laws.FnExactDimensionOf", spec := "fnExactDimensionOf", apart := false }
def FnExactDimensionOfSaid : Prop := fnExactDimensionOfRow.holds Try.pinned (OpenSpec.ofChange fnExactDimensionOfSpec)

/-- ITS FALSE NEIGHBOUR: 'it returns false'. Refute it at one input. -/
def fnExactDimensionOfWrong : ChangeSpec := { name := "fnExactDimensionOf", fn := fun _ => fun
  | [d] => { results := [.lit (.bool false)], args := [d] }
  | _ => none }
def FnExactDimensionOfWrongFalsely : Prop := fnExactDimensionOfRow.holds Try.pinned (OpenSpec.ofChange fnExactDimensionOfWrong)

/-- 'laws.FnExactGaps': WHATEVER THE INPUT: true; the input reads as it did. -/
def fnExactGapsSpec : ChangeSpec := { name := "fnExactGaps", fn := fun _ => fun
  | [d] => { results := [.lit (.bool true)], args := [d] }
  | _ => none }
def fnExactGapsRow : OpenClaim := { program := "ytnbnkjmellmmlaa", sum := "47f5ee4907cc8e7fca9821fb8066202083f32e521c32d2f12c9b25637393692d", func := "loop.example/g00595/laws.FnExactGaps", spec := "fnExactGaps", unfollowed := true, recurses := true, apart := false }
def FnExactGapsSaid : Prop := fnExactGapsRow.holds Try.pinned (OpenSpec.ofChange fnExactGapsSpec)

/-- ITS FALSE NEIGHBOUR: 'it returns false'. Refute it at one input. -/
def fnExactGapsWrong : ChangeSpec := { name := "fnExactGaps", fn := fun _ => fun
  | [d] => { results := [.lit (.bool false)], args := [d] }
  | _ => none }
def FnExactGapsWrongFalsely : Prop := fnExactGapsRow.holds Try.pinned (OpenSpec.ofChange fnExactGapsWrong)

/-- 'laws.FnExactFrobeniusOf': WHATEVER THE INPUT: true; the input reads as it did. -/
def fnExactFrobeniusOfSpec : ChangeSpec := { name := "fnExactFrobeniusOf", fn := fun _ => fun
  | [d] => { results := [.lit (.bool true)], args := [d] }
  | _ => none }
def fnExactFrobeniusOfRow : OpenClaim := { program := "ytnbnkjmellmmlaa", sum := "47f5ee4907cc8e7fca9821fb8066202083f32e521c32d2f12c9b25637393692d", func := "loop.example/g00595/laws.FnExactFrobeniusOf", spec := "fnExactFrobeniusOf", unfollowed := true, recurses := true, apart := false }
def FnExactFrobeniusOfSaid : Prop := fnExactFrobeniusOfRow.holds Try.pinned (OpenSpec.ofChange fnExactFrobeniusOfSpec)

/-- ITS FALSE NEIGHBOUR: 'it returns false'. Refute it at one input. -/
def fnExactFrobeniusOfWrong : ChangeSpec := { name := "fnExactFrobeniusOf", fn := fun _ => fun
  | [d] => { results := [.lit (.bool false)], args := [d] }
  | _ => none }
def FnExactFrobeniusOfWrongFalsely : Prop := fnExactFrobeniusOfRow.holds Try.pinned (OpenSpec.ofChange fnExactFrobeniusOfWrong)

/-- 'laws.FnExactGenusOf': WHATEVER THE INPUT: true; the input reads as it did. -/
def fnExactGenusOfSpec : ChangeSpec := { name := "fnExactGenusOf", fn := fun _ => fun
  | [d] => { results := [.lit (.bool true)], args := [d] }
  | _ => none }
def fnExactGenusOfRow : OpenClaim := { program := "ytnbnkjmellmmlaa", sum := "47f5ee4907cc8e7fca9821fb8066202083f32e521c32d2f12c9b25637393692d", func := "loop.example/g00595/laws.FnExactGenusOf", spec := "fnExactGenusOf", unfollowed := true, recurses := true, apart := false }
def FnExactGenusOfSaid : Prop := fnExactGenusOfRow.holds Try.pinned (OpenSpec.ofChange fnExactGenusOfSpec)

/-- ITS FALSE NEIGHBOUR: 'it returns false'. Refute it at one input. -/
def fnExactGenusOfWrong : ChangeSpec := { name := "fnExactGenusOf", fn := fun _ => fun
  | [d] => { results := [.lit (.bool false)], args := [d] }
  | _ => none }
def FnExactGenusOfWrongFalsely : Prop := fnExactGenusOfRow.holds Try.pinned (OpenSpec.ofChange fnExactGenusOfWrong)

/-- 'laws.FnExactConductorOf': WHATEVER THE INPUT: true; the input reads as it did. -/
def fnExactConductorOfSpec : ChangeSpec := { name := "fnExactConductorOf", fn := fun _ => fun
  | [d] => { results := [.lit (.bool true)], args := [d] }
  | _ => none }
def fnExactConductorOfRow : OpenClaim := { program := "ytnbnkjmellmmlaa", sum := "47f5ee4907cc8e7fca9821fb8066202083f32e521c32d2f12c9b25637393692d", func := "loop.example/g00595/laws.FnExactConductorOf", spec := "fnExactConductorOf", unfollowed := true, recurses := true, apart := false }
def FnExactConductorOfSaid : Prop := fnExactConductorOfRow.holds Try.pinned (OpenSpec.ofChange fnExactConductorOfSpec)

/-- ITS FALSE NEIGHBOUR: 'it returns false'. Refute it at one input. -/
def fnExactConductorOfWrong : ChangeSpec := { name := "fnExactConductorOf", fn := fun _ => fun
  | [d] => { results := [.lit (.bool false)], args := [d] }
  | _ => none }
def FnExactConductorOfWrongFalsely : Prop := fnExactConductorOfRow.holds Try.pinned (OpenSpec.ofChange fnExactConductorOfWrong)

/-- 'laws.FnExactSmallElements': WHATEVER THE INPUT: true; the input reads as it did. -/
def fnExactSmallElementsSpec : ChangeSpec := { name := "fnExactSmallElements", fn := fun _ => fun
  | [d] => { results := [.lit (.bool true)], args := [d] }
  | _ => none }
def fnExactSmallElementsRow : OpenClaim := { program := "ytnbnkjmellmmlaa", sum := "47f5ee4907cc8e7fca9821fb8066202083f32e521c32d2f12c9b25637393692d", func := "loop.example/g00595/laws.FnExactSmallElements", spec := "fnExactSmallElements", unfollowed := true, recurses := true, apart := false }
def FnExactSmallElementsSaid : Prop := fnExactSmallElementsRow.holds Try.pinned (OpenSpec.ofChange fnExactSmallElementsSpec)

/-- ITS FALSE NEIGHBOUR: 'it returns false'. Refute it at one input. -/
def fnExactSmallElementsWrong : ChangeSpec := { name := "fnExactSmallElements", fn := fun _ => fun
  | [d] => { results := [.lit (.bool false)], args := [d] }
  | _ => none }
def FnExactSmallElementsWrongFalsely : Prop := fnExactSmallElementsRow.holds Try.pinned (OpenSpec.ofChange fnExactSmallElementsWrong)

/-- 'laws.FnExactElementAt': WHATEVER THE INPUT: true; the input reads as it did. -/
def fnExactElementAtSpec : ChangeSpec := { name := "fnExactElementAt", fn := fun _ => fun
  | [d1, d2] => { results := [.lit (.bool true)], args := [d1, d2] }
  | _ => none }
def fnExactElementAtRow : OpenClaim := { program := "ytnbnkjmellmmlaa", sum := "47f5ee4907cc8e7fca9821fb8066202083f32e521c32d2f12c9b25637393692d", func := "loop.example/g00595/laws.FnExactElementAt", spec := "fnExactElementAt", unfollowed := true, recurses := true, apart := false }
def FnExactElementAtSaid : Prop := fnExactElementAtRow.holds Try.pinned (OpenSpec.ofChange fnExactElementAtSpec)

/-- ITS FALSE NEIGHBOUR: 'it returns false'. Refute it at one input. -/
def fnExactElementAtWrong : ChangeSpec := { name := "fnExactElementAt", fn := fun _ => fun
  | [d1, d2] => { results := [.lit (.bool false)], args := [d1, d2] }
  | _ => none }
def FnExactElementAtWrongFalsely : Prop := fnExactElementAtRow.holds Try.pinned (OpenSpec.ofChange fnExactElementAtWrong)

/- THE SECOND FORM. 'bulk': how many values and letters a reading holds, each counted each time it is reached (what is shared counts as often as it is met; a slice's spare places count too). A statement '..UptoSaid' is the law's where the arguments, and the package variables that the reading takes, are together of bulk at most 1048576: NARROWER than '..Said'. Prove '..Said' where nothing that the law and all that it calls make is longer than what came in: it says more and counts as full. Else prove '..UptoSaid'. A law counts once. -/
mutual
def uptoBulk {H : Type} : DataW H → Nat
  | .lit (.string bytes) => bytes.length + 1
  | .lit _ => 1
  | .nil => 1
  | .ptr d => uptoBulk d + 1
  | .slice elems spare => uptoBulkAll elems + uptoBulkAll spare + 1
  | .agg parts => uptoBulkAll parts + 1
  | .iface _ d => uptoBulk d + 1
  | .map entries => uptoBulkEntries entries + 1
  | .held _ => 1
def uptoBulkAll {H : Type} : List (DataW H) → Nat
  | [] => 0
  | d :: r => uptoBulk d + uptoBulkAll r
def uptoBulkEntries {H : Type} : List (Lit × DataW H) → Nat
  | [] => 0
  | x :: r => uptoBulkEntry x + uptoBulkEntries r
def uptoBulkEntry {H : Type} : Lit × DataW H → Nat
  | (.string bytes, d) => bytes.length + uptoBulk d + 1
  | (_, d) => uptoBulk d + 1
 end
def uptoSmall : (H : Type) → List (DataW H) → Bool := fun _ ds => decide (uptoBulkAll ds ≤ 1048576)
def OpenSpec.upto (s : _root_.Go.ChangeSpec) : _root_.Go.OpenSpec := { _root_.Go.OpenSpec.ofChange s with cond := some uptoSmall }

/-- 'laws.FnExactGenerates', WHERE WHAT IT READS IS OF BULK AT MOST 1048576: true; the input reads as it did. -/
def fnExactGeneratesUptoRow : OpenClaim := { program := "ytnbnkjmellmmlaa", sum := "47f5ee4907cc8e7fca9821fb8066202083f32e521c32d2f12c9b25637393692d", func := "loop.example/g00595/laws.FnExactGenerates", spec := "fnExactGenerates", apart := false, narrowed := true }
def FnExactGeneratesUptoSaid : Prop := fnExactGeneratesUptoRow.holds Try.pinned (OpenSpec.upto fnExactGeneratesSpec)

/-- 'laws.FnExactIsSemigroup', WHERE WHAT IT READS IS OF BULK AT MOST 1048576: true; the input reads as it did. -/
def fnExactIsSemigroupUptoRow : OpenClaim := { program := "ytnbnkjmellmmlaa", sum := "47f5ee4907cc8e7fca9821fb8066202083f32e521c32d2f12c9b25637393692d", func := "loop.example/g00595/laws.FnExactIsSemigroup", spec := "fnExactIsSemigroup", apart := false, narrowed := true }
def FnExactIsSemigroupUptoSaid : Prop := fnExactIsSemigroupUptoRow.holds Try.pinned (OpenSpec.upto fnExactIsSemigroupSpec)

/-- 'laws.FnExactContains', WHERE WHAT IT READS IS OF BULK AT MOST 1048576: true; the input reads as it did. -/
def fnExactContainsUptoRow : OpenClaim := { program := "ytnbnkjmellmmlaa", sum := "47f5ee4907cc8e7fca9821fb8066202083f32e521c32d2f12c9b25637393692d", func := "loop.example/g00595/laws.FnExactContains", spec := "fnExactContains", apart := false, narrowed := true }
def FnExactContainsUptoSaid : Prop := fnExactContainsUptoRow.holds Try.pinned (OpenSpec.upto fnExactContainsSpec)

/-- 'laws.FnExactFromGens', WHERE WHAT IT READS IS OF BULK AT MOST 1048576: true; the input reads as it did. -/
def fnExactFromGensUptoRow : OpenClaim := { program := "ytnbnkjmellmmlaa", sum := "47f5ee4907cc8e7fca9821fb8066202083f32e521c32d2f12c9b25637393692d", func := "loop.example/g00595/laws.FnExactFromGens", spec := "fnExactFromGens", unfollowed := true, recurses := true, apart := false, narrowed := true }
def FnExactFromGensUptoSaid : Prop := fnExactFromGensUptoRow.holds Try.pinned (OpenSpec.upto fnExactFromGensSpec)

/-- 'laws.FnExactMultiplicityOf', WHERE WHAT IT READS IS OF BULK AT MOST 1048576: true; the input reads as it did. -/
def fnExactMultiplicityOfUptoRow : OpenClaim := { program := "ytnbnkjmellmmlaa", sum := "47f5ee4907cc8e7fca9821fb8066202083f32e521c32d2f12c9b25637393692d", func := "loop.example/g00595/laws.FnExactMultiplicityOf", spec := "fnExactMultiplicityOf", apart := false, narrowed := true }
def FnExactMultiplicityOfUptoSaid : Prop := fnExactMultiplicityOfUptoRow.holds Try.pinned (OpenSpec.upto fnExactMultiplicityOfSpec)

/-- 'laws.FnExactDimensionOf', WHERE WHAT IT READS IS OF BULK AT MOST 1048576: true; the input reads as it did. -/
def fnExactDimensionOfUptoRow : OpenClaim := { program := "ytnbnkjmellmmlaa", sum := "47f5ee4907cc8e7fca9821fb8066202083f32e521c32d2f12c9b25637393692d", func := "loop.example/g00595/laws.FnExactDimensionOf", spec := "fnExactDimensionOf", apart := false, narrowed := true }
def FnExactDimensionOfUptoSaid : Prop := fnExactDimensionOfUptoRow.holds Try.pinned (OpenSpec.upto fnExactDimensionOfSpec)

/-- 'laws.FnExactGaps', WHERE WHAT IT READS IS OF BULK AT MOST 1048576: true; the input reads as it did. -/
def fnExactGapsUptoRow : OpenClaim := { program := "ytnbnkjmellmmlaa", sum := "47f5ee4907cc8e7fca9821fb8066202083f32e521c32d2f12c9b25637393692d", func := "loop.example/g00595/laws.FnExactGaps", spec := "fnExactGaps", unfollowed := true, recurses := true, apart := false, narrowed := true }
def FnExactGapsUptoSaid : Prop := fnExactGapsUptoRow.holds Try.pinned (OpenSpec.upto fnExactGapsSpec)

/-- 'laws.FnExactFrobeniusOf', WHERE WHAT IT READS IS OF BULK AT MOST 1048576: true; the input reads as it did. -/
def fnExactFrobeniusOfUptoRow : OpenClaim := { program := "ytnbnkjmellmmlaa", sum := "47f5ee4907cc8e7fca9821fb8066202083f32e521c32d2f12c9b25637393692d", func := "loop.example/g00595/laws.FnExactFrobeniusOf", spec := "fnExactFrobeniusOf", unfollowed := true, recurses := true, apart := false, narrowed := true }
def FnExactFrobeniusOfUptoSaid : Prop := fnExactFrobeniusOfUptoRow.holds Try.pinned (OpenSpec.upto fnExactFrobeniusOfSpec)

/-- 'laws.FnExactGenusOf', WHERE WHAT IT READS IS OF BULK AT MOST 1048576: true; the input reads as it did. -/
def fnExactGenusOfUptoRow : OpenClaim := { program := "ytnbnkjmellmmlaa", sum := "47f5ee4907cc8e7fca9821fb8066202083f32e521c32d2f12c9b25637393692d", func := "loop.example/g00595/laws.FnExactGenusOf", spec := "fnExactGenusOf", unfollowed := true, recurses := true, apart := false, narrowed := true }
def FnExactGenusOfUptoSaid : Prop := fnExactGenusOfUptoRow.holds Try.pinned (OpenSpec.upto fnExactGenusOfSpec)

/-- 'laws.FnExactConductorOf', WHERE WHAT IT READS IS OF BULK AT MOST 1048576: true; the input reads as it did. -/
def fnExactConductorOfUptoRow : OpenClaim := { program := "ytnbnkjmellmmlaa", sum := "47f5ee4907cc8e7fca9821fb8066202083f32e521c32d2f12c9b25637393692d", func := "loop.example/g00595/laws.FnExactConductorOf", spec := "fnExactConductorOf", unfollowed := true, recurses := true, apart := false, narrowed := true }
def FnExactConductorOfUptoSaid : Prop := fnExactConductorOfUptoRow.holds Try.pinned (OpenSpec.upto fnExactConductorOfSpec)

/-- 'laws.FnExactSmallElements', WHERE WHAT IT READS IS OF BULK AT MOST 1048576: true; the input reads as it did. -/
def fnExactSmallElementsUptoRow : OpenClaim := { program := "ytnbnkjmellmmlaa", sum := "47f5ee4907cc8e7fca9821fb8066202083f32e521c32d2f12c9b25637393692d", func := "loop.example/g00595/laws.FnExactSmallElements", spec := "fnExactSmallElements", unfollowed := true, recurses := true, apart := false, narrowed := true }
def FnExactSmallElementsUptoSaid : Prop := fnExactSmallElementsUptoRow.holds Try.pinned (OpenSpec.upto fnExactSmallElementsSpec)

/-- 'laws.FnExactElementAt', WHERE WHAT IT READS IS OF BULK AT MOST 1048576: true; the input reads as it did. -/
def fnExactElementAtUptoRow : OpenClaim := { program := "ytnbnkjmellmmlaa", sum := "47f5ee4907cc8e7fca9821fb8066202083f32e521c32d2f12c9b25637393692d", func := "loop.example/g00595/laws.FnExactElementAt", spec := "fnExactElementAt", unfollowed := true, recurses := true, apart := false, narrowed := true }
def FnExactElementAtUptoSaid : Prop := fnExactElementAtUptoRow.holds Try.pinned (OpenSpec.upto fnExactElementAtSpec)

end Rows
end Go.Proofs.Ytnbnkjmellmmlaa
