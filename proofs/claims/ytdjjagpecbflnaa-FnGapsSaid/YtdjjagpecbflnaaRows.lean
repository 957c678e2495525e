/-
  No cell of these rows narrows 'for every input' (looked for: loops, veiled, ifaces, maps, wideKeys, modest, calm, conditions, laid).
  DERIVED. THE GIVEN ROWS OF THIS SEAT. 8 by the template 'for every input the law returns true; each argument reads behind the call as it read before'; 0 by the template 'total and deterministic' (their statements: YtdjjagpecbflnaaTotals.lean).
  GIVEN WITH THE SEED: the statements are not yours to turn. If you find one false, say at which input.
  Laid BY PROGRAM, IN A SANDBOX (cutbox-rows.mjs): the forced cells as the released guide's own fill.sh prints them over the translation ae7d6bd7f57b1f7d… (all of the seat's roots in one cut). By AI agents, Wed Nov 11 2026. No macro, syntax, notation, axiom, sorry.
-/
import Derived.Test.YtdjjagpecbflnaaChecked
import GoSem.Claim
import GoSem.ClaimJoined
import GoSem.ClaimMapViews
import Derived.JoinedTies
import Derived.KernelRfl
namespace Go.Proofs.Ytdjjagpecbflnaa
/- THE CELL 'sum', in the pinned program and in every row, IS THE sha256 OF THE DUMP (.gsa) THAT YtdjjagpecbflnaaProg.lean LOADS. Nothing in Lean hashes anything: it is a label: what it is worth is what the hold of that sum in a sandbox is worth. -/
noncomputable def Try.pinned : Pinned := { name := "ytdjjagpecbflnaa", sum := "ae7d6bd7f57b1f7d54e2d4974997b8cb1e11658791b4517c76aff9afe4ebfbd4", checked := Try.checked }
namespace Rows
def none {H : Type} : Left H := { results := [], args := [] }

/-- 'laws.FnGaps': WHATEVER THE INPUT: true; the input reads as it did. -/
def fnGapsSpec : ChangeSpec := { name := "fnGaps", fn := fun _ => fun
  | [d] => { results := [.lit (.bool true)], args := [d] }
  | _ => none }
def fnGapsRow : OpenClaim := { program := "ytdjjagpecbflnaa", sum := "ae7d6bd7f57b1f7d54e2d4974997b8cb1e11658791b4517c76aff9afe4ebfbd4", func := "loop.example/g00595/laws.FnGaps", spec := "fnGaps", unfollowed := true, recurses := true, apart := false }
def FnGapsSaid : Prop := fnGapsRow.holds Try.pinned (OpenSpec.ofChange fnGapsSpec)

/-- ITS FALSE NEIGHBOUR: 'it returns false'. Refute it at one input. -/
def fnGapsWrong : ChangeSpec := { name := "fnGaps", fn := fun _ => fun
  | [d] => { results := [.lit (.bool false)], args := [d] }
  | _ => none }
def FnGapsWrongFalsely : Prop := fnGapsRow.holds Try.pinned (OpenSpec.ofChange fnGapsWrong)

/-- 'laws.FnExactGaps': WHATEVER THE INPUT: true; the input reads as it did. -/
def fnExactGapsSpec : ChangeSpec := { name := "fnExactGaps", fn := fun _ => fun
  | [d] => { results := [.lit (.bool true)], args := [d] }
  | _ => none }
def fnExactGapsRow : OpenClaim := { program := "ytdjjagpecbflnaa", sum := "ae7d6bd7f57b1f7d54e2d4974997b8cb1e11658791b4517c76aff9afe4ebfbd4", func := "loop.example/g00595/laws.FnExactGaps", spec := "fnExactGaps", unfollowed := true, recurses := true, apart := false }
def FnExactGapsSaid : Prop := fnExactGapsRow.holds Try.pinned (OpenSpec.ofChange fnExactGapsSpec)

/-- ITS FALSE NEIGHBOUR: 'it returns false'. Refute it at one input. -/
def fnExactGapsWrong : ChangeSpec := { name := "fnExactGaps", fn := fun _ => fun
  | [d] => { results := [.lit (.bool false)], args := [d] }
  | _ => none }
def FnExactGapsWrongFalsely : Prop := fnExactGapsRow.holds Try.pinned (OpenSpec.ofChange fnExactGapsWrong)

/-- 'laws.FnExactFrobeniusOf': WHATEVER THE INPUT: true; the input reads as it did. -/
def fnExactFrobeniusOfSpec : ChangeSpec := { name := "fnExactFrobeniusOf", fn := fun _ => fun
  | [d] => { results := [.lit (.bool true)], args := [d] }
  | _ => none }
def fnExactFrobeniusOfRow : OpenClaim := { program := "ytdjjagpecbflnaa", sum := "ae7d6bd7f57b1f7d54e2d4974997b8cb1e11658791b4517c76aff9afe4ebfbd4", func := "loop.example/g00595/laws.FnExactFrobeniusOf", spec := "fnExactFrobeniusOf", unfollowed := true, recurses := true, apart := false }
def FnExactFrobeniusOfSaid : Prop := fnExactFrobeniusOfRow.holds Try.pinned (OpenSpec.ofChange fnExactFrobeniusOfSpec)

/-- ITS FALSE NEIGHBOUR: 'it returns false'. Refute it at one input. -/
def fnExactFrobeniusOfWrong : ChangeSpec := { name := "fnExactFrobeniusOf", fn := fun _ => fun
  | [d] => { results := [.lit (.bool false)], args := [d] }
  | _ => none }
def FnExactFrobeniusOfWrongFalsely : Prop := fnExactFrobeniusOfRow.holds Try.pinned (OpenSpec.ofChange fnExactFrobeniusOfWrong)

/-- 'laws.FnExactGenusOf': WHATEVER THE INPUT: true; the input reads as it did. -/
def fnExactGenusOfSpec : ChangeSpec := { name := "fnExactGenusOf", fn := fun _ => fun
  | [d] => { results := [.lit (.bool true)], args := [d] }
  | _ => none }
def fnExactGenusOfRow : OpenClaim := { program := "ytdjjagpecbflnaa", sum := "ae7d6bd7f57b1f7d54e2d4974997b8cb1e11658791b4517c76aff9afe4ebfbd4", func := "loop.example/g00595/laws.FnExactGenusOf", spec := "fnExactGenusOf", unfollowed := true, recurses := true, apart := false }
def FnExactGenusOfSaid : Prop := fnExactGenusOfRow.holds Try.pinned (OpenSpec.ofChange fnExactGenusOfSpec)

/-- ITS FALSE NEIGHBOUR: 'it returns false'. Refute it at one input. -/
def fnExactGenusOfWrong : ChangeSpec := { name := "fnExactGenusOf", fn := fun _ => fun
  | [d] => { results := [.lit (.bool false)], args := [d] }
  | _ => none }
def FnExactGenusOfWrongFalsely : Prop := fnExactGenusOfRow.holds Try.pinned (OpenSpec.ofChange fnExactGenusOfWrong)

/-- 'laws.FnExactConductorOf': WHATEVER THE INPUT: true; the input reads as it did. -/
def fnExactConductorOfSpec : ChangeSpec := { name := "fnExactConductorOf", fn := fun _ => fun
  | [d] => { results := [.lit (.bool true)], args := [d] }
  | _ => none }
def fnExactConductorOfRow : OpenClaim := { program := "ytdjjagpecbflnaa", sum := "ae7d6bd7f57b1f7d54e2d4974997b8cb1e11658791b4517c76aff9afe4ebfbd4", func := "loop.example/g00595/laws.FnExactConductorOf", spec := "fnExactConductorOf", unfollowed := true, recurses := true, apart := false }
def FnExactConductorOfSaid : Prop := fnExactConductorOfRow.holds Try.pinned (OpenSpec.ofChange fnExactConductorOfSpec)

/-- ITS FALSE NEIGHBOUR: 'it returns false'. Refute it at one input. -/
def fnExactConductorOfWrong : ChangeSpec := { name := "fnExactConductorOf", fn := fun _ => fun
  | [d] => { results := [.lit (.bool false)], args := [d] }
  | _ => none }
def FnExactConductorOfWrongFalsely : Prop := fnExactConductorOfRow.holds Try.pinned (OpenSpec.ofChange fnExactConductorOfWrong)

/-- 'laws.FnExactSmallElements': WHATEVER THE INPUT: true; the input reads as it did. -/
def fnExactSmallElementsSpec : ChangeSpec := { name := "fnExactSmallElements", fn := fun _ => fun
  | [d] => { results := [.lit (.bool true)], args := [d] }
  | _ => none }
def fnExactSmallElementsRow : OpenClaim := { program := "ytdjjagpecbflnaa", sum := "ae7d6bd7f57b1f7d54e2d4974997b8cb1e11658791b4517c76aff9afe4ebfbd4", func := "loop.example/g00595/laws.FnExactSmallElements", spec := "fnExactSmallElements", unfollowed := true, recurses := true, apart := false }
def FnExactSmallElementsSaid : Prop := fnExactSmallElementsRow.holds Try.pinned (OpenSpec.ofChange fnExactSmallElementsSpec)

/-- ITS FALSE NEIGHBOUR: 'it returns false'. Refute it at one input. -/
def fnExactSmallElementsWrong : ChangeSpec := { name := "fnExactSmallElements", fn := fun _ => fun
  | [d] => { results := [.lit (.bool false)], args := [d] }
  | _ => none }
def FnExactSmallElementsWrongFalsely : Prop := fnExactSmallElementsRow.holds Try.pinned (OpenSpec.ofChange fnExactSmallElementsWrong)

/-- 'laws.FnExactElementAt': WHATEVER THE INPUT: true; the input reads as it did. -/
def fnExactElementAtSpec : ChangeSpec := { name := "fnExactElementAt", fn := fun _ => fun
  | [d1, d2] => { results := [.lit (.bool true)], args := [d1, d2] }
  | _ => none }
def fnExactElementAtRow : OpenClaim := { program := "ytdjjagpecbflnaa", sum := "ae7d6bd7f57b1f7d54e2d4974997b8cb1e11658791b4517c76aff9afe4ebfbd4", func := "loop.example/g00595/laws.FnExactElementAt", spec := "fnExactElementAt", unfollowed := true, recurses := true, apart := false }
def FnExactElementAtSaid : Prop := fnExactElementAtRow.holds Try.pinned (OpenSpec.ofChange fnExactElementAtSpec)

/-- ITS FALSE NEIGHBOUR: 'it returns false'. Refute it at one input. -/
def fnExactElementAtWrong : ChangeSpec := { name := "fnExactElementAt", fn := fun _ => fun
  | [d1, d2] => { results := [.lit (.bool false)], args := [d1, d2] }
  | _ => none }
def FnExactElementAtWrongFalsely : Prop := fnExactElementAtRow.holds Try.pinned (OpenSpec.ofChange fnExactElementAtWrong)

/-- 'laws.FnExactIndexOfElement': WHATEVER THE INPUT: true; the input reads as it did. -/
def fnExactIndexOfElementSpec : ChangeSpec := { name := "fnExactIndexOfElement", fn := fun _ => fun
  | [d1, d2] => { results := [.lit (.bool true)], args := [d1, d2] }
  | _ => none }
def fnExactIndexOfElementRow : OpenClaim := { program := "ytdjjagpecbflnaa", sum := "ae7d6bd7f57b1f7d54e2d4974997b8cb1e11658791b4517c76aff9afe4ebfbd4", func := "loop.example/g00595/laws.FnExactIndexOfElement", spec := "fnExactIndexOfElement", unfollowed := true, recurses := true, apart := false }
def FnExactIndexOfElementSaid : Prop := fnExactIndexOfElementRow.holds Try.pinned (OpenSpec.ofChange fnExactIndexOfElementSpec)

/-- ITS FALSE NEIGHBOUR: 'it returns false'. Refute it at one input. -/
def fnExactIndexOfElementWrong : ChangeSpec := { name := "fnExactIndexOfElement", fn := fun _ => fun
  | [d1, d2] => { results := [.lit (.bool false)], args := [d1, d2] }
  | _ => none }
def FnExactIndexOfElementWrongFalsely : Prop := fnExactIndexOfElementRow.holds Try.pinned (OpenSpec.ofChange fnExactIndexOfElementWrong)

/- THE SECOND FORM. 'bulk': how many values and letters a reading holds, each counted each time it is reached (what is shared counts as often as it is met; a slice's spare places count too). A statement '..UptoSaid' is the law's where the arguments, and the package variables that the reading takes, are together of bulk at most 1048576: NARROWER than '..Said'. Prove '..Said' where nothing that the law and all that it calls make is longer than what came in: it says more and counts as full. Else prove '..UptoSaid'. A law counts once. -/
mutual
def uptoBulk {H : Type} : DataW H → Nat
  | .lit (.string bytes) => bytes.length + 1
  | .lit _ => 1
  | .nil => 1
  | .ptr d => uptoBulk d + 1
  | .slice elems spare => uptoBulkAll elems + uptoBulkAll spare + 1
  | .agg parts => uptoBulkAll parts + 1
  | .iface _ d => uptoBulk d + 1
  | .map entries => uptoBulkEntries entries + 1
  | .held _ => 1
def uptoBulkAll {H : Type} : List (DataW H) → Nat
  | [] => 0
  | d :: r => uptoBulk d + uptoBulkAll r
def uptoBulkEntries {H : Type} : List (Lit × DataW H) → Nat
  | [] => 0
  | x :: r => uptoBulkEntry x + uptoBulkEntries r
def uptoBulkEntry {H : Type} : Lit × DataW H → Nat
  | (.string bytes, d) => bytes.length + uptoBulk d + 1
  | (_, d) => uptoBulk d + 1
 end
def uptoSmall : (H : Type) → List (DataW H) → Bool := fun _ ds => decide (uptoBulkAll ds ≤ 1048576)
def OpenSpec.upto (s : _root_.Go.ChangeSpec) : _root_.Go.OpenSpec := { _root_.Go.OpenSpec.ofChange s with cond := some uptoSmall }

/-- 'laws.FnGaps', WHERE WHAT IT READS IS OF BULK AT MOST 1048576: true; the input reads as it did. -/
def fnGapsUptoRow : OpenClaim := { program := "ytdjjagpecbflnaa", sum := "ae7d6bd7f57b1f7d54e2d4974997b8cb1e11658791b4517c76aff9afe4ebfbd4", func := "loop.example/g00595/laws.FnGaps", spec := "fnGaps", unfollowed := true, recurses := true, apart := false, narrowed := true }
def FnGapsUptoSaid : Prop := fnGapsUptoRow.holds Try.pinned (OpenSpec.upto fnGapsSpec)

/-- 'laws.FnExactGaps', WHERE WHAT IT READS IS OF BULK AT MOST 1048576: true; the input reads as it did. -/
def fnExactGapsUptoRow : OpenClaim := { program := "ytdjjagpecbflnaa", sum := "ae7d6bd7f57b1f7d54e2d4974997b8cb1e11658791b4517c76aff9afe4ebfbd4", func := "loop.example/g00595/laws.FnExactGaps", spec := "fnExactGaps", unfollowed := true, recurses := true, apart := false, narrowed := true }
def FnExactGapsUptoSaid : Prop := fnExactGapsUptoRow.holds Try.pinned (OpenSpec.upto fnExactGapsSpec)

/-- 'laws.FnExactFrobeniusOf', WHERE WHAT IT READS IS OF BULK AT MOST 1048576: true; the input reads as it did. -/
def fnExactFrobeniusOfUptoRow : OpenClaim := { program := "ytdjjagpecbflnaa", sum := "ae7d6bd7f57b1f7d54e2d4974997b8cb1e11658791b4517c76aff9afe4ebfbd4", func := "loop.example/g00595/laws.FnExactFrobeniusOf", spec := "fnExactFrobeniusOf", unfollowed := true, recurses := true, apart := false, narrowed := true }
def FnExactFrobeniusOfUptoSaid : Prop := fnExactFrobeniusOfUptoRow.holds Try.pinned (OpenSpec.upto fnExactFrobeniusOfSpec)

/-- 'laws.FnExactGenusOf', WHERE WHAT IT READS IS OF BULK AT MOST 1048576: true; the input reads as it did. -/
def fnExactGenusOfUptoRow : OpenClaim := { program := "ytdjjagpecbflnaa", sum := "ae7d6bd7f57b1f7d54e2d4974997b8cb1e11658791b4517c76aff9afe4ebfbd4", func := "loop.example/g00595/laws.FnExactGenusOf", spec := "fnExactGenusOf", unfollowed := true, recurses := true, apart := false, narrowed := true }
def FnExactGenusOfUptoSaid : Prop := fnExactGenusOfUptoRow.holds Try.pinned (OpenSpec.upto fnExactGenusOfSpec)

/-- 'laws.FnExactConductorOf', WHERE WHAT IT READS IS OF BULK AT MOST 1048576: true; the input reads as it did. -/
def fnExactConductorOfUptoRow : OpenClaim := { program := "ytdjjagpecbflnaa", sum := "ae7d6bd7f57b1f7d54e2d4974997b8cb1e11658791b4517c76aff9afe4ebfbd4", func := "loop.example/g00595/laws.FnExactConductorOf", spec := "fnExactConductorOf", unfollowed := true, recurses := true, apart := false, narrowed := true }
def FnExactConductorOfUptoSaid : Prop := fnExactConductorOfUptoRow.holds Try.pinned (OpenSpec.upto fnExactConductorOfSpec)

/-- 'laws.FnExactSmallElements', WHERE WHAT IT READS IS OF BULK AT MOST 1048576: true; the input reads as it did. -/
def fnExactSmallElementsUptoRow : OpenClaim := { program := "ytdjjagpecbflnaa", sum := "ae7d6bd7f57b1f7d54e2d4974997b8cb1e11658791b4517c76aff9afe4ebfbd4", func := "loop.example/g00595/laws.FnExactSmallElements", spec := "fnExactSmallElements", unfollowed := true, recurses := true, apart := false, narrowed := true }
def FnExactSmallElementsUptoSaid : Prop := fnExactSmallElementsUptoRow.holds Try.pinned (OpenSpec.upto fnExactSmallElementsSpec)

/-- 'laws.FnExactElementAt', WHERE WHAT IT READS IS OF BULK AT MOST 1048576: true; the input reads as it did. -/
def fnExactElementAtUptoRow : OpenClaim := { program := "ytdjjagpecbflnaa", sum := "ae7d6bd7f57b1f7d54e2d4974997b8cb1e11658791b4517c76aff9afe4ebfbd4", func := "loop.example/g00595/laws.FnExactElementAt", spec := "fnExactElementAt", unfollowed := true, recurses := true, apart := false, narrowed := true }
def FnExactElementAtUptoSaid : Prop := fnExactElementAtUptoRow.holds Try.pinned (OpenSpec.upto fnExactElementAtSpec)

/-- 'laws.FnExactIndexOfElement', WHERE WHAT IT READS IS OF BULK AT MOST 1048576: true; the input reads as it did. -/
def fnExactIndexOfElementUptoRow : OpenClaim := { program := "ytdjjagpecbflnaa", sum := "ae7d6bd7f57b1f7d54e2d4974997b8cb1e11658791b4517c76aff9afe4ebfbd4", func := "loop.example/g00595/laws.FnExactIndexOfElement", spec := "fnExactIndexOfElement", unfollowed := true, recurses := true, apart := false, narrowed := true }
def FnExactIndexOfElementUptoSaid : Prop := fnExactIndexOfElementUptoRow.holds Try.pinned (OpenSpec.upto fnExactIndexOfElementSpec)

end Rows
end Go.Proofs.Ytdjjagpecbflnaa
