/-
  No cell of these rows narrows 'for every input' (looked for: loops, veiled, ifaces, maps, wideKeys, modest, calm, conditions, laid).
  DERIVED. THE GIVEN ROWS OF THIS SEAT. 9 by the template 'for every input the law returns true; each argument reads behind the call as it read before'; 0 by the template 'total and deterministic' (their statements: YtdhnlnfpdpdfgaaTotals.lean).
  GIVEN WITH THE SEED: the statements are not yours to turn. If you find one false, say at which input.
  Laid BY PROGRAM, IN A SANDBOX (cutbox-rows.mjs): the forced cells as the released guide's own fill.sh prints them over the translation 8a42fdf260af3d2a… (all of the seat's roots in one cut). By AI agents, Wed Nov 11 2026. No macro, syntax, notation, axiom, sorry.
-/
import Derived.Test.YtdhnlnfpdpdfgaaChecked
import GoSem.Claim
import GoSem.ClaimJoined
import GoSem.ClaimMapViews
import Derived.JoinedTies
import Derived.KernelRfl
namespace Go.Proofs.Ytdhnlnfpdpdfgaa
/- THE CELL 'sum', in the pinned program and in every row, IS THE sha256 OF THE DUMP (.gsa) THAT YtdhnlnfpdpdfgaaProg.lean LOADS. Nothing in Lean hashes anything: it is a label: what it is worth is what the hold of that sum in a sandbox is worth. -/
noncomputable def Try.pinned : Pinned := { name := "ytdhnlnfpdpdfgaa", sum := "8a42fdf260af3d2a7280ebc33c9f1340f8be5d8d24251c042225d9fff9a32a4f", checked := Try.checked }
namespace Rows
def none {H : Type} : Left H := { results := [], args := [] }

/-- 'laws.FnChains': WHATEVER THE INPUT: true; the input reads as it did. -/
def fnChainsSpec : ChangeSpec := { name := "fnChains", fn := fun _ => fun
  | [d] => { results := [.lit (.bool true)], args := [d] }
  | _ => none }
def fnChainsRow : OpenClaim := { program := "ytdhnlnfpdpdfgaa", sum := "8a42fdf260af3d2a7280ebc33c9f1340f8be5d8d24251c042225d9fff9a32a4f", func := "loop.example/g00595/laws.FnChains", spec := "fnChains", unfollowed := true, recurses := true, apart := false }
def FnChainsSaid : Prop := fnChainsRow.holds Try.pinned (OpenSpec.ofChange fnChainsSpec)

/-- ITS FALSE NEIGHBOUR: 'it returns false'. Refute it at one input. -/
def fnChainsWrong : ChangeSpec := { name := "fnChains", fn := fun _ => fun
  | [d] => { results := [.lit (.bool false)], args := [d] }
  | _ => none }
def FnChainsWrongFalsely : Prop := fnChainsRow.holds Try.pinned (OpenSpec.ofChange fnChainsWrong)

/-- 'laws.FnExactDistanceOf': WHATEVER THE INPUT: true; the input reads as it did. -/
def fnExactDistanceOfSpec : ChangeSpec := { name := "fnExactDistanceOf", fn := fun _ => fun
  | [d1, d2] => { results := [.lit (.bool true)], args := [d1, d2] }
  | _ => none }
def fnExactDistanceOfRow : OpenClaim := { program := "ytdhnlnfpdpdfgaa", sum := "8a42fdf260af3d2a7280ebc33c9f1340f8be5d8d24251c042225d9fff9a32a4f", func := "loop.example/g00595/laws.FnExactDistanceOf", spec := "fnExactDistanceOf", apart := false }
def FnExactDistanceOfSaid : Prop := fnExactDistanceOfRow.holds Try.pinned (OpenSpec.ofChange fnExactDistanceOfSpec)

/-- ITS FALSE NEIGHBOUR: 'it returns false'. Refute it at one input. -/
def fnExactDistanceOfWrong : ChangeSpec := { name := "fnExactDistanceOf", fn := fun _ => fun
  | [d1, d2] => { results := [.lit (.bool false)], args := [d1, d2] }
  | _ => none }
def FnExactDistanceOfWrongFalsely : Prop := fnExactDistanceOfRow.holds Try.pinned (OpenSpec.ofChange fnExactDistanceOfWrong)

/-- 'laws.FnExactCatenaryOf': WHATEVER THE INPUT: true; the input reads as it did. -/
def fnExactCatenaryOfSpec : ChangeSpec := { name := "fnExactCatenaryOf", fn := fun _ => fun
  | [d1, d2] => { results := [.lit (.bool true)], args := [d1, d2] }
  | _ => none }
def fnExactCatenaryOfRow : OpenClaim := { program := "ytdhnlnfpdpdfgaa", sum := "8a42fdf260af3d2a7280ebc33c9f1340f8be5d8d24251c042225d9fff9a32a4f", func := "loop.example/g00595/laws.FnExactCatenaryOf", spec := "fnExactCatenaryOf", unfollowed := true, recurses := true, apart := false }
def FnExactCatenaryOfSaid : Prop := fnExactCatenaryOfRow.holds Try.pinned (OpenSpec.ofChange fnExactCatenaryOfSpec)

/-- ITS FALSE NEIGHBOUR: 'it returns false'. Refute it at one input. -/
def fnExactCatenaryOfWrong : ChangeSpec := { name := "fnExactCatenaryOf", fn := fun _ => fun
  | [d1, d2] => { results := [.lit (.bool false)], args := [d1, d2] }
  | _ => none }
def FnExactCatenaryOfWrongFalsely : Prop := fnExactCatenaryOfRow.holds Try.pinned (OpenSpec.ofChange fnExactCatenaryOfWrong)

/-- 'laws.FnExactChainOf': WHATEVER THE INPUT: true; the input reads as it did. -/
def fnExactChainOfSpec : ChangeSpec := { name := "fnExactChainOf", fn := fun _ => fun
  | [d1, d2, d3, d4] => { results := [.lit (.bool true)], args := [d1, d2, d3, d4] }
  | _ => none }
def fnExactChainOfRow : OpenClaim := { program := "ytdhnlnfpdpdfgaa", sum := "8a42fdf260af3d2a7280ebc33c9f1340f8be5d8d24251c042225d9fff9a32a4f", func := "loop.example/g00595/laws.FnExactChainOf", spec := "fnExactChainOf", unfollowed := true, recurses := true, apart := false }
def FnExactChainOfSaid : Prop := fnExactChainOfRow.holds Try.pinned (OpenSpec.ofChange fnExactChainOfSpec)

/-- ITS FALSE NEIGHBOUR: 'it returns false'. Refute it at one input. -/
def fnExactChainOfWrong : ChangeSpec := { name := "fnExactChainOf", fn := fun _ => fun
  | [d1, d2, d3, d4] => { results := [.lit (.bool false)], args := [d1, d2, d3, d4] }
  | _ => none }
def FnExactChainOfWrongFalsely : Prop := fnExactChainOfRow.holds Try.pinned (OpenSpec.ofChange fnExactChainOfWrong)

/-- 'laws.FnExactCatenaryDegree': WHATEVER THE INPUT: true; the input reads as it did. -/
def fnExactCatenaryDegreeSpec : ChangeSpec := { name := "fnExactCatenaryDegree", fn := fun _ => fun
  | [d1, d2] => { results := [.lit (.bool true)], args := [d1, d2] }
  | _ => none }
def fnExactCatenaryDegreeRow : OpenClaim := { program := "ytdhnlnfpdpdfgaa", sum := "8a42fdf260af3d2a7280ebc33c9f1340f8be5d8d24251c042225d9fff9a32a4f", func := "loop.example/g00595/laws.FnExactCatenaryDegree", spec := "fnExactCatenaryDegree", unfollowed := true, recurses := true, apart := false }
def FnExactCatenaryDegreeSaid : Prop := fnExactCatenaryDegreeRow.holds Try.pinned (OpenSpec.ofChange fnExactCatenaryDegreeSpec)

/-- ITS FALSE NEIGHBOUR: 'it returns false'. Refute it at one input. -/
def fnExactCatenaryDegreeWrong : ChangeSpec := { name := "fnExactCatenaryDegree", fn := fun _ => fun
  | [d1, d2] => { results := [.lit (.bool false)], args := [d1, d2] }
  | _ => none }
def FnExactCatenaryDegreeWrongFalsely : Prop := fnExactCatenaryDegreeRow.holds Try.pinned (OpenSpec.ofChange fnExactCatenaryDegreeWrong)

/-- 'laws.FnExactClassesOf': WHATEVER THE INPUT: true; the input reads as it did. -/
def fnExactClassesOfSpec : ChangeSpec := { name := "fnExactClassesOf", fn := fun _ => fun
  | [d1, d2] => { results := [.lit (.bool true)], args := [d1, d2] }
  | _ => none }
def fnExactClassesOfRow : OpenClaim := { program := "ytdhnlnfpdpdfgaa", sum := "8a42fdf260af3d2a7280ebc33c9f1340f8be5d8d24251c042225d9fff9a32a4f", func := "loop.example/g00595/laws.FnExactClassesOf", spec := "fnExactClassesOf", recurses := true, apart := false }
def FnExactClassesOfSaid : Prop := fnExactClassesOfRow.holds Try.pinned (OpenSpec.ofChange fnExactClassesOfSpec)

/-- ITS FALSE NEIGHBOUR: 'it returns false'. Refute it at one input. -/
def fnExactClassesOfWrong : ChangeSpec := { name := "fnExactClassesOf", fn := fun _ => fun
  | [d1, d2] => { results := [.lit (.bool false)], args := [d1, d2] }
  | _ => none }
def FnExactClassesOfWrongFalsely : Prop := fnExactClassesOfRow.holds Try.pinned (OpenSpec.ofChange fnExactClassesOfWrong)

/-- 'laws.FnExactBettiElements': WHATEVER THE INPUT: true; the input reads as it did. -/
def fnExactBettiElementsSpec : ChangeSpec := { name := "fnExactBettiElements", fn := fun _ => fun
  | [d] => { results := [.lit (.bool true)], args := [d] }
  | _ => none }
def fnExactBettiElementsRow : OpenClaim := { program := "ytdhnlnfpdpdfgaa", sum := "8a42fdf260af3d2a7280ebc33c9f1340f8be5d8d24251c042225d9fff9a32a4f", func := "loop.example/g00595/laws.FnExactBettiElements", spec := "fnExactBettiElements", unfollowed := true, recurses := true, apart := false }
def FnExactBettiElementsSaid : Prop := fnExactBettiElementsRow.holds Try.pinned (OpenSpec.ofChange fnExactBettiElementsSpec)

/-- ITS FALSE NEIGHBOUR: 'it returns false'. Refute it at one input. -/
def fnExactBettiElementsWrong : ChangeSpec := { name := "fnExactBettiElements", fn := fun _ => fun
  | [d] => { results := [.lit (.bool false)], args := [d] }
  | _ => none }
def FnExactBettiElementsWrongFalsely : Prop := fnExactBettiElementsRow.holds Try.pinned (OpenSpec.ofChange fnExactBettiElementsWrong)

/-- 'laws.FnExactPresentationOf': WHATEVER THE INPUT: true; the input reads as it did. -/
def fnExactPresentationOfSpec : ChangeSpec := { name := "fnExactPresentationOf", fn := fun _ => fun
  | [d] => { results := [.lit (.bool true)], args := [d] }
  | _ => none }
def fnExactPresentationOfRow : OpenClaim := { program := "ytdhnlnfpdpdfgaa", sum := "8a42fdf260af3d2a7280ebc33c9f1340f8be5d8d24251c042225d9fff9a32a4f", func := "loop.example/g00595/laws.FnExactPresentationOf", spec := "fnExactPresentationOf", unfollowed := true, recurses := true, apart := false }
def FnExactPresentationOfSaid : Prop := fnExactPresentationOfRow.holds Try.pinned (OpenSpec.ofChange fnExactPresentationOfSpec)

/-- ITS FALSE NEIGHBOUR: 'it returns false'. Refute it at one input. -/
def fnExactPresentationOfWrong : ChangeSpec := { name := "fnExactPresentationOf", fn := fun _ => fun
  | [d] => { results := [.lit (.bool false)], args := [d] }
  | _ => none }
def FnExactPresentationOfWrongFalsely : Prop := fnExactPresentationOfRow.holds Try.pinned (OpenSpec.ofChange fnExactPresentationOfWrong)

/-- 'laws.FnExactApplyRelation': WHATEVER THE INPUT: true; the input reads as it did. -/
def fnExactApplyRelationSpec : ChangeSpec := { name := "fnExactApplyRelation", fn := fun _ => fun
  | [d1, d2] => { results := [.lit (.bool true)], args := [d1, d2] }
  | _ => none }
def fnExactApplyRelationRow : OpenClaim := { program := "ytdhnlnfpdpdfgaa", sum := "8a42fdf260af3d2a7280ebc33c9f1340f8be5d8d24251c042225d9fff9a32a4f", func := "loop.example/g00595/laws.FnExactApplyRelation", spec := "fnExactApplyRelation", apart := false }
def FnExactApplyRelationSaid : Prop := fnExactApplyRelationRow.holds Try.pinned (OpenSpec.ofChange fnExactApplyRelationSpec)

/-- ITS FALSE NEIGHBOUR: 'it returns false'. Refute it at one input. -/
def fnExactApplyRelationWrong : ChangeSpec := { name := "fnExactApplyRelation", fn := fun _ => fun
  | [d1, d2] => { results := [.lit (.bool false)], args := [d1, d2] }
  | _ => none }
def FnExactApplyRelationWrongFalsely : Prop := fnExactApplyRelationRow.holds Try.pinned (OpenSpec.ofChange fnExactApplyRelationWrong)

/- THE SECOND FORM. 'bulk': how many values and letters a reading holds, each counted each time it is reached (what is shared counts as often as it is met; a slice's spare places count too). A statement '..UptoSaid' is the law's where the arguments, and the package variables that the reading takes, are together of bulk at most 1048576: NARROWER than '..Said'. Prove '..Said' where nothing that the law and all that it calls make is longer than what came in: it says more and counts as full. Else prove '..UptoSaid'. A law counts once. -/
mutual
def uptoBulk {H : Type} : DataW H → Nat
  | .lit (.string bytes) => bytes.length + 1
  | .lit _ => 1
  | .nil => 1
  | .ptr d => uptoBulk d + 1
  | .slice elems spare => uptoBulkAll elems + uptoBulkAll spare + 1
  | .agg parts => uptoBulkAll parts + 1
  | .iface _ d => uptoBulk d + 1
  | .map entries => uptoBulkEntries entries + 1
  | .held _ => 1
def uptoBulkAll {H : Type} : List (DataW H) → Nat
  | [] => 0
  | d :: r => uptoBulk d + uptoBulkAll r
def uptoBulkEntries {H : Type} : List (Lit × DataW H) → Nat
  | [] => 0
  | x :: r => uptoBulkEntry x + uptoBulkEntries r
def uptoBulkEntry {H : Type} : Lit × DataW H → Nat
  | (.string bytes, d) => bytes.length + uptoBulk d + 1
  | (_, d) => uptoBulk d + 1
 end
def uptoSmall : (H : Type) → List (DataW H) → Bool := fun _ ds => decide (uptoBulkAll ds ≤ 1048576)
def OpenSpec.upto (s : _root_.Go.ChangeSpec) : _root_.Go.OpenSpec := { _root_.Go.OpenSpec.ofChange s with cond := some uptoSmall }

/-- 'laws.FnChains', WHERE WHAT IT READS IS OF BULK AT MOST 1048576: true; the input reads as it did. -/
def fnChainsUptoRow : OpenClaim := { program := "ytdhnlnfpdpdfgaa", sum := "8a42fdf260af3d2a7280ebc33c9f1340f8be5d8d24251c042225d9fff9a32a4f", func := "loop.example/g00595/laws.FnChains", spec := "fnChains", unfollowed := true, recurses := true, apart := false, narrowed := true }
def FnChainsUptoSaid : Prop := fnChainsUptoRow.holds Try.pinned (OpenSpec.upto fnChainsSpec)

/-- 'laws.FnExactDistanceOf', WHERE WHAT IT READS IS OF BULK AT MOST 1048576: true; the input reads as it did. -/
def fnExactDistanceOfUptoRow : OpenClaim := { program := "ytdhnlnfpdpdfgaa", sum := "8a42fdf260af3d2a7280ebc33c9f1340f8be5d8d24251c042225d9fff9a32a4f", func := "loop.example/g00595/laws.FnExactDistanceOf", spec := "fnExactDistanceOf", apart := false, narrowed := true }
def FnExactDistanceOfUptoSaid : Prop := fnExactDistanceOfUptoRow.holds Try.pinned (OpenSpec.upto fnExactDistanceOfSpec)

/-- 'laws.FnExactCatenaryOf', WHERE WHAT IT READS IS OF BULK AT MOST 1048576: true; the input reads as it did. -/
def fnExactCatenaryOfUptoRow : OpenClaim := { program := "ytdhnlnfpdpdfgaa", sum := "8a42fdf260af3d2a7280ebc33c9f1340f8be5d8d24251c042225d9fff9a32a4f", func := "loop.example/g00595/laws.FnExactCatenaryOf", spec := "fnExactCatenaryOf", unfollowed := true, recurses := true, apart := false, narrowed := true }
def FnExactCatenaryOfUptoSaid : Prop := fnExactCatenaryOfUptoRow.holds Try.pinned (OpenSpec.upto fnExactCatenaryOfSpec)

/-- 'laws.FnExactChainOf', WHERE WHAT IT READS IS OF BULK AT MOST 1048576: true; the input reads as it did. -/
def fnExactChainOfUptoRow : OpenClaim := { program := "ytdhnlnfpdpdfgaa", sum := "8a42fdf260af3d2a7280ebc33c9f1340f8be5d8d24251c042225d9fff9a32a4f", func := "loop.example/g00595/laws.FnExactChainOf", spec := "fnExactChainOf", unfollowed := true, recurses := true, apart := false, narrowed := true }
def FnExactChainOfUptoSaid : Prop := fnExactChainOfUptoRow.holds Try.pinned (OpenSpec.upto fnExactChainOfSpec)

/-- 'laws.FnExactCatenaryDegree', WHERE WHAT IT READS IS OF BULK AT MOST 1048576: true; the input reads as it did. -/
def fnExactCatenaryDegreeUptoRow : OpenClaim := { program := "ytdhnlnfpdpdfgaa", sum := "8a42fdf260af3d2a7280ebc33c9f1340f8be5d8d24251c042225d9fff9a32a4f", func := "loop.example/g00595/laws.FnExactCatenaryDegree", spec := "fnExactCatenaryDegree", unfollowed := true, recurses := true, apart := false, narrowed := true }
def FnExactCatenaryDegreeUptoSaid : Prop := fnExactCatenaryDegreeUptoRow.holds Try.pinned (OpenSpec.upto fnExactCatenaryDegreeSpec)

/-- 'laws.FnExactClassesOf', WHERE WHAT IT READS IS OF BULK AT MOST 1048576: true; the input reads as it did. -/
def fnExactClassesOfUptoRow : OpenClaim := { program := "ytdhnlnfpdpdfgaa", sum := "8a42fdf260af3d2a7280ebc33c9f1340f8be5d8d24251c042225d9fff9a32a4f", func := "loop.example/g00595/laws.FnExactClassesOf", spec := "fnExactClassesOf", recurses := true, apart := false, narrowed := true }
def FnExactClassesOfUptoSaid : Prop := fnExactClassesOfUptoRow.holds Try.pinned (OpenSpec.upto fnExactClassesOfSpec)

/-- 'laws.FnExactBettiElements', WHERE WHAT IT READS IS OF BULK AT MOST 1048576: true; the input reads as it did. -/
def fnExactBettiElementsUptoRow : OpenClaim := { program := "ytdhnlnfpdpdfgaa", sum := "8a42fdf260af3d2a7280ebc33c9f1340f8be5d8d24251c042225d9fff9a32a4f", func := "loop.example/g00595/laws.FnExactBettiElements", spec := "fnExactBettiElements", unfollowed := true, recurses := true, apart := false, narrowed := true }
def FnExactBettiElementsUptoSaid : Prop := fnExactBettiElementsUptoRow.holds Try.pinned (OpenSpec.upto fnExactBettiElementsSpec)

/-- 'laws.FnExactPresentationOf', WHERE WHAT IT READS IS OF BULK AT MOST 1048576: true; the input reads as it did. -/
def fnExactPresentationOfUptoRow : OpenClaim := { program := "ytdhnlnfpdpdfgaa", sum := "8a42fdf260af3d2a7280ebc33c9f1340f8be5d8d24251c042225d9fff9a32a4f", func := "loop.example/g00595/laws.FnExactPresentationOf", spec := "fnExactPresentationOf", unfollowed := true, recurses := true, apart := false, narrowed := true }
def FnExactPresentationOfUptoSaid : Prop := fnExactPresentationOfUptoRow.holds Try.pinned (OpenSpec.upto fnExactPresentationOfSpec)

/-- 'laws.FnExactApplyRelation', WHERE WHAT IT READS IS OF BULK AT MOST 1048576: true; the input reads as it did. -/
def fnExactApplyRelationUptoRow : OpenClaim := { program := "ytdhnlnfpdpdfgaa", sum := "8a42fdf260af3d2a7280ebc33c9f1340f8be5d8d24251c042225d9fff9a32a4f", func := "loop.example/g00595/laws.FnExactApplyRelation", spec := "fnExactApplyRelation", apart := false, narrowed := true }
def FnExactApplyRelationUptoSaid : Prop := fnExactApplyRelationUptoRow.holds Try.pinned (OpenSpec.upto fnExactApplyRelationSpec)

end Rows
end Go.Proofs.Ytdhnlnfpdpdfgaa
