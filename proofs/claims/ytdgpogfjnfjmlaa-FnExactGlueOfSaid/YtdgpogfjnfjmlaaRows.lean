/-
  No cell of these rows narrows 'for every input' (looked for: loops, veiled, ifaces, maps, wideKeys, modest, calm, conditions, laid).
  DERIVED. THE GIVEN ROWS OF THIS SEAT. 5 by the template 'for every input the law returns true; each argument reads behind the call as it read before'; 0 by the template 'total and deterministic' (their statements: YtdgpogfjnfjmlaaTotals.lean).
  GIVEN WITH THE SEED: the statements are not yours to turn. If you find one false, say at which input.
  Laid BY PROGRAM, IN A SANDBOX (cutbox-rows.mjs): the forced cells as the released guide's own fill.sh prints them over the translation da15c4a2dfee1a09… (all of the seat's roots in one cut). By AI agents, Wed Nov 11 2026. No macro, syntax, notation, axiom, sorry.
-/
import Derived.Test.YtdgpogfjnfjmlaaChecked
import GoSem.Claim
import GoSem.ClaimJoined
import GoSem.ClaimMapViews
import Derived.JoinedTies
import Derived.KernelRfl
namespace Go.Proofs.Ytdgpogfjnfjmlaa
/- THE CELL 'sum', in the pinned program and in every row, IS THE sha256 OF THE DUMP (.gsa) THAT YtdgpogfjnfjmlaaProg.lean LOADS. Nothing in Lean hashes anything: it is a label: what it is worth is what the hold of that sum in a sandbox is worth. -/
noncomputable def Try.pinned : Pinned := { name := "ytdgpogfjnfjmlaa", sum := "da15c4a2dfee1a09fd6229fd12986565d95e418d393965a7724d7c4e8f68d5f1", checked := Try.checked }
namespace Rows
def none {H : Type} : Left H := { results := [], args := [] }

/-- 'laws.FnExactGlueOf': WHATEVER THE INPUT: true; the input reads as it did. -/
def fnExactGlueOfSpec : ChangeSpec := { name := "fnExactGlueOf", fn := fun _ => fun
  | [d1, d2, d3, d4] => { results := [.lit (.bool true)], args := [d1, d2, d3, d4] }
  | _ => none }
def fnExactGlueOfRow : OpenClaim := { program := "ytdgpogfjnfjmlaa", sum := "da15c4a2dfee1a09fd6229fd12986565d95e418d393965a7724d7c4e8f68d5f1", func := "loop.example/g00595/laws.FnExactGlueOf", spec := "fnExactGlueOf", unfollowed := true, recurses := true, apart := false }
def FnExactGlueOfSaid : Prop := fnExactGlueOfRow.holds Try.pinned (OpenSpec.ofChange fnExactGlueOfSpec)

/-- ITS FALSE NEIGHBOUR: 'it returns false'. Refute it at one input. -/
def fnExactGlueOfWrong : ChangeSpec := { name := "fnExactGlueOf", fn := fun _ => fun
  | [d1, d2, d3, d4] => { results := [.lit (.bool false)], args := [d1, d2, d3, d4] }
  | _ => none }
def FnExactGlueOfWrongFalsely : Prop := fnExactGlueOfRow.holds Try.pinned (OpenSpec.ofChange fnExactGlueOfWrong)

/-- 'laws.FnExactGlueFrobenius': WHATEVER THE INPUT: true; the input reads as it did. -/
def fnExactGlueFrobeniusSpec : ChangeSpec := { name := "fnExactGlueFrobenius", fn := fun _ => fun
  | [d1, d2, d3, d4] => { results := [.lit (.bool true)], args := [d1, d2, d3, d4] }
  | _ => none }
def fnExactGlueFrobeniusRow : OpenClaim := { program := "ytdgpogfjnfjmlaa", sum := "da15c4a2dfee1a09fd6229fd12986565d95e418d393965a7724d7c4e8f68d5f1", func := "loop.example/g00595/laws.FnExactGlueFrobenius", spec := "fnExactGlueFrobenius", unfollowed := true, recurses := true, apart := false }
def FnExactGlueFrobeniusSaid : Prop := fnExactGlueFrobeniusRow.holds Try.pinned (OpenSpec.ofChange fnExactGlueFrobeniusSpec)

/-- ITS FALSE NEIGHBOUR: 'it returns false'. Refute it at one input. -/
def fnExactGlueFrobeniusWrong : ChangeSpec := { name := "fnExactGlueFrobenius", fn := fun _ => fun
  | [d1, d2, d3, d4] => { results := [.lit (.bool false)], args := [d1, d2, d3, d4] }
  | _ => none }
def FnExactGlueFrobeniusWrongFalsely : Prop := fnExactGlueFrobeniusRow.holds Try.pinned (OpenSpec.ofChange fnExactGlueFrobeniusWrong)

/-- 'laws.FnExactArfFailure': WHATEVER THE INPUT: true; the input reads as it did. -/
def fnExactArfFailureSpec : ChangeSpec := { name := "fnExactArfFailure", fn := fun _ => fun
  | [d] => { results := [.lit (.bool true)], args := [d] }
  | _ => none }
def fnExactArfFailureRow : OpenClaim := { program := "ytdgpogfjnfjmlaa", sum := "da15c4a2dfee1a09fd6229fd12986565d95e418d393965a7724d7c4e8f68d5f1", func := "loop.example/g00595/laws.FnExactArfFailure", spec := "fnExactArfFailure", unfollowed := true, recurses := true, apart := false }
def FnExactArfFailureSaid : Prop := fnExactArfFailureRow.holds Try.pinned (OpenSpec.ofChange fnExactArfFailureSpec)

/-- ITS FALSE NEIGHBOUR: 'it returns false'. Refute it at one input. -/
def fnExactArfFailureWrong : ChangeSpec := { name := "fnExactArfFailure", fn := fun _ => fun
  | [d] => { results := [.lit (.bool false)], args := [d] }
  | _ => none }
def FnExactArfFailureWrongFalsely : Prop := fnExactArfFailureRow.holds Try.pinned (OpenSpec.ofChange fnExactArfFailureWrong)

/-- 'laws.FnExactIsArf': WHATEVER THE INPUT: true; the input reads as it did. -/
def fnExactIsArfSpec : ChangeSpec := { name := "fnExactIsArf", fn := fun _ => fun
  | [d] => { results := [.lit (.bool true)], args := [d] }
  | _ => none }
def fnExactIsArfRow : OpenClaim := { program := "ytdgpogfjnfjmlaa", sum := "da15c4a2dfee1a09fd6229fd12986565d95e418d393965a7724d7c4e8f68d5f1", func := "loop.example/g00595/laws.FnExactIsArf", spec := "fnExactIsArf", unfollowed := true, recurses := true, apart := false }
def FnExactIsArfSaid : Prop := fnExactIsArfRow.holds Try.pinned (OpenSpec.ofChange fnExactIsArfSpec)

/-- ITS FALSE NEIGHBOUR: 'it returns false'. Refute it at one input. -/
def fnExactIsArfWrong : ChangeSpec := { name := "fnExactIsArf", fn := fun _ => fun
  | [d] => { results := [.lit (.bool false)], args := [d] }
  | _ => none }
def FnExactIsArfWrongFalsely : Prop := fnExactIsArfRow.holds Try.pinned (OpenSpec.ofChange fnExactIsArfWrong)

/-- 'laws.FnExactArfClosure': WHATEVER THE INPUT: true; the input reads as it did. -/
def fnExactArfClosureSpec : ChangeSpec := { name := "fnExactArfClosure", fn := fun _ => fun
  | [d] => { results := [.lit (.bool true)], args := [d] }
  | _ => none }
def fnExactArfClosureRow : OpenClaim := { program := "ytdgpogfjnfjmlaa", sum := "da15c4a2dfee1a09fd6229fd12986565d95e418d393965a7724d7c4e8f68d5f1", func := "loop.example/g00595/laws.FnExactArfClosure", spec := "fnExactArfClosure", unfollowed := true, recurses := true, apart := false }
def FnExactArfClosureSaid : Prop := fnExactArfClosureRow.holds Try.pinned (OpenSpec.ofChange fnExactArfClosureSpec)

/-- ITS FALSE NEIGHBOUR: 'it returns false'. Refute it at one input. -/
def fnExactArfClosureWrong : ChangeSpec := { name := "fnExactArfClosure", fn := fun _ => fun
  | [d] => { results := [.lit (.bool false)], args := [d] }
  | _ => none }
def FnExactArfClosureWrongFalsely : Prop := fnExactArfClosureRow.holds Try.pinned (OpenSpec.ofChange fnExactArfClosureWrong)

/- THE SECOND FORM. 'bulk': how many values and letters a reading holds, each counted each time it is reached (what is shared counts as often as it is met; a slice's spare places count too). A statement '..UptoSaid' is the law's where the arguments, and the package variables that the reading takes, are together of bulk at most 1048576: NARROWER than '..Said'. Prove '..Said' where nothing that the law and all that it calls make is longer than what came in: it says more and counts as full. Else prove '..UptoSaid'. A law counts once. -/
mutual
def uptoBulk {H : Type} : DataW H → Nat
  | .lit (.string bytes) => bytes.length + 1
  | .lit _ => 1
  | .nil => 1
  | .ptr d => uptoBulk d + 1
  | .slice elems spare => uptoBulkAll elems + uptoBulkAll spare + 1
  | .agg parts => uptoBulkAll parts + 1
  | .iface _ d => uptoBulk d + 1
  | .map entries => uptoBulkEntries entries + 1
  | .held _ => 1
def uptoBulkAll {H : Type} : List (DataW H) → Nat
  | [] => 0
  | d :: r => uptoBulk d + uptoBulkAll r
def uptoBulkEntries {H : Type} : List (Lit × DataW H) → Nat
  | [] => 0
  | x :: r => uptoBulkEntry x + uptoBulkEntries r
def uptoBulkEntry {H : Type} : Lit × DataW H → Nat
  | (.string bytes, d) => bytes.length + uptoBulk d + 1
  | (_, d) => uptoBulk d + 1
 end
def uptoSmall : (H : Type) → List (DataW H) → Bool := fun _ ds => decide (uptoBulkAll ds ≤ 1048576)
def OpenSpec.upto (s : _root_.Go.ChangeSpec) : _root_.Go.OpenSpec := { _root_.Go.OpenSpec.ofChange s with cond := some uptoSmall }

/-- 'laws.FnExactGlueOf', WHERE WHAT IT READS IS OF BULK AT MOST 1048576: true; the input reads as it did. -/
def fnExactGlueOfUptoRow : OpenClaim := { program := "ytdgpogfjnfjmlaa", sum := "da15c4a2dfee1a09fd6229fd12986565d95e418d393965a7724d7c4e8f68d5f1", func := "loop.example/g00595/laws.FnExactGlueOf", spec := "fnExactGlueOf", unfollowed := true, recurses := true, apart := false, narrowed := true }
def FnExactGlueOfUptoSaid : Prop := fnExactGlueOfUptoRow.holds Try.pinned (OpenSpec.upto fnExactGlueOfSpec)

/-- 'laws.FnExactGlueFrobenius', WHERE WHAT IT READS IS OF BULK AT MOST 1048576: true; the input reads as it did. -/
def fnExactGlueFrobeniusUptoRow : OpenClaim := { program := "ytdgpogfjnfjmlaa", sum := "da15c4a2dfee1a09fd6229fd12986565d95e418d393965a7724d7c4e8f68d5f1", func := "loop.example/g00595/laws.FnExactGlueFrobenius", spec := "fnExactGlueFrobenius", unfollowed := true, recurses := true, apart := false, narrowed := true }
def FnExactGlueFrobeniusUptoSaid : Prop := fnExactGlueFrobeniusUptoRow.holds Try.pinned (OpenSpec.upto fnExactGlueFrobeniusSpec)

/-- 'laws.FnExactArfFailure', WHERE WHAT IT READS IS OF BULK AT MOST 1048576: true; the input reads as it did. -/
def fnExactArfFailureUptoRow : OpenClaim := { program := "ytdgpogfjnfjmlaa", sum := "da15c4a2dfee1a09fd6229fd12986565d95e418d393965a7724d7c4e8f68d5f1", func := "loop.example/g00595/laws.FnExactArfFailure", spec := "fnExactArfFailure", unfollowed := true, recurses := true, apart := false, narrowed := true }
def FnExactArfFailureUptoSaid : Prop := fnExactArfFailureUptoRow.holds Try.pinned (OpenSpec.upto fnExactArfFailureSpec)

/-- 'laws.FnExactIsArf', WHERE WHAT IT READS IS OF BULK AT MOST 1048576: true; the input reads as it did. -/
def fnExactIsArfUptoRow : OpenClaim := { program := "ytdgpogfjnfjmlaa", sum := "da15c4a2dfee1a09fd6229fd12986565d95e418d393965a7724d7c4e8f68d5f1", func := "loop.example/g00595/laws.FnExactIsArf", spec := "fnExactIsArf", unfollowed := true, recurses := true, apart := false, narrowed := true }
def FnExactIsArfUptoSaid : Prop := fnExactIsArfUptoRow.holds Try.pinned (OpenSpec.upto fnExactIsArfSpec)

/-- 'laws.FnExactArfClosure', WHERE WHAT IT READS IS OF BULK AT MOST 1048576: true; the input reads as it did. -/
def fnExactArfClosureUptoRow : OpenClaim := { program := "ytdgpogfjnfjmlaa", sum := "da15c4a2dfee1a09fd6229fd12986565d95e418d393965a7724d7c4e8f68d5f1", func := "loop.example/g00595/laws.FnExactArfClosure", spec := "fnExactArfClosure", unfollowed := true, recurses := true, apart := false, narrowed := true }
def FnExactArfClosureUptoSaid : Prop := fnExactArfClosureUptoRow.holds Try.pinned (OpenSpec.upto fnExactArfClosureSpec)

end Rows
end Go.Proofs.Ytdgpogfjnfjmlaa
