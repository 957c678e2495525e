/-
  No cell of these rows narrows 'for every input' (looked for: loops, veiled, ifaces, maps, wideKeys, modest, calm, conditions, laid).
  DERIVED. THE GIVEN ROWS OF THIS SEAT. 11 by the template 'for every input the law returns true; each argument reads behind the call as it read before'; 0 by the template 'total and deterministic' (their statements: YtikfaogopjinaaaTotals.lean).
  GIVEN WITH THE SEED: the statements are not yours to turn. If you find one false, say at which input.
  Laid BY PROGRAM, IN A SANDBOX (cutbox-rows.mjs): the forced cells as the released guide's own fill.sh prints them over the translation 704668695b0438e6… (all of the seat's roots in one cut). By AI agents, Wed Nov 11 2026. No macro, syntax, notation, axiom, sorry.
-/
import Derived.Test.YtikfaogopjinaaaChecked
import GoSem.Claim
import GoSem.ClaimJoined
import GoSem.ClaimMapViews
import Derived.JoinedTies
import Derived.KernelRfl
namespace Go.Proofs.Ytikfaogopjinaaa
/- THE CELL 'sum', in the pinned program and in every row, IS THE sha256 OF THE DUMP (.gsa) THAT YtikfaogopjinaaaProg.lean LOADS. Nothing in Lean hashes anything: it is a label: what it is worth is what the hold of that sum in a sandbox is worth. -/
noncomputable def Try.pinned : Pinned := { name := "ytikfaogopjinaaa", sum := "704668695b0438e61e93b5e657a267f778d51b1bfb212441a3e9aa978cc647d6", checked := Try.checked }
namespace Rows
def none {H : Type} : Left H := { results := [], args := [] }

/-- 'laws.FnExactNumeratorOf': WHATEVER THE INPUT: true; the input reads as it did. -/
def fnExactNumeratorOfSpec : ChangeSpec := { name := "fnExactNumeratorOf", fn := fun _ => fun
  | [d] => { results := [.lit (.bool true)], args := [d] }
  | _ => none }
def fnExactNumeratorOfRow : OpenClaim := { program := "ytikfaogopjinaaa", sum := "704668695b0438e61e93b5e657a267f778d51b1bfb212441a3e9aa978cc647d6", func := "loop.example/g00595/laws.FnExactNumeratorOf", spec := "fnExactNumeratorOf", unfollowed := true, recurses := true, apart := false }
def FnExactNumeratorOfSaid : Prop := fnExactNumeratorOfRow.holds Try.pinned (OpenSpec.ofChange fnExactNumeratorOfSpec)

/-- ITS FALSE NEIGHBOUR: 'it returns false'. Refute it at one input. -/
def fnExactNumeratorOfWrong : ChangeSpec := { name := "fnExactNumeratorOf", fn := fun _ => fun
  | [d] => { results := [.lit (.bool false)], args := [d] }
  | _ => none }
def FnExactNumeratorOfWrongFalsely : Prop := fnExactNumeratorOfRow.holds Try.pinned (OpenSpec.ofChange fnExactNumeratorOfWrong)

/-- 'laws.FnExactSeriesFrom': WHATEVER THE INPUT: true; the input reads as it did. -/
def fnExactSeriesFromSpec : ChangeSpec := { name := "fnExactSeriesFrom", fn := fun _ => fun
  | [d1, d2] => { results := [.lit (.bool true)], args := [d1, d2] }
  | _ => none }
def fnExactSeriesFromRow : OpenClaim := { program := "ytikfaogopjinaaa", sum := "704668695b0438e61e93b5e657a267f778d51b1bfb212441a3e9aa978cc647d6", func := "loop.example/g00595/laws.FnExactSeriesFrom", spec := "fnExactSeriesFrom", apart := false }
def FnExactSeriesFromSaid : Prop := fnExactSeriesFromRow.holds Try.pinned (OpenSpec.ofChange fnExactSeriesFromSpec)

/-- ITS FALSE NEIGHBOUR: 'it returns false'. Refute it at one input. -/
def fnExactSeriesFromWrong : ChangeSpec := { name := "fnExactSeriesFrom", fn := fun _ => fun
  | [d1, d2] => { results := [.lit (.bool false)], args := [d1, d2] }
  | _ => none }
def FnExactSeriesFromWrongFalsely : Prop := fnExactSeriesFromRow.holds Try.pinned (OpenSpec.ofChange fnExactSeriesFromWrong)

/-- 'laws.FnExactIsPalindrome': WHATEVER THE INPUT: true; the input reads as it did. -/
def fnExactIsPalindromeSpec : ChangeSpec := { name := "fnExactIsPalindrome", fn := fun _ => fun
  | [d] => { results := [.lit (.bool true)], args := [d] }
  | _ => none }
def fnExactIsPalindromeRow : OpenClaim := { program := "ytikfaogopjinaaa", sum := "704668695b0438e61e93b5e657a267f778d51b1bfb212441a3e9aa978cc647d6", func := "loop.example/g00595/laws.FnExactIsPalindrome", spec := "fnExactIsPalindrome", apart := false }
def FnExactIsPalindromeSaid : Prop := fnExactIsPalindromeRow.holds Try.pinned (OpenSpec.ofChange fnExactIsPalindromeSpec)

/-- ITS FALSE NEIGHBOUR: 'it returns false'. Refute it at one input. -/
def fnExactIsPalindromeWrong : ChangeSpec := { name := "fnExactIsPalindrome", fn := fun _ => fun
  | [d] => { results := [.lit (.bool false)], args := [d] }
  | _ => none }
def FnExactIsPalindromeWrongFalsely : Prop := fnExactIsPalindromeRow.holds Try.pinned (OpenSpec.ofChange fnExactIsPalindromeWrong)

/-- 'laws.FnExactMultiplyLists': WHATEVER THE INPUT: true; the input reads as it did. -/
def fnExactMultiplyListsSpec : ChangeSpec := { name := "fnExactMultiplyLists", fn := fun _ => fun
  | [d1, d2] => { results := [.lit (.bool true)], args := [d1, d2] }
  | _ => none }
def fnExactMultiplyListsRow : OpenClaim := { program := "ytikfaogopjinaaa", sum := "704668695b0438e61e93b5e657a267f778d51b1bfb212441a3e9aa978cc647d6", func := "loop.example/g00595/laws.FnExactMultiplyLists", spec := "fnExactMultiplyLists", apart := false }
def FnExactMultiplyListsSaid : Prop := fnExactMultiplyListsRow.holds Try.pinned (OpenSpec.ofChange fnExactMultiplyListsSpec)

/-- ITS FALSE NEIGHBOUR: 'it returns false'. Refute it at one input. -/
def fnExactMultiplyListsWrong : ChangeSpec := { name := "fnExactMultiplyLists", fn := fun _ => fun
  | [d1, d2] => { results := [.lit (.bool false)], args := [d1, d2] }
  | _ => none }
def FnExactMultiplyListsWrongFalsely : Prop := fnExactMultiplyListsRow.holds Try.pinned (OpenSpec.ofChange fnExactMultiplyListsWrong)

/-- 'laws.FnExactEulerAt': WHATEVER THE INPUT: true; the input reads as it did. -/
def fnExactEulerAtSpec : ChangeSpec := { name := "fnExactEulerAt", fn := fun _ => fun
  | [d1, d2] => { results := [.lit (.bool true)], args := [d1, d2] }
  | _ => none }
def fnExactEulerAtRow : OpenClaim := { program := "ytikfaogopjinaaa", sum := "704668695b0438e61e93b5e657a267f778d51b1bfb212441a3e9aa978cc647d6", func := "loop.example/g00595/laws.FnExactEulerAt", spec := "fnExactEulerAt", recurses := true, apart := false }
def FnExactEulerAtSaid : Prop := fnExactEulerAtRow.holds Try.pinned (OpenSpec.ofChange fnExactEulerAtSpec)

/-- ITS FALSE NEIGHBOUR: 'it returns false'. Refute it at one input. -/
def fnExactEulerAtWrong : ChangeSpec := { name := "fnExactEulerAt", fn := fun _ => fun
  | [d1, d2] => { results := [.lit (.bool false)], args := [d1, d2] }
  | _ => none }
def FnExactEulerAtWrongFalsely : Prop := fnExactEulerAtRow.holds Try.pinned (OpenSpec.ofChange fnExactEulerAtWrong)

/-- 'laws.FnExactEulerList': WHATEVER THE INPUT: true; the input reads as it did. -/
def fnExactEulerListSpec : ChangeSpec := { name := "fnExactEulerList", fn := fun _ => fun
  | [d] => { results := [.lit (.bool true)], args := [d] }
  | _ => none }
def fnExactEulerListRow : OpenClaim := { program := "ytikfaogopjinaaa", sum := "704668695b0438e61e93b5e657a267f778d51b1bfb212441a3e9aa978cc647d6", func := "loop.example/g00595/laws.FnExactEulerList", spec := "fnExactEulerList", unfollowed := true, recurses := true, apart := false }
def FnExactEulerListSaid : Prop := fnExactEulerListRow.holds Try.pinned (OpenSpec.ofChange fnExactEulerListSpec)

/-- ITS FALSE NEIGHBOUR: 'it returns false'. Refute it at one input. -/
def fnExactEulerListWrong : ChangeSpec := { name := "fnExactEulerList", fn := fun _ => fun
  | [d] => { results := [.lit (.bool false)], args := [d] }
  | _ => none }
def FnExactEulerListWrongFalsely : Prop := fnExactEulerListRow.holds Try.pinned (OpenSpec.ofChange fnExactEulerListWrong)

/-- 'laws.FnExactQuotientOf': WHATEVER THE INPUT: true; the input reads as it did. -/
def fnExactQuotientOfSpec : ChangeSpec := { name := "fnExactQuotientOf", fn := fun _ => fun
  | [d1, d2] => { results := [.lit (.bool true)], args := [d1, d2] }
  | _ => none }
def fnExactQuotientOfRow : OpenClaim := { program := "ytikfaogopjinaaa", sum := "704668695b0438e61e93b5e657a267f778d51b1bfb212441a3e9aa978cc647d6", func := "loop.example/g00595/laws.FnExactQuotientOf", spec := "fnExactQuotientOf", unfollowed := true, recurses := true, apart := false }
def FnExactQuotientOfSaid : Prop := fnExactQuotientOfRow.holds Try.pinned (OpenSpec.ofChange fnExactQuotientOfSpec)

/-- ITS FALSE NEIGHBOUR: 'it returns false'. Refute it at one input. -/
def fnExactQuotientOfWrong : ChangeSpec := { name := "fnExactQuotientOf", fn := fun _ => fun
  | [d1, d2] => { results := [.lit (.bool false)], args := [d1, d2] }
  | _ => none }
def FnExactQuotientOfWrongFalsely : Prop := fnExactQuotientOfRow.holds Try.pinned (OpenSpec.ofChange fnExactQuotientOfWrong)

/-- 'laws.FnExactScaledElements': WHATEVER THE INPUT: true; the input reads as it did. -/
def fnExactScaledElementsSpec : ChangeSpec := { name := "fnExactScaledElements", fn := fun _ => fun
  | [d1, d2, d3] => { results := [.lit (.bool true)], args := [d1, d2, d3] }
  | _ => none }
def fnExactScaledElementsRow : OpenClaim := { program := "ytikfaogopjinaaa", sum := "704668695b0438e61e93b5e657a267f778d51b1bfb212441a3e9aa978cc647d6", func := "loop.example/g00595/laws.FnExactScaledElements", spec := "fnExactScaledElements", apart := false }
def FnExactScaledElementsSaid : Prop := fnExactScaledElementsRow.holds Try.pinned (OpenSpec.ofChange fnExactScaledElementsSpec)

/-- ITS FALSE NEIGHBOUR: 'it returns false'. Refute it at one input. -/
def fnExactScaledElementsWrong : ChangeSpec := { name := "fnExactScaledElements", fn := fun _ => fun
  | [d1, d2, d3] => { results := [.lit (.bool false)], args := [d1, d2, d3] }
  | _ => none }
def FnExactScaledElementsWrongFalsely : Prop := fnExactScaledElementsRow.holds Try.pinned (OpenSpec.ofChange fnExactScaledElementsWrong)

/-- 'laws.FnExactIsWithin': WHATEVER THE INPUT: true; the input reads as it did. -/
def fnExactIsWithinSpec : ChangeSpec := { name := "fnExactIsWithin", fn := fun _ => fun
  | [d1, d2] => { results := [.lit (.bool true)], args := [d1, d2] }
  | _ => none }
def fnExactIsWithinRow : OpenClaim := { program := "ytikfaogopjinaaa", sum := "704668695b0438e61e93b5e657a267f778d51b1bfb212441a3e9aa978cc647d6", func := "loop.example/g00595/laws.FnExactIsWithin", spec := "fnExactIsWithin", apart := false }
def FnExactIsWithinSaid : Prop := fnExactIsWithinRow.holds Try.pinned (OpenSpec.ofChange fnExactIsWithinSpec)

/-- ITS FALSE NEIGHBOUR: 'it returns false'. Refute it at one input. -/
def fnExactIsWithinWrong : ChangeSpec := { name := "fnExactIsWithin", fn := fun _ => fun
  | [d1, d2] => { results := [.lit (.bool false)], args := [d1, d2] }
  | _ => none }
def FnExactIsWithinWrongFalsely : Prop := fnExactIsWithinRow.holds Try.pinned (OpenSpec.ofChange fnExactIsWithinWrong)

/-- 'laws.FnExactMeetOf': WHATEVER THE INPUT: true; the input reads as it did. -/
def fnExactMeetOfSpec : ChangeSpec := { name := "fnExactMeetOf", fn := fun _ => fun
  | [d1, d2] => { results := [.lit (.bool true)], args := [d1, d2] }
  | _ => none }
def fnExactMeetOfRow : OpenClaim := { program := "ytikfaogopjinaaa", sum := "704668695b0438e61e93b5e657a267f778d51b1bfb212441a3e9aa978cc647d6", func := "loop.example/g00595/laws.FnExactMeetOf", spec := "fnExactMeetOf", unfollowed := true, recurses := true, apart := false }
def FnExactMeetOfSaid : Prop := fnExactMeetOfRow.holds Try.pinned (OpenSpec.ofChange fnExactMeetOfSpec)

/-- ITS FALSE NEIGHBOUR: 'it returns false'. Refute it at one input. -/
def fnExactMeetOfWrong : ChangeSpec := { name := "fnExactMeetOf", fn := fun _ => fun
  | [d1, d2] => { results := [.lit (.bool false)], args := [d1, d2] }
  | _ => none }
def FnExactMeetOfWrongFalsely : Prop := fnExactMeetOfRow.holds Try.pinned (OpenSpec.ofChange fnExactMeetOfWrong)

/-- 'laws.FnExactAddOf': WHATEVER THE INPUT: true; the input reads as it did. -/
def fnExactAddOfSpec : ChangeSpec := { name := "fnExactAddOf", fn := fun _ => fun
  | [d1, d2] => { results := [.lit (.bool true)], args := [d1, d2] }
  | _ => none }
def fnExactAddOfRow : OpenClaim := { program := "ytikfaogopjinaaa", sum := "704668695b0438e61e93b5e657a267f778d51b1bfb212441a3e9aa978cc647d6", func := "loop.example/g00595/laws.FnExactAddOf", spec := "fnExactAddOf", unfollowed := true, recurses := true, apart := false }
def FnExactAddOfSaid : Prop := fnExactAddOfRow.holds Try.pinned (OpenSpec.ofChange fnExactAddOfSpec)

/-- ITS FALSE NEIGHBOUR: 'it returns false'. Refute it at one input. -/
def fnExactAddOfWrong : ChangeSpec := { name := "fnExactAddOf", fn := fun _ => fun
  | [d1, d2] => { results := [.lit (.bool false)], args := [d1, d2] }
  | _ => none }
def FnExactAddOfWrongFalsely : Prop := fnExactAddOfRow.holds Try.pinned (OpenSpec.ofChange fnExactAddOfWrong)

/- THE SECOND FORM. 'bulk': how many values and letters a reading holds, each counted each time it is reached (what is shared counts as often as it is met; a slice's spare places count too). A statement '..UptoSaid' is the law's where the arguments, and the package variables that the reading takes, are together of bulk at most 1048576: NARROWER than '..Said'. Prove '..Said' where nothing that the law and all that it calls make is longer than what came in: it says more and counts as full. Else prove '..UptoSaid'. A law counts once. -/
mutual
def uptoBulk {H : Type} : DataW H → Nat
  | .lit (.string bytes) => bytes.length + 1
  | .lit _ => 1
  | .nil => 1
  | .ptr d => uptoBulk d + 1
  | .slice elems spare => uptoBulkAll elems + uptoBulkAll spare + 1
  | .agg parts => uptoBulkAll parts + 1
  | .iface _ d => uptoBulk d + 1
  | .map entries => uptoBulkEntries entries + 1
  | .held _ => 1
def uptoBulkAll {H : Type} : List (DataW H) → Nat
  | [] => 0
  | d :: r => uptoBulk d + uptoBulkAll r
def uptoBulkEntries {H : Type} : List (Lit × DataW H) → Nat
  | [] => 0
  | x :: r => uptoBulkEntry x + uptoBulkEntries r
def uptoBulkEntry {H : Type} : Lit × DataW H → Nat
  | (.string bytes, d) => bytes.length + uptoBulk d + 1
  | (_, d) => uptoBulk d + 1
 end
def uptoSmall : (H : Type) → List (DataW H) → Bool := fun _ ds => decide (uptoBulkAll ds ≤ 1048576)
def OpenSpec.upto (s : _root_.Go.ChangeSpec) : _root_.Go.OpenSpec := { _root_.Go.OpenSpec.ofChange s with cond := some uptoSmall }

/-- 'laws.FnExactNumeratorOf', WHERE WHAT IT READS IS OF BULK AT MOST 1048576: true; the input reads as it did. -/
def fnExactNumeratorOfUptoRow : OpenClaim := { program := "ytikfaogopjinaaa", sum := "704668695b0438e61e93b5e657a267f778d51b1bfb212441a3e9aa978cc647d6", func := "loop.example/g00595/laws.FnExactNumeratorOf", spec := "fnExactNumeratorOf", unfollowed := true, recurses := true, apart := false, narrowed := true }
def FnExactNumeratorOfUptoSaid : Prop := fnExactNumeratorOfUptoRow.holds Try.pinned (OpenSpec.upto fnExactNumeratorOfSpec)

/-- 'laws.FnExactSeriesFrom', WHERE WHAT IT READS IS OF BULK AT MOST 1048576: true; the input reads as it did. -/
def fnExactSeriesFromUptoRow : OpenClaim := { program := "ytikfaogopjinaaa", sum := "704668695b0438e61e93b5e657a267f778d51b1bfb212441a3e9aa978cc647d6", func := "loop.example/g00595/laws.FnExactSeriesFrom", spec := "fnExactSeriesFrom", apart := false, narrowed := true }
def FnExactSeriesFromUptoSaid : Prop := fnExactSeriesFromUptoRow.holds Try.pinned (OpenSpec.upto fnExactSeriesFromSpec)

/-- 'laws.FnExactIsPalindrome', WHERE WHAT IT READS IS OF BULK AT MOST 1048576: true; the input reads as it did. -/
def fnExactIsPalindromeUptoRow : OpenClaim := { program := "ytikfaogopjinaaa", sum := "704668695b0438e61e93b5e657a267f778d51b1bfb212441a3e9aa978cc647d6", func := "loop.example/g00595/laws.FnExactIsPalindrome", spec := "fnExactIsPalindrome", apart := false, narrowed := true }
def FnExactIsPalindromeUptoSaid : Prop := fnExactIsPalindromeUptoRow.holds Try.pinned (OpenSpec.upto fnExactIsPalindromeSpec)

/-- 'laws.FnExactMultiplyLists', WHERE WHAT IT READS IS OF BULK AT MOST 1048576: true; the input reads as it did. -/
def fnExactMultiplyListsUptoRow : OpenClaim := { program := "ytikfaogopjinaaa", sum := "704668695b0438e61e93b5e657a267f778d51b1bfb212441a3e9aa978cc647d6", func := "loop.example/g00595/laws.FnExactMultiplyLists", spec := "fnExactMultiplyLists", apart := false, narrowed := true }
def FnExactMultiplyListsUptoSaid : Prop := fnExactMultiplyListsUptoRow.holds Try.pinned (OpenSpec.upto fnExactMultiplyListsSpec)

/-- 'laws.FnExactEulerAt', WHERE WHAT IT READS IS OF BULK AT MOST 1048576: true; the input reads as it did. -/
def fnExactEulerAtUptoRow : OpenClaim := { program := "ytikfaogopjinaaa", sum := "704668695b0438e61e93b5e657a267f778d51b1bfb212441a3e9aa978cc647d6", func := "loop.example/g00595/laws.FnExactEulerAt", spec := "fnExactEulerAt", recurses := true, apart := false, narrowed := true }
def FnExactEulerAtUptoSaid : Prop := fnExactEulerAtUptoRow.holds Try.pinned (OpenSpec.upto fnExactEulerAtSpec)

/-- 'laws.FnExactEulerList', WHERE WHAT IT READS IS OF BULK AT MOST 1048576: true; the input reads as it did. -/
def fnExactEulerListUptoRow : OpenClaim := { program := "ytikfaogopjinaaa", sum := "704668695b0438e61e93b5e657a267f778d51b1bfb212441a3e9aa978cc647d6", func := "loop.example/g00595/laws.FnExactEulerList", spec := "fnExactEulerList", unfollowed := true, recurses := true, apart := false, narrowed := true }
def FnExactEulerListUptoSaid : Prop := fnExactEulerListUptoRow.holds Try.pinned (OpenSpec.upto fnExactEulerListSpec)

/-- 'laws.FnExactQuotientOf', WHERE WHAT IT READS IS OF BULK AT MOST 1048576: true; the input reads as it did. -/
def fnExactQuotientOfUptoRow : OpenClaim := { program := "ytikfaogopjinaaa", sum := "704668695b0438e61e93b5e657a267f778d51b1bfb212441a3e9aa978cc647d6", func := "loop.example/g00595/laws.FnExactQuotientOf", spec := "fnExactQuotientOf", unfollowed := true, recurses := true, apart := false, narrowed := true }
def FnExactQuotientOfUptoSaid : Prop := fnExactQuotientOfUptoRow.holds Try.pinned (OpenSpec.upto fnExactQuotientOfSpec)

/-- 'laws.FnExactScaledElements', WHERE WHAT IT READS IS OF BULK AT MOST 1048576: true; the input reads as it did. -/
def fnExactScaledElementsUptoRow : OpenClaim := { program := "ytikfaogopjinaaa", sum := "704668695b0438e61e93b5e657a267f778d51b1bfb212441a3e9aa978cc647d6", func := "loop.example/g00595/laws.FnExactScaledElements", spec := "fnExactScaledElements", apart := false, narrowed := true }
def FnExactScaledElementsUptoSaid : Prop := fnExactScaledElementsUptoRow.holds Try.pinned (OpenSpec.upto fnExactScaledElementsSpec)

/-- 'laws.FnExactIsWithin', WHERE WHAT IT READS IS OF BULK AT MOST 1048576: true; the input reads as it did. -/
def fnExactIsWithinUptoRow : OpenClaim := { program := "ytikfaogopjinaaa", sum := "704668695b0438e61e93b5e657a267f778d51b1bfb212441a3e9aa978cc647d6", func := "loop.example/g00595/laws.FnExactIsWithin", spec := "fnExactIsWithin", apart := false, narrowed := true }
def FnExactIsWithinUptoSaid : Prop := fnExactIsWithinUptoRow.holds Try.pinned (OpenSpec.upto fnExactIsWithinSpec)

/-- 'laws.FnExactMeetOf', WHERE WHAT IT READS IS OF BULK AT MOST 1048576: true; the input reads as it did. -/
def fnExactMeetOfUptoRow : OpenClaim := { program := "ytikfaogopjinaaa", sum := "704668695b0438e61e93b5e657a267f778d51b1bfb212441a3e9aa978cc647d6", func := "loop.example/g00595/laws.FnExactMeetOf", spec := "fnExactMeetOf", unfollowed := true, recurses := true, apart := false, narrowed := true }
def FnExactMeetOfUptoSaid : Prop := fnExactMeetOfUptoRow.holds Try.pinned (OpenSpec.upto fnExactMeetOfSpec)

/-- 'laws.FnExactAddOf', WHERE WHAT IT READS IS OF BULK AT MOST 1048576: true; the input reads as it did. -/
def fnExactAddOfUptoRow : OpenClaim := { program := "ytikfaogopjinaaa", sum := "704668695b0438e61e93b5e657a267f778d51b1bfb212441a3e9aa978cc647d6", func := "loop.example/g00595/laws.FnExactAddOf", spec := "fnExactAddOf", unfollowed := true, recurses := true, apart := false, narrowed := true }
def FnExactAddOfUptoSaid : Prop := fnExactAddOfUptoRow.holds Try.pinned (OpenSpec.upto fnExactAddOfSpec)

end Rows
end Go.Proofs.Ytikfaogopjinaaa
