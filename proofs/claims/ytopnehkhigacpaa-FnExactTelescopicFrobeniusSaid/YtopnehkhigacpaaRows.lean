/-
  No cell of these rows narrows 'for every input' (looked for: loops, veiled, ifaces, maps, wideKeys, modest, calm, conditions, laid).
  DERIVED. THE GIVEN ROWS OF THIS SEAT. 11 by the template 'for every input the law returns true; each argument reads behind the call as it read before'; 0 by the template 'total and deterministic' (their statements: YtopnehkhigacpaaTotals.lean).
  GIVEN WITH THE SEED: the statements are not yours to turn. If you find one false, say at which input.
  Laid BY PROGRAM, IN A SANDBOX (cutbox-rows.mjs): the forced cells as the released guide's own fill.sh prints them over the translation ce2bc4e13fec63aa… (all of the seat's roots in one cut). By AI agents, Wed Nov 11 2026. No macro, syntax, notation, axiom, sorry.
-/
import Derived.Test.YtopnehkhigacpaaChecked
import GoSem.Claim
import GoSem.ClaimJoined
import GoSem.ClaimMapViews
import Derived.JoinedTies
import Derived.KernelRfl
namespace Go.Proofs.Ytopnehkhigacpaa
/- THE CELL 'sum', in the pinned program and in every row, IS THE sha256 OF THE DUMP (.gsa) THAT YtopnehkhigacpaaProg.lean LOADS. Nothing in Lean hashes anything: it is a label: what it is worth is what the hold of that sum in a sandbox is worth. -/
noncomputable def Try.pinned : Pinned := { name := "ytopnehkhigacpaa", sum := "ce2bc4e13fec63aa7d8be71b764316769e19b0e04a11c77363ae20321331e32d", checked := Try.checked }
namespace Rows
def none {H : Type} : Left H := { results := [], args := [] }

/-- 'laws.FnExactAddGap': WHATEVER THE INPUT: true; the input reads as it did. -/
def fnExactAddGapSpec : ChangeSpec := { name := "fnExactAddGap", fn := fun _ => fun
  | [d1, d2] => { results := [.lit (.bool true)], args := [d1, d2] }
  | _ => none }
def fnExactAddGapRow : OpenClaim := { program := "ytopnehkhigacpaa", sum := "ce2bc4e13fec63aa7d8be71b764316769e19b0e04a11c77363ae20321331e32d", func := "loop.example/g00595/laws.FnExactAddGap", spec := "fnExactAddGap", unfollowed := true, recurses := true, apart := false }
def FnExactAddGapSaid : Prop := fnExactAddGapRow.holds Try.pinned (OpenSpec.ofChange fnExactAddGapSpec)

/-- ITS FALSE NEIGHBOUR: 'it returns false'. Refute it at one input. -/
def fnExactAddGapWrong : ChangeSpec := { name := "fnExactAddGap", fn := fun _ => fun
  | [d1, d2] => { results := [.lit (.bool false)], args := [d1, d2] }
  | _ => none }
def FnExactAddGapWrongFalsely : Prop := fnExactAddGapRow.holds Try.pinned (OpenSpec.ofChange fnExactAddGapWrong)

/-- 'laws.FnExactRemoveGenerator': WHATEVER THE INPUT: true; the input reads as it did. -/
def fnExactRemoveGeneratorSpec : ChangeSpec := { name := "fnExactRemoveGenerator", fn := fun _ => fun
  | [d1, d2] => { results := [.lit (.bool true)], args := [d1, d2] }
  | _ => none }
def fnExactRemoveGeneratorRow : OpenClaim := { program := "ytopnehkhigacpaa", sum := "ce2bc4e13fec63aa7d8be71b764316769e19b0e04a11c77363ae20321331e32d", func := "loop.example/g00595/laws.FnExactRemoveGenerator", spec := "fnExactRemoveGenerator", unfollowed := true, recurses := true, apart := false }
def FnExactRemoveGeneratorSaid : Prop := fnExactRemoveGeneratorRow.holds Try.pinned (OpenSpec.ofChange fnExactRemoveGeneratorSpec)

/-- ITS FALSE NEIGHBOUR: 'it returns false'. Refute it at one input. -/
def fnExactRemoveGeneratorWrong : ChangeSpec := { name := "fnExactRemoveGenerator", fn := fun _ => fun
  | [d1, d2] => { results := [.lit (.bool false)], args := [d1, d2] }
  | _ => none }
def FnExactRemoveGeneratorWrongFalsely : Prop := fnExactRemoveGeneratorRow.holds Try.pinned (OpenSpec.ofChange fnExactRemoveGeneratorWrong)

/-- 'laws.FnExactParentOf': WHATEVER THE INPUT: true; the input reads as it did. -/
def fnExactParentOfSpec : ChangeSpec := { name := "fnExactParentOf", fn := fun _ => fun
  | [d] => { results := [.lit (.bool true)], args := [d] }
  | _ => none }
def fnExactParentOfRow : OpenClaim := { program := "ytopnehkhigacpaa", sum := "ce2bc4e13fec63aa7d8be71b764316769e19b0e04a11c77363ae20321331e32d", func := "loop.example/g00595/laws.FnExactParentOf", spec := "fnExactParentOf", unfollowed := true, recurses := true, apart := false }
def FnExactParentOfSaid : Prop := fnExactParentOfRow.holds Try.pinned (OpenSpec.ofChange fnExactParentOfSpec)

/-- ITS FALSE NEIGHBOUR: 'it returns false'. Refute it at one input. -/
def fnExactParentOfWrong : ChangeSpec := { name := "fnExactParentOf", fn := fun _ => fun
  | [d] => { results := [.lit (.bool false)], args := [d] }
  | _ => none }
def FnExactParentOfWrongFalsely : Prop := fnExactParentOfRow.holds Try.pinned (OpenSpec.ofChange fnExactParentOfWrong)

/-- 'laws.FnExactIsTelescopic': WHATEVER THE INPUT: true; the input reads as it did. -/
def fnExactIsTelescopicSpec : ChangeSpec := { name := "fnExactIsTelescopic", fn := fun _ => fun
  | [d] => { results := [.lit (.bool true)], args := [d] }
  | _ => none }
def fnExactIsTelescopicRow : OpenClaim := { program := "ytopnehkhigacpaa", sum := "ce2bc4e13fec63aa7d8be71b764316769e19b0e04a11c77363ae20321331e32d", func := "loop.example/g00595/laws.FnExactIsTelescopic", spec := "fnExactIsTelescopic", apart := false }
def FnExactIsTelescopicSaid : Prop := fnExactIsTelescopicRow.holds Try.pinned (OpenSpec.ofChange fnExactIsTelescopicSpec)

/-- ITS FALSE NEIGHBOUR: 'it returns false'. Refute it at one input. -/
def fnExactIsTelescopicWrong : ChangeSpec := { name := "fnExactIsTelescopic", fn := fun _ => fun
  | [d] => { results := [.lit (.bool false)], args := [d] }
  | _ => none }
def FnExactIsTelescopicWrongFalsely : Prop := fnExactIsTelescopicRow.holds Try.pinned (OpenSpec.ofChange fnExactIsTelescopicWrong)

/-- 'laws.FnExactTelescopicFrobenius': WHATEVER THE INPUT: true; the input reads as it did. -/
def fnExactTelescopicFrobeniusSpec : ChangeSpec := { name := "fnExactTelescopicFrobenius", fn := fun _ => fun
  | [d] => { results := [.lit (.bool true)], args := [d] }
  | _ => none }
def fnExactTelescopicFrobeniusRow : OpenClaim := { program := "ytopnehkhigacpaa", sum := "ce2bc4e13fec63aa7d8be71b764316769e19b0e04a11c77363ae20321331e32d", func := "loop.example/g00595/laws.FnExactTelescopicFrobenius", spec := "fnExactTelescopicFrobenius", apart := false }
def FnExactTelescopicFrobeniusSaid : Prop := fnExactTelescopicFrobeniusRow.holds Try.pinned (OpenSpec.ofChange fnExactTelescopicFrobeniusSpec)

/-- ITS FALSE NEIGHBOUR: 'it returns false'. Refute it at one input. -/
def fnExactTelescopicFrobeniusWrong : ChangeSpec := { name := "fnExactTelescopicFrobenius", fn := fun _ => fun
  | [d] => { results := [.lit (.bool false)], args := [d] }
  | _ => none }
def FnExactTelescopicFrobeniusWrongFalsely : Prop := fnExactTelescopicFrobeniusRow.holds Try.pinned (OpenSpec.ofChange fnExactTelescopicFrobeniusWrong)

/-- 'laws.FnExactPairFrobenius': WHATEVER THE INPUT: true; the input reads as it did. -/
def fnExactPairFrobeniusSpec : ChangeSpec := { name := "fnExactPairFrobenius", fn := fun _ => fun
  | [d1, d2] => { results := [.lit (.bool true)], args := [d1, d2] }
  | _ => none }
def fnExactPairFrobeniusRow : OpenClaim := { program := "ytopnehkhigacpaa", sum := "ce2bc4e13fec63aa7d8be71b764316769e19b0e04a11c77363ae20321331e32d", func := "loop.example/g00595/laws.FnExactPairFrobenius", spec := "fnExactPairFrobenius", apart := false }
def FnExactPairFrobeniusSaid : Prop := fnExactPairFrobeniusRow.holds Try.pinned (OpenSpec.ofChange fnExactPairFrobeniusSpec)

/-- ITS FALSE NEIGHBOUR: 'it returns false'. Refute it at one input. -/
def fnExactPairFrobeniusWrong : ChangeSpec := { name := "fnExactPairFrobenius", fn := fun _ => fun
  | [d1, d2] => { results := [.lit (.bool false)], args := [d1, d2] }
  | _ => none }
def FnExactPairFrobeniusWrongFalsely : Prop := fnExactPairFrobeniusRow.holds Try.pinned (OpenSpec.ofChange fnExactPairFrobeniusWrong)

/-- 'laws.FnExactPairGenus': WHATEVER THE INPUT: true; the input reads as it did. -/
def fnExactPairGenusSpec : ChangeSpec := { name := "fnExactPairGenus", fn := fun _ => fun
  | [d1, d2] => { results := [.lit (.bool true)], args := [d1, d2] }
  | _ => none }
def fnExactPairGenusRow : OpenClaim := { program := "ytopnehkhigacpaa", sum := "ce2bc4e13fec63aa7d8be71b764316769e19b0e04a11c77363ae20321331e32d", func := "loop.example/g00595/laws.FnExactPairGenus", spec := "fnExactPairGenus", apart := false }
def FnExactPairGenusSaid : Prop := fnExactPairGenusRow.holds Try.pinned (OpenSpec.ofChange fnExactPairGenusSpec)

/-- ITS FALSE NEIGHBOUR: 'it returns false'. Refute it at one input. -/
def fnExactPairGenusWrong : ChangeSpec := { name := "fnExactPairGenus", fn := fun _ => fun
  | [d1, d2] => { results := [.lit (.bool false)], args := [d1, d2] }
  | _ => none }
def FnExactPairGenusWrongFalsely : Prop := fnExactPairGenusRow.holds Try.pinned (OpenSpec.ofChange fnExactPairGenusWrong)

/-- 'laws.FnExactPairWays': WHATEVER THE INPUT: true; the input reads as it did. -/
def fnExactPairWaysSpec : ChangeSpec := { name := "fnExactPairWays", fn := fun _ => fun
  | [d1, d2, d3] => { results := [.lit (.bool true)], args := [d1, d2, d3] }
  | _ => none }
def fnExactPairWaysRow : OpenClaim := { program := "ytopnehkhigacpaa", sum := "ce2bc4e13fec63aa7d8be71b764316769e19b0e04a11c77363ae20321331e32d", func := "loop.example/g00595/laws.FnExactPairWays", spec := "fnExactPairWays", apart := false }
def FnExactPairWaysSaid : Prop := fnExactPairWaysRow.holds Try.pinned (OpenSpec.ofChange fnExactPairWaysSpec)

/-- ITS FALSE NEIGHBOUR: 'it returns false'. Refute it at one input. -/
def fnExactPairWaysWrong : ChangeSpec := { name := "fnExactPairWays", fn := fun _ => fun
  | [d1, d2, d3] => { results := [.lit (.bool false)], args := [d1, d2, d3] }
  | _ => none }
def FnExactPairWaysWrongFalsely : Prop := fnExactPairWaysRow.holds Try.pinned (OpenSpec.ofChange fnExactPairWaysWrong)

/-- 'laws.FnExactRunFrobenius': WHATEVER THE INPUT: true; the input reads as it did. -/
def fnExactRunFrobeniusSpec : ChangeSpec := { name := "fnExactRunFrobenius", fn := fun _ => fun
  | [d1, d2, d3] => { results := [.lit (.bool true)], args := [d1, d2, d3] }
  | _ => none }
def fnExactRunFrobeniusRow : OpenClaim := { program := "ytopnehkhigacpaa", sum := "ce2bc4e13fec63aa7d8be71b764316769e19b0e04a11c77363ae20321331e32d", func := "loop.example/g00595/laws.FnExactRunFrobenius", spec := "fnExactRunFrobenius", apart := false }
def FnExactRunFrobeniusSaid : Prop := fnExactRunFrobeniusRow.holds Try.pinned (OpenSpec.ofChange fnExactRunFrobeniusSpec)

/-- ITS FALSE NEIGHBOUR: 'it returns false'. Refute it at one input. -/
def fnExactRunFrobeniusWrong : ChangeSpec := { name := "fnExactRunFrobenius", fn := fun _ => fun
  | [d1, d2, d3] => { results := [.lit (.bool false)], args := [d1, d2, d3] }
  | _ => none }
def FnExactRunFrobeniusWrongFalsely : Prop := fnExactRunFrobeniusRow.holds Try.pinned (OpenSpec.ofChange fnExactRunFrobeniusWrong)

/-- 'laws.FnExactBlowUp': WHATEVER THE INPUT: true; the input reads as it did. -/
def fnExactBlowUpSpec : ChangeSpec := { name := "fnExactBlowUp", fn := fun _ => fun
  | [d] => { results := [.lit (.bool true)], args := [d] }
  | _ => none }
def fnExactBlowUpRow : OpenClaim := { program := "ytopnehkhigacpaa", sum := "ce2bc4e13fec63aa7d8be71b764316769e19b0e04a11c77363ae20321331e32d", func := "loop.example/g00595/laws.FnExactBlowUp", spec := "fnExactBlowUp", unfollowed := true, recurses := true, apart := false }
def FnExactBlowUpSaid : Prop := fnExactBlowUpRow.holds Try.pinned (OpenSpec.ofChange fnExactBlowUpSpec)

/-- ITS FALSE NEIGHBOUR: 'it returns false'. Refute it at one input. -/
def fnExactBlowUpWrong : ChangeSpec := { name := "fnExactBlowUp", fn := fun _ => fun
  | [d] => { results := [.lit (.bool false)], args := [d] }
  | _ => none }
def FnExactBlowUpWrongFalsely : Prop := fnExactBlowUpRow.holds Try.pinned (OpenSpec.ofChange fnExactBlowUpWrong)

/-- 'laws.FnExactMultiplicitySequence': WHATEVER THE INPUT: true; the input reads as it did. -/
def fnExactMultiplicitySequenceSpec : ChangeSpec := { name := "fnExactMultiplicitySequence", fn := fun _ => fun
  | [d] => { results := [.lit (.bool true)], args := [d] }
  | _ => none }
def fnExactMultiplicitySequenceRow : OpenClaim := { program := "ytopnehkhigacpaa", sum := "ce2bc4e13fec63aa7d8be71b764316769e19b0e04a11c77363ae20321331e32d", func := "loop.example/g00595/laws.FnExactMultiplicitySequence", spec := "fnExactMultiplicitySequence", unfollowed := true, recurses := true, apart := false }
def FnExactMultiplicitySequenceSaid : Prop := fnExactMultiplicitySequenceRow.holds Try.pinned (OpenSpec.ofChange fnExactMultiplicitySequenceSpec)

/-- ITS FALSE NEIGHBOUR: 'it returns false'. Refute it at one input. -/
def fnExactMultiplicitySequenceWrong : ChangeSpec := { name := "fnExactMultiplicitySequence", fn := fun _ => fun
  | [d] => { results := [.lit (.bool false)], args := [d] }
  | _ => none }
def FnExactMultiplicitySequenceWrongFalsely : Prop := fnExactMultiplicitySequenceRow.holds Try.pinned (OpenSpec.ofChange fnExactMultiplicitySequenceWrong)

/- THE SECOND FORM. 'bulk': how many values and letters a reading holds, each counted each time it is reached (what is shared counts as often as it is met; a slice's spare places count too). A statement '..UptoSaid' is the law's where the arguments, and the package variables that the reading takes, are together of bulk at most 1048576: NARROWER than '..Said'. Prove '..Said' where nothing that the law and all that it calls make is longer than what came in: it says more and counts as full. Else prove '..UptoSaid'. A law counts once. -/
mutual
def uptoBulk {H : Type} : DataW H → Nat
  | .lit (.string bytes) => bytes.length + 1
  | .lit _ => 1
  | .nil => 1
  | .ptr d => uptoBulk d + 1
  | .slice elems spare => uptoBulkAll elems + uptoBulkAll spare + 1
  | .agg parts => uptoBulkAll parts + 1
  | .iface _ d => uptoBulk d + 1
  | .map entries => uptoBulkEntries entries + 1
  | .held _ => 1
def uptoBulkAll {H : Type} : List (DataW H) → Nat
  | [] => 0
  | d :: r => uptoBulk d + uptoBulkAll r
def uptoBulkEntries {H : Type} : List (Lit × DataW H) → Nat
  | [] => 0
  | x :: r => uptoBulkEntry x + uptoBulkEntries r
def uptoBulkEntry {H : Type} : Lit × DataW H → Nat
  | (.string bytes, d) => bytes.length + uptoBulk d + 1
  | (_, d) => uptoBulk d + 1
 end
def uptoSmall : (H : Type) → List (DataW H) → Bool := fun _ ds => decide (uptoBulkAll ds ≤ 1048576)
def OpenSpec.upto (s : _root_.Go.ChangeSpec) : _root_.Go.OpenSpec := { _root_.Go.OpenSpec.ofChange s with cond := some uptoSmall }

/-- 'laws.FnExactAddGap', WHERE WHAT IT READS IS OF BULK AT MOST 1048576: true; the input reads as it did. -/
def fnExactAddGapUptoRow : OpenClaim := { program := "ytopnehkhigacpaa", sum := "ce2bc4e13fec63aa7d8be71b764316769e19b0e04a11c77363ae20321331e32d", func := "loop.example/g00595/laws.FnExactAddGap", spec := "fnExactAddGap", unfollowed := true, recurses := true, apart := false, narrowed := true }
def FnExactAddGapUptoSaid : Prop := fnExactAddGapUptoRow.holds Try.pinned (OpenSpec.upto fnExactAddGapSpec)

/-- 'laws.FnExactRemoveGenerator', WHERE WHAT IT READS IS OF BULK AT MOST 1048576: true; the input reads as it did. -/
def fnExactRemoveGeneratorUptoRow : OpenClaim := { program := "ytopnehkhigacpaa", sum := "ce2bc4e13fec63aa7d8be71b764316769e19b0e04a11c77363ae20321331e32d", func := "loop.example/g00595/laws.FnExactRemoveGenerator", spec := "fnExactRemoveGenerator", unfollowed := true, recurses := true, apart := false, narrowed := true }
def FnExactRemoveGeneratorUptoSaid : Prop := fnExactRemoveGeneratorUptoRow.holds Try.pinned (OpenSpec.upto fnExactRemoveGeneratorSpec)

/-- 'laws.FnExactParentOf', WHERE WHAT IT READS IS OF BULK AT MOST 1048576: true; the input reads as it did. -/
def fnExactParentOfUptoRow : OpenClaim := { program := "ytopnehkhigacpaa", sum := "ce2bc4e13fec63aa7d8be71b764316769e19b0e04a11c77363ae20321331e32d", func := "loop.example/g00595/laws.FnExactParentOf", spec := "fnExactParentOf", unfollowed := true, recurses := true, apart := false, narrowed := true }
def FnExactParentOfUptoSaid : Prop := fnExactParentOfUptoRow.holds Try.pinned (OpenSpec.upto fnExactParentOfSpec)

/-- 'laws.FnExactIsTelescopic', WHERE WHAT IT READS IS OF BULK AT MOST 1048576: true; the input reads as it did. -/
def fnExactIsTelescopicUptoRow : OpenClaim := { program := "ytopnehkhigacpaa", sum := "ce2bc4e13fec63aa7d8be71b764316769e19b0e04a11c77363ae20321331e32d", func := "loop.example/g00595/laws.FnExactIsTelescopic", spec := "fnExactIsTelescopic", apart := false, narrowed := true }
def FnExactIsTelescopicUptoSaid : Prop := fnExactIsTelescopicUptoRow.holds Try.pinned (OpenSpec.upto fnExactIsTelescopicSpec)

/-- 'laws.FnExactTelescopicFrobenius', WHERE WHAT IT READS IS OF BULK AT MOST 1048576: true; the input reads as it did. -/
def fnExactTelescopicFrobeniusUptoRow : OpenClaim := { program := "ytopnehkhigacpaa", sum := "ce2bc4e13fec63aa7d8be71b764316769e19b0e04a11c77363ae20321331e32d", func := "loop.example/g00595/laws.FnExactTelescopicFrobenius", spec := "fnExactTelescopicFrobenius", apart := false, narrowed := true }
def FnExactTelescopicFrobeniusUptoSaid : Prop := fnExactTelescopicFrobeniusUptoRow.holds Try.pinned (OpenSpec.upto fnExactTelescopicFrobeniusSpec)

/-- 'laws.FnExactPairFrobenius', WHERE WHAT IT READS IS OF BULK AT MOST 1048576: true; the input reads as it did. -/
def fnExactPairFrobeniusUptoRow : OpenClaim := { program := "ytopnehkhigacpaa", sum := "ce2bc4e13fec63aa7d8be71b764316769e19b0e04a11c77363ae20321331e32d", func := "loop.example/g00595/laws.FnExactPairFrobenius", spec := "fnExactPairFrobenius", apart := false, narrowed := true }
def FnExactPairFrobeniusUptoSaid : Prop := fnExactPairFrobeniusUptoRow.holds Try.pinned (OpenSpec.upto fnExactPairFrobeniusSpec)

/-- 'laws.FnExactPairGenus', WHERE WHAT IT READS IS OF BULK AT MOST 1048576: true; the input reads as it did. -/
def fnExactPairGenusUptoRow : OpenClaim := { program := "ytopnehkhigacpaa", sum := "ce2bc4e13fec63aa7d8be71b764316769e19b0e04a11c77363ae20321331e32d", func := "loop.example/g00595/laws.FnExactPairGenus", spec := "fnExactPairGenus", apart := false, narrowed := true }
def FnExactPairGenusUptoSaid : Prop := fnExactPairGenusUptoRow.holds Try.pinned (OpenSpec.upto fnExactPairGenusSpec)

/-- 'laws.FnExactPairWays', WHERE WHAT IT READS IS OF BULK AT MOST 1048576: true; the input reads as it did. -/
def fnExactPairWaysUptoRow : OpenClaim := { program := "ytopnehkhigacpaa", sum := "ce2bc4e13fec63aa7d8be71b764316769e19b0e04a11c77363ae20321331e32d", func := "loop.example/g00595/laws.FnExactPairWays", spec := "fnExactPairWays", apart := false, narrowed := true }
def FnExactPairWaysUptoSaid : Prop := fnExactPairWaysUptoRow.holds Try.pinned (OpenSpec.upto fnExactPairWaysSpec)

/-- 'laws.FnExactRunFrobenius', WHERE WHAT IT READS IS OF BULK AT MOST 1048576: true; the input reads as it did. -/
def fnExactRunFrobeniusUptoRow : OpenClaim := { program := "ytopnehkhigacpaa", sum := "ce2bc4e13fec63aa7d8be71b764316769e19b0e04a11c77363ae20321331e32d", func := "loop.example/g00595/laws.FnExactRunFrobenius", spec := "fnExactRunFrobenius", apart := false, narrowed := true }
def FnExactRunFrobeniusUptoSaid : Prop := fnExactRunFrobeniusUptoRow.holds Try.pinned (OpenSpec.upto fnExactRunFrobeniusSpec)

/-- 'laws.FnExactBlowUp', WHERE WHAT IT READS IS OF BULK AT MOST 1048576: true; the input reads as it did. -/
def fnExactBlowUpUptoRow : OpenClaim := { program := "ytopnehkhigacpaa", sum := "ce2bc4e13fec63aa7d8be71b764316769e19b0e04a11c77363ae20321331e32d", func := "loop.example/g00595/laws.FnExactBlowUp", spec := "fnExactBlowUp", unfollowed := true, recurses := true, apart := false, narrowed := true }
def FnExactBlowUpUptoSaid : Prop := fnExactBlowUpUptoRow.holds Try.pinned (OpenSpec.upto fnExactBlowUpSpec)

/-- 'laws.FnExactMultiplicitySequence', WHERE WHAT IT READS IS OF BULK AT MOST 1048576: true; the input reads as it did. -/
def fnExactMultiplicitySequenceUptoRow : OpenClaim := { program := "ytopnehkhigacpaa", sum := "ce2bc4e13fec63aa7d8be71b764316769e19b0e04a11c77363ae20321331e32d", func := "loop.example/g00595/laws.FnExactMultiplicitySequence", spec := "fnExactMultiplicitySequence", unfollowed := true, recurses := true, apart := false, narrowed := true }
def FnExactMultiplicitySequenceUptoSaid : Prop := fnExactMultiplicitySequenceUptoRow.holds Try.pinned (OpenSpec.upto fnExactMultiplicitySequenceSpec)

end Rows
end Go.Proofs.Ytopnehkhigacpaa
