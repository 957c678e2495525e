/-
  No cell of these rows narrows 'for every input' (looked for: loops, veiled, ifaces, maps, wideKeys, modest, calm, conditions, laid).
  DERIVED. THE GIVEN ROWS OF THIS SEAT. 6 by the template 'for every input the law returns true; each argument reads behind the call as it read before'; 0 by the template 'total and deterministic' (their statements: YthalbmlgkkgheaaTotals.lean).
  GIVEN WITH THE SEED: the statements are not yours to turn. If you find one false, say at which input.
  Laid BY PROGRAM, IN A SANDBOX (cutbox-rows.mjs): the forced cells as the released guide's own fill.sh prints them over the translation a0fff3d44774641a… (all of the seat's roots in one cut). By AI agents, Wed Nov 11 2026. No macro, syntax, notation, axiom, sorry.
-/
import Derived.Test.YthalbmlgkkgheaaChecked
import GoSem.Claim
import GoSem.ClaimJoined
import GoSem.ClaimMapViews
import Derived.JoinedTies
import Derived.KernelRfl
namespace Go.Proofs.Ythalbmlgkkgheaa
/- THE CELL 'sum', in the pinned program and in every row, IS THE sha256 OF THE DUMP (.gsa) THAT YthalbmlgkkgheaaProg.lean LOADS. Nothing in Lean hashes anything: it is a label: what it is worth is what the hold of that sum in a sandbox is worth. -/
noncomputable def Try.pinned : Pinned := { name := "ythalbmlgkkgheaa", sum := "a0fff3d44774641a482990104e2b38aff46a583cb0c52415aa18291a33ff3149", checked := Try.checked }
namespace Rows
def none {H : Type} : Left H := { results := [], args := [] }

/-- 'laws.FnLengths': WHATEVER THE INPUT: true; the input reads as it did. -/
def fnLengthsSpec : ChangeSpec := { name := "fnLengths", fn := fun _ => fun
  | [d] => { results := [.lit (.bool true)], args := [d] }
  | _ => none }
def fnLengthsRow : OpenClaim := { program := "ythalbmlgkkgheaa", sum := "a0fff3d44774641a482990104e2b38aff46a583cb0c52415aa18291a33ff3149", func := "loop.example/g00595/laws.FnLengths", spec := "fnLengths", unfollowed := true, recurses := true, apart := false }
def FnLengthsSaid : Prop := fnLengthsRow.holds Try.pinned (OpenSpec.ofChange fnLengthsSpec)

/-- ITS FALSE NEIGHBOUR: 'it returns false'. Refute it at one input. -/
def fnLengthsWrong : ChangeSpec := { name := "fnLengths", fn := fun _ => fun
  | [d] => { results := [.lit (.bool false)], args := [d] }
  | _ => none }
def FnLengthsWrongFalsely : Prop := fnLengthsRow.holds Try.pinned (OpenSpec.ofChange fnLengthsWrong)

/-- 'laws.FnExactFactorizations': WHATEVER THE INPUT: true; the input reads as it did. -/
def fnExactFactorizationsSpec : ChangeSpec := { name := "fnExactFactorizations", fn := fun _ => fun
  | [d1, d2] => { results := [.lit (.bool true)], args := [d1, d2] }
  | _ => none }
def fnExactFactorizationsRow : OpenClaim := { program := "ythalbmlgkkgheaa", sum := "a0fff3d44774641a482990104e2b38aff46a583cb0c52415aa18291a33ff3149", func := "loop.example/g00595/laws.FnExactFactorizations", spec := "fnExactFactorizations", recurses := true, apart := false }
def FnExactFactorizationsSaid : Prop := fnExactFactorizationsRow.holds Try.pinned (OpenSpec.ofChange fnExactFactorizationsSpec)

/-- ITS FALSE NEIGHBOUR: 'it returns false'. Refute it at one input. -/
def fnExactFactorizationsWrong : ChangeSpec := { name := "fnExactFactorizations", fn := fun _ => fun
  | [d1, d2] => { results := [.lit (.bool false)], args := [d1, d2] }
  | _ => none }
def FnExactFactorizationsWrongFalsely : Prop := fnExactFactorizationsRow.holds Try.pinned (OpenSpec.ofChange fnExactFactorizationsWrong)

/-- 'laws.FnExactLengthsOf': WHATEVER THE INPUT: true; the input reads as it did. -/
def fnExactLengthsOfSpec : ChangeSpec := { name := "fnExactLengthsOf", fn := fun _ => fun
  | [d1, d2] => { results := [.lit (.bool true)], args := [d1, d2] }
  | _ => none }
def fnExactLengthsOfRow : OpenClaim := { program := "ythalbmlgkkgheaa", sum := "a0fff3d44774641a482990104e2b38aff46a583cb0c52415aa18291a33ff3149", func := "loop.example/g00595/laws.FnExactLengthsOf", spec := "fnExactLengthsOf", unfollowed := true, recurses := true, apart := false }
def FnExactLengthsOfSaid : Prop := fnExactLengthsOfRow.holds Try.pinned (OpenSpec.ofChange fnExactLengthsOfSpec)

/-- ITS FALSE NEIGHBOUR: 'it returns false'. Refute it at one input. -/
def fnExactLengthsOfWrong : ChangeSpec := { name := "fnExactLengthsOf", fn := fun _ => fun
  | [d1, d2] => { results := [.lit (.bool false)], args := [d1, d2] }
  | _ => none }
def FnExactLengthsOfWrongFalsely : Prop := fnExactLengthsOfRow.holds Try.pinned (OpenSpec.ofChange fnExactLengthsOfWrong)

/-- 'laws.FnExactDeltaOf': WHATEVER THE INPUT: true; the input reads as it did. -/
def fnExactDeltaOfSpec : ChangeSpec := { name := "fnExactDeltaOf", fn := fun _ => fun
  | [d1, d2] => { results := [.lit (.bool true)], args := [d1, d2] }
  | _ => none }
def fnExactDeltaOfRow : OpenClaim := { program := "ythalbmlgkkgheaa", sum := "a0fff3d44774641a482990104e2b38aff46a583cb0c52415aa18291a33ff3149", func := "loop.example/g00595/laws.FnExactDeltaOf", spec := "fnExactDeltaOf", unfollowed := true, recurses := true, apart := false }
def FnExactDeltaOfSaid : Prop := fnExactDeltaOfRow.holds Try.pinned (OpenSpec.ofChange fnExactDeltaOfSpec)

/-- ITS FALSE NEIGHBOUR: 'it returns false'. Refute it at one input. -/
def fnExactDeltaOfWrong : ChangeSpec := { name := "fnExactDeltaOf", fn := fun _ => fun
  | [d1, d2] => { results := [.lit (.bool false)], args := [d1, d2] }
  | _ => none }
def FnExactDeltaOfWrongFalsely : Prop := fnExactDeltaOfRow.holds Try.pinned (OpenSpec.ofChange fnExactDeltaOfWrong)

/-- 'laws.FnExactElasticityOf': WHATEVER THE INPUT: true; the input reads as it did. -/
def fnExactElasticityOfSpec : ChangeSpec := { name := "fnExactElasticityOf", fn := fun _ => fun
  | [d1, d2] => { results := [.lit (.bool true)], args := [d1, d2] }
  | _ => none }
def fnExactElasticityOfRow : OpenClaim := { program := "ythalbmlgkkgheaa", sum := "a0fff3d44774641a482990104e2b38aff46a583cb0c52415aa18291a33ff3149", func := "loop.example/g00595/laws.FnExactElasticityOf", spec := "fnExactElasticityOf", unfollowed := true, recurses := true, apart := false }
def FnExactElasticityOfSaid : Prop := fnExactElasticityOfRow.holds Try.pinned (OpenSpec.ofChange fnExactElasticityOfSpec)

/-- ITS FALSE NEIGHBOUR: 'it returns false'. Refute it at one input. -/
def fnExactElasticityOfWrong : ChangeSpec := { name := "fnExactElasticityOf", fn := fun _ => fun
  | [d1, d2] => { results := [.lit (.bool false)], args := [d1, d2] }
  | _ => none }
def FnExactElasticityOfWrongFalsely : Prop := fnExactElasticityOfRow.holds Try.pinned (OpenSpec.ofChange fnExactElasticityOfWrong)

/-- 'laws.FnExactDeltaSet': WHATEVER THE INPUT: true; the input reads as it did. -/
def fnExactDeltaSetSpec : ChangeSpec := { name := "fnExactDeltaSet", fn := fun _ => fun
  | [d1, d2] => { results := [.lit (.bool true)], args := [d1, d2] }
  | _ => none }
def fnExactDeltaSetRow : OpenClaim := { program := "ythalbmlgkkgheaa", sum := "a0fff3d44774641a482990104e2b38aff46a583cb0c52415aa18291a33ff3149", func := "loop.example/g00595/laws.FnExactDeltaSet", spec := "fnExactDeltaSet", unfollowed := true, recurses := true, apart := false }
def FnExactDeltaSetSaid : Prop := fnExactDeltaSetRow.holds Try.pinned (OpenSpec.ofChange fnExactDeltaSetSpec)

/-- ITS FALSE NEIGHBOUR: 'it returns false'. Refute it at one input. -/
def fnExactDeltaSetWrong : ChangeSpec := { name := "fnExactDeltaSet", fn := fun _ => fun
  | [d1, d2] => { results := [.lit (.bool false)], args := [d1, d2] }
  | _ => none }
def FnExactDeltaSetWrongFalsely : Prop := fnExactDeltaSetRow.holds Try.pinned (OpenSpec.ofChange fnExactDeltaSetWrong)

/- THE SECOND FORM. 'bulk': how many values and letters a reading holds, each counted each time it is reached (what is shared counts as often as it is met; a slice's spare places count too). A statement '..UptoSaid' is the law's where the arguments, and the package variables that the reading takes, are together of bulk at most 1048576: NARROWER than '..Said'. Prove '..Said' where nothing that the law and all that it calls make is longer than what came in: it says more and counts as full. Else prove '..UptoSaid'. A law counts once. -/
mutual
def uptoBulk {H : Type} : DataW H → Nat
  | .lit (.string bytes) => bytes.length + 1
  | .lit _ => 1
  | .nil => 1
  | .ptr d => uptoBulk d + 1
  | .slice elems spare => uptoBulkAll elems + uptoBulkAll spare + 1
  | .agg parts => uptoBulkAll parts + 1
  | .iface _ d => uptoBulk d + 1
  | .map entries => uptoBulkEntries entries + 1
  | .held _ => 1
def uptoBulkAll {H : Type} : List (DataW H) → Nat
  | [] => 0
  | d :: r => uptoBulk d + uptoBulkAll r
def uptoBulkEntries {H : Type} : List (Lit × DataW H) → Nat
  | [] => 0
  | x :: r => uptoBulkEntry x + uptoBulkEntries r
def uptoBulkEntry {H : Type} : Lit × DataW H → Nat
  | (.string bytes, d) => bytes.length + uptoBulk d + 1
  | (_, d) => uptoBulk d + 1
 end
def uptoSmall : (H : Type) → List (DataW H) → Bool := fun _ ds => decide (uptoBulkAll ds ≤ 1048576)
def OpenSpec.upto (s : _root_.Go.ChangeSpec) : _root_.Go.OpenSpec := { _root_.Go.OpenSpec.ofChange s with cond := some uptoSmall }

/-- 'laws.FnLengths', WHERE WHAT IT READS IS OF BULK AT MOST 1048576: true; the input reads as it did. -/
def fnLengthsUptoRow : OpenClaim := { program := "ythalbmlgkkgheaa", sum := "a0fff3d44774641a482990104e2b38aff46a583cb0c52415aa18291a33ff3149", func := "loop.example/g00595/laws.FnLengths", spec := "fnLengths", unfollowed := true, recurses := true, apart := false, narrowed := true }
def FnLengthsUptoSaid : Prop := fnLengthsUptoRow.holds Try.pinned (OpenSpec.upto fnLengthsSpec)

/-- 'laws.FnExactFactorizations', WHERE WHAT IT READS IS OF BULK AT MOST 1048576: true; the input reads as it did. -/
def fnExactFactorizationsUptoRow : OpenClaim := { program := "ythalbmlgkkgheaa", sum := "a0fff3d44774641a482990104e2b38aff46a583cb0c52415aa18291a33ff3149", func := "loop.example/g00595/laws.FnExactFactorizations", spec := "fnExactFactorizations", recurses := true, apart := false, narrowed := true }
def FnExactFactorizationsUptoSaid : Prop := fnExactFactorizationsUptoRow.holds Try.pinned (OpenSpec.upto fnExactFactorizationsSpec)

/-- 'laws.FnExactLengthsOf', WHERE WHAT IT READS IS OF BULK AT MOST 1048576: true; the input reads as it did. -/
def fnExactLengthsOfUptoRow : OpenClaim := { program := "ythalbmlgkkgheaa", sum := "a0fff3d44774641a482990104e2b38aff46a583cb0c52415aa18291a33ff3149", func := "loop.example/g00595/laws.FnExactLengthsOf", spec := "fnExactLengthsOf", unfollowed := true, recurses := true, apart := false, narrowed := true }
def FnExactLengthsOfUptoSaid : Prop := fnExactLengthsOfUptoRow.holds Try.pinned (OpenSpec.upto fnExactLengthsOfSpec)

/-- 'laws.FnExactDeltaOf', WHERE WHAT IT READS IS OF BULK AT MOST 1048576: true; the input reads as it did. -/
def fnExactDeltaOfUptoRow : OpenClaim := { program := "ythalbmlgkkgheaa", sum := "a0fff3d44774641a482990104e2b38aff46a583cb0c52415aa18291a33ff3149", func := "loop.example/g00595/laws.FnExactDeltaOf", spec := "fnExactDeltaOf", unfollowed := true, recurses := true, apart := false, narrowed := true }
def FnExactDeltaOfUptoSaid : Prop := fnExactDeltaOfUptoRow.holds Try.pinned (OpenSpec.upto fnExactDeltaOfSpec)

/-- 'laws.FnExactElasticityOf', WHERE WHAT IT READS IS OF BULK AT MOST 1048576: true; the input reads as it did. -/
def fnExactElasticityOfUptoRow : OpenClaim := { program := "ythalbmlgkkgheaa", sum := "a0fff3d44774641a482990104e2b38aff46a583cb0c52415aa18291a33ff3149", func := "loop.example/g00595/laws.FnExactElasticityOf", spec := "fnExactElasticityOf", unfollowed := true, recurses := true, apart := false, narrowed := true }
def FnExactElasticityOfUptoSaid : Prop := fnExactElasticityOfUptoRow.holds Try.pinned (OpenSpec.upto fnExactElasticityOfSpec)

/-- 'laws.FnExactDeltaSet', WHERE WHAT IT READS IS OF BULK AT MOST 1048576: true; the input reads as it did. -/
def fnExactDeltaSetUptoRow : OpenClaim := { program := "ythalbmlgkkgheaa", sum := "a0fff3d44774641a482990104e2b38aff46a583cb0c52415aa18291a33ff3149", func := "loop.example/g00595/laws.FnExactDeltaSet", spec := "fnExactDeltaSet", unfollowed := true, recurses := true, apart := false, narrowed := true }
def FnExactDeltaSetUptoSaid : Prop := fnExactDeltaSetUptoRow.holds Try.pinned (OpenSpec.upto fnExactDeltaSetSpec)

end Rows
end Go.Proofs.Ythalbmlgkkgheaa
