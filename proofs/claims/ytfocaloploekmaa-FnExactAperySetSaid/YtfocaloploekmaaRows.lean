/-
  No cell of these rows narrows 'for every input' (looked for: loops, veiled, ifaces, maps, wideKeys, modest, calm, conditions, laid).
  DERIVED. THE GIVEN ROWS OF THIS SEAT. 5 by the template 'for every input the law returns true; each argument reads behind the call as it read before'; 0 by the template 'total and deterministic' (their statements: YtfocaloploekmaaTotals.lean).
  GIVEN WITH THE SEED: the statements are not yours to turn. If you find one false, say at which input.
  Laid BY PROGRAM, IN A SANDBOX (cutbox-rows.mjs): the forced cells as the released guide's own fill.sh prints them over the translation 8f340abeb44172d1… (all of the seat's roots in one cut). By AI agents, Wed Nov 11 2026. No macro, syntax, notation, axiom, sorry.
-/
import Derived.Test.YtfocaloploekmaaChecked
import GoSem.Claim
import GoSem.ClaimJoined
import GoSem.ClaimMapViews
import Derived.JoinedTies
import Derived.KernelRfl
namespace Go.Proofs.Ytfocaloploekmaa
/- THE CELL 'sum', in the pinned program and in every row, IS THE sha256 OF THE DUMP (.gsa) THAT YtfocaloploekmaaProg.lean LOADS. Nothing in Lean hashes anything: it is a label: what it is worth is what the hold of that sum in a sandbox is worth. -/
noncomputable def Try.pinned : Pinned := { name := "ytfocaloploekmaa", sum := "8f340abeb44172d1eb5e45f414e866fa1e860e4df5bcfc211d256c63a911e7ce", checked := Try.checked }
namespace Rows
def none {H : Type} : Left H := { results := [], args := [] }

/-- 'laws.FnApery': WHATEVER THE INPUT: true; the input reads as it did. -/
def fnAperySpec : ChangeSpec := { name := "fnApery", fn := fun _ => fun
  | [d] => { results := [.lit (.bool true)], args := [d] }
  | _ => none }
def fnAperyRow : OpenClaim := { program := "ytfocaloploekmaa", sum := "8f340abeb44172d1eb5e45f414e866fa1e860e4df5bcfc211d256c63a911e7ce", func := "loop.example/g00595/laws.FnApery", spec := "fnApery", unfollowed := true, recurses := true, apart := false }
def FnAperySaid : Prop := fnAperyRow.holds Try.pinned (OpenSpec.ofChange fnAperySpec)

/-- ITS FALSE NEIGHBOUR: 'it returns false'. Refute it at one input. -/
def fnAperyWrong : ChangeSpec := { name := "fnApery", fn := fun _ => fun
  | [d] => { results := [.lit (.bool false)], args := [d] }
  | _ => none }
def FnAperyWrongFalsely : Prop := fnAperyRow.holds Try.pinned (OpenSpec.ofChange fnAperyWrong)

/-- 'laws.FnExactAperySet': WHATEVER THE INPUT: true; the input reads as it did. -/
def fnExactAperySetSpec : ChangeSpec := { name := "fnExactAperySet", fn := fun _ => fun
  | [d1, d2] => { results := [.lit (.bool true)], args := [d1, d2] }
  | _ => none }
def fnExactAperySetRow : OpenClaim := { program := "ytfocaloploekmaa", sum := "8f340abeb44172d1eb5e45f414e866fa1e860e4df5bcfc211d256c63a911e7ce", func := "loop.example/g00595/laws.FnExactAperySet", spec := "fnExactAperySet", apart := false }
def FnExactAperySetSaid : Prop := fnExactAperySetRow.holds Try.pinned (OpenSpec.ofChange fnExactAperySetSpec)

/-- ITS FALSE NEIGHBOUR: 'it returns false'. Refute it at one input. -/
def fnExactAperySetWrong : ChangeSpec := { name := "fnExactAperySet", fn := fun _ => fun
  | [d1, d2] => { results := [.lit (.bool false)], args := [d1, d2] }
  | _ => none }
def FnExactAperySetWrongFalsely : Prop := fnExactAperySetRow.holds Try.pinned (OpenSpec.ofChange fnExactAperySetWrong)

/-- 'laws.FnExactFromApery': WHATEVER THE INPUT: true; the input reads as it did. -/
def fnExactFromAperySpec : ChangeSpec := { name := "fnExactFromApery", fn := fun _ => fun
  | [d] => { results := [.lit (.bool true)], args := [d] }
  | _ => none }
def fnExactFromAperyRow : OpenClaim := { program := "ytfocaloploekmaa", sum := "8f340abeb44172d1eb5e45f414e866fa1e860e4df5bcfc211d256c63a911e7ce", func := "loop.example/g00595/laws.FnExactFromApery", spec := "fnExactFromApery", unfollowed := true, recurses := true, apart := false }
def FnExactFromAperySaid : Prop := fnExactFromAperyRow.holds Try.pinned (OpenSpec.ofChange fnExactFromAperySpec)

/-- ITS FALSE NEIGHBOUR: 'it returns false'. Refute it at one input. -/
def fnExactFromAperyWrong : ChangeSpec := { name := "fnExactFromApery", fn := fun _ => fun
  | [d] => { results := [.lit (.bool false)], args := [d] }
  | _ => none }
def FnExactFromAperyWrongFalsely : Prop := fnExactFromAperyRow.holds Try.pinned (OpenSpec.ofChange fnExactFromAperyWrong)

/-- 'laws.FnExactFrobeniusByApery': WHATEVER THE INPUT: true; the input reads as it did. -/
def fnExactFrobeniusByAperySpec : ChangeSpec := { name := "fnExactFrobeniusByApery", fn := fun _ => fun
  | [d1, d2] => { results := [.lit (.bool true)], args := [d1, d2] }
  | _ => none }
def fnExactFrobeniusByAperyRow : OpenClaim := { program := "ytfocaloploekmaa", sum := "8f340abeb44172d1eb5e45f414e866fa1e860e4df5bcfc211d256c63a911e7ce", func := "loop.example/g00595/laws.FnExactFrobeniusByApery", spec := "fnExactFrobeniusByApery", apart := false }
def FnExactFrobeniusByAperySaid : Prop := fnExactFrobeniusByAperyRow.holds Try.pinned (OpenSpec.ofChange fnExactFrobeniusByAperySpec)

/-- ITS FALSE NEIGHBOUR: 'it returns false'. Refute it at one input. -/
def fnExactFrobeniusByAperyWrong : ChangeSpec := { name := "fnExactFrobeniusByApery", fn := fun _ => fun
  | [d1, d2] => { results := [.lit (.bool false)], args := [d1, d2] }
  | _ => none }
def FnExactFrobeniusByAperyWrongFalsely : Prop := fnExactFrobeniusByAperyRow.holds Try.pinned (OpenSpec.ofChange fnExactFrobeniusByAperyWrong)

/-- 'laws.FnExactGenusByApery': WHATEVER THE INPUT: true; the input reads as it did. -/
def fnExactGenusByAperySpec : ChangeSpec := { name := "fnExactGenusByApery", fn := fun _ => fun
  | [d1, d2] => { results := [.lit (.bool true)], args := [d1, d2] }
  | _ => none }
def fnExactGenusByAperyRow : OpenClaim := { program := "ytfocaloploekmaa", sum := "8f340abeb44172d1eb5e45f414e866fa1e860e4df5bcfc211d256c63a911e7ce", func := "loop.example/g00595/laws.FnExactGenusByApery", spec := "fnExactGenusByApery", apart := false }
def FnExactGenusByAperySaid : Prop := fnExactGenusByAperyRow.holds Try.pinned (OpenSpec.ofChange fnExactGenusByAperySpec)

/-- ITS FALSE NEIGHBOUR: 'it returns false'. Refute it at one input. -/
def fnExactGenusByAperyWrong : ChangeSpec := { name := "fnExactGenusByApery", fn := fun _ => fun
  | [d1, d2] => { results := [.lit (.bool false)], args := [d1, d2] }
  | _ => none }
def FnExactGenusByAperyWrongFalsely : Prop := fnExactGenusByAperyRow.holds Try.pinned (OpenSpec.ofChange fnExactGenusByAperyWrong)

/- THE SECOND FORM. 'bulk': how many values and letters a reading holds, each counted each time it is reached (what is shared counts as often as it is met; a slice's spare places count too). A statement '..UptoSaid' is the law's where the arguments, and the package variables that the reading takes, are together of bulk at most 1048576: NARROWER than '..Said'. Prove '..Said' where nothing that the law and all that it calls make is longer than what came in: it says more and counts as full. Else prove '..UptoSaid'. A law counts once. -/
mutual
def uptoBulk {H : Type} : DataW H → Nat
  | .lit (.string bytes) => bytes.length + 1
  | .lit _ => 1
  | .nil => 1
  | .ptr d => uptoBulk d + 1
  | .slice elems spare => uptoBulkAll elems + uptoBulkAll spare + 1
  | .agg parts => uptoBulkAll parts + 1
  | .iface _ d => uptoBulk d + 1
  | .map entries => uptoBulkEntries entries + 1
  | .held _ => 1
def uptoBulkAll {H : Type} : List (DataW H) → Nat
  | [] => 0
  | d :: r => uptoBulk d + uptoBulkAll r
def uptoBulkEntries {H : Type} : List (Lit × DataW H) → Nat
  | [] => 0
  | x :: r => uptoBulkEntry x + uptoBulkEntries r
def uptoBulkEntry {H : Type} : Lit × DataW H → Nat
  | (.string bytes, d) => bytes.length + uptoBulk d + 1
  | (_, d) => uptoBulk d + 1
 end
def uptoSmall : (H : Type) → List (DataW H) → Bool := fun _ ds => decide (uptoBulkAll ds ≤ 1048576)
def OpenSpec.upto (s : _root_.Go.ChangeSpec) : _root_.Go.OpenSpec := { _root_.Go.OpenSpec.ofChange s with cond := some uptoSmall }

/-- 'laws.FnApery', WHERE WHAT IT READS IS OF BULK AT MOST 1048576: true; the input reads as it did. -/
def fnAperyUptoRow : OpenClaim := { program := "ytfocaloploekmaa", sum := "8f340abeb44172d1eb5e45f414e866fa1e860e4df5bcfc211d256c63a911e7ce", func := "loop.example/g00595/laws.FnApery", spec := "fnApery", unfollowed := true, recurses := true, apart := false, narrowed := true }
def FnAperyUptoSaid : Prop := fnAperyUptoRow.holds Try.pinned (OpenSpec.upto fnAperySpec)

/-- 'laws.FnExactAperySet', WHERE WHAT IT READS IS OF BULK AT MOST 1048576: true; the input reads as it did. -/
def fnExactAperySetUptoRow : OpenClaim := { program := "ytfocaloploekmaa", sum := "8f340abeb44172d1eb5e45f414e866fa1e860e4df5bcfc211d256c63a911e7ce", func := "loop.example/g00595/laws.FnExactAperySet", spec := "fnExactAperySet", apart := false, narrowed := true }
def FnExactAperySetUptoSaid : Prop := fnExactAperySetUptoRow.holds Try.pinned (OpenSpec.upto fnExactAperySetSpec)

/-- 'laws.FnExactFromApery', WHERE WHAT IT READS IS OF BULK AT MOST 1048576: true; the input reads as it did. -/
def fnExactFromAperyUptoRow : OpenClaim := { program := "ytfocaloploekmaa", sum := "8f340abeb44172d1eb5e45f414e866fa1e860e4df5bcfc211d256c63a911e7ce", func := "loop.example/g00595/laws.FnExactFromApery", spec := "fnExactFromApery", unfollowed := true, recurses := true, apart := false, narrowed := true }
def FnExactFromAperyUptoSaid : Prop := fnExactFromAperyUptoRow.holds Try.pinned (OpenSpec.upto fnExactFromAperySpec)

/-- 'laws.FnExactFrobeniusByApery', WHERE WHAT IT READS IS OF BULK AT MOST 1048576: true; the input reads as it did. -/
def fnExactFrobeniusByAperyUptoRow : OpenClaim := { program := "ytfocaloploekmaa", sum := "8f340abeb44172d1eb5e45f414e866fa1e860e4df5bcfc211d256c63a911e7ce", func := "loop.example/g00595/laws.FnExactFrobeniusByApery", spec := "fnExactFrobeniusByApery", apart := false, narrowed := true }
def FnExactFrobeniusByAperyUptoSaid : Prop := fnExactFrobeniusByAperyUptoRow.holds Try.pinned (OpenSpec.upto fnExactFrobeniusByAperySpec)

/-- 'laws.FnExactGenusByApery', WHERE WHAT IT READS IS OF BULK AT MOST 1048576: true; the input reads as it did. -/
def fnExactGenusByAperyUptoRow : OpenClaim := { program := "ytfocaloploekmaa", sum := "8f340abeb44172d1eb5e45f414e866fa1e860e4df5bcfc211d256c63a911e7ce", func := "loop.example/g00595/laws.FnExactGenusByApery", spec := "fnExactGenusByApery", apart := false, narrowed := true }
def FnExactGenusByAperyUptoSaid : Prop := fnExactGenusByAperyUptoRow.holds Try.pinned (OpenSpec.upto fnExactGenusByAperySpec)

end Rows
end Go.Proofs.Ytfocaloploekmaa
