/-
  DERIVED. GIVEN WITH THE SEED: THE CARDS: each row of YthalbmlgkkgheaaDoorRows.lean that lists a variable, with what it lists TIED to the program's text (the seventh form; the later family's looks); each row that meets fmt, with fmt's text TOLD by the authors' own Lean function (tested against real Go, not proved from fmt's source: count such statements apart). THE CARD IS WHAT COUNTS. Prove the row's statement (the work); the ties are given (YthalbmlgkkgheaaDoorTie.lean); close each card by the builder's one call (the guide's Derived/Test/ToyasCard.lean, 'card_holds'). Laid BY PROGRAM, IN A SANDBOX (cutbox-door.mjs). By AI agents, Wed Nov 11 2026. No macro, syntax, notation, axiom, sorry.
-/
import Derived.Test.YthalbmlgkkgheaaDoorRows
import GoSem.ClaimSeven
namespace Go.Proofs.YthalbmlgkkgheaaDoor
namespace Rows

/-- THE TIED CARD OF 'laws.FnFactorizations'. -/
def fnFactorizationsCard : Claim7 := { stood := { row := fnFactorizationsRow, standIns := [], harness := (true, "0fe55e11b084cc630930a5b8cb74591f3a47511f25ba4e0498fb9a17692a274b"), looks := false }, kinds := [], alts := [], laidByText := true, laidKinds := [.data, .data, .data], laidTests := true, laidLooks := .later }
def FnFactorizationsCardSaid : Prop := Claim7.holds Tryd.pinned (.plain (OpenSpec.ofChange fnFactorizationsSpec)) fnFactorizationsCard

/-- THE TIED CARD OF 'laws.FnExactFactorText'. -/
def fnExactFactorTextCard : Claim7 := { stood := { row := fnExactFactorTextRow, standIns := [], harness := (true, "0fe55e11b084cc630930a5b8cb74591f3a47511f25ba4e0498fb9a17692a274b"), looks := false }, kinds := [], alts := [], laidByText := true, laidKinds := [.data, .data, .data], laidTests := true, laidLooks := .later }
def FnExactFactorTextCardSaid : Prop := Claim7.holds Tryd.pinned (.plain (OpenSpec.ofChange fnExactFactorTextSpec)) fnExactFactorTextCard

/-- THE SECOND FORM's CARD OF 'laws.FnFactorizations'. -/
def fnFactorizationsUptoCard : Claim7 := { stood := { row := fnFactorizationsUptoRow, standIns := [], harness := (true, "0fe55e11b084cc630930a5b8cb74591f3a47511f25ba4e0498fb9a17692a274b"), looks := false }, kinds := [], alts := [], laidByText := true, laidKinds := [.data, .data, .data], laidTests := true, laidLooks := .later }
def FnFactorizationsUptoCardSaid : Prop := Claim7.holds Tryd.pinned (.plain (OpenSpec.upto fnFactorizationsSpec)) fnFactorizationsUptoCard

/-- THE SECOND FORM's CARD OF 'laws.FnExactFactorText'. -/
def fnExactFactorTextUptoCard : Claim7 := { stood := { row := fnExactFactorTextUptoRow, standIns := [], harness := (true, "0fe55e11b084cc630930a5b8cb74591f3a47511f25ba4e0498fb9a17692a274b"), looks := false }, kinds := [], alts := [], laidByText := true, laidKinds := [.data, .data, .data], laidTests := true, laidLooks := .later }
def FnExactFactorTextUptoCardSaid : Prop := Claim7.holds Tryd.pinned (.plain (OpenSpec.upto fnExactFactorTextSpec)) fnExactFactorTextUptoCard
end Rows
end Go.Proofs.YthalbmlgkkgheaaDoor
