/-
  DERIVED. GIVEN WITH THE SEED: THE CARDS: each row of YtdjjagpecbflnaaDoorRows.lean that lists a variable, with what it lists TIED to the program's text (the seventh form; the later family's looks); each row that meets fmt, with fmt's text TOLD by the authors' own Lean function (tested against real Go, not proved from fmt's source: count such statements apart). THE CARD IS WHAT COUNTS. Prove the row's statement (the work); the ties are given (YtdjjagpecbflnaaDoorTie.lean); close each card by the builder's one call (the guide's Derived/Test/ToyasCard.lean, 'card_holds'). Laid BY PROGRAM, IN A SANDBOX (cutbox-door.mjs). By AI agents, Wed Nov 11 2026. No macro, syntax, notation, axiom, sorry.
-/
import Derived.Test.YtdjjagpecbflnaaDoorRows
import GoSem.ClaimSeven
namespace Go.Proofs.YtdjjagpecbflnaaDoor
namespace Rows

/-- THE TIED CARD OF 'laws.FnExactSemigroupText'. -/
def fnExactSemigroupTextCard : Claim7 := { stood := { row := fnExactSemigroupTextRow, standIns := [], harness := (true, "db3e2dc42481eb2d8331a20d829802b3cca05f001232dea0abb446730b07277c"), looks := false }, kinds := [], alts := [], laidByText := true, laidKinds := [.data, .data, .data], laidTests := true, laidLooks := .later }
def FnExactSemigroupTextCardSaid : Prop := Claim7.holds Tryd.pinned (.plain (OpenSpec.ofChange fnExactSemigroupTextSpec)) fnExactSemigroupTextCard

/-- THE TIED CARD OF 'laws.FnExactGapText'. -/
def fnExactGapTextCard : Claim7 := { stood := { row := fnExactGapTextRow, standIns := [], harness := (true, "db3e2dc42481eb2d8331a20d829802b3cca05f001232dea0abb446730b07277c"), looks := false }, kinds := [], alts := [], laidByText := true, laidKinds := [.data, .data, .data], laidTests := true, laidLooks := .later }
def FnExactGapTextCardSaid : Prop := Claim7.holds Tryd.pinned (.plain (OpenSpec.ofChange fnExactGapTextSpec)) fnExactGapTextCard

/-- THE SECOND FORM's CARD OF 'laws.FnExactSemigroupText'. -/
def fnExactSemigroupTextUptoCard : Claim7 := { stood := { row := fnExactSemigroupTextUptoRow, standIns := [], harness := (true, "db3e2dc42481eb2d8331a20d829802b3cca05f001232dea0abb446730b07277c"), looks := false }, kinds := [], alts := [], laidByText := true, laidKinds := [.data, .data, .data], laidTests := true, laidLooks := .later }
def FnExactSemigroupTextUptoCardSaid : Prop := Claim7.holds Tryd.pinned (.plain (OpenSpec.upto fnExactSemigroupTextSpec)) fnExactSemigroupTextUptoCard

/-- THE SECOND FORM's CARD OF 'laws.FnExactGapText'. -/
def fnExactGapTextUptoCard : Claim7 := { stood := { row := fnExactGapTextUptoRow, standIns := [], harness := (true, "db3e2dc42481eb2d8331a20d829802b3cca05f001232dea0abb446730b07277c"), looks := false }, kinds := [], alts := [], laidByText := true, laidKinds := [.data, .data, .data], laidTests := true, laidLooks := .later }
def FnExactGapTextUptoCardSaid : Prop := Claim7.holds Tryd.pinned (.plain (OpenSpec.upto fnExactGapTextSpec)) fnExactGapTextUptoCard
end Rows
end Go.Proofs.YtdjjagpecbflnaaDoor
