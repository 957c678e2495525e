/-
  DERIVED. GIVEN WITH THE SEED: THE CARDS: each row of YtdjjagpecbflnaaGreatDoorRows.lean that lists a variable, with what it lists TIED to the program's text (the seventh form; the later family's looks); each row that meets fmt, with fmt's text TOLD by the authors' own Lean function (tested against real Go, not proved from fmt's source: count such statements apart). THE CARD IS WHAT COUNTS. Prove the row's statement (the work); the ties are given (YtdjjagpecbflnaaGreatDoorTie.lean); close each card by the builder's one call (the guide's Derived/Test/ToyasCard.lean, 'card_holds'). Laid BY PROGRAM, IN A SANDBOX (cutbox-door.mjs). By AI agents, Wed Nov 11 2026. No macro, syntax, notation, axiom, sorry.
-/
import Derived.Test.YtdjjagpecbflnaaGreatDoorRows
import GoSem.ClaimSeven
namespace Go.Proofs.YtdjjagpecbflnaaGreatDoor
namespace Rows

/-- THE TIED CARD OF 'laws.FnTexts'. -/
def fnTextsCard : Claim7 := { stood := { row := fnTextsRow, standIns := [], harness := (true, "68ed45e87cd71673e07cf471a1258c4ea5bd2623e24d9604a1e8fcc452cefedd"), looks := true }, kinds := [], alts := [], laidByText := true, laidKinds := [.data, .data, .data, .data, .handle, .sentinel, .sentinel, .pinned], laidTests := true, laidLooks := .later }
def FnTextsCardSaid : Prop := Claim7.holds Tryz.pinned (.plain (OpenSpec.ofChange fnTextsSpec)) fnTextsCard

/-- THE TIED CARD OF 'laws.FnExactParseSemigroup'. -/
def fnExactParseSemigroupCard : Claim7 := { stood := { row := fnExactParseSemigroupRow, standIns := [], harness := (true, "68ed45e87cd71673e07cf471a1258c4ea5bd2623e24d9604a1e8fcc452cefedd"), looks := true }, kinds := [], alts := [], laidByText := true, laidKinds := [.data, .data, .data, .data, .handle, .sentinel, .sentinel, .pinned], laidTests := true, laidLooks := .later }
def FnExactParseSemigroupCardSaid : Prop := Claim7.holds Tryz.pinned (.plain (OpenSpec.ofChange fnExactParseSemigroupSpec)) fnExactParseSemigroupCard

/-- THE SECOND FORM's CARD OF 'laws.FnTexts'. -/
def fnTextsUptoCard : Claim7 := { stood := { row := fnTextsUptoRow, standIns := [], harness := (true, "68ed45e87cd71673e07cf471a1258c4ea5bd2623e24d9604a1e8fcc452cefedd"), looks := true }, kinds := [], alts := [], laidByText := true, laidKinds := [.data, .data, .data, .data, .handle, .sentinel, .sentinel, .pinned], laidTests := true, laidLooks := .later }
def FnTextsUptoCardSaid : Prop := Claim7.holds Tryz.pinned (.plain (OpenSpec.upto fnTextsSpec)) fnTextsUptoCard

/-- THE SECOND FORM's CARD OF 'laws.FnExactParseSemigroup'. -/
def fnExactParseSemigroupUptoCard : Claim7 := { stood := { row := fnExactParseSemigroupUptoRow, standIns := [], harness := (true, "68ed45e87cd71673e07cf471a1258c4ea5bd2623e24d9604a1e8fcc452cefedd"), looks := true }, kinds := [], alts := [], laidByText := true, laidKinds := [.data, .data, .data, .data, .handle, .sentinel, .sentinel, .pinned], laidTests := true, laidLooks := .later }
def FnExactParseSemigroupUptoCardSaid : Prop := Claim7.holds Tryz.pinned (.plain (OpenSpec.upto fnExactParseSemigroupSpec)) fnExactParseSemigroupUptoCard
end Rows
end Go.Proofs.YtdjjagpecbflnaaGreatDoor
