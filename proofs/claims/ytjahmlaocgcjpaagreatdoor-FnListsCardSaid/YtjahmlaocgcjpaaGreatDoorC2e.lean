/-
  THE CONTRACTS OF CHAPTER 2 IN THE CANONICAL FORM (genlaw.py): ListText.
-/
import Derived.Test.YtjahmlaocgcjpaaGreatDoorI6
namespace Go.Proofs.YtjahmlaocgcjpaaGreatDoor
open Go Go.RowKit

theorem cs_ListText (L : List Int) (a : Option Addr) (c : Nat) (w : World) (hr : SlW w a c (L.map (Value.int .i64))) (hb : L.length ≤ 1048576) (hI : ∀ x ∈ L, -9223372036854775808 ≤ x ∧ x ≤ 9223372036854775807) :
    Calls Tryz.prog 31 #[.slice a L.length c] w fun e w' => e = .returned (.string (listText L)) ∧ Below w.heap.size w w' :=
  spec_ListText L a c w hr.sl hb hI (by have := sizes_numerals L hI; omega)
theorem ci_ListText (L : List Int) (a : Option Addr) (c : Nat) (w : World) (hr : SlW w a c (L.map (Value.int .i64))) (hb : L.length ≤ 1048576) (hI : ∀ x ∈ L, -9223372036854775808 ≤ x ∧ x ≤ 9223372036854775807) (hv : EnvFmt w) :
    Calls Tryz.prog 30 #[.slice a L.length c] w fun e w' => e = .returned (.string (listText L)) ∧ Below w.heap.size w w' :=
  impl_ListText L a c w hr.sl hb hI hv
end Go.Proofs.YtjahmlaocgcjpaaGreatDoor
