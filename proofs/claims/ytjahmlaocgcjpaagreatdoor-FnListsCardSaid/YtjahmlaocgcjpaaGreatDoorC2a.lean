/-
  THE CONTRACTS OF CHAPTER 2 IN THE CANONICAL FORM (genlaw.py): GcdOf, GcdOfList, IsAscending.
-/
import Derived.Test.YtjahmlaocgcjpaaGreatDoorI2b
import Derived.Test.YtjahmlaocgcjpaaGreatDoorLaw
import Derived.Test.YtjahmlaocgcjpaaGreatDoorI2c
namespace Go.Proofs.YtjahmlaocgcjpaaGreatDoor
open Go Go.RowKit

theorem cs_GcdOf (x0 x1 : Int) (w : World) (_ : -9223372036854775808 ≤ x0) (_ : x0 ≤ 9223372036854775807) (_ : -9223372036854775808 ≤ x1) (_ : x1 ≤ 9223372036854775807) :
    Calls Tryz.prog 16 #[.int .i64 x0, .int .i64 x1] w fun e w' => e = .returned (.int .i64 (gcdOf x0 x1)) ∧ Below w.heap.size w w' :=
  (spec_GcdOf x0 x1 w).mono fun _ _ ⟨he, hw⟩ => ⟨he, by rw [hw]; exact Below.refl _ _⟩
theorem ci_GcdOf (x0 x1 : Int) (w : World) (_ : -9223372036854775808 ≤ x0) (_ : x0 ≤ 9223372036854775807) (_ : -9223372036854775808 ≤ x1) (_ : x1 ≤ 9223372036854775807) :
    Calls Tryz.prog 6 #[.int .i64 x0, .int .i64 x1] w fun e w' => e = .returned (.int .i64 (gcdOf x0 x1)) ∧ Below w.heap.size w w' :=
  impl_GcdOf x0 x1 w

theorem cs_GcdOfList (L : List Int) (a : Option Addr) (c : Nat) (w : World) (hr : SlW w a c (L.map (Value.int .i64))) (hb : L.length ≤ 1048576) :
    Calls Tryz.prog 28 #[.slice a L.length c] w fun e w' => e = .returned (.int .i64 (gcdL L)) ∧ Below w.heap.size w w' :=
  (spec_GcdOfList L a c w hr.sl (by unfold maxLen; omega)).mono fun _ _ ⟨he, hw⟩ => ⟨he, by rw [hw]; exact Below.refl _ _⟩
theorem ci_GcdOfList (L : List Int) (a : Option Addr) (c : Nat) (w : World) (hr : SlW w a c (L.map (Value.int .i64))) (hb : L.length ≤ 1048576) :
    Calls Tryz.prog 27 #[.slice a L.length c] w fun e w' => e = .returned (.int .i64 (gcdL L)) ∧ Below w.heap.size w w' :=
  impl_GcdOfList L a c w hr.sl (by unfold maxLen; omega)

theorem cs_IsAscending (L : List Int) (a : Option Addr) (c : Nat) (w : World) (hr : SlW w a c (L.map (Value.int .i64))) (hb : L.length ≤ 1048576) :
    Calls Tryz.prog 19 #[.slice a L.length c] w fun e w' => e = .returned (.bool (ascB L)) ∧ Below w.heap.size w w' :=
  spec_IsAscending L a c w hr.sl (by unfold maxLen; omega)
theorem ci_IsAscending (L : List Int) (a : Option Addr) (c : Nat) (w : World) (hr : SlW w a c (L.map (Value.int .i64))) (hb : L.length ≤ 1048576) :
    Calls Tryz.prog 26 #[.slice a L.length c] w fun e w' => e = .returned (.bool (ascB L)) ∧ Below w.heap.size w w' :=
  impl_IsAscending L a c w hr.sl (by unfold maxLen; omega)
end Go.Proofs.YtjahmlaocgcjpaaGreatDoor
