/-
  THE CONTRACTS OF CHAPTER 2 IN THE CANONICAL FORM (genlaw.py): GcdOf, GcdOfList, IsAscending.
-/
import Derived.Test.YtjahmlaocgcjpaaI2b
import Derived.Test.YtjahmlaocgcjpaaI2c
namespace Go.Proofs.Ytjahmlaocgcjpaa
open Go Go.RowKit

theorem cs_GcdOf (x0 x1 : Int) (w : World) (_ : -9223372036854775808 ≤ x0) (_ : x0 ≤ 9223372036854775807) (_ : -9223372036854775808 ≤ x1) (_ : x1 ≤ 9223372036854775807) :
    Calls Try.prog 10 #[.int .i64 x0, .int .i64 x1] w fun e w' => e = .returned (.int .i64 (gcdOf x0 x1)) ∧ Below w.heap.size w w' :=
  (spec_GcdOf x0 x1 w).mono fun _ _ ⟨he, hw⟩ => ⟨he, by rw [hw]; exact Below.refl _ _⟩
theorem ci_GcdOf (x0 x1 : Int) (w : World) (_ : -9223372036854775808 ≤ x0) (_ : x0 ≤ 9223372036854775807) (_ : -9223372036854775808 ≤ x1) (_ : x1 ≤ 9223372036854775807) :
    Calls Try.prog 11 #[.int .i64 x0, .int .i64 x1] w fun e w' => e = .returned (.int .i64 (gcdOf x0 x1)) ∧ Below w.heap.size w w' :=
  impl_GcdOf x0 x1 w

theorem cs_GcdOfList (L : List Int) (a : Option Addr) (c : Nat) (w : World) (hr : SlV w a (L.map (Value.int .i64))) (hb : L.length ≤ 1048576) :
    Calls Try.prog 12 #[.slice a L.length c] w fun e w' => e = .returned (.int .i64 (gcdL L)) ∧ Below w.heap.size w w' :=
  (spec_GcdOfList L a c w hr (by unfold maxLen; omega)).mono fun _ _ ⟨he, hw⟩ => ⟨he, by rw [hw]; exact Below.refl _ _⟩
theorem ci_GcdOfList (L : List Int) (a : Option Addr) (c : Nat) (w : World) (hr : SlV w a (L.map (Value.int .i64))) (hb : L.length ≤ 1048576) :
    Calls Try.prog 14 #[.slice a L.length c] w fun e w' => e = .returned (.int .i64 (gcdL L)) ∧ Below w.heap.size w w' :=
  impl_GcdOfList L a c w hr (by unfold maxLen; omega)

theorem cs_IsAscending (L : List Int) (a : Option Addr) (c : Nat) (w : World) (hr : SlV w a (L.map (Value.int .i64))) (hb : L.length ≤ 1048576) :
    Calls Try.prog 16 #[.slice a L.length c] w fun e w' => e = .returned (.bool (ascB L)) ∧ Below w.heap.size w w' :=
  spec_IsAscending L a c w hr (by unfold maxLen; omega)
theorem ci_IsAscending (L : List Int) (a : Option Addr) (c : Nat) (w : World) (hr : SlV w a (L.map (Value.int .i64))) (hb : L.length ≤ 1048576) :
    Calls Try.prog 17 #[.slice a L.length c] w fun e w' => e = .returned (.bool (ascB L)) ∧ Below w.heap.size w w' :=
  impl_IsAscending L a c w hr (by unfold maxLen; omega)
end Go.Proofs.Ytjahmlaocgcjpaa
