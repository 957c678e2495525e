/-
  THE CONTRACTS OF CHAPTER 9 IN THE CANONICAL FORM (genlaw.py). (Own work.)
-/
import Derived.Test.YtglonnfagnlmjaaL34
import Derived.Test.YtglonnfagnlmjaaI35
import Derived.Test.YtglonnfagnlmjaaSgL
namespace Go.Proofs.Ytglonnfagnlmjaa
open Go Go.RowKit

theorem cs_PseudoFrobenius (L0 : List Int) (a0 : Option Addr) (c0 : Nat) (w : World) (hr0 : SlW w a0 c0 (L0.map (Value.int .i64))) (hb0 : L0.length ≤ 1048576)  :
    Calls Try.prog 18 #[.agg #[.slice a0 L0.length c0]] w (SlPost (psfL L0) w) :=
  spec_PseudoFrobenius L0 a0 c0 w hr0.sl hb0
theorem cs_TypeOf (L0 : List Int) (a0 : Option Addr) (c0 : Nat) (w : World) (hr0 : SlW w a0 c0 (L0.map (Value.int .i64))) (hb0 : L0.length ≤ 1048576)  :
    Calls Try.prog 19 #[.agg #[.slice a0 L0.length c0]] w fun e w' => e = .returned (.int .i64 (typeN L0)) ∧ Below w.heap.size w w' :=
  spec_TypeOf L0 a0 c0 w hr0.sl hb0
theorem cs_IsSymmetric (L0 : List Int) (a0 : Option Addr) (c0 : Nat) (w : World) (hr0 : SlW w a0 c0 (L0.map (Value.int .i64))) (hb0 : L0.length ≤ 1048576)  :
    Calls Try.prog 21 #[.agg #[.slice a0 L0.length c0]] w fun e w' => e = .returned (.bool (symB L0)) ∧ Below w.heap.size w w' :=
  spec_IsSymmetric L0 a0 c0 w hr0.sl hb0
theorem cs_IsPseudoSymmetric (L0 : List Int) (a0 : Option Addr) (c0 : Nat) (w : World) (hr0 : SlW w a0 c0 (L0.map (Value.int .i64))) (hb0 : L0.length ≤ 1048576)  :
    Calls Try.prog 22 #[.agg #[.slice a0 L0.length c0]] w fun e w' => e = .returned (.bool (psymB L0)) ∧ Below w.heap.size w w' :=
  spec_IsPseudoSymmetric L0 a0 c0 w hr0.sl hb0
theorem cs_IsIrreducible (L0 : List Int) (a0 : Option Addr) (c0 : Nat) (w : World) (hr0 : SlW w a0 c0 (L0.map (Value.int .i64))) (hb0 : L0.length ≤ 1048576)  :
    Calls Try.prog 35 #[.agg #[.slice a0 L0.length c0]] w fun e w' => e = .returned (.bool (irrB L0)) ∧ Below w.heap.size w w' :=
  spec_IsIrreducible L0 a0 c0 w hr0.sl hb0
theorem cs_SpecialGaps (L0 : List Int) (a0 : Option Addr) (c0 : Nat) (w : World) (hr0 : SlW w a0 c0 (L0.map (Value.int .i64))) (hb0 : L0.length ≤ 1048576)  :
    Calls Try.prog 20 #[.agg #[.slice a0 L0.length c0]] w (SlPost (specL L0) w) :=
  spec_SpecialGaps L0 a0 c0 w hr0.sl hb0
theorem ci_PseudoFrobenius (L0 : List Int) (a0 : Option Addr) (c0 : Nat) (w : World) (hr0 : SlW w a0 c0 (L0.map (Value.int .i64))) (hb0 : L0.length ≤ 1048576)  :
    Calls Try.prog 12 #[.agg #[.slice a0 L0.length c0]] w (SlPost (psfL L0) w) :=
  impl_PseudoFrobenius L0 a0 c0 w hr0.sl hb0
theorem ci_TypeOf (L0 : List Int) (a0 : Option Addr) (c0 : Nat) (w : World) (hr0 : SlW w a0 c0 (L0.map (Value.int .i64))) (hb0 : L0.length ≤ 1048576)  :
    Calls Try.prog 13 #[.agg #[.slice a0 L0.length c0]] w fun e w' => e = .returned (.int .i64 (typeN L0)) ∧ Below w.heap.size w w' :=
  impl_TypeOf L0 a0 c0 w hr0.sl hb0
theorem ci_IsSymmetric (L0 : List Int) (a0 : Option Addr) (c0 : Nat) (w : World) (hr0 : SlW w a0 c0 (L0.map (Value.int .i64))) (hb0 : L0.length ≤ 1048576)  :
    Calls Try.prog 15 #[.agg #[.slice a0 L0.length c0]] w fun e w' => e = .returned (.bool (symB L0)) ∧ Below w.heap.size w w' :=
  impl_IsSymmetric L0 a0 c0 w hr0.sl hb0
theorem ci_IsPseudoSymmetric (L0 : List Int) (a0 : Option Addr) (c0 : Nat) (w : World) (hr0 : SlW w a0 c0 (L0.map (Value.int .i64))) (hb0 : L0.length ≤ 1048576)  :
    Calls Try.prog 16 #[.agg #[.slice a0 L0.length c0]] w fun e w' => e = .returned (.bool (psymB L0)) ∧ Below w.heap.size w w' :=
  impl_IsPseudoSymmetric L0 a0 c0 w hr0.sl hb0
theorem ci_IsIrreducible (L0 : List Int) (a0 : Option Addr) (c0 : Nat) (w : World) (hr0 : SlW w a0 c0 (L0.map (Value.int .i64))) (hb0 : L0.length ≤ 1048576)  :
    Calls Try.prog 23 #[.agg #[.slice a0 L0.length c0]] w fun e w' => e = .returned (.bool (irrB L0)) ∧ Below w.heap.size w w' :=
  impl_IsIrreducible L0 a0 c0 w hr0.sl hb0
theorem ci_SpecialGaps (L0 : List Int) (a0 : Option Addr) (c0 : Nat) (w : World) (hr0 : SlW w a0 c0 (L0.map (Value.int .i64))) (hb0 : L0.length ≤ 1048576)  :
    Calls Try.prog 14 #[.agg #[.slice a0 L0.length c0]] w (SlPost (specL L0) w) :=
  impl_SpecialGaps L0 a0 c0 w hr0.sl hb0
end Go.Proofs.Ytglonnfagnlmjaa
