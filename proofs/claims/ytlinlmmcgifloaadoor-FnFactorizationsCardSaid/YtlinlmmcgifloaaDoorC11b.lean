/-
  THE CONTRACTS OF CHAPTER 11b IN THE CANONICAL FORM (genlaw.py). (Own work.)
-/
import Derived.Test.YtlinlmmcgifloaaDoorCh11L
import Derived.Test.YtlinlmmcgifloaaDoorCh11I
import Derived.Test.YtlinlmmcgifloaaDoorSgL
namespace Go.Proofs.YtlinlmmcgifloaaDoor
open Go Go.RowKit

theorem cs_CountFactorizations (L0 : List Int) (a0 : Option Addr) (c0 : Nat) (x1 : Int) (w : World) (hr0 : SlW w a0 c0 (L0.map (Value.int .i64))) (hb0 : L0.length ≤ 1048576) (_ : -9223372036854775808 ≤ x1) (_ : x1 ≤ 9223372036854775807) :
    Calls Tryd.prog 13 #[.agg #[.slice a0 L0.length c0], .int .i64 x1] w fun e w' => e = .returned (.int .i64 (countN L0 x1)) ∧ Below w.heap.size w w' :=
  spec_CountFactorizations L0 x1 a0 c0 w hr0.sl hb0
theorem ci_CountFactorizations (L0 : List Int) (a0 : Option Addr) (c0 : Nat) (x1 : Int) (w : World) (hr0 : SlW w a0 c0 (L0.map (Value.int .i64))) (hb0 : L0.length ≤ 1048576) (_ : -9223372036854775808 ≤ x1) (_ : x1 ≤ 9223372036854775807) :
    Calls Tryd.prog 12 #[.agg #[.slice a0 L0.length c0], .int .i64 x1] w fun e w' => e = .returned (.int .i64 (countN L0 x1)) ∧ Below w.heap.size w w' :=
  impl_CountFactorizations L0 x1 a0 c0 w hr0.sl hb0
end Go.Proofs.YtlinlmmcgifloaaDoor
