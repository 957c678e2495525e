/-
  THE CONTRACTS OF CHAPTER 12 IN THE CANONICAL FORM (genlaw.py). (Own work.)
-/
import Derived.Test.YtlinlmmcgifloaaCh11L
import Derived.Test.YtlinlmmcgifloaaCh11I
import Derived.Test.YtlinlmmcgifloaaSgL
namespace Go.Proofs.Ytlinlmmcgifloaa
open Go Go.RowKit

theorem cs_GreatestElasticity (L0 : List Int) (a0 : Option Addr) (c0 : Nat) (w : World) (hr0 : SlW w a0 c0 (L0.map (Value.int .i64))) (hb0 : L0.length ≤ 1048576)  :
    Calls Try.prog 15 #[.agg #[.slice a0 L0.length c0]] w fun e w' => e = .returned (.tuple #[.int .i64 (greatA L0), .int .i64 (greatB L0)]) ∧ Below w.heap.size w w' :=
  spec_GreatestElasticity L0 a0 c0 w hr0.sl hb0
theorem ci_GreatestElasticity (L0 : List Int) (a0 : Option Addr) (c0 : Nat) (w : World) (hr0 : SlW w a0 c0 (L0.map (Value.int .i64))) (hb0 : L0.length ≤ 1048576)  :
    Calls Try.prog 14 #[.agg #[.slice a0 L0.length c0]] w fun e w' => e = .returned (.tuple #[.int .i64 (greatA L0), .int .i64 (greatB L0)]) ∧ Below w.heap.size w w' :=
  impl_GreatestElasticity L0 a0 c0 w hr0.sl hb0
end Go.Proofs.Ytlinlmmcgifloaa
