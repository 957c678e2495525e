/-
  THE CONTRACTS OF CHAPTER 11b IN THE CANONICAL FORM (genlaw.py). (Own work.)
-/
import Derived.Test.YtaondfneoiobiaaL42
import Derived.Test.YtaondfneoiobiaaI42
import Derived.Test.YtaondfneoiobiaaSgL
namespace Go.Proofs.Ytaondfneoiobiaa
open Go Go.RowKit

theorem cs_CountFactorizations (L0 : List Int) (a0 : Option Addr) (c0 : Nat) (x1 : Int) (w : World) (hr0 : SlW w a0 c0 (L0.map (Value.int .i64))) (hb0 : L0.length ≤ 1048576) (_ : -9223372036854775808 ≤ x1) (_ : x1 ≤ 9223372036854775807) :
    Calls Try.prog 37 #[.agg #[.slice a0 L0.length c0], .int .i64 x1] w fun e w' => e = .returned (.int .i64 (countN L0 x1)) ∧ Below w.heap.size w w' :=
  spec_CountFactorizations L0 x1 a0 c0 w hr0.sl hb0
theorem ci_CountFactorizations (L0 : List Int) (a0 : Option Addr) (c0 : Nat) (x1 : Int) (w : World) (hr0 : SlW w a0 c0 (L0.map (Value.int .i64))) (hb0 : L0.length ≤ 1048576) (_ : -9223372036854775808 ≤ x1) (_ : x1 ≤ 9223372036854775807) :
    Calls Try.prog 38 #[.agg #[.slice a0 L0.length c0], .int .i64 x1] w fun e w' => e = .returned (.int .i64 (countN L0 x1)) ∧ Below w.heap.size w w' :=
  impl_CountFactorizations L0 x1 a0 c0 w hr0.sl hb0
end Go.Proofs.Ytaondfneoiobiaa
