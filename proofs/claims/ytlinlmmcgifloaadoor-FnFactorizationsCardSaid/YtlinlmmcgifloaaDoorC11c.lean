/-
  THE CONTRACTS OF CHAPTER 11c IN THE CANONICAL FORM (genlaw.py). (Own work.)
-/
import Derived.Test.YtlinlmmcgifloaaDoorCh11L
import Derived.Test.YtlinlmmcgifloaaDoorCh11I
import Derived.Test.YtlinlmmcgifloaaDoorSgL
import Derived.Test.YtlinlmmcgifloaaDoorCh11M
namespace Go.Proofs.YtlinlmmcgifloaaDoor
open Go Go.RowKit

theorem cs_Factorizations (L0 : List Int) (a0 : Option Addr) (c0 : Nat) (x1 : Int) (w : World) (hr0 : SlW w a0 c0 (L0.map (Value.int .i64))) (hb0 : L0.length ≤ 1048576) (_ : -9223372036854775808 ≤ x1) (_ : x1 ≤ 9223372036854775807) :
    Calls Tryd.prog 11 #[.agg #[.slice a0 L0.length c0], .int .i64 x1] w (SsPost (factL L0 x1) w) :=
  spec_Factorizations L0 x1 a0 c0 w hr0.sl hb0
theorem ci_Factorizations (L0 : List Int) (a0 : Option Addr) (c0 : Nat) (x1 : Int) (w : World) (hr0 : SlW w a0 c0 (L0.map (Value.int .i64))) (hb0 : L0.length ≤ 1048576) (_ : -9223372036854775808 ≤ x1) (_ : x1 ≤ 9223372036854775807) :
    Calls Tryd.prog 6 #[.agg #[.slice a0 L0.length c0], .int .i64 x1] w (SsPost (factL L0 x1) w) :=
  impl_Factorizations L0 x1 a0 c0 w hr0.sl hb0
end Go.Proofs.YtlinlmmcgifloaaDoor
