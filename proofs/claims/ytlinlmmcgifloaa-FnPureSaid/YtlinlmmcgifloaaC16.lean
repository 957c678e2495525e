/-
  THE CONTRACTS OF CHAPTER 16 IN THE CANONICAL FORM (genlaw.py). (Own work: mkC15.py.)
-/
import Derived.Test.YtlinlmmcgifloaaSgId
import Derived.Test.YtlinlmmcgifloaaL53
import Derived.Test.YtlinlmmcgifloaaL54
import Derived.Test.YtlinlmmcgifloaaI60
import Derived.Test.YtlinlmmcgifloaaSgL
namespace Go.Proofs.Ytlinlmmcgifloaa
open Go Go.RowKit

theorem cs_IdealGens (L0 : List Int) (a0 : Option Addr) (c0 : Nat) (L1 : List Int) (a1 : Option Addr) (c1 : Nat) (w : World) (hr0 : SlW w a0 c0 (L0.map (Value.int .i64))) (hr1 : SlW w a1 c1 (L1.map (Value.int .i64))) (hb0 : L0.length ≤ 1048576) (hb1 : L1.length ≤ 1048576) :
    Calls Try.prog 70 #[.agg #[.slice a0 L0.length c0], .slice a1 L1.length c1] w (SlPost (idGensL L0 L1) w) :=
  spec_IdealGens L0 L1 a0 c0 a1 c1 w hr0.sl hr1.sl hb0 hb1
theorem ci_IdealGens (L0 : List Int) (a0 : Option Addr) (c0 : Nat) (L1 : List Int) (a1 : Option Addr) (c1 : Nat) (w : World) (hr0 : SlW w a0 c0 (L0.map (Value.int .i64))) (hr1 : SlW w a1 c1 (L1.map (Value.int .i64))) (hb0 : L0.length ≤ 1048576) (hb1 : L1.length ≤ 1048576) :
    Calls Try.prog 66 #[.agg #[.slice a0 L0.length c0], .slice a1 L1.length c1] w (SlPost (idGensL L0 L1) w) :=
  impl_IdealGens L0 L1 a0 c0 a1 c1 w hr0.sl hr1.sl hb0 hb1
end Go.Proofs.Ytlinlmmcgifloaa
