/-
  THE CONTRACTS OF FactorText IN THE CANONICAL FORM (genlaw.py). (Own work.)
-/
import Derived.Test.YtlinlmmcgifloaaDoorL50
import Derived.Test.YtlinlmmcgifloaaDoorI50
import Derived.Test.YtlinlmmcgifloaaDoorSgL
namespace Go.Proofs.YtlinlmmcgifloaaDoor
open Go Go.RowKit

theorem cs_FactorText (L0 : List Int) (a0 : Option Addr) (c0 : Nat) (L1 : List Int) (a1 : Option Addr) (c1 : Nat) (w : World) (hr0 : SlW w a0 c0 (L0.map (Value.int .i64))) (hr1 : SlW w a1 c1 (L1.map (Value.int .i64))) (hb0 : L0.length ≤ 1048576) (hb1 : L1.length ≤ 1048576) :
    Calls Tryd.prog 19 #[.agg #[.slice a0 L0.length c0], .slice a1 L1.length c1] w fun e w' => e = .returned (.string (factText L0 L1)) ∧ Below w.heap.size w w' :=
  spec_FactorText L0 L1 a0 c0 a1 c1 w hr0.sl hr1.sl hb0 hb1
theorem ci_FactorText (L0 : List Int) (a0 : Option Addr) (c0 : Nat) (L1 : List Int) (a1 : Option Addr) (c1 : Nat) (w : World) (hr0 : SlW w a0 c0 (L0.map (Value.int .i64))) (hr1 : SlW w a1 c1 (L1.map (Value.int .i64))) (hb0 : L0.length ≤ 1048576) (hb1 : L1.length ≤ 1048576) (hv : EnvFmt w) :
    Calls Tryd.prog 18 #[.agg #[.slice a0 L0.length c0], .slice a1 L1.length c1] w fun e w' => e = .returned (.string (factText L0 L1)) ∧ Below w.heap.size w w' :=
  impl_FactorText L0 L1 a0 c0 a1 c1 w hr0.sl hr1.sl hb0 hb1 hv
end Go.Proofs.YtlinlmmcgifloaaDoor
