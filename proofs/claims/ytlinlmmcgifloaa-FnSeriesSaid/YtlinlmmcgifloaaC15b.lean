/-
  THE CONTRACTS OF CHAPTER 15b IN THE CANONICAL FORM (genlaw.py). (Own work: mkC15.py.)
-/
import Derived.Test.YtlinlmmcgifloaaSgSr
import Derived.Test.YtlinlmmcgifloaaSgEu
import Derived.Test.YtlinlmmcgifloaaL52
import Derived.Test.YtlinlmmcgifloaaL57
import Derived.Test.YtlinlmmcgifloaaI56
import Derived.Test.YtlinlmmcgifloaaI57
import Derived.Test.YtlinlmmcgifloaaSgL
namespace Go.Proofs.Ytlinlmmcgifloaa
open Go Go.RowKit

theorem cs_EulerAt (L0 : List Int) (a0 : Option Addr) (c0 : Nat) (x1 : Int) (w : World) (hr0 : SlW w a0 c0 (L0.map (Value.int .i64))) (hb0 : L0.length ≤ 1048576) (_ : -9223372036854775808 ≤ x1) (_ : x1 ≤ 9223372036854775807) :
    Calls Try.prog 39 #[.agg #[.slice a0 L0.length c0], .int .i64 x1] w fun e w' => e = .returned (.int .i64 (eulN L0 x1)) ∧ Below w.heap.size w w' :=
  spec_EulerAt L0 x1 a0 c0 w hr0.sl hb0
theorem cs_EulerList (L0 : List Int) (a0 : Option Addr) (c0 : Nat) (w : World) (hr0 : SlW w a0 c0 (L0.map (Value.int .i64))) (hb0 : L0.length ≤ 1048576) :
    Calls Try.prog 40 #[.agg #[.slice a0 L0.length c0]] w (SlPost (eulL L0) w) :=
  spec_EulerList L0 a0 c0 w hr0.sl hb0
theorem ci_EulerAt (L0 : List Int) (a0 : Option Addr) (c0 : Nat) (x1 : Int) (w : World) (hr0 : SlW w a0 c0 (L0.map (Value.int .i64))) (hb0 : L0.length ≤ 1048576) (_ : -9223372036854775808 ≤ x1) (_ : x1 ≤ 9223372036854775807) :
    Calls Try.prog 38 #[.agg #[.slice a0 L0.length c0], .int .i64 x1] w fun e w' => e = .returned (.int .i64 (eulN L0 x1)) ∧ Below w.heap.size w w' :=
  impl_EulerAt L0 x1 a0 c0 w hr0.sl hb0
theorem ci_EulerList (L0 : List Int) (a0 : Option Addr) (c0 : Nat) (w : World) (hr0 : SlW w a0 c0 (L0.map (Value.int .i64))) (hb0 : L0.length ≤ 1048576) :
    Calls Try.prog 30 #[.agg #[.slice a0 L0.length c0]] w (SlPost (eulL L0) w) :=
  impl_EulerList L0 a0 c0 w hr0.sl hb0
end Go.Proofs.Ytlinlmmcgifloaa
