/-
  THE CONTRACTS OF CHAPTER 12b IN THE CANONICAL FORM (genlaw.py). (Own work.)
-/
import Derived.Test.YtlinlmmcgifloaaCh11L
import Derived.Test.YtlinlmmcgifloaaCh11I
import Derived.Test.YtlinlmmcgifloaaSgL
namespace Go.Proofs.Ytlinlmmcgifloaa
open Go Go.RowKit

theorem cs_LengthsOf (L0 : List Int) (a0 : Option Addr) (c0 : Nat) (x1 : Int) (w : World) (hr0 : SlW w a0 c0 (L0.map (Value.int .i64))) (hb0 : L0.length ≤ 1048576) (_ : -9223372036854775808 ≤ x1) (_ : x1 ≤ 9223372036854775807) :
    Calls Try.prog 18 #[.agg #[.slice a0 L0.length c0], .int .i64 x1] w (SlPost (lenL L0 x1) w) :=
  spec_LengthsOf L0 x1 a0 c0 w hr0.sl hb0
theorem cs_DeltaOf (L0 : List Int) (a0 : Option Addr) (c0 : Nat) (x1 : Int) (w : World) (hr0 : SlW w a0 c0 (L0.map (Value.int .i64))) (hb0 : L0.length ≤ 1048576) (_ : -9223372036854775808 ≤ x1) (_ : x1 ≤ 9223372036854775807) :
    Calls Try.prog 19 #[.agg #[.slice a0 L0.length c0], .int .i64 x1] w (SlPost (deltaL L0 x1) w) :=
  spec_DeltaOf L0 x1 a0 c0 w hr0.sl hb0
theorem cs_ElasticityOf (L0 : List Int) (a0 : Option Addr) (c0 : Nat) (x1 : Int) (w : World) (hr0 : SlW w a0 c0 (L0.map (Value.int .i64))) (hb0 : L0.length ≤ 1048576) (_ : -9223372036854775808 ≤ x1) (_ : x1 ≤ 9223372036854775807) :
    Calls Try.prog 13 #[.agg #[.slice a0 L0.length c0], .int .i64 x1] w fun e w' => e = .returned (.tuple #[.int .i64 (elaA L0 x1), .int .i64 (elaB L0 x1)]) ∧ Below w.heap.size w w' :=
  spec_ElasticityOf L0 x1 a0 c0 w hr0.sl hb0
theorem cs_DeltaSet (L0 : List Int) (a0 : Option Addr) (c0 : Nat) (x1 : Int) (w : World) (hr0 : SlW w a0 c0 (L0.map (Value.int .i64))) (hb0 : L0.length ≤ 1048576) (_ : -9223372036854775808 ≤ x1) (_ : x1 ≤ 9223372036854775807) :
    Calls Try.prog 21 #[.agg #[.slice a0 L0.length c0], .int .i64 x1] w (SlPost (deltasL L0 x1) w) :=
  spec_DeltaSet L0 x1 a0 c0 w hr0.sl hb0
theorem ci_LengthsOf (L0 : List Int) (a0 : Option Addr) (c0 : Nat) (x1 : Int) (w : World) (hr0 : SlW w a0 c0 (L0.map (Value.int .i64))) (hb0 : L0.length ≤ 1048576) (_ : -9223372036854775808 ≤ x1) (_ : x1 ≤ 9223372036854775807) :
    Calls Try.prog 10 #[.agg #[.slice a0 L0.length c0], .int .i64 x1] w (SlPost (lenL L0 x1) w) :=
  impl_LengthsOf L0 x1 a0 c0 w hr0.sl hb0
theorem ci_DeltaOf (L0 : List Int) (a0 : Option Addr) (c0 : Nat) (x1 : Int) (w : World) (hr0 : SlW w a0 c0 (L0.map (Value.int .i64))) (hb0 : L0.length ≤ 1048576) (_ : -9223372036854775808 ≤ x1) (_ : x1 ≤ 9223372036854775807) :
    Calls Try.prog 11 #[.agg #[.slice a0 L0.length c0], .int .i64 x1] w (SlPost (deltaL L0 x1) w) :=
  impl_DeltaOf L0 x1 a0 c0 w hr0.sl hb0
theorem ci_ElasticityOf (L0 : List Int) (a0 : Option Addr) (c0 : Nat) (x1 : Int) (w : World) (hr0 : SlW w a0 c0 (L0.map (Value.int .i64))) (hb0 : L0.length ≤ 1048576) (_ : -9223372036854775808 ≤ x1) (_ : x1 ≤ 9223372036854775807) :
    Calls Try.prog 12 #[.agg #[.slice a0 L0.length c0], .int .i64 x1] w fun e w' => e = .returned (.tuple #[.int .i64 (elaA L0 x1), .int .i64 (elaB L0 x1)]) ∧ Below w.heap.size w w' :=
  impl_ElasticityOf L0 x1 a0 c0 w hr0.sl hb0
theorem ci_DeltaSet (L0 : List Int) (a0 : Option Addr) (c0 : Nat) (x1 : Int) (w : World) (hr0 : SlW w a0 c0 (L0.map (Value.int .i64))) (hb0 : L0.length ≤ 1048576) (_ : -9223372036854775808 ≤ x1) (_ : x1 ≤ 9223372036854775807) :
    Calls Try.prog 20 #[.agg #[.slice a0 L0.length c0], .int .i64 x1] w (SlPost (deltasL L0 x1) w) :=
  impl_DeltaSet L0 x1 a0 c0 w hr0.sl hb0
end Go.Proofs.Ytlinlmmcgifloaa
