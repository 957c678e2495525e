/-
  THE CONTRACTS OF CHAPTER 12b IN THE CANONICAL FORM (genlaw.py). (Own work.)
-/
import Derived.Test.YtelpgepeahkblaaCh11L
import Derived.Test.YtelpgepeahkblaaCh11I
import Derived.Test.YtelpgepeahkblaaSgL
namespace Go.Proofs.Ytelpgepeahkblaa
open Go Go.RowKit

theorem cs_LengthsOf (L0 : List Int) (a0 : Option Addr) (c0 : Nat) (x1 : Int) (w : World) (hr0 : SlW w a0 c0 (L0.map (Value.int .i64))) (hb0 : L0.length ≤ 1048576) (_ : -9223372036854775808 ≤ x1) (_ : x1 ≤ 9223372036854775807) :
    Calls Try.prog 22 #[.agg #[.slice a0 L0.length c0], .int .i64 x1] w (SlPost (lenL L0 x1) w) :=
  spec_LengthsOf L0 x1 a0 c0 w hr0.sl hb0
theorem cs_DeltaOf (L0 : List Int) (a0 : Option Addr) (c0 : Nat) (x1 : Int) (w : World) (hr0 : SlW w a0 c0 (L0.map (Value.int .i64))) (hb0 : L0.length ≤ 1048576) (_ : -9223372036854775808 ≤ x1) (_ : x1 ≤ 9223372036854775807) :
    Calls Try.prog 27 #[.agg #[.slice a0 L0.length c0], .int .i64 x1] w (SlPost (deltaL L0 x1) w) :=
  spec_DeltaOf L0 x1 a0 c0 w hr0.sl hb0
theorem cs_ElasticityOf (L0 : List Int) (a0 : Option Addr) (c0 : Nat) (x1 : Int) (w : World) (hr0 : SlW w a0 c0 (L0.map (Value.int .i64))) (hb0 : L0.length ≤ 1048576) (_ : -9223372036854775808 ≤ x1) (_ : x1 ≤ 9223372036854775807) :
    Calls Try.prog 29 #[.agg #[.slice a0 L0.length c0], .int .i64 x1] w fun e w' => e = .returned (.tuple #[.int .i64 (elaA L0 x1), .int .i64 (elaB L0 x1)]) ∧ Below w.heap.size w w' :=
  spec_ElasticityOf L0 x1 a0 c0 w hr0.sl hb0
theorem cs_DeltaSet (L0 : List Int) (a0 : Option Addr) (c0 : Nat) (x1 : Int) (w : World) (hr0 : SlW w a0 c0 (L0.map (Value.int .i64))) (hb0 : L0.length ≤ 1048576) (_ : -9223372036854775808 ≤ x1) (_ : x1 ≤ 9223372036854775807) :
    Calls Try.prog 31 #[.agg #[.slice a0 L0.length c0], .int .i64 x1] w (SlPost (deltasL L0 x1) w) :=
  spec_DeltaSet L0 x1 a0 c0 w hr0.sl hb0
theorem ci_LengthsOf (L0 : List Int) (a0 : Option Addr) (c0 : Nat) (x1 : Int) (w : World) (hr0 : SlW w a0 c0 (L0.map (Value.int .i64))) (hb0 : L0.length ≤ 1048576) (_ : -9223372036854775808 ≤ x1) (_ : x1 ≤ 9223372036854775807) :
    Calls Try.prog 23 #[.agg #[.slice a0 L0.length c0], .int .i64 x1] w (SlPost (lenL L0 x1) w) :=
  impl_LengthsOf L0 x1 a0 c0 w hr0.sl hb0
theorem ci_DeltaOf (L0 : List Int) (a0 : Option Addr) (c0 : Nat) (x1 : Int) (w : World) (hr0 : SlW w a0 c0 (L0.map (Value.int .i64))) (hb0 : L0.length ≤ 1048576) (_ : -9223372036854775808 ≤ x1) (_ : x1 ≤ 9223372036854775807) :
    Calls Try.prog 28 #[.agg #[.slice a0 L0.length c0], .int .i64 x1] w (SlPost (deltaL L0 x1) w) :=
  impl_DeltaOf L0 x1 a0 c0 w hr0.sl hb0
theorem ci_ElasticityOf (L0 : List Int) (a0 : Option Addr) (c0 : Nat) (x1 : Int) (w : World) (hr0 : SlW w a0 c0 (L0.map (Value.int .i64))) (hb0 : L0.length ≤ 1048576) (_ : -9223372036854775808 ≤ x1) (_ : x1 ≤ 9223372036854775807) :
    Calls Try.prog 30 #[.agg #[.slice a0 L0.length c0], .int .i64 x1] w fun e w' => e = .returned (.tuple #[.int .i64 (elaA L0 x1), .int .i64 (elaB L0 x1)]) ∧ Below w.heap.size w w' :=
  impl_ElasticityOf L0 x1 a0 c0 w hr0.sl hb0
theorem ci_DeltaSet (L0 : List Int) (a0 : Option Addr) (c0 : Nat) (x1 : Int) (w : World) (hr0 : SlW w a0 c0 (L0.map (Value.int .i64))) (hb0 : L0.length ≤ 1048576) (_ : -9223372036854775808 ≤ x1) (_ : x1 ≤ 9223372036854775807) :
    Calls Try.prog 32 #[.agg #[.slice a0 L0.length c0], .int .i64 x1] w (SlPost (deltasL L0 x1) w) :=
  impl_DeltaSet L0 x1 a0 c0 w hr0.sl hb0
end Go.Proofs.Ytelpgepeahkblaa
