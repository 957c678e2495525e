/-
  THE CONTRACTS OF CHAPTER 10 IN THE CANONICAL FORM (genlaw.py). (Own work.)
-/
import Derived.Test.YtclhpggejppadaaL36
import Derived.Test.YtclhpggejppadaaI37
import Derived.Test.YtclhpggejppadaaSgL
namespace Go.Proofs.Ytclhpggejppadaa
open Go Go.RowKit

theorem cs_IsBelow (L0 : List Int) (a0 : Option Addr) (c0 : Nat) (x1 : Int) (x2 : Int) (w : World) (hr0 : SlW w a0 c0 (L0.map (Value.int .i64))) (hb0 : L0.length ≤ 1048576) (_ : -9223372036854775808 ≤ x1) (_ : x1 ≤ 9223372036854775807) (_ : -9223372036854775808 ≤ x2) (_ : x2 ≤ 9223372036854775807) :
    Calls Try.prog 21 #[.agg #[.slice a0 L0.length c0], .int .i64 x1, .int .i64 x2] w fun e w' => e = .returned (.bool (belowB L0 x1 x2)) ∧ Below w.heap.size w w' :=
  spec_IsBelow L0 x1 x2 a0 c0 w hr0.sl hb0
theorem cs_MaximalOf (L0 : List Int) (a0 : Option Addr) (c0 : Nat) (L1 : List Int) (a1 : Option Addr) (c1 : Nat) (w : World) (hr0 : SlW w a0 c0 (L0.map (Value.int .i64))) (hr1 : SlW w a1 c1 (L1.map (Value.int .i64))) (hb0 : L0.length ≤ 1048576) (hb1 : L1.length ≤ 1048576)  :
    Calls Try.prog 18 #[.agg #[.slice a0 L0.length c0], .slice a1 L1.length c1] w (SlPost (topL L0 L1 false) w) :=
  spec_MaximalOf L0 L1 a0 c0 a1 c1 w hr0.sl hr1.sl hb0 hb1
theorem cs_MinimalIn (L0 : List Int) (a0 : Option Addr) (c0 : Nat) (L1 : List Int) (a1 : Option Addr) (c1 : Nat) (w : World) (hr0 : SlW w a0 c0 (L0.map (Value.int .i64))) (hr1 : SlW w a1 c1 (L1.map (Value.int .i64))) (hb0 : L0.length ≤ 1048576) (hb1 : L1.length ≤ 1048576)  :
    Calls Try.prog 19 #[.agg #[.slice a0 L0.length c0], .slice a1 L1.length c1] w (SlPost (topL L0 L1 true) w) :=
  spec_MinimalIn L0 L1 a0 c0 a1 c1 w hr0.sl hr1.sl hb0 hb1
theorem cs_ExceedingOf (L0 : List Int) (a0 : Option Addr) (c0 : Nat) (x1 : Int) (w : World) (hr0 : SlW w a0 c0 (L0.map (Value.int .i64))) (hb0 : L0.length ≤ 1048576) (_ : -9223372036854775808 ≤ x1) (_ : x1 ≤ 9223372036854775807) :
    Calls Try.prog 17 #[.agg #[.slice a0 L0.length c0], .int .i64 x1] w (SlPost (excL L0 x1) w) :=
  spec_ExceedingOf L0 x1 a0 c0 w hr0.sl hb0
theorem ci_IsBelow (L0 : List Int) (a0 : Option Addr) (c0 : Nat) (x1 : Int) (x2 : Int) (w : World) (hr0 : SlW w a0 c0 (L0.map (Value.int .i64))) (hb0 : L0.length ≤ 1048576) (_ : -9223372036854775808 ≤ x1) (_ : x1 ≤ 9223372036854775807) (_ : -9223372036854775808 ≤ x2) (_ : x2 ≤ 9223372036854775807) :
    Calls Try.prog 20 #[.agg #[.slice a0 L0.length c0], .int .i64 x1, .int .i64 x2] w fun e w' => e = .returned (.bool (belowB L0 x1 x2)) ∧ Below w.heap.size w w' :=
  impl_IsBelow L0 x1 x2 a0 c0 w hr0.sl hb0
theorem ci_MaximalOf (L0 : List Int) (a0 : Option Addr) (c0 : Nat) (L1 : List Int) (a1 : Option Addr) (c1 : Nat) (w : World) (hr0 : SlW w a0 c0 (L0.map (Value.int .i64))) (hr1 : SlW w a1 c1 (L1.map (Value.int .i64))) (hb0 : L0.length ≤ 1048576) (hb1 : L1.length ≤ 1048576)  :
    Calls Try.prog 13 #[.agg #[.slice a0 L0.length c0], .slice a1 L1.length c1] w (SlPost (topL L0 L1 false) w) :=
  impl_MaximalOf L0 L1 a0 c0 a1 c1 w hr0.sl hr1.sl hb0 hb1
theorem ci_MinimalIn (L0 : List Int) (a0 : Option Addr) (c0 : Nat) (L1 : List Int) (a1 : Option Addr) (c1 : Nat) (w : World) (hr0 : SlW w a0 c0 (L0.map (Value.int .i64))) (hr1 : SlW w a1 c1 (L1.map (Value.int .i64))) (hb0 : L0.length ≤ 1048576) (hb1 : L1.length ≤ 1048576)  :
    Calls Try.prog 14 #[.agg #[.slice a0 L0.length c0], .slice a1 L1.length c1] w (SlPost (topL L0 L1 true) w) :=
  impl_MinimalIn L0 L1 a0 c0 a1 c1 w hr0.sl hr1.sl hb0 hb1
theorem ci_ExceedingOf (L0 : List Int) (a0 : Option Addr) (c0 : Nat) (x1 : Int) (w : World) (hr0 : SlW w a0 c0 (L0.map (Value.int .i64))) (hb0 : L0.length ≤ 1048576) (lo1 : -9223372036854775808 ≤ x1) (hi1 : x1 ≤ 9223372036854775807) :
    Calls Try.prog 11 #[.agg #[.slice a0 L0.length c0], .int .i64 x1] w (SlPost (excL L0 x1) w) :=
  impl_ExceedingOf L0 x1 a0 c0 w hr0.sl hb0 lo1 hi1
end Go.Proofs.Ytclhpggejppadaa
