/-
  THE CONTRACTS OF CHAPTER 15 IN THE CANONICAL FORM (genlaw.py). (Own work: mkC15.py.)
-/
import Derived.Test.YtlinlmmcgifloaaSgSr
import Derived.Test.YtlinlmmcgifloaaSgEu
import Derived.Test.YtlinlmmcgifloaaL51
import Derived.Test.YtlinlmmcgifloaaL52
import Derived.Test.YtlinlmmcgifloaaL56
import Derived.Test.YtlinlmmcgifloaaI52
import Derived.Test.YtlinlmmcgifloaaI53
import Derived.Test.YtlinlmmcgifloaaI54
import Derived.Test.YtlinlmmcgifloaaSgL
namespace Go.Proofs.Ytlinlmmcgifloaa
open Go Go.RowKit

theorem cs_NumeratorOf (L0 : List Int) (a0 : Option Addr) (c0 : Nat) (w : World) (hr0 : SlW w a0 c0 (L0.map (Value.int .i64))) (hb0 : L0.length ≤ 1048576) :
    Calls Try.prog 31 #[.agg #[.slice a0 L0.length c0]] w (SlPost (numL L0) w) :=
  spec_NumeratorOf L0 a0 c0 w hr0.sl hb0
theorem cs_SeriesFrom (L0 : List Int) (a0 : Option Addr) (c0 : Nat) (x1 : Int) (w : World) (hr0 : SlW w a0 c0 (L0.map (Value.int .i64))) (hb0 : L0.length ≤ 1048576) (_ : -9223372036854775808 ≤ x1) (_ : x1 ≤ 9223372036854775807) :
    Calls Try.prog 33 #[.slice a0 L0.length c0, .int .i64 x1] w (SlPost (seriesL L0 x1) w) :=
  spec_SeriesFrom L0 x1 a0 c0 w hr0.sl hb0
theorem cs_IsPalindrome (L0 : List Int) (a0 : Option Addr) (c0 : Nat) (w : World) (hr0 : SlW w a0 c0 (L0.map (Value.int .i64))) (hb0 : L0.length ≤ 1048576) :
    Calls Try.prog 35 #[.slice a0 L0.length c0] w fun e w' => e = .returned (.bool (palB L0)) ∧ Below w.heap.size w w' :=
  spec_IsPalindrome L0 a0 c0 w hr0.sl hb0
theorem cs_MultiplyLists (L0 : List Int) (a0 : Option Addr) (c0 : Nat) (L1 : List Int) (a1 : Option Addr) (c1 : Nat) (w : World) (hr0 : SlW w a0 c0 (L0.map (Value.int .i64))) (hr1 : SlW w a1 c1 (L1.map (Value.int .i64))) (hb0 : L0.length ≤ 1048576) (hb1 : L1.length ≤ 1048576) :
    Calls Try.prog 37 #[.slice a0 L0.length c0, .slice a1 L1.length c1] w (SlPost (mulL L0 L1) w) :=
  spec_MultiplyLists L0 L1 a0 c0 a1 c1 w hr0.sl hr1.sl hb0 hb1
theorem ci_NumeratorOf (L0 : List Int) (a0 : Option Addr) (c0 : Nat) (w : World) (hr0 : SlW w a0 c0 (L0.map (Value.int .i64))) (hb0 : L0.length ≤ 1048576) :
    Calls Try.prog 24 #[.agg #[.slice a0 L0.length c0]] w (SlPost (numL L0) w) :=
  impl_NumeratorOf L0 a0 c0 w hr0.sl hb0
theorem ci_SeriesFrom (L0 : List Int) (a0 : Option Addr) (c0 : Nat) (x1 : Int) (w : World) (hr0 : SlW w a0 c0 (L0.map (Value.int .i64))) (hb0 : L0.length ≤ 1048576) (_ : -9223372036854775808 ≤ x1) (_ : x1 ≤ 9223372036854775807) :
    Calls Try.prog 32 #[.slice a0 L0.length c0, .int .i64 x1] w (SlPost (seriesL L0 x1) w) :=
  impl_SeriesFrom L0 x1 a0 c0 w hr0.sl hb0
theorem ci_IsPalindrome (L0 : List Int) (a0 : Option Addr) (c0 : Nat) (w : World) (hr0 : SlW w a0 c0 (L0.map (Value.int .i64))) (hb0 : L0.length ≤ 1048576) :
    Calls Try.prog 34 #[.slice a0 L0.length c0] w fun e w' => e = .returned (.bool (palB L0)) ∧ Below w.heap.size w w' :=
  impl_IsPalindrome L0 a0 c0 w hr0.sl hb0
theorem ci_MultiplyLists (L0 : List Int) (a0 : Option Addr) (c0 : Nat) (L1 : List Int) (a1 : Option Addr) (c1 : Nat) (w : World) (hr0 : SlW w a0 c0 (L0.map (Value.int .i64))) (hr1 : SlW w a1 c1 (L1.map (Value.int .i64))) (hb0 : L0.length ≤ 1048576) (hb1 : L1.length ≤ 1048576) :
    Calls Try.prog 36 #[.slice a0 L0.length c0, .slice a1 L1.length c1] w (SlPost (mulL L0 L1) w) :=
  impl_MultiplyLists L0 L1 a0 c0 a1 c1 w hr0.sl hr1.sl hb0 hb1
end Go.Proofs.Ytlinlmmcgifloaa
