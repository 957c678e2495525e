/-
  THE CONTRACTS OF CHAPTER 15 IN THE CANONICAL FORM (genlaw.py). (Own work: mkC15.py.)
-/
import Derived.Test.YtikfaogopjinaaaSgSr
import Derived.Test.YtikfaogopjinaaaSgEu
import Derived.Test.YtikfaogopjinaaaL51
import Derived.Test.YtikfaogopjinaaaL52
import Derived.Test.YtikfaogopjinaaaL56
import Derived.Test.YtikfaogopjinaaaI52
import Derived.Test.YtikfaogopjinaaaI53
import Derived.Test.YtikfaogopjinaaaI54
import Derived.Test.YtikfaogopjinaaaSgL
namespace Go.Proofs.Ytikfaogopjinaaa
open Go Go.RowKit

theorem cs_NumeratorOf (L0 : List Int) (a0 : Option Addr) (c0 : Nat) (w : World) (hr0 : SlW w a0 c0 (L0.map (Value.int .i64))) (hb0 : L0.length ≤ 1048576) :
    Calls Try.prog 15 #[.agg #[.slice a0 L0.length c0]] w (SlPost (numL L0) w) :=
  spec_NumeratorOf L0 a0 c0 w hr0.sl hb0
theorem cs_SeriesFrom (L0 : List Int) (a0 : Option Addr) (c0 : Nat) (x1 : Int) (w : World) (hr0 : SlW w a0 c0 (L0.map (Value.int .i64))) (hb0 : L0.length ≤ 1048576) (_ : -9223372036854775808 ≤ x1) (_ : x1 ≤ 9223372036854775807) :
    Calls Try.prog 23 #[.slice a0 L0.length c0, .int .i64 x1] w (SlPost (seriesL L0 x1) w) :=
  spec_SeriesFrom L0 x1 a0 c0 w hr0.sl hb0
theorem cs_IsPalindrome (L0 : List Int) (a0 : Option Addr) (c0 : Nat) (w : World) (hr0 : SlW w a0 c0 (L0.map (Value.int .i64))) (hb0 : L0.length ≤ 1048576) :
    Calls Try.prog 26 #[.slice a0 L0.length c0] w fun e w' => e = .returned (.bool (palB L0)) ∧ Below w.heap.size w w' :=
  spec_IsPalindrome L0 a0 c0 w hr0.sl hb0
theorem cs_MultiplyLists (L0 : List Int) (a0 : Option Addr) (c0 : Nat) (L1 : List Int) (a1 : Option Addr) (c1 : Nat) (w : World) (hr0 : SlW w a0 c0 (L0.map (Value.int .i64))) (hr1 : SlW w a1 c1 (L1.map (Value.int .i64))) (hb0 : L0.length ≤ 1048576) (hb1 : L1.length ≤ 1048576) :
    Calls Try.prog 28 #[.slice a0 L0.length c0, .slice a1 L1.length c1] w (SlPost (mulL L0 L1) w) :=
  spec_MultiplyLists L0 L1 a0 c0 a1 c1 w hr0.sl hr1.sl hb0 hb1
theorem ci_NumeratorOf (L0 : List Int) (a0 : Option Addr) (c0 : Nat) (w : World) (hr0 : SlW w a0 c0 (L0.map (Value.int .i64))) (hb0 : L0.length ≤ 1048576) :
    Calls Try.prog 17 #[.agg #[.slice a0 L0.length c0]] w (SlPost (numL L0) w) :=
  impl_NumeratorOf L0 a0 c0 w hr0.sl hb0
theorem ci_SeriesFrom (L0 : List Int) (a0 : Option Addr) (c0 : Nat) (x1 : Int) (w : World) (hr0 : SlW w a0 c0 (L0.map (Value.int .i64))) (hb0 : L0.length ≤ 1048576) (_ : -9223372036854775808 ≤ x1) (_ : x1 ≤ 9223372036854775807) :
    Calls Try.prog 25 #[.slice a0 L0.length c0, .int .i64 x1] w (SlPost (seriesL L0 x1) w) :=
  impl_SeriesFrom L0 x1 a0 c0 w hr0.sl hb0
theorem ci_IsPalindrome (L0 : List Int) (a0 : Option Addr) (c0 : Nat) (w : World) (hr0 : SlW w a0 c0 (L0.map (Value.int .i64))) (hb0 : L0.length ≤ 1048576) :
    Calls Try.prog 27 #[.slice a0 L0.length c0] w fun e w' => e = .returned (.bool (palB L0)) ∧ Below w.heap.size w w' :=
  impl_IsPalindrome L0 a0 c0 w hr0.sl hb0
theorem ci_MultiplyLists (L0 : List Int) (a0 : Option Addr) (c0 : Nat) (L1 : List Int) (a1 : Option Addr) (c1 : Nat) (w : World) (hr0 : SlW w a0 c0 (L0.map (Value.int .i64))) (hr1 : SlW w a1 c1 (L1.map (Value.int .i64))) (hb0 : L0.length ≤ 1048576) (hb1 : L1.length ≤ 1048576) :
    Calls Try.prog 29 #[.slice a0 L0.length c0, .slice a1 L1.length c1] w (SlPost (mulL L0 L1) w) :=
  impl_MultiplyLists L0 L1 a0 c0 a1 c1 w hr0.sl hr1.sl hb0 hb1
end Go.Proofs.Ytikfaogopjinaaa
