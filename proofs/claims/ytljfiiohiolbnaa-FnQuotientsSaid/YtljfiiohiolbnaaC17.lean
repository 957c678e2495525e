/-
  THE CONTRACTS OF CHAPTER 17 IN THE CANONICAL FORM (genlaw.py). (Own work: mkC15.py.)
-/
import Derived.Test.YtljfiiohiolbnaaSgId
import Derived.Test.YtljfiiohiolbnaaL55
import Derived.Test.YtljfiiohiolbnaaI58
import Derived.Test.YtljfiiohiolbnaaI59
import Derived.Test.YtljfiiohiolbnaaSgL
namespace Go.Proofs.Ytljfiiohiolbnaa
open Go Go.RowKit

theorem cs_QuotientOf (L0 : List Int) (a0 : Option Addr) (c0 : Nat) (x1 : Int) (w : World) (hr0 : SlW w a0 c0 (L0.map (Value.int .i64))) (hb0 : L0.length ≤ 1048576) (_ : -9223372036854775808 ≤ x1) (_ : x1 ≤ 9223372036854775807) :
    Calls Try.prog 13 #[.agg #[.slice a0 L0.length c0], .int .i64 x1] w (SgPost (quotL L0 x1) (quotB L0 x1) w) :=
  spec_QuotientOf L0 x1 a0 c0 w hr0.sl hb0
theorem cs_ScaledElements (L0 : List Int) (a0 : Option Addr) (c0 : Nat) (x1 : Int) (x2 : Int) (w : World) (hr0 : SlW w a0 c0 (L0.map (Value.int .i64))) (hb0 : L0.length ≤ 1048576) (_ : -9223372036854775808 ≤ x1) (_ : x1 ≤ 9223372036854775807) (_ : -9223372036854775808 ≤ x2) (_ : x2 ≤ 9223372036854775807) :
    Calls Try.prog 18 #[.agg #[.slice a0 L0.length c0], .int .i64 x1, .int .i64 x2] w (SlPost (scaledL L0 x1 x2) w) :=
  spec_ScaledElements L0 x1 x2 a0 c0 w hr0.sl hb0
theorem ci_QuotientOf (L0 : List Int) (a0 : Option Addr) (c0 : Nat) (x1 : Int) (w : World) (hr0 : SlW w a0 c0 (L0.map (Value.int .i64))) (hb0 : L0.length ≤ 1048576) (_ : -9223372036854775808 ≤ x1) (_ : x1 ≤ 9223372036854775807) :
    Calls Try.prog 12 #[.agg #[.slice a0 L0.length c0], .int .i64 x1] w (SgPost (quotL L0 x1) (quotB L0 x1) w) :=
  impl_QuotientOf L0 x1 a0 c0 w hr0.sl hb0
theorem ci_ScaledElements (L0 : List Int) (a0 : Option Addr) (c0 : Nat) (x1 : Int) (x2 : Int) (w : World) (hr0 : SlW w a0 c0 (L0.map (Value.int .i64))) (hb0 : L0.length ≤ 1048576) (_ : -9223372036854775808 ≤ x1) (_ : x1 ≤ 9223372036854775807) (_ : -9223372036854775808 ≤ x2) (_ : x2 ≤ 9223372036854775807) :
    Calls Try.prog 17 #[.agg #[.slice a0 L0.length c0], .int .i64 x1, .int .i64 x2] w (SlPost (scaledL L0 x1 x2) w) :=
  impl_ScaledElements L0 x1 x2 a0 c0 w hr0.sl hb0
end Go.Proofs.Ytljfiiohiolbnaa
