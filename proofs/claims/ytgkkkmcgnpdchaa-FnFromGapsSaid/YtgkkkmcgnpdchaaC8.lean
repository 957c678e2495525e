/-
  THE CONTRACTS OF CHAPTER 8 IN THE CANONICAL FORM (genlaw.py).
-/
import Derived.Test.YtgkkkmcgnpdchaaC7
import Derived.Test.YtgkkkmcgnpdchaaL25
import Derived.Test.YtgkkkmcgnpdchaaL26
import Derived.Test.YtgkkkmcgnpdchaaL27
import Derived.Test.YtgkkkmcgnpdchaaI31
import Derived.Test.YtgkkkmcgnpdchaaI32
import Derived.Test.YtgkkkmcgnpdchaaI33
namespace Go.Proofs.Ytgkkkmcgnpdchaa
open Go Go.RowKit

theorem cs_GapClash (L : List Int) (a : Option Addr) (c : Nat) (w : World) (hr : SlW w a c (L.map (Value.int .i64))) (hb : L.length ≤ 1048576) :
    Calls Try.prog 29 #[.slice a L.length c] w (ClPost (gapA L) (gapB' L) (gapQ L) w) :=
  spec_GapClash L a c w hr.sl hb
theorem cs_FromGaps (L : List Int) (a : Option Addr) (c : Nat) (w : World) (hr : SlW w a c (L.map (Value.int .i64))) (hb : L.length ≤ 1048576) :
    Calls Try.prog 27 #[.slice a L.length c] w (SgPost (fromGpL L) (fromGpB L) w) :=
  spec_FromGaps L a c w hr.sl hb
theorem cs_FromElements (L : List Int) (a : Option Addr) (c : Nat) (x1 : Int) (w : World) (hr : SlW w a c (L.map (Value.int .i64))) (hb : L.length ≤ 1048576) (_ : -9223372036854775808 ≤ x1) (_ : x1 ≤ 9223372036854775807) :
    Calls Try.prog 32 #[.slice a L.length c, .int .i64 x1] w (SgPost (fromElL L x1) (fromElB L x1) w) :=
  spec_FromElements L x1 a c w hr.sl hb ‹_› ‹_›
theorem ci_GapClash (L : List Int) (a : Option Addr) (c : Nat) (w : World) (hr : SlW w a c (L.map (Value.int .i64))) (hb : L.length ≤ 1048576) :
    Calls Try.prog 28 #[.slice a L.length c] w (ClPost (gapA L) (gapB' L) (gapQ L) w) :=
  impl_GapClash L a c w hr.sl hb
theorem ci_FromGaps (L : List Int) (a : Option Addr) (c : Nat) (w : World) (hr : SlW w a c (L.map (Value.int .i64))) (hb : L.length ≤ 1048576) :
    Calls Try.prog 26 #[.slice a L.length c] w (SgPost (fromGpL L) (fromGpB L) w) :=
  impl_FromGaps L a c w hr.sl hb
theorem ci_FromElements (L : List Int) (a : Option Addr) (c : Nat) (x1 : Int) (w : World) (hr : SlW w a c (L.map (Value.int .i64))) (hb : L.length ≤ 1048576) (_ : -9223372036854775808 ≤ x1) (_ : x1 ≤ 9223372036854775807) :
    Calls Try.prog 31 #[.slice a L.length c, .int .i64 x1] w (SgPost (fromElL L x1) (fromElB L x1) w) :=
  impl_FromElements L x1 a c w hr.sl hb
end Go.Proofs.Ytgkkkmcgnpdchaa
