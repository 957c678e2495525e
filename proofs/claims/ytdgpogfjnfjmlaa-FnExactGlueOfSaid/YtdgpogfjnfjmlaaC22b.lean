/-
  THE CONTRACTS OF CHAPTER 22b IN THE CANONICAL FORM (genlaw.py). (Own work: mkC15.py.)
-/
import Derived.Test.YtdgpogfjnfjmlaaSgTe
import Derived.Test.YtdgpogfjnfjmlaaL58
import Derived.Test.YtdgpogfjnfjmlaaL77b
import Derived.Test.YtdgpogfjnfjmlaaI77d
import Derived.Test.YtdgpogfjnfjmlaaSgL
namespace Go.Proofs.Ytdgpogfjnfjmlaa
open Go Go.RowKit

theorem cs_GlueOf (L0 : List Int) (a0 : Option Addr) (c0 : Nat) (L1 : List Int) (a1 : Option Addr) (c1 : Nat) (x2 : Int) (x3 : Int) (w : World) (hr0 : SlW w a0 c0 (L0.map (Value.int .i64))) (hr1 : SlW w a1 c1 (L1.map (Value.int .i64))) (hb0 : L0.length ≤ 1048576) (hb1 : L1.length ≤ 1048576) (_ : -9223372036854775808 ≤ x2) (_ : x2 ≤ 9223372036854775807) (_ : -9223372036854775808 ≤ x3) (_ : x3 ≤ 9223372036854775807) :
    Calls Try.prog 9 #[.agg #[.slice a0 L0.length c0], .agg #[.slice a1 L1.length c1], .int .i64 x2, .int .i64 x3] w (SgPost (gluL L0 L1 x2 x3) (gluB L0 L1 x2 x3) w) :=
  spec_GlueOf L0 L1 x2 x3 a0 c0 a1 c1 w hr0.sl hr1.sl hb0 hb1
theorem cs_GlueFrobenius (L0 : List Int) (a0 : Option Addr) (c0 : Nat) (L1 : List Int) (a1 : Option Addr) (c1 : Nat) (x2 : Int) (x3 : Int) (w : World) (hr0 : SlW w a0 c0 (L0.map (Value.int .i64))) (hr1 : SlW w a1 c1 (L1.map (Value.int .i64))) (hb0 : L0.length ≤ 1048576) (hb1 : L1.length ≤ 1048576) (_ : -9223372036854775808 ≤ x2) (_ : x2 ≤ 9223372036854775807) (_ : -9223372036854775808 ≤ x3) (_ : x3 ≤ 9223372036854775807) :
    Calls Try.prog 15 #[.agg #[.slice a0 L0.length c0], .agg #[.slice a1 L1.length c1], .int .i64 x2, .int .i64 x3] w fun e w' => e = .returned (.int .i64 (gluN L0 L1 x2 x3)) ∧ Below w.heap.size w w' :=
  spec_GlueFrobenius L0 L1 x2 x3 a0 c0 a1 c1 w hr0.sl hr1.sl hb0 hb1
theorem ci_GlueOf (L0 : List Int) (a0 : Option Addr) (c0 : Nat) (L1 : List Int) (a1 : Option Addr) (c1 : Nat) (x2 : Int) (x3 : Int) (w : World) (hr0 : SlW w a0 c0 (L0.map (Value.int .i64))) (hr1 : SlW w a1 c1 (L1.map (Value.int .i64))) (hb0 : L0.length ≤ 1048576) (hb1 : L1.length ≤ 1048576) (_ : -9223372036854775808 ≤ x2) (_ : x2 ≤ 9223372036854775807) (_ : -9223372036854775808 ≤ x3) (_ : x3 ≤ 9223372036854775807) :
    Calls Try.prog 11 #[.agg #[.slice a0 L0.length c0], .agg #[.slice a1 L1.length c1], .int .i64 x2, .int .i64 x3] w (SgPost (gluL L0 L1 x2 x3) (gluB L0 L1 x2 x3) w) :=
  impl_GlueOf L0 L1 x2 x3 a0 c0 a1 c1 w hr0.sl hr1.sl hb0 hb1
theorem ci_GlueFrobenius (L0 : List Int) (a0 : Option Addr) (c0 : Nat) (L1 : List Int) (a1 : Option Addr) (c1 : Nat) (x2 : Int) (x3 : Int) (w : World) (hr0 : SlW w a0 c0 (L0.map (Value.int .i64))) (hr1 : SlW w a1 c1 (L1.map (Value.int .i64))) (hb0 : L0.length ≤ 1048576) (hb1 : L1.length ≤ 1048576) (_ : -9223372036854775808 ≤ x2) (_ : x2 ≤ 9223372036854775807) (_ : -9223372036854775808 ≤ x3) (_ : x3 ≤ 9223372036854775807) :
    Calls Try.prog 16 #[.agg #[.slice a0 L0.length c0], .agg #[.slice a1 L1.length c1], .int .i64 x2, .int .i64 x3] w fun e w' => e = .returned (.int .i64 (gluN L0 L1 x2 x3)) ∧ Below w.heap.size w w' :=
  impl_GlueFrobenius L0 L1 x2 x3 a0 c0 a1 c1 w hr0.sl hr1.sl hb0 hb1
end Go.Proofs.Ytdgpogfjnfjmlaa
