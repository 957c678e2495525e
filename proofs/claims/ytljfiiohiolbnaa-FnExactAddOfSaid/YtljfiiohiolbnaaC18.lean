/-
  THE CONTRACTS OF CHAPTER 18 IN THE CANONICAL FORM (genlaw.py). (Own work: mkC15.py.)
-/
import Derived.Test.YtljfiiohiolbnaaSgId
import Derived.Test.YtljfiiohiolbnaaL55
import Derived.Test.YtljfiiohiolbnaaL58
import Derived.Test.YtljfiiohiolbnaaI58
import Derived.Test.YtljfiiohiolbnaaI59
import Derived.Test.YtljfiiohiolbnaaI63
import Derived.Test.YtljfiiohiolbnaaSgL
namespace Go.Proofs.Ytljfiiohiolbnaa
open Go Go.RowKit

theorem cs_IsWithin (L0 : List Int) (a0 : Option Addr) (c0 : Nat) (L1 : List Int) (a1 : Option Addr) (c1 : Nat) (w : World) (hr0 : SlW w a0 c0 (L0.map (Value.int .i64))) (hr1 : SlW w a1 c1 (L1.map (Value.int .i64))) (hb0 : L0.length ≤ 1048576) (hb1 : L1.length ≤ 1048576) :
    Calls Try.prog 29 #[.agg #[.slice a0 L0.length c0], .agg #[.slice a1 L1.length c1]] w fun e w' => e = .returned (.bool (withinB L0 L1)) ∧ Below w.heap.size w w' :=
  spec_IsWithin L0 L1 a0 c0 a1 c1 w hr0.sl hr1.sl hb0 hb1
theorem cs_MeetOf (L0 : List Int) (a0 : Option Addr) (c0 : Nat) (L1 : List Int) (a1 : Option Addr) (c1 : Nat) (w : World) (hr0 : SlW w a0 c0 (L0.map (Value.int .i64))) (hr1 : SlW w a1 c1 (L1.map (Value.int .i64))) (hb0 : L0.length ≤ 1048576) (hb1 : L1.length ≤ 1048576) :
    Calls Try.prog 23 #[.agg #[.slice a0 L0.length c0], .agg #[.slice a1 L1.length c1]] w (SgPost (meetL L0 L1) (meetB L0 L1) w) :=
  spec_MeetOf L0 L1 a0 c0 a1 c1 w hr0.sl hr1.sl hb0 hb1
theorem cs_AddOf (L0 : List Int) (a0 : Option Addr) (c0 : Nat) (L1 : List Int) (a1 : Option Addr) (c1 : Nat) (w : World) (hr0 : SlW w a0 c0 (L0.map (Value.int .i64))) (hr1 : SlW w a1 c1 (L1.map (Value.int .i64))) (hb0 : L0.length ≤ 1048576) (hb1 : L1.length ≤ 1048576) :
    Calls Try.prog 26 #[.agg #[.slice a0 L0.length c0], .agg #[.slice a1 L1.length c1]] w (SgPost (addL L0 L1) (addB L0 L1) w) :=
  spec_AddOf L0 L1 a0 c0 a1 c1 w hr0.sl hr1.sl hb0 hb1
theorem ci_IsWithin (L0 : List Int) (a0 : Option Addr) (c0 : Nat) (L1 : List Int) (a1 : Option Addr) (c1 : Nat) (w : World) (hr0 : SlW w a0 c0 (L0.map (Value.int .i64))) (hr1 : SlW w a1 c1 (L1.map (Value.int .i64))) (hb0 : L0.length ≤ 1048576) (hb1 : L1.length ≤ 1048576) :
    Calls Try.prog 28 #[.agg #[.slice a0 L0.length c0], .agg #[.slice a1 L1.length c1]] w fun e w' => e = .returned (.bool (withinB L0 L1)) ∧ Below w.heap.size w w' :=
  impl_IsWithin L0 L1 a0 c0 a1 c1 w hr0.sl hr1.sl hb0 hb1
theorem ci_MeetOf (L0 : List Int) (a0 : Option Addr) (c0 : Nat) (L1 : List Int) (a1 : Option Addr) (c1 : Nat) (w : World) (hr0 : SlW w a0 c0 (L0.map (Value.int .i64))) (hr1 : SlW w a1 c1 (L1.map (Value.int .i64))) (hb0 : L0.length ≤ 1048576) (hb1 : L1.length ≤ 1048576) :
    Calls Try.prog 22 #[.agg #[.slice a0 L0.length c0], .agg #[.slice a1 L1.length c1]] w (SgPost (meetL L0 L1) (meetB L0 L1) w) :=
  impl_MeetOf L0 L1 a0 c0 a1 c1 w hr0.sl hr1.sl hb0 hb1
theorem ci_AddOf (L0 : List Int) (a0 : Option Addr) (c0 : Nat) (L1 : List Int) (a1 : Option Addr) (c1 : Nat) (w : World) (hr0 : SlW w a0 c0 (L0.map (Value.int .i64))) (hr1 : SlW w a1 c1 (L1.map (Value.int .i64))) (hb0 : L0.length ≤ 1048576) (hb1 : L1.length ≤ 1048576) :
    Calls Try.prog 25 #[.agg #[.slice a0 L0.length c0], .agg #[.slice a1 L1.length c1]] w (SgPost (addL L0 L1) (addB L0 L1) w) :=
  impl_AddOf L0 L1 a0 c0 a1 c1 w hr0.sl hr1.sl hb0 hb1
end Go.Proofs.Ytljfiiohiolbnaa
