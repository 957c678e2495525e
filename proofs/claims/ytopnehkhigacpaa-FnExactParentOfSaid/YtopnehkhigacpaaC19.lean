/-
  THE CONTRACTS OF CHAPTER 19 IN THE CANONICAL FORM (genlaw.py). (Own work: mkC15.py.)
-/
import Derived.Test.YtopnehkhigacpaaSgOv
import Derived.Test.YtopnehkhigacpaaL71
import Derived.Test.YtopnehkhigacpaaI71
import Derived.Test.YtopnehkhigacpaaSgL
namespace Go.Proofs.Ytopnehkhigacpaa
open Go Go.RowKit

theorem cs_AddGap (L0 : List Int) (a0 : Option Addr) (c0 : Nat) (x1 : Int) (w : World) (hr0 : SlW w a0 c0 (L0.map (Value.int .i64))) (hb0 : L0.length ≤ 1048576) (_ : -9223372036854775808 ≤ x1) (_ : x1 ≤ 9223372036854775807) :
    Calls Try.prog 15 #[.agg #[.slice a0 L0.length c0], .int .i64 x1] w (SgPost (insL L0 x1) (insB L0 x1) w) :=
  spec_AddGap L0 x1 a0 c0 w hr0.sl hb0
theorem cs_RemoveGenerator (L0 : List Int) (a0 : Option Addr) (c0 : Nat) (x1 : Int) (w : World) (hr0 : SlW w a0 c0 (L0.map (Value.int .i64))) (hb0 : L0.length ≤ 1048576) (_ : -9223372036854775808 ≤ x1) (_ : x1 ≤ 9223372036854775807) :
    Calls Try.prog 21 #[.agg #[.slice a0 L0.length c0], .int .i64 x1] w (SgPost (remL L0 x1) (remB L0 x1) w) :=
  spec_RemoveGenerator L0 x1 a0 c0 w hr0.sl hb0
theorem cs_ParentOf (L0 : List Int) (a0 : Option Addr) (c0 : Nat) (w : World) (hr0 : SlW w a0 c0 (L0.map (Value.int .i64))) (hb0 : L0.length ≤ 1048576) :
    Calls Try.prog 23 #[.agg #[.slice a0 L0.length c0]] w (SgPost (parL L0) (parB L0) w) :=
  spec_ParentOf L0 a0 c0 w hr0.sl hb0
theorem ci_AddGap (L0 : List Int) (a0 : Option Addr) (c0 : Nat) (x1 : Int) (w : World) (hr0 : SlW w a0 c0 (L0.map (Value.int .i64))) (hb0 : L0.length ≤ 1048576) (_ : -9223372036854775808 ≤ x1) (_ : x1 ≤ 9223372036854775807) :
    Calls Try.prog 17 #[.agg #[.slice a0 L0.length c0], .int .i64 x1] w (SgPost (insL L0 x1) (insB L0 x1) w) :=
  impl_AddGap L0 x1 a0 c0 w hr0.sl hb0
theorem ci_RemoveGenerator (L0 : List Int) (a0 : Option Addr) (c0 : Nat) (x1 : Int) (w : World) (hr0 : SlW w a0 c0 (L0.map (Value.int .i64))) (hb0 : L0.length ≤ 1048576) (_ : -9223372036854775808 ≤ x1) (_ : x1 ≤ 9223372036854775807) :
    Calls Try.prog 22 #[.agg #[.slice a0 L0.length c0], .int .i64 x1] w (SgPost (remL L0 x1) (remB L0 x1) w) :=
  impl_RemoveGenerator L0 x1 a0 c0 w hr0.sl hb0
theorem ci_ParentOf (L0 : List Int) (a0 : Option Addr) (c0 : Nat) (w : World) (hr0 : SlW w a0 c0 (L0.map (Value.int .i64))) (hb0 : L0.length ≤ 1048576) :
    Calls Try.prog 24 #[.agg #[.slice a0 L0.length c0]] w (SgPost (parL L0) (parB L0) w) :=
  impl_ParentOf L0 a0 c0 w hr0.sl hb0
end Go.Proofs.Ytopnehkhigacpaa
