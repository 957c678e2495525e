/-
  THE CONTRACTS OF CHAPTER 24c IN THE CANONICAL FORM (genlaw.py). (Own work: mkC15.py.)
-/
import Derived.Test.YtipfonpaaebjjaaGreatSgAc
import Derived.Test.YtipfonpaaebjjaaGreatL78
import Derived.Test.YtipfonpaaebjjaaGreatI78
import Derived.Test.YtipfonpaaebjjaaGreatSgL
namespace Go.Proofs.YtipfonpaaebjjaaGreat
open Go Go.RowKit

theorem cs_ArfClosure (L0 : List Int) (a0 : Option Addr) (c0 : Nat) (w : World) (hr0 : SlW w a0 c0 (L0.map (Value.int .i64))) (hb0 : L0.length ≤ 1048576) :
    Calls Tryz.prog 22 #[.agg #[.slice a0 L0.length c0]] w (SgPost (cloL L0) (cloB L0) w) :=
  spec_ArfClosure L0 a0 c0 w hr0.sl hb0
theorem ci_ArfClosure (L0 : List Int) (a0 : Option Addr) (c0 : Nat) (w : World) (hr0 : SlW w a0 c0 (L0.map (Value.int .i64))) (hb0 : L0.length ≤ 1048576) :
    Calls Tryz.prog 21 #[.agg #[.slice a0 L0.length c0]] w (SgPost (cloL L0) (cloB L0) w) :=
  impl_ArfClosure L0 a0 c0 w hr0.sl hb0
end Go.Proofs.YtipfonpaaebjjaaGreat
