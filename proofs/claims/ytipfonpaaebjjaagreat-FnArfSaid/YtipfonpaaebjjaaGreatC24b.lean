/-
  THE CONTRACTS OF CHAPTER 24b IN THE CANONICAL FORM (genlaw.py). (Own work: mkC15.py.)
-/
import Derived.Test.YtipfonpaaebjjaaGreatSgAr
import Derived.Test.YtipfonpaaebjjaaGreatL76
import Derived.Test.YtipfonpaaebjjaaGreatI76
import Derived.Test.YtipfonpaaebjjaaGreatSgL
namespace Go.Proofs.YtipfonpaaebjjaaGreat
open Go Go.RowKit

theorem cs_ArfFailure (L0 : List Int) (a0 : Option Addr) (c0 : Nat) (w : World) (hr0 : SlW w a0 c0 (L0.map (Value.int .i64))) (hb0 : L0.length ≤ 1048576) :
    Calls Tryz.prog 26 #[.agg #[.slice a0 L0.length c0]] w fun e w' => e = .returned (.tuple #[.int .i64 (arfX (smallL L0) (hasN L0)), .int .i64 (arfY (smallL L0) (hasN L0)), .int .i64 (arfZ (smallL L0) (hasN L0)), .bool (arfQ (smallL L0) (hasN L0))]) ∧ Below w.heap.size w w' :=
  spec_ArfFailure L0 a0 c0 w hr0.sl hb0
theorem cs_IsArf (L0 : List Int) (a0 : Option Addr) (c0 : Nat) (w : World) (hr0 : SlW w a0 c0 (L0.map (Value.int .i64))) (hb0 : L0.length ≤ 1048576) :
    Calls Tryz.prog 31 #[.agg #[.slice a0 L0.length c0]] w fun e w' => e = .returned (.bool (arfB L0)) ∧ Below w.heap.size w w' :=
  spec_IsArf L0 a0 c0 w hr0.sl hb0
theorem ci_ArfFailure (L0 : List Int) (a0 : Option Addr) (c0 : Nat) (w : World) (hr0 : SlW w a0 c0 (L0.map (Value.int .i64))) (hb0 : L0.length ≤ 1048576) :
    Calls Tryz.prog 25 #[.agg #[.slice a0 L0.length c0]] w fun e w' => e = .returned (.tuple #[.int .i64 (arfX (smallL L0) (hasN L0)), .int .i64 (arfY (smallL L0) (hasN L0)), .int .i64 (arfZ (smallL L0) (hasN L0)), .bool (arfQ (smallL L0) (hasN L0))]) ∧ Below w.heap.size w w' :=
  impl_ArfFailure L0 a0 c0 w hr0.sl hb0
theorem ci_IsArf (L0 : List Int) (a0 : Option Addr) (c0 : Nat) (w : World) (hr0 : SlW w a0 c0 (L0.map (Value.int .i64))) (hb0 : L0.length ≤ 1048576) :
    Calls Tryz.prog 24 #[.agg #[.slice a0 L0.length c0]] w fun e w' => e = .returned (.bool (arfB L0)) ∧ Below w.heap.size w w' :=
  impl_IsArf L0 a0 c0 w hr0.sl hb0
end Go.Proofs.YtipfonpaaebjjaaGreat
