/-
  THE CONTRACTS OF CHAPTER 23 IN THE CANONICAL FORM (genlaw.py). (Own work: mkC15.py.)
-/
import Derived.Test.YtopnehkhigacpaaSgFe
import Derived.Test.YtopnehkhigacpaaL73
import Derived.Test.YtopnehkhigacpaaI73
import Derived.Test.YtopnehkhigacpaaSgL
namespace Go.Proofs.Ytopnehkhigacpaa
open Go Go.RowKit

theorem cs_PairFrobenius (x0 : Int) (x1 : Int) (w : World) (_ : -9223372036854775808 ≤ x0) (_ : x0 ≤ 9223372036854775807) (_ : -9223372036854775808 ≤ x1) (_ : x1 ≤ 9223372036854775807) :
    Calls Try.prog 31 #[.int .i64 x0, .int .i64 x1] w fun e w' => e = .returned (.int .i64 (pairF x0 x1)) ∧ Below w.heap.size w w' :=
  spec_PairFrobenius x0 x1 w
theorem cs_PairGenus (x0 : Int) (x1 : Int) (w : World) (_ : -9223372036854775808 ≤ x0) (_ : x0 ≤ 9223372036854775807) (_ : -9223372036854775808 ≤ x1) (_ : x1 ≤ 9223372036854775807) :
    Calls Try.prog 33 #[.int .i64 x0, .int .i64 x1] w fun e w' => e = .returned (.int .i64 (pairG x0 x1)) ∧ Below w.heap.size w w' :=
  spec_PairGenus x0 x1 w
theorem cs_RunFrobenius (x0 : Int) (x1 : Int) (x2 : Int) (w : World) (_ : -9223372036854775808 ≤ x0) (_ : x0 ≤ 9223372036854775807) (_ : -9223372036854775808 ≤ x1) (_ : x1 ≤ 9223372036854775807) (_ : -9223372036854775808 ≤ x2) (_ : x2 ≤ 9223372036854775807) :
    Calls Try.prog 37 #[.int .i64 x0, .int .i64 x1, .int .i64 x2] w fun e w' => e = .returned (.int .i64 (runF x0 x1 x2)) ∧ Below w.heap.size w w' :=
  spec_RunFrobenius x0 x1 x2 w
theorem cs_PairWays (x0 : Int) (x1 : Int) (x2 : Int) (w : World) (_ : -9223372036854775808 ≤ x0) (_ : x0 ≤ 9223372036854775807) (_ : -9223372036854775808 ≤ x1) (_ : x1 ≤ 9223372036854775807) (_ : -9223372036854775808 ≤ x2) (_ : x2 ≤ 9223372036854775807) :
    Calls Try.prog 35 #[.int .i64 x0, .int .i64 x1, .int .i64 x2] w fun e w' => e = .returned (.int .i64 (pairW x0 x1 x2)) ∧ Below w.heap.size w w' :=
  spec_PairWays x0 x1 x2 w
theorem ci_PairFrobenius (x0 : Int) (x1 : Int) (w : World) (_ : -9223372036854775808 ≤ x0) (_ : x0 ≤ 9223372036854775807) (_ : -9223372036854775808 ≤ x1) (_ : x1 ≤ 9223372036854775807) :
    Calls Try.prog 32 #[.int .i64 x0, .int .i64 x1] w fun e w' => e = .returned (.int .i64 (pairF x0 x1)) ∧ Below w.heap.size w w' :=
  impl_PairFrobenius x0 x1 w
theorem ci_PairGenus (x0 : Int) (x1 : Int) (w : World) (_ : -9223372036854775808 ≤ x0) (_ : x0 ≤ 9223372036854775807) (_ : -9223372036854775808 ≤ x1) (_ : x1 ≤ 9223372036854775807) :
    Calls Try.prog 34 #[.int .i64 x0, .int .i64 x1] w fun e w' => e = .returned (.int .i64 (pairG x0 x1)) ∧ Below w.heap.size w w' :=
  impl_PairGenus x0 x1 w
theorem ci_RunFrobenius (x0 : Int) (x1 : Int) (x2 : Int) (w : World) (_ : -9223372036854775808 ≤ x0) (_ : x0 ≤ 9223372036854775807) (_ : -9223372036854775808 ≤ x1) (_ : x1 ≤ 9223372036854775807) (_ : -9223372036854775808 ≤ x2) (_ : x2 ≤ 9223372036854775807) :
    Calls Try.prog 38 #[.int .i64 x0, .int .i64 x1, .int .i64 x2] w fun e w' => e = .returned (.int .i64 (runF x0 x1 x2)) ∧ Below w.heap.size w w' :=
  impl_RunFrobenius x0 x1 x2 w
theorem ci_PairWays (x0 : Int) (x1 : Int) (x2 : Int) (w : World) (_ : -9223372036854775808 ≤ x0) (_ : x0 ≤ 9223372036854775807) (_ : -9223372036854775808 ≤ x1) (_ : x1 ≤ 9223372036854775807) (_ : -9223372036854775808 ≤ x2) (_ : x2 ≤ 9223372036854775807) :
    Calls Try.prog 36 #[.int .i64 x0, .int .i64 x1, .int .i64 x2] w fun e w' => e = .returned (.int .i64 (pairW x0 x1 x2)) ∧ Below w.heap.size w w' :=
  impl_PairWays x0 x1 x2 w
end Go.Proofs.Ytopnehkhigacpaa
