/-
  THE WALK OF THE LAW FnExactRunFrobenius FOR EVERY INPUT: small ones by FnExactRunFrobenius.core, greater ones by the law's own test (written by genwalk.py of the verifier's own).
-/
import Derived.Test.YtopnehkhigacpaaCFnExactRunFrobenius
namespace Go.Proofs.Ytopnehkhigacpaa
open Go Go.RowKit

set_option maxRecDepth 100000 in
set_option maxHeartbeats 400000 in
theorem FnExactRunFrobenius.walk (a0 : Int) (lo0 : -9223372036854775808 ≤ a0) (hi0 : a0 ≤ 9223372036854775807) (a1 : Int) (lo1 : -9223372036854775808 ≤ a1) (hi1 : a1 ≤ 9223372036854775807) (a2 : Int) (lo2 : -9223372036854775808 ≤ a2) (hi2 : a2 ≤ 9223372036854775807) (W : World)  (_hsh : W.ShapedOpen Try.prog) :
    Calls Try.prog 11 #[.int .i64 a0, .int .i64 a1, .int .i64 a2] W fun e w' => e = .returned (.bool true) ∧ Below W.heap.size W w' := by
  have c := FnExactRunFrobenius.core a0 lo0 hi0 a1 lo1 hi1 a2 lo2 hi2 W  
  exact c
end Go.Proofs.Ytopnehkhigacpaa
