/-
  THE WALK OF THE LAW FnExactPairFrobenius FOR EVERY INPUT: small ones by FnExactPairFrobenius.core, greater ones by the law's own test (written by genwalk.py of the verifier's own).
-/
import Derived.Test.YtopnehkhigacpaaCFnExactPairFrobenius
namespace Go.Proofs.Ytopnehkhigacpaa
open Go Go.RowKit

set_option maxRecDepth 100000 in
set_option maxHeartbeats 400000 in
theorem FnExactPairFrobenius.walk (a0 : Int) (lo0 : -9223372036854775808 ≤ a0) (hi0 : a0 ≤ 9223372036854775807) (a1 : Int) (lo1 : -9223372036854775808 ≤ a1) (hi1 : a1 ≤ 9223372036854775807) (W : World)  (_hsh : W.ShapedOpen Try.prog) :
    Calls Try.prog 8 #[.int .i64 a0, .int .i64 a1] W fun e w' => e = .returned (.bool true) ∧ Below W.heap.size W w' := by
  have c := FnExactPairFrobenius.core a0 lo0 hi0 a1 lo1 hi1 W  
  exact c
end Go.Proofs.Ytopnehkhigacpaa
