/-
  THE WALK OF THE LAW FnExactGenerates FOR EVERY INPUT: small ones by FnExactGenerates.core, greater ones by the law's own test (written by genwalk.py of the verifier's own).
-/
import Derived.Test.YtnbnkjmellmmlaaCFnExactGenerates
namespace Go.Proofs.Ytnbnkjmellmmlaa
open Go Go.RowKit

set_option maxRecDepth 100000 in
set_option maxHeartbeats 400000 in
theorem FnExactGenerates.walk (p0 : Option Addr) (len0 cap0 : Nat) (z0 : List Int) (a1 : Int) (lo1 : -9223372036854775808 ≤ a1) (hi1 : a1 ≤ 9223372036854775807) (W : World) (r0 : IsRow .i64 W p0 len0 cap0 z0) (_hsh : W.ShapedOpen Try.prog) :
    Calls Try.prog 3 #[.slice p0 len0 cap0, .int .i64 a1] W fun e w' => e = .returned (.bool true) ∧ Below W.heap.size W w' := by
  obtain ⟨hr0, hl0⟩ := SlV.of_row r0
  have hm0 := row_maxLen' r0
  clear r0
  by_cases hbig0 : 1048576 < len0
  · clear hr0 hl0
    unfold maxLen at hm0
    clear _hsh
    go_enter Try.func3, Try.ntmps3
    go_wp2_with fail
    go_ret
    exact ⟨rfl, Below.refl _ _⟩
  have hle0 : len0 ≤ 1048576 := by omega
  have c := FnExactGenerates.core (z0.take len0) p0 cap0 a1 lo1 hi1 W hr0 (by rw [hl0]; exact hle0) 
  rw [hl0] at c
  exact c
end Go.Proofs.Ytnbnkjmellmmlaa
