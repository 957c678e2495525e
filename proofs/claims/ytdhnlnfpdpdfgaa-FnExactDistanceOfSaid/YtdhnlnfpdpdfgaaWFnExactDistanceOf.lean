/-
  THE WALK OF THE LAW FnExactDistanceOf FOR EVERY INPUT: small ones by FnExactDistanceOf.core, greater ones by the law's own test (written by genwalk.py of the verifier's own).
-/
import Derived.Test.YtdhnlnfpdpdfgaaCFnExactDistanceOf
namespace Go.Proofs.Ytdhnlnfpdpdfgaa
open Go Go.RowKit

set_option maxRecDepth 100000 in
set_option maxHeartbeats 400000 in
theorem FnExactDistanceOf.walk (p0 : Option Addr) (len0 cap0 : Nat) (z0 : List Int) (p1 : Option Addr) (len1 cap1 : Nat) (z1 : List Int) (W : World) (r0 : IsRow .i64 W p0 len0 cap0 z0) (r1 : IsRow .i64 W p1 len1 cap1 z1) (_hsh : W.ShapedOpen Try.prog) :
    Calls Try.prog 4 #[.slice p0 len0 cap0, .slice p1 len1 cap1] W fun e w' => e = .returned (.bool true) ∧ Below W.heap.size W w' := by
  obtain ⟨hr0, hl0⟩ := SlV.of_row r0
  have hm0 := row_maxLen' r0
  clear r0
  obtain ⟨hr1, hl1⟩ := SlV.of_row r1
  have hm1 := row_maxLen' r1
  clear r1
  by_cases hbig0 : 1048576 < len0
  · clear hr0 hl0 hr1 hl1
    unfold maxLen at hm0
    unfold maxLen at hm1
    clear _hsh
    go_enter Try.func4, Try.ntmps4
    go_wp2_with fail
    go_ret
    exact ⟨rfl, Below.refl _ _⟩
  have hle0 : len0 ≤ 1048576 := by omega
  by_cases hbig1 : 1048576 < len1
  · clear hr0 hl0 hr1 hl1
    unfold maxLen at hm0
    unfold maxLen at hm1
    clear _hsh
    go_enter Try.func4, Try.ntmps4
    go_wp2_with fail
    go_ret
    exact ⟨rfl, Below.refl _ _⟩
  have hle1 : len1 ≤ 1048576 := by omega
  have c := FnExactDistanceOf.core (z0.take len0) p0 cap0 (z1.take len1) p1 cap1 W hr0 (by rw [hl0]; exact hle0) hr1 (by rw [hl1]; exact hle1) 
  rw [hl0, hl1] at c
  exact c
end Go.Proofs.Ytdhnlnfpdpdfgaa
