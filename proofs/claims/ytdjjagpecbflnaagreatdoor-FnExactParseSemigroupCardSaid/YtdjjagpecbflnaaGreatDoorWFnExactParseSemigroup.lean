/-
  THE WALK OF THE LAW FnExactParseSemigroup FOR EVERY INPUT: small ones by FnExactParseSemigroup.core, greater ones by the law's own test (written by genwalk.py of the verifier's own).
-/
import Derived.Test.YtdjjagpecbflnaaGreatDoorCFnExactParseSemigroup
namespace Go.Proofs.YtdjjagpecbflnaaGreatDoor
open Go Go.RowKit

set_option maxRecDepth 100000 in
set_option maxHeartbeats 400000 in
theorem FnExactParseSemigroup.walk (a0 : ByteArray) (hs0 : a0.size ≤ maxLen) (W : World)  (_hL : laidMetH Tryz.prog Rows.fnExactParseSemigroupRow.laid W) (_hsh : W.ShapedOpen Tryz.prog) :
    Calls Tryz.prog 4 #[.string a0] W fun e w' => e = .returned (.bool true) ∧ Below W.heap.size W w' := by
  have hv : EnvSem W := ⟨⟨powIs (by kernel_rfl) _hL, synIs (by kernel_rfl) _hL, rngIs (by kernel_rfl) _hL, maxLenIs_of _hsh⟩, errTypeIs (by kernel_rfl) _hL⟩
  by_cases hbig0 : 1048576 < a0.size
  · skip
    unfold maxLen at hs0
    clear _hsh _hL hv
    go_enter Tryz.func4, Tryz.ntmps4
    go_wp2_with fail
    go_ret
    exact ⟨rfl, Below.refl _ _⟩
  have hle0 : a0.size ≤ 1048576 := by omega
  have c := FnExactParseSemigroup.core a0 W hle0 hv
  exact c
end Go.Proofs.YtdjjagpecbflnaaGreatDoor
