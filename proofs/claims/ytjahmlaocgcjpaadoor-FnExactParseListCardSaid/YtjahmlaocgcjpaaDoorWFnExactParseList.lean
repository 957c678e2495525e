/-
  THE WALK OF THE LAW FnExactParseList FOR EVERY INPUT: small ones by FnExactParseList.core, greater ones by the law's own test (written by genwalk.py of the verifier's own).
-/
import Derived.Test.YtjahmlaocgcjpaaDoorCFnExactParseList
namespace Go.Proofs.YtjahmlaocgcjpaaDoor
open Go Go.RowKit

set_option maxRecDepth 100000 in
set_option maxHeartbeats 400000 in
theorem FnExactParseList.walk (a0 : ByteArray) (hs0 : a0.size ≤ maxLen) (W : World)  (_hL : laidMetH Tryd.prog Rows.fnExactParseListRow.laid W) (_hsh : W.ShapedOpen Tryd.prog) :
    Calls Tryd.prog 4 #[.string a0] W fun e w' => e = .returned (.bool true) ∧ Below W.heap.size W w' := by
  have hv : EnvParse W := ⟨powIs (by kernel_rfl) _hL, synIs (by kernel_rfl) _hL, rngIs (by kernel_rfl) _hL, maxLenIs_of _hsh⟩
  by_cases hbig0 : 1048576 < a0.size
  · skip
    unfold maxLen at hs0
    clear _hsh _hL hv
    go_enter Tryd.func4, Tryd.ntmps4
    go_wp2_with fail
    go_ret
    exact ⟨rfl, Below.refl _ _⟩
  have hle0 : a0.size ≤ 1048576 := by omega
  have c := FnExactParseList.core a0 W hle0 hv
  exact c
end Go.Proofs.YtjahmlaocgcjpaaDoor
