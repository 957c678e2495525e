/-
  THE WALK OF THE LAW FnExactPairGenus over the contracts of both sides (written by genlaw.py of the verifier's own).
-/
import Derived.Test.YtopnehkhigacpaaRows
import Derived.Test.YtopnehkhigacpaaC23
namespace Go.Proofs.Ytopnehkhigacpaa
open Go Go.RowKit

set_option maxRecDepth 100000 in
set_option maxHeartbeats 3200000 in
theorem FnExactPairGenus.core (x0 : Int) (lo0 : -9223372036854775808 ≤ x0) (hi0 : x0 ≤ 9223372036854775807) (x1 : Int) (lo1 : -9223372036854775808 ≤ x1) (hi1 : x1 ≤ 9223372036854775807) (W : World)  :
    Calls Try.prog 9 #[.int .i64 x0, .int .i64 x1] W fun e w' => e = .returned (.bool true) ∧ Below W.heap.size W w' := by
  have hW : Below W.heap.size W W := Below.refl _ _
  go_enter Try.func9, Try.ntmps9
  have c := cs_PairGenus x0 x1 W  lo0 hi0 lo1 hi1
  go_wp2_with fail
  refine c.mono ?_
  rintro e w1 ⟨rfl, hb⟩
  clear c
  have z1 := hb.size
  replace hW := hW.trans (hb.mono hW.size)
  clear hb
  have c := ci_PairGenus x0 x1 w1  lo0 hi0 lo1 hi1
  go_wp2_with fail
  refine c.mono ?_
  rintro e w2 ⟨rfl, hb⟩
  clear c
  have z2 := hb.size
  replace hW := hW.trans (hb.mono hW.size)
  clear hb
  go_wp2_with fail
  go_ret
  exact ⟨rfl, hW⟩
end Go.Proofs.Ytopnehkhigacpaa
