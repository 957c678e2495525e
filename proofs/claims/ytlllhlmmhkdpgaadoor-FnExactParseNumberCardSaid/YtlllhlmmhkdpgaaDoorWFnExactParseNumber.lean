/-
  THE WALK OF THE LAW FnExactParseNumber: the program and the reference read the same number out of every string.
-/
import Derived.Test.YtlllhlmmhkdpgaaDoorRows
import Derived.Test.YtlllhlmmhkdpgaaDoorRead
import Derived.Test.YtlllhlmmhkdpgaaDoorParse
import Derived.Test.YtlllhlmmhkdpgaaDoorErrs
namespace Go.Proofs.YtlllhlmmhkdpgaaDoor
open Go Go.RowKit

set_option maxRecDepth 100000 in
set_option maxHeartbeats 400000 in
theorem FnExactParseNumber.walk (a0 : ByteArray) (hs0 : a0.size ≤ maxLen) (W : World) (hL : laidMetH Tryd.prog Rows.fnExactParseNumberRow.laid W) (_hsh : W.ShapedOpen Tryd.prog) :
    Calls Tryd.prog 6 #[.string a0] W fun e w' => e = .returned (.bool true) ∧ Below W.heap.size W w' := by
  by_cases hbig : 1048576 < a0.size
  · clear hL
    unfold maxLen at hs0
    go_enter Tryd.func6, Tryd.ntmps6
    go_wp2_with fail
    go_ret
    exact ⟨rfl, Below.refl _ _⟩
  · have hlen : ¬ (1048576 : Int) < (a0.size : Int) := by omega
    have ht := powIs (by kernel_rfl) hL
    obtain ⟨t0, p0, hv0⟩ := synIs (by kernel_rfl) hL
    obtain ⟨t1, p1, hv1⟩ := rngIs (by kernel_rfl) hL
    have c1 := spec_ParseNumber a0 hs0 W
    have hsm : a0.size ≤ 281474976710656 := by omega
    clear hL hbig
    unfold maxLen at hs0
    go_enter Tryd.func6, Tryd.ntmps6
    go_wp2_with fail
    refine c1.mono ?_
    rintro e w1 ⟨rfl, hb1⟩
    have c2 := impl_ParseNumber a0 hsm w1 (powIs_below ht hb1) t0 t1 p0 p1 (varIs_below gSyn hv0 hb1) (varIs_below gRng hv1 hb1)
    clear c1 ht hv0 hv1
    generalize readOf _ _ _ = r at *
    unfold rdTuple at *
    go_wp2_with fail
    refine c2.mono ?_
    rintro e w2 ⟨rfl, hb2⟩
    clear c2
    go_wp2_with fail
    go_ret
    exact ⟨rfl, hb1.trans (hb2.mono hb1.size)⟩
end Go.Proofs.YtlllhlmmhkdpgaaDoor
