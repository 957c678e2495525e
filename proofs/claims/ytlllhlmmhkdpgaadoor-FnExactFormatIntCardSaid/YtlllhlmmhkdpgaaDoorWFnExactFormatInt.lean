/-
  THE WALK OF THE LAW FnExactFormatInt: the reference's numeral and strconv.Itoa's are the same.
-/
import Derived.Test.YtlllhlmmhkdpgaaDoorRows
import Derived.Test.YtlllhlmmhkdpgaaDoorFmt
import Derived.Test.YtlllhlmmhkdpgaaDoorTabs
import Derived.Test.YtlllhlmmhkdpgaaDoorShItoa
namespace Go.Proofs.YtlllhlmmhkdpgaaDoor
open Go Go.RowKit

/-- impl.FormatInt. -/
theorem impl_FormatInt (n : Int) (h0 : -9223372036854775808 ≤ n) (h1 : n ≤ 9223372036854775807) (w : World) (ht : Lib.TabIs Tryd.prog w "internal/strconv.uint64pow10" .u64 Lib.pow10Tab) :
    Calls Tryd.prog 11 #[.int .i64 n] w fun e w' => e = .returned (.string ⟨(Lib.itoa n).toArray⟩) ∧ Below w.heap.size w w' := by
  go_enter Tryd.func11, Tryd.ntmps11
  go_wp2_with (go_at_call 27; refine (Tryd.strconv_Itoa n h0 h1 _ ht).mono ?_; rintro e w' ⟨rfl, k, os, rfl⟩)
  go_ret
  exact ⟨rfl, below_grow _ _⟩

theorem FnExactFormatInt.walk (a0 : Int) (lo0 : -9223372036854775808 ≤ a0) (hi0 : a0 ≤ 9223372036854775807) (W : World) (hL : laidMetH Tryd.prog Rows.fnExactFormatIntRow.laid W) (_hsh : W.ShapedOpen Tryd.prog) :
    Calls Tryd.prog 5 #[.int .i64 a0] W fun e w' => e = .returned (.bool true) ∧ Below W.heap.size W w' := by
  have ht := powIs (by kernel_rfl) hL
  clear hL
  go_enter Tryd.func5, Tryd.ntmps5
  go_wp2_with fail
  refine (spec_FormatInt a0 lo0 hi0 _).mono ?_
  rintro e w1 ⟨rfl, hb1⟩
  go_wp2_with fail
  refine (impl_FormatInt a0 lo0 hi0 _ (powIs_below ht hb1)).mono ?_
  rintro e w2 ⟨rfl, hb2⟩
  go_wp2
  go_ret
  exact ⟨rfl, hb1.trans (hb2.mono hb1.size)⟩
end Go.Proofs.YtlllhlmmhkdpgaaDoor
