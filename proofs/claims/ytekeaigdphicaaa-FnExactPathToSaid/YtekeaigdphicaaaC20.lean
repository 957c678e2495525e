/-
  THE CONTRACTS OF CHAPTER 20 IN THE CANONICAL FORM (genlaw.py). (Own work.)
-/
import Derived.Test.YtekeaigdphicaaaSgPa
import Derived.Test.YtekeaigdphicaaaSgSs
import Derived.Test.YtekeaigdphicaaaL79
import Derived.Test.YtekeaigdphicaaaI79
import Derived.Test.YtekeaigdphicaaaSgL
namespace Go.Proofs.Ytekeaigdphicaaa
open Go Go.RowKit

theorem path_sum (G : List Int) : (((pathL G).map fun L => L.map (Value.int .i64)).map List.length).sum ≤ 2412 := by
  have h := sum_widths_le (path_width G)
  have := path_len G
  omega
theorem cs_PathTo (L0 : List Int) (a0 : Option Addr) (c0 : Nat) (w : World) (hr0 : SlW w a0 c0 (L0.map (Value.int .i64))) (hb0 : L0.length ≤ 1048576) :
    Calls Try.prog 16 #[.agg #[.slice a0 L0.length c0]] w (SsbPost (pathL L0) (pathB L0) w) := spec_PathTo L0 a0 c0 w hr0 hb0
theorem ci_PathTo (L0 : List Int) (a0 : Option Addr) (c0 : Nat) (w : World) (hr0 : SlW w a0 c0 (L0.map (Value.int .i64))) (hb0 : L0.length ≤ 1048576) :
    Calls Try.prog 18 #[.agg #[.slice a0 L0.length c0]] w (SsbPost (pathL L0) (pathB L0) w) := impl_PathTo L0 a0 c0 w hr0 hb0
end Go.Proofs.Ytekeaigdphicaaa
