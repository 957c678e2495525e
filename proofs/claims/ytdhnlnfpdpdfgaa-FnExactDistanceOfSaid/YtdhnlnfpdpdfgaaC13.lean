/-
  THE CONTRACTS OF CHAPTER 13 IN THE CANONICAL FORM (genlaw.py). (Own work: mkC15.py.)
-/
import Derived.Test.YtdhnlnfpdpdfgaaSgDs
import Derived.Test.YtdhnlnfpdpdfgaaL70
import Derived.Test.YtdhnlnfpdpdfgaaI70
import Derived.Test.YtdhnlnfpdpdfgaaSgL
namespace Go.Proofs.Ytdhnlnfpdpdfgaa
open Go Go.RowKit

theorem cs_DistanceOf (L0 : List Int) (a0 : Option Addr) (c0 : Nat) (L1 : List Int) (a1 : Option Addr) (c1 : Nat) (w : World) (hr0 : SlW w a0 c0 (L0.map (Value.int .i64))) (hr1 : SlW w a1 c1 (L1.map (Value.int .i64))) (hb0 : L0.length ≤ 1048576) (hb1 : L1.length ≤ 1048576) :
    Calls Try.prog 25 #[.slice a0 L0.length c0, .slice a1 L1.length c1] w fun e w' => e = .returned (.int .i64 (distN L0 L1)) ∧ Below w.heap.size w w' :=
  spec_DistanceOf L0 L1 a0 c0 a1 c1 w hr0.sl hr1.sl hb0 hb1
theorem ci_DistanceOf (L0 : List Int) (a0 : Option Addr) (c0 : Nat) (L1 : List Int) (a1 : Option Addr) (c1 : Nat) (w : World) (hr0 : SlW w a0 c0 (L0.map (Value.int .i64))) (hr1 : SlW w a1 c1 (L1.map (Value.int .i64))) (hb0 : L0.length ≤ 1048576) (hb1 : L1.length ≤ 1048576) :
    Calls Try.prog 24 #[.slice a0 L0.length c0, .slice a1 L1.length c1] w fun e w' => e = .returned (.int .i64 (distN L0 L1)) ∧ Below w.heap.size w w' :=
  impl_DistanceOf L0 L1 a0 c0 a1 c1 w hr0.sl hr1.sl hb0 hb1
end Go.Proofs.Ytdhnlnfpdpdfgaa
