/-
  THE CONTRACTS OF CHAPTER 11 IN THE CANONICAL FORM (genlaw.py). (Own work.)
-/
import Derived.Test.YtlinlmmcgifloaaDoorCh11L
import Derived.Test.YtlinlmmcgifloaaDoorCh11I
import Derived.Test.YtlinlmmcgifloaaDoorSgL
namespace Go.Proofs.YtlinlmmcgifloaaDoor
open Go Go.RowKit

theorem cs_ValueOf (L0 : List Int) (a0 : Option Addr) (c0 : Nat) (L1 : List Int) (a1 : Option Addr) (c1 : Nat) (w : World) (hr0 : SlW w a0 c0 (L0.map (Value.int .i64))) (hr1 : SlW w a1 c1 (L1.map (Value.int .i64))) (hb0 : L0.length ≤ 1048576) (hb1 : L1.length ≤ 1048576)  :
    Calls Tryd.prog 17 #[.agg #[.slice a0 L0.length c0], .slice a1 L1.length c1] w fun e w' => e = .returned (.int .i64 (valueN L0 L1)) ∧ Below w.heap.size w w' :=
  spec_ValueOf L0 L1 a0 c0 a1 c1 w hr0.sl hr1.sl hb0 hb1
theorem cs_IsFactorization (L0 : List Int) (a0 : Option Addr) (c0 : Nat) (x1 : Int) (L2 : List Int) (a2 : Option Addr) (c2 : Nat) (w : World) (hr0 : SlW w a0 c0 (L0.map (Value.int .i64))) (hr2 : SlW w a2 c2 (L2.map (Value.int .i64))) (hb0 : L0.length ≤ 1048576) (hb2 : L2.length ≤ 1048576) (_ : -9223372036854775808 ≤ x1) (_ : x1 ≤ 9223372036854775807) :
    Calls Tryd.prog 15 #[.agg #[.slice a0 L0.length c0], .int .i64 x1, .slice a2 L2.length c2] w fun e w' => e = .returned (.bool (isFacB L0 x1 L2)) ∧ Below w.heap.size w w' :=
  spec_IsFactorization L0 L2 x1 a0 c0 a2 c2 w hr0.sl hr2.sl hb0 hb2
theorem ci_ValueOf (L0 : List Int) (a0 : Option Addr) (c0 : Nat) (L1 : List Int) (a1 : Option Addr) (c1 : Nat) (w : World) (hr0 : SlW w a0 c0 (L0.map (Value.int .i64))) (hr1 : SlW w a1 c1 (L1.map (Value.int .i64))) (hb0 : L0.length ≤ 1048576) (hb1 : L1.length ≤ 1048576)  :
    Calls Tryd.prog 16 #[.agg #[.slice a0 L0.length c0], .slice a1 L1.length c1] w fun e w' => e = .returned (.int .i64 (valueN L0 L1)) ∧ Below w.heap.size w w' :=
  impl_ValueOf L0 L1 a0 c0 a1 c1 w hr0.sl hr1.sl hb0 hb1
theorem ci_IsFactorization (L0 : List Int) (a0 : Option Addr) (c0 : Nat) (x1 : Int) (L2 : List Int) (a2 : Option Addr) (c2 : Nat) (w : World) (hr0 : SlW w a0 c0 (L0.map (Value.int .i64))) (hr2 : SlW w a2 c2 (L2.map (Value.int .i64))) (hb0 : L0.length ≤ 1048576) (hb2 : L2.length ≤ 1048576) (_ : -9223372036854775808 ≤ x1) (_ : x1 ≤ 9223372036854775807) :
    Calls Tryd.prog 14 #[.agg #[.slice a0 L0.length c0], .int .i64 x1, .slice a2 L2.length c2] w fun e w' => e = .returned (.bool (isFacB L0 x1 L2)) ∧ Below w.heap.size w w' :=
  impl_IsFactorization L0 L2 x1 a0 c0 a2 c2 w hr0.sl hr2.sl hb0 hb2
end Go.Proofs.YtlinlmmcgifloaaDoor
