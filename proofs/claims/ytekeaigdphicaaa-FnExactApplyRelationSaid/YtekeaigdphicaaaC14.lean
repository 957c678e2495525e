/-
  THE CONTRACTS OF CHAPTER 14 IN THE CANONICAL FORM (genlaw.py). (Own work.)
-/
import Derived.Test.YtekeaigdphicaaaSgAp
import Derived.Test.YtekeaigdphicaaaL80
import Derived.Test.YtekeaigdphicaaaI80
import Derived.Test.YtekeaigdphicaaaSgRe
namespace Go.Proofs.Ytekeaigdphicaaa
open Go Go.RowKit

theorem cs_ApplyRelation (L0 : List Int) (a0 : Option Addr) (c0 : Nat) (M0 : List Int) (b0 : Option Addr) (d0 : Nat) (L1 : List Int) (a1 : Option Addr) (c1 : Nat) (w : World) (hr0 : SlW w a0 c0 (L0.map (Value.int .i64))) (hq0 : SlW w b0 d0 (M0.map (Value.int .i64))) (hr1 : SlW w a1 c1 (L1.map (Value.int .i64))) (hb0 : L0.length ≤ 1048576) (hd0 : M0.length ≤ 1048576) (hb1 : L1.length ≤ 1048576) :
    Calls Try.prog 6 #[.agg #[.slice a0 L0.length c0, .slice b0 M0.length d0], .slice a1 L1.length c1] w fun e w' => ∃ v, e = .returned (.tuple #[v, .bool (rlB L0 M0 L1)]) ∧ w'.ownsRow w.heap.size 3 1 v (rlL L0 M0 L1).length ((rlL L0 M0 L1).map (Value.int .i64)) ∧ Below w.heap.size w w' :=
  spec_ApplyRelation L0 M0 L1 a0 b0 a1 c0 d0 c1 w hr0.sl hq0.sl hr1.sl hb0 hd0 hb1
theorem ci_ApplyRelation (L0 : List Int) (a0 : Option Addr) (c0 : Nat) (M0 : List Int) (b0 : Option Addr) (d0 : Nat) (L1 : List Int) (a1 : Option Addr) (c1 : Nat) (w : World) (hr0 : SlW w a0 c0 (L0.map (Value.int .i64))) (hq0 : SlW w b0 d0 (M0.map (Value.int .i64))) (hr1 : SlW w a1 c1 (L1.map (Value.int .i64))) (hb0 : L0.length ≤ 1048576) (hd0 : M0.length ≤ 1048576) (hb1 : L1.length ≤ 1048576) :
    Calls Try.prog 9 #[.agg #[.slice a0 L0.length c0, .slice b0 M0.length d0], .slice a1 L1.length c1] w fun e w' => ∃ v, e = .returned (.tuple #[v, .bool (rlB L0 M0 L1)]) ∧ w'.ownsRow w.heap.size 3 1 v (rlL L0 M0 L1).length ((rlL L0 M0 L1).map (Value.int .i64)) ∧ Below w.heap.size w w' :=
  impl_ApplyRelation L0 M0 L1 a0 b0 a1 c0 d0 c1 w hr0.sl hq0.sl hr1.sl hb0 hd0 hb1
end Go.Proofs.Ytekeaigdphicaaa
