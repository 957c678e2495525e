/-
  THE CONTRACTS OF CHAPTER 5 IN THE CANONICAL FORM (genlaw.py).
-/
import Derived.Test.YtdjjagpecbflnaaDoorL17
import Derived.Test.YtdjjagpecbflnaaDoorI20
import Derived.Test.YtdjjagpecbflnaaDoorSgL
namespace Go.Proofs.YtdjjagpecbflnaaDoor
open Go Go.RowKit

theorem cs_SemigroupText (L : List Int) (a : Option Addr) (c : Nat) (w : World) (hr : SlW w a c (L.map (Value.int .i64))) (hb : L.length ≤ 1048576) :
    Calls Tryd.prog 6 #[.agg #[.slice a L.length c]] w fun e w' => e = .returned (.string (semText L)) ∧ Below w.heap.size w w' :=
  spec_SemigroupText L a c w hr.sl hb
theorem cs_GapText (L : List Int) (a : Option Addr) (c : Nat) (w : World) (hr : SlW w a c (L.map (Value.int .i64))) (hb : L.length ≤ 1048576) :
    Calls Tryd.prog 10 #[.agg #[.slice a L.length c]] w fun e w' => e = .returned (.string (gapText L)) ∧ Below w.heap.size w w' :=
  spec_GapText L a c w hr.sl hb
theorem ci_SemigroupText (L : List Int) (a : Option Addr) (c : Nat) (w : World) (hr : SlW w a c (L.map (Value.int .i64))) (hb : L.length ≤ 1048576) (hv : EnvFmt w) :
    Calls Tryd.prog 8 #[.agg #[.slice a L.length c]] w fun e w' => e = .returned (.string (semText L)) ∧ Below w.heap.size w w' :=
  impl_SemigroupText L a c w hr.sl hb hv
theorem ci_GapText (L : List Int) (a : Option Addr) (c : Nat) (w : World) (hr : SlW w a c (L.map (Value.int .i64))) (hb : L.length ≤ 1048576) (hv : EnvFmt w) :
    Calls Tryd.prog 11 #[.agg #[.slice a L.length c]] w fun e w' => e = .returned (.string (gapText L)) ∧ Below w.heap.size w w' :=
  impl_GapText L a c w hr.sl hb hv
end Go.Proofs.YtdjjagpecbflnaaDoor
