/-
  THE CONTRACTS OF CHAPTER 16 IN THE CANONICAL FORM (genlaw.py). (Own work: mkC15.py.)
-/
import Derived.Test.YtopnehkhigacpaaGreatSgId
import Derived.Test.YtopnehkhigacpaaGreatL53
import Derived.Test.YtopnehkhigacpaaGreatL54
import Derived.Test.YtopnehkhigacpaaGreatI60
import Derived.Test.YtopnehkhigacpaaGreatI61
import Derived.Test.YtopnehkhigacpaaGreatI62
import Derived.Test.YtopnehkhigacpaaGreatI64
import Derived.Test.YtopnehkhigacpaaGreatSgL
namespace Go.Proofs.YtopnehkhigacpaaGreat
open Go Go.RowKit

theorem cs_InIdeal (L0 : List Int) (a0 : Option Addr) (c0 : Nat) (L1 : List Int) (a1 : Option Addr) (c1 : Nat) (x2 : Int) (w : World) (hr0 : SlW w a0 c0 (L0.map (Value.int .i64))) (hr1 : SlW w a1 c1 (L1.map (Value.int .i64))) (hb0 : L0.length ≤ 1048576) (hb1 : L1.length ≤ 1048576) (_ : -9223372036854775808 ≤ x2) (_ : x2 ≤ 9223372036854775807) :
    Calls Tryz.prog 13 #[.agg #[.slice a0 L0.length c0], .slice a1 L1.length c1, .int .i64 x2] w fun e w' => e = .returned (.bool (inIdB L0 L1 x2)) ∧ Below w.heap.size w w' :=
  spec_InIdeal L0 L1 x2 a0 c0 a1 c1 w hr0.sl hr1.sl hb0 hb1
theorem cs_IdealGens (L0 : List Int) (a0 : Option Addr) (c0 : Nat) (L1 : List Int) (a1 : Option Addr) (c1 : Nat) (w : World) (hr0 : SlW w a0 c0 (L0.map (Value.int .i64))) (hr1 : SlW w a1 c1 (L1.map (Value.int .i64))) (hb0 : L0.length ≤ 1048576) (hb1 : L1.length ≤ 1048576) :
    Calls Tryz.prog 15 #[.agg #[.slice a0 L0.length c0], .slice a1 L1.length c1] w (SlPost (idGensL L0 L1) w) :=
  spec_IdealGens L0 L1 a0 c0 a1 c1 w hr0.sl hr1.sl hb0 hb1
theorem cs_IdealSum (L0 : List Int) (a0 : Option Addr) (c0 : Nat) (L1 : List Int) (a1 : Option Addr) (c1 : Nat) (L2 : List Int) (a2 : Option Addr) (c2 : Nat) (w : World) (hr0 : SlW w a0 c0 (L0.map (Value.int .i64))) (hr1 : SlW w a1 c1 (L1.map (Value.int .i64))) (hr2 : SlW w a2 c2 (L2.map (Value.int .i64))) (hb0 : L0.length ≤ 1048576) (hb1 : L1.length ≤ 1048576) (hb2 : L2.length ≤ 1048576) :
    Calls Tryz.prog 17 #[.agg #[.slice a0 L0.length c0], .slice a1 L1.length c1, .slice a2 L2.length c2] w (SlPost (idSumL L0 L1 L2) w) :=
  spec_IdealSum L0 L1 L2 a0 c0 a1 c1 a2 c2 w hr0.sl hr1.sl hr2.sl hb0 hb1 hb2
theorem cs_DualGens (L0 : List Int) (a0 : Option Addr) (c0 : Nat) (L1 : List Int) (a1 : Option Addr) (c1 : Nat) (w : World) (hr0 : SlW w a0 c0 (L0.map (Value.int .i64))) (hr1 : SlW w a1 c1 (L1.map (Value.int .i64))) (hb0 : L0.length ≤ 1048576) (hb1 : L1.length ≤ 1048576) :
    Calls Tryz.prog 18 #[.agg #[.slice a0 L0.length c0], .slice a1 L1.length c1] w (SlPost (dualL L0 L1) w) :=
  spec_DualGens L0 L1 a0 c0 a1 c1 w hr0.sl hr1.sl hb0 hb1
theorem cs_CanonicalGens (L0 : List Int) (a0 : Option Addr) (c0 : Nat) (w : World) (hr0 : SlW w a0 c0 (L0.map (Value.int .i64))) (hb0 : L0.length ≤ 1048576) :
    Calls Tryz.prog 19 #[.agg #[.slice a0 L0.length c0]] w (SlPost (canonL L0) w) :=
  spec_CanonicalGens L0 a0 c0 w hr0.sl hb0
theorem ci_InIdeal (L0 : List Int) (a0 : Option Addr) (c0 : Nat) (L1 : List Int) (a1 : Option Addr) (c1 : Nat) (x2 : Int) (w : World) (hr0 : SlW w a0 c0 (L0.map (Value.int .i64))) (hr1 : SlW w a1 c1 (L1.map (Value.int .i64))) (hb0 : L0.length ≤ 1048576) (hb1 : L1.length ≤ 1048576) (_ : -9223372036854775808 ≤ x2) (_ : x2 ≤ 9223372036854775807) :
    Calls Tryz.prog 6 #[.agg #[.slice a0 L0.length c0], .slice a1 L1.length c1, .int .i64 x2] w fun e w' => e = .returned (.bool (inIdB L0 L1 x2)) ∧ Below w.heap.size w w' :=
  impl_InIdeal L0 L1 x2 a0 c0 a1 c1 w hr0.sl hr1.sl hb0 hb1
theorem ci_IdealGens (L0 : List Int) (a0 : Option Addr) (c0 : Nat) (L1 : List Int) (a1 : Option Addr) (c1 : Nat) (w : World) (hr0 : SlW w a0 c0 (L0.map (Value.int .i64))) (hr1 : SlW w a1 c1 (L1.map (Value.int .i64))) (hb0 : L0.length ≤ 1048576) (hb1 : L1.length ≤ 1048576) :
    Calls Tryz.prog 7 #[.agg #[.slice a0 L0.length c0], .slice a1 L1.length c1] w (SlPost (idGensL L0 L1) w) :=
  impl_IdealGens L0 L1 a0 c0 a1 c1 w hr0.sl hr1.sl hb0 hb1
theorem ci_IdealSum (L0 : List Int) (a0 : Option Addr) (c0 : Nat) (L1 : List Int) (a1 : Option Addr) (c1 : Nat) (L2 : List Int) (a2 : Option Addr) (c2 : Nat) (w : World) (hr0 : SlW w a0 c0 (L0.map (Value.int .i64))) (hr1 : SlW w a1 c1 (L1.map (Value.int .i64))) (hr2 : SlW w a2 c2 (L2.map (Value.int .i64))) (hb0 : L0.length ≤ 1048576) (hb1 : L1.length ≤ 1048576) (hb2 : L2.length ≤ 1048576) :
    Calls Tryz.prog 16 #[.agg #[.slice a0 L0.length c0], .slice a1 L1.length c1, .slice a2 L2.length c2] w (SlPost (idSumL L0 L1 L2) w) :=
  impl_IdealSum L0 L1 L2 a0 c0 a1 c1 a2 c2 w hr0.sl hr1.sl hr2.sl hb0 hb1 hb2
theorem ci_DualGens (L0 : List Int) (a0 : Option Addr) (c0 : Nat) (L1 : List Int) (a1 : Option Addr) (c1 : Nat) (w : World) (hr0 : SlW w a0 c0 (L0.map (Value.int .i64))) (hr1 : SlW w a1 c1 (L1.map (Value.int .i64))) (hb0 : L0.length ≤ 1048576) (hb1 : L1.length ≤ 1048576) :
    Calls Tryz.prog 10 #[.agg #[.slice a0 L0.length c0], .slice a1 L1.length c1] w (SlPost (dualL L0 L1) w) :=
  impl_DualGens L0 L1 a0 c0 a1 c1 w hr0.sl hr1.sl hb0 hb1
theorem ci_CanonicalGens (L0 : List Int) (a0 : Option Addr) (c0 : Nat) (w : World) (hr0 : SlW w a0 c0 (L0.map (Value.int .i64))) (hb0 : L0.length ≤ 1048576) :
    Calls Tryz.prog 12 #[.agg #[.slice a0 L0.length c0]] w (SlPost (canonL L0) w) :=
  impl_CanonicalGens L0 a0 c0 w hr0.sl hb0
end Go.Proofs.YtopnehkhigacpaaGreat
