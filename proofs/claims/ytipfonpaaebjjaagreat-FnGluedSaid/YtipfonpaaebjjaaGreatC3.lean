/-
  THE CONTRACTS OF CHAPTER 3 IN THE CANONICAL FORM (genlaw.py).
-/
import Derived.Test.YtipfonpaaebjjaaGreatCh3I
import Derived.Test.YtipfonpaaebjjaaGreatI13
import Derived.Test.YtipfonpaaebjjaaGreatSgL
namespace Go.Proofs.YtipfonpaaebjjaaGreat
open Go Go.RowKit

theorem cs_Generates (L : List Int) (a : Option Addr) (c : Nat) (x1 : Int) (w : World) (hr : SlW w a c (L.map (Value.int .i64))) (hb : L.length ≤ 1048576) (_ : -9223372036854775808 ≤ x1) (_ : x1 ≤ 9223372036854775807) :
    Calls Tryz.prog 54 #[.slice a L.length c, .int .i64 x1] w fun e w' => e = .returned (.bool (generatesB L x1)) ∧ Below w.heap.size w w' :=
  spec_Generates L x1 a c w hr.sl hb
theorem ci_Generates (L : List Int) (a : Option Addr) (c : Nat) (x1 : Int) (w : World) (hr : SlW w a c (L.map (Value.int .i64))) (hb : L.length ≤ 1048576) (_ : -9223372036854775808 ≤ x1) (_ : x1 ≤ 9223372036854775807) :
    Calls Tryz.prog 47 #[.slice a L.length c, .int .i64 x1] w fun e w' => e = .returned (.bool (generatesB L x1)) ∧ Below w.heap.size w w' :=
  impl_Generates L x1 a c w hr.sl hb
theorem cs_IsSemigroup (L : List Int) (a : Option Addr) (c : Nat) (w : World) (hr : SlW w a c (L.map (Value.int .i64))) (hb : L.length ≤ 1048576) :
    Calls Tryz.prog 57 #[.agg #[.slice a L.length c]] w fun e w' => e = .returned (.bool (isSgB L)) ∧ Below w.heap.size w w' :=
  spec_IsSemigroup L a c w hr.sl hb
theorem ci_IsSemigroup (L : List Int) (a : Option Addr) (c : Nat) (w : World) (hr : SlW w a c (L.map (Value.int .i64))) (hb : L.length ≤ 1048576) :
    Calls Tryz.prog 71 #[.agg #[.slice a L.length c]] w fun e w' => e = .returned (.bool (isSgB L)) ∧ Below w.heap.size w w' :=
  impl_IsSemigroup L a c w hr.sl hb
theorem cs_Contains (L : List Int) (a : Option Addr) (c : Nat) (x1 : Int) (w : World) (hr : SlW w a c (L.map (Value.int .i64))) (hb : L.length ≤ 1048576) (_ : -9223372036854775808 ≤ x1) (_ : x1 ≤ 9223372036854775807) :
    Calls Tryz.prog 33 #[.agg #[.slice a L.length c], .int .i64 x1] w fun e w' => e = .returned (.bool (hasN L x1)) ∧ Below w.heap.size w w' :=
  spec_Contains L x1 a c w hr.sl hb
theorem ci_Contains (L : List Int) (a : Option Addr) (c : Nat) (x1 : Int) (w : World) (hr : SlW w a c (L.map (Value.int .i64))) (hb : L.length ≤ 1048576) (_ : -9223372036854775808 ≤ x1) (_ : x1 ≤ 9223372036854775807) :
    Calls Tryz.prog 112 #[.agg #[.slice a L.length c], .int .i64 x1] w fun e w' => e = .returned (.bool (hasN L x1)) ∧ Below w.heap.size w w' :=
  impl_Contains L x1 a c w hr.sl hb
theorem ci_MultiplicityOf (L : List Int) (a : Option Addr) (c : Nat) (w : World) (hr : SlW w a c (L.map (Value.int .i64))) (hb : L.length ≤ 1048576) :
    Calls Tryz.prog 75 #[.agg #[.slice a L.length c]] w fun e w' => e = .returned (.int .i64 (multN L)) ∧ Below w.heap.size w w' :=
  impl_MultiplicityOf L a c w hr.sl hb
theorem cs_EqualSemigroup (L : List Int) (a : Option Addr) (c : Nat) (M : List Int) (b : Option Addr) (d : Nat) (w : World) (hr : SlW w a c (L.map (Value.int .i64))) (hs : SlW w b d (M.map (Value.int .i64))) (hb : L.length ≤ 1048576) (hb2 : M.length ≤ 1048576) :
    Calls Tryz.prog 13 #[.agg #[.slice a L.length c], .agg #[.slice b M.length d]] w fun e w' => e = .returned (.bool (decide (L = M))) ∧ Below w.heap.size w w' :=
  spec_EqualSemigroup L M a b c d w hr.sl hs.sl (by omega) (by omega)
theorem cs_FromGens (L : List Int) (a : Option Addr) (c : Nat) (w : World) (hr : SlW w a c (L.map (Value.int .i64))) (hb : L.length ≤ 1048576) :
    Calls Tryz.prog 19 #[.slice a L.length c] w (SgPost (fromL L) (fromB L) w) :=
  spec_FromGens L a c w hr.sl hb
theorem ci_FromGens (L : List Int) (a : Option Addr) (c : Nat) (w : World) (hr : SlW w a c (L.map (Value.int .i64))) (hb : L.length ≤ 1048576) :
    Calls Tryz.prog 74 #[.slice a L.length c] w (SgPost (fromL L) (fromB L) w) :=
  impl_FromGens L a c w hr hb
end Go.Proofs.YtipfonpaaebjjaaGreat
