/-
  THE CONTRACTS OF CHAPTER 3 IN THE CANONICAL FORM (genlaw.py).
-/
import Derived.Test.YtnbnkjmellmmlaaCh3I
import Derived.Test.YtnbnkjmellmmlaaI13
import Derived.Test.YtnbnkjmellmmlaaSgL
namespace Go.Proofs.Ytnbnkjmellmmlaa
open Go Go.RowKit

theorem cs_Generates (L : List Int) (a : Option Addr) (c : Nat) (x1 : Int) (w : World) (hr : SlW w a c (L.map (Value.int .i64))) (hb : L.length ≤ 1048576) (_ : -9223372036854775808 ≤ x1) (_ : x1 ≤ 9223372036854775807) :
    Calls Try.prog 15 #[.slice a L.length c, .int .i64 x1] w fun e w' => e = .returned (.bool (generatesB L x1)) ∧ Below w.heap.size w w' :=
  spec_Generates L x1 a c w hr.sl hb
theorem ci_Generates (L : List Int) (a : Option Addr) (c : Nat) (x1 : Int) (w : World) (hr : SlW w a c (L.map (Value.int .i64))) (hb : L.length ≤ 1048576) (_ : -9223372036854775808 ≤ x1) (_ : x1 ≤ 9223372036854775807) :
    Calls Try.prog 17 #[.slice a L.length c, .int .i64 x1] w fun e w' => e = .returned (.bool (generatesB L x1)) ∧ Below w.heap.size w w' :=
  impl_Generates L x1 a c w hr.sl hb
theorem cs_IsSemigroup (L : List Int) (a : Option Addr) (c : Nat) (w : World) (hr : SlW w a c (L.map (Value.int .i64))) (hb : L.length ≤ 1048576) :
    Calls Try.prog 20 #[.agg #[.slice a L.length c]] w fun e w' => e = .returned (.bool (isSgB L)) ∧ Below w.heap.size w w' :=
  spec_IsSemigroup L a c w hr.sl hb
theorem ci_IsSemigroup (L : List Int) (a : Option Addr) (c : Nat) (w : World) (hr : SlW w a c (L.map (Value.int .i64))) (hb : L.length ≤ 1048576) :
    Calls Try.prog 22 #[.agg #[.slice a L.length c]] w fun e w' => e = .returned (.bool (isSgB L)) ∧ Below w.heap.size w w' :=
  impl_IsSemigroup L a c w hr.sl hb
theorem cs_Contains (L : List Int) (a : Option Addr) (c : Nat) (x1 : Int) (w : World) (hr : SlW w a c (L.map (Value.int .i64))) (hb : L.length ≤ 1048576) (_ : -9223372036854775808 ≤ x1) (_ : x1 ≤ 9223372036854775807) :
    Calls Try.prog 24 #[.agg #[.slice a L.length c], .int .i64 x1] w fun e w' => e = .returned (.bool (hasN L x1)) ∧ Below w.heap.size w w' :=
  spec_Contains L x1 a c w hr.sl hb
theorem ci_Contains (L : List Int) (a : Option Addr) (c : Nat) (x1 : Int) (w : World) (hr : SlW w a c (L.map (Value.int .i64))) (hb : L.length ≤ 1048576) (_ : -9223372036854775808 ≤ x1) (_ : x1 ≤ 9223372036854775807) :
    Calls Try.prog 25 #[.agg #[.slice a L.length c], .int .i64 x1] w fun e w' => e = .returned (.bool (hasN L x1)) ∧ Below w.heap.size w w' :=
  impl_Contains L x1 a c w hr.sl hb
theorem cs_MultiplicityOf (L : List Int) (a : Option Addr) (c : Nat) (w : World) (hr : SlW w a c (L.map (Value.int .i64))) (hb : L.length ≤ 1048576) :
    Calls Try.prog 31 #[.agg #[.slice a L.length c]] w fun e w' => e = .returned (.int .i64 (multN L)) ∧ Below w.heap.size w w' :=
  spec_MultiplicityOf L a c w hr.sl hb
theorem ci_MultiplicityOf (L : List Int) (a : Option Addr) (c : Nat) (w : World) (hr : SlW w a c (L.map (Value.int .i64))) (hb : L.length ≤ 1048576) :
    Calls Try.prog 32 #[.agg #[.slice a L.length c]] w fun e w' => e = .returned (.int .i64 (multN L)) ∧ Below w.heap.size w w' :=
  impl_MultiplicityOf L a c w hr.sl hb
theorem cs_DimensionOf (L : List Int) (a : Option Addr) (c : Nat) (w : World) (hr : SlW w a c (L.map (Value.int .i64))) (hb : L.length ≤ 1048576) :
    Calls Try.prog 33 #[.agg #[.slice a L.length c]] w fun e w' => e = .returned (.int .i64 (dimN L)) ∧ Below w.heap.size w w' :=
  spec_DimensionOf L a c w hr.sl hb
theorem ci_DimensionOf (L : List Int) (a : Option Addr) (c : Nat) (w : World) (hr : SlW w a c (L.map (Value.int .i64))) (hb : L.length ≤ 1048576) :
    Calls Try.prog 34 #[.agg #[.slice a L.length c]] w fun e w' => e = .returned (.int .i64 (dimN L)) ∧ Below w.heap.size w w' :=
  impl_DimensionOf L a c w hr.sl hb
theorem cs_FromGens (L : List Int) (a : Option Addr) (c : Nat) (w : World) (hr : SlW w a c (L.map (Value.int .i64))) (hb : L.length ≤ 1048576) :
    Calls Try.prog 26 #[.slice a L.length c] w (SgPost (fromL L) (fromB L) w) :=
  spec_FromGens L a c w hr.sl hb
theorem ci_FromGens (L : List Int) (a : Option Addr) (c : Nat) (w : World) (hr : SlW w a c (L.map (Value.int .i64))) (hb : L.length ≤ 1048576) :
    Calls Try.prog 27 #[.slice a L.length c] w (SgPost (fromL L) (fromB L) w) :=
  impl_FromGens L a c w hr hb
end Go.Proofs.Ytnbnkjmellmmlaa
