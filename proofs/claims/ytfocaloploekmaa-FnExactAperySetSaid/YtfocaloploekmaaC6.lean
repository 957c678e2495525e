/-
  THE CONTRACTS OF CHAPTER 6 IN THE CANONICAL FORM (genlaw.py).
-/
import Derived.Test.YtfocaloploekmaaL20
import Derived.Test.YtfocaloploekmaaL21
import Derived.Test.YtfocaloploekmaaI24
import Derived.Test.YtfocaloploekmaaI25
import Derived.Test.YtfocaloploekmaaSgL
namespace Go.Proofs.Ytfocaloploekmaa
open Go Go.RowKit

theorem fromApL_len (l : List Int) : (fromApL l).length ≤ 12 := by
  cases h : fromApB l
  · rw [fromApL_no h]; exact Nat.zero_le _
  · exact (isSgB_iff.1 (fromApB_sg h).1.sg).len
theorem cs_AperySet (L : List Int) (a : Option Addr) (c : Nat) (x1 : Int) (w : World) (hr : SlW w a c (L.map (Value.int .i64))) (hb : L.length ≤ 1048576) (_ : -9223372036854775808 ≤ x1) (_ : x1 ≤ 9223372036854775807) :
    Calls Try.prog 15 #[.agg #[.slice a L.length c], .int .i64 x1] w (SlPost (aperyL L x1) w) :=
  spec_AperySet L x1 a c w hr.sl hb
theorem cs_FromApery (L : List Int) (a : Option Addr) (c : Nat) (w : World) (hr : SlW w a c (L.map (Value.int .i64))) (hb : L.length ≤ 1048576) :
    Calls Try.prog 13 #[.slice a L.length c] w (SgPost (fromApL L) (fromApB L) w) :=
  spec_FromApery L a c w hr.sl hb
theorem cs_FrobeniusByApery (L : List Int) (a : Option Addr) (c : Nat) (x1 : Int) (w : World) (hr : SlW w a c (L.map (Value.int .i64))) (hb : L.length ≤ 1048576) (_ : -9223372036854775808 ≤ x1) (_ : x1 ≤ 9223372036854775807) :
    Calls Try.prog 31 #[.agg #[.slice a L.length c], .int .i64 x1] w fun e w' => e = .returned (.int .i64 (frobA L x1)) ∧ Below w.heap.size w w' :=
  spec_FrobeniusByApery L x1 a c w hr.sl hb
theorem cs_GenusByApery (L : List Int) (a : Option Addr) (c : Nat) (x1 : Int) (w : World) (hr : SlW w a c (L.map (Value.int .i64))) (hb : L.length ≤ 1048576) (_ : -9223372036854775808 ≤ x1) (_ : x1 ≤ 9223372036854775807) :
    Calls Try.prog 32 #[.agg #[.slice a L.length c], .int .i64 x1] w fun e w' => e = .returned (.int .i64 (genusA L x1)) ∧ Below w.heap.size w w' :=
  spec_GenusByApery L x1 a c w hr.sl hb
theorem ci_AperySet (L : List Int) (a : Option Addr) (c : Nat) (x1 : Int) (w : World) (hr : SlW w a c (L.map (Value.int .i64))) (hb : L.length ≤ 1048576) (_ : -9223372036854775808 ≤ x1) (_ : x1 ≤ 9223372036854775807) :
    Calls Try.prog 10 #[.agg #[.slice a L.length c], .int .i64 x1] w (SlPost (aperyL L x1) w) :=
  impl_AperySet L x1 a c w hr.sl hb ‹_› ‹_›
theorem ci_FromApery (L : List Int) (a : Option Addr) (c : Nat) (w : World) (hr : SlW w a c (L.map (Value.int .i64))) (hb : L.length ≤ 1048576) :
    Calls Try.prog 12 #[.slice a L.length c] w (SgPost (fromApL L) (fromApB L) w) :=
  impl_FromApery L a c w hr hb
theorem ci_FrobeniusByApery (L : List Int) (a : Option Addr) (c : Nat) (x1 : Int) (w : World) (hr : SlW w a c (L.map (Value.int .i64))) (hb : L.length ≤ 1048576) (_ : -9223372036854775808 ≤ x1) (_ : x1 ≤ 9223372036854775807) :
    Calls Try.prog 18 #[.agg #[.slice a L.length c], .int .i64 x1] w fun e w' => e = .returned (.int .i64 (frobA L x1)) ∧ Below w.heap.size w w' :=
  impl_FrobeniusByApery L x1 a c w hr.sl hb ‹_› ‹_›
theorem ci_GenusByApery (L : List Int) (a : Option Addr) (c : Nat) (x1 : Int) (w : World) (hr : SlW w a c (L.map (Value.int .i64))) (hb : L.length ≤ 1048576) (_ : -9223372036854775808 ≤ x1) (_ : x1 ≤ 9223372036854775807) :
    Calls Try.prog 19 #[.agg #[.slice a L.length c], .int .i64 x1] w fun e w' => e = .returned (.int .i64 (genusA L x1)) ∧ Below w.heap.size w w' :=
  impl_GenusByApery L x1 a c w hr.sl hb ‹_› ‹_›
end Go.Proofs.Ytfocaloploekmaa
