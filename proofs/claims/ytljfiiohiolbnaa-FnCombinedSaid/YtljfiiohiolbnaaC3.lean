/-
  THE CONTRACTS OF CHAPTER 3 IN THE CANONICAL FORM (genlaw.py).
-/
import Derived.Test.YtljfiiohiolbnaaCh3I
import Derived.Test.YtljfiiohiolbnaaSgL
namespace Go.Proofs.Ytljfiiohiolbnaa
open Go Go.RowKit

theorem cs_IsSemigroup (L : List Int) (a : Option Addr) (c : Nat) (w : World) (hr : SlW w a c (L.map (Value.int .i64))) (hb : L.length ≤ 1048576) :
    Calls Try.prog 48 #[.agg #[.slice a L.length c]] w fun e w' => e = .returned (.bool (isSgB L)) ∧ Below w.heap.size w w' :=
  spec_IsSemigroup L a c w hr.sl hb
theorem ci_IsSemigroup (L : List Int) (a : Option Addr) (c : Nat) (w : World) (hr : SlW w a c (L.map (Value.int .i64))) (hb : L.length ≤ 1048576) :
    Calls Try.prog 58 #[.agg #[.slice a L.length c]] w fun e w' => e = .returned (.bool (isSgB L)) ∧ Below w.heap.size w w' :=
  impl_IsSemigroup L a c w hr.sl hb
theorem cs_Contains (L : List Int) (a : Option Addr) (c : Nat) (x1 : Int) (w : World) (hr : SlW w a c (L.map (Value.int .i64))) (hb : L.length ≤ 1048576) (_ : -9223372036854775808 ≤ x1) (_ : x1 ≤ 9223372036854775807) :
    Calls Try.prog 20 #[.agg #[.slice a L.length c], .int .i64 x1] w fun e w' => e = .returned (.bool (hasN L x1)) ∧ Below w.heap.size w w' :=
  spec_Contains L x1 a c w hr.sl hb
theorem ci_Contains (L : List Int) (a : Option Addr) (c : Nat) (x1 : Int) (w : World) (hr : SlW w a c (L.map (Value.int .i64))) (hb : L.length ≤ 1048576) (_ : -9223372036854775808 ≤ x1) (_ : x1 ≤ 9223372036854775807) :
    Calls Try.prog 19 #[.agg #[.slice a L.length c], .int .i64 x1] w fun e w' => e = .returned (.bool (hasN L x1)) ∧ Below w.heap.size w w' :=
  impl_Contains L x1 a c w hr.sl hb
theorem cs_EqualSemigroup (L : List Int) (a : Option Addr) (c : Nat) (M : List Int) (b : Option Addr) (d : Nat) (w : World) (hr : SlW w a c (L.map (Value.int .i64))) (hs : SlW w b d (M.map (Value.int .i64))) (hb : L.length ≤ 1048576) (hb2 : M.length ≤ 1048576) :
    Calls Try.prog 15 #[.agg #[.slice a L.length c], .agg #[.slice b M.length d]] w fun e w' => e = .returned (.bool (decide (L = M))) ∧ Below w.heap.size w w' :=
  spec_EqualSemigroup L M a b c d w hr.sl hs.sl (by omega) (by omega)
theorem cs_FromGens (L : List Int) (a : Option Addr) (c : Nat) (w : World) (hr : SlW w a c (L.map (Value.int .i64))) (hb : L.length ≤ 1048576) :
    Calls Try.prog 60 #[.slice a L.length c] w (SgPost (fromL L) (fromB L) w) :=
  spec_FromGens L a c w hr.sl hb
theorem ci_FromGens (L : List Int) (a : Option Addr) (c : Nat) (w : World) (hr : SlW w a c (L.map (Value.int .i64))) (hb : L.length ≤ 1048576) :
    Calls Try.prog 59 #[.slice a L.length c] w (SgPost (fromL L) (fromB L) w) :=
  impl_FromGens L a c w hr hb
end Go.Proofs.Ytljfiiohiolbnaa
