/-
  THE CONTRACTS OF CHAPTER 7 IN THE CANONICAL FORM (genlaw.py).
-/
import Derived.Test.YtgkkkmcgnpdchaaL22
import Derived.Test.YtgkkkmcgnpdchaaL24
import Derived.Test.YtgkkkmcgnpdchaaSgL
import Derived.Test.YtgkkkmcgnpdchaaI28
import Derived.Test.YtgkkkmcgnpdchaaI29
namespace Go.Proofs.Ytgkkkmcgnpdchaa
open Go Go.RowKit

theorem ce_Clash (A B : Int) (w : World) : Calls Try.prog 45 #[.agg #[.int .i64 A, .int .i64 B], .agg #[.int .i64 A, .int .i64 B]] w fun e w' => e = .returned (.bool true) ∧ Below w.heap.size w w' := by
  go_enter Try.func45, Try.ntmps45
  go_wp2_with fail
  go_ret
  exact ⟨rfl, ((Below.refl _ _).alloc (Nat.le_refl _) _).alloc (by simp) _⟩
theorem cs_CoordinatesOf (L : List Int) (a : Option Addr) (c : Nat) (w : World) (hr : SlW w a c (L.map (Value.int .i64))) (hb : L.length ≤ 1048576) :
    Calls Try.prog 20 #[.agg #[.slice a L.length c]] w (SlPost (coordL L) w) :=
  spec_CoordinatesOf L a c w hr.sl hb
theorem cs_CoordinateClash (L : List Int) (a : Option Addr) (c : Nat) (w : World) (hr : SlW w a c (L.map (Value.int .i64))) (hb : L.length ≤ 1048576) :
    Calls Try.prog 18 #[.slice a L.length c] w (ClPost (clashA L) (clashB L) (clashQ L) w) :=
  spec_CoordinateClash L a c w hr.sl hb
theorem cs_FromCoordinates (L : List Int) (a : Option Addr) (c : Nat) (w : World) (hr : SlW w a c (L.map (Value.int .i64))) (hb : L.length ≤ 1048576) :
    Calls Try.prog 16 #[.slice a L.length c] w (SgPost (fromCoL L) (fromCoB L) w) :=
  spec_FromCoordinates L a c w hr.sl hb
theorem ci_CoordinatesOf (L : List Int) (a : Option Addr) (c : Nat) (w : World) (hr : SlW w a c (L.map (Value.int .i64))) (hb : L.length ≤ 1048576) :
    Calls Try.prog 13 #[.agg #[.slice a L.length c]] w (SlPost (coordL L) w) :=
  impl_CoordinatesOf L a c w hr.sl hb
theorem ci_CoordinateClash (L : List Int) (a : Option Addr) (c : Nat) (w : World) (hr : SlW w a c (L.map (Value.int .i64))) (hb : L.length ≤ 1048576) :
    Calls Try.prog 17 #[.slice a L.length c] w (ClPost (clashA L) (clashB L) (clashQ L) w) :=
  impl_CoordinateClash L a c w hr.sl hb
theorem ci_FromCoordinates (L : List Int) (a : Option Addr) (c : Nat) (w : World) (hr : SlW w a c (L.map (Value.int .i64))) (hb : L.length ≤ 1048576) :
    Calls Try.prog 15 #[.slice a L.length c] w (SgPost (fromCoL L) (fromCoB L) w) :=
  impl_FromCoordinates L a c w hr.sl hb
end Go.Proofs.Ytgkkkmcgnpdchaa
