/-
  THE CONTRACTS OF CHAPTER 5 IN THE CANONICAL FORM (genlaw.py).
-/
import Derived.Test.YtdjjagpecbflnaaGreatDoorL17
import Derived.Test.YtdjjagpecbflnaaGreatDoorL18
import Derived.Test.YtdjjagpecbflnaaGreatDoorI20
import Derived.Test.YtdjjagpecbflnaaGreatDoorI21
import Derived.Test.YtdjjagpecbflnaaGreatDoorSgL
namespace Go.Proofs.YtdjjagpecbflnaaGreatDoor
open Go Go.RowKit

theorem cs_SemigroupText (L : List Int) (a : Option Addr) (c : Nat) (w : World) (hr : SlW w a c (L.map (Value.int .i64))) (hb : L.length ≤ 1048576) :
    Calls Tryz.prog 11 #[.agg #[.slice a L.length c]] w fun e w' => e = .returned (.string (semText L)) ∧ Below w.heap.size w w' :=
  spec_SemigroupText L a c w hr.sl hb
theorem cs_GapText (L : List Int) (a : Option Addr) (c : Nat) (w : World) (hr : SlW w a c (L.map (Value.int .i64))) (hb : L.length ≤ 1048576) :
    Calls Tryz.prog 15 #[.agg #[.slice a L.length c]] w fun e w' => e = .returned (.string (gapText L)) ∧ Below w.heap.size w w' :=
  spec_GapText L a c w hr.sl hb
theorem cs_ParseSemigroup (s : ByteArray) (w : World) (hs : s.size ≤ 1048576) :
    Calls Tryz.prog 10 #[.string s] w (SgPost (semRead s) (semOk s) w) :=
  spec_ParseSemigroup s w hs
theorem ci_SemigroupText (L : List Int) (a : Option Addr) (c : Nat) (w : World) (hr : SlW w a c (L.map (Value.int .i64))) (hb : L.length ≤ 1048576) (hv : EnvFmt w) :
    Calls Tryz.prog 7 #[.agg #[.slice a L.length c]] w fun e w' => e = .returned (.string (semText L)) ∧ Below w.heap.size w w' :=
  impl_SemigroupText L a c w hr.sl hb hv
theorem ci_GapText (L : List Int) (a : Option Addr) (c : Nat) (w : World) (hr : SlW w a c (L.map (Value.int .i64))) (hb : L.length ≤ 1048576) (hv : EnvFmt w) :
    Calls Tryz.prog 14 #[.agg #[.slice a L.length c]] w fun e w' => e = .returned (.string (gapText L)) ∧ Below w.heap.size w w' :=
  impl_GapText L a c w hr.sl hb hv
theorem ci_ParseSemigroup (s : ByteArray) (w : World) (hs : s.size ≤ 1048576) (hv : EnvSem w) :
    Calls Tryz.prog 8 #[.string s] w (SgPost (semRead s) (semOk s) w) :=
  impl_ParseSemigroup s w hs hv
end Go.Proofs.YtdjjagpecbflnaaGreatDoor
