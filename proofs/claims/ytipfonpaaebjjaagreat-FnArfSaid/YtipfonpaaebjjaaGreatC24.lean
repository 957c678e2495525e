/-
  THE CONTRACTS OF CHAPTER 24 IN THE CANONICAL FORM (genlaw.py). (Own work: mkC15.py.)
-/
import Derived.Test.YtipfonpaaebjjaaGreatSgAr
import Derived.Test.YtipfonpaaebjjaaGreatL72
import Derived.Test.YtipfonpaaebjjaaGreatI72
import Derived.Test.YtipfonpaaebjjaaGreatSgL
namespace Go.Proofs.YtipfonpaaebjjaaGreat
open Go Go.RowKit

theorem cs_BlowUp (L0 : List Int) (a0 : Option Addr) (c0 : Nat) (w : World) (hr0 : SlW w a0 c0 (L0.map (Value.int .i64))) (hb0 : L0.length ≤ 1048576) :
    Calls Tryz.prog 28 #[.agg #[.slice a0 L0.length c0]] w (SgPost (blowL L0) (blowB L0) w) :=
  spec_BlowUp L0 a0 c0 w hr0.sl hb0
theorem cs_MultiplicitySequence (L0 : List Int) (a0 : Option Addr) (c0 : Nat) (w : World) (hr0 : SlW w a0 c0 (L0.map (Value.int .i64))) (hb0 : L0.length ≤ 1048576) :
    Calls Tryz.prog 30 #[.agg #[.slice a0 L0.length c0]] w (ReadPost (seqF 201 L0) w) :=
  spec_MultiplicitySequence L0 a0 c0 w hr0.sl hb0
theorem ci_BlowUp (L0 : List Int) (a0 : Option Addr) (c0 : Nat) (w : World) (hr0 : SlW w a0 c0 (L0.map (Value.int .i64))) (hb0 : L0.length ≤ 1048576) :
    Calls Tryz.prog 27 #[.agg #[.slice a0 L0.length c0]] w (SgPost (blowL L0) (blowB L0) w) :=
  impl_BlowUp L0 a0 c0 w hr0.sl hb0 (by have := hr0.le; rw [List.length_map] at this; exact this)
theorem ci_MultiplicitySequence (L0 : List Int) (a0 : Option Addr) (c0 : Nat) (w : World) (hr0 : SlW w a0 c0 (L0.map (Value.int .i64))) (hb0 : L0.length ≤ 1048576) :
    Calls Tryz.prog 29 #[.agg #[.slice a0 L0.length c0]] w (ReadPost (seqF 201 L0) w) :=
  impl_MultiplicitySequence L0 a0 c0 w hr0.sl hb0 (by have := hr0.le; rw [List.length_map] at this; exact this)
end Go.Proofs.YtipfonpaaebjjaaGreat
