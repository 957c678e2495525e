/-
  THE CONTRACTS OF CHAPTER 22 IN THE CANONICAL FORM (genlaw.py). (Own work: mkC15.py.)
-/
import Derived.Test.YtopnehkhigacpaaSgTe
import Derived.Test.YtopnehkhigacpaaL75
import Derived.Test.YtopnehkhigacpaaI74
import Derived.Test.YtopnehkhigacpaaSgL
namespace Go.Proofs.Ytopnehkhigacpaa
open Go Go.RowKit

theorem cs_IsTelescopic (L0 : List Int) (a0 : Option Addr) (c0 : Nat) (w : World) (hr0 : SlW w a0 c0 (L0.map (Value.int .i64))) (hb0 : L0.length ≤ 1048576) :
    Calls Try.prog 25 #[.slice a0 L0.length c0] w fun e w' => e = .returned (.bool (teleB L0)) ∧ Below w.heap.size w w' :=
  spec_IsTelescopic L0 a0 c0 w hr0.sl hb0 (by have := hr0.le; rw [List.length_map] at this; exact this)
theorem cs_TelescopicFrobenius (L0 : List Int) (a0 : Option Addr) (c0 : Nat) (w : World) (hr0 : SlW w a0 c0 (L0.map (Value.int .i64))) (hb0 : L0.length ≤ 1048576) :
    Calls Try.prog 29 #[.slice a0 L0.length c0] w fun e w' => e = .returned (.int .i64 (teleN L0)) ∧ Below w.heap.size w w' :=
  spec_TelescopicFrobenius L0 a0 c0 w hr0.sl hb0 (by have := hr0.le; rw [List.length_map] at this; exact this)
theorem ci_IsTelescopic (L0 : List Int) (a0 : Option Addr) (c0 : Nat) (w : World) (hr0 : SlW w a0 c0 (L0.map (Value.int .i64))) (hb0 : L0.length ≤ 1048576) :
    Calls Try.prog 27 #[.slice a0 L0.length c0] w fun e w' => e = .returned (.bool (teleB L0)) ∧ Below w.heap.size w w' :=
  impl_IsTelescopic L0 a0 c0 w hr0.sl hb0 (by have := hr0.le; rw [List.length_map] at this; exact this)
theorem ci_TelescopicFrobenius (L0 : List Int) (a0 : Option Addr) (c0 : Nat) (w : World) (hr0 : SlW w a0 c0 (L0.map (Value.int .i64))) (hb0 : L0.length ≤ 1048576) :
    Calls Try.prog 30 #[.slice a0 L0.length c0] w fun e w' => e = .returned (.int .i64 (teleN L0)) ∧ Below w.heap.size w w' :=
  impl_TelescopicFrobenius L0 a0 c0 w hr0.sl hb0 (by have := hr0.le; rw [List.length_map] at this; exact this)
end Go.Proofs.Ytopnehkhigacpaa
