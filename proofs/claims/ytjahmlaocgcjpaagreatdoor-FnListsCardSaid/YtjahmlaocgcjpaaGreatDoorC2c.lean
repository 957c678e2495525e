/-
  THE CONTRACTS OF CHAPTER 2 IN THE CANONICAL FORM (genlaw.py): SortList.
-/
import Derived.Test.YtjahmlaocgcjpaaGreatDoorI3
namespace Go.Proofs.YtjahmlaocgcjpaaGreatDoor
open Go Go.RowKit

theorem cs_SortList (L : List Int) (a : Option Addr) (c : Nat) (w : World) (hr : SlW w a c (L.map (Value.int .i64))) (hb : L.length ≤ 1048576) :
    Calls Tryz.prog 18 #[.slice a L.length c] w (SlPost (sortL L) w) :=
  (spec_SortList L a c w hr.sl hb).mono fun _ _ ⟨_, _, he, ho, h⟩ => ⟨_, he, ho, h⟩
theorem ci_SortList (L : List Int) (a : Option Addr) (c : Nat) (w : World) (hr : SlW w a c (L.map (Value.int .i64))) (hb : L.length ≤ 1048576) :
    Calls Tryz.prog 12 #[.slice a L.length c] w (SlPost (sortL L) w) :=
  impl_SortList L a c w hr hb
end Go.Proofs.YtjahmlaocgcjpaaGreatDoor
