/-
  THE CONTRACTS OF CHAPTER 2 IN THE CANONICAL FORM (genlaw.py): SumsOf, SharedOf.
-/
import Derived.Test.YtjahmlaocgcjpaaGreatDoorI4
namespace Go.Proofs.YtjahmlaocgcjpaaGreatDoor
open Go Go.RowKit

theorem allSums_length : ∀ A B : List Int, (allSums A B).length = A.length * B.length
  | [], B => by simp [allSums]
  | a :: r, B => by
    have ih := allSums_length r B
    unfold allSums at *
    rw [List.flatMap_cons, List.length_append, ih, List.length_map, List.length_cons, Nat.succ_mul, Nat.add_comm]

theorem sums_length_le (A B : List Int) : (sums A B).length ≤ 90000 := by
  unfold sums
  split
  · rename_i h
    rw [Bool.and_eq_true] at h
    obtain ⟨h1, -⟩ := allB_iff h.1
    obtain ⟨h2, -⟩ := allB_iff h.2
    refine Nat.le_trans (sortL_length_le _) ?_
    rw [allSums_length]
    exact Nat.le_trans (Nat.mul_le_mul h1 h2) (by decide)
  · simp

theorem cs_SumsOf (A : List Int) (a : Option Addr) (ca : Nat) (B : List Int) (b : Option Addr) (cb : Nat) (w : World) (ha : SlW w a ca (A.map (Value.int .i64))) (hb : SlW w b cb (B.map (Value.int .i64))) (hA : A.length ≤ 1048576) (hB : B.length ≤ 1048576) :
    Calls Tryz.prog 21 #[.slice a A.length ca, .slice b B.length cb] w (SlPost (sums A B) w) :=
  (spec_SumsOf A B a b ca cb w ha.sl hb.sl hA hB).mono fun _ _ ⟨_, _, he, ho, h⟩ => ⟨_, he, ho, h⟩
theorem ci_SumsOf (A : List Int) (a : Option Addr) (ca : Nat) (B : List Int) (b : Option Addr) (cb : Nat) (w : World) (ha : SlW w a ca (A.map (Value.int .i64))) (hb : SlW w b cb (B.map (Value.int .i64))) (hA : A.length ≤ 1048576) (hB : B.length ≤ 1048576) :
    Calls Tryz.prog 20 #[.slice a A.length ca, .slice b B.length cb] w (SlPost (sums A B) w) :=
  impl_SumsOf A B a b ca cb w ha.sl hb.sl hA hB
theorem cs_SharedOf (A : List Int) (a : Option Addr) (ca : Nat) (B : List Int) (b : Option Addr) (cb : Nat) (w : World) (ha : SlW w a ca (A.map (Value.int .i64))) (hb : SlW w b cb (B.map (Value.int .i64))) (hA : A.length ≤ 1048576) (hB : B.length ≤ 1048576) :
    Calls Tryz.prog 23 #[.slice a A.length ca, .slice b B.length cb] w (SlPost (shared A B) w) :=
  (spec_SharedOf A B a b ca cb w ha.sl hb.sl hA hB).mono fun _ _ ⟨_, _, he, ho, h⟩ => ⟨_, he, ho, h⟩
theorem ci_SharedOf (A : List Int) (a : Option Addr) (ca : Nat) (B : List Int) (b : Option Addr) (cb : Nat) (w : World) (ha : SlW w a ca (A.map (Value.int .i64))) (hb : SlW w b cb (B.map (Value.int .i64))) (hA : A.length ≤ 1048576) (hB : B.length ≤ 1048576) :
    Calls Tryz.prog 22 #[.slice a A.length ca, .slice b B.length cb] w (SlPost (shared A B) w) :=
  impl_SharedOf A B a b ca cb w ha hb hA hB
end Go.Proofs.YtjahmlaocgcjpaaGreatDoor
