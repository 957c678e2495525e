/-
  CONTRACTS of the laws' markIntS and heldIntS: k0, k0 + 1, .. written into a row of ints, and read again.
-/
import Derived.Test.YtjahmlaocgcjpaaGreatDoorSl
import Derived.WalkKit
import Derived.WalkLawsBesides
import Derived.Outline
namespace Go.Proofs.YtjahmlaocgcjpaaGreatDoor
open Go Go.RowKit

def marksK (k0 : Int) (n : Nat) : List Value := (List.range n).map fun (j : Nat) => Value.int .i64 (k0 + (j : Int))
def markedK (k0 : Int) (xs : List Value) (i : Nat) : List Value := marksK k0 i ++ xs.drop i
theorem markedK_zero (k0 : Int) (xs : List Value) : markedK k0 xs 0 = xs := by simp [markedK, marksK]
theorem markedK_all (k0 : Int) (xs : List Value) : markedK k0 xs xs.length = marksK k0 xs.length := by simp [markedK]
theorem marksK_length (k0 : Int) (n : Nat) : (marksK k0 n).length = n := by simp [marksK]
theorem markedK_set (k0 : Int) (xs : List Value) (i : Nat) (h : i < xs.length) : (markedK k0 xs i).set i (.int .i64 (k0 + (i : Int))) = markedK k0 xs (i + 1) := by
  unfold markedK
  rw [List.set_append_right _ _ (by rw [marksK_length]; exact Nat.le_refl _)]
  have e1 : i - (marksK k0 i).length = 0 := by rw [marksK_length]; omega
  rw [e1, List.drop_eq_getElem_cons h, List.set_cons_zero]
  have e2 : marksK k0 (i + 1) = marksK k0 i ++ [.int .i64 (k0 + (i : Int))] := by unfold marksK; rw [List.range_succ, List.map_append]; rfl
  rw [e2, List.append_assoc]; rfl
theorem markedK_length (k0 : Int) (xs : List Value) (i : Nat) (h : i ≤ xs.length) : (markedK k0 xs i).length = xs.length := by
  unfold markedK; rw [List.length_append, marksK_length, List.length_drop]; omega





end Go.Proofs.YtjahmlaocgcjpaaGreatDoor
