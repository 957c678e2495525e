/-
  CONTRACTS of the reference's chapter 2: lists of numbers.
-/
import Derived.Test.YtjahmlaocgcjpaaDoorListM
import Derived.Test.YtjahmlaocgcjpaaDoorSl
import Derived.WalkKit
import Derived.WalkLawsBesides
import Derived.BigQuiet
import Derived.Deep.QuietTactic
import Derived.Outline
namespace Go.Proofs.YtjahmlaocgcjpaaDoor
open Go Go.RowKit

def inB (x lo hi : Int) : Bool := decide (lo ≤ x) && decide (x ≤ hi)
theorem inB_true {x lo hi : Int} (h : inB x lo hi = true) : lo ≤ x ∧ x ≤ hi := by simpa [inB] using h
theorem inB_false {x lo hi : Int} (h : inB x lo hi = false) : x < lo ∨ hi < x := by
  simp [inB] at h; omega
theorem inB_mk {x lo hi : Int} (h : lo ≤ x) (h2 : x ≤ hi) : inB x lo hi = true := by simp [inB, h, h2]
theorem inB_no {x lo hi : Int} (h : x < lo ∨ hi < x) : inB x lo hi = false := by simp [inB]; omega
theorem small_in (x : Int) : small x = inB x (-1000000) 1000000 := rfl






/-- Is a number among them. -/
def hasB (L : List Int) (n : Int) : Bool := decide (n ∈ L)


/-- Each number is greater than the one before it. -/
def Next (L : List Int) : Prop := ∀ (k : Nat) (hk : k + 1 < L.length), L[k] < L[k + 1]
open Classical in
noncomputable def ascB (L : List Int) : Bool := if Next L then true else false
theorem ascB_true {L : List Int} (h : Next L) : ascB L = true := by unfold ascB; rw [if_pos h]
theorem ascB_false {L : List Int} (h : ¬ Next L) : ascB L = false := by unfold ascB; rw [if_neg h]
theorem asc_of_ascB {L : List Int} (h : ascB L = true) : Asc L := by
  unfold ascB at h
  split at h
  · rename_i hn; exact asc_of_next hn
  · cases h

end Go.Proofs.YtjahmlaocgcjpaaDoor
