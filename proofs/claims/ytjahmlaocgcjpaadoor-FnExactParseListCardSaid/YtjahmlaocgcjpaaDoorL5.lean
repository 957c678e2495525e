/-
  CONTRACT of the reference's SumsOf.
-/
import Derived.Test.YtjahmlaocgcjpaaDoorL4
namespace Go.Proofs.YtjahmlaocgcjpaaDoor
open Go Go.RowKit

def allSums (A B : List Int) : List Int := A.flatMap fun x => B.map fun y => x + y
def sums (A B : List Int) : List Int := if allB A && allB B then sortL (allSums A B) else []
theorem sums_in {A B : List Int} (ha : allB A = true) (hb : allB B = true) : sums A B = sortL (allSums A B) := by simp [sums, ha, hb]
theorem sums_out {A B : List Int} (h : allB A = false ∨ allB B = false) : sums A B = [] := by
  unfold sums
  rcases h with h | h <;> simp [h]
theorem allB_iff {L : List Int} (h : allB L = true) : L.length ≤ 300 ∧ ∀ x ∈ L, -1000000 ≤ x ∧ x ≤ 1000000 := by
  unfold allB at h
  rw [Bool.and_eq_true, List.all_eq_true, decide_eq_true_eq] at h
  exact ⟨h.2, fun x hx => small_iff.1 (h.1 x hx)⟩

theorem post_nil (w : World) : ∃ g cap, (Ending.returned (.slice (some ⟨w.heap.size, 0, none⟩) 0 0)) = .returned (.slice (some ⟨g, 0, none⟩) ([] : List Int).length cap) ∧
    (w.alloc (.cells #[] 3)).ownsRow w.heap.size 3 1 (.slice (some ⟨g, 0, none⟩) ([] : List Int).length cap) ([] : List Int).length (([] : List Int).map (Value.int .i64)) ∧ Below w.heap.size w (w.alloc (.cells #[] 3)) :=
  ⟨w.heap.size, 0, rfl, World.ownsRow_lit w #[] 0 (Nat.le_refl _) (by simp) rfl, (Below.refl _ _).alloc (Nat.le_refl _) _⟩

end Go.Proofs.YtjahmlaocgcjpaaDoor
