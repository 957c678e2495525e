/-
  THE DRAW OF LISTS OF LEAST ELEMENTS (chapter 6). (Own work.)
-/
import Derived.Test.YtgkkkmcgnpdchaaDrw10
namespace Go.Proofs.Ytgkkkmcgnpdchaa
open Go Go.RowKit

theorem own_put {w : World} {base : Nat} {e : TypeId} {g n cap : Nat} {xs : List Value} (h : w.ownsRow base e 1 (.slice (some ⟨g, 0, none⟩) n cap) n xs) (j : Nat) (u : Value) :
    (w.setCell ⟨g, j, none⟩ u).ownsRow base e 1 (.slice (some ⟨g, 0, none⟩) n cap) n (xs.set j u) := by
  obtain ⟨hx, hv | ⟨g', cap', cur, hv, h1, h2, h3, h4, h5, h6⟩⟩ := h
  · cases hv.1
  · injection hv with hv hv2 hv3
    injection hv with hv
    injection hv with hv
    subst hv hv3
    refine ⟨by rw [List.length_set]; exact hx, .inr ⟨g, cap, cur.setIfInBounds j u, rfl, h1, heap_setCell_same w g j cur e u h2, h3, h4, by rw [Array.size_setIfInBounds]; exact h5, ?_⟩⟩
    rw [Array.toList_setIfInBounds, List.take_set, h6]
/-- The list of a draw: least elements, the second perhaps moved. -/
theorem aperyL_small (G : List Int) (n : Int) : ∀ x ∈ aperyL G n, 0 ≤ x ∧ x ≤ 260 := by
  intro x hx
  rcases aperyL_cases G n with h | ⟨N, rfl, hA, h⟩
  · rw [h] at hx; cases hx
  · rw [h] at hx
    obtain ⟨r, hr, rfl⟩ := mem_apL.1 hx
    have := apOf_lt hA.far hA.pos hr
    have := hA.le
    omega

end Go.Proofs.Ytgkkkmcgnpdchaa
