/-
  ExceedingOf of the reference. (Own work: mkE10.py.)
-/
import Derived.Test.YtopnehkhigacpaaGreatL36
import Derived.Test.YtopnehkhigacpaaGreatL19
import Derived.Test.YtopnehkhigacpaaGreatHta
namespace Go.Proofs.YtopnehkhigacpaaGreat
open Go Go.RowKit

theorem owns_put {w : World} {base : Nat} {e : TypeId} {g n cap : Nat} {xs : List Value} (h : w.ownsRow base e 1 (.slice (some ⟨g, 0, none⟩) n cap) n xs) (j : Nat) (u : Value) :
    (w.setCell ⟨g, j, none⟩ u).ownsRow base e 1 (.slice (some ⟨g, 0, none⟩) n cap) n (xs.set j u) := by
  obtain ⟨hx, hv | ⟨g', cap', cur, hv, h1, h2, h3, h4, h5, h6⟩⟩ := h
  · cases hv.1
  · injection hv with hv hv2 hv3
    injection hv with hv
    injection hv with hv
    subst hv hv3
    refine ⟨by rw [List.length_set]; exact hx, .inr ⟨g, cap, cur.setIfInBounds j u, rfl, h1, heap_setCell_same w g j cur e u h2, h3, h4, by rw [Array.size_setIfInBounds]; exact h5, ?_⟩⟩
    rw [Array.toList_setIfInBounds, List.take_set, h6]
/-- A list of which the first k numbers are less by n already. -/
def lessC (M : List Int) (n : Int) (k : Nat) : List Int := (M.take k).map (fun x => x - n) ++ M.drop k
theorem lessC_zero (M : List Int) (n : Int) : lessC M n 0 = M := by simp [lessC]
theorem lessC_all (M : List Int) (n : Int) : lessC M n M.length = M.map (fun x => x - n) := by simp [lessC]
theorem lessC_length (M : List Int) (n : Int) (k : Nat) : (lessC M n k).length = M.length := by simp [lessC]; omega
theorem lessC_at {M : List Int} (n : Int) {k : Nat} (hk : k < M.length) : (lessC M n k)[k]? = some M[k] := by
  unfold lessC
  rw [List.getElem?_append_right (by simp; omega)]
  simp [Nat.min_eq_left (Nat.le_of_lt hk), hk]
theorem lessC_set {M : List Int} (n : Int) {k : Nat} (hk : k < M.length) : (lessC M n k).set k (M[k] - n) = lessC M n (k + 1) := by
  apply List.ext_getElem?
  intro j
  rw [List.getElem?_set]
  unfold lessC
  by_cases hj : k = j
  · subst hj
    rw [if_pos rfl, if_pos (by simp; omega), List.getElem?_append_left (by simp; omega), List.getElem?_map, List.getElem?_take_of_lt (by omega), List.getElem?_eq_getElem hk]; rfl
  · rw [if_neg hj]
    rcases Nat.lt_or_ge j k with h | h
    · rw [List.getElem?_append_left (by simp; omega), List.getElem?_append_left (by simp; omega), List.getElem?_map, List.getElem?_map, List.getElem?_take_of_lt h, List.getElem?_take_of_lt (by omega)]
    · rw [List.getElem?_append_right (by simp; omega), List.getElem?_append_right (by simp; omega), List.getElem?_drop, List.getElem?_drop]
      simp only [List.length_map, List.length_take]
      congr 1; omega
theorem exc_bnd {G : List Int} {n : Int} : ∀ x ∈ topL G (aperyL G n) false, 0 ≤ x ∧ x ≤ 260 ∧ 1 ≤ n ∧ n ≤ 60 := by
  intro x hx
  rcases aperyL_cases G n with h | ⟨N, rfl, hA, he⟩
  · rw [h] at hx
    have := topL_len G [] false
    cases ht : topL G [] false with
    | nil => rw [ht] at hx; cases hx
    | cons a l => rw [ht] at this; simp at this
  · have h1 := ((mem_topL hA.sg (aperyL_small _)).1 hx).1
    obtain ⟨i, hi, rfl⟩ := List.getElem_of_mem h1
    have hl := aperyL_length hA
    obtain ⟨y, h2, -, -, h3, -⟩ := aperyL_at hA i (by omega)
    rw [List.getElem?_eq_getElem hi] at h2
    have hp := hA.pos
    have hle := hA.le
    rw [Option.some.inj h2]
    omega
theorem exc_len (G : List Int) (n : Int) : (topL G (aperyL G n) false).length ≤ 60 := Nat.le_trans (topL_len _ _ _) (aperyL_len_le G n)

end Go.Proofs.YtopnehkhigacpaaGreat
