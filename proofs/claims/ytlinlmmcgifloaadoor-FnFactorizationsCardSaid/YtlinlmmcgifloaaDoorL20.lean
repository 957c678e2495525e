/-
  CHAPTER 6 OF THE REFERENCE: FrobeniusByApery, GenusByApery. (Own work.)
-/
import Derived.Test.YtlinlmmcgifloaaDoorL19
namespace Go.Proofs.YtlinlmmcgifloaaDoor
open Go Go.RowKit

theorem aperyL_bounds {G : List Int} {n : Int} : ∀ x ∈ aperyL G n, 0 ≤ x ∧ x < 260 ∧ 1 ≤ n ∧ n ≤ 60 := by
  intro x hx
  rcases aperyL_cases G n with h | ⟨N, rfl, hN, h⟩
  · rw [h] at hx; simp at hx
  · rw [h] at hx
    obtain ⟨r, hr, rfl⟩ := mem_apL.1 hx
    have := apOf_lt hN.far hN.pos hr
    have := hN.le
    have := hN.pos
    omega
theorem max_take (L : List Int) (k : Nat) (hk : k < L.length) : (L.take (k + 1)).foldl max 0 = max ((L.take k).foldl max 0) L[k] := by
  rw [List.take_add_one, List.getElem?_eq_getElem hk, List.foldl_append]; rfl
theorem max_take_le {L : List Int} (hL : ∀ x ∈ L, 0 ≤ x ∧ x < 260) (k : Nat) : 0 ≤ (L.take k).foldl max 0 ∧ (L.take k).foldl max 0 < 260 := by
  refine ⟨(foldl_max_ge _ 0).1, ?_⟩
  have := foldl_max_le (l := L.take k) (b := 259) 0 (by omega) fun x hx => by have := (hL x (List.mem_of_mem_take hx)).2; omega
  omega
theorem quo_take (L : List Int) (n : Int) (k : Nat) (hk : k < L.length) : ((L.take (k + 1)).map fun x => x / n).sum = ((L.take k).map fun x => x / n).sum + L[k] / n := by
  rw [List.take_add_one, List.getElem?_eq_getElem hk, List.map_append, List.sum_append]
  simp
theorem quo_le {x n : Int} (h0 : 0 ≤ x) (h1 : x < 260) (hn : 1 ≤ n) : 0 ≤ x / n ∧ x / n < 260 :=
  ⟨Int.ediv_nonneg h0 (by omega), Int.lt_of_le_of_lt (Int.ediv_le_self n h0) h1⟩
theorem quo_take_le {L : List Int} {n : Int} (hL : ∀ x ∈ L, 0 ≤ x ∧ x < 260) (hn : 1 ≤ n) : ∀ k, 0 ≤ ((L.take k).map fun x => x / n).sum ∧ ((L.take k).map fun x => x / n).sum ≤ 260 * (k : Int) := by
  intro k
  induction k with
  | zero => simp
  | succ k ih =>
    by_cases hk : k < L.length
    · rw [quo_take L n k hk]
      have h1 := hL L[k] (List.getElem_mem hk)
      have h2 := quo_le h1.1 h1.2 hn
      omega
    · rw [List.take_of_length_le (by omega)] at ih ⊢
      omega

end Go.Proofs.YtlinlmmcgifloaaDoor
