/-
  PLAIN LEMMAS: what slices.Compact leaves of a list that slices.SortFunc has sorted: the ascending list of its members.
-/
import Derived.Test.YtjahmlaocgcjpaaGreatDoorListM
import Derived.Lib.SlicesCompact
import Derived.Lib.Small
import Derived.Shelf.SlSortCmp.NoneTotal
namespace Go.Proofs.YtjahmlaocgcjpaaGreatDoor
open Go Go.Lib Go.Sort

theorem asc_snoc {C : List Int} {x : Int} (h : Asc C) (hx : ∀ y ∈ C, y < x) : Asc (C ++ [x]) := by
  intro i j hj hij
  rw [List.length_append, List.length_singleton] at hj
  rcases Nat.lt_or_ge j C.length with h1 | h1
  · rw [List.getElem_append_left (by omega), List.getElem_append_left h1]; exact h i j h1 hij
  · have : j = C.length := by omega
    subst this
    rw [List.getElem_append_left (by omega), List.getElem_append_right (by omega)]
    simpa using hx _ (List.getElem_mem (by omega))

theorem compact_spec (d : Array Int) (hs : ∀ i j, i ≤ j → j < d.size → d[i]! ≤ d[j]!) : ∀ m, m ≤ d.size → Asc (compactUpTo d m) ∧ ∀ x, x ∈ compactUpTo d m ↔ ∃ j, j < m ∧ d[j]! = x
  | 0, _ => ⟨by simpa [compactUpTo] using Asc.nil, fun x => by simp [compactUpTo]⟩
  | m + 1, hm => by
    obtain ⟨h1, h2⟩ := compact_spec d hs m (by omega)
    rw [compactUpTo_succ]
    by_cases hk : keeps d m = true
    · rw [if_pos hk]
      refine ⟨asc_snoc h1 fun y hy => ?_, fun x => ?_⟩
      · obtain ⟨j, hj, rfl⟩ := (h2 y).1 hy
        have h3 : d[m]! ≠ d[m - 1]! := by
          have := hk
          unfold keeps at this
          rw [decide_eq_true_eq] at this
          rcases this with e | e
          · omega
          · exact e
        have h4 := hs j (m - 1) (by omega) (by omega)
        have h5 := hs (m - 1) m (by omega) (by omega)
        omega
      · rw [List.mem_append, h2, List.mem_singleton]
        constructor
        · rintro (⟨j, hj, e⟩ | e)
          · exact ⟨j, by omega, e⟩
          · exact ⟨m, by omega, e.symm⟩
        · rintro ⟨j, hj, e⟩
          rcases Nat.lt_or_ge j m with h | h
          · exact .inl ⟨j, h, e⟩
          · have : j = m := by omega
            subst this
            exact .inr e.symm
    · rw [if_neg hk, List.append_nil]
      refine ⟨h1, fun x => ?_⟩
      have hm0 : m ≠ 0 ∧ d[m]! = d[m - 1]! := by
        have := hk
        unfold keeps at this
        rw [decide_eq_true_eq] at this
        exact ⟨fun e => this (.inl e), Classical.not_not.1 fun e => this (.inr e)⟩
      rw [h2]
      constructor
      · rintro ⟨j, hj, e⟩; exact ⟨j, by omega, e⟩
      · rintro ⟨j, hj, e⟩
        rcases Nat.lt_or_ge j m with h | h
        · exact ⟨j, h, e⟩
        · have : j = m := by omega
          subst this
          exact ⟨j - 1, by omega, by rw [← hm0.2]; exact e⟩

theorem ltC (x y : Int) : ltOf Lib.compareInt x y = decide (x < y) := by
  unfold ltOf Lib.compareInt
  by_cases h1 : x < y
  · simp [h1]
  · by_cases h2 : y < x <;> simp [h1, h2]
theorem swoC : SWO (ltOf Lib.compareInt) where
  irrefl x := by rw [ltC]; simp
  trans x y z h1 h2 := by rw [ltC] at *; simp at *; omega
  ntrans x y z h1 h2 := by rw [ltC] at *; simp at *; omega
theorem totC (x y : Int) (h1 : ltOf Lib.compareInt x y = false) (h2 : ltOf Lib.compareInt y x = false) : x = y := by rw [ltC] at *; simp at *; omega
theorem leC : (fun x y : Int => !ltOf Lib.compareInt y x) = fun x y => decide (x ≤ y) := by
  funext x y
  rw [ltC]
  by_cases h : x ≤ y
  · have h' : ¬ y < x := by omega
    simp [h, h']
  · have h' : y < x := by omega
    simp [h, h']

theorem compact_sorted (L : List Int) : compact (L.mergeSort fun x y => decide (x ≤ y)) = sortL L := by
  have hp : (L.mergeSort fun x y => decide (x ≤ y)).Pairwise (fun a b => (decide (a ≤ b)) = true) :=
    List.pairwise_mergeSort (fun a b c h1 h2 => by simp at *; omega) (fun a b => by simp; omega) L
  have hperm := List.mergeSort_perm L (fun x y => decide (x ≤ y))
  generalize hS : (L.mergeSort fun x y => decide (x ≤ y)) = S at *
  have hs : ∀ i j, i ≤ j → j < S.toArray.size → S.toArray[i]! ≤ S.toArray[j]! := by
    intro i j hij hj
    have hj' : j < S.length := by simpa using hj
    rw [getElem!_pos _ i (by simp; omega), getElem!_pos _ j hj]
    simp only [List.getElem_toArray]
    rcases Nat.lt_or_ge i j with h | h
    · have := List.pairwise_iff_getElem.1 hp i j (by omega) hj' h
      simpa using this
    · have : i = j := by omega
      subst this
      exact Int.le_refl _
  obtain ⟨h1, h2⟩ := compact_spec S.toArray hs S.length (by simp)
  refine sortL_eq h1 fun x => ?_
  rw [show compact S = compactUpTo S.toArray S.length from rfl] at *
  rw [h2]
  constructor
  · rintro ⟨j, hj, e⟩
    rw [getElem!_pos _ j (by simpa using hj)] at e
    simp only [List.getElem_toArray] at e
    rw [← e]
    exact hperm.mem_iff.1 (List.getElem_mem hj)
  · intro hx
    obtain ⟨j, hj, e⟩ := List.getElem_of_mem (hperm.mem_iff.2 hx)
    exact ⟨j, hj, by rw [getElem!_pos _ j (by simpa using hj)]; simpa using e⟩
end Go.Proofs.YtjahmlaocgcjpaaGreatDoor
