/-
  CHAPTER 6 OF THE REFERENCE: FromApery. (Own work.)
-/
import Derived.Test.YtljfiiohiolbnaaL19
namespace Go.Proofs.Ytljfiiohiolbnaa
open Go Go.RowKit

theorem apGens_take (l : List Int) (k : Nat) (hk : k + 1 < l.length) : (apGens l).take (k + 1 + 1) = (apGens l).take (k + 1) ++ [l[k + 1]] := by
  have hl : k + 1 < (apGens l).length := by unfold apGens; simp; omega
  have he : (apGens l)[k + 1]'hl = l[k + 1] := by
    show ((l.length : Int) :: l.tail)[k + 1]'(by simp; omega) = l[k + 1]
    rw [List.getElem_cons_succ, List.getElem_tail]
  rw [List.take_add_one, List.getElem?_eq_getElem hl, he]
  rfl
theorem apGens_length {l : List Int} (h : 1 ≤ l.length) : (apGens l).length = l.length := by unfold apGens; simp; omega
theorem fromAp_len {l : List Int} (h : inB (l.length : Int) 1 60 = false) : fromApB l = false := by unfold fromApB; rw [h]; rfl
theorem fromAp_bad {l : List Int} (k : Nat) (hk : k + 1 < l.length) (h : inB l[k + 1] 1 260 = false) : fromApB l = false := by
  have : apTail l = false := by
    rw [Bool.eq_false_iff]
    intro ht
    have h1 := List.all_eq_true.1 ht l[k + 1] (by
      have h2 : k < l.tail.length := by rw [List.length_tail]; omega
      have : l.tail[k] = l[k + 1] := by rw [List.getElem_tail]
      rw [← this]; exact List.getElem_mem h2)
    rw [h] at h1; cases h1
  unfold fromApB; rw [this, Bool.and_false, Bool.false_and]
theorem apGens_ok {l : List Int} (h : 1 ≤ (l.length : Int) ∧ (l.length : Int) ≤ 60) (ht : ∀ k (hk : k + 1 < l.length), inB l[k + 1] 1 260 = true) : ∀ x ∈ apGens l, 1 ≤ x ∧ x ≤ 260 := by
  intro x hx
  unfold apGens at hx
  rcases List.mem_cons.1 hx with rfl | hx
  · omega
  · obtain ⟨i, hi, e⟩ := List.getElem_of_mem hx
    rw [List.getElem_tail] at e
    rw [List.length_tail] at hi
    have := inB_iff.1 (ht i (by omega))
    rw [e] at this
    exact this
theorem fromAp_same {l : List Int} (h : inB (l.length : Int) 1 60 = true) (ht : ∀ k (hk : k + 1 < l.length), inB l[k + 1] 1 260 = true) : fromApB l = decide (aperyL (minL (apGens l)) (l.length : Int) = l) := by
  have : apTail l = true := List.all_eq_true.2 fun x hx => by
    obtain ⟨i, hi, e⟩ := List.getElem_of_mem hx
    rw [List.getElem_tail] at e
    rw [List.length_tail] at hi
    rw [← e]; exact ht i (by omega)
  unfold fromApB; rw [h, this]; rfl

end Go.Proofs.Ytljfiiohiolbnaa
