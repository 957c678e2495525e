/-
  THE PRIMITIVE NUMBERS OUTSIDE A LIST OF GAPS: no program. What the reference's FromGaps collects is the semigroup with these gaps. (Own work.)
-/
import Derived.Test.YtljfiiohiolbnaaSgF
namespace Go.Proofs.Ytljfiiohiolbnaa
open Go

noncomputable def primL (L : List Int) : Nat → List Int
  | 0 => []
  | n + 1 => if decide (1 ≤ n) && !isIn L n && !sumB (primL L n) n then primL L n ++ [(n : Int)] else primL L n
theorem primL_len (L : List Int) : ∀ n, (primL L n).length ≤ n
  | 0 => Nat.le_refl _
  | n + 1 => by
    have ih := primL_len L n
    unfold primL
    split
    · rw [List.length_append, List.length_singleton]; omega
    · omega
theorem primL_mono {L : List Int} {n : Nat} {x : Int} (h : x ∈ primL L n) : x ∈ primL L (n + 1) := by
  unfold primL
  split
  · exact List.mem_append_left _ h
  · exact h
theorem primL_le {L : List Int} {n m : Nat} (h : n ≤ m) {x : Int} (hx : x ∈ primL L n) : x ∈ primL L m := by
  induction h with
  | refl => exact hx
  | step _ ih => exact primL_mono ih
/-- What is collected. -/
theorem primL_mem {L : List Int} : ∀ {n : Nat} {x : Int}, x ∈ primL L n → ∃ k : Nat, x = (k : Int) ∧ 1 ≤ k ∧ k < n ∧ isIn L k = false ∧ sumB (primL L k) k = false
  | 0, x, h => by unfold primL at h; simp at h
  | n + 1, x, h => by
    unfold primL at h
    split at h
    · rename_i hc
      rw [Bool.and_eq_true, Bool.and_eq_true, decide_eq_true_eq, Bool.not_eq_true', Bool.not_eq_true'] at hc
      rcases List.mem_append.1 h with h | h
      · obtain ⟨k, h1, h2, h3, h4⟩ := primL_mem h
        exact ⟨k, h1, h2, by omega, h4⟩
      · exact ⟨n, List.mem_singleton.1 h, hc.1.1, by omega, hc.1.2, hc.2⟩
    · obtain ⟨k, h1, h2, h3, h4⟩ := primL_mem h
      exact ⟨k, h1, h2, by omega, h4⟩
/-- A number that is collected is so at its turn. -/
theorem primL_at {L : List Int} : ∀ {n k : Nat}, (k : Int) ∈ primL L n → (k : Int) ∈ primL L (k + 1)
  | 0, k, h => by unfold primL at h; simp at h
  | n + 1, k, h => by
    by_cases e : k = n
    · subst e; exact h
    · unfold primL at h
      split at h
      · rcases List.mem_append.1 h with h | h
        · exact primL_at h
        · have := List.mem_singleton.1 h; omega
      · exact primL_at h
theorem primL_pos (L : List Int) (n : Nat) : Pos (primL L n) := fun x hx => by obtain ⟨k, rfl, h, -⟩ := primL_mem hx; omega
theorem primL_lt {L : List Int} {n : Nat} {x : Int} (h : x ∈ primL L n) : 1 ≤ x ∧ x < n := by obtain ⟨k, rfl, h1, h2, -⟩ := primL_mem h; omega
theorem primL_asc (L : List Int) : ∀ n, (primL L n).Pairwise (· < ·)
  | 0 => List.Pairwise.nil
  | n + 1 => by
    unfold primL
    split
    · rw [List.pairwise_append]
      refine ⟨primL_asc L n, List.pairwise_singleton _ _, fun a ha b hb => ?_⟩
      rw [List.mem_singleton.1 hb]; exact (primL_lt ha).2
    · exact primL_asc L n
theorem primL_Asc (L : List Int) (n : Nat) : Asc (primL L n) := fun i j hj hij => List.pairwise_iff_getElem.1 (primL_asc L n) i j (by omega) hj hij
/-- Every number below n that is not in the list is a sum of what is collected below n. -/
theorem primL_sum {L : List Int} : ∀ {n x : Nat}, x < n → isIn L x = false → IsSum (primL L n) x
  | 0, x, h, _ => by omega
  | n + 1, x, h, ho => by
    rcases Nat.lt_or_ge x n with h' | h'
    · exact (primL_sum h' ho).mono fun y hy => primL_mono hy
    · obtain rfl : x = n := by omega
      rcases Nat.eq_zero_or_pos x with rfl | h1
      · exact .zero
      · cases hs : sumB (primL L x) x
        · refine IsSum.gen ?_
          unfold primL
          rw [if_pos (by rw [decide_eq_true (show 1 ≤ x from h1), ho, hs]; rfl)]
          exact List.mem_append_right _ (List.mem_singleton.2 rfl)
        · exact (sumB_iff.1 hs).mono fun y hy => primL_mono hy
/-- Its own numbers are no sums of others. -/
theorem primL_min (L : List Int) (n : Nat) : minL (primL L n) = primL L n := by
  rw [minL_of_asc (primL_Asc L n)]
  unfold minOf
  rw [List.filter_eq_self]
  intro x hx
  obtain ⟨k, rfl, h1, h2, h3, h4⟩ := primL_mem hx
  rw [Int.toNat_natCast, sumB_congr (H := primL L k), h4]
  · rfl
  · intro y
    rw [List.mem_filter, decide_eq_true_eq]
    constructor
    · rintro ⟨hy, hlt⟩
      obtain ⟨j, rfl, -, -, -⟩ := primL_mem hy
      exact primL_le (show j + 1 ≤ k by omega) (primL_at hy)
    · intro hy
      have := (primL_lt hy).2
      exact ⟨primL_le (by omega) hy, this⟩
theorem okGp_asc {L : List Int} (h : okGp L = true) : Asc L := asc_of_ascB (okGp_iff.1 h).2
/-- The semigroup with these gaps. -/
theorem fromGp_prim {L : List Int} (hok : okGp L = true) (hno : gapR L = none) {m : Nat} (hm : ∀ n, isIn L n = true → n ≤ m) :
    isSgB (primL L (2 * m + 3)) = fromGpB L ∧ (fromGpB L = true → fromGpL L = primL L (2 * m + 3)) := by
  have h0 : isIn L 0 = false := isIn_false.2 fun h => by have := (okGp_iff.1 hok).1 _ h; omega
  have hcl : ∀ x y, isIn L x = false → isIn L y = false → isIn L (x + y) = false := fun x y hx hy => gapR_closed hok hno hx hy
  have hsum : ∀ x, IsSum (primL L (2 * m + 3)) x ↔ isIn L x = false := by
    intro x
    constructor
    · exact fun h => sum_out h0 (fun y hy => by obtain ⟨k, e, -, -, h, -⟩ := primL_mem hy; obtain rfl : y = k := (by omega); exact h) hcl h
    · induction x using Nat.strongRecOn with
      | ind x ih =>
        intro ho
        rcases Nat.lt_or_ge x (2 * m + 3) with h | h
        · exact primL_sum h ho
        · have h1 : isIn L (x - (m + 1)) = false := by
            cases hq : isIn L (x - (m + 1))
            · rfl
            · have := hm _ hq; omega
          have h2 : isIn L (m + 1) = false := by
            cases hq : isIn L (m + 1)
            · rfl
            · have := hm _ hq; omega
          have := (ih (x - (m + 1)) (by omega) h1).plus (ih (m + 1) (by omega) h2)
          rwa [show x - (m + 1) + (m + 1) = x by omega] at this
  have hone : fromGpB L = true → fromGpL L = primL L (2 * m + 3) ∧ isSgB (primL L (2 * m + 3)) = true := fun h => by
    obtain ⟨h1, h2⟩ := fromGp_iff.1 ⟨h, rfl⟩
    have e : primL L (2 * m + 3) = fromGpL L := by
      have := minL_sg h1 (primL_pos L (2 * m + 3)) fun n => by
        have hi := isIn_gaps h1 n
        rw [h2] at hi
        rw [hsum, ← sumB_iff]
        cases hs : sumB (fromGpL L) n <;> rw [hs] at hi <;> simp [hi]
      rw [primL_min] at this
      exact this
    exact ⟨e.symm, by rw [e]; exact h1⟩
  refine ⟨?_, fun h => (hone h).1⟩
  cases hb : fromGpB L
  · cases hs : isSgB (primL L (2 * m + 3))
    · rfl
    · have hg : gapsL (primL L (2 * m + 3)) = L := by
        refine asc_unique (okGp_asc (gapsL_okGp hs)) (okGp_asc hok) fun x => ?_
        have key : ∀ n : Nat, ((n : Int) ∈ gapsL (primL L (2 * m + 3)) ↔ (n : Int) ∈ L) := fun n => by
          rw [← isIn_iff, ← isIn_iff, isIn_gaps hs n]
          have := hsum n
          rw [← sumB_iff] at this
          cases h1 : sumB (primL L (2 * m + 3)) n
          · rw [h1] at this
            cases h2 : isIn L n
            · have := this.2 h2; cases this
            · simp
          · rw [h1] at this
            rw [this.1 rfl]; simp
        constructor
        · intro hx
          have := (okGp_iff.1 (gapsL_okGp hs)).1 x hx
          obtain ⟨n, rfl⟩ := Int.eq_ofNat_of_zero_le (show 0 ≤ x by omega)
          exact (key n).1 hx
        · intro hx
          have := (okGp_iff.1 hok).1 x hx
          obtain ⟨n, rfl⟩ := Int.eq_ofNat_of_zero_le (show 0 ≤ x by omega)
          exact (key n).2 hx
      have := (fromGp_iff.2 ⟨hs, hg⟩).1
      rw [hb] at this; cases this
  · exact (hone hb).2
end Go.Proofs.Ytljfiiohiolbnaa
