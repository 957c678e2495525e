/-
  CONTRACTS of the program's chapter 4, second part: gapsBelow. (Own work.)
-/
import Derived.Test.YtdjjagpecbflnaaGreatDoorI15
import Derived.Test.YtdjjagpecbflnaaGreatDoorI11
namespace Go.Proofs.YtdjjagpecbflnaaGreatDoor
open Go Go.RowKit
attribute [local go_sem] Oper.semAt_some

theorem gapsB_asc (T : Nat → Bool) (m : Nat) : (gapsB T m).Pairwise (· < ·) := by
  unfold gapsB upB
  rw [List.pairwise_map]
  exact (List.Pairwise.filter _ List.pairwise_lt_range).imp fun h => by simp only [Int.ofNat_eq_natCast]; omega
theorem mem_gapsB {T : Nat → Bool} {m : Nat} {x : Int} : x ∈ gapsB T m ↔ 0 ≤ x ∧ x < m ∧ T x.toNat = false := by
  unfold gapsB
  rw [List.mem_map]
  constructor
  · rintro ⟨a, ha, rfl⟩
    obtain ⟨h1, h2⟩ := mem_upB.1 ha
    simp only [Int.ofNat_eq_natCast, Int.toNat_natCast]
    exact ⟨by omega, by omega, by simpa using h2⟩
  · rintro ⟨h0, h1, h2⟩
    exact ⟨x.toNat, mem_upB.2 ⟨by omega, by rw [h2]; rfl⟩, by simp only [Int.ofNat_eq_natCast]; omega⟩
theorem gapsB_len_le (T : Nat → Bool) (m : Nat) : (gapsB T m).length ≤ m := by
  unfold gapsB; rw [List.length_map]; exact upB_len_le _ _
theorem gapsB_below (T : Nat → Bool) {n m : Nat} (h : n ≤ m) : (gapsB T m).filter (fun x => decide (x < (n : Int))) = gapsB T n := by
  induction m with
  | zero => obtain rfl : n = 0 := by omega
            rfl
  | succ m ih =>
    by_cases e : n = m + 1
    · subst e
      rw [List.filter_eq_self]
      intro x hx
      have := (mem_gapsB.1 hx).2.1
      exact decide_eq_true this
    · cases hT : T m
      · rw [gapsB_hit hT, List.filter_append, ih (by omega)]
        simp; omega
      · rw [gapsB_miss hT]; exact ih (by omega)
/-- A walk up an ascending list that stops at the first number that is not less than n has seen all that are. -/
theorem stop_filter {xs pre : List Int} {x n : Int} (ha : xs.Pairwise (· < ·)) (hp : pre ++ [x] <+: xs) (hl : ∀ y ∈ pre, y < n) (hx : n ≤ x) : xs.filter (fun y => decide (y < n)) = pre := by
  obtain ⟨r, rfl⟩ := hp
  rw [List.append_assoc, List.pairwise_append] at ha
  obtain ⟨-, h2, -⟩ := ha
  rw [List.singleton_append, List.pairwise_cons] at h2
  rw [List.append_assoc, List.filter_append, List.filter_eq_self.2 (fun y hy => decide_eq_true (hl y hy)), List.filter_eq_nil_iff.2, List.append_nil]
  intro y hy
  rw [List.singleton_append, List.mem_cons] at hy
  rcases hy with rfl | hy
  · simp; omega
  · have := h2.1 y hy
    simp; omega

end Go.Proofs.YtdjjagpecbflnaaGreatDoor
