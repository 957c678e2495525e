/-
  CHAPTER 6 OF THE REFERENCE: AperySet, FrobeniusByApery, GenusByApery. (Own work.)
-/
import Derived.Test.YtljfiiohiolbnaaSgA
namespace Go.Proofs.Ytljfiiohiolbnaa
open Go Go.RowKit

theorem ap_next {p : Nat → Bool} {n r x m : Nat} (h : Least p n r x) (hm : m % n = r) (hle : m ≤ x) (hp : p m = false) : m + n ≤ x := by
  obtain ⟨i, hi⟩ := class_form h.cls
  obtain ⟨j, hj⟩ := class_form hm
  have hne : m ≠ x := fun e => by rw [e, h.has] at hp; cases hp
  have hji : j < i := by
    rcases Nat.lt_or_ge j i with h' | h'
    · exact h'
    · have := Nat.mul_le_mul_right n h'; omega
  have h4 := Nat.mul_le_mul_right n (show j + 1 ≤ i from hji)
  rw [Nat.succ_mul] at h4
  omega
theorem apL_take (p : Nat → Bool) (n r : Nat) : (List.range (r + 1)).map (fun j => (apOf p n j : Int)) = (List.range r).map (fun j => (apOf p n j : Int)) ++ [(apOf p n r : Int)] := by
  rw [List.range_succ, List.map_append]; rfl

theorem l1Max_any (x y : Int) (w : World) : Calls Try.prog 95 #[.int .i64 x, .int .i64 y] w fun e w' => e = .returned (.int .i64 (max x y)) ∧ w' = w := by
  by_cases h : x < y
  · rw [show max x y = y by omega]
    have h2 : ¬ y < x := by omega
    go_enter Try.func95, Try.ntmps95
    go_wp2_with fail
    go_ret
    exact ⟨rfl, rfl⟩
  · rw [show max x y = x by omega]
    by_cases h2 : y < x
    · go_enter Try.func95, Try.ntmps95
      go_wp2_with fail
      go_ret
      exact ⟨rfl, rfl⟩
    · obtain rfl : x = y := by omega
      go_enter Try.func95, Try.ntmps95
      go_wp2_with fail
      go_ret
      exact ⟨rfl, rfl⟩
end Go.Proofs.Ytljfiiohiolbnaa
