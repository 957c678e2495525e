/-
  CONTRACTS of the program's chapter 8, second part: GapClash. (Own work.)
-/
import Derived.Test.YtljfiiohiolbnaaI30
namespace Go.Proofs.Ytljfiiohiolbnaa
open Go Go.RowKit
attribute [local go_sem] Oper.semAt_some

theorem gap_some {L : List Int} {a b : Nat} (h : gapR L = some (a, b)) : gapA L = (a : Int) ∧ gapB' L = (b : Int) ∧ gapQ L = true := by
  unfold gapA gapB' gapQ
  rw [h]
  exact ⟨rfl, rfl, rfl⟩
theorem gap_none {L : List Int} (h : gapR L = none) : gapA L = 0 ∧ gapB' L = 0 ∧ gapQ L = false := by
  unfold gapA gapB' gapQ
  rw [h]
  exact ⟨rfl, rfl, rfl⟩

end Go.Proofs.Ytljfiiohiolbnaa
