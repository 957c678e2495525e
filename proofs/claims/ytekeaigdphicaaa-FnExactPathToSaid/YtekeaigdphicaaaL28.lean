/-
  CHAPTER 9 OF THE REFERENCE: l9Mirror, IsSymmetric, IsPseudoSymmetric, IsIrreducible. (Own work.)
-/
import Derived.Test.YtekeaigdphicaaaSgS
import Derived.Test.YtekeaigdphicaaaCh4L
import Derived.Test.YtekeaigdphicaaaHta
namespace Go.Proofs.Ytekeaigdphicaaa
open Go Go.RowKit

noncomputable def mirAt (G : List Int) (mid : Bool) (x : Nat) : Bool := (mid && decide (2 * x + 1 = condNat G)) || (sumB G x != sumB G (condNat G - 1 - x))
theorem mirB_no {G : List Int} {mid : Bool} {x : Nat} (hx : x < condNat G) (h : mirAt G mid x = false) : mirB G mid = false := by
  unfold mirB
  exact List.all_eq_false.2 ⟨x, List.mem_range.2 hx, by unfold mirAt at h; rw [h]; simp⟩
theorem mirB_yes {G : List Int} {mid : Bool} (h : ∀ x, x < condNat G → mirAt G mid x = true) : mirB G mid = true := by
  unfold mirB
  exact List.all_eq_true.2 fun x hx => h x (List.mem_range.1 hx)
end Go.Proofs.Ytekeaigdphicaaa
