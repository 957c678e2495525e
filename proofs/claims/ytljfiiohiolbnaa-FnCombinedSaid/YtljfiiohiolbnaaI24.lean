/-
  CONTRACTS of the program's chapter 6, second part: positiveOf, FromApery. (Own work.)
-/
import Derived.Test.YtljfiiohiolbnaaI23
namespace Go.Proofs.Ytljfiiohiolbnaa
open Go Go.RowKit
attribute [local go_sem] Oper.semAt_some

theorem posL_take {L : List Int} {k : Nat} {x : Int} (hx : L[k]? = some x) : posL (L.take (k + 1)) = posL (L.take k) ++ (if 0 < x then [x] else []) := by
  unfold posL
  rw [List.take_add_one, hx, List.filter_append]
  congr 1
  show List.filter _ [x] = _
  rw [List.filter_cons]
  by_cases h : 0 < x
  · rw [if_pos (decide_eq_true h), if_pos h]; rfl
  · rw [if_neg (by simpa using h), if_neg h]; rfl


end Go.Proofs.Ytljfiiohiolbnaa
