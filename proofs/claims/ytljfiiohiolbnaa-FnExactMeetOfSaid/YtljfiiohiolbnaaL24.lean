/-
  CHAPTER 7 OF THE REFERENCE: FromCoordinates. (Own work.)
-/
import Derived.Test.YtljfiiohiolbnaaL21
import Derived.Test.YtljfiiohiolbnaaL23
namespace Go.Proofs.Ytljfiiohiolbnaa
open Go Go.RowKit

theorem zeroSg : (Try.prog.info? 26).map (·.zero) = some (some (.agg [Value.slice none 0 0].toArray)) := by kernel_rfl
theorem sizeSg : (Try.prog.info? 26).map (·.size) = some 1 := by kernel_rfl
theorem undSg : ∃ d, Try.prog.underlying 26 = some d ∧ d.isRow = true := by
  have h : ((Try.prog.underlying 26).map (·.isRow)) = some true := by kernel_rfl
  cases hd : Try.prog.underlying 26 with
  | none => rw [hd] at h; cases h
  | some d => rw [hd] at h; exact ⟨d, rfl, by simpa using h⟩
theorem own_apart {w : World} {base : Nat} {e : TypeId} {v : Value} {n : Nat} {xs : List Value} (h : w.ownsRow base e 1 v n xs) {g : Nat} (hg : g < base ∨ w.heap.size ≤ g) : v.ownBlock = none ∨ v.ownBlock ≠ some g := by
  cases hv : v.ownBlock with
  | none => exact .inl rfl
  | some k => exact .inr fun e' => by cases e'; have := h.lt g hv; omega
theorem apList_take {L : List Int} {r : Nat} (h1 : 1 ≤ r) (hr : r < L.length + 1) : (apList L).take (r + 1) = (apList L).take r ++ [at7 L r * ((L.length : Int) + 1) + (r : Int)] := by
  rw [List.take_add_one, apList_at hr, if_neg (by omega)]; rfl
theorem apList_one (L : List Int) : (apList L).take 1 = [0] := by
  rw [List.take_add_one, apList_at (by omega), if_pos rfl]; rfl
theorem fromApL_le (l : List Int) : (fromApL l).length ≤ 12 := by
  cases h : fromApB l
  · rw [fromApL_no h]; exact Nat.zero_le _
  · exact (isSgB_iff.1 (fromApB_sg h).1.sg).len
theorem fromCo_ap {L : List Int} (h1 : clashQ L = false) (h2 : L.length < 60) : fromCoB L = fromApB (apList L) ∧ fromCoL L = fromApL (apList L) := by
  have e : fromCoB L = fromApB (apList L) := by unfold fromCoB; rw [h1, decide_eq_true h2]; rfl
  refine ⟨e, ?_⟩
  cases h : fromApB (apList L)
  · rw [fromCoL_no (by rw [e, h]), fromApL_no h]
  · exact fromCoL_yes (by rw [e, h])

end Go.Proofs.Ytljfiiohiolbnaa
