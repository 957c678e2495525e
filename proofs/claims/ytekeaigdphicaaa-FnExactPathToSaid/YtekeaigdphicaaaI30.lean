/-
  CONTRACTS of the program's chapter 8, first part: areGaps, otherThan (a closure over an array), GapClash. (Own work.)
-/
import Derived.Test.YtekeaigdphicaaaL25
import Derived.Test.YtekeaigdphicaaaI24
namespace Go.Proofs.Ytekeaigdphicaaa
open Go Go.RowKit
attribute [local go_sem] Oper.semAt_some

theorem okGp_ends {L : List Int} (h : 0 < L.length) (ha : ascB L = true) : okGp L = (decide ((1 : Int) ≤ L[0]) && decide (L[L.length - 1] < 200)) := by
  have hasc := asc_of_ascB ha
  have hmono : ∀ (i j : Nat) (hi : i < L.length) (hj : j < L.length), i ≤ j → L[i] ≤ L[j] := fun i j hi hj hij => by
    rcases Nat.eq_or_lt_of_le hij with e | e
    · subst e; exact Int.le_refl _
    · exact Int.le_of_lt (hasc i j hj e)
  by_cases h1 : (1 : Int) ≤ L[0]
  · by_cases h2 : L[L.length - 1] < 200
    · rw [decide_eq_true h1, decide_eq_true h2]
      refine okGp_iff.2 ⟨fun x hx => ?_, ha⟩
      obtain ⟨i, hi, rfl⟩ := List.getElem_of_mem hx
      have := hmono 0 i h hi (Nat.zero_le _)
      have := hmono i (L.length - 1) hi (by omega) (by omega)
      omega
    · rw [decide_eq_false h2, Bool.and_false]
      cases hok : okGp L
      · rfl
      · have := (okGp_iff.1 hok).1 _ (List.getElem_mem (show L.length - 1 < L.length by omega)); omega
  · rw [decide_eq_false h1, Bool.false_and]
    cases hok : okGp L
    · rfl
    · have := (okGp_iff.1 hok).1 _ (List.getElem_mem h); omega
theorem okGp_nil : okGp [] = true := okGp_iff.2 ⟨fun x hx => by simp at hx, ascB_true fun k hk => by simp at hk⟩
theorem okGp_desc {L : List Int} (h : ascB L = false) : okGp L = false := by unfold okGp; rw [h, Bool.and_false]


theorem tab8_one (f : Nat → Bool) (T : Nat) : ∀ v ∈ tab8 f T, v.oneCell' = true := by
  intro v hv
  unfold tab8 at hv
  obtain ⟨j, -, rfl⟩ := List.mem_map.1 hv
  rfl
theorem isIn_nil (n : Nat) : isIn [] n = false := isIn_false.2 (by simp)


end Go.Proofs.Ytekeaigdphicaaa
