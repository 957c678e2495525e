/-
  THE COMMON PART OF A LIST OF SEMIGROUPS: no program. (Own work.)
-/
import Derived.Test.YtfbfkaphcmngkaaSgQm
namespace Go.Proofs.Ytfbfkaphcmngkaa
open Go

noncomputable def mStep (s : List Int × Bool) (G : List Int) : List Int × Bool := (meetL s.1 G, meetB s.1 G)
noncomputable def mRun (LL : List (List Int)) (k : Nat) : List Int × Bool := (LL.take k).foldl mStep ([1], false)
noncomputable def mAllB (LL : List (List Int)) : Bool := (mRun LL LL.length).2
noncomputable def mAllL (LL : List (List Int)) : List Int := if LL.length = 0 then [] else (mRun LL LL.length).1
theorem mRun_zero (LL : List (List Int)) : mRun LL 0 = ([1], false) := rfl
theorem mRun_next {LL : List (List Int)} {k : Nat} (hk : k < LL.length) : mRun LL (k + 1) = (meetL (mRun LL k).1 LL[k], meetB (mRun LL k).1 LL[k]) := by
  unfold mRun
  rw [List.take_add_one, List.getElem?_eq_getElem hk, Option.toList_some, List.foldl_append]; rfl
theorem meet_no {A B : List Int} (h : meetB A B = false) : meetL A B = [] := by
  unfold meetL meetB at *
  cases h1 : isSgB A && isSgB B
  · rfl
  · rw [h1, Bool.true_and] at h
    rw [if_pos rfl]
    exact fromGpL_no h
theorem meet_nil (G : List Int) : meetB [] G = false := by
  unfold meetB
  have : isSgB [] = false := by
    cases h : isSgB []
    · rfl
    · have := (isSgB_iff.1 h).pos; simp at this
  rw [this]; rfl
theorem meet_one (G : List Int) : meetB [1] G = isSgB G ∧ (isSgB G = true → meetL [1] G = G) := by
  unfold meetB meetL
  rw [sg_one, gaps_one, Bool.true_and, List.nil_append]
  cases hs : isSgB G
  · exact ⟨rfl, fun h => by cases h⟩
  · rw [sortL_of_asc (asc_of_ascB (okGp_iff.1 (gapsL_okGp hs)).2)]
    obtain ⟨h1, h2⟩ := fromGp_iff.2 ⟨hs, rfl⟩
    rw [h1, h2]
    exact ⟨rfl, fun _ => rfl⟩
theorem mRun_one {LL : List (List Int)} (h : 0 < LL.length) : (mRun LL 1).2 = isSgB LL[0] ∧ (isSgB LL[0] = true → (mRun LL 1).1 = LL[0]) := by
  rw [mRun_next h, mRun_zero]
  exact meet_one _
theorem mRun_len (LL : List (List Int)) {k : Nat} (hk : k ≤ LL.length) : (mRun LL k).1.length ≤ 12 := by
  cases k with
  | zero => simp [mRun_zero]
  | succ k => rw [mRun_next (by omega)]; exact meetL_len _ _
/-- Once it has failed it fails on. -/
theorem mRun_fail {LL : List (List Int)} {k : Nat} (hk : k < LL.length) (h : (mRun LL (k + 1)).2 = false) : ∀ j, k + 1 ≤ j → j ≤ LL.length → mRun LL j = ([], false) := by
  have h0 : mRun LL (k + 1) = ([], false) := by
    rw [mRun_next hk] at h ⊢
    have h' : meetB (mRun LL k).1 LL[k] = false := h
    rw [meet_no h', h']
  intro j hj hjl
  obtain ⟨d, rfl⟩ := Nat.exists_eq_add_of_le hj
  induction d with
  | zero => exact h0
  | succ d ih =>
    have := ih (by omega) (by omega)
    rw [show k + 1 + (d + 1) = (k + 1 + d) + 1 by omega, mRun_next (by omega), this, meet_nil, meet_no (meet_nil _)]
theorem mAll_fail {LL : List (List Int)} {k : Nat} (hk : k < LL.length) (h : (mRun LL (k + 1)).2 = false) : mAllB LL = false ∧ mAllL LL = [] := by
  have := mRun_fail hk h LL.length (by omega) (Nat.le_refl _)
  unfold mAllB mAllL
  rw [this, if_neg (by omega)]
  exact ⟨rfl, rfl⟩
theorem mAll_none {LL : List (List Int)} (h : LL.length = 0) : mAllB LL = false ∧ mAllL LL = [] := by
  unfold mAllB mAllL
  rw [if_pos h, h, mRun_zero]
  exact ⟨rfl, rfl⟩
theorem mAll_done {LL : List (List Int)} (h : 0 < LL.length) : mAllB LL = (mRun LL LL.length).2 ∧ mAllL LL = (mRun LL LL.length).1 := by
  unfold mAllB mAllL
  rw [if_neg (by omega)]
  exact ⟨rfl, rfl⟩
theorem mAll_len (LL : List (List Int)) : (mAllL LL).length ≤ 12 := by
  unfold mAllL
  split
  · simp
  · exact mRun_len LL (Nat.le_refl _)
end Go.Proofs.Ytfbfkaphcmngkaa
