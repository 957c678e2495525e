/-
  THE CONTRACTS OF CHAPTER 2 IN THE CANONICAL FORM (genlaw.py): ParseList.
-/
import Derived.Test.YtjahmlaocgcjpaaGreatDoorI7
namespace Go.Proofs.YtjahmlaocgcjpaaGreatDoor
open Go Go.RowKit

theorem readAll_length : ∀ (P : List (List UInt8)) (N : List Int), readAll P = some N → N.length = P.length
  | [], N, h => by simp only [readAll] at h; cases h; rfl
  | p :: r, N, h => by
    simp only [readAll] at h
    cases hp : readOf p (-999999999999) 999999999999 with
    | none => rw [hp] at h; cases h
    | some n =>
      rw [hp] at h
      simp only [Option.map_eq_some_iff] at h
      obtain ⟨M, hM, rfl⟩ := h
      rw [List.length_cons, List.length_cons, readAll_length r M hM]

theorem readList_length_le (s : ByteArray) : ((readList s).getD []).length ≤ s.size + 1 := by
  cases h : readList s with
  | none => simp
  | some N =>
    unfold readList at h
    split at h
    · cases h; simp
    · have h1 := readAll_length _ _ h
      have h2 := splitL_length 44 s.data.toList
      have e2 : s.data.toList.length = s.size := by simp
      simp only [Option.getD_some]
      omega

theorem cs_ParseList (s : ByteArray) (w : World) (hs : s.size ≤ 1048576) :
    Calls Tryz.prog 15 #[.string s] w (ReadPost (readList s) w) :=
  (spec_ParseList s w hs).mono fun _ _ ⟨_, _, he, ho, h⟩ => ⟨_, he, ho, h⟩
theorem ci_ParseList (s : ByteArray) (w : World) (hs : s.size ≤ 1048576) (hv : EnvParse w) :
    Calls Tryz.prog 14 #[.string s] w (ReadPost (readList s) w) :=
  impl_ParseList s w hs hv
end Go.Proofs.YtjahmlaocgcjpaaGreatDoor
