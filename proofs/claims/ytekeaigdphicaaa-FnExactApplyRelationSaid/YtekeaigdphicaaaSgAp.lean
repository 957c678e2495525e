/-
  A RELATION APPLIED: no program. (Own work; mk80.py.)
-/
import Derived.Test.YtekeaigdphicaaaSgRe
namespace Go.Proofs.Ytekeaigdphicaaa
open Go

def rlV (A B L : List Int) (i : Nat) : Int := IntKind.i64.wrap (IntKind.i64.wrap (L.getD i 0 - A.getD i 0) + B.getD i 0)
def rlK (A L : List Int) (k : Nat) : Bool := (List.range k).all fun i => decide (A.getD i 0 ≤ L.getD i 0)
def rlB (A B L : List Int) : Bool := decide (A.length = L.length) && decide (B.length = L.length) && rlK A L L.length
def rlM (A B L : List Int) (k : Nat) : List Int := (List.range k).map (rlV A B L)
def rlL (A B L : List Int) : List Int := if rlB A B L then rlM A B L L.length else []
theorem rlM_len (A B L : List Int) (k : Nat) : (rlM A B L k).length = k := by simp [rlM]
theorem rlM_next (A B L : List Int) (k : Nat) : rlM A B L (k + 1) = rlM A B L k ++ [rlV A B L k] := by unfold rlM; rw [List.range_succ, List.map_append]; rfl
theorem rlK_next {A L : List Int} {k : Nat} (h : rlK A L k = true) (h1 : A.getD k 0 ≤ L.getD k 0) : rlK A L (k + 1) = true := by
  unfold rlK at *
  rw [List.range_succ, List.all_append, h]
  simpa using h1
theorem rl_lenA {A B L : List Int} (h : A.length ≠ L.length) : rlB A B L = false := by unfold rlB; rw [decide_eq_false h]; rfl
theorem rl_lenB {A B L : List Int} (h : B.length ≠ L.length) : rlB A B L = false := by unfold rlB; rw [decide_eq_false h, Bool.and_false, Bool.false_and]
theorem rl_bad {A B L : List Int} {k : Nat} (hk : k < L.length) (h : L.getD k 0 < A.getD k 0) : rlB A B L = false := by
  have : rlK A L L.length = false := by
    unfold rlK
    rw [List.all_eq_false]
    exact ⟨k, List.mem_range.2 hk, by simp only [decide_eq_true_eq]; omega⟩
  unfold rlB; rw [this, Bool.and_false]
theorem rl_good {A B L : List Int} (h1 : A.length = L.length) (h2 : B.length = L.length) (h : rlK A L L.length = true) : rlB A B L = true := by unfold rlB; rw [decide_eq_true h1, decide_eq_true h2, h]; rfl
theorem rl_no {A B L : List Int} (h : rlB A B L = false) : rlL A B L = [] := by unfold rlL; rw [h]; rfl
theorem rl_yes {A B L : List Int} (h : rlB A B L = true) : rlL A B L = rlM A B L L.length := by unfold rlL; rw [h]; rfl
theorem rl_len (A B L : List Int) : (rlL A B L).length ≤ L.length := by
  unfold rlL; split
  · rw [rlM_len]; exact Nat.le_refl _
  · simp
theorem getD_in {A : List Int} {k : Nat} (h : k < A.length) : A.getD k 0 = A[k] := by rw [List.getD_eq_getElem?_getD, List.getElem?_eq_getElem h]; rfl
/-- Cells that lie apart stay where a row grows. -/
theorem keep5 {w w' : World} {row : Option Nat} {p1 p2 p3 p4 p5 : Addr} {v1 v2 v3 v4 v5 : Value} (hg : w.grownBy w' row) (h1 : row ≠ some p1.block) (h2 : row ≠ some p2.block) (h3 : row ≠ some p3.block) (h4 : row ≠ some p4.block) (h5 : row ≠ some p5.block)
    (h : w.cell? p1 = some v1 ∧ w.cell? p2 = some v2 ∧ w.cell? p3 = some v3 ∧ w.cell? p4 = some v4 ∧ w.cell? p5 = some v5) : w'.cell? p1 = some v1 ∧ w'.cell? p2 = some v2 ∧ w'.cell? p3 = some v3 ∧ w'.cell? p4 = some v4 ∧ w'.cell? p5 = some v5 := by
  obtain ⟨e1, e2, e3, e4, e5⟩ := h
  exact ⟨hg.cell e1 h1.symm, hg.cell e2 h2.symm, hg.cell e3 h3.symm, hg.cell e4 h4.symm, hg.cell e5 h5.symm⟩
end Go.Proofs.Ytekeaigdphicaaa
