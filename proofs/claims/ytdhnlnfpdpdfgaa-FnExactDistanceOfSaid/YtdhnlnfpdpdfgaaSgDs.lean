/-
  DISTANCES of two lists: what each has more than the other. (Own work, no program.)
-/
import Derived.Test.YtdhnlnfpdpdfgaaCh11M
namespace Go.Proofs.Ytdhnlnfpdpdfgaa
open Go

def leftS (A B : List Int) : Int := (List.zipWith (fun a b => a - min a b) A B).sum
theorem leftS_take {A B : List Int} (h : A.length = B.length) {k : Nat} (hk : k < A.length) : leftS (A.take (k + 1)) (B.take (k + 1)) = leftS (A.take k) (B.take k) + (A[k] - min A[k] (B[k]'(by omega))) := by
  rw [List.take_add_one, List.take_add_one, List.getElem?_eq_getElem hk, List.getElem?_eq_getElem (by omega)]
  unfold leftS
  rw [List.zipWith_append (by simp; omega), List.sum_append]
  simp
theorem leftS_bnd {A B : List Int} (h : A.length = B.length) (hA : ∀ x ∈ A, 0 ≤ x ∧ x ≤ 1000000) (hB : ∀ x ∈ B, 0 ≤ x ∧ x ≤ 1000000) : ∀ k, k ≤ A.length → 0 ≤ leftS (A.take k) (B.take k) ∧ leftS (A.take k) (B.take k) ≤ 1000000 * (k : Int)
  | 0, _ => by simp [leftS]
  | k + 1, hk => by
    have h1 := leftS_bnd h hA hB k (by omega)
    have h2 := hA A[k] (List.getElem_mem (by omega))
    have h3 := hB (B[k]'(by omega)) (List.getElem_mem (by omega))
    rw [leftS_take h (by omega)]
    omega
def cntB (A : List Int) : Bool := A.all fun x => inB x 0 1000000
theorem cntB_iff {A : List Int} : cntB A = true ↔ ∀ x ∈ A, 0 ≤ x ∧ x ≤ 1000000 := by
  unfold cntB
  rw [List.all_eq_true]
  exact ⟨fun h x hx => inB_true (h x hx), fun h x hx => by have := h x hx; unfold inB; rw [Bool.and_eq_true, decide_eq_true_eq, decide_eq_true_eq]; exact this⟩
def distN (A B : List Int) : Int := if decide (A.length = B.length) && (cntB A && cntB B) then max (leftS A B) (leftS B A) else -1
theorem distN_len {A B : List Int} (h : A.length ≠ B.length) : distN A B = -1 := by unfold distN; rw [decide_eq_false h]; rfl
theorem distN_out {A B : List Int} (h : (cntB A && cntB B) = false) : distN A B = -1 := by unfold distN; rw [h, Bool.and_false]; rfl
theorem distN_yes {A B : List Int} (h : A.length = B.length) (ha : cntB A = true) (hb : cntB B = true) : distN A B = max (leftS A B) (leftS B A) := by unfold distN; rw [decide_eq_true h, ha, hb]; rfl
end Go.Proofs.Ytdhnlnfpdpdfgaa
