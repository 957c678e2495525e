/-
  THE LIST OF ALL FACTORIZATIONS: how many, how wide. (Own work.)
-/
import Derived.Test.YthalbmlgkkgheaaDoorSgX
import Derived.Test.YthalbmlgkkgheaaDoorRow5
namespace Go.Proofs.YthalbmlgkkgheaaDoor
open Go

theorem mem_findF {G : List Int} {m : Nat} {L : List Int} : L ∈ findF G m ↔ (L, 0) ∈ leafs G m := by
  unfold findF
  rw [List.mem_filterMap]
  constructor
  · rintro ⟨⟨P, q⟩, hv, ho⟩
    unfold okF at ho
    simp only at ho
    split at ho
    · next h => cases ho; subst h; exact hv
    · cases ho
  · intro h; exact ⟨_, h, by simp [okF]⟩
theorem factL_sg {G : List Int} {n : Int} {L : List Int} (h : L ∈ factL G n) : isSgB G = true ∧ 0 ≤ n ∧ n ≤ 100 ∧ L ∈ findF G n.toNat := by
  unfold factL at h
  split at h
  · next e =>
    rw [Bool.and_eq_true] at e
    unfold inB at e
    rw [Bool.and_eq_true, decide_eq_true_eq, decide_eq_true_eq] at e
    exact ⟨e.1, e.2.1, e.2.2, h⟩
  · cases h
theorem factL_len (G : List Int) (n : Int) : (factL G n).length ≤ 31381059609 := by
  cases h : factL G n with
  | nil => simp
  | cons a r =>
    obtain ⟨hs, h0, h1, -⟩ := factL_sg (G := G) (n := n) (L := a) (by rw [h]; simp)
    rw [← h]
    unfold factL
    split
    · exact findF_bound hs 0 n.toNat (by omega)
    · simp
theorem factL_width (G : List Int) (n : Int) : ∀ L ∈ factL G n, L.length ≤ 12 := by
  intro L hL
  obtain ⟨hs, h0, h1, h2⟩ := factL_sg hL
  have := leafs_width G n.toNat _ (mem_findF.1 h2)
  have := (isSgB_iff.1 hs).len
  simp only at *
  omega
theorem factL_width20 (G : List Int) (n : Int) : ∀ L ∈ factL G n, L.length ≤ 1048576 := fun L hL => Nat.le_trans (factL_width G n L hL) (by decide)
theorem factL_sum (G : List Int) (n : Int) : (((factL G n).map fun L => L.map (Value.int .i64)).map List.length).sum ≤ 376572715308 :=
  Nat.le_trans (sum_widths_le (factL_width G n)) (Nat.mul_le_mul_right 12 (factL_len G n))
end Go.Proofs.YthalbmlgkkgheaaDoor
