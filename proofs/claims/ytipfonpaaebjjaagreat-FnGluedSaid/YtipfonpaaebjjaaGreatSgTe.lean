/-
  CHAPTER 22 WITHOUT THE PROGRAM: telescopic lists and gluing. (Own work.)
-/
import Derived.Test.YtipfonpaaebjjaaGreatCh4L
import Derived.Test.YtipfonpaaebjjaaGreatSgA
namespace Go.Proofs.YtipfonpaaebjjaaGreat
open Go Go.RowKit

def overL (L : List Int) (d : Int) : List Int := L.map fun x => x / d
def timesL (L : List Int) (d : Int) : List Int := L.map fun x => x * d
noncomputable def teleAt (L : List Int) (k : Nat) : Bool := generatesB (overL (L.take k) (gcdL (L.take k))) (L.getD k 0 / gcdL (L.take (k + 1)))
/-- From the second number on, up to the one ahead of k. -/
noncomputable def teleU (L : List Int) (k : Nat) : Bool := (List.range (k - 1)).all fun j => teleAt L (j + 1)
noncomputable def teleB (L : List Int) : Bool := okG L && decide (gcdL L = 1) && teleU L L.length
def teleT (L : List Int) (k : Nat) : Int := L.getD k 0 * gcdL (L.take k) / gcdL (L.take (k + 1))
def teleS (L : List Int) : Nat → Int
  | 0 => 0
  | k + 1 => teleS L k + (if k = 0 then 0 else teleT L k)
noncomputable def teleN (L : List Int) : Int := if teleB L then teleS L L.length - L.sum else -1
theorem teleU_one (L : List Int) : teleU L 1 = true := rfl
theorem teleU_succ (L : List Int) {k : Nat} (h : 1 ≤ k) : teleU L (k + 1) = (teleU L k && teleAt L k) := by
  unfold teleU
  obtain ⟨j, rfl⟩ : ∃ j, k = j + 1 := ⟨k - 1, by omega⟩
  rw [Nat.add_sub_cancel, Nat.add_sub_cancel, List.range_succ, List.all_append, List.all_cons, List.all_nil, Bool.and_true]
theorem teleU_no {L : List Int} {k n : Nat} (h1 : 1 ≤ k) (hk : k < n) (h : teleAt L k = false) : teleU L n = false := by
  unfold teleU
  rw [List.all_eq_false]
  exact ⟨k - 1, List.mem_range.2 (by omega), by rw [Nat.sub_add_cancel h1, h]; simp⟩
theorem tele_ok {L : List Int} (h : teleB L = true) : okG L = true ∧ gcdL L = 1 := by
  unfold teleB at h
  rw [Bool.and_eq_true, Bool.and_eq_true, decide_eq_true_eq] at h
  exact h.1
theorem take_ok {L : List Int} (h : okG L = true) {k : Nat} (h1 : 1 ≤ k) (hk : k ≤ L.length) : okG (L.take k) = true := by
  obtain ⟨a, b, c⟩ := okG_iff.1 h
  exact okG_iff.2 ⟨fun x hx => a x (List.mem_of_mem_take hx), by rw [List.length_take]; omega, by rw [List.length_take]; omega⟩
theorem take_gcd {L : List Int} (h : okG L = true) {k : Nat} (h1 : 1 ≤ k) (hk : k ≤ L.length) : 1 ≤ gcdL (L.take k) ∧ gcdL (L.take k) ≤ 60 := gcdL_pos (take_ok h h1 hk)
theorem get_ok {L : List Int} (h : okG L = true) {k : Nat} (hk : k < L.length) : 1 ≤ L[k] ∧ L[k] ≤ 60 := (okG_iff.1 h).1 _ (List.getElem_mem hk)
theorem getD_at {L : List Int} {k : Nat} (hk : k < L.length) : L.getD k 0 = L[k] := by simp [List.getD, hk]
theorem prod_bnd {x y : Int} (hx : 1 ≤ x ∧ x ≤ 60) (hy : 1 ≤ y ∧ y ≤ 60) : 1 ≤ x * y ∧ x * y ≤ 3600 := by
  constructor
  · have := Int.mul_le_mul hx.1 hy.1 (by omega) (by omega)
    omega
  · have := Int.mul_le_mul hx.2 hy.2 (by omega) (by omega)
    omega
theorem div_bnd {x d : Int} {b : Int} (hx : 0 ≤ x ∧ x ≤ b) (hd : 1 ≤ d) : 0 ≤ x / d ∧ x / d ≤ b := by
  refine ⟨Int.ediv_nonneg hx.1 (by omega), ?_⟩
  have := Int.ediv_le_self d hx.1
  omega
theorem teleT_bnd {L : List Int} (h : okG L = true) {k : Nat} (h1 : 1 ≤ k) (hk : k < L.length) : 0 ≤ teleT L k ∧ teleT L k ≤ 3600 := by
  unfold teleT
  rw [getD_at hk]
  have := prod_bnd (get_ok h hk) (take_gcd h h1 (by omega))
  exact div_bnd ⟨by omega, this.2⟩ (take_gcd h (by omega) (by omega)).1
theorem teleS_bnd {L : List Int} (h : okG L = true) : ∀ k, k ≤ L.length → 0 ≤ teleS L k ∧ teleS L k ≤ 3600 * (k : Int)
  | 0, _ => ⟨by unfold teleS; omega, by unfold teleS; omega⟩
  | k + 1, hk => by
    have ih := teleS_bnd h k (by omega)
    unfold teleS
    split
    · omega
    · have := teleT_bnd h (k := k) (by omega) (by omega)
      omega
theorem sum_ok {L : List Int} (h : ∀ x ∈ L, 1 ≤ x ∧ x ≤ 60) : 0 ≤ L.sum ∧ L.sum ≤ 60 * (L.length : Int) := by
  induction L with
  | nil => simp
  | cons x t ih =>
    have h1 := h x (by simp)
    have h2 := ih fun y hy => h y (by simp [hy])
    rw [List.sum_cons, List.length_cons]
    omega
theorem teleN_bnd (L : List Int) : -1200 ≤ teleN L ∧ teleN L ≤ 72000 := by
  unfold teleN
  split
  · next h =>
    obtain ⟨hok, -⟩ := tele_ok h
    have h1 := teleS_bnd hok L.length (Nat.le_refl _)
    obtain ⟨ha, hb, hc⟩ := okG_iff.1 hok
    have h2 := sum_ok ha
    omega
  · omega
/-! ### Gluing -/
noncomputable def gluQ (A B : List Int) (x y : Int) : Bool := (inB x 1 60 && hasN B x && !hasB B x) && (inB y 1 60 && hasN A y && !hasB A y) && decide (gcdOf x y = 1)
noncomputable def gluB (A B : List Int) (x y : Int) : Bool := gluQ A B x y && fromB (timesL A x ++ timesL B y)
noncomputable def gluL (A B : List Int) (x y : Int) : List Int := if gluQ A B x y then fromL (timesL A x ++ timesL B y) else []
noncomputable def gluN (A B : List Int) (x y : Int) : Int := if gluB A B x y then x * frobN A + y * frobN B + x * y else -1
theorem gluL_len (A B : List Int) (x y : Int) : (gluL A B x y).length ≤ 12 := by
  unfold gluL; split
  · exact fromL_length_le _
  · simp
theorem gluQ_open {A B : List Int} {x y : Int} (h : gluQ A B x y = true) : isSgB A = true ∧ isSgB B = true ∧ (1 ≤ x ∧ x ≤ 60) ∧ (1 ≤ y ∧ y ≤ 60) ∧ gcdOf x y = 1 := by
  unfold gluQ at h
  simp only [Bool.and_eq_true, decide_eq_true_eq] at h
  obtain ⟨⟨⟨⟨h1, h2⟩, -⟩, ⟨h4, h5⟩, -⟩, h7⟩ := h
  have hA : isSgB A = true := by
    rcases Bool.eq_false_or_eq_true (isSgB A) with e | e
    · exact e
    · rw [hasN_not e] at h5; cases h5
  have hB : isSgB B = true := by
    rcases Bool.eq_false_or_eq_true (isSgB B) with e | e
    · exact e
    · rw [hasN_not e] at h2; cases h2
  exact ⟨hA, hB, inB_iff.1 h1, inB_iff.1 h4, h7⟩
end Go.Proofs.YtipfonpaaebjjaaGreat
