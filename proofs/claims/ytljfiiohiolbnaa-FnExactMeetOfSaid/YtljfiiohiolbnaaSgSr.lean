/-
  CHAPTER 15 WITHOUT A FUNCTION OF EITHER SIDE: numerators, partial sums, palindromes, products, alternating counts. (Own work.)
-/
import Derived.Test.YtljfiiohiolbnaaCh4L
import Derived.Test.YtljfiiohiolbnaaSgA
namespace Go.Proofs.Ytljfiiohiolbnaa
open Go

def bitI (b : Bool) : Int := if b then 1 else 0
theorem bit_bnd (b : Bool) : 0 ≤ bitI b ∧ bitI b ≤ 1 := by cases b <;> decide
/-- Membership of any number, zero an element of whatever stands there. -/
noncomputable def hasZ (G : List Int) (n : Int) : Bool := decide (n = 0) || hasN G n
theorem hasZ_sg {G : List Int} (h : isSgB G = true) (n : Int) : hasZ G n = hasN G n := by
  unfold hasZ
  by_cases e : n = 0
  · subst e
    have : hasN G ((0 : Nat) : Int) = true := by rw [hasN_in h]; exact sumB_iff.2 .zero
    rw [show (0 : Int) = ((0 : Nat) : Int) from rfl, this]; rfl
  · rw [decide_eq_false e, Bool.false_or]
noncomputable def numL (G : List Int) : List Int := if isSgB G then (List.range (condNat G + 1)).map fun (n : Nat) => bitI (hasN G (n : Int)) - bitI (hasN G ((n : Int) - 1)) else []
theorem numL_yes {G : List Int} (h : isSgB G = true) : numL G = (List.range (condNat G + 1)).map fun (n : Nat) => bitI (hasN G (n : Int)) - bitI (hasN G ((n : Int) - 1)) := by unfold numL; rw [if_pos h]
theorem numL_no {G : List Int} (h : isSgB G = false) : numL G = [] := by unfold numL; rw [h]; rfl
theorem numL_len (G : List Int) : (numL G).length ≤ 201 := by
  unfold numL
  split
  · have := condNat_le G; simp; omega
  · simp
/-- Sums as the machine takes them. -/
def wsum (L : List Int) : Int := L.foldl (fun s x => IntKind.i64.wrap (s + x)) 0
theorem wsum_snoc (L : List Int) (x : Int) : wsum (L ++ [x]) = IntKind.i64.wrap (wsum L + x) := by unfold wsum; rw [List.foldl_append]; rfl
theorem wsum_take {L : List Int} {k : Nat} (h : k < L.length) : wsum (L.take (k + 1)) = IntKind.i64.wrap (wsum (L.take k) + L[k]) := by
  rw [List.take_add_one, List.getElem?_eq_getElem h, Option.toList_some, wsum_snoc]
theorem wsum_far {L : List Int} {k : Nat} (h : L.length ≤ k) : wsum (L.take (k + 1)) = wsum (L.take k) := by rw [List.take_of_length_le (by omega), List.take_of_length_le h]
noncomputable def seriesL (L : List Int) (n : Int) : List Int := if inB n 0 1000 then (List.range n.toNat).map fun k => wsum (L.take (k + 1)) else []
theorem seriesL_yes {L : List Int} {n : Nat} (h : inB (n : Int) 0 1000 = true) : seriesL L (n : Int) = (List.range n).map fun k => wsum (L.take (k + 1)) := by unfold seriesL; rw [if_pos h, Int.toNat_natCast]
theorem seriesL_no {L : List Int} {n : Int} (h : inB n 0 1000 = false) : seriesL L n = [] := by unfold seriesL; rw [h]; rfl
theorem seriesL_len (L : List Int) (n : Int) : (seriesL L n).length ≤ 1000 := by
  unfold seriesL
  split
  · next h => unfold inB at h; rw [Bool.and_eq_true, decide_eq_true_eq, decide_eq_true_eq] at h; simp; omega
  · simp
def palB (L : List Int) : Bool := decide (L.reverse = L)
theorem pal_true {L : List Int} (h : ∀ k (hk : k < L.length), L[k] = L[L.length - 1 - k]) : palB L = true := by
  unfold palB
  rw [decide_eq_true_eq]
  apply List.ext_getElem (by simp)
  intro i h1 h2
  rw [List.getElem_reverse]
  exact (h i h2).symm
theorem pal_false {L : List Int} {k : Nat} (hk : k < L.length) (h : L[k] ≠ L[L.length - 1 - k]) : palB L = false := by
  unfold palB
  rw [decide_eq_false_iff_not]
  intro e
  apply h
  have : L.reverse[k]'(by simpa using hk) = L[k] := by simp only [e]
  rw [List.getElem_reverse] at this
  exact this.symm
/-- Products of polynomials: the sums of the products, taken to 64 bits at the end. -/
def convI (A B : List Int) (j : Nat) : Int := ((List.range A.length).map fun i => if i ≤ j then A.getD i 0 * B.getD (j - i) 0 else 0).sum
def mulL (A B : List Int) : List Int := if inB A.length 1 500 && inB B.length 1 500 then (List.range (A.length + B.length - 1)).map fun j => IntKind.i64.wrap (convI A B j) else []
theorem mulL_len (A B : List Int) : (mulL A B).length ≤ 999 := by
  unfold mulL
  split
  · next h =>
    unfold inB at h
    simp only [Bool.and_eq_true, decide_eq_true_eq] at h
    simp; omega
  · simp
/-- Sets of generators, those with an odd number taken off. -/
noncomputable def eulR (G : List Int) : List Int → Int → Int
  | [], n => if n < 0 then 0 else bitI (hasN G n)
  | g :: r, n => if n < 0 then 0 else eulR G r n - eulR G r (n - g)
theorem eulR_neg (G R : List Int) {n : Int} (h : n < 0) : eulR G R n = 0 := by cases R <;> simp [eulR, h]
theorem eulR_nil (G : List Int) {n : Int} (h : 0 ≤ n) : eulR G [] n = bitI (hasN G n) := by unfold eulR; rw [if_neg (by omega)]
theorem eulR_cons (G : List Int) (g : Int) (r : List Int) {n : Int} (h : 0 ≤ n) : eulR G (g :: r) n = eulR G r n - eulR G r (n - g) := by rw [eulR, if_neg (by omega)]
theorem eulR_bnd (G : List Int) : ∀ (R : List Int) (n : Int), -(2 ^ R.length : Int) ≤ eulR G R n ∧ eulR G R n ≤ (2 ^ R.length : Int)
  | [], n => by
    unfold eulR
    have := bit_bnd (hasN G n)
    split <;> simp <;> omega
  | g :: r, n => by
    rw [eulR]
    have h1 := eulR_bnd G r n
    have h2 := eulR_bnd G r (n - g)
    have h3 : (2 ^ (g :: r).length : Int) = 2 * 2 ^ r.length := by rw [List.length_cons, Int.pow_succ]; omega
    have h4 : (0 : Int) ≤ 2 ^ r.length := Int.le_of_lt (Int.pow_pos (by decide))
    split <;> omega
noncomputable def eulN (G : List Int) (n : Int) : Int := if isSgB G && inB n 0 1000 then eulR G G n else 0
end Go.Proofs.Ytljfiiohiolbnaa
