/-
  LOWEST TERMS: no program. (Own work: mkGr.py.)
-/
import Derived.Test.YthalbmlgkkgheaaDoorSgW
import Derived.Test.YthalbmlgkkgheaaDoorSgA
import Derived.Test.YthalbmlgkkgheaaDoorCh1
namespace Go.Proofs.YthalbmlgkkgheaaDoor
open Go Go.RowKit

def lowA (a b : Int) : Int := if gcdOf a b = 0 then 0 else a / gcdOf a b
def lowB (a b : Int) : Int := if gcdOf a b = 0 then 0 else b / gcdOf a b
noncomputable def greatA (G : List Int) : Int := if isSgB G then lowA (G.getD (G.length - 1) 0) (G.getD 0 0) else 0
noncomputable def greatB (G : List Int) : Int := if isSgB G then lowB (G.getD (G.length - 1) 0) (G.getD 0 0) else 0
theorem great_no {G : List Int} (h : isSgB G = false) : greatA G = 0 ∧ greatB G = 0 := by unfold greatA greatB; simp [h]
theorem gcd_nat (x y : Nat) : ∃ d : Nat, gcdOf (x : Int) (y : Int) = (d : Int) ∧ d ≤ 1000000 := by
  have h := gcdOf_bounds (x : Int) (y : Int)
  exact ⟨(gcdOf (x : Int) (y : Int)).toNat, by omega, by omega⟩
theorem low_yes {x y d : Nat} (h : gcdOf (x : Int) (y : Int) = (d : Int)) (hd : d ≠ 0) : lowA x y = ((x / d : Nat) : Int) ∧ lowB x y = ((y / d : Nat) : Int) := by
  unfold lowA lowB
  rw [h, if_neg (by omega), if_neg (by omega)]
  exact ⟨(Int.natCast_ediv x d).symm, (Int.natCast_ediv y d).symm⟩
theorem low_no {x y : Nat} (h : gcdOf (x : Int) (y : Int) = ((0 : Nat) : Int)) : lowA x y = 0 ∧ lowB x y = 0 := by
  unfold lowA lowB; rw [h]; exact ⟨if_pos rfl, if_pos rfl⟩
theorem gcd_pos {x y : Nat} (hx : 1 ≤ x) (hx2 : x ≤ 1000000) (hy : y ≤ 1000000) : gcdOf (x : Int) (y : Int) ≠ ((0 : Nat) : Int) := by
  rw [gcdOf_in (small_iff.2 ⟨by omega, by omega⟩) (small_iff.2 ⟨by omega, by omega⟩)]
  intro h
  have h2 : Nat.gcd x y = 0 := by simpa using h
  have := Nat.gcd_pos_of_pos_left y (show 0 < x by omega)
  omega
theorem wrapq (x d : Nat) (h : x ≤ 1000000) : wrap64 ((x : Int) / (d : Int)) = ((x / d : Nat) : Int) := by
  have hq : x / d ≤ 1000000 := Nat.le_trans (Nat.div_le_self x d) h
  rw [show (x : Int) / (d : Int) = ((x / d : Nat) : Int) from (Int.natCast_ediv x d).symm]; generalize x / d = q at hq ⊢; unfold wrap64; omega
theorem wrapk (x d : Nat) (h : x ≤ 1000000) : IntKind.i64.wrap ((x : Int) / (d : Int)) = ((x / d : Nat) : Int) := by
  have hq : x / d ≤ 1000000 := Nat.le_trans (Nat.div_le_self x d) h
  rw [show (x : Int) / (d : Int) = ((x / d : Nat) : Int) from (Int.natCast_ediv x d).symm]; generalize x / d = q at hq ⊢; exact IntWalk.i64_in _ (by omega)
theorem great_ends {G : List Int} (hs : isSgB G = true) : ∃ p x y : Nat, p + 1 ≤ G.length ∧ G.length ≤ p + 1 ∧ G[p]? = some (x : Int) ∧ G[0]? = some (y : Int) ∧ 1 ≤ x ∧ x ≤ 60 ∧ 1 ≤ y ∧ y ≤ 60 ∧ greatA G = lowA x y ∧ greatB G = lowB x y := by
  have hS := isSgB_iff.1 hs
  have hl : 1 ≤ G.length := (okG_iff.1 hS.ok).2.1
  have h1 := hS.bounds G[G.length - 1] (List.getElem_mem (by omega))
  have h2 := hS.bounds G[0] (List.getElem_mem (by omega))
  have e1 : G.getD (G.length - 1) 0 = G[G.length - 1] := by rw [List.getD_eq_getElem?_getD, List.getElem?_eq_getElem (by omega)]; rfl
  have e2 : G.getD 0 0 = G[0] := by rw [List.getD_eq_getElem?_getD, List.getElem?_eq_getElem (by omega)]; rfl
  refine ⟨G.length - 1, G[G.length - 1].toNat, G[0].toNat, by omega, by omega, ?_, ?_, by omega, by omega, by omega, by omega, ?_, ?_⟩
  · rw [List.getElem?_eq_getElem (by omega)]; congr 1; omega
  · rw [List.getElem?_eq_getElem (by omega)]; congr 1; omega
  · unfold greatA; rw [if_pos hs, e1, e2, Int.toNat_of_nonneg (by omega), Int.toNat_of_nonneg (by omega)]
  · unfold greatB; rw [if_pos hs, e1, e2, Int.toNat_of_nonneg (by omega), Int.toNat_of_nonneg (by omega)]
end Go.Proofs.YthalbmlgkkgheaaDoor
