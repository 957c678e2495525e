/-
  LENGTHS: no program. Values of the factorizations; the least and the greatest length. (Own work.)
-/
import Derived.Test.YthalbmlgkkgheaaDoorSgV
namespace Go.Proofs.YthalbmlgkkgheaaDoor
open Go

theorem leafs_dot : ∀ (G : List Int) (m : Nat), (∀ g ∈ G, 1 ≤ g) → ∀ v ∈ leafs G m, dotL v.1 G + (v.2 : Int) = (m : Int)
  | [], m, _, v, hv => by simp only [leafs, List.mem_singleton] at hv; subst hv; simp [dotL]
  | [g], m, hg, v, hv => by
    simp only [leafs, List.mem_singleton] at hv; subst hv
    have h1 := hg g (by simp)
    have h2 := Nat.div_add_mod m g.toNat
    simp only [dotL_cons, dotL_nil]
    have h3 : ((m / g.toNat : Nat) : Int) * g = ((g.toNat * (m / g.toNat) : Nat) : Int) := by
      rw [Int.natCast_mul, Int.toNat_of_nonneg (by omega), Int.mul_comm]
    rw [h3]
    generalize g.toNat * (m / g.toNat) = p at *
    generalize m % g.toNat = r at *
    omega
  | g :: g2 :: r, m, hg, v, hv => by
    rw [leafs, List.mem_flatMap] at hv
    obtain ⟨k, hk, hv⟩ := hv
    obtain ⟨u, hu, rfl⟩ := List.mem_map.1 hv
    have ih := leafs_dot (g2 :: r) (m - k * g.toNat) (fun x hx => hg x (by simp only [List.mem_cons] at hx ⊢; exact .inr hx)) u hu
    have h1 := hg g (by simp)
    unfold downL at hk
    have hk' : k < m / g.toNat + 1 := by simpa using hk
    have h2 : k * g.toNat ≤ m := Nat.le_trans (Nat.mul_le_mul_right _ (Nat.le_of_lt_succ hk')) (Nat.div_mul_le_self m g.toNat)
    have h3 : (k : Int) * g = ((k * g.toNat : Nat) : Int) := by rw [Int.natCast_mul, Int.toNat_of_nonneg (by omega)]
    simp only [pre1, dotL_cons]
    rw [h3]
    generalize k * g.toNat = p at *
    omega
theorem fact_dot {G : List Int} {n : Int} {L : List Int} (h : L ∈ factL G n) : dotL L G = n ∧ L.length = G.length := by
  obtain ⟨hs, h0, h1, h2⟩ := factL_sg h
  have hm := mem_findF.1 h2
  have hd := leafs_dot G n.toNat (fun g hg => ((isSgB_iff.1 hs).bounds g hg).1) _ hm
  have hw := leafs_width G n.toNat _ hm
  simp only at hd hw
  exact ⟨by omega, hw⟩
theorem dotL_zero : ∀ (L G : List Int), (∀ x ∈ L, x = 0) → dotL L G = 0
  | [], G, _ => dotL_nil G
  | x :: L, [], _ => by simp [dotL]
  | x :: L, g :: G, h => by rw [dotL_cons, dotL_zero L G fun y hy => h y (by simp [hy]), h x (by simp)]; simp
theorem sum_zero {L : List Int} (h : ∀ x ∈ L, 0 ≤ x) (hs : L.sum ≤ 0) : ∀ x ∈ L, x = 0 := by
  induction L with
  | nil => simp
  | cons a r ih =>
    have h1 := h a (by simp)
    have h2 : 0 ≤ r.sum := by
      have h' : ∀ x ∈ r, 0 ≤ x := fun x hx => h x (by simp [hx])
      clear ih hs
      induction r with
      | nil => simp
      | cons b r ih2 => rw [List.sum_cons]; have := ih2 (fun x hx => h x (by simp only [List.mem_cons] at hx ⊢; rcases hx with h | h; exact .inl h; exact .inr (.inr h))) (fun x hx => h' x (by simp [hx])); have := h' b (by simp); omega
    rw [List.sum_cons] at hs
    intro x hx
    rcases List.mem_cons.1 hx with rfl | hx
    · omega
    · exact ih (fun x hx => h x (by simp [hx])) (by omega) x hx
theorem lenL_pos {G : List Int} {n x : Int} (h : x ∈ lenL G n) (hn : n ≠ 0) : 1 ≤ x := by
  obtain ⟨L, hL, rfl⟩ := mem_lenL.1 h
  have h1 := (sum_bnd (fact_ent hL)).1
  have h2 := (fact_dot hL).1
  by_cases h3 : L.sum ≤ 0
  · have h4 := sum_zero (fun x hx => (fact_ent hL x hx).1) h3
    rw [dotL_zero L G h4] at h2
    omega
  · omega
theorem lenL_zero {G : List Int} {x : Int} (h : x ∈ lenL G 0) : x = 0 := by
  obtain ⟨L, hL, rfl⟩ := mem_lenL.1 h
  obtain ⟨-, h0, h1, h2⟩ := factL_sg hL
  have h3 : ∀ x ∈ L, x = 0 := fun x hx => by have := leafs_ent G (0 : Int).toNat _ (mem_findF.1 h2) x hx; simp at this; omega
  clear h h2 hL
  induction L with
  | nil => rfl
  | cons a r ih => rw [List.sum_cons, h3 a (by simp), ih fun x hx => h3 x (by simp [hx])]; rfl
theorem low_zero : lowA ((0 : Nat) : Int) ((0 : Nat) : Int) = 0 ∧ lowB ((0 : Nat) : Int) ((0 : Nat) : Int) = 0 := by
  refine low_no ?_
  rw [gcdOf_in (small_iff.2 ⟨by omega, by omega⟩) (small_iff.2 ⟨by omega, by omega⟩)]; rfl
theorem ela_none {G : List Int} {n : Int} (h : (lenL G n).length = 0) : elaA G n = 0 ∧ elaB G n = 0 := by unfold elaA elaB; rw [if_pos h, if_pos h]; exact ⟨rfl, rfl⟩
theorem ela_ends {G : List Int} {n : Int} (h : (lenL G n).length ≠ 0) : ∃ p x y : Nat, p + 1 ≤ (lenL G n).length ∧ (lenL G n).length ≤ p + 1 ∧ (lenL G n)[p]? = some (x : Int) ∧ (lenL G n)[0]? = some (y : Int) ∧ x ≤ 1200 ∧ y ≤ 1200 ∧
    elaA G n = lowA x y ∧ elaB G n = lowB x y ∧ (n ≠ 0 → 1 ≤ x) ∧ (n = 0 → x = 0 ∧ y = 0) := by
  have hl : 1 ≤ (lenL G n).length := by omega
  have m1 := List.getElem_mem (l := lenL G n) (n := (lenL G n).length - 1) (by omega)
  have m2 := List.getElem_mem (l := lenL G n) (n := 0) (by omega)
  have h1 := lenL_bnd m1
  have h2 := lenL_bnd m2
  have e1 : (lenL G n).getD ((lenL G n).length - 1) 0 = (lenL G n)[(lenL G n).length - 1] := by rw [List.getD_eq_getElem?_getD, List.getElem?_eq_getElem (by omega)]; rfl
  have e2 : (lenL G n).getD 0 0 = (lenL G n)[0] := by rw [List.getD_eq_getElem?_getD, List.getElem?_eq_getElem (by omega)]; rfl
  refine ⟨(lenL G n).length - 1, (lenL G n)[(lenL G n).length - 1].toNat, (lenL G n)[0].toNat, by omega, by omega, ?_, ?_, by omega, by omega, ?_, ?_, fun hn => ?_, fun hn => ?_⟩
  · rw [List.getElem?_eq_getElem (by omega)]; congr 1; omega
  · rw [List.getElem?_eq_getElem (by omega)]; congr 1; omega
  · unfold elaA; rw [if_neg h, e1, e2, Int.toNat_of_nonneg (by omega), Int.toNat_of_nonneg (by omega)]
  · unfold elaB; rw [if_neg h, e1, e2, Int.toNat_of_nonneg (by omega), Int.toNat_of_nonneg (by omega)]
  · have := lenL_pos m1 hn; omega
  · subst hn; have := lenL_zero m1; have := lenL_zero m2; omega
end Go.Proofs.YthalbmlgkkgheaaDoor
