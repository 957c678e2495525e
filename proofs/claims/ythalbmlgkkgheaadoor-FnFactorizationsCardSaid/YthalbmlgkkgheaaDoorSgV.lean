/-
  LENGTHS: no program. The lengths of all factorizations, their differences, the elasticity. (Own work.)
-/
import Derived.Test.YthalbmlgkkgheaaDoorSgY
import Derived.Test.YthalbmlgkkgheaaDoorSgZ
namespace Go.Proofs.YthalbmlgkkgheaaDoor
open Go

theorem leafs_ent : ∀ (G : List Int) (m : Nat), ∀ v ∈ leafs G m, ∀ x ∈ v.1, 0 ≤ x ∧ x ≤ (m : Int)
  | [], m, v, hv, x, hx => by simp [leafs] at hv; subst hv; simp at hx
  | [g], m, v, hv, x, hx => by
    simp only [leafs, List.mem_singleton] at hv; subst hv
    simp only [List.mem_singleton] at hx; subst hx
    have := Nat.div_le_self m g.toNat
    generalize m / g.toNat = q at *
    omega
  | g :: g2 :: r, m, v, hv, x, hx => by
    rw [leafs, List.mem_flatMap] at hv
    obtain ⟨k, hk, hv⟩ := hv
    obtain ⟨u, hu, rfl⟩ := List.mem_map.1 hv
    unfold downL at hk
    have hk' : k < m / g.toNat + 1 := by simpa using hk
    have h1 := Nat.div_le_self m g.toNat
    simp only [pre1, List.mem_cons] at hx
    rcases hx with rfl | hx
    · omega
    · have := leafs_ent (g2 :: r) (m - k * g.toNat) u hu x hx
      omega
theorem fact_ent {G : List Int} {n : Int} {L : List Int} (h : L ∈ factL G n) : ∀ x ∈ L, 0 ≤ x ∧ x ≤ 100 := by
  obtain ⟨-, h0, h1, h2⟩ := factL_sg h
  intro x hx
  have := leafs_ent G n.toNat _ (mem_findF.1 h2) x hx
  omega
theorem sumI_snoc (L : List Int) (x : Int) : (L ++ [x]).sum = L.sum + x := by
  induction L with
  | nil => simp
  | cons a r ih => rw [List.cons_append, List.sum_cons, List.sum_cons, ih]; omega
theorem sum_take1 {L : List Int} {k : Nat} (hk : k < L.length) : (L.take (k + 1)).sum = (L.take k).sum + L[k] := by
  rw [List.take_add_one, List.getElem?_eq_getElem hk, Option.toList_some, sumI_snoc]
theorem sum_bnd {L : List Int} (h : ∀ x ∈ L, 0 ≤ x ∧ x ≤ 100) : 0 ≤ L.sum ∧ L.sum ≤ 100 * (L.length : Int) := by
  induction L with
  | nil => simp
  | cons a r ih =>
    have h1 := h a (by simp)
    have h2 := ih fun x hx => h x (by simp [hx])
    rw [List.sum_cons, List.length_cons]
    omega
noncomputable def lenL (G : List Int) (n : Int) : List Int := sortL ((factL G n).map List.sum)
theorem mem_lenL {G : List Int} {n x : Int} : x ∈ lenL G n ↔ ∃ L ∈ factL G n, L.sum = x := by
  unfold lenL; rw [(sortL_spec _).2, List.mem_map]
theorem lenL_asc (G : List Int) (n : Int) : Asc (lenL G n) := (sortL_spec _).1
theorem lenL_bnd {G : List Int} {n x : Int} (h : x ∈ lenL G n) : 0 ≤ x ∧ x ≤ 1200 := by
  obtain ⟨L, hL, rfl⟩ := mem_lenL.1 h
  have h1 := sum_bnd (fact_ent hL)
  have h2 := factL_width G n L hL
  omega
theorem asc_len {L : List Int} (h : Asc L) {m : Nat} (hb : ∀ x ∈ L, 0 ≤ x ∧ x < (m : Int)) : L.length ≤ m := by
  have := nodup_lt_len m (L.map Int.toNat) (by
    rw [List.Nodup, List.pairwise_map, List.pairwise_iff_getElem]
    intro i j hi hj hij e
    have h1 := h i j hj hij
    have h2 := hb L[i] (List.getElem_mem hi)
    have h3 := hb L[j] (List.getElem_mem hj)
    omega) (fun x hx => by
    obtain ⟨y, hy, rfl⟩ := List.mem_map.1 hx
    have := hb y hy; omega)
  rw [List.length_map] at this; exact this
theorem nodup_len {L : List Int} (h : L.Nodup) {m : Nat} (hb : ∀ x ∈ L, 0 ≤ x ∧ x < (m : Int)) : L.length ≤ m := by
  have := nodup_lt_len m (L.map Int.toNat) (by
    rw [List.Nodup, List.pairwise_map, List.pairwise_iff_getElem]
    intro i j hi hj hij e
    have h1 := List.pairwise_iff_getElem.1 h i j hi hj hij
    have h2 := hb L[i] (List.getElem_mem hi)
    have h3 := hb L[j] (List.getElem_mem hj)
    omega) (fun x hx => by
    obtain ⟨y, hy, rfl⟩ := List.mem_map.1 hx
    have := hb y hy; omega)
  rw [List.length_map] at this; exact this
theorem lenL_len (G : List Int) (n : Int) : (lenL G n).length ≤ 1201 := asc_len (lenL_asc G n) fun x hx => by have := lenL_bnd hx; omega
/-- What was met so far, each once. -/
structure Once (M K : List Int) : Prop where
  nd : M.Nodup
  mem : ∀ x, x ∈ M ↔ x ∈ K
theorem Once.nil : Once [] [] := ⟨List.nodup_nil, fun _ => Iff.rfl⟩
theorem Once.old {M K : List Int} {x : Int} (h : Once M K) (hx : hasB M x = true) : Once M (K ++ [x]) := by
  unfold hasB at hx
  rw [decide_eq_true_eq] at hx
  refine ⟨h.nd, fun y => ?_⟩
  rw [List.mem_append, List.mem_singleton, h.mem]
  constructor
  · exact .inl
  · rintro (h1 | rfl)
    · exact h1
    · exact (h.mem _).1 hx
theorem Once.new {M K : List Int} {x : Int} (h : Once M K) (hx : hasB M x = false) : Once (M ++ [x]) (K ++ [x]) := by
  unfold hasB at hx
  rw [decide_eq_false_iff_not] at hx
  refine ⟨?_, fun y => by rw [List.mem_append, List.mem_append, h.mem]⟩
  rw [List.nodup_append]
  exact ⟨h.nd, by simp, fun a ha b hb => by rw [List.mem_singleton] at hb; subst hb; intro e; exact hx (e ▸ ha)⟩
theorem Once.sort {M K : List Int} (h : Once M K) : sortL M = sortL K := asc_unique (sortL_spec M).1 (sortL_spec K).1 fun x => by rw [(sortL_spec M).2, (sortL_spec K).2, h.mem]
theorem Once.len {M K : List Int} (h : Once M K) {m : Nat} (hb : ∀ x ∈ K, 0 ≤ x ∧ x < (m : Int)) : M.length ≤ m := nodup_len h.nd fun x hx => hb x ((h.mem x).1 hx)
/-- The differences of neighbours. -/
def diffsL (M : List Int) : List Int := (List.range (M.length - 1)).map fun i => M.getD (i + 1) 0 - M.getD i 0
noncomputable def deltaL (G : List Int) (n : Int) : List Int := sortL (diffsL (lenL G n))
noncomputable def elaA (G : List Int) (n : Int) : Int := if (lenL G n).length = 0 then 0 else lowA ((lenL G n).getD ((lenL G n).length - 1) 0) ((lenL G n).getD 0 0)
noncomputable def elaB (G : List Int) (n : Int) : Int := if (lenL G n).length = 0 then 0 else lowB ((lenL G n).getD ((lenL G n).length - 1) 0) ((lenL G n).getD 0 0)
noncomputable def deltasL (G : List Int) (most : Int) : List Int := if inB most 0 100 then sortL ((List.range (most.toNat + 1)).flatMap fun (k : Nat) => deltaL G (k : Int)) else []
end Go.Proofs.YthalbmlgkkgheaaDoor
