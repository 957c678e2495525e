/-
  DELTA SETS: no program. (Own work.)
-/
import Derived.Test.YthalbmlgkkgheaaSgU
import Derived.Test.YthalbmlgkkgheaaCh3L
namespace Go.Proofs.Ythalbmlgkkgheaa
open Go Go.RowKit

theorem mem_diffsL {L : List Int} {x : Int} : x ∈ diffsL L ↔ ∃ i, ∃ h : i + 1 < L.length, x = L[i + 1] - L[i] := by
  unfold diffsL
  rw [List.mem_map]
  constructor
  · rintro ⟨i, hi, rfl⟩
    have hi' : i < L.length - 1 := by simpa using hi
    refine ⟨i, by omega, ?_⟩
    rw [List.getD_eq_getElem?_getD, List.getD_eq_getElem?_getD, List.getElem?_eq_getElem (by omega), List.getElem?_eq_getElem (by omega)]; rfl
  · rintro ⟨i, h, rfl⟩
    refine ⟨i, by simp; omega, ?_⟩
    rw [List.getD_eq_getElem?_getD, List.getD_eq_getElem?_getD, List.getElem?_eq_getElem (by omega), List.getElem?_eq_getElem (by omega)]; rfl
theorem mem_deltaL {G : List Int} {n x : Int} : x ∈ deltaL G n ↔ ∃ i, ∃ h : i + 1 < (lenL G n).length, x = (lenL G n)[i + 1] - (lenL G n)[i] := by
  unfold deltaL; rw [(sortL_spec _).2, mem_diffsL]
theorem deltaL_asc (G : List Int) (n : Int) : Asc (deltaL G n) := (sortL_spec _).1
theorem deltaL_bnd {G : List Int} {n x : Int} (h : x ∈ deltaL G n) : 1 ≤ x ∧ x ≤ 1200 := by
  obtain ⟨i, hi, rfl⟩ := mem_deltaL.1 h
  have h1 := lenL_bnd (List.getElem_mem hi)
  have h2 := lenL_bnd (List.getElem_mem (show i < (lenL G n).length by omega))
  have h3 := lenL_asc G n i (i + 1) hi (by omega)
  omega
theorem deltaL_len (G : List Int) (n : Int) : (deltaL G n).length ≤ 1201 := asc_len (deltaL_asc G n) fun x hx => by have := deltaL_bnd hx; omega
theorem deltaL_no {G : List Int} (n : Int) (h : isSgB G = false) : deltaL G n = [] := by
  have h1 : factL G n = [] := by unfold factL; simp [h]
  unfold deltaL lenL
  rw [h1]; rfl
noncomputable def upD (G : List Int) (k : Nat) : List Int := (List.range k).flatMap fun (i : Nat) => deltaL G (i : Int)
theorem upD_succ (G : List Int) (k : Nat) : upD G (k + 1) = upD G k ++ deltaL G (k : Int) := by
  unfold upD
  rw [List.range_succ, List.flatMap_append, List.flatMap_singleton]
theorem upD_len (G : List Int) (k : Nat) : (upD G k).length ≤ 1201 * k := by
  induction k with
  | zero => simp [upD]
  | succ k ih => rw [upD_succ, List.length_append]; have := deltaL_len G (k : Int); omega
theorem upD_bnd {G : List Int} {k : Nat} {x : Int} (h : x ∈ upD G k) : 1 ≤ x ∧ x ≤ 1200 := by
  unfold upD at h
  obtain ⟨i, -, hi⟩ := List.mem_flatMap.1 h
  exact deltaL_bnd hi
theorem upD_no {G : List Int} (k : Nat) (h : isSgB G = false) : upD G k = [] := by
  induction k with
  | zero => rfl
  | succ k ih => rw [upD_succ, ih, deltaL_no _ h]; rfl
theorem deltasL_yes {G : List Int} {m : Nat} (h : inB (m : Int) 0 100 = true) : deltasL G (m : Int) = sortL (upD G (m + 1)) := by
  unfold deltasL; rw [if_pos h, Int.toNat_natCast]; rfl
theorem deltasL_out {G : List Int} {m : Int} (h : inB m 0 100 = false) : deltasL G m = [] := by
  unfold deltasL; rw [h]; rfl
theorem deltasL_no {G : List Int} (m : Int) (h : isSgB G = false) : deltasL G m = [] := by
  unfold deltasL
  split
  · exact congrArg sortL (upD_no _ h)
  · rfl
theorem deltasL_len (G : List Int) (m : Int) : (deltasL G m).length ≤ 1201 := by
  unfold deltasL
  split
  · exact asc_len (sortL_spec _).1 fun x hx => by have := upD_bnd ((sortL_spec _).2 x |>.1 hx); omega
  · simp
/-- A row of one's own: none at all, or cells behind an address. -/
theorem own_cases {w : World} {base : Nat} {v : Value} {n : Nat} {xs : List Value} (h : w.ownsRow base 3 1 v n xs) :
    (v = .slice none 0 0 ∧ n = 0) ∨ ∃ g c, v = .slice (some ⟨g, 0, none⟩) n c ∧ ∀ j u, xs[j]? = some u → w.cell? ((⟨g, 0, none⟩ : Addr).add j) = some u := by
  have h' := h
  obtain ⟨hl, hv⟩ := h
  rcases hv with ⟨rfl, rfl⟩ | ⟨g, c, cur, rfl, -⟩
  · exact .inl ⟨rfl, rfl⟩
  · refine .inr ⟨g, c, rfl, fun j u hu => ?_⟩
    have e : (⟨g, 0, none⟩ : Addr).add j = ⟨g, j, none⟩ := by unfold Addr.add; split <;> simp_all
    rw [e]; exact (owns_facts h').2.2.2.2.2 j u hu
end Go.Proofs.Ythalbmlgkkgheaa
