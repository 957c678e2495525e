/-
  CONTRACTS of the reference's chapter 16: CanonicalGens, DualGens. (Own work: mkL54.py.)
-/
import Derived.Test.YtlinlmmcgifloaaL53
import Derived.Test.YtlinlmmcgifloaaL29
import Derived.Test.YtlinlmmcgifloaaCh11M
namespace Go.Proofs.Ytlinlmmcgifloaa
open Go Go.RowKit

theorem psf_bnd {G : List Int} (hs : isSgB G = true) : ∀ x ∈ psfL G, 0 ≤ x ∧ x ≤ 200 := by
  intro x hx
  unfold psfL at hx
  rw [if_pos hs] at hx
  obtain ⟨n, hn, rfl⟩ := List.mem_map.1 hx
  unfold upB at hn
  have h1 := (List.mem_filter.1 hn).1
  rw [List.mem_range] at h1
  simp only [Int.ofNat_eq_natCast]; omega
theorem least_facts {L : List Int} (hv : validB L = true) : 0 < (sortL L).length ∧ (sortL L)[0]? = some (leastI L) ∧ -200 ≤ leastI L ∧ leastI L ≤ 200 := by
  obtain ⟨h1, h2, h3⟩ := validB_iff.1 hv
  have hne : sortL L ≠ [] := by
    intro e
    have : L[0] ∈ sortL L := (sortL_spec L).2 _ |>.2 (List.getElem_mem (by omega))
    rw [e] at this; cases this
  have hp := List.length_pos_iff.2 hne
  have e : leastI L = (sortL L)[0] := by
    unfold leastI
    rw [List.headD_eq_head?_getD, List.head?_eq_getElem?, List.getElem?_eq_getElem hp]; rfl
  have hm : leastI L ∈ L := by rw [e]; exact (sortL_spec L).2 _ |>.1 (List.getElem_mem hp)
  exact ⟨hp, by rw [e]; exact List.getElem?_eq_getElem hp, h1 _ hm⟩
noncomputable def dualK (G L : List Int) (l : Int) (k : Nat) : List Int := ((List.range k).map fun (i : Nat) => (i : Int) - l).filter (dualB G L)
theorem dualK_succ (G L : List Int) (l : Int) (k : Nat) : dualK G L l (k + 1) = dualK G L l k ++ if dualB G L ((k : Int) - l) = true then [(k : Int) - l] else [] := by
  unfold dualK
  rw [List.range_succ, List.map_append, List.filter_append, List.map_singleton, List.filter_cons, List.filter_nil]
theorem dualK_len (G L : List Int) (l : Int) (k : Nat) : (dualK G L l k).length ≤ k := by
  unfold dualK
  refine Nat.le_trans (List.length_filter_le _ _) ?_
  rw [List.length_map, List.length_range]; exact Nat.le_refl _
theorem dual_way {G L : List Int} {g : Nat} (hs : isSgB G = true) (hv : validB L = true) (h0 : 0 < G.length) (hg : G[0] = (g : Int)) : dualL G L = topL G (dualK G L (leastI L) (condNat G + g)) true := by
  have e : (G.headD 0).toNat = g := by
    cases G with
    | nil => simp at h0
    | cons a r => simp only [List.getElem_cons_zero] at hg; simp [hg]
  unfold dualL dualAll dualK
  rw [hs, hv, e]; rfl
end Go.Proofs.Ytlinlmmcgifloaa
