/-
  PLAIN LEMMAS for the law FnSemigroups: no generator is a sum of the others; the numbers generated are the elements; elements add up.
-/
import Derived.Test.YtljfiiohiolbnaaCh3L
namespace Go.Proofs.Ytljfiiohiolbnaa
open Go

theorem gen_sole {G : List Int} (h : isSgB G = true) (i : Nat) (hi : i < G.length) : generatesB (G.take i ++ G.drop (i + 1)) G[i] = false := by
  have hs := isSgB_iff.1 h
  have hm : minOf G = G := by rw [← minL_of_asc hs.Asc]; exact hs.min
  have hx := hs.bounds G[i] (List.getElem_mem hi)
  cases hg : generatesB (G.take i ++ G.drop (i + 1)) G[i]
  · rfl
  · exfalso
    unfold generatesB at hg
    rw [Bool.and_eq_true, sumB_iff] at hg
    refine minOf_sole hm (List.getElem_mem hi) hx.1 (G.take i ++ G.drop (i + 1)) (fun y hy => ?_) hg.2
    rcases List.mem_append.1 hy with hy | hy
    · obtain ⟨j, hj, rfl⟩ := List.mem_take_iff_getElem.1 hy
      exact ⟨List.getElem_mem _, by have := hs.Asc j i hi (by omega); omega⟩
    · obtain ⟨j, hj, rfl⟩ := List.getElem_of_mem hy
      rw [List.getElem_drop]
      have hj' : i + 1 + j < G.length := by rw [List.length_drop] at hj; omega
      exact ⟨List.getElem_mem _, by have := hs.Asc i (i + 1 + j) hj' (by omega); omega⟩

theorem gen_has {L : List Int} (h : fromB L = true) {n : Int} (h0 : 0 ≤ n) (h1 : n ≤ 1000000) : generatesB L n = hasN (fromL L) n := by
  have hok : okG L = true := by unfold fromB at h; exact (Bool.and_eq_true_iff.1 h).1
  rw [generatesB_in hok (inB_mk h0 h1)]
  unfold hasN
  rw [fromL_isSg h, decide_eq_true h0, fromL_yes h, sumB_minL fun x hx => ((okG_iff.1 hok).1 x hx).1]
  rfl

theorem hasN_sg {G : List Int} {n : Int} (h : hasN G n = true) : isSgB G = true ∧ 0 ≤ n ∧ IsSum G n.toNat := by
  unfold hasN at h
  rw [Bool.and_eq_true, Bool.and_eq_true, decide_eq_true_eq, sumB_iff] at h
  exact ⟨h.1.1, h.1.2, h.2⟩
theorem multN_of {G : List Int} (h : isSgB G = true) : ∃ m : Nat, multN G = (m : Int) ∧ (m : Int) ∈ G ∧ 1 ≤ m ∧ m ≤ 60 := by
  have hs := isSgB_iff.1 h
  obtain ⟨x, r, rfl⟩ : ∃ x r, G = x :: r := by
    cases G with
    | nil => exact absurd rfl hs.ne
    | cons x r => exact ⟨x, r, rfl⟩
  have hx := hs.bounds x (by simp)
  refine ⟨x.toNat, ?_, ?_, by omega, by omega⟩
  · unfold multN; rw [h]; show x = _; omega
  · rw [show ((x.toNat : Nat) : Int) = x by omega]; simp
theorem hasN_sum {G : List Int} {n : Int} (h : hasN G n = true) : hasN G (n + multN G) = true ∧ hasN G (2 * n) = true := by
  obtain ⟨hs, h0, hn⟩ := hasN_sg h
  obtain ⟨m, hm, hmG, hm1, -⟩ := multN_of hs
  obtain ⟨N, rfl⟩ := Int.eq_ofNat_of_zero_le h0
  rw [Int.toNat_natCast] at hn
  constructor
  · rw [hm, ← Int.natCast_add, hasN_in hs, sumB_iff]; exact hn.plus (IsSum.gen hmG)
  · rw [show (2 : Int) * (N : Int) = ((N + N : Nat) : Int) by omega, hasN_in hs, sumB_iff]; exact hn.plus hn
theorem multN_bounds (G : List Int) : 0 ≤ multN G ∧ multN G ≤ 60 := by
  cases h : isSgB G
  · unfold multN; rw [h]; simp
  · obtain ⟨m, hm, -, h1, h2⟩ := multN_of h
    rw [hm]; omega
end Go.Proofs.Ytljfiiohiolbnaa
