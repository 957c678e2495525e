/-
  THE PATH TO A SEMIGROUP: no program. Each step fills the greatest gap; where it ends, and how long it is. (Own work.)
-/
import Derived.Test.YtekeaigdphicaaaSgOv
import Derived.Test.YtekeaigdphicaaaSgS
namespace Go.Proofs.Ytekeaigdphicaaa
open Go

noncomputable def ancL (G : List Int) : Nat → List Int
  | 0 => G
  | k + 1 => parL (ancL G k)
noncomputable def stopN : Nat → List Int → Nat
  | 0, _ => 0
  | n + 1, G => if parB G then stopN n (parL G) + 1 else 0
noncomputable def topN (G : List Int) : Nat := stopN (gapsL G).length G
noncomputable def pathB (G : List Int) : Bool := isSgB G && decide (frobN (ancL G (topN G)) < 0)
/-- The first so many of the path, from the semigroup itself upwards. -/
noncomputable def upL (G : List Int) (k : Nat) : List (List Int) := (List.range (k + 1)).map (ancL G)
noncomputable def pathL (G : List Int) : List (List Int) := if pathB G then (upL G (topN G)).reverse else []

theorem par_sg {G : List Int} (h : parB G = true) : isSgB G = true ∧ 1 ≤ frobN G ∧ isSgB (parL G) = true ∧ (gapsL (parL G)).length < (gapsL G).length := by
  have h' := h
  unfold parB at h'
  rw [Bool.and_eq_true, decide_eq_true_eq] at h'
  obtain ⟨h1, h2⟩ := h'
  have hs : isSgB G = true := by
    cases hs : isSgB G
    · exfalso
      have : frobN G = -1 := by unfold frobN; rw [hs]; rfl
      omega
    · rfl
  obtain ⟨h3, h4⟩ := fromGp_iff.1 ⟨h2, rfl⟩
  have e : parL G = fromGpL (lessL (gapsL G) (frobN G)) := by unfold parL; rw [if_pos (decide_eq_true h1)]
  rw [e]
  refine ⟨hs, h1, h3, ?_⟩
  rw [h4]
  obtain ⟨-, k, hk, -, hp, -⟩ := spec_open (hasB_iff.2 (frob_spec hs h1))
  have hg := psf_gap hp
  have hm : frobN G ∈ gapsL G := by rw [hk]; exact (mem_gapsL hs k).2 hg
  unfold lessL
  exact List.length_filter_lt_length_iff_exists.2 ⟨_, hm, by simp⟩
theorem anc_shift (G : List Int) : ∀ k, ancL G (k + 1) = ancL (parL G) k
  | 0 => rfl
  | k + 1 => by
    have h := anc_shift G k
    show parL (ancL G (k + 1)) = parL (ancL (parL G) k)
    rw [h]
theorem stop_spec : ∀ (n : Nat) (G : List Int), (gapsL G).length ≤ n → (∀ j, j < stopN n G → parB (ancL G j) = true) ∧ parB (ancL G (stopN n G)) = false ∧ stopN n G ≤ n
  | 0, G, h => by
    refine ⟨fun j hj => absurd hj (by simp [stopN]), ?_, Nat.le_refl _⟩
    show parB G = false
    cases hp : parB G
    · rfl
    · have := (par_sg hp).2.2.2; omega
  | n + 1, G, h => by
    cases hp : parB G
    · have e : stopN (n + 1) G = 0 := by simp [stopN, hp]
      rw [e]
      exact ⟨fun j hj => absurd hj (by omega), hp, by omega⟩
    · have e : stopN (n + 1) G = stopN n (parL G) + 1 := by simp [stopN, hp]
      obtain ⟨h1, h2, h3⟩ := stop_spec n (parL G) (by have := (par_sg hp).2.2.2; omega)
      rw [e]
      refine ⟨fun j hj => ?_, by rw [anc_shift]; exact h2, by omega⟩
      cases j with
      | zero => exact hp
      | succ j => rw [anc_shift]; exact h1 j (by omega)
theorem top_lt {G : List Int} {k : Nat} (hk : k ≤ topN G) (hp : parB (ancL G k) = true) : k + 1 ≤ topN G := by
  rcases Nat.lt_or_ge k (topN G) with h | h
  · exact h
  · have e : k = topN G := by omega
    have := (stop_spec _ G (Nat.le_refl _)).2.1
    rw [show stopN (gapsL G).length G = topN G from rfl, ← e, hp] at this; cases this
theorem top_eq {G : List Int} {k : Nat} (hk : k ≤ topN G) (hp : parB (ancL G k) = false) : k = topN G := by
  rcases Nat.lt_or_ge k (topN G) with h | h
  · have := (stop_spec _ G (Nat.le_refl _)).1 k h
    rw [hp] at this; cases this
  · omega
theorem top_par {G : List Int} {k : Nat} (hk : k < topN G) : parB (ancL G k) = true := (stop_spec _ G (Nat.le_refl _)).1 k hk
theorem anc_sg {G : List Int} (hs : isSgB G = true) : ∀ {k : Nat}, k ≤ topN G → isSgB (ancL G k) = true
  | 0, _ => hs
  | k + 1, h => (par_sg (top_par (k := k) (by omega))).2.2.1
theorem gaps_len (G : List Int) : (gapsL G).length ≤ 200 := by
  unfold gapsL
  split
  · rw [List.length_map]; exact upB_len_le _ _
  · simp
theorem top_le (G : List Int) : topN G ≤ 200 := Nat.le_trans (stop_spec _ G (Nat.le_refl _)).2.2 (gaps_len G)
theorem path_part {G : List Int} {k : Nat} (hk : k ≤ topN G) : k ≤ 200 := Nat.le_trans hk (top_le G)
theorem genus_pos {G : List Int} (hs : isSgB G = true) : 0 < genusN G ↔ 0 ≤ frobN G := by
  constructor
  · intro h
    rcases Int.lt_or_le (frobN G) 0 with h1 | h1
    · have hc := frob_cond hs
      have h2 := genus_two hs
      rw [genus_len hs] at h
      have : (upB (bothB (fun n => !sumB G n) (condNat G)) (condNat G)).length ≤ condNat G := upB_len_le _ _
      omega
    · exact h1
  · intro h
    have := genus_ge hs
    omega
theorem upL_len (G : List Int) (k : Nat) : (upL G k).length = k + 1 := by simp [upL]
theorem upL_next (G : List Int) (k : Nat) : upL G (k + 1) = upL G k ++ [parL (ancL G k)] := by
  unfold upL; rw [List.range_succ, List.map_append]; rfl
theorem up_rev (G : List Int) (k : Nat) : (upL G (k + 1)).reverse = parL (ancL G k) :: (upL G k).reverse := by rw [upL_next, List.reverse_append]; rfl
theorem up_head (G : List Int) (k : Nat) (h : 0 < (upL G k).reverse.length) : (upL G k).reverse[0] = ancL G k := by
  cases k with
  | zero => rfl
  | succ k => simp only [up_rev, List.getElem_cons_zero]; rfl
theorem anc_len {G : List Int} (hs : isSgB G = true) (k : Nat) : (ancL G k).length ≤ 12 := by
  cases k with
  | zero => exact (isSgB_iff.1 hs).len
  | succ k => exact parL_len _
theorem path_len (G : List Int) : (pathL G).length ≤ 201 := by
  unfold pathL; split
  · rw [List.length_reverse, upL_len]; have := top_le G; omega
  · simp
theorem path_width (G : List Int) : ∀ L ∈ pathL G, L.length ≤ 12 := by
  intro L hL
  unfold pathL at hL
  split at hL
  · next h =>
    have hs : isSgB G = true := by unfold pathB at h; rw [Bool.and_eq_true] at h; exact h.1
    rw [List.mem_reverse] at hL
    obtain ⟨k, -, rfl⟩ := List.mem_map.1 hL
    exact anc_len hs k
  · cases hL
theorem path_width20 (G : List Int) : ∀ L ∈ pathL G, L.length ≤ 1048576 := fun L hL => Nat.le_trans (path_width G L hL) (by decide)
theorem path_no {G : List Int} (h : pathB G = false) : pathL G = [] := by unfold pathL; rw [h]; rfl
theorem path_yes {G : List Int} (h : pathB G = true) : pathL G = (upL G (topN G)).reverse := by unfold pathL; rw [h]; rfl
end Go.Proofs.Ytekeaigdphicaaa
