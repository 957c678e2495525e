/-
  WHAT EXCEEDS THE MODULUS, AND THE CANONICAL IDEAL BY IT. (Own work, no program; exc_law as in FnOrder.)
-/
import Derived.Test.YtopnehkhigacpaaGreatSgO
import Derived.Test.YtopnehkhigacpaaGreatSgId
namespace Go.Proofs.YtopnehkhigacpaaGreat
open Go

theorem psfL_ascX (G : List Int) : Asc (psfL G) := by
  unfold psfL
  split
  · intro i j hj hij
    rw [List.length_map] at hj
    rw [List.getElem_map, List.getElem_map]
    have h : (upB (psf G) 200).Pairwise (· < ·) := by unfold upB; exact List.Pairwise.filter _ List.pairwise_lt_range
    have := (List.pairwise_iff_getElem.1 h) i j (by omega) hj hij
    simp only [Int.ofNat_eq_natCast]; omega
  · intro i j hj hij; simp at hj
theorem exc_lawX (G : List Int) (n : Int) (hne : excL G n ≠ []) : (genusN G = 0 ∧ excL G n = [-1]) ∨ (genusN G ≠ 0 ∧ excL G n = psfL G) := by
  rcases aperyL_cases G n with h | ⟨N, rfl, hA, -⟩
  · exfalso
    apply hne
    unfold excL
    have := topL_len G [] false
    rw [h]
    cases ht : topL G [] false with
    | nil => rfl
    | cons a l => rw [ht] at this; simp at this
  · have hs := hA.sg
    have hpos := hA.pos
    have hg := genus_len hs
    by_cases hc : condNat G = 0
    · left
      have hall : ∀ m, sumB G m = true := fun m => sg_from hs m (by omega)
      have h0 : gapsL G = [] := by
        unfold gapsL
        rw [if_pos hs]
        have : (upB (fun n => !sumB G n) 200).length = 0 := upB_none.2 fun x _ => by rw [hall x]; rfl
        rw [List.length_eq_zero_iff.1 this]; rfl
      refine ⟨by rw [hg, h0]; rfl, ?_⟩
      have hm : ∀ x, x ∈ excL G (N : Int) ↔ x ∈ [(-1 : Int)] := fun x => by
        rw [exc_mem hA, List.mem_singleton]
        constructor
        · rintro ⟨y, rfl, -, h2, h3⟩
          have h4 : y < N := Nat.lt_of_not_le fun h => by have := h2 h; rw [hall] at this; cases this
          have := (h3 1 (Nat.le_refl _) (hall 1)).1
          omega
        · rintro rfl
          exact ⟨N - 1, by omega, hall _, fun h => by omega, fun s hs1 _ => ⟨by omega, hall _⟩⟩
      have h1 := sortL_eq (excL_asc (G := G) (n := (N : Int))) hm
      have h2 : [(-1 : Int)] = sortL [-1] := sortL_eq (by intro i j hj hij; simp at hj; omega) fun _ => Iff.rfl
      rw [h1, ← h2]
    · right
      have hend : sumB G (condNat G - 1) = false := end_gap hc
      refine ⟨fun h => ?_, ?_⟩
      · have h0 : (gapsL G).length = 0 := by omega
        unfold gapsL at h0
        rw [if_pos hs, List.length_map] at h0
        have := upB_none.1 h0 (condNat G - 1) (by have := condNat_le G; omega)
        rw [hend] at this; cases this
      · have hm : ∀ x, x ∈ excL G (N : Int) ↔ x ∈ psfL G := fun x => by
          rw [exc_mem hA]
          constructor
          · rintro ⟨y, rfl, h1, h2, h3⟩
            have hNy : N ≤ y := Nat.le_of_not_lt fun h => by
              have h4 := h3 (condNat G - 1 + N - y) (by omega) (sg_from hs _ (by omega))
              rw [show y + (condNat G - 1 + N - y) - N = condNat G - 1 by omega, hend] at h4
              cases h4.2
            have e : (y : Int) - (N : Int) = ((y - N : Nat) : Int) := by omega
            rw [e, mem_psfL hs]
            unfold psf
            rw [h2 hNy, Bool.not_false, Bool.true_and, List.all_eq_true]
            intro g hgG
            have hp := sg_pos hs g hgG
            have h5 := h3 g.toNat (by omega) (sumB_iff.2 (IsSum.gen (by rw [Int.toNat_of_nonneg (by omega)]; exact hgG)))
            rw [show y - N + g.toNat = y + g.toNat - N by omega]; exact h5.2
          · intro hx
            obtain ⟨m, rfl⟩ : ∃ m : Nat, x = (m : Int) := by
              unfold psfL at hx
              rw [if_pos hs, List.mem_map] at hx
              obtain ⟨m, -, rfl⟩ := hx
              exact ⟨m, rfl⟩
            have hp := (mem_psfL hs m).1 hx
            refine ⟨m + N, by omega, sumB_iff.2 (psf_plus hp hA.mem hpos), fun _ => ?_, fun s hs1 hss => ⟨by omega, ?_⟩⟩
            · rw [Nat.add_sub_cancel]; exact psf_gap hp
            · rw [show m + N + s - N = m + s by omega]; exact sumB_iff.2 (psf_plus hp (sumB_iff.1 hss) hs1)
        rw [sortL_eq (excL_asc (G := G) (n := (N : Int))) hm]
        exact (sortL_eq (psfL_ascX G) fun _ => Iff.rfl).symm
theorem exc_ne {G : List Int} (hs : isSgB G = true) : excL G (multN G) ≠ [] := by
  obtain ⟨m, hm, hmG, h1, h2⟩ := multN_of hs
  have hA : ApIn G m := ⟨hs, IsSum.gen hmG, h1, h2⟩
  rw [hm]
  have : ∃ x, x ∈ excL G (m : Int) := by
    by_cases hc : condNat G = 0
    · have hall : ∀ k, sumB G k = true := fun k => sg_from hs k (by omega)
      exact ⟨_, (exc_mem hA _).2 ⟨m - 1, rfl, hall _, fun h => by omega, fun s h _ => by first | exact ⟨by omega, hall _⟩ | omega⟩⟩
    · have hend := end_gap hc
      refine ⟨_, (exc_mem hA _).2 ⟨condNat G - 1 + m, rfl, sg_from hs _ (by omega), fun _ => by rw [Nat.add_sub_cancel]; exact hend, fun s h hss => ?_⟩⟩
      have h3 : sumB G (condNat G - 1 + m + s - m) = true := by rw [show condNat G - 1 + m + s - m = condNat G - 1 + s by omega]; exact sg_from hs _ (by omega)
      first | exact ⟨by omega, h3⟩ | omega
  obtain ⟨x, hx⟩ := this
  intro e; rw [e] at hx; cases hx
theorem psfL_noneX {G : List Int} (hs : isSgB G = true) (hg : genusN G = 0) : psfL G = [] ∧ frobN G = -1 := by
  have h1 := genus_len hs
  have h0 : gapsL G = [] := List.eq_nil_of_length_eq_zero (by omega)
  refine ⟨by rw [psfL_way, h0]; rfl, ?_⟩
  rw [gaps_last, h0]; rfl
theorem excL_noX {G : List Int} (hs : isSgB G = false) (n : Int) : excL G n = [] := by
  unfold excL; rw [topL_no (.inl hs)]; rfl
theorem canon_way (G : List Int) : canonL G = sortL ((excL G (multN G)).map fun x => frobN G - x) := by
  cases hs : isSgB G
  · rw [excL_noX hs]
    unfold canonL
    rw [hs]; rfl
  · have hne := exc_ne hs
    unfold canonL
    rw [hs, if_pos rfl]
    rcases exc_lawX G (multN G) hne with ⟨h1, h2⟩ | ⟨h1, h2⟩
    · obtain ⟨h3, h4⟩ := psfL_noneX hs h1
      rw [h3, if_pos rfl, h2, h4]
      show [(0 : Int)] = sortL [0]
      exact (sortL_of_asc (fun i j hj hij => by have : j < 1 := hj; omega)).symm
    · rw [h2]
      rw [if_neg (by rw [← h2]; exact hne)]
theorem exc_bndX {G : List Int} {n : Int} : ∀ x ∈ excL G n, -60 ≤ x ∧ x ≤ 260 := by
  intro x hx
  rcases aperyL_cases G n with h | ⟨N, rfl, hA, hap⟩
  · unfold excL at hx
    have := topL_len G [] false
    rw [h] at hx
    cases ht : topL G [] false with
    | nil => rw [ht] at hx; cases hx
    | cons a l => rw [ht] at this; simp at this
  · obtain ⟨y, rfl, h1, h2, h3⟩ := (exc_mem hA x).1 hx
    have := hA.le
    have hy : ¬ 200 + N ≤ y := fun h => by
      have h4 := h2 (by omega)
      rw [hA.far _ (by omega)] at h4; cases h4
    omega
/-! ### the dual -/
theorem minOf_in {L : List Int} (h : 0 < L.length) : Lib.minOf L ∈ L := by
  have key : ∀ (M : List Int) (a : Int), M.foldl min a = a ∨ M.foldl min a ∈ M := by
    intro M
    induction M with
    | nil => intro a; exact .inl rfl
    | cons y M ih =>
      intro a
      rw [List.foldl_cons]
      rcases ih (min a y) with h | h
      · rw [h]
        rcases Int.le_total a y with h' | h'
        · left; omega
        · right; rw [show min a y = y by omega]; simp
      · right; exact List.mem_cons_of_mem _ h
  unfold Lib.minOf
  rcases key L (L.headD 0) with h' | h'
  · rw [h']
    cases L with
    | nil => simp at h
    | cons x r => simp
  · exact h'
end Go.Proofs.YtopnehkhigacpaaGreat
