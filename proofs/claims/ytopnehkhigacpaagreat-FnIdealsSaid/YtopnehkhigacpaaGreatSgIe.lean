/-
  WHAT FnIdeals ASKS: the sum of ideals does not mind the order; the canonical ideal has one generator exactly if the semigroup is symmetric. (Own work, no program; the other facts of the law are not begun.)
-/
import Derived.Test.YtopnehkhigacpaaGreatSgId
import Derived.Test.YtopnehkhigacpaaGreatSgS
import Derived.Test.YtopnehkhigacpaaGreatSgEx
import Derived.Test.YtopnehkhigacpaaGreatSgO
namespace Go.Proofs.YtopnehkhigacpaaGreat
open Go

theorem idSum_comm (G A B : List Int) : idSumL G A B = idSumL G B A := by unfold idSumL; rw [Bool.and_comm, sums_comm]
theorem asc_down {L : List Int} (h : Asc L) (f : Int) : Asc ((L.map fun x => f - x).reverse) := by
  intro i j hj hij
  have hl : ((L.map fun x => f - x).reverse).length = L.length := by simp
  rw [List.getElem_reverse, List.getElem_reverse, List.getElem_map, List.getElem_map]
  simp only [List.length_map]
  have h1 := h (L.length - 1 - j) (L.length - 1 - i) (by omega) (by omega)
  omega
theorem canon_len {G : List Int} (hs : isSgB G = true) (ha : Asc (psfL G)) : (canonL G).length = 1 ↔ symB G = true := by
  have hc : canonL G = if psfL G = [] then [0] else sortL ((psfL G).map fun x => frobN G - x) := by unfold canonL; rw [if_pos hs]
  have ht : typeN G = if (psfL G).length ≤ 1 then 1 else ((psfL G).length : Int) := by unfold typeN; rw [if_pos hs]
  rw [sym_type hs, hc, ht]
  by_cases e : psfL G = []
  · rw [if_pos e, e]; simp
  · rw [if_neg e]
    have h0 : 0 < (psfL G).length := List.length_pos_iff.2 e
    have hl : (sortL ((psfL G).map fun x => frobN G - x)).length = (psfL G).length := by
      rw [← sortL_eq (asc_down ha (frobN G)) fun x => by rw [List.mem_reverse]]
      simp
    rw [hl]
    split <;> omega
theorem hasN_iff {G : List Int} (hs : isSgB G = true) (x : Int) : hasN G x = true ↔ ∃ n : Nat, x = (n : Int) ∧ IsSum G n := by
  constructor
  · intro h
    by_cases h0 : x < 0
    · rw [hasN_neg h0] at h; cases h
    · obtain ⟨n, rfl⟩ := Int.eq_ofNat_of_zero_le (show 0 ≤ x by omega)
      rw [hasN_in hs] at h
      exact ⟨n, rfl, sumB_iff.1 h⟩
  · rintro ⟨n, rfl, h⟩
    rw [hasN_in hs]; exact sumB_iff.2 h
theorem psfL_get {G : List Int} (hs : isSgB G = true) {x : Int} : x ∈ psfL G ↔ ∃ n : Nat, x = (n : Int) ∧ psf G n = true := by
  constructor
  · intro h
    have h2 := h
    unfold psfL at h2
    rw [if_pos hs, List.mem_map] at h2
    obtain ⟨n, -, rfl⟩ := h2
    exact ⟨n, rfl, (mem_psfL hs n).1 h⟩
  · rintro ⟨n, rfl, h⟩
    exact (mem_psfL hs n).2 h
theorem canon_mem {G : List Int} (hs : isSgB G = true) (z : Int) : z ∈ canonL G ↔ (psfL G = [] ∧ z = 0) ∨ ∃ n : Nat, psf G n = true ∧ z = frobN G - (n : Int) := by
  have hc : canonL G = if psfL G = [] then [0] else sortL ((psfL G).map fun x => frobN G - x) := by unfold canonL; rw [if_pos hs]
  rw [hc]
  by_cases e : psfL G = []
  · rw [if_pos e]
    constructor
    · intro h; exact .inl ⟨e, List.mem_singleton.1 h⟩
    · rintro (⟨-, rfl⟩ | ⟨n, hn, -⟩)
      · simp
      · have := (mem_psfL hs n).2 hn; rw [e] at this; cases this
  · rw [if_neg e, (sortL_spec _).2, List.mem_map]
    constructor
    · rintro ⟨x, hx, rfl⟩
      obtain ⟨n, rfl, hn⟩ := (psfL_get hs).1 hx
      exact .inr ⟨n, hn, rfl⟩
    · rintro (⟨h, -⟩ | ⟨n, hn, rfl⟩)
      · exact absurd h e
      · exact ⟨(n : Int), (mem_psfL hs n).2 hn, rfl⟩
theorem canon_iff {G : List Int} (hs : isSgB G = true) (y : Int) : (∃ z ∈ canonL G, hasN G (y - z) = true) ↔ ¬ (0 ≤ frobN G - y ∧ hasN G (frobN G - y) = true) := by
  have hf := frob_cond hs
  constructor
  · rintro ⟨z, hz, hh⟩ ⟨h0, h1⟩
    obtain ⟨m, hm, hsm⟩ := (hasN_iff hs _).1 hh
    obtain ⟨k, hk, hsk⟩ := (hasN_iff hs _).1 h1
    rcases (canon_mem hs z).1 hz with ⟨e, rfl⟩ | ⟨n, hn, rfl⟩
    · by_cases c0 : condNat G = 0
      · omega
      · have := (mem_psfL hs _).2 (psf_frob hs c0); rw [e] at this; cases this
    · have h2 : IsSum G (m + k) := hsm.plus hsk
      have h3 := psf_gap hn
      rw [show n = m + k by omega, sumB_iff.2 h2] at h3
      cases h3
  · intro h
    by_cases h0 : 0 ≤ frobN G - y
    · obtain ⟨k, hk⟩ := Int.eq_ofNat_of_zero_le h0
      have hb : sumB G k = false := by
        cases hx : sumB G k
        · rfl
        · exact absurd ⟨h0, by rw [hk, hasN_in hs]; exact hx⟩ h
      obtain ⟨p, hp, hkp, hs2⟩ := psf_over hs 200 k (by omega) hb
      exact ⟨frobN G - (p : Int), (canon_mem hs _).2 (.inr ⟨p, hp, rfl⟩), (hasN_iff hs _).2 ⟨p - k, by omega, hs2⟩⟩
    · have hy : (condNat G : Int) ≤ y := by omega
      obtain ⟨n, rfl⟩ := Int.eq_ofNat_of_zero_le (show 0 ≤ y by omega)
      have hn : hasN G ((n : Int) - 0) = true := by rw [Int.sub_zero, hasN_in hs]; exact sg_from hs n (by omega)
      refine ⟨0, (canon_mem hs 0).2 ?_, hn⟩
      by_cases c0 : condNat G = 0
      · refine .inl ⟨?_, rfl⟩
        cases e : psfL G with
        | nil => rfl
        | cons x r =>
          obtain ⟨m, rfl, hm⟩ := (psfL_get hs).1 (show x ∈ psfL G by rw [e]; simp)
          have := gap_lt hs (psf_gap hm)
          omega
      · exact .inr ⟨condNat G - 1, psf_frob hs c0, by omega⟩
/-- Under each number of a list stands one of its least ones. -/
theorem top_under {G L : List Int} (hs : isSgB G = true) (hL : L.all small = true) : ∀ (d : Nat) (p : Int), p ∈ L → (p + 1000000).toNat ≤ d → ∃ k ∈ topL G L true, hasN G (p - k) = true
  | d, p, hp, hd => by
    by_cases hm : ∀ b ∈ L, p = b ∨ hasN G (behN true p b) = false
    · exact ⟨p, (mem_topL hs hL).2 ⟨hp, hm⟩, by rw [show p - p = 0 by omega]; exact hasN_zero hs⟩
    · have ⟨b, hb⟩ := Classical.not_forall.1 hm
      have ⟨hbL, hb2⟩ := Classical.not_imp.1 hb
      rw [not_or] at hb2
      have hpb : hasN G (p - b) = true := by
        have h := hb2.2
        rw [show behN true p b = p - b from rfl] at h
        cases hx : hasN G (p - b)
        · exact absurd hx h
        · rfl
      have h0 := hasN_nn hpb
      have hbs := small_iff.1 (List.all_eq_true.1 hL b hbL)
      have hne := hb2.1
      cases d with
      | zero => omega
      | succ d =>
        obtain ⟨k, hk, hkb⟩ := top_under hs hL d b hbL (by omega)
        exact ⟨k, hk, by have := hasN_add hpb hkb; rwa [show p - b + (b - k) = p - k by omega] at this⟩
theorem idGens_in {G L : List Int} (hne : idGensL G L ≠ []) (x : Int) : inIdB G (idGensL G L) x = inIdB G L x := by
  have hv : validB L = true := by
    cases h : validB L
    · exact absurd (by unfold idGensL; rw [h]; rfl) hne
    · rfl
  have hg : idGensL G L = topL G L true := by unfold idGensL; rw [if_pos hv]
  have hs : isSgB G = true := by
    cases h : isSgB G
    · rw [hg, topL_no (.inl h)] at hne; exact absurd rfl hne
    · rfl
  have hL : L.all small = true := by
    cases h : L.all small
    · rw [hg, topL_no (.inr h)] at hne; exact absurd rfl hne
    · rfl
  obtain ⟨h1, h2, h3⟩ := validB_iff.1 hv
  rw [hg] at hne ⊢
  have hv2 : validB (topL G L true) = true := validB_iff.2 ⟨fun z hz => h1 z ((mem_topL hs hL).1 hz).1, List.length_pos_iff.2 hne, Nat.le_trans (topL_len _ _ _) h3⟩
  unfold inIdB
  rw [hv, hv2]
  congr 1
  rw [Bool.eq_iff_iff, List.any_eq_true, List.any_eq_true]
  constructor
  · rintro ⟨z, hz, hh⟩; exact ⟨z, ((mem_topL hs hL).1 hz).1, hh⟩
  · rintro ⟨z, hz, hh⟩
    obtain ⟨k, hk, hzk⟩ := top_under hs hL _ z hz (Nat.le_refl _)
    exact ⟨k, hk, by have := hasN_add hh hzk; rwa [show x - z + (z - k) = x - k by omega] at this⟩
theorem leastI_of {L : List Int} (h : 1 ≤ L.length) : leastI L ∈ L ∧ ∀ l ∈ L, leastI L ≤ l := by
  unfold leastI
  have hsp := sortL_spec L
  cases e : sortL L with
  | nil =>
    exfalso
    cases L with
    | nil => simp at h
    | cons x r => have := (hsp.2 x).2 (by simp); rw [e] at this; cases this
  | cons x r =>
    rw [e] at hsp
    refine ⟨(hsp.2 x).1 (by simp), fun l hl => ?_⟩
    obtain ⟨j, hj, hjl⟩ := List.getElem_of_mem ((hsp.2 l).2 hl)
    show x ≤ l
    by_cases j0 : j = 0
    · subst j0; simp at hjl; omega
    · have := hsp.1 0 j hj (by omega)
      rw [hjl] at this
      simp at this; omega
theorem headD_in {G : List Int} (hs : isSgB G = true) : ∃ m : Nat, (G.headD 0) = (m : Int) ∧ 1 ≤ m ∧ (m : Int) ∈ G ∧ m ≤ 60 := by
  have h0 : 0 < G.length := (okG_iff.1 (isSgB_iff.1 hs).ok).2.1
  cases G with
  | nil => simp at h0
  | cons g r =>
    have hb := (isSgB_iff.1 hs).bounds g (by simp)
    obtain ⟨m, rfl⟩ := Int.eq_ofNat_of_zero_le (show 0 ≤ g by omega)
    exact ⟨m, rfl, by omega, by simp, by omega⟩
theorem dualB_iff {G L : List Int} {x : Int} : dualB G L x = true ↔ ∀ l ∈ L, hasN G (x + l) = true := by unfold dualB; rw [List.all_eq_true]
theorem dual_in {G L : List Int} (hs : isSgB G = true) (hv : validB L = true) (y : Int) : (∃ z ∈ dualL G L, hasN G (y - z) = true) ↔ ∀ l ∈ L, hasN G (y + l) = true := by
  obtain ⟨h1, h2, h3⟩ := validB_iff.1 hv
  obtain ⟨hl1, hl2⟩ := leastI_of h2
  obtain ⟨m, hm, hm1, hmG, hm60⟩ := headD_in hs
  have hc := condNat_le G
  have hlb := h1 _ hl1
  have hmem : ∀ z, z ∈ dualAll G L ↔ (∃ k : Nat, k < condNat G + m ∧ z = (k : Int) - leastI L) ∧ dualB G L z = true := fun z => by
    unfold dualAll
    rw [List.mem_filter, List.mem_map, hm]
    constructor
    · rintro ⟨⟨k, hk, rfl⟩, hd⟩; exact ⟨⟨k, by have := List.mem_range.1 hk; simpa using this, rfl⟩, hd⟩
    · rintro ⟨⟨k, hk, rfl⟩, hd⟩; exact ⟨⟨k, List.mem_range.2 (by simpa using hk), rfl⟩, hd⟩
  have hsm : (dualAll G L).all small = true := List.all_eq_true.2 fun z hz => by
    obtain ⟨⟨k, hk, rfl⟩, -⟩ := (hmem z).1 hz
    exact small_iff.2 ⟨by omega, by omega⟩
  have hd : dualL G L = topL G (dualAll G L) true := by unfold dualL; rw [hs, hv]; rfl
  rw [hd]
  constructor
  · rintro ⟨z, hz, hh⟩ l hl
    have h5 := dualB_iff.1 ((hmem z).1 ((mem_topL hs hsm).1 hz).1).2 l hl
    have := hasN_add hh h5
    rwa [show y - z + (z + l) = y + l by omega] at this
  · intro h
    have h0 := hasN_nn (h _ hl1)
    obtain ⟨n, hn⟩ := Int.eq_ofNat_of_zero_le h0
    by_cases hlt : n < condNat G + m
    · have hy : y ∈ dualAll G L := (hmem y).2 ⟨⟨n, hlt, by omega⟩, dualB_iff.2 h⟩
      obtain ⟨k, hk, hyk⟩ := top_under hs hsm _ y hy (Nat.le_refl _)
      exact ⟨k, hk, hyk⟩
    · have hr := Nat.mod_lt (n - condNat G) (show 0 < m by omega)
      have hq := Nat.div_add_mod (n - condNat G) m
      obtain ⟨r, hrr⟩ : ∃ r, r = (n - condNat G) % m := ⟨_, rfl⟩
      obtain ⟨t, ht⟩ : ∃ t, t = m * ((n - condNat G) / m) := ⟨_, rfl⟩
      have hts : IsSum G t := by rw [ht, Nat.mul_comm]; exact (IsSum.gen hmG).times _
      rw [← hrr] at hr
      rw [← hrr, ← ht] at hq
      have hy : ((condNat G + r : Nat) : Int) - leastI L ∈ dualAll G L := (hmem _).2 ⟨⟨condNat G + r, by omega, rfl⟩, dualB_iff.2 fun l hl => by
        have := hl2 l hl
        obtain ⟨e, he⟩ := Int.eq_ofNat_of_zero_le (show 0 ≤ ((condNat G + r : Nat) : Int) - leastI L + l by omega)
        rw [he, hasN_in hs]
        exact sg_from hs e (by omega)⟩
      obtain ⟨k, hk, hyk⟩ := top_under hs hsm _ _ hy (Nat.le_refl _)
      have htn : hasN G ((t : Nat) : Int) = true := by rw [hasN_in hs]; exact sumB_iff.2 hts
      refine ⟨k, hk, ?_⟩
      have := hasN_add htn hyk
      rwa [show ((t : Nat) : Int) + (((condNat G + r : Nat) : Int) - leastI L - k) = y - k by omega] at this
end Go.Proofs.YtopnehkhigacpaaGreat
