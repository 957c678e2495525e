/-
  CHAPTERS 19, 20 AND 24 WITHOUT THE PROGRAM: a gap added, a generator removed, the parent; what the generators less the least one generate. (Own work.)
-/
import Derived.Test.YtekeaigdphicaaaSgQm
import Derived.Test.YtekeaigdphicaaaSgS
import Derived.Test.YtekeaigdphicaaaSgA
import Derived.Test.YtekeaigdphicaaaSgE
namespace Go.Proofs.Ytekeaigdphicaaa
open Go Go.RowKit

def lessL (L : List Int) (x : Int) : List Int := L.filter fun y => decide (y ≠ x)
noncomputable def insB (G : List Int) (x : Int) : Bool := hasB (specL G) x && fromGpB (lessL (gapsL G) x)
noncomputable def insL (G : List Int) (x : Int) : List Int := if hasB (specL G) x then fromGpL (lessL (gapsL G) x) else []
noncomputable def remB (G : List Int) (x : Int) : Bool := isSgB G && hasB G x && fromGpB (sortL (gapsL G ++ [x]))
noncomputable def remL (G : List Int) (x : Int) : List Int := if isSgB G && hasB G x then fromGpL (sortL (gapsL G ++ [x])) else []
noncomputable def parB (G : List Int) : Bool := decide (1 ≤ frobN G) && fromGpB (lessL (gapsL G) (frobN G))
noncomputable def parL (G : List Int) : List Int := if decide (1 ≤ frobN G) then fromGpL (lessL (gapsL G) (frobN G)) else []
def blowG (G : List Int) : List Int := G.headD 0 :: G.tail.map fun x => x - G.headD 0
noncomputable def blowB (G : List Int) : Bool := isSgB G && fromB (blowG G)
noncomputable def blowL (G : List Int) : List Int := if isSgB G then fromL (blowG G) else []

theorem hasB_iff {L : List Int} {n : Int} : hasB L n = true ↔ n ∈ L := by unfold hasB; rw [decide_eq_true_eq]
theorem insL_len (G : List Int) (x : Int) : (insL G x).length ≤ 12 := by
  unfold insL; split
  · exact fromGpL_len _
  · simp
theorem remL_len (G : List Int) (x : Int) : (remL G x).length ≤ 12 := by
  unfold remL; split
  · exact fromGpL_len _
  · simp
theorem parL_len (G : List Int) : (parL G).length ≤ 12 := by
  unfold parL; split
  · exact fromGpL_len _
  · simp
theorem blowL_len (G : List Int) : (blowL G).length ≤ 12 := by
  unfold blowL; split
  · exact fromL_length_le _
  · simp
theorem less_gaps {G : List Int} (h : isSgB G = true) (k : Nat) : lessL (gapsL G) (k : Int) = (upB (fun n => !sumB G n && decide (n ≠ k)) 200).map Int.ofNat := by
  unfold gapsL lessL
  rw [if_pos h, filter_cast, upB_and]
  congr 1
  refine List.filter_congr fun n _ => ?_
  by_cases e : n = k
  · subst e; simp
  · have : ¬ (n : Int) = (k : Int) := by omega
    simp [e, this]
theorem spec_open {G : List Int} {x : Int} (hx : hasB (specL G) x = true) : isSgB G = true ∧ ∃ k : Nat, x = (k : Int) ∧ k < 200 ∧ psf G k = true ∧ sumB G (2 * k) = true := by
  cases hs : isSgB G
  · rw [specL_no hs] at hx; simp [hasB] at hx
  · refine ⟨rfl, ?_⟩
    have hx := (hasB_iff).1 hx
    unfold specL at hx
    rw [if_pos hs, List.mem_map] at hx
    obtain ⟨k, hk, rfl⟩ := hx
    obtain ⟨h1, h2⟩ := mem_upB.1 hk
    rw [Bool.and_eq_true] at h2
    exact ⟨k, rfl, h1, h2.1, h2.2⟩
theorem sum_ins {G : List Int} {k : Nat} (hp : psf G k = true) (h2 : sumB G (2 * k) = true) : ∀ n, IsSum (G ++ [(k : Int)]) n ↔ IsSum G n ∨ n = k := by
  intro n
  induction n using Nat.strongRecOn with
  | _ n ih =>
    rw [sum_snoc]
    constructor
    · rintro (h | ⟨h1, h3, h⟩ | ⟨-, h⟩)
      · exact .inl h
      · rcases (ih (n - k) (by omega)).1 h with h | h
        · rcases Nat.eq_zero_or_pos (n - k) with e | e
          · exact .inr (by omega)
          · have := psf_plus hp h e
            rw [show k + (n - k) = n by omega] at this
            exact .inl this
        · have := sumB_iff.1 h2
          rw [show 2 * k = n by omega] at this
          exact .inl this
      · exact .inl h
    · rintro (h | rfl)
      · exact .inl h
      · rcases Nat.eq_zero_or_pos n with e | e
        · exact .inr (.inr ⟨e, by rw [e]; exact .zero⟩)
        · exact .inr (.inl ⟨Nat.le_refl _, e, by rw [Nat.sub_self]; exact .zero⟩)
theorem ins_gens {G : List Int} {x : Int} (hx : hasB (specL G) x = true) : fromB (G ++ [x]) = insB G x ∧ fromL (G ++ [x]) = insL G x := by
  have hcond := hx
  obtain ⟨hs, k, rfl, hk, hp, h2⟩ := spec_open hx
  have hg := psf_gap hp
  have hk0 : 1 ≤ k := by
    rcases Nat.eq_zero_or_pos k with e | e
    · rw [e, sumB_zero] at hg; cases hg
    · exact e
  have hsum := sum_ins hp h2
  have hpos : Pos (G ++ [(k : Int)]) := fun y hy => by
    rcases List.mem_append.1 hy with h | h
    · exact sg_pos hs y h
    · rw [List.mem_singleton.1 h]; omega
  unfold insB insL
  rw [hcond, Bool.true_and, if_pos rfl]
  by_cases hex : ∃ H, isSgB H = true ∧ gapsL H = lessL (gapsL G) (k : Int)
  · obtain ⟨H, hH, hgH⟩ := hex
    obtain ⟨hb, hl⟩ := fromGp_iff.2 ⟨hH, hgH⟩
    have hiff : ∀ n, IsSum (G ++ [(k : Int)]) n ↔ IsSum H n := fun n => by
      rw [hsum n]
      have h1 := mem_gapsL hH n
      rw [hgH] at h1
      unfold lessL at h1
      rw [List.mem_filter, mem_gapsL hs n, decide_eq_true_eq] at h1
      constructor
      · intro h
        rw [← sumB_iff]
        rcases Bool.eq_false_or_eq_true (sumB H n) with e | e
        · exact e
        · obtain ⟨a, b⟩ := h1.2 e
          rcases h with h | h
          · rw [sumB_iff.2 h] at a; cases a
          · exact absurd (by rw [h]) b
      · intro h
        by_cases e : n = k
        · exact .inr e
        · left
          rw [← sumB_iff]
          rcases Bool.eq_false_or_eq_true (sumB G n) with e2 | e2
          · exact e2
          · have := h1.1 ⟨e2, by omega⟩
            rw [sumB_iff.2 h] at this; cases this
    have hmin := minL_sg hH hpos hiff
    have hkH : (k : Int) ∈ H := by
      rw [← (isSgB_iff.1 hH).min, mem_minL_iff (sg_pos hH)]
      refine ⟨by omega, ?_, by omega, fun a b ha hb hab h3 h4 => ?_⟩
      · rw [Int.toNat_natCast]; exact (hiff k).1 ((hsum k).2 (.inr rfl))
      · rw [Int.toNat_natCast] at hab
        have e1 : IsSum G a := by rcases (hsum a).1 ((hiff a).2 h3) with h | h; exact h; omega
        have e2 : IsSum G b := by rcases (hsum b).1 ((hiff b).2 h4) with h | h; exact h; omega
        have := e1.plus e2
        rw [hab] at this
        rw [sumB_iff.2 this] at hg; cases hg
    have hok : okG (G ++ [(k : Int)]) = true := okG_iff.2 ⟨fun y hy => by
      rcases List.mem_append.1 hy with h | h
      · exact (isSgB_iff.1 hs).bounds y h
      · rw [List.mem_singleton.1 h]; exact (isSgB_iff.1 hH).bounds _ hkH, by simp, by
      have := (isSgB_iff.1 hs).len
      rw [List.length_append, List.length_singleton]; omega⟩
    have hf : fromB (G ++ [(k : Int)]) = true := by unfold fromB; rw [hok, hmin, hH]; rfl
    rw [hf, fromL_yes hf, hmin, hb, hl]
    exact ⟨rfl, rfl⟩
  · have hno : fromGpB (lessL (gapsL G) (k : Int)) = false := fromGp_none fun H hH e => hex ⟨H, hH, e⟩
    have hf : fromB (G ++ [(k : Int)]) = false := by
      rw [Bool.eq_false_iff]
      intro hf
      refine hex ⟨minL (G ++ [(k : Int)]), by rw [← fromL_yes hf]; exact fromL_isSg hf, ?_⟩
      have hK : isSgB (minL (G ++ [(k : Int)])) = true := by rw [← fromL_yes hf]; exact fromL_isSg hf
      rw [less_gaps hs]
      unfold gapsL
      rw [if_pos hK]
      congr 2
      funext n
      rw [sumB_minL hpos]
      by_cases e : n = k
      · have : sumB (G ++ [(k : Int)]) n = true := sumB_iff.2 ((hsum n).2 (.inr e))
        rw [this]; simp [e]
      · have : sumB (G ++ [(k : Int)]) n = sumB G n := by
          rcases Bool.eq_false_or_eq_true (sumB G n) with e2 | e2
          · rw [e2]; exact sumB_iff.2 ((hsum n).2 (.inl (sumB_iff.1 e2)))
          · rw [e2, sumB_false]
            intro h
            rcases (hsum n).1 h with h | h
            · exact sumB_false.1 e2 h
            · exact e h
        rw [this]; simp [e]
    rw [hf, fromL_no hf, hno, fromGpL_no hno]
    exact ⟨rfl, rfl⟩
theorem par_ins (G : List Int) : parB G = insB G (frobN G) ∧ parL G = insL G (frobN G) := by
  unfold parB insB parL insL
  have h : decide (1 ≤ frobN G) = hasB (specL G) (frobN G) := by
    by_cases h1 : 1 ≤ frobN G
    · rw [decide_eq_true h1]
      cases hs : isSgB G
      · exfalso
        have : frobN G = -1 := by unfold frobN; rw [hs]; rfl
        omega
      · exact (hasB_iff.2 (frob_spec hs h1)).symm
    · rw [decide_eq_false h1]
      symm
      rw [Bool.eq_false_iff]
      intro h
      obtain ⟨hs, k, e, -, hp, -⟩ := spec_open h
      have : k = 0 := by omega
      have hg := psf_gap hp
      rw [this, sumB_zero] at hg; cases hg
  rw [h]
  exact ⟨rfl, rfl⟩
theorem rem_mem {G : List Int} {x : Int} (hs : isSgB G = true) (hx : x ∈ G) : sortL (gapsL G ++ [x]) = memK (fun n => decide ((n : Int) ≠ x) && hasN G (n : Int)) 200 := by
  refine asc_unique (sortL_spec _).1 (memK_asc _ _) fun y => ?_
  rw [(sortL_spec _).2, List.mem_append, mem_memK, List.mem_singleton]
  have hb := (isSgB_iff.1 hs).bounds x hx
  constructor
  · rintro (hy | rfl)
    · have hb := gaps_bnd2 y hy
      obtain ⟨n, rfl⟩ := Int.eq_ofNat_of_zero_le hb.1
      exact ⟨n, by omega, by rw [hasN_in hs, (mem_gapsL hs n).1 hy, Bool.and_false], rfl⟩
    · obtain ⟨n, rfl⟩ := Int.eq_ofNat_of_zero_le (show 0 ≤ y by omega)
      exact ⟨n, by omega, by simp, rfl⟩
  · rintro ⟨n, h1, h2, rfl⟩
    by_cases e : (n : Int) = x
    · exact .inr e
    · left
      rw [decide_eq_true e, Bool.true_and, hasN_in hs] at h2
      exact (mem_gapsL hs n).2 h2
end Go.Proofs.Ytekeaigdphicaaa
