/-
  SEMIGROUPS FROM THEIR GAPS, THE PROGRAM'S WAY: no program. The numbers up to 60 that are not in the list generate the only semigroup that may have these gaps. (Own work.)
-/
import Derived.Test.YtljfiiohiolbnaaSgF
import Derived.Test.YtljfiiohiolbnaaCh3I
namespace Go.Proofs.Ytljfiiohiolbnaa
open Go

theorem mem_missL {S : List Int} {n : Nat} {x : Int} : x ∈ missL S n ↔ ∃ k : Nat, x = (k : Int) ∧ 1 ≤ k ∧ k < n ∧ isIn S k = false := by
  unfold missL
  rw [List.mem_map]
  constructor
  · rintro ⟨k, h, rfl⟩
    obtain ⟨h1, h2⟩ := mem_upB.1 h
    rw [Bool.and_eq_true, decide_eq_true_eq, Bool.not_eq_true'] at h2
    exact ⟨k, rfl, h2.1, h1, h2.2⟩
  · rintro ⟨k, rfl, h1, h2, h3⟩
    exact ⟨k, mem_upB.2 ⟨h2, by rw [decide_eq_true h1, h3]; rfl⟩, rfl⟩
theorem upB_asc (p : Nat → Bool) (n : Nat) : Asc ((upB p n).map Int.ofNat) := by
  have hp : ((upB p n).map Int.ofNat).Pairwise (· < ·) := by
    unfold upB
    rw [List.pairwise_map]
    exact (List.Pairwise.filter _ List.pairwise_lt_range).imp fun h => by simp only [Int.ofNat_eq_natCast]; omega
  exact fun i j hj hij => List.pairwise_iff_getElem.1 hp i j (by omega) hj hij
theorem missL_asc (S : List Int) (n : Nat) : Asc (missL S n) := upB_asc _ n
theorem missL_pos (S : List Int) (n : Nat) : Pos (missL S n) := fun x hx => by obtain ⟨k, rfl, h, -⟩ := mem_missL.1 hx; omega
theorem sum_of_sums {G H : List Int} (h : ∀ x : Nat, (x : Int) ∈ H → IsSum G x) {n : Nat} (hn : IsSum H n) : IsSum G n := by
  induction hn with
  | zero => exact .zero
  | add hg _ ih => exact ih.plus (h _ hg)
/-- What the program keeps. -/
noncomputable def genGp (L : List Int) : List Int := keptL (missL L 61)
theorem genGp_min (L : List Int) : genGp L = minL (missL L 61) := by
  unfold genGp
  rw [minL_of_asc (missL_asc L 61)]
  exact keptL_small fun x hx => by obtain ⟨k, rfl, -, h, -⟩ := mem_missL.1 hx; omega
theorem genGp_len (L : List Int) : (genGp L).length ≤ 61 := by
  unfold genGp keptL
  refine Nat.le_trans (List.length_filter_le _ _) ?_
  unfold missL; rw [List.length_map]; exact upB_len_le _ _
theorem genGp_of {L : List Int} (h : fromGpB L = true) : fromGpL L = genGp L := by
  obtain ⟨h1, h2⟩ := fromGp_iff.1 ⟨h, rfl⟩
  rw [genGp_min]
  refine (minL_sg h1 (missL_pos L 61) fun n => ⟨fun hn => ?_, fun hn => ?_⟩).symm
  · refine sum_of_sums (fun x hx => ?_) hn
    obtain ⟨k, e, -, -, h3⟩ := mem_missL.1 hx
    obtain rfl : x = k := by omega
    have hi := isIn_gaps h1 x
    rw [h2, h3] at hi
    refine sumB_iff.1 ?_
    cases hs : sumB (fromGpL L) x
    · rw [hs] at hi; cases hi
    · rfl
  · refine hn.mono fun x hx => ?_
    have hb := (isSgB_iff.1 h1).bounds x hx
    obtain ⟨k, rfl⟩ := Int.eq_ofNat_of_zero_le (show 0 ≤ x by omega)
    refine mem_missL.2 ⟨k, rfl, by omega, by omega, ?_⟩
    have hi := isIn_gaps h1 k
    rw [h2, sumB_iff.2 (IsSum.gen hx)] at hi
    exact hi
/-- The program's way. -/
theorem genGp_way (L : List Int) : fromGpB L = (isSgB (genGp L) && decide (gapsL (genGp L) = L)) := by
  cases h : fromGpB L
  · refine Eq.symm (Bool.not_eq_true _ ▸ fun h' => ?_)
    rw [Bool.and_eq_true, decide_eq_true_eq] at h'
    have := (fromGp_iff.2 h').1
    rw [h] at this; cases this
  · obtain ⟨h1, h2⟩ := fromGp_iff.1 ⟨h, rfl⟩
    rw [← genGp_of h, h1, decide_eq_true h2]; rfl
theorem fromGp_ok {L : List Int} (h : okGp L = false) : fromGpB L = false := by
  cases hb : fromGpB L
  · rfl
  · rw [(fromGp_clash hb).1] at h; cases h

/-! ### From elements: zero is asked like the others -/
def missA (S : List Int) (n : Nat) : List Int := (upB (fun k => !isIn S k) n).map Int.ofNat
theorem missA_zero (S : List Int) : missA S 0 = [] := rfl
theorem missA_succ (S : List Int) (n : Nat) : missA S (n + 1) = if isIn S n then missA S n else missA S n ++ [(n : Int)] := by
  unfold missA
  rw [upB_succ]
  cases isIn S n <;> simp
theorem missA_len (S : List Int) (n : Nat) : (missA S n).length ≤ n := by unfold missA; rw [List.length_map]; exact upB_len_le _ _
theorem missA_eq {S : List Int} {n : Nat} (h : n = 0 ∨ isIn S 0 = true) : missA S n = missL S n := by
  rcases h with rfl | h
  · rfl
  · unfold missA missL
    congr 1
    unfold upB
    refine List.filter_congr fun k _ => ?_
    rcases Nat.eq_zero_or_pos k with rfl | h1
    · rw [h]; rfl
    · rw [decide_eq_true (show 1 ≤ k from h1), Bool.true_and]
theorem missA_no {S : List Int} {n : Nat} (hn : n ≠ 0) (h : isIn S 0 = false) : okGp (missA S n) = false := by
  cases hok : okGp (missA S n)
  · rfl
  · have hm : ((0 : Nat) : Int) ∈ missA S n := by
      unfold missA
      exact List.mem_map.2 ⟨0, mem_upB.2 ⟨by omega, by rw [h]; rfl⟩, rfl⟩
    have := (okGp_iff.1 hok).1 _ hm
    omega
theorem fromEl_go {S : List Int} {C : Nat} : fromElB S (C : Int) = (fromGpB (missA S C) && decide (smallL (fromGpL (missA S C)) = S)) ∧ (fromElB S (C : Int) = true → fromElL S (C : Int) = fromGpL (missA S C)) := by
  by_cases h0 : C = 0 ∨ isIn S 0 = true
  · obtain ⟨h1, h2⟩ := fromEl_way (S := S) (C := C)
    rw [missA_eq h0]
    refine ⟨?_, h2⟩
    rw [h1]
    cases hb : fromGpB (missL S C)
    · rfl
    · obtain ⟨g1, g2⟩ := fromGp_iff.1 ⟨hb, rfl⟩
      generalize fromGpL (missL S C) = K at *
      rw [Bool.true_and, Bool.true_and]
      by_cases hs : smallL K = S
      · rw [decide_eq_true hs, Bool.and_true]
        refine decide_eq_true ?_
        rw [condN_yes g1]
        have hle : condNat K ≤ C := by
          rcases Nat.eq_zero_or_pos (condNat K) with e | e
          · omega
          · have hn : sumB K (condNat K - 1) = false := endOf_not (sumB K) 200 (by unfold condNat at e; omega)
            have hm := (mem_gapsL g1 _).2 hn
            rw [g2] at hm
            obtain ⟨k, e1, -, hk, -⟩ := mem_missL.1 hm
            omega
        rcases Nat.lt_or_ge (condNat K) C with hlt | hge
        · have hel : sumB K (condNat K) = true := sg_from g1 _ (Nat.le_refl _)
          have hng : isIn (gapsL K) (condNat K) = false := by rw [isIn_gaps g1, hel]; rfl
          have hin : isIn S (condNat K) = true := by
            rcases Nat.eq_zero_or_pos (condNat K) with e | e
            · rcases h0 with h0 | h0
              · omega
              · rw [e]; exact h0
            · cases hi : isIn S (condNat K)
              · exfalso
                rw [g2] at hng
                exact isIn_false.1 hng (mem_missL.2 ⟨_, rfl, e, hlt, hi⟩)
              · rfl
          rw [← hs] at hin
          have := ((mem_smallL g1 _).1 (isIn_iff.1 hin)).2
          omega
        · omega
      · rw [decide_eq_false hs, Bool.and_false]
  · have hC : C ≠ 0 := fun e => h0 (.inl e)
    have hi : isIn S 0 = false := by
      cases h : isIn S 0
      · rfl
      · exact absurd (.inr h) h0
    have hno := fromGp_ok (missA_no hC hi)
    have hel : fromElB S (C : Int) = false := by
      cases h : fromElB S (C : Int)
      · rfl
      · obtain ⟨k1, k2, k3⟩ := fromEl_iff.1 ⟨h, rfl⟩
        rw [condN_yes k1] at k2
        have := (mem_smallL k1 0).2 ⟨sumB_zero _, by omega⟩
        rw [k3] at this
        exact absurd this (isIn_false.1 hi)
    rw [hno, hel]
    exact ⟨rfl, fun h => by cases h⟩
end Go.Proofs.Ytljfiiohiolbnaa
