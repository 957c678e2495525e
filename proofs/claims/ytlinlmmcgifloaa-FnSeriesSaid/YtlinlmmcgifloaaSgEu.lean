/-
  CHAPTER 15 WITHOUT A FUNCTION OF EITHER SIDE: the table of alternating counts, generator by generator. (Own work.)
-/
import Derived.Test.YtlinlmmcgifloaaSgSr
import Derived.Test.YtlinlmmcgifloaaCh3L
import Derived.Test.YtlinlmmcgifloaaCh11M
namespace Go.Proofs.Ytlinlmmcgifloaa
open Go

theorem eulR_snoc (G : List Int) {g : Int} (hg : 0 ≤ g) : ∀ (R : List Int) (n : Int), (∀ x ∈ R, 0 ≤ x) → 0 ≤ n → eulR G (R ++ [g]) n = eulR G R n - eulR G R (n - g)
  | [], n, _, hn => by rw [List.nil_append, eulR_cons _ _ _ hn]
  | h :: R, n, hR, hn => by
    have hh : 0 ≤ h := hR h (by simp)
    have hR' : ∀ x ∈ R, 0 ≤ x := fun x hx => hR x (by simp [hx])
    rw [List.cons_append, eulR_cons _ _ _ hn, eulR_cons _ _ _ hn, eulR_snoc G hg R n hR' hn]
    by_cases h1 : 0 ≤ n - h
    · rw [eulR_snoc G hg R (n - h) hR' h1]
      by_cases h2 : 0 ≤ n - g
      · rw [eulR_cons _ _ _ h2, show n - g - h = n - h - g by omega]; omega
      · rw [eulR_neg G (h :: R) (n := n - g) (by omega), eulR_neg G R (n := n - g) (by omega), eulR_neg G R (n := n - h - g) (by omega)]; omega
    · rw [eulR_neg G (R ++ [g]) (by omega), eulR_neg G R (n := n - h) (by omega)]
      by_cases h2 : 0 ≤ n - g
      · rw [eulR_cons _ _ _ h2, eulR_neg G R (n := n - g - h) (by omega)]; omega
      · rw [eulR_neg G (h :: R) (n := n - g) (by omega), eulR_neg G R (n := n - g) (by omega)]
/-- How long the table is, when so many generators have been counted. -/
noncomputable def eulS (G : List Int) (k : Nat) : Int := (condNat G : Int) + (G.take k).sum
theorem eulS_succ {G : List Int} {k : Nat} (h : k < G.length) : eulS G (k + 1) = eulS G k + G[k] := by
  unfold eulS; rw [List.take_add_one, List.getElem?_eq_getElem h, List.sum_append]; simp; omega
theorem genSum_bnd : ∀ (L : List Int), (∀ x ∈ L, 1 ≤ x ∧ x ≤ 60) → (L.length : Int) ≤ L.sum ∧ L.sum ≤ 60 * (L.length : Int)
  | [], _ => by simp
  | x :: L, h => by
    have h1 := genSum_bnd L fun y hy => h y (by simp [hy])
    have h2 := h x (by simp)
    rw [List.sum_cons, List.length_cons]; omega
theorem eulS_bnd {G : List Int} (hs : isSgB G = true) (k : Nat) : 0 ≤ eulS G k ∧ eulS G k ≤ 920 := by
  have hS := isSgB_iff.1 hs
  have h1 := genSum_bnd (G.take k) fun x hx => hS.bounds x (List.mem_of_mem_take hx)
  have h2 := condNat_le G
  have h3 := hS.len
  have h4 : (G.take k).length ≤ G.length := by rw [List.length_take]; omega
  unfold eulS; omega
theorem eulS_gen {G : List Int} (hs : isSgB G = true) {g : Int} (hg : g ∈ G) : g ≤ eulS G G.length := by
  have hS := isSgB_iff.1 hs
  have : ∀ (L : List Int), (∀ x ∈ L, 1 ≤ x ∧ x ≤ 60) → g ∈ L → g ≤ L.sum := by
    intro L
    induction L with
    | nil => intro _ h; cases h
    | cons x L ih =>
      intro h hm
      have h1 := genSum_bnd L fun y hy => h y (by simp [hy])
      have h2 := h x (by simp)
      rw [List.sum_cons]
      rcases List.mem_cons.1 hm with e | e
      · subst e; omega
      · have := ih (fun y hy => h y (by simp [hy])) e; omega
  have := this G hS.bounds hg
  unfold eulS; rw [List.take_length]; omega
noncomputable def eulL (G : List Int) : List Int := if isSgB G then (List.range (eulS G G.length).toNat).map fun (n : Nat) => eulR G G (n : Int) else []
theorem eulL_no {G : List Int} (h : isSgB G = false) : eulL G = [] := by unfold eulL; rw [h]; rfl
theorem eulL_yes {G : List Int} {N : Nat} (h : isSgB G = true) (hN : eulS G G.length = (N : Int)) : (eulL G).length = N ∧ (eulL G).map (Value.int .i64) = (List.range N).map fun (n : Nat) => Value.int .i64 (eulR G (G.take G.length) (n : Int)) := by
  unfold eulL
  rw [if_pos h, hN, Int.toNat_natCast, List.take_length]
  exact ⟨by simp, by rw [List.map_map]; rfl⟩
theorem wsum_numL {G : List Int} (h : isSgB G = true) : ∀ k, k ≤ condNat G → wsum ((numL G).take (k + 1)) = bitI (hasN G (k : Int))
  | 0, _ => by
    rw [wsum_take (by rw [numL_yes h]; simp)]
    have e : (numL G)[0]'(by rw [numL_yes h]; simp) = bitI (hasN G 0) := by
      simp only [numL_yes h, List.getElem_map, List.getElem_range]
      rw [hasN_neg (n := ((0 : Nat) : Int) - 1) (by omega)]; simp [bitI]
    rw [e]
    have := bit_bnd (hasN G 0)
    rw [List.take_zero]
    show IntKind.i64.wrap (0 + bitI (hasN G 0)) = _
    rw [IntWalk.i64_in _ (by omega), Int.zero_add]; rfl
  | k + 1, hk => by
    have hl : k + 1 < (numL G).length := by rw [numL_yes h]; simp; omega
    rw [wsum_take hl, wsum_numL h k (by omega)]
    have e : (numL G)[k + 1] = bitI (hasN G ((k + 1 : Nat) : Int)) - bitI (hasN G (k : Int)) := by
      simp only [numL_yes h, List.getElem_map, List.getElem_range]
      rw [show ((k + 1 : Nat) : Int) - 1 = (k : Int) by omega]
    rw [e]
    have h1 := bit_bnd (hasN G ((k + 1 : Nat) : Int))
    rw [show bitI (hasN G (k : Int)) + (bitI (hasN G ((k + 1 : Nat) : Int)) - bitI (hasN G (k : Int))) = bitI (hasN G ((k + 1 : Nat) : Int)) by omega]
    exact IntWalk.i64_in _ (by omega)
theorem wsum_numL_far {G : List Int} (h : isSgB G = true) : ∀ d, wsum ((numL G).take (condNat G + d + 1)) = bitI (hasN G ((condNat G + d : Nat) : Int))
  | 0 => wsum_numL h _ (Nat.le_refl _)
  | d + 1 => by
    rw [show condNat G + (d + 1) + 1 = (condNat G + d + 1) + 1 by omega, wsum_far (by rw [numL_yes h]; simp), wsum_numL_far h d, hasN_in h, hasN_in h, sg_from h _ (by omega), sg_from h _ (by omega)]
theorem wsum_num {G : List Int} (h : isSgB G = true) (n : Nat) : wsum ((numL G).take (n + 1)) = bitI (hasN G (n : Int)) := by
  by_cases hn : n ≤ condNat G
  · exact wsum_numL h n hn
  · have := wsum_numL_far h (n - condNat G)
    rwa [show condNat G + (n - condNat G) = n by omega] at this
/-- The first table. -/
theorem eul_first {G : List Int} {N : Nat} (h : isSgB G = true) (hN : eulS G G.length = (N : Int)) : (seriesL (numL G) (N : Int)).length = N ∧ (seriesL (numL G) (N : Int)).map (Value.int .i64) = (List.range N).map fun (n : Nat) => Value.int .i64 (eulR G (G.take 0) (n : Int)) := by
  have hb := eulS_bnd h G.length
  have hi : inB (N : Int) 0 1000 = true := by unfold inB; rw [Bool.and_eq_true, decide_eq_true_eq, decide_eq_true_eq]; omega
  rw [seriesL_yes hi]
  refine ⟨by simp, ?_⟩
  rw [List.map_map]
  refine List.map_congr_left fun n _ => ?_
  show Value.int .i64 (wsum ((numL G).take (n + 1))) = Value.int .i64 (eulR G [] (n : Int))
  rw [wsum_num h n, eulR_nil G (by omega)]
/-- One generator's pass, from the end down: what stands before it and behind it. -/
noncomputable def eulT (G : List Int) (k j n : Nat) : Int := if j ≤ n then eulR G (G.take (k + 1)) (n : Int) else eulR G (G.take k) (n : Int)
theorem eulT_high (G : List Int) (k : Nat) {j n : Nat} (h : n < j) : eulT G k j n = eulR G (G.take k) (n : Int) := by unfold eulT; rw [if_neg (by omega)]
theorem eulT_next {G : List Int} (hs : isSgB G = true) {k n : Nat} (hk : k < G.length) : eulR G (G.take (k + 1)) (n : Int) = eulR G (G.take k) (n : Int) - eulR G (G.take k) ((n : Int) - G[k]) := by
  have hb := (isSgB_iff.1 hs).bounds
  rw [List.take_add_one, List.getElem?_eq_getElem hk]
  exact eulR_snoc G (by have := hb G[k] (List.getElem_mem hk); omega) _ _ (fun x hx => by have := hb x (List.mem_of_mem_take hx); omega) (by omega)
theorem eulT_low {G : List Int} (hs : isSgB G = true) {k : Nat} (hk : k < G.length) {j n : Nat} (h : (j : Int) ≤ G[k]) : eulT G k j n = eulR G (G.take (k + 1)) (n : Int) := by
  unfold eulT
  by_cases h1 : j ≤ n
  · rw [if_pos h1]
  · rw [if_neg h1, eulT_next hs hk, eulR_neg G (G.take k) (n := (n : Int) - G[k]) (by omega)]; omega
theorem eulT_else (G : List Int) (k : Nat) {j n : Nat} (h : n ≠ j) : eulT G k (j + 1) n = eulT G k j n := by
  unfold eulT
  by_cases h1 : j ≤ n
  · rw [if_pos h1, if_pos (by omega)]
  · rw [if_neg h1, if_neg (by omega)]
theorem eulT_bnd {G : List Int} (hs : isSgB G = true) (k : Nat) (n : Int) : -4096 ≤ eulR G (G.take k) n ∧ eulR G (G.take k) n ≤ 4096 := by
  have h1 := eulR_bnd G (G.take k) n
  have h2 : (G.take k).length ≤ 12 := by rw [List.length_take]; have := (isSgB_iff.1 hs).len; omega
  have h3 : ∀ m : Nat, m ≤ 12 → (2 : Int) ^ m ≤ 4096 := by decide
  have := h3 _ h2
  omega
theorem eulL_len (G : List Int) : (eulL G).length ≤ 920 := by
  unfold eulL
  split
  · next h => have := eulS_bnd h G.length; simp; omega
  · simp
end Go.Proofs.Ytlinlmmcgifloaa
