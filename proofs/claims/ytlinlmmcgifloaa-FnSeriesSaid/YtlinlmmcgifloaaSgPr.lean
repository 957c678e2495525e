/-
  PRODUCTS of polynomials: of several in a row; of the factors 1 - x^g; what they give for EulerAt and EulerList. (Own work, no program.)
-/
import Derived.Test.YtlinlmmcgifloaaSgEu
namespace Go.Proofs.Ytlinlmmcgifloaa
open Go

theorem wrap_congr {x y q : Int} (h : x = y + q * 18446744073709551616) : IntKind.i64.wrap x = IntKind.i64.wrap y := by
  rw [IntKind.wrap_i64, IntKind.wrap_i64 (n := y)]; omega
theorem wrap_off (x : Int) : ∃ q : Int, IntKind.i64.wrap x = x + q * 18446744073709551616 := by
  refine ⟨(IntKind.i64.wrap x - x) / 18446744073709551616, ?_⟩
  rw [IntKind.wrap_i64]; omega
theorem sumR_off (f g : Nat → Int) (h : ∀ i, ∃ q : Int, f i = g i + q * 18446744073709551616) : ∀ n, ∃ q : Int, ((List.range n).map f).sum = ((List.range n).map g).sum + q * 18446744073709551616
  | 0 => ⟨0, by simp⟩
  | n + 1 => by
    obtain ⟨q, hq⟩ := sumR_off f g h n
    obtain ⟨p, hp⟩ := h n
    refine ⟨q + p, ?_⟩
    rw [List.range_succ, List.map_append, List.map_append, List.sum_append, List.sum_append, hq]
    simp only [List.map_cons, List.map_nil, List.sum_cons, List.sum_nil]
    rw [hp, Int.add_mul]; omega
def mulW (A B : List Int) : List Int := (List.range (A.length + B.length - 1)).map fun j => IntKind.i64.wrap (convI A B j)
theorem mulW_len (A B : List Int) : (mulW A B).length = A.length + B.length - 1 := by unfold mulW; simp
def prodW (LL : List (List Int)) : List Int := LL.foldl mulW [1]
theorem prodW_snoc (LL : List (List Int)) (L : List Int) : prodW (LL ++ [L]) = mulW (prodW LL) L := by unfold prodW; rw [List.foldl_append]; rfl
theorem prodW_take {LL : List (List Int)} {k : Nat} (h : k < LL.length) : prodW (LL.take (k + 1)) = mulW (prodW (LL.take k)) LL[k] := by
  rw [List.take_add_one, List.getElem?_eq_getElem h]; exact prodW_snoc _ _
theorem prodW_len {LL : List (List Int)} (h : ∀ L ∈ LL, 1 ≤ L.length) : ∀ k, k ≤ LL.length → (prodW (LL.take k)).length = 1 + ((LL.take k).map fun L => L.length - 1).sum
  | 0, _ => by simp [prodW]
  | k + 1, hk => by
    rw [prodW_take hk, mulW_len, prodW_len h k (by omega), List.take_add_one, List.getElem?_eq_getElem hk, List.map_append, List.sum_append]
    have := h LL[k] (List.getElem_mem hk)
    simp only [Option.toList_some, List.map_cons, List.map_nil, List.sum_cons, List.sum_nil]; omega
/-! ### one and two lists -/
theorem sumR_one (f : Nat → Int) (j : Nat) : ∀ n, ((List.range n).map fun i => if i = j then f i else 0).sum = if j < n then f j else 0
  | 0 => by simp
  | n + 1 => by
    rw [List.range_succ, List.map_append, List.sum_append, sumR_one f j n]
    simp only [List.map_cons, List.map_nil, List.sum_cons, List.sum_nil]
    by_cases h : n = j
    · subst h; rw [if_neg (by omega), if_pos rfl, if_pos (by omega)]; omega
    · rw [if_neg h]
      by_cases h1 : j < n
      · rw [if_pos h1, if_pos (by omega)]; omega
      · rw [if_neg h1, if_neg (by omega)]; rfl
theorem conv_unit (B : List Int) (j : Nat) : convI [1] B j = B.getD j 0 := by
  unfold convI
  simp
theorem getD_map_wrap (A : List Int) (i : Nat) : (A.map fun x => IntKind.i64.wrap x).getD i 0 = IntKind.i64.wrap (A.getD i 0) := by
  rw [List.getD_eq_getElem?_getD, List.getD_eq_getElem?_getD, List.getElem?_map]
  cases A[i]? with
  | none => exact (IntWalk.i64_in _ (by simp)).symm
  | some x => rfl
theorem mulW_unit (A : List Int) : mulW [1] A = A.map fun x => IntKind.i64.wrap x := by
  apply List.ext_getElem
  · rw [mulW_len]; simp
  · intro i h1 h2
    rw [mulW_len] at h1
    simp only [mulW, List.getElem_map, List.getElem_range, conv_unit]
    rw [List.getD_eq_getElem?_getD, List.getElem?_eq_getElem (by simp at h1; omega)]; rfl
theorem conv_wrap (A B : List Int) (j : Nat) : IntKind.i64.wrap (convI (A.map fun x => IntKind.i64.wrap x) B j) = IntKind.i64.wrap (convI A B j) := by
  unfold convI
  rw [List.length_map]
  obtain ⟨q, hq⟩ := sumR_off (fun i => if i ≤ j then (A.map fun x => IntKind.i64.wrap x).getD i 0 * B.getD (j - i) 0 else 0) (fun i => if i ≤ j then A.getD i 0 * B.getD (j - i) 0 else 0) (fun i => by
    by_cases h : i ≤ j
    · simp only [if_pos h]
      rw [getD_map_wrap]
      obtain ⟨q, hq⟩ := wrap_off (A.getD i 0)
      refine ⟨q * B.getD (j - i) 0, ?_⟩
      rw [hq, Int.add_mul, Int.mul_assoc, Int.mul_assoc, Int.mul_comm 18446744073709551616]
    · simp only [if_neg h]; exact ⟨0, by simp⟩) A.length
  exact wrap_congr hq
theorem prodW_two {A B : List Int} (hA : inB A.length 1 500 = true) (hB : inB B.length 1 500 = true) : prodW [A, B] = mulL A B := by
  show mulW (mulW [1] A) B = _
  rw [mulW_unit]
  unfold mulL mulW
  rw [hA, hB, if_pos (by rfl), List.length_map]
  exact List.map_congr_left fun j _ => conv_wrap A B j
/-! ### the factors 1 - x^g -/
def facF (g : Int) : List Int := (List.range (g.toNat + 1)).map fun j => if j = 0 then 1 else if j = g.toNat then -1 else 0
theorem facF_len (g : Int) : (facF g).length = g.toNat + 1 := by unfold facF; simp
theorem facF_at {g : Int} (hg : 1 ≤ g) (m : Nat) : (facF g).getD m 0 = (if m = 0 then 1 else 0) - (if m = g.toNat then 1 else 0) := by
  unfold facF
  rw [List.getD_eq_getElem?_getD, List.getElem?_map]
  by_cases h : m < g.toNat + 1
  · rw [List.getElem?_range h]
    show (if m = 0 then (1 : Int) else if m = g.toNat then -1 else 0) = _
    by_cases h0 : m = 0
    · rw [if_pos h0, if_pos h0, if_neg (by omega)]; rfl
    · rw [if_neg h0, if_neg h0]
      by_cases h1 : m = g.toNat
      · rw [if_pos h1, if_pos h1]; rfl
      · rw [if_neg h1, if_neg h1]; rfl
  · rw [List.getElem?_eq_none (by simp; omega), if_neg (by omega), if_neg (by omega)]; rfl
theorem sumR_sub (f g : Nat → Int) : ∀ n, ((List.range n).map fun i => f i - g i).sum = ((List.range n).map f).sum - ((List.range n).map g).sum
  | 0 => by simp
  | n + 1 => by
    rw [List.range_succ, List.map_append, List.sum_append, sumR_sub f g n, List.map_append, List.map_append, List.sum_append, List.sum_append]
    simp only [List.map_cons, List.map_nil, List.sum_cons, List.sum_nil]; omega
theorem sumR_congr {f g : Nat → Int} {n : Nat} (h : ∀ i, i < n → f i = g i) : ((List.range n).map f).sum = ((List.range n).map g).sum := by
  rw [List.map_congr_left fun i hi => h i (by simpa using hi)]
theorem getD_far {A : List Int} {j : Nat} (h : A.length ≤ j) : A.getD j 0 = 0 := by rw [List.getD_eq_getElem?_getD, List.getElem?_eq_none h]; rfl
theorem conv_fac (P : List Int) {g : Int} (hg : 1 ≤ g) (j : Nat) : convI P (facF g) j = P.getD j 0 - if g.toNat ≤ j then P.getD (j - g.toNat) 0 else 0 := by
  unfold convI
  rw [sumR_congr (g := fun i => (if i = j then P.getD i 0 else 0) - (if i = j - g.toNat then (if g.toNat ≤ j then P.getD i 0 else 0) else 0)) (fun i _ => by
    by_cases h : i ≤ j
    · rw [if_pos h, facF_at hg]
      by_cases h0 : i = j
      · rw [if_pos (by omega), if_pos h0, if_neg (by omega)]
        by_cases h1 : i = j - g.toNat
        · rw [if_pos h1, if_neg (by omega)]; omega
        · rw [if_neg h1]; omega
      · rw [if_neg (by omega), if_neg h0]
        by_cases h1 : i = j - g.toNat
        · rw [if_pos h1]
          by_cases h2 : g.toNat ≤ j
          · rw [if_pos (by omega), if_pos h2]; omega
          · rw [if_neg (show ¬ j - i = g.toNat by omega), if_neg h2]; simp
        · rw [if_neg h1, if_neg (by omega)]; omega
    · rw [if_neg h, if_neg (by omega)]
      by_cases h1 : i = j - g.toNat
      · omega
      · rw [if_neg h1]; rfl), sumR_sub, sumR_one, sumR_one]
  by_cases h : j < P.length
  · rw [if_pos h, if_pos (show j - g.toNat < P.length by omega)]
  · rw [if_neg h, getD_far (A := P) (j := j) (by omega)]
    by_cases h1 : j - g.toNat < P.length
    · rw [if_pos h1]
    · rw [if_neg h1]
      by_cases h2 : g.toNat ≤ j
      · rw [if_pos h2, getD_far (by omega)]
      · rw [if_neg h2]
/-- The product of the first factors, as a list. -/
def facP (G : List Int) (k : Nat) : List Int := prodW ((G.take k).map facF)
theorem facP_succ {G : List Int} {k : Nat} (h : k < G.length) : facP G (k + 1) = mulW (facP G k) (facF G[k]) := by
  unfold facP
  rw [List.take_add_one, List.getElem?_eq_getElem h, List.map_append]; exact prodW_snoc _ _
theorem facP_len {G : List Int} (hG : ∀ g ∈ G, 1 ≤ g ∧ g ≤ 60) : ∀ k, k ≤ G.length → ((facP G k).length : Int) = 1 + (G.take k).sum
  | 0, _ => by simp [facP, prodW]
  | k + 1, hk => by
    have h := hG G[k] (List.getElem_mem hk)
    have hi := facP_len hG k (by omega)
    rw [facP_succ hk, mulW_len, facF_len, List.take_add_one, List.getElem?_eq_getElem hk, List.sum_append]
    simp only [Option.toList_some, List.sum_cons, List.sum_nil]
    omega
theorem getD_mulW {A B : List Int} (j : Nat) (hj : A.length + B.length - 1 ≤ j → convI A B j = 0) : (mulW A B).getD j 0 = IntKind.i64.wrap (convI A B j) := by
  by_cases h : j < A.length + B.length - 1
  · unfold mulW
    rw [List.getD_eq_getElem?_getD, List.getElem?_map, List.getElem?_range h]; rfl
  · rw [hj (by omega), getD_far (by rw [mulW_len]; omega)]
    exact (IntWalk.i64_in _ (by simp)).symm
theorem facP_step {G : List Int} (hG : ∀ g ∈ G, 1 ≤ g ∧ g ≤ 60) (hn : G.length ≤ 12) : ∀ k, k ≤ G.length →
    (∀ j, -(2 ^ k : Int) ≤ (facP G k).getD j 0 ∧ (facP G k).getD j 0 ≤ (2 ^ k : Int)) ∧ (∀ (h : k < G.length) (j : Nat), (facP G (k + 1)).getD j 0 = (facP G k).getD j 0 - if G[k].toNat ≤ j then (facP G k).getD (j - G[k].toNat) 0 else 0) := by
  have step : ∀ k (h : k < G.length), (∀ j, -(2 ^ k : Int) ≤ (facP G k).getD j 0 ∧ (facP G k).getD j 0 ≤ (2 ^ k : Int)) → ∀ (j : Nat), (facP G (k + 1)).getD j 0 = (facP G k).getD j 0 - if G[k].toNat ≤ j then (facP G k).getD (j - G[k].toNat) 0 else 0 := by
    intro k h hb j
    have hg := hG G[k] (List.getElem_mem h)
    have hp : (2 ^ k : Int) ≤ 4096 := by
      have : (2 : Nat) ^ k ≤ 2 ^ 12 := Nat.pow_le_pow_right (by omega) (by omega)
      have h2 : ((2 ^ k : Nat) : Int) ≤ ((2 ^ 12 : Nat) : Int) := Int.ofNat_le.2 this
      simpa using h2
    rw [facP_succ h, getD_mulW j (fun hj => by
      rw [facF_len] at hj
      rw [conv_fac _ hg.1, getD_far (by omega), if_pos (by omega), getD_far (by omega)]; rfl), conv_fac _ hg.1]
    have h1 := hb j
    have h2 := hb (j - G[k].toNat)
    split <;> exact IntWalk.i64_in _ (by omega)
  intro k
  induction k with
  | zero =>
    intro _
    have hb : ∀ j, -(2 ^ 0 : Int) ≤ (facP G 0).getD j 0 ∧ (facP G 0).getD j 0 ≤ (2 ^ 0 : Int) := by
      intro j
      show _ ≤ ([1] : List Int).getD j 0 ∧ ([1] : List Int).getD j 0 ≤ _
      cases j with
      | zero => decide
      | succ j => rw [getD_far (by simp)]; decide
    exact ⟨hb, fun h => step 0 h hb⟩
  | succ k ih =>
    intro hk
    obtain ⟨hb, hs⟩ := ih (by omega)
    have hb2 : ∀ j, -(2 ^ (k + 1) : Int) ≤ (facP G (k + 1)).getD j 0 ∧ (facP G (k + 1)).getD j 0 ≤ (2 ^ (k + 1) : Int) := by
      intro j
      have h1 := hb j
      have h2 := hb (j - (G[k]'(by omega)).toNat)
      rw [hs (by omega) j, Int.pow_succ]
      split <;> omega
    exact ⟨hb2, fun h => step (k + 1) h hb2⟩
theorem facP_bnd {G : List Int} (hs : isSgB G = true) (j : Nat) : -4096 ≤ (facP G G.length).getD j 0 ∧ (facP G G.length).getD j 0 ≤ 4096 := by
  have hS := isSgB_iff.1 hs
  have h := (facP_step hS.bounds hS.len G.length (Nat.le_refl _)).1 j
  have hp : (2 ^ G.length : Int) ≤ 4096 := by
    have : (2 : Nat) ^ G.length ≤ 2 ^ 12 := Nat.pow_le_pow_right (by omega) hS.len
    have h2 : ((2 ^ G.length : Nat) : Int) ≤ ((2 ^ 12 : Nat) : Int) := Int.ofNat_le.2 this
    simpa using h2
  omega
/-! ### the sum over the elements -/
noncomputable def chiZ (G : List Int) (n : Int) : Int := bitI (hasN G n)
/-- The coefficients up to the k-th one, each times whether what is left of n is an element. -/
noncomputable def evK (G P : List Int) (n : Int) (k : Nat) : Int := ((List.range k).map fun (j : Nat) => P.getD j 0 * chiZ G (n - (j : Int))).sum
theorem evK_succ (G P : List Int) (n : Int) (k : Nat) : evK G P n (k + 1) = evK G P n k + P.getD k 0 * chiZ G (n - (k : Int)) := by
  unfold evK; rw [List.range_succ, List.map_append, List.sum_append]; simp
theorem evK_far (G : List Int) {P : List Int} (n : Int) : ∀ d, evK G P n (P.length + d) = evK G P n P.length
  | 0 => rfl
  | d + 1 => by rw [show P.length + (d + 1) = (P.length + d) + 1 by omega, evK_succ, evK_far G n d, getD_far (by omega)]; simp
theorem evK_ge (G : List Int) {P : List Int} (n : Int) {k : Nat} (h : P.length ≤ k) : evK G P n k = evK G P n P.length := by
  have := evK_far G (P := P) n (k - P.length)
  rwa [show P.length + (k - P.length) = k by omega] at this
theorem evK_neg (G P : List Int) {n : Int} (h : n < 0) (k : Nat) : evK G P n k = 0 := by
  unfold evK
  rw [sumR_congr (g := fun _ => 0) (fun i _ => by unfold chiZ; rw [hasN_neg (by omega)]; simp [bitI])]
  induction k with
  | zero => rfl
  | succ k ih => rw [List.range_succ, List.map_append, List.sum_append, ih]; simp
theorem sumR_shift (f : Nat → Int) (g : Nat) : ∀ m, ((List.range (m + g)).map fun j => if g ≤ j then f (j - g) else 0).sum = ((List.range m).map f).sum
  | 0 => by
    rw [Nat.zero_add, sumR_congr (g := fun _ => 0) (fun i hi => by rw [if_neg (by omega)])]
    have : ∀ g, ((List.range g).map fun _ => (0 : Int)).sum = 0 := fun g => by
      induction g with
      | zero => rfl
      | succ k ih => rw [List.range_succ, List.map_append, List.sum_append, ih]; simp
    rw [this]; rfl
  | m + 1 => by
    rw [show m + 1 + g = (m + g) + 1 by omega, List.range_succ, List.map_append, List.sum_append, sumR_shift f g m, List.range_succ, List.map_append, List.sum_append]
    simp only [List.map_cons, List.map_nil, List.sum_cons, List.sum_nil]
    rw [if_pos (by omega), Nat.add_sub_cancel]
theorem evK_fac (G P Q : List Int) {g : Int} (hg : 1 ≤ g) (hl : Q.length = P.length + g.toNat) (h : ∀ j, Q.getD j 0 = P.getD j 0 - if g.toNat ≤ j then P.getD (j - g.toNat) 0 else 0) (n : Int) :
    evK G Q n Q.length = evK G P n P.length - evK G P (n - g) P.length := by
  rw [← evK_far G (P := P) n g.toNat, hl]
  unfold evK
  rw [sumR_congr (g := fun (j : Nat) => P.getD j 0 * chiZ G (n - (j : Int)) - if g.toNat ≤ j then P.getD (j - g.toNat) 0 * chiZ G (n - g - ((j - g.toNat : Nat) : Int)) else 0) (fun i _ => by
    rw [h i]
    by_cases hi : g.toNat ≤ i
    · rw [if_pos hi, if_pos hi, Int.sub_mul, show n - g - ((i - g.toNat : Nat) : Int) = n - (i : Int) by omega]
    · rw [if_neg hi, if_neg hi, Int.sub_zero, Int.sub_zero]), sumR_sub]
  congr 1
  exact sumR_shift (fun j => P.getD j 0 * chiZ G (n - g - (j : Int))) g.toNat P.length
theorem ev_eul {G : List Int} (hs : isSgB G = true) : ∀ k, k ≤ G.length → ∀ n : Int, evK G (facP G k) n (facP G k).length = eulR G (G.take k) n
  | 0, _, n => by
    by_cases hn : n < 0
    · rw [evK_neg G _ hn, eulR_neg _ _ hn]
    · rw [List.take_zero, eulR_nil G (by omega)]
      show evK G [1] n 1 = _
      unfold evK chiZ
      simp
  | k + 1, hk, n => by
    have hS := isSgB_iff.1 hs
    have hg := hS.bounds G[k] (List.getElem_mem hk)
    by_cases hn : n < 0
    · rw [evK_neg G _ hn, eulR_neg _ _ hn]
    · rw [evK_fac G (facP G k) (facP G (k + 1)) hg.1 (by rw [facP_succ hk, mulW_len, facF_len]; omega) ((facP_step hS.bounds hS.len k (by omega)).2 hk) n, ev_eul hs k (by omega) n, ev_eul hs k (by omega) (n - G[k])]
      obtain ⟨N, rfl⟩ := Int.eq_ofNat_of_zero_le (by omega : 0 ≤ n)
      exact (eulT_next hs hk).symm
theorem ev_all {G : List Int} (hs : isSgB G = true) (n : Int) : evK G (facP G G.length) n (facP G G.length).length = eulR G G n := by
  have h := ev_eul hs G.length (Nat.le_refl _) n
  rw [List.take_length] at h
  exact h
theorem evK_bnd {G : List Int} (hs : isSgB G = true) (n : Int) : ∀ k : Nat, -(4096 * (k : Int)) ≤ evK G (facP G G.length) n k ∧ evK G (facP G G.length) n k ≤ 4096 * (k : Int)
  | 0 => by simp [evK]
  | k + 1 => by
    have h1 := evK_bnd hs n k
    have h2 := facP_bnd hs k
    rw [evK_succ]
    unfold chiZ bitI
    split <;> omega
/-! ### the numerator -/
theorem numL_at {G : List Int} (hs : isSgB G = true) (m : Nat) : (numL G).getD m 0 = chiZ G (m : Int) - chiZ G ((m : Int) - 1) := by
  by_cases h : m < condNat G + 1
  · rw [numL_yes hs, List.getD_eq_getElem?_getD, List.getElem?_map, List.getElem?_range h]; rfl
  · rw [getD_far (by rw [numL_yes hs]; simp; omega)]
    obtain ⟨d, rfl⟩ : ∃ d, m = d + 1 := ⟨m - 1, by omega⟩
    unfold chiZ
    rw [show ((d + 1 : Nat) : Int) - 1 = (d : Int) by omega, hasN_in hs, hasN_in hs, sg_from hs _ (by omega), sg_from hs _ (by omega)]; rfl
theorem conv_num {G : List Int} (hs : isSgB G = true) (P : List Int) (j : Nat) : convI P (numL G) j = evK G P (j : Int) P.length - evK G P ((j : Int) - 1) P.length := by
  unfold convI evK
  rw [← sumR_sub]
  refine sumR_congr fun i _ => ?_
  by_cases h : i ≤ j
  · rw [if_pos h, numL_at hs, show ((j - i : Nat) : Int) = (j : Int) - (i : Int) by omega, Int.mul_sub, show (j : Int) - (i : Int) - 1 = (j : Int) - 1 - (i : Int) by omega]
  · rw [if_neg h]
    unfold chiZ
    rw [hasN_neg (n := (j : Int) - (i : Int)) (by omega), hasN_neg (n := (j : Int) - 1 - (i : Int)) (by omega)]; simp [bitI]
noncomputable def eulP (G : List Int) : List Int := mulW (facP G G.length) (numL G)
theorem eulP_len {G : List Int} (hs : isSgB G = true) : ((eulP G).length : Int) = eulS G G.length + 1 := by
  have hS := isSgB_iff.1 hs
  have h1 := facP_len hS.bounds G.length (Nat.le_refl _)
  have h2 : (numL G).length = condNat G + 1 := by rw [numL_yes hs]; simp
  unfold eulP eulS
  rw [mulW_len, h2]; omega
theorem wsum_eul {G : List Int} (hs : isSgB G = true) : ∀ n : Nat, n < (eulP G).length → wsum ((eulP G).take (n + 1)) = eulR G G (n : Int)
  | n, hn => by
    have hb := fun m : Int => eulT_bnd hs G.length m
    simp only [List.take_length] at hb
    have e : (eulP G)[n] = IntKind.i64.wrap (eulR G G (n : Int) - eulR G G ((n : Int) - 1)) := by
      have : convI (facP G G.length) (numL G) n = eulR G G (n : Int) - eulR G G ((n : Int) - 1) := by rw [conv_num hs, ev_all hs, ev_all hs]
      rw [← this]
      simp only [eulP, mulW, List.getElem_map, List.getElem_range]
    have h1 := hb (n : Int)
    have h2 := hb ((n : Int) - 1)
    rw [wsum_take hn, e, IntWalk.i64_in (_ - _) (by omega)]
    cases n with
    | zero =>
      rw [List.take_zero, eulR_neg G G (n := ((0 : Nat) : Int) - 1) (by omega)]
      show IntKind.i64.wrap (0 + _) = _
      rw [Int.zero_add, Int.sub_zero]
      exact IntWalk.i64_in _ (by omega)
    | succ n =>
      rw [wsum_eul hs n (by omega), show ((n + 1 : Nat) : Int) - 1 = (n : Int) by omega, show eulR G G (n : Int) + (eulR G G ((n + 1 : Nat) : Int) - eulR G G (n : Int)) = eulR G G ((n + 1 : Nat) : Int) by omega]
      exact IntWalk.i64_in _ (by omega)
theorem eul_series {G : List Int} (hs : isSgB G = true) : seriesL (eulP G) (eulS G G.length) = eulL G := by
  have hb := eulS_bnd hs G.length
  obtain ⟨N, hN⟩ := Int.eq_ofNat_of_zero_le hb.1
  have hl := eulP_len hs
  have hi : inB (N : Int) 0 1000 = true := by unfold inB; rw [Bool.and_eq_true, decide_eq_true_eq, decide_eq_true_eq]; omega
  rw [hN, seriesL_yes hi]
  unfold eulL
  rw [if_pos hs, hN, Int.toNat_natCast]
  exact List.map_congr_left fun n hn => wsum_eul hs n (by have : n < N := by simpa using hn
                                                          omega)
end Go.Proofs.Ytlinlmmcgifloaa
