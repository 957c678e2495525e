/-
  WHAT THE LAW FnFactorizations SAYS OF THE MODELS: no program. How many factorizations; whether there is one; no two alike; each of the value. (Own work.)
-/
import Derived.Test.YthalbmlgkkgheaaDoorSgU
namespace Go.Proofs.YthalbmlgkkgheaaDoor
open Go

def cntF (G : List Int) (m : Nat) : Nat := (findF G m).length
theorem cnt_nil (m : Nat) : cntF [] m = if m = 0 then 1 else 0 := by
  unfold cntF findF leafs
  by_cases h : m = 0 <;> simp [okF, h]
def sumD (f : Nat → Nat) : Nat → Nat
  | 0 => f 0
  | q + 1 => f (q + 1) + sumD f q
theorem sumD_shift (f : Nat → Nat) : ∀ q, sumD f (q + 1) = f 0 + sumD (fun k => f (k + 1)) q
  | 0 => by simp [sumD]; omega
  | q + 1 => by rw [sumD, sumD_shift f q, sumD]; omega
theorem sumD_down (f : Nat → Nat) : ∀ q, ((downL q).map f).sum = sumD f q
  | 0 => by simp [downL_zero, sumD]
  | q + 1 => by rw [downL_succ, List.map_cons, List.sum_cons, sumD_down f q, sumD]
theorem sumD_congr {f g : Nat → Nat} : ∀ q, (∀ k, k ≤ q → f k = g k) → sumD f q = sumD g q
  | 0, h => h 0 (Nat.le_refl _)
  | q + 1, h => by rw [sumD, sumD, h (q + 1) (Nat.le_refl _), sumD_congr q fun k hk => h k (by omega)]
theorem cnt_two (g g2 : Int) (r : List Int) (m : Nat) : cntF (g :: g2 :: r) m = sumD (fun k => cntF (g2 :: r) (m - k * g.toNat)) (m / g.toNat) := by
  unfold cntF
  rw [findF_cons, List.length_flatMap, ← sumD_down]
  simp only [List.length_map]
theorem cnt_cons {g : Int} (hg : 1 ≤ g) (r : List Int) (m : Nat) : cntF (g :: r) m = cntF r m + if g.toNat ≤ m then cntF (g :: r) (m - g.toNat) else 0 := by
  have hn : 1 ≤ g.toNat := by omega
  generalize hq : g.toNat = n at *
  cases r with
  | nil =>
    have h1 : ∀ m, cntF [g] m = if m % n = 0 then 1 else 0 := fun m => by
      unfold cntF; rw [findF_one, hq]; split <;> rfl
    rw [cnt_nil, h1]
    by_cases h : n ≤ m
    · rw [if_pos h, h1, if_neg (by omega : ¬ m = 0), Nat.mod_eq_sub_mod h]; omega
    · rw [if_neg h, Nat.mod_eq_of_lt (by omega), Nat.add_zero]
  | cons g2 r =>
    rw [cnt_two, hq]
    by_cases h : n ≤ m
    · have hd : m / n = (m - n) / n + 1 := by rw [Nat.div_eq m n, if_pos ⟨by omega, h⟩]
      rw [if_pos h, cnt_two, hq, hd, sumD_shift]
      rw [Nat.zero_mul, Nat.sub_zero]
      congr 1
      exact sumD_congr _ fun k _ => by congr 1; rw [Nat.add_mul, Nat.one_mul]; omega
    · rw [if_neg h, Nat.div_eq_of_lt (by omega), sumD, Nat.zero_mul, Nat.sub_zero, Nat.add_zero]
theorem cnt_snoc {g : Int} (hg : 1 ≤ g) : ∀ (G : List Int), (∀ x ∈ G, 1 ≤ x) → ∀ m, cntF (G ++ [g]) m = cntF G m + if g.toNat ≤ m then cntF (G ++ [g]) (m - g.toNat) else 0
  | [], _, m => cnt_cons hg [] m
  | a :: G, hG, m => by
    have ha := hG a (by simp)
    have ihG := cnt_snoc hg G fun x hx => hG x (by simp [hx])
    induction m using Nat.strongRecOn with
    | ind m ihm =>
      rw [List.cons_append, cnt_cons ha (G ++ [g]) m, cnt_cons ha G m, ihG m]
      have hga : 1 ≤ g.toNat := by omega
      have haa : 1 ≤ a.toNat := by omega
      generalize hgn : g.toNat = n at *
      generalize hab : a.toNat = b at *
      by_cases h1 : b ≤ m
      · have e1 := ihm (m - b) (by omega)
        rw [List.cons_append] at e1
        rw [if_pos h1, if_pos h1, e1]
        by_cases h2 : n ≤ m
        · rw [if_pos h2, if_pos h2, cnt_cons ha (G ++ [g]) (m - n)]
          rw [hab]
          by_cases h3 : n ≤ m - b
          · rw [if_pos h3, if_pos (by omega : b ≤ m - n), show m - b - n = m - n - b by omega]; omega
          · rw [if_neg h3, if_neg (by omega : ¬ b ≤ m - n)]; omega
        · rw [if_neg h2, if_neg h2, if_neg (by omega : ¬ n ≤ m - b)]; omega
      · rw [if_neg h1, if_neg h1]
        by_cases h2 : n ≤ m
        · rw [if_pos h2, if_pos h2, cnt_cons ha (G ++ [g]) (m - n)]
          rw [hab, if_neg (by omega : ¬ b ≤ m - n)]; omega
        · rw [if_neg h2, if_neg h2]
theorem cnt_mono {G : List Int} (hG : ∀ x ∈ G, 1 ≤ x) (m : Nat) : ∀ k, cntF (G.take k) m ≤ cntF G m := by
  suffices h : ∀ j k, k + j = G.length → cntF (G.take k) m ≤ cntF G m by
    intro k
    by_cases hk : k ≤ G.length
    · exact h (G.length - k) k (by omega)
    · rw [List.take_of_length_le (by omega)]; exact Nat.le_refl _
  intro j
  induction j with
  | zero => intro k hk; rw [List.take_of_length_le (by omega)]; exact Nat.le_refl _
  | succ j ih =>
    intro k hk
    refine Nat.le_trans ?_ (ih (k + 1) (by omega))
    rw [List.take_add_one, List.getElem?_eq_getElem (by omega), Option.toList_some, cnt_snoc (hG _ (List.getElem_mem (by omega))) _ fun x hx => hG x (List.mem_of_mem_take hx)]
    omega
theorem ways_cnt {G : List Int} (hs : isSgB G = true) : ∀ k, k ≤ G.length → ∀ i, i ≤ 100 → waysT (G.take k) i = (cntF (G.take k) i : Int)
  | 0, _, i, _ => by
    rw [List.take_zero, cnt_nil]
    unfold waysT
    simp only [List.foldl_nil]
    split <;> rfl
  | k + 1, hk, i, hi => by
    have hG : ∀ x ∈ G, 1 ≤ x := fun x hx => ((isSgB_iff.1 hs).bounds x hx).1
    have ih := ways_cnt hs k (by omega)
    have hgk := hG G[k] (List.getElem_mem (by omega))
    have htk : G.take (k + 1) = G.take k ++ [G[k]] := by rw [List.take_add_one, List.getElem?_eq_getElem (by omega)]; rfl
    rw [waysT_take (by omega)]
    induction i using Nat.strongRecOn with
    | ind i ihi =>
      have hc := cnt_snoc hgk (G.take k) (fun x hx => hG x (List.mem_of_mem_take hx)) i
      rw [← htk] at hc
      by_cases h : i < G[k].toNat
      · rw [stepW_lt _ h, ih i hi, hc, if_neg (by omega), Nat.add_zero]
      · rw [stepW_ge _ (by omega) (by omega), ih i hi, ihi (i - G[k].toNat) (by omega) (by omega)]
        rw [if_pos (by omega)] at hc
        have hb : cntF (G.take (k + 1)) i ≤ 31381059609 := Nat.le_trans (cnt_mono hG i (k + 1)) (by have := findF_bound hs 0 i hi; rw [List.drop_zero] at this; exact this)
        rw [← Int.natCast_add, ← hc]
        exact IntWalk.i64_in _ (by omega)
theorem count_law {G : List Int} {n : Int} (hs : isSgB G = true) (h0 : 0 ≤ n) (h1 : n ≤ 100) : countN G n = ((factL G n).length : Int) := by
  have hx : inB n 0 1000 = true := by unfold inB; rw [decide_eq_true h0, decide_eq_true (by omega : n ≤ 1000)]; rfl
  have hy : inB n 0 100 = true := by unfold inB; rw [decide_eq_true h0, decide_eq_true h1]; rfl
  have := ways_cnt hs G.length (Nat.le_refl _) n.toNat (by omega)
  rw [List.take_length] at this
  unfold countN factL
  rw [hs, hx, hy]
  exact this
theorem isSum_more {G : List Int} {a : Int} {m : Nat} (h : IsSum G m) : IsSum (a :: G) m := by
  induction h with
  | zero => exact .zero
  | add hg _ ih => exact .add (by simp [hg]) ih
theorem cnt_add : ∀ {G : List Int}, (∀ x ∈ G, 1 ≤ x) → ∀ {g : Nat}, (g : Int) ∈ G → ∀ m, 0 < cntF G m → 0 < cntF G (m + g)
  | [], _, g, hg, _, _ => by simp at hg
  | a :: G, hG, g, hg, m, hm => by
    have ha := hG a (by simp)
    by_cases e : (g : Int) = a
    · rw [cnt_cons ha, show a.toNat = g by omega, if_pos (by omega), Nat.add_sub_cancel]; omega
    · have hgG : (g : Int) ∈ G := by rcases List.mem_cons.1 hg with h | h; exact absurd h e; exact h
      induction m using Nat.strongRecOn with
      | ind m ih =>
        rw [cnt_cons ha] at hm
        rw [cnt_cons ha]
        by_cases h1 : 0 < cntF G m
        · have := cnt_add (fun x hx => hG x (by simp [hx])) hgG m h1; omega
        · by_cases h2 : a.toNat ≤ m
          · rw [if_pos h2] at hm
            have := ih (m - a.toNat) (by omega) (by omega)
            rw [if_pos (by omega), show m + g - a.toNat = m - a.toNat + g by omega]; omega
          · rw [if_neg h2] at hm; omega
theorem cnt_zero : ∀ {G : List Int}, (∀ x ∈ G, 1 ≤ x) → 0 < cntF G 0
  | [], _ => by rw [cnt_nil]; simp
  | a :: G, hG => by rw [cnt_cons (hG a (by simp))]; have := cnt_zero (G := G) fun x hx => hG x (by simp [hx]); omega
theorem cnt_sum : ∀ {G : List Int}, (∀ x ∈ G, 1 ≤ x) → ∀ m, 0 < cntF G m ↔ IsSum G m := by
  intro G hG m
  constructor
  · intro h
    induction G generalizing m with
    | nil =>
      rw [cnt_nil] at h
      by_cases e : m = 0
      · subst e; exact .zero
      · rw [if_neg e] at h; omega
    | cons a G ih =>
      have ha := hG a (by simp)
      induction m using Nat.strongRecOn with
      | ind m ihm =>
        rw [cnt_cons ha] at h
        by_cases h1 : 0 < cntF G m
        · exact isSum_more (ih (fun x hx => hG x (by simp [hx])) m h1)
        · by_cases h2 : a.toNat ≤ m
          · rw [if_pos h2] at h
            have := ihm (m - a.toNat) (by omega) (by omega)
            have h3 := IsSum.add (G := a :: G) (g := a.toNat) (by rw [Int.toNat_of_nonneg (by omega)]; simp) this
            rw [Nat.sub_add_cancel h2] at h3
            exact h3
          · rw [if_neg h2] at h; omega
  · intro h
    induction h with
    | zero => exact cnt_zero hG
    | add hg _ ih => exact cnt_add hG hg _ ih
theorem some_law {G : List Int} {n : Int} (hs : isSgB G = true) (h0 : 0 ≤ n) (h1 : n ≤ 100) : decide (0 < (factL G n).length) = hasN G n := by
  have hy : inB n 0 100 = true := by unfold inB; rw [decide_eq_true h0, decide_eq_true h1]; rfl
  have e : (factL G n).length = cntF G n.toNat := by unfold factL cntF; rw [hs, hy]; rfl
  unfold hasN
  rw [e, hs, decide_eq_true h0]
  have := cnt_sum (fun x hx => ((isSgB_iff.1 hs).bounds x hx).1) n.toNat
  rw [← sumB_iff] at this
  cases hb : sumB G n.toNat
  · rw [hb] at this; simpa using this
  · rw [hb] at this; simpa using this
theorem findF_nodup : ∀ (G : List Int) (m : Nat), (findF G m).Nodup
  | [], m => by
    unfold findF leafs
    by_cases h : m = 0 <;> simp [okF, h]
  | [g], m => by rw [findF_one]; split <;> simp
  | g :: g2 :: r, m => by
    rw [findF_cons, List.Nodup, List.pairwise_flatMap]
    refine ⟨fun k _ => ?_, ?_⟩
    · rw [List.pairwise_map]
      exact (findF_nodup (g2 :: r) _).imp fun h e => h (by injection e)
    · have hd : (downL (m / g.toNat)).Nodup := by unfold downL; exact List.pairwise_reverse.2 (List.nodup_range.imp fun h => Ne.symm h)
      refine hd.imp fun {a b} hab x hx y hy e => ?_
      obtain ⟨x', -, rfl⟩ := List.mem_map.1 hx
      obtain ⟨y', -, rfl⟩ := List.mem_map.1 hy
      injection e with e1 e2
      exact hab (by omega)
theorem near_law {G : List Int} {n : Int} {i : Nat} (hi : i + 1 < (factL G n).length) : (factL G n)[i] ≠ (factL G n)[i + 1] := by
  have hn : (factL G n).Nodup := by
    unfold factL
    split
    · exact findF_nodup _ _
    · exact List.nodup_nil
  exact List.pairwise_iff_getElem.1 hn i (i + 1) (by omega) hi (by omega)
theorem fac_law {G : List Int} {n : Int} {L : List Int} (h : L ∈ factL G n) : isFacB G n L = true := by
  obtain ⟨hs, h0, h1, -⟩ := factL_sg h
  obtain ⟨hd, hl⟩ := fact_dot h
  unfold isFacB
  rw [valueN_yes hs hl (List.all_eq_true.2 fun x hx => by have := fact_ent h x hx; unfold inB; rw [decide_eq_true this.1, decide_eq_true (by omega : x ≤ 1000000)]; rfl), hd, decide_eq_true h0, decide_eq_true rfl]; rfl
end Go.Proofs.YthalbmlgkkgheaaDoor
