/-
  HOW MANY LEAVES: no program. No generator is less than their number; the search has not too many leaves. (Own work.)
-/
import Derived.Test.YthalbmlgkkgheaaDoorSgW
import Derived.Test.YthalbmlgkkgheaaDoorSgA
namespace Go.Proofs.YthalbmlgkkgheaaDoor
open Go

theorem nodup_lt_len : ∀ (m : Nat) (l : List Nat), l.Nodup → (∀ x ∈ l, x < m) → l.length ≤ m
  | 0, l, _, h => by
    cases l with
    | nil => exact Nat.le_refl _
    | cons a r => have := h a (by simp); omega
  | m + 1, l, hn, h => by
    by_cases hm : m ∈ l
    · have h1 := nodup_lt_len m (l.erase m) (hn.erase m) fun x hx => by
        have h2 := (hn.mem_erase_iff).1 hx
        have h3 := h x h2.2
        have h4 := h2.1
        omega
      have h5 := List.length_erase_of_mem hm
      have h6 := List.length_pos_of_mem hm
      omega
    · have := nodup_lt_len m l hn fun x hx => by
        have h1 := h x hx
        have h2 : x ≠ m := fun e => hm (e ▸ hx)
        omega
      omega
theorem isSum_mul {G : List Int} {g : Nat} (hg : (g : Int) ∈ G) : ∀ t, IsSum G (t * g)
  | 0 => by rw [Nat.zero_mul]; exact .zero
  | t + 1 => by rw [Nat.add_mul, Nat.one_mul]; exact (isSum_mul hg t).add hg
theorem gens_len {G : List Int} (hs : isSgB G = true) : ∀ g ∈ G, (G.length : Int) ≤ g := by
  have hS := isSgB_iff.1 hs
  have hA := hS.Asc
  have hP : Pos G := fun g hg => by have := (hS.bounds g hg).1; omega
  have hmin : minL G = G := hS.min
  intro g hg
  have h0 : 0 < G.length := List.length_pos_of_mem hg
  obtain ⟨i, hi, rfl⟩ := List.getElem_of_mem hg
  have hle : G[0] ≤ G[i] := by
    rcases Nat.eq_zero_or_pos i with e | e
    · subst e; exact Int.le_refl _
    · exact Int.le_of_lt (hA 0 i hi e)
  have hm1 := (hS.bounds G[0] (List.getElem_mem h0)).1
  suffices h : G.length ≤ G[0].toNat by omega
  have hlen : (G.map fun g => g.toNat % G[0].toNat).length = G.length := List.length_map _
  rw [← hlen]
  refine nodup_lt_len _ _ ?_ fun x hx => by
    obtain ⟨y, -, rfl⟩ := List.mem_map.1 hx
    exact Nat.mod_lt _ (by omega)
  rw [List.Nodup, List.pairwise_map, List.pairwise_iff_getElem]
  intro a b ha hb hab he
  have hlt := hA a b hb hab
  have hpa := (hS.bounds G[a] (List.getElem_mem ha)).1
  have hpb := (hS.bounds G[b] (List.getElem_mem hb)).1
  have h0a : G[0] ≤ G[a] := by
    rcases Nat.eq_zero_or_pos a with e | e
    · subst e; exact Int.le_refl _
    · exact Int.le_of_lt (hA 0 a ha e)
  -- the greater one is the lesser one and a multiple of the least
  obtain ⟨t, ht⟩ : ∃ t, G[b].toNat = G[a].toNat + t * G[0].toNat := by
    have h1 := Nat.div_add_mod G[a].toNat G[0].toNat
    have h2 := Nat.div_add_mod G[b].toNat G[0].toNat
    have h3 : G[a].toNat / G[0].toNat ≤ G[b].toNat / G[0].toNat := Nat.div_le_div_right (by omega)
    refine ⟨G[b].toNat / G[0].toNat - G[a].toNat / G[0].toNat, ?_⟩
    rw [Nat.sub_mul, Nat.mul_comm (G[b].toNat / G[0].toNat), Nat.mul_comm (G[a].toNat / G[0].toNat)]
    have h4 := Nat.mul_le_mul_left G[0].toNat h3
    omega
  have ht1 : 1 ≤ t := by
    rcases Nat.eq_zero_or_pos t with e | e
    · subst e; rw [Nat.zero_mul] at ht; omega
    · exact e
  have hin : G[b] ∈ minL G := by rw [hmin]; exact List.getElem_mem hb
  have hirr := ((mem_minL_iff hP G[b]).1 hin).2
  have g0 : ((G[0].toNat : Nat) : Int) ∈ G := by rw [Int.toNat_of_nonneg (by omega)]; exact List.getElem_mem h0
  have ga : ((G[a].toNat : Nat) : Int) ∈ G := by rw [Int.toNat_of_nonneg (by omega)]; exact List.getElem_mem ha
  have hsum : IsSum G (G[a].toNat + (t - 1) * G[0].toNat) := (IsSum.gen ga).plus (isSum_mul g0 (t - 1))
  refine hirr.2.2 G[0].toNat (G[a].toNat + (t - 1) * G[0].toNat) (by omega) (by omega) ?_ (IsSum.gen g0) hsum
  obtain ⟨t', rfl⟩ : ∃ t', t = t' + 1 := ⟨t - 1, by omega⟩
  rw [ht, Nat.add_sub_cancel, Nat.add_mul, Nat.one_mul]; omega
theorem leafs_len (c : Nat) (hc : 1 ≤ c) : ∀ (G : List Int) (m : Nat), m ≤ 100 → (∀ g ∈ G, (c : Int) ≤ g) → (leafs G m).length ≤ (100 / c + 1) ^ (G.length - 1)
  | [], m, _, _ => by simp [leafs]
  | [g], m, _, _ => by simp [leafs]
  | g :: g2 :: r, m, hm, hG => by
    have ih := fun k => leafs_len c hc (g2 :: r) (m - k * g.toNat) (by omega) fun x hx => hG x (by simp only [List.mem_cons] at hx ⊢; exact .inr hx)
    have hg := hG g (by simp)
    rw [leafs, List.length_flatMap]
    have h1 : ∀ (l : List Nat), ((l.map fun k => ((leafs (g2 :: r) (m - k * g.toNat)).map (pre1 k)).length).sum) ≤ l.length * (100 / c + 1) ^ ((g2 :: r).length - 1) := fun l => by
      induction l with
      | nil => simp
      | cons a l ihl =>
        rw [List.map_cons, List.sum_cons, List.length_cons, Nat.add_mul, Nat.one_mul, List.length_map]
        have := ih a
        omega
    refine Nat.le_trans (h1 _) ?_
    have h2 : (downL (m / g.toNat)).length ≤ 100 / c + 1 := by
      unfold downL
      rw [List.length_reverse, List.length_range]
      have : m / g.toNat ≤ 100 / c := Nat.le_trans (Nat.div_le_div_right hm) (Nat.div_le_div_left (by omega) (by omega))
      omega
    have h3 : (g :: g2 :: r).length - 1 = (g2 :: r).length - 1 + 1 := by simp
    rw [h3, Nat.pow_succ, Nat.mul_comm]
    exact Nat.mul_le_mul_left _ h2
theorem pow_bnd (e : Nat) (h1 : 1 ≤ e) (h2 : e ≤ 12) : (100 / e + 1) ^ (e - 1) ≤ 31381059609 := by
  rcases (by omega : e = 1 ∨ e = 2 ∨ e = 3 ∨ e = 4 ∨ e = 5 ∨ e = 6 ∨ e = 7 ∨ e = 8 ∨ e = 9 ∨ e = 10 ∨ e = 11 ∨ e = 12) with rfl | rfl | rfl | rfl | rfl | rfl | rfl | rfl | rfl | rfl | rfl | rfl <;> decide
theorem leafs_bound {G : List Int} (hs : isSgB G = true) (k m : Nat) (hm : m ≤ 100) : (leafs (G.drop k) m).length ≤ 31381059609 := by
  have h0 : 1 ≤ G.length := (okG_iff.1 (isSgB_iff.1 hs).ok).2.1
  have h12 := (isSgB_iff.1 hs).len
  have h := leafs_len G.length h0 (G.drop k) m hm fun g hg => gens_len hs g (List.mem_of_mem_drop hg)
  refine Nat.le_trans h (Nat.le_trans (Nat.pow_le_pow_right (Nat.succ_pos _) ?_) (pow_bnd G.length h0 h12))
  rw [List.length_drop]; omega
theorem findF_bound {G : List Int} (hs : isSgB G = true) (k m : Nat) (hm : m ≤ 100) : (findF (G.drop k) m).length ≤ 31381059609 :=
  Nat.le_trans (List.length_filterMap_le _ _) (leafs_bound hs k m hm)
theorem leafs_width (G : List Int) : ∀ (m : Nat), ∀ v ∈ leafs G m, v.1.length = G.length := by
  induction G with
  | nil => intro m v hv; simp [leafs] at hv; subst hv; rfl
  | cons g r ih =>
    cases r with
    | nil => intro m v hv; simp [leafs] at hv; subst hv; rfl
    | cons g2 r =>
      intro m v hv
      rw [leafs, List.mem_flatMap] at hv
      obtain ⟨k, -, hk⟩ := hv
      obtain ⟨u, hu, rfl⟩ := List.mem_map.1 hk
      simp [pre1, ih _ u hu]
end Go.Proofs.YthalbmlgkkgheaaDoor
