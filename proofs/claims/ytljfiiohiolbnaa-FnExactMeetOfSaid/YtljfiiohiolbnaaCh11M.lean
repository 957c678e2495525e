/-
  CHAPTERS 11, 12 WITHOUT A FUNCTION OF EITHER SIDE: models; lists of lists in memory. (Own work; merge.py.)
-/
import Derived.Test.YtljfiiohiolbnaaCh3L
import Derived.Test.YtljfiiohiolbnaaSgA
import Derived.Test.YtljfiiohiolbnaaCh1
import Derived.Test.YtljfiiohiolbnaaKitA
import Derived.Maps.AppendAt

/-
  FACTORIZATIONS: no program. Values, ways by a table, the leaves of the search, what a search that goes back has still to find. (Own work.)
-/
namespace Go.Proofs.Ytljfiiohiolbnaa
open Go

/-! ### Values -/
def dotL (L G : List Int) : Int := (List.zipWith (· * ·) L G).sum
noncomputable def valueN (G L : List Int) : Int := if isSgB G && decide (L.length = G.length) && L.all (fun x => inB x 0 1000000) then dotL L G else -1
noncomputable def isFacB (G : List Int) (n : Int) (L : List Int) : Bool := decide (0 ≤ n) && decide (valueN G L = n)
theorem dotL_nil (G : List Int) : dotL [] G = 0 := by simp [dotL]
theorem dotL_cons (x g : Int) (L G : List Int) : dotL (x :: L) (g :: G) = x * g + dotL L G := by simp [dotL]
theorem dotL_snoc : ∀ {L G : List Int} (x g : Int), L.length = G.length → dotL (L ++ [x]) (G ++ [g]) = dotL L G + x * g
  | [], [], x, g, _ => by simp [dotL]
  | a :: L, b :: G, x, g, h => by
    rw [List.cons_append, List.cons_append, dotL_cons, dotL_cons, dotL_snoc x g (by simpa using h)]; omega
  | [], _ :: _, _, _, h => by simp at h
  | _ :: _, [], _, _, h => by simp at h
theorem dotL_take {L G : List Int} (h : L.length = G.length) {k : Nat} (hk : k < L.length) : dotL (L.take (k + 1)) (G.take (k + 1)) = dotL (L.take k) (G.take k) + L[k] * G[k]'(by omega) := by
  rw [List.take_add_one, List.take_add_one, List.getElem?_eq_getElem hk, List.getElem?_eq_getElem (by omega), Option.toList_some, Option.toList_some]
  exact dotL_snoc _ _ (by simp; omega)
theorem valueN_yes {G L : List Int} (hs : isSgB G = true) (hl : L.length = G.length) (ha : L.all (fun x => inB x 0 1000000) = true) : valueN G L = dotL L G := by
  unfold valueN; rw [hs, decide_eq_true hl, ha]; rfl
theorem valueN_sg {G : List Int} (L : List Int) (hs : isSgB G = false) : valueN G L = -1 := by unfold valueN; rw [hs]; rfl
theorem valueN_len {G L : List Int} (hl : L.length ≠ G.length) : valueN G L = -1 := by unfold valueN; rw [decide_eq_false hl]; simp
theorem valueN_out {G L : List Int} (ha : L.all (fun x => inB x 0 1000000) = false) : valueN G L = -1 := by unfold valueN; rw [ha]; simp
theorem dot_bnd {L G : List Int} (hl : L.length = G.length) (hG : ∀ g ∈ G, 1 ≤ g ∧ g ≤ 60) (hL : ∀ x ∈ L, 0 ≤ x ∧ x ≤ 1000000) : ∀ k, k ≤ L.length → 0 ≤ dotL (L.take k) (G.take k) ∧ dotL (L.take k) (G.take k) ≤ 60000000 * (k : Int)
  | 0, _ => by simp [dotL]
  | k + 1, hk => by
    have ih := dot_bnd hl hG hL k (by omega)
    rw [dotL_take hl (by omega)]
    have h1 := hL L[k] (List.getElem_mem (by omega))
    have h2 := hG G[k] (List.getElem_mem (by omega))
    have h3 : 0 ≤ L[k] * G[k] := Int.mul_nonneg h1.1 (by omega)
    have h4 : L[k] * G[k] ≤ 1000000 * 60 := Int.mul_le_mul h1.2 h2.2 (by omega) (by omega)
    omega

/-! ### Ways, by a table that is gone through upwards (the sums wrap as the machine's do) -/
def chainW (T : Nat → Int) (g r : Nat) : Nat → Int
  | 0 => T r
  | j + 1 => IntKind.i64.wrap (T (r + (j + 1) * g) + chainW T g r j)
def stepW (g : Nat) (T : Nat → Int) (i : Nat) : Int := chainW T g (i % g) (i / g)
def waysT : List Int → Nat → Int := fun G => G.foldl (fun T g => stepW g.toNat T) fun i => if i = 0 then 1 else 0
noncomputable def countN (G : List Int) (n : Int) : Int := if isSgB G && inB n 0 1000 then waysT G n.toNat else -1
theorem stepW_lt {g i : Nat} (T : Nat → Int) (h : i < g) : stepW g T i = T i := by
  unfold stepW; rw [Nat.mod_eq_of_lt h, Nat.div_eq_of_lt h]; rfl
theorem stepW_ge {g i : Nat} (T : Nat → Int) (hg : 1 ≤ g) (h : g ≤ i) : stepW g T i = IntKind.i64.wrap (T i + stepW g T (i - g)) := by
  unfold stepW
  have h1 : i / g = (i - g) / g + 1 := by
    rw [Nat.div_eq i g, if_pos ⟨by omega, h⟩]
  have h2 : i % g = (i - g) % g := Nat.mod_eq_sub_mod h
  have h3 : (i - g) % g + ((i - g) / g + 1) * g = i := by
    have := Nat.mod_add_div (i - g) g
    rw [Nat.add_mul, Nat.one_mul, Nat.mul_comm ((i - g) / g) g]; omega
  rw [h1, h2, chainW, h3]
def mixW (g : Nat) (T : Nat → Int) (i0 i : Nat) : Int := if i < i0 then stepW g T i else T i
theorem mixW_start (g : Nat) (T : Nat → Int) : mixW g T g = T := funext fun i => by
  unfold mixW
  split
  · next h => exact stepW_lt T h
  · rfl
theorem waysT_take {G : List Int} {k : Nat} (hk : k < G.length) : waysT (G.take (k + 1)) = stepW G[k].toNat (waysT (G.take k)) := by
  unfold waysT
  rw [List.take_add_one, List.getElem?_eq_getElem hk, Option.toList_some, List.foldl_append]; rfl

/-! ### The leaves of the search -/
def downL (q : Nat) : List Nat := (List.range (q + 1)).reverse
def pre1 (k : Nat) (v : List Int × Nat) : List Int × Nat := ((k : Int) :: v.1, v.2)
def preL (P : List Int) (v : List Int × Nat) : List Int × Nat := (P ++ v.1, v.2)
def leafs : List Int → Nat → List (List Int × Nat)
  | [], m => [([], m)]
  | [g], m => [([((m / g.toNat : Nat) : Int)], m % g.toNat)]
  | g :: g2 :: r, m => (downL (m / g.toNat)).flatMap fun k => (leafs (g2 :: r) (m - k * g.toNat)).map (pre1 k)
def okF (v : List Int × Nat) : Option (List Int) := if v.2 = 0 then some v.1 else none
def findF (G : List Int) (m : Nat) : List (List Int) := (leafs G m).filterMap okF
noncomputable def factL (G : List Int) (n : Int) : List (List Int) := if isSgB G && inB n 0 100 then findF G n.toNat else []
theorem downL_succ (q : Nat) : downL (q + 1) = (q + 1) :: downL q := by unfold downL; rw [List.range_succ, List.reverse_append]; rfl
theorem downL_zero : downL 0 = [0] := rfl
theorem findF_one (g : Int) (m : Nat) : findF [g] m = if m % g.toNat = 0 then [[((m / g.toNat : Nat) : Int)]] else [] := by
  unfold findF leafs
  simp only [List.filterMap_cons, List.filterMap_nil, okF]
  split <;> rename_i h <;> split at h <;> simp_all
theorem okF_pre (k : Nat) (v : List Int × Nat) : okF (pre1 k v) = (okF v).map fun x => (k : Int) :: x := by
  unfold okF pre1
  simp only
  split <;> rfl
theorem findF_cons (g g2 : Int) (r : List Int) (m : Nat) : findF (g :: g2 :: r) m = (downL (m / g.toNat)).flatMap fun k => (findF (g2 :: r) (m - k * g.toNat)).map fun v => (k : Int) :: v := by
  unfold findF
  rw [leafs, List.filterMap_flatMap]
  refine congrArg (fun f => List.flatMap f (downL (m / g.toNat))) (funext fun k => ?_)
  rw [List.filterMap_map, List.map_filterMap]
  refine congrArg (fun f => List.filterMap f _) (funext fun v => ?_)
  exact okF_pre k v

/-! ### What is left to find when the stack T (its last number first: S) stands and m is left -/
def backs (G : List Int) : List Nat → Nat → List (List Int × Nat)
  | [], _ => []
  | a :: S, m => (if S.length + 1 < G.length then (List.range a).reverse.flatMap fun b => (leafs (G.drop (S.length + 1)) (m + (a - b) * (G.getD S.length 0).toNat)).map (preL ((b :: S).reverse.map Int.ofNat)) else []) ++
      backs G S (m + a * (G.getD S.length 0).toNat)
def todo (G : List Int) (S : List Nat) (m : Nat) : List (List Int × Nat) := (leafs (G.drop S.length) m).map (preL (S.reverse.map Int.ofNat)) ++ backs G S m
theorem preL_cons (P : List Int) (k : Nat) (v : List Int × Nat) : preL P (pre1 k v) = preL (P ++ [(k : Int)]) v := by simp [preL, pre1]
theorem preL_nil : preL [] = id := funext fun v => by simp [preL]
theorem todo_start (G : List Int) (m : Nat) : todo G [] m = leafs G m := by
  unfold todo backs
  simp [preL_nil]
theorem todo_full {G : List Int} {S : List Nat} (m : Nat) (h : S.length = G.length) : todo G S m = (S.reverse.map Int.ofNat, m) :: backs G S m := by
  unfold todo
  rw [List.drop_of_length_le (by omega)]
  simp [leafs, preL]
theorem rev_ofNat (k : Nat) (S : List Nat) : (k :: S).reverse.map Int.ofNat = S.reverse.map Int.ofNat ++ [(k : Int)] := by simp
theorem drop_two {G : List Int} {k : Nat} (hk : k + 1 < G.length) : G.drop k = G[k] :: G.drop (k + 1) := List.drop_eq_getElem_cons (by omega)
theorem downL_split (q : Nat) : downL q = q :: (List.range q).reverse := by
  cases q with
  | zero => rfl
  | succ q => rw [downL_succ]; rfl
theorem todo_fill {G : List Int} {S : List Nat} (m : Nat) (h : S.length < G.length) (hp : 1 ≤ G[S.length]) : todo G S m = todo G ((m / G[S.length].toNat) :: S) (m % G[S.length].toNat) := by
  have hgd : G.getD S.length 0 = G[S.length] := by rw [List.getD_eq_getElem?_getD, List.getElem?_eq_getElem h]; rfl
  obtain ⟨g, hg⟩ : ∃ g, g = G[S.length] := ⟨_, rfl⟩
  have hg1 : 1 ≤ g.toNat := by omega
  have hdm := Nat.mod_add_div m g.toNat
  rw [← hg]
  unfold todo
  rw [List.length_cons, backs, hgd, ← hg]
  have hm : m % g.toNat + m / g.toNat * g.toNat = m := by rw [Nat.mul_comm]; exact hdm
  rw [hm, ← List.append_assoc]
  congr 1
  by_cases h2 : S.length + 1 < G.length
  · rw [if_pos h2, drop_two h2, ← hg]
    obtain ⟨g2, r, hr⟩ : ∃ g2 r, G.drop (S.length + 1) = g2 :: r := by
      cases hd : G.drop (S.length + 1) with
      | nil => have := congrArg List.length hd; simp at this; omega
      | cons a r => exact ⟨a, r, rfl⟩
    have hq : m - m / g.toNat * g.toNat = m % g.toNat := by omega
    rw [hr, leafs, downL_split, List.flatMap_cons, List.map_append, List.map_flatMap, hq, ← hr]
    congr 1
    · rw [List.map_map]
      refine List.map_congr_left fun v _ => ?_
      show preL _ (pre1 _ v) = _
      rw [preL_cons, rev_ofNat]
    · rw [List.flatMap_def, List.flatMap_def]
      congr 1
      refine List.map_congr_left fun b hb => ?_
      have hb' : b < m / g.toNat := by simpa using hb
      have e : m % g.toNat + (m / g.toNat - b) * g.toNat = m - b * g.toNat := by
        have h1 : b * g.toNat ≤ m / g.toNat * g.toNat := Nat.mul_le_mul_right _ (by omega)
        rw [Nat.sub_mul]; omega
      rw [e, List.map_map]
      refine List.map_congr_left fun v _ => ?_
      show preL _ (pre1 _ v) = _
      rw [preL_cons, rev_ofNat]
  · rw [if_neg h2, List.append_nil]
    have hd : G.drop S.length = [g] := by
      rw [List.drop_eq_getElem_cons h, List.drop_of_length_le (by omega), hg]
    rw [hd, List.drop_of_length_le (by omega)]
    simp [leafs, preL]
theorem backs_less {G : List Int} {S : List Nat} (b m : Nat) (h : S.length + 1 < G.length) : backs G ((b + 1) :: S) m = todo G (b :: S) (m + (G.getD S.length 0).toNat) := by
  obtain ⟨g, hg⟩ : ∃ g, g = (G.getD S.length 0).toNat := ⟨_, rfl⟩
  unfold todo
  rw [List.length_cons, backs, backs, if_pos h, if_pos h, ← hg, List.range_succ, List.reverse_append, List.reverse_singleton, List.singleton_append, List.flatMap_cons, List.append_assoc]
  have e1 : m + (b + 1 - b) * g = m + g := by rw [show b + 1 - b = 1 by omega, Nat.one_mul]
  have e2 : m + (b + 1) * g = m + g + b * g := by rw [Nat.add_mul, Nat.one_mul]; omega
  rw [e1, e2]
  congr 1
  congr 1
  rw [List.flatMap_def, List.flatMap_def]
  congr 1
  refine List.map_congr_left fun c hc => ?_
  have hc' : c < b := by simpa using hc
  have e3 : m + (b + 1 - c) * g = m + g + (b - c) * g := by rw [show b + 1 - c = (b - c) + 1 by omega, Nat.add_mul, Nat.one_mul]; omega
  rw [e3]
theorem backs_pop {G : List Int} {S : List Nat} (a m : Nat) (h : ¬ S.length + 1 < G.length ∨ a = 0) : backs G (a :: S) m = backs G S (m + a * (G.getD S.length 0).toNat) := by
  rw [backs]
  rcases h with h | h
  · rw [if_neg h, List.nil_append]
  · subst h
    split <;> simp
theorem backs_nil (G : List Int) (m : Nat) : backs G [] m = [] := rfl
end Go.Proofs.Ytljfiiohiolbnaa

/-
  HOW MANY LEAVES: no program. No generator is less than their number; the search has not too many leaves. (Own work.)
-/
namespace Go.Proofs.Ytljfiiohiolbnaa
open Go

theorem nodup_lt_len : ∀ (m : Nat) (l : List Nat), l.Nodup → (∀ x ∈ l, x < m) → l.length ≤ m
  | 0, l, _, h => by
    cases l with
    | nil => exact Nat.le_refl _
    | cons a r => have := h a (by simp); omega
  | m + 1, l, hn, h => by
    by_cases hm : m ∈ l
    · have h1 := nodup_lt_len m (l.erase m) (hn.erase m) fun x hx => by
        have h2 := (hn.mem_erase_iff).1 hx
        have h3 := h x h2.2
        have h4 := h2.1
        omega
      have h5 := List.length_erase_of_mem hm
      have h6 := List.length_pos_of_mem hm
      omega
    · have := nodup_lt_len m l hn fun x hx => by
        have h1 := h x hx
        have h2 : x ≠ m := fun e => hm (e ▸ hx)
        omega
      omega
theorem isSum_mul {G : List Int} {g : Nat} (hg : (g : Int) ∈ G) : ∀ t, IsSum G (t * g)
  | 0 => by rw [Nat.zero_mul]; exact .zero
  | t + 1 => by rw [Nat.add_mul, Nat.one_mul]; exact (isSum_mul hg t).add hg
theorem gens_len {G : List Int} (hs : isSgB G = true) : ∀ g ∈ G, (G.length : Int) ≤ g := by
  have hS := isSgB_iff.1 hs
  have hA := hS.Asc
  have hP : Pos G := fun g hg => by have := (hS.bounds g hg).1; omega
  have hmin : minL G = G := hS.min
  intro g hg
  have h0 : 0 < G.length := List.length_pos_of_mem hg
  obtain ⟨i, hi, rfl⟩ := List.getElem_of_mem hg
  have hle : G[0] ≤ G[i] := by
    rcases Nat.eq_zero_or_pos i with e | e
    · subst e; exact Int.le_refl _
    · exact Int.le_of_lt (hA 0 i hi e)
  have hm1 := (hS.bounds G[0] (List.getElem_mem h0)).1
  suffices h : G.length ≤ G[0].toNat by omega
  have hlen : (G.map fun g => g.toNat % G[0].toNat).length = G.length := List.length_map _
  rw [← hlen]
  refine nodup_lt_len _ _ ?_ fun x hx => by
    obtain ⟨y, -, rfl⟩ := List.mem_map.1 hx
    exact Nat.mod_lt _ (by omega)
  rw [List.Nodup, List.pairwise_map, List.pairwise_iff_getElem]
  intro a b ha hb hab he
  have hlt := hA a b hb hab
  have hpa := (hS.bounds G[a] (List.getElem_mem ha)).1
  have hpb := (hS.bounds G[b] (List.getElem_mem hb)).1
  have h0a : G[0] ≤ G[a] := by
    rcases Nat.eq_zero_or_pos a with e | e
    · subst e; exact Int.le_refl _
    · exact Int.le_of_lt (hA 0 a ha e)
  -- the greater one is the lesser one and a multiple of the least
  obtain ⟨t, ht⟩ : ∃ t, G[b].toNat = G[a].toNat + t * G[0].toNat := by
    have h1 := Nat.div_add_mod G[a].toNat G[0].toNat
    have h2 := Nat.div_add_mod G[b].toNat G[0].toNat
    have h3 : G[a].toNat / G[0].toNat ≤ G[b].toNat / G[0].toNat := Nat.div_le_div_right (by omega)
    refine ⟨G[b].toNat / G[0].toNat - G[a].toNat / G[0].toNat, ?_⟩
    rw [Nat.sub_mul, Nat.mul_comm (G[b].toNat / G[0].toNat), Nat.mul_comm (G[a].toNat / G[0].toNat)]
    have h4 := Nat.mul_le_mul_left G[0].toNat h3
    omega
  have ht1 : 1 ≤ t := by
    rcases Nat.eq_zero_or_pos t with e | e
    · subst e; rw [Nat.zero_mul] at ht; omega
    · exact e
  have hin : G[b] ∈ minL G := by rw [hmin]; exact List.getElem_mem hb
  have hirr := ((mem_minL_iff hP G[b]).1 hin).2
  have g0 : ((G[0].toNat : Nat) : Int) ∈ G := by rw [Int.toNat_of_nonneg (by omega)]; exact List.getElem_mem h0
  have ga : ((G[a].toNat : Nat) : Int) ∈ G := by rw [Int.toNat_of_nonneg (by omega)]; exact List.getElem_mem ha
  have hsum : IsSum G (G[a].toNat + (t - 1) * G[0].toNat) := (IsSum.gen ga).plus (isSum_mul g0 (t - 1))
  refine hirr.2.2 G[0].toNat (G[a].toNat + (t - 1) * G[0].toNat) (by omega) (by omega) ?_ (IsSum.gen g0) hsum
  obtain ⟨t', rfl⟩ : ∃ t', t = t' + 1 := ⟨t - 1, by omega⟩
  rw [ht, Nat.add_sub_cancel, Nat.add_mul, Nat.one_mul]; omega
theorem leafs_len (c : Nat) (hc : 1 ≤ c) : ∀ (G : List Int) (m : Nat), m ≤ 100 → (∀ g ∈ G, (c : Int) ≤ g) → (leafs G m).length ≤ (100 / c + 1) ^ (G.length - 1)
  | [], m, _, _ => by simp [leafs]
  | [g], m, _, _ => by simp [leafs]
  | g :: g2 :: r, m, hm, hG => by
    have ih := fun k => leafs_len c hc (g2 :: r) (m - k * g.toNat) (by omega) fun x hx => hG x (by simp only [List.mem_cons] at hx ⊢; exact .inr hx)
    have hg := hG g (by simp)
    rw [leafs, List.length_flatMap]
    have h1 : ∀ (l : List Nat), ((l.map fun k => ((leafs (g2 :: r) (m - k * g.toNat)).map (pre1 k)).length).sum) ≤ l.length * (100 / c + 1) ^ ((g2 :: r).length - 1) := fun l => by
      induction l with
      | nil => simp
      | cons a l ihl =>
        rw [List.map_cons, List.sum_cons, List.length_cons, Nat.add_mul, Nat.one_mul, List.length_map]
        have := ih a
        omega
    refine Nat.le_trans (h1 _) ?_
    have h2 : (downL (m / g.toNat)).length ≤ 100 / c + 1 := by
      unfold downL
      rw [List.length_reverse, List.length_range]
      have : m / g.toNat ≤ 100 / c := Nat.le_trans (Nat.div_le_div_right hm) (Nat.div_le_div_left (by omega) (by omega))
      omega
    have h3 : (g :: g2 :: r).length - 1 = (g2 :: r).length - 1 + 1 := by simp
    rw [h3, Nat.pow_succ, Nat.mul_comm]
    exact Nat.mul_le_mul_left _ h2
theorem pow_bnd (e : Nat) (h1 : 1 ≤ e) (h2 : e ≤ 12) : (100 / e + 1) ^ (e - 1) ≤ 31381059609 := by
  rcases (by omega : e = 1 ∨ e = 2 ∨ e = 3 ∨ e = 4 ∨ e = 5 ∨ e = 6 ∨ e = 7 ∨ e = 8 ∨ e = 9 ∨ e = 10 ∨ e = 11 ∨ e = 12) with rfl | rfl | rfl | rfl | rfl | rfl | rfl | rfl | rfl | rfl | rfl | rfl <;> decide
theorem leafs_bound {G : List Int} (hs : isSgB G = true) (k m : Nat) (hm : m ≤ 100) : (leafs (G.drop k) m).length ≤ 31381059609 := by
  have h0 : 1 ≤ G.length := (okG_iff.1 (isSgB_iff.1 hs).ok).2.1
  have h12 := (isSgB_iff.1 hs).len
  have h := leafs_len G.length h0 (G.drop k) m hm fun g hg => gens_len hs g (List.mem_of_mem_drop hg)
  refine Nat.le_trans h (Nat.le_trans (Nat.pow_le_pow_right (Nat.succ_pos _) ?_) (pow_bnd G.length h0 h12))
  rw [List.length_drop]; omega
theorem findF_bound {G : List Int} (hs : isSgB G = true) (k m : Nat) (hm : m ≤ 100) : (findF (G.drop k) m).length ≤ 31381059609 :=
  Nat.le_trans (List.length_filterMap_le _ _) (leafs_bound hs k m hm)
theorem leafs_width (G : List Int) : ∀ (m : Nat), ∀ v ∈ leafs G m, v.1.length = G.length := by
  induction G with
  | nil => intro m v hv; simp [leafs] at hv; subst hv; rfl
  | cons g r ih =>
    cases r with
    | nil => intro m v hv; simp [leafs] at hv; subst hv; rfl
    | cons g2 r =>
      intro m v hv
      rw [leafs, List.mem_flatMap] at hv
      obtain ⟨k, -, hk⟩ := hv
      obtain ⟨u, hu, rfl⟩ := List.mem_map.1 hk
      simp [pre1, ih _ u hu]
end Go.Proofs.Ytljfiiohiolbnaa

/-
  LOWEST TERMS: no program. (Own work: mkGr.py.)
-/
namespace Go.Proofs.Ytljfiiohiolbnaa
open Go Go.RowKit

def lowA (a b : Int) : Int := if gcdOf a b = 0 then 0 else a / gcdOf a b
def lowB (a b : Int) : Int := if gcdOf a b = 0 then 0 else b / gcdOf a b
noncomputable def greatA (G : List Int) : Int := if isSgB G then lowA (G.getD (G.length - 1) 0) (G.getD 0 0) else 0
noncomputable def greatB (G : List Int) : Int := if isSgB G then lowB (G.getD (G.length - 1) 0) (G.getD 0 0) else 0
theorem great_no {G : List Int} (h : isSgB G = false) : greatA G = 0 ∧ greatB G = 0 := by unfold greatA greatB; simp [h]
theorem gcd_nat (x y : Nat) : ∃ d : Nat, gcdOf (x : Int) (y : Int) = (d : Int) ∧ d ≤ 1000000 := by
  have h := gcdOf_bounds (x : Int) (y : Int)
  exact ⟨(gcdOf (x : Int) (y : Int)).toNat, by omega, by omega⟩
theorem low_yes {x y d : Nat} (h : gcdOf (x : Int) (y : Int) = (d : Int)) (hd : d ≠ 0) : lowA x y = ((x / d : Nat) : Int) ∧ lowB x y = ((y / d : Nat) : Int) := by
  unfold lowA lowB
  rw [h, if_neg (by omega), if_neg (by omega)]
  exact ⟨(Int.natCast_ediv x d).symm, (Int.natCast_ediv y d).symm⟩
theorem low_no {x y : Nat} (h : gcdOf (x : Int) (y : Int) = ((0 : Nat) : Int)) : lowA x y = 0 ∧ lowB x y = 0 := by
  unfold lowA lowB; rw [h]; exact ⟨if_pos rfl, if_pos rfl⟩
theorem gcd_pos {x y : Nat} (hx : 1 ≤ x) (hx2 : x ≤ 1000000) (hy : y ≤ 1000000) : gcdOf (x : Int) (y : Int) ≠ ((0 : Nat) : Int) := by
  rw [gcdOf_in (small_iff.2 ⟨by omega, by omega⟩) (small_iff.2 ⟨by omega, by omega⟩)]
  intro h
  have h2 : Nat.gcd x y = 0 := by simpa using h
  have := Nat.gcd_pos_of_pos_left y (show 0 < x by omega)
  omega
theorem wrapq (x d : Nat) (h : x ≤ 1000000) : wrap64 ((x : Int) / (d : Int)) = ((x / d : Nat) : Int) := by
  have hq : x / d ≤ 1000000 := Nat.le_trans (Nat.div_le_self x d) h
  rw [show (x : Int) / (d : Int) = ((x / d : Nat) : Int) from (Int.natCast_ediv x d).symm]; generalize x / d = q at hq ⊢; unfold wrap64; omega
theorem wrapk (x d : Nat) (h : x ≤ 1000000) : IntKind.i64.wrap ((x : Int) / (d : Int)) = ((x / d : Nat) : Int) := by
  have hq : x / d ≤ 1000000 := Nat.le_trans (Nat.div_le_self x d) h
  rw [show (x : Int) / (d : Int) = ((x / d : Nat) : Int) from (Int.natCast_ediv x d).symm]; generalize x / d = q at hq ⊢; exact IntWalk.i64_in _ (by omega)
theorem great_ends {G : List Int} (hs : isSgB G = true) : ∃ p x y : Nat, p + 1 ≤ G.length ∧ G.length ≤ p + 1 ∧ G[p]? = some (x : Int) ∧ G[0]? = some (y : Int) ∧ 1 ≤ x ∧ x ≤ 60 ∧ 1 ≤ y ∧ y ≤ 60 ∧ greatA G = lowA x y ∧ greatB G = lowB x y := by
  have hS := isSgB_iff.1 hs
  have hl : 1 ≤ G.length := (okG_iff.1 hS.ok).2.1
  have h1 := hS.bounds G[G.length - 1] (List.getElem_mem (by omega))
  have h2 := hS.bounds G[0] (List.getElem_mem (by omega))
  have e1 : G.getD (G.length - 1) 0 = G[G.length - 1] := by rw [List.getD_eq_getElem?_getD, List.getElem?_eq_getElem (by omega)]; rfl
  have e2 : G.getD 0 0 = G[0] := by rw [List.getD_eq_getElem?_getD, List.getElem?_eq_getElem (by omega)]; rfl
  refine ⟨G.length - 1, G[G.length - 1].toNat, G[0].toNat, by omega, by omega, ?_, ?_, by omega, by omega, by omega, by omega, ?_, ?_⟩
  · rw [List.getElem?_eq_getElem (by omega)]; congr 1; omega
  · rw [List.getElem?_eq_getElem (by omega)]; congr 1; omega
  · unfold greatA; rw [if_pos hs, e1, e2, Int.toNat_of_nonneg (by omega), Int.toNat_of_nonneg (by omega)]
  · unfold greatB; rw [if_pos hs, e1, e2, Int.toNat_of_nonneg (by omega), Int.toNat_of_nonneg (by omega)]
end Go.Proofs.Ytljfiiohiolbnaa

/-
  LISTS OF LISTS OF INTS IN MEMORY OF THE CALL's OWN: the headers lie in one row, each list in a block of its own; what the laws' helpers do with them. (Own work.)
-/
namespace Go.Proofs.Ytljfiiohiolbnaa
open Go Go.RowKit

/-- A list of lists as it is read. -/
def Sl2 (w : World) (a : Option Addr) (LL : List (List Int)) : Prop :=
  ∃ vs : List Value, SlV w a vs ∧ vs.length = LL.length ∧ ∀ i (h : i < vs.length) (h' : i < LL.length), ∃ p c, vs[i] = .slice p LL[i].length c ∧ SlV w p (LL[i].map (Value.int .i64))
theorem Sl2.below {w w' : World} {a : Option Addr} {LL : List (List Int)} (h : Sl2 w a LL) (hb : Below w.heap.size w w') : Sl2 w' a LL := by
  obtain ⟨vs, h1, h2, h3⟩ := h
  exact ⟨vs, h1.below hb, h2, fun i hi hi' => by obtain ⟨p, c, e, hs⟩ := h3 i hi hi'; exact ⟨p, c, e, hs.below hb⟩⟩
theorem Sl2.at {w : World} {a : Option Addr} {LL : List (List Int)} (h : Sl2 w a LL) {k : Nat} (hk : k < LL.length) :
    ∃ b o p c, a = some ⟨b, o, none⟩ ∧ b < w.heap.size ∧ w.cell? ⟨b, o + k, none⟩ = some (.slice p LL[k].length c) ∧ SlV w p (LL[k].map (Value.int .i64)) := by
  obtain ⟨vs, h1, h2, h3⟩ := h
  have hk' : k < vs.length := by omega
  obtain ⟨p, c, e, hs⟩ := h3 k hk' hk
  rcases h1 with h1 | ⟨b, off, rfl, hlt, hc⟩
  · subst h1; simp at hk'
  · exact ⟨b, off, p, c, rfl, hlt, hc k _ (by rw [List.getElem?_eq_getElem hk', e]), hs⟩

/-- What lies from lo on and below hi may have turned; nothing else. -/
structure Apart (lo hi : Nat) (w w' : World) : Prop where
  os : w'.os = w.os
  tape : w'.tape = w.tape
  output : w'.output = w.output
  size : w.heap.size ≤ w'.heap.size
  block : ∀ k, k < w.heap.size → k < lo ∨ hi ≤ k → w'.heap[k]? = w.heap[k]?
theorem Apart.refl (lo hi : Nat) (w : World) : Apart lo hi w w := ⟨rfl, rfl, rfl, Nat.le_refl _, fun _ _ _ => rfl⟩
theorem Apart.trans {lo hi : Nat} {a b c : World} (h : Apart lo hi a b) (k : Apart lo hi b c) : Apart lo hi a c :=
  ⟨k.os.trans h.os, k.tape.trans h.tape, k.output.trans h.output, Nat.le_trans h.size k.size, fun j h1 h2 => (k.block j (Nat.lt_of_lt_of_le h1 h.size) h2).trans (h.block j h1 h2)⟩
theorem Apart.of_grown {lo hi : Nat} {w w' : World} {row : Option Nat} (hg : w.grownBy w' row) (hr : ∀ j, row = some j → lo ≤ j ∧ j < hi) : Apart lo hi w w' :=
  ⟨hg.os, hg.tape, hg.output, hg.size, fun k h1 h2 => hg.block k h1 fun e => by have := hr k e.symm; omega⟩
theorem Apart.below {lo hi n : Nat} {w0 w w' : World} (h : Apart lo hi w w') (hB : Below n w0 w) (hn : n ≤ w.heap.size) (hl : n ≤ lo) : Below n w0 w' :=
  ⟨h.os.trans hB.os, h.tape.trans hB.tape, h.output.trans hB.output, Nat.le_trans hB.size h.size, fun k hk => (h.block k (by omega) (.inl (by omega))).trans (hB.block k hk)⟩
theorem Row.apart {lo hi l h' : Nat} {w w' : World} {v : Value} {n : Nat} {xs : List Value} (h : Row w l h' v n xs) (hg : Apart lo hi w w') (hd : h' ≤ lo ∨ hi ≤ l) : Row w' l h' v n xs :=
  ⟨row_kept h.own fun j hj => hg.block j (h.own.lt j hj).2 (by have h1 := h.blk j hj; have h2 := (h.own.lt j hj).1; omega), h.blk, Nat.le_trans h.hi_le hg.size⟩
theorem Arr.apart {lo hi g : Nat} {w w' : World} {t : TypeId} {cs : List Value} (h : Arr w g t cs) (hg : Apart lo hi w w') (hd : g < lo ∨ hi ≤ g) : Arr w' g t cs := (hg.block g h.lt hd).trans h

/-- A list of lists in memory of the call's own. -/
structure Rows2 (w : World) (lo hi : Nat) (v : Value) (vs : List Value) (xss : List (List Value)) : Prop where
  own : w.ownsRow lo 24 1 v vs.length vs
  len : vs.length = xss.length
  inn : ∀ i (h : i < vs.length) (h' : i < xss.length), Row w lo hi vs[i] xss[i].length xss[i]
  blk : ∀ j, v.ownBlock = some j → j < hi
  hi_le : hi ≤ w.heap.size
  apart : ∀ i j (hi : i < vs.length) (hj : j < vs.length), i ≠ j → ∀ b, vs[i].ownBlock = some b → vs[j].ownBlock ≠ some b
  outer : ∀ i (h : i < vs.length), ∀ b, vs[i].ownBlock = some b → v.ownBlock ≠ some b
theorem Rows2.keep {w w' : World} {lo hi : Nat} {v : Value} {vs : List Value} {xss : List (List Value)} (h : Rows2 w lo hi v vs xss) (hs : w.heap.size ≤ w'.heap.size) (hb : ∀ j, lo ≤ j → j < hi → w'.heap[j]? = w.heap[j]?) : Rows2 w' lo hi v vs xss :=
  ⟨row_kept h.own fun j hj => hb j (h.own.lt j hj).1 (h.blk j hj), h.len, fun i h1 h2 => by
    have r := h.inn i h1 h2
    exact ⟨row_kept r.own fun j hj => hb j (r.own.lt j hj).1 (r.blk j hj), r.blk, Nat.le_trans r.hi_le hs⟩, h.blk, Nat.le_trans h.hi_le hs, h.apart, h.outer⟩
theorem Rows2.below {w w' : World} {lo hi : Nat} {v : Value} {vs : List Value} {xss : List (List Value)} (h : Rows2 w lo hi v vs xss) (hb : Below w.heap.size w w') : Rows2 w' lo hi v vs xss :=
  h.keep hb.size fun j _ hj => hb.block j (Nat.lt_of_lt_of_le hj h.hi_le)
theorem Rows2.grown {w w' : World} {lo hi : Nat} {v : Value} {vs : List Value} {xss : List (List Value)} {row : Option Nat} (h : Rows2 w lo hi v vs xss) (hg : w.grownBy w' row) (hd : ∀ j, row = some j → j < lo ∨ hi ≤ j) : Rows2 w' lo hi v vs xss :=
  h.keep hg.size fun j h1 h2 => hg.block j (Nat.lt_of_lt_of_le h2 h.hi_le) fun e => by have := hd j e.symm; omega
theorem Rows2.far {lo hi l h' : Nat} {w w' : World} {v : Value} {vs : List Value} {xss : List (List Value)} (h : Rows2 w l h' v vs xss) (hg : Apart lo hi w w') (hd : h' ≤ lo ∨ hi ≤ l) : Rows2 w' l h' v vs xss :=
  h.keep hg.size fun j h1 h2 => hg.block j (Nat.lt_of_lt_of_le h2 h.hi_le) (by omega)
theorem Rows2.wider {w : World} {lo lo' hi hi' : Nat} {v : Value} {vs : List Value} {xss : List (List Value)} (h : Rows2 w lo hi v vs xss) (hl : lo' ≤ lo) (hh : hi ≤ hi') (hs : hi' ≤ w.heap.size) : Rows2 w lo' hi' v vs xss :=
  ⟨ownsBase h.own hl, h.len, fun i h1 h2 => by have r := h.inn i h1 h2; exact ⟨ownsBase r.own hl, fun j hj => Nat.lt_of_lt_of_le (r.blk j hj) hh, hs⟩, fun j hj => Nat.lt_of_lt_of_le (h.blk j hj) hh, hs, h.apart, h.outer⟩
theorem Rows2.nil (w : World) (lo hi : Nat) (hh : hi ≤ w.heap.size) : Rows2 w lo hi (.slice none 0 0) [] [] :=
  ⟨World.ownsRow_nil _ _ _ _, rfl, fun i h => absurd h (by simp), fun j hj => by simp [Value.ownBlock] at hj, hh, fun i j h => absurd h (by simp), fun i h => absurd h (by simp)⟩
theorem rows2_open {w : World} {lo hi : Nat} {v : Value} {vs : List Value} {xss : List (List Value)} (h : Rows2 w lo hi v vs xss) : ∃ a c, v = .slice a vs.length c := by
  obtain ⟨a, c, e, -⟩ := SlV.of_owns h.own
  exact ⟨a, c, e⟩
theorem Rows2.sl2 {w : World} {lo hi : Nat} {a : Option Addr} {n c : Nat} {vs : List Value} {LL : List (List Int)} (h : Rows2 w lo hi (.slice a n c) vs (LL.map fun L => L.map (Value.int .i64))) : Sl2 w a LL := by
  obtain ⟨a', c', e, -, -, hs, -⟩ := SlV.of_owns h.own
  cases e
  refine ⟨vs, hs, by rw [h.len, List.length_map], fun i hi hi' => ?_⟩
  have r := h.inn i hi (by rw [List.length_map]; exact hi')
  rw [List.getElem_map] at r
  obtain ⟨p, c2, e2, h2, -, hs2, -⟩ := SlV.of_owns r.own
  rw [List.length_map] at e2
  exact ⟨p, c2, e2, hs2⟩
/-- One of the lists is written anew in its place. -/
theorem Rows2.remade {w w' : World} {lo hi : Nat} {v : Value} {vs : List Value} {xss : List (List Value)} (h : Rows2 w lo hi v vs xss) {i : Nat} (hi' : i < vs.length) {ys : List Value} (ho : w'.ownsRow lo 3 1 vs[i] ys.length ys) (hg : w.grownBy w' vs[i].ownBlock) :
    Rows2 w' lo hi v vs (xss.set i ys) := by
  refine ⟨row_kept h.own fun j hj => hg.block j (h.own.lt j hj).2 fun e => h.outer i hi' j e.symm hj, by rw [List.length_set]; exact h.len, fun k hk hk' => ?_, h.blk, Nat.le_trans h.hi_le hg.size, h.apart, h.outer⟩
  rw [List.length_set] at hk'
  have r := h.inn k hk hk'
  by_cases e : i = k
  · subst e
    simp only [List.getElem_set_self]
    exact ⟨ho, r.blk, Nat.le_trans r.hi_le hg.size⟩
  · simp only [List.getElem_set_ne e]
    exact ⟨row_kept r.own fun j hj => hg.block j (r.own.lt j hj).2 fun e' => h.apart i k hi' hk e j e'.symm hj, r.blk, Nat.le_trans r.hi_le hg.size⟩
/-- A list more: its header goes behind the others. -/
theorem Rows2.snoc {w w' : World} {lo hi : Nat} {v v' u : Value} {vs : List Value} {xss : List (List Value)} {ys : List Value} (h : Rows2 w lo hi v vs xss) (ho : w'.ownsRow lo 24 1 v' (vs.length + 1) (vs ++ [u])) (hg : w.grownBy w' v.ownBlock)
    (hu : w.ownsRow hi 3 1 u ys.length ys) (hlo : lo ≤ hi) (hv' : ∀ b, v'.ownBlock = some b → v.ownBlock = some b ∨ w.heap.size ≤ b) : Rows2 w' lo w'.heap.size v' (vs ++ [u]) (xss ++ [ys]) := by
  have hub : ∀ b, u.ownBlock = some b → hi ≤ b ∧ b < w.heap.size := fun b hb => hu.lt b hb
  have hvb : ∀ b, v.ownBlock = some b → b < hi := h.blk
  have hin : ∀ i (hi' : i < vs.length) b, vs[i].ownBlock = some b → lo ≤ b ∧ b < hi := fun i hi' b hb => by
    have r := h.inn i hi' (by rw [← h.len]; exact hi')
    exact ⟨(r.own.lt b hb).1, r.blk b hb⟩
  have hou : ∀ i (hi' : i < (vs ++ [u]).length) b, (vs ++ [u])[i].ownBlock = some b → b < w.heap.size ∧ v.ownBlock ≠ some b := fun i hi' b hb => by
    by_cases e : i < vs.length
    · rw [List.getElem_append_left e] at hb
      exact ⟨Nat.lt_of_lt_of_le (hin i e b hb).2 h.hi_le, h.outer i e b hb⟩
    · have e2 : i = vs.length := by simp at hi'; omega
      subst e2
      rw [List.getElem_append_right (Nat.le_refl _)] at hb
      simp only [Nat.sub_self, List.getElem_cons_zero] at hb
      exact ⟨(hub b hb).2, fun hq => by have := hvb b hq; have := (hub b hb).1; omega⟩
  refine ⟨by rw [List.length_append, List.length_singleton]; exact ho, by simp [h.len], fun i h1 h2 => ?_, fun j hj => (ho.lt j hj).2, Nat.le_refl _, fun i j hi' hj hne b hb hb2 => ?_, fun i hi' b hb hb2 => ?_⟩
  · by_cases e : i < vs.length
    · have r := h.inn i e (by rw [← h.len]; exact e)
      simp only [List.getElem_append_left e, List.getElem_append_left (show i < xss.length by rw [← h.len]; exact e)]
      exact ⟨row_kept r.own fun j hj => hg.block j (r.own.lt j hj).2 fun e' => h.outer i e j hj e'.symm, fun j hj => Nat.lt_of_lt_of_le (r.blk j hj) (Nat.le_trans h.hi_le hg.size), Nat.le_refl _⟩
    · have e2 : i = vs.length := by simp at h1; omega
      subst e2
      simp only [List.getElem_append_right (Nat.le_refl vs.length), Nat.sub_self, List.getElem_cons_zero]
      have e3 : (xss ++ [ys])[vs.length]'h2 = ys := by rw [List.getElem_append_right (by rw [h.len]; exact Nat.le_refl _)]; simp [h.len]
      rw [e3]
      refine ⟨ownsBase (row_kept hu fun j hj => hg.block j (hub j hj).2 fun e' => by have h1 := hvb j e'.symm; have h2 := (hub j hj).1; omega) hlo, fun j hj => Nat.lt_of_lt_of_le (hub j hj).2 hg.size, Nat.le_refl _⟩
  · by_cases e : i < vs.length
    · rw [List.getElem_append_left e] at hb
      by_cases e' : j < vs.length
      · rw [List.getElem_append_left e'] at hb2
        exact h.apart i j e e' hne b hb hb2
      · have e2 : j = vs.length := by simp at hj; omega
        subst e2
        rw [List.getElem_append_right (Nat.le_refl _)] at hb2
        simp only [Nat.sub_self, List.getElem_cons_zero] at hb2
        have := (hin i e b hb).2; have := (hub b hb2).1; omega
    · have e2 : i = vs.length := by simp at hi'; omega
      subst e2
      rw [List.getElem_append_right (Nat.le_refl _)] at hb
      simp only [Nat.sub_self, List.getElem_cons_zero] at hb
      have e' : j < vs.length := by simp at hj; omega
      rw [List.getElem_append_left e'] at hb2
      have := (hin j e' b hb2).2; have := (hub b hb).1; omega
  · obtain ⟨h1, h2⟩ := hou i hi' b hb
    rcases hv' b hb2 with h3 | h3
    · exact h2 h3
    · omega

/-- A call made a list of lists. -/
def SsPost (LL : List (List Int)) (w : World) (e : Ending) (w' : World) : Prop :=
  ∃ v vs, e = .returned v ∧ Rows2 w' w.heap.size w'.heap.size v vs (LL.map fun L => L.map (Value.int .i64)) ∧ Below w.heap.size w w'
theorem keep2b {W wr w1 : World} {b1 b2 o1 o2 : Nat} {v1 v2 : Value} (h1 : b1 < W.heap.size) (h2 : b2 < W.heap.size)
    (h : wr.cell? ⟨b1, o1, none⟩ = some v1 ∧ wr.cell? ⟨b2, o2, none⟩ = some v2 ∧ Below W.heap.size W wr) (hb : Below wr.heap.size wr w1) : w1.cell? ⟨b1, o1, none⟩ = some v1 ∧ w1.cell? ⟨b2, o2, none⟩ = some v2 ∧ Below W.heap.size W w1 := by
  obtain ⟨e1, e2, hB⟩ := h
  have hs := hB.size
  exact ⟨(hb.cell (p := ⟨b1, o1, none⟩) (Nat.lt_of_lt_of_le h1 hs)).trans e1, (hb.cell (p := ⟨b2, o2, none⟩) (Nat.lt_of_lt_of_le h2 hs)).trans e2, hB.trans (hb.mono hs)⟩

/-! ### Marks over lists of lists -/
def marksSS : Int → List Nat → List (List Value)
  | _, [] => []
  | k, n :: r => marksK k n :: marksSS (k + (n : Int)) r
def sumSz (ns : List Nat) : Nat := ns.sum
theorem marksSS_length (k : Int) (ns : List Nat) : (marksSS k ns).length = ns.length := by
  induction ns generalizing k with
  | nil => rfl
  | cons n r ih => simp [marksSS, ih]
theorem marksSS_at (k : Int) (ns : List Nat) (i : Nat) (h : i < ns.length) : (marksSS k ns)[i]'(by rw [marksSS_length]; exact h) = marksK (k + ((ns.take i).sum : Int)) ns[i] := by
  induction ns generalizing k i with
  | nil => simp at h
  | cons n r ih =>
    cases i with
    | zero => simp [marksSS]
    | succ i =>
      simp only [marksSS, List.getElem_cons_succ, List.take_succ_cons, List.sum_cons]
      rw [ih _ _ (by simpa using h)]
      congr 1; omega
def mixSS (k : Int) (xss : List (List Value)) (i : Nat) : List (List Value) := (marksSS k (xss.map List.length)).take i ++ xss.drop i
theorem mixSS_zero (k : Int) (xss : List (List Value)) : mixSS k xss 0 = xss := by simp [mixSS]
theorem mixSS_all (k : Int) (xss : List (List Value)) : mixSS k xss xss.length = marksSS k (xss.map List.length) := by
  unfold mixSS
  rw [List.take_of_length_le (by rw [marksSS_length, List.length_map]; exact Nat.le_refl _), List.drop_length, List.append_nil]
theorem mixSS_length (k : Int) (xss : List (List Value)) (i : Nat) : (mixSS k xss i).length = xss.length := by simp [mixSS, marksSS_length]; omega
theorem mixSS_set (k : Int) (xss : List (List Value)) {i : Nat} (h : i < xss.length) : (mixSS k xss i).set i (marksK (k + (((xss.map List.length).take i).sum : Int)) xss[i].length) = mixSS k xss (i + 1) := by
  have hm := marksSS_at k (xss.map List.length) i (by rw [List.length_map]; exact h)
  rw [List.getElem_map] at hm
  unfold mixSS
  apply List.ext_getElem?
  intro j
  rw [List.getElem?_set]
  by_cases hj : i = j
  · subst hj
    rw [if_pos rfl, if_pos (by simp [marksSS_length]; omega), List.getElem?_append_left (by simp [marksSS_length]; omega), List.getElem?_take_of_lt (by omega), List.getElem?_eq_getElem (by rw [marksSS_length, List.length_map]; exact h), hm]
  · rw [if_neg hj]
    rcases Nat.lt_or_ge j i with h1 | h1
    · rw [List.getElem?_append_left (by simp [marksSS_length]; omega), List.getElem?_append_left (by simp [marksSS_length]; omega), List.getElem?_take_of_lt h1, List.getElem?_take_of_lt (by omega)]
    · rw [List.getElem?_append_right (by simp [marksSS_length]; omega), List.getElem?_append_right (by simp [marksSS_length]; omega), List.getElem?_drop, List.getElem?_drop]
      simp only [List.length_take, marksSS_length, List.length_map]
      congr 1; omega
theorem mixSS_at (k : Int) (xss : List (List Value)) {i : Nat} (h : i < xss.length) : (mixSS k xss i)[i]'(by rw [mixSS_length]; exact h) = xss[i] := by
  have : (mixSS k xss i)[i]? = some xss[i] := by
    unfold mixSS
    rw [List.getElem?_append_right (by simp [marksSS_length]; omega), List.getElem?_drop, List.getElem?_eq_getElem (by simp [marksSS_length]; omega)]
    congr 1
    simp [marksSS_length, Nat.min_eq_left (Nat.le_of_lt h)]
  rw [List.getElem?_eq_getElem (by rw [mixSS_length]; exact h)] at this
  exact Option.some.inj this
theorem sum_take_succ (ns : List Nat) {i : Nat} (h : i < ns.length) : (ns.take (i + 1)).sum = (ns.take i).sum + ns[i] := by
  rw [List.take_add_one, List.getElem?_eq_getElem h, Option.toList_some, List.sum_append]; simp
theorem sum_take_le (ns : List Nat) (i : Nat) : (ns.take i).sum ≤ ns.sum := by
  conv => rhs; rw [← List.take_append_drop i ns, List.sum_append]
  omega



end Go.Proofs.Ytljfiiohiolbnaa

/-
  LISTS OF LISTS OF INTS: two of them put together; an empty one in a block of its own. (Own work.)
-/
namespace Go.Proofs.Ytljfiiohiolbnaa
open Go Go.RowKit

/-- The headers of a second list of lists go behind those of the first. -/
theorem Rows2.join {w w' : World} {lo hi h2 : Nat} {v v' u : Value} {vs us : List Value} {xss yss : List (List Value)} (h : Rows2 w lo hi v vs xss) (k : Rows2 w hi h2 u us yss) (hlo : lo ≤ hi)
    (ho : w'.ownsRow lo 24 1 v' (vs.length + us.length) (vs ++ us)) (hg : w.grownBy w' v.ownBlock) (hv' : ∀ b, v'.ownBlock = some b → v.ownBlock = some b ∨ w.heap.size ≤ b) : Rows2 w' lo w'.heap.size v' (vs ++ us) (xss ++ yss) := by
  have hvb : ∀ b, v.ownBlock = some b → b < hi := h.blk
  have hin : ∀ i (hi' : i < vs.length) b, vs[i].ownBlock = some b → lo ≤ b ∧ b < hi := fun i hi' b hb => by
    have r := h.inn i hi' (by rw [← h.len]; exact hi')
    exact ⟨(r.own.lt b hb).1, r.blk b hb⟩
  have kin : ∀ i (hi' : i < us.length) b, us[i].ownBlock = some b → hi ≤ b ∧ b < w.heap.size := fun i hi' b hb => by
    have r := k.inn i hi' (by rw [← k.len]; exact hi')
    exact ⟨(r.own.lt b hb).1, (r.own.lt b hb).2⟩
  have hlen : (vs ++ us).length = vs.length + us.length := List.length_append
  have both : ∀ i (hi' : i < (vs ++ us).length) b, (vs ++ us)[i].ownBlock = some b → b < w.heap.size ∧ v.ownBlock ≠ some b := fun i hi' b hb => by
    by_cases e : i < vs.length
    · rw [List.getElem_append_left e] at hb
      exact ⟨Nat.lt_of_lt_of_le (hin i e b hb).2 h.hi_le, h.outer i e b hb⟩
    · rw [List.getElem_append_right (by omega)] at hb
      have := kin (i - vs.length) (by omega) b hb
      exact ⟨this.2, fun hq => by have := hvb b hq; omega⟩
  refine ⟨by rw [hlen]; exact ho, by rw [hlen, List.length_append, h.len, k.len], fun i h1 h2' => ?_, fun j hj => (ho.lt j hj).2, Nat.le_refl _, fun i j hi' hj hne b hb hb2 => ?_, fun i hi' b hb hb2 => ?_⟩
  · by_cases e : i < vs.length
    · have r := h.inn i e (by rw [← h.len]; exact e)
      simp only [List.getElem_append_left e, List.getElem_append_left (show i < xss.length by rw [← h.len]; exact e)]
      exact ⟨row_kept r.own fun j hj => hg.block j (r.own.lt j hj).2 fun e' => h.outer i e j hj e'.symm, fun j hj => Nat.lt_of_lt_of_le (r.blk j hj) (Nat.le_trans h.hi_le hg.size), Nat.le_refl _⟩
    · have hl := h.len
      have e1 : (vs ++ us)[i] = us[i - vs.length]'(by omega) := List.getElem_append_right (by omega)
      have hk : i - vs.length < yss.length := by rw [← k.len]; omega
      have e2 : (xss ++ yss)[i] = yss[i - vs.length] := by rw [List.getElem_append_right (by omega)]; simp only [hl]
      have r := k.inn (i - vs.length) (by omega) hk
      rw [e1, e2]
      exact ⟨ownsBase (row_kept r.own fun j hj => hg.block j (r.own.lt j hj).2 fun e' => by have h3 := hvb j e'.symm; have h4 := (r.own.lt j hj).1; omega) hlo, fun j hj => Nat.lt_of_lt_of_le (r.own.lt j hj).2 hg.size, Nat.le_refl _⟩
  · by_cases e : i < vs.length
    · rw [List.getElem_append_left e] at hb
      by_cases e' : j < vs.length
      · rw [List.getElem_append_left e'] at hb2
        exact h.apart i j e e' hne b hb hb2
      · rw [List.getElem_append_right (by omega)] at hb2
        have := (hin i e b hb).2; have := (kin (j - vs.length) (by omega) b hb2).1; omega
    · rw [List.getElem_append_right (by omega)] at hb
      by_cases e' : j < vs.length
      · rw [List.getElem_append_left e'] at hb2
        have := (hin j e' b hb2).2; have := (kin (i - vs.length) (by omega) b hb).1; omega
      · rw [List.getElem_append_right (by omega)] at hb2
        exact k.apart (i - vs.length) (j - vs.length) (by omega) (by omega) (by omega) b hb hb2
  · obtain ⟨h3, h4⟩ := both i hi' b hb
    rcases hv' b hb2 with h5 | h5
    · exact h4 h5
    · omega
end Go.Proofs.Ytljfiiohiolbnaa

/-
  ROWS READ AS CELLS; the step of an append that tells where its row lies. (Own work.)
-/
namespace Go.Proofs.Ytljfiiohiolbnaa
open Go Go.RowKit

theorem wp_append_own_at {P : Program} (w : World) {o : Oper} {a : Act} {K : Act → World → Prop} {Q : Exit → Act → World → Prop} (s x : Operand) (t : TypeId)
    (ho : o.op = .call { callee := .builtin .append, args := #[s, x], argTypes := #[t, t] })
    (base : Nat) (e : TypeId) (i : TypeInfo) (z : Value) (size bytes : Nat) (ht : P.underlying t = some (.slice e)) (hi : P.info? e = some i) (hz : i.zero = some z)
    (hsize : i.size = size) (hby : i.bytes = bytes) (hzs : z.cells.size = size) (hsz : 0 < size)
    (v : Value) (n : Nat) (xs : List Value) (hs : a.eval s = v) (hown : w.ownsRow base e size v n xs)
    (ad : Addr) (m c : Nat) (news : List Value) (hx : a.eval x = .slice (some ad) m c) (hl : news.length = m * size) (hnews : ∀ j u, news[j]? = some u → w.cell? (ad.add j) = some u) (h1 : ∀ u ∈ news, u.oneCell' = true)
    (h63 : n + m ≤ maxLen) (hbytes : (n + m) * bytes ≤ 140737488355328) (hbase : base ≤ w.heap.size)
    (h : ∀ v' w', w'.ownsRow base e size v' (n + m) (xs ++ news) → w.grownBy w' v.ownBlock → (v' = .slice none 0 0 ↔ v = .slice none 0 0 ∧ m = 0) → (v'.ownBlock = v.ownBlock ∨ v'.ownBlock = some w.heap.size) → K (a.put o.dst v') w') : o.wp P a w K Q := by
  obtain ⟨v', w', hr, h2, h3, h4, h5⟩ := run_append_own_at (P := P) w base t o.type e i z size bytes ht hi hz hsize hby hzs hsz v n xs hown ad m c news hl hnews h1 h63 hbytes hbase
  unfold Oper.wp execOp
  simp only [ho, resolve, invoke, builtin, Sem.run_bind, Sem.run_pure, Result.andThen_ok, List.map_toArray, List.map_cons, List.map_nil, hs, hx, hr]
  exact h v' w' h2 h3 h4 h5
/-- The cells of a row of one's own. -/
theorem row_cells {w : World} {base e g n c : Nat} {xs : List Value} (h : w.ownsRow base e 1 (.slice (some ⟨g, 0, none⟩) n c) n xs) : ∀ j u, xs[j]? = some u → w.cell? ⟨g, 0 + j, none⟩ = some u := by
  intro j u hj
  have hj' : j < n := by
    have h1 := (List.getElem?_eq_some_iff.1 hj).1
    have h2 := h.1
    omega
  rw [Nat.zero_add, h.cellAt j (by omega), hj]
/-- The headers of a list of lists, as cells behind its address. -/
theorem row2_cells {w : World} {lo hi n c : Nat} {ad : Addr} {vs : List Value} {xss : List (List Value)} (h : Rows2 w lo hi (.slice (some ad) n c) vs xss) : ∀ j u, vs[j]? = some u → w.cell? (ad.add j) = some u := by
  intro j u hj
  have hj' : j < vs.length := (List.getElem?_eq_some_iff.1 hj).1
  obtain ⟨hx, hv | ⟨g', cap', cur, hv, h1, h2, h3, h4, h5, h6⟩⟩ := h.own
  · cases hv.1
  · have ho := h.own
    injection hv with hv hv2 hv3
    injection hv with hv
    subst hv hv2 hv3
    have e : (⟨g', 0, none⟩ : Addr).add j = ⟨g', j, none⟩ := by
      unfold Addr.add
      split
      · next h => subst h; rfl
      · simp
    rw [e, ho.cellAt j (by omega), hj]
/-- Each header is one cell. -/
theorem row2_one {w : World} {lo hi : Nat} {v : Value} {vs : List Value} {xss : List (List Value)} (h : Rows2 w lo hi v vs xss) : ∀ u ∈ vs, u.oneCell' = true := by
  intro u hu
  obtain ⟨i, hi', rfl⟩ := List.getElem_of_mem hu
  have r := h.inn i hi' (by rw [← h.len]; exact hi')
  obtain ⟨p, c, e, -⟩ := SlV.of_owns r.own
  rw [e]; rfl
end Go.Proofs.Ytljfiiohiolbnaa

/-
  LISTS OF LISTS OF INTS: the canonical forms that the laws' walks want. (Own work.)
-/
namespace Go.Proofs.Ytljfiiohiolbnaa
open Go Go.RowKit

theorem SsPost.opened {LL : List (List Int)} {w w' : World} {e : Ending} (h : SsPost LL w e w') :
    ∃ a c vs, e = .returned (.slice a LL.length c) ∧ vs.length ≤ LL.length ∧ Rows2 w' w.heap.size w'.heap.size (.slice a LL.length c) vs (LL.map fun L => L.map (Value.int .i64)) ∧ Below w.heap.size w w' := by
  obtain ⟨v, vs, rfl, hr, hb⟩ := h
  obtain ⟨a, c, rfl⟩ := rows2_open hr
  have hn : vs.length = LL.length := by rw [hr.len, List.length_map]
  rw [hn] at hr ⊢
  exact ⟨a, c, vs, rfl, Nat.le_of_eq hn, hr, hb⟩
theorem Rows2.sl2n {w : World} {lo hi : Nat} {a : Option Addr} {n c : Nat} {vs : List Value} {LL : List (List Int)} (h : Rows2 w lo hi (.slice a n c) vs (LL.map fun L => L.map (Value.int .i64))) : Sl2 w a LL := h.sl2
theorem Rows2.num {w : World} {lo hi : Nat} {a : Option Addr} {n c : Nat} {vs : List Value} {xss : List (List Value)} (h : Rows2 w lo hi (.slice a n c) vs xss) : vs.length = n := by
  obtain ⟨a', c', e, -⟩ := SlV.of_owns h.own
  injection e with h1 h2 h3
  exact h2.symm
/-- How many numbers stand in the lists. -/
theorem sum_widths_le {LL : List (List Int)} {q : Nat} (h : ∀ L ∈ LL, L.length ≤ q) : ((LL.map fun L => L.map (Value.int .i64)).map List.length).sum ≤ LL.length * q := by
  induction LL with
  | nil => simp
  | cons L r ih =>
    have h1 := h L (by simp)
    have h2 := ih fun x hx => h x (by simp [hx])
    simp only [List.map_cons, List.sum_cons, List.length_map, List.length_cons]
    rw [Nat.add_mul]
    omega
end Go.Proofs.Ytljfiiohiolbnaa

/-
  THE LIST OF ALL FACTORIZATIONS: how many, how wide. (Own work.)
-/
namespace Go.Proofs.Ytljfiiohiolbnaa
open Go

theorem mem_findF {G : List Int} {m : Nat} {L : List Int} : L ∈ findF G m ↔ (L, 0) ∈ leafs G m := by
  unfold findF
  rw [List.mem_filterMap]
  constructor
  · rintro ⟨⟨P, q⟩, hv, ho⟩
    unfold okF at ho
    simp only at ho
    split at ho
    · next h => cases ho; subst h; exact hv
    · cases ho
  · intro h; exact ⟨_, h, by simp [okF]⟩
theorem factL_sg {G : List Int} {n : Int} {L : List Int} (h : L ∈ factL G n) : isSgB G = true ∧ 0 ≤ n ∧ n ≤ 100 ∧ L ∈ findF G n.toNat := by
  unfold factL at h
  split at h
  · next e =>
    rw [Bool.and_eq_true] at e
    unfold inB at e
    rw [Bool.and_eq_true, decide_eq_true_eq, decide_eq_true_eq] at e
    exact ⟨e.1, e.2.1, e.2.2, h⟩
  · cases h
theorem factL_len (G : List Int) (n : Int) : (factL G n).length ≤ 31381059609 := by
  cases h : factL G n with
  | nil => simp
  | cons a r =>
    obtain ⟨hs, h0, h1, -⟩ := factL_sg (G := G) (n := n) (L := a) (by rw [h]; simp)
    rw [← h]
    unfold factL
    split
    · exact findF_bound hs 0 n.toNat (by omega)
    · simp
theorem factL_width (G : List Int) (n : Int) : ∀ L ∈ factL G n, L.length ≤ 12 := by
  intro L hL
  obtain ⟨hs, h0, h1, h2⟩ := factL_sg hL
  have := leafs_width G n.toNat _ (mem_findF.1 h2)
  have := (isSgB_iff.1 hs).len
  simp only at *
  omega
theorem factL_width20 (G : List Int) (n : Int) : ∀ L ∈ factL G n, L.length ≤ 1048576 := fun L hL => Nat.le_trans (factL_width G n L hL) (by decide)
theorem factL_sum (G : List Int) (n : Int) : (((factL G n).map fun L => L.map (Value.int .i64)).map List.length).sum ≤ 376572715308 :=
  Nat.le_trans (sum_widths_le (factL_width G n)) (Nat.mul_le_mul_right 12 (factL_len G n))
end Go.Proofs.Ytljfiiohiolbnaa

/-
  LENGTHS: no program. The lengths of all factorizations, their differences, the elasticity. (Own work.)
-/
namespace Go.Proofs.Ytljfiiohiolbnaa
open Go

theorem leafs_ent : ∀ (G : List Int) (m : Nat), ∀ v ∈ leafs G m, ∀ x ∈ v.1, 0 ≤ x ∧ x ≤ (m : Int)
  | [], m, v, hv, x, hx => by simp [leafs] at hv; subst hv; simp at hx
  | [g], m, v, hv, x, hx => by
    simp only [leafs, List.mem_singleton] at hv; subst hv
    simp only [List.mem_singleton] at hx; subst hx
    have := Nat.div_le_self m g.toNat
    generalize m / g.toNat = q at *
    omega
  | g :: g2 :: r, m, v, hv, x, hx => by
    rw [leafs, List.mem_flatMap] at hv
    obtain ⟨k, hk, hv⟩ := hv
    obtain ⟨u, hu, rfl⟩ := List.mem_map.1 hv
    unfold downL at hk
    have hk' : k < m / g.toNat + 1 := by simpa using hk
    have h1 := Nat.div_le_self m g.toNat
    simp only [pre1, List.mem_cons] at hx
    rcases hx with rfl | hx
    · omega
    · have := leafs_ent (g2 :: r) (m - k * g.toNat) u hu x hx
      omega
theorem fact_ent {G : List Int} {n : Int} {L : List Int} (h : L ∈ factL G n) : ∀ x ∈ L, 0 ≤ x ∧ x ≤ 100 := by
  obtain ⟨-, h0, h1, h2⟩ := factL_sg h
  intro x hx
  have := leafs_ent G n.toNat _ (mem_findF.1 h2) x hx
  omega
theorem sumI_snoc (L : List Int) (x : Int) : (L ++ [x]).sum = L.sum + x := by
  induction L with
  | nil => simp
  | cons a r ih => rw [List.cons_append, List.sum_cons, List.sum_cons, ih]; omega
theorem sum_take1 {L : List Int} {k : Nat} (hk : k < L.length) : (L.take (k + 1)).sum = (L.take k).sum + L[k] := by
  rw [List.take_add_one, List.getElem?_eq_getElem hk, Option.toList_some, sumI_snoc]
theorem sum_bnd {L : List Int} (h : ∀ x ∈ L, 0 ≤ x ∧ x ≤ 100) : 0 ≤ L.sum ∧ L.sum ≤ 100 * (L.length : Int) := by
  induction L with
  | nil => simp
  | cons a r ih =>
    have h1 := h a (by simp)
    have h2 := ih fun x hx => h x (by simp [hx])
    rw [List.sum_cons, List.length_cons]
    omega
noncomputable def lenL (G : List Int) (n : Int) : List Int := sortL ((factL G n).map List.sum)
theorem mem_lenL {G : List Int} {n x : Int} : x ∈ lenL G n ↔ ∃ L ∈ factL G n, L.sum = x := by
  unfold lenL; rw [(sortL_spec _).2, List.mem_map]
theorem lenL_asc (G : List Int) (n : Int) : Asc (lenL G n) := (sortL_spec _).1
theorem lenL_bnd {G : List Int} {n x : Int} (h : x ∈ lenL G n) : 0 ≤ x ∧ x ≤ 1200 := by
  obtain ⟨L, hL, rfl⟩ := mem_lenL.1 h
  have h1 := sum_bnd (fact_ent hL)
  have h2 := factL_width G n L hL
  omega
theorem asc_len {L : List Int} (h : Asc L) {m : Nat} (hb : ∀ x ∈ L, 0 ≤ x ∧ x < (m : Int)) : L.length ≤ m := by
  have := nodup_lt_len m (L.map Int.toNat) (by
    rw [List.Nodup, List.pairwise_map, List.pairwise_iff_getElem]
    intro i j hi hj hij e
    have h1 := h i j hj hij
    have h2 := hb L[i] (List.getElem_mem hi)
    have h3 := hb L[j] (List.getElem_mem hj)
    omega) (fun x hx => by
    obtain ⟨y, hy, rfl⟩ := List.mem_map.1 hx
    have := hb y hy; omega)
  rw [List.length_map] at this; exact this
theorem nodup_len {L : List Int} (h : L.Nodup) {m : Nat} (hb : ∀ x ∈ L, 0 ≤ x ∧ x < (m : Int)) : L.length ≤ m := by
  have := nodup_lt_len m (L.map Int.toNat) (by
    rw [List.Nodup, List.pairwise_map, List.pairwise_iff_getElem]
    intro i j hi hj hij e
    have h1 := List.pairwise_iff_getElem.1 h i j hi hj hij
    have h2 := hb L[i] (List.getElem_mem hi)
    have h3 := hb L[j] (List.getElem_mem hj)
    omega) (fun x hx => by
    obtain ⟨y, hy, rfl⟩ := List.mem_map.1 hx
    have := hb y hy; omega)
  rw [List.length_map] at this; exact this
theorem lenL_len (G : List Int) (n : Int) : (lenL G n).length ≤ 1201 := asc_len (lenL_asc G n) fun x hx => by have := lenL_bnd hx; omega
/-- What was met so far, each once. -/
structure Once (M K : List Int) : Prop where
  nd : M.Nodup
  mem : ∀ x, x ∈ M ↔ x ∈ K
theorem Once.nil : Once [] [] := ⟨List.nodup_nil, fun _ => Iff.rfl⟩
theorem Once.old {M K : List Int} {x : Int} (h : Once M K) (hx : hasB M x = true) : Once M (K ++ [x]) := by
  unfold hasB at hx
  rw [decide_eq_true_eq] at hx
  refine ⟨h.nd, fun y => ?_⟩
  rw [List.mem_append, List.mem_singleton, h.mem]
  constructor
  · exact .inl
  · rintro (h1 | rfl)
    · exact h1
    · exact (h.mem _).1 hx
theorem Once.new {M K : List Int} {x : Int} (h : Once M K) (hx : hasB M x = false) : Once (M ++ [x]) (K ++ [x]) := by
  unfold hasB at hx
  rw [decide_eq_false_iff_not] at hx
  refine ⟨?_, fun y => by rw [List.mem_append, List.mem_append, h.mem]⟩
  rw [List.nodup_append]
  exact ⟨h.nd, by simp, fun a ha b hb => by rw [List.mem_singleton] at hb; subst hb; intro e; exact hx (e ▸ ha)⟩
theorem Once.sort {M K : List Int} (h : Once M K) : sortL M = sortL K := asc_unique (sortL_spec M).1 (sortL_spec K).1 fun x => by rw [(sortL_spec M).2, (sortL_spec K).2, h.mem]
theorem Once.len {M K : List Int} (h : Once M K) {m : Nat} (hb : ∀ x ∈ K, 0 ≤ x ∧ x < (m : Int)) : M.length ≤ m := nodup_len h.nd fun x hx => hb x ((h.mem x).1 hx)
/-- The differences of neighbours. -/
def diffsL (M : List Int) : List Int := (List.range (M.length - 1)).map fun i => M.getD (i + 1) 0 - M.getD i 0
noncomputable def deltaL (G : List Int) (n : Int) : List Int := sortL (diffsL (lenL G n))
noncomputable def elaA (G : List Int) (n : Int) : Int := if (lenL G n).length = 0 then 0 else lowA ((lenL G n).getD ((lenL G n).length - 1) 0) ((lenL G n).getD 0 0)
noncomputable def elaB (G : List Int) (n : Int) : Int := if (lenL G n).length = 0 then 0 else lowB ((lenL G n).getD ((lenL G n).length - 1) 0) ((lenL G n).getD 0 0)
noncomputable def deltasL (G : List Int) (most : Int) : List Int := if inB most 0 100 then sortL ((List.range (most.toNat + 1)).flatMap fun (k : Nat) => deltaL G (k : Int)) else []
end Go.Proofs.Ytljfiiohiolbnaa

/-
  A ROW OF INTS THAT GROWS WHILE A LIST OF LISTS THAT A CALL MADE IS READ. (Own work.)
-/
namespace Go.Proofs.Ytljfiiohiolbnaa
open Go Go.RowKit

/-- The row v (its numbers: M) grows in a memory in which the lists F lie, made between W and w1. -/
structure Beside (w : World) (p q : Nat) (F : List (List Int)) (a : Option Addr) (c : Nat) (vs : List Value) (wr : World) (v : Value) (M : List Int) : Prop where
  own : wr.ownsRow w.heap.size 3 1 v M.length (M.map (Value.int .i64))
  far : ∀ b, v.ownBlock = some b → b < p ∨ q ≤ b
  rows : Rows2 wr p q (.slice a F.length c) vs (F.map fun L => L.map (Value.int .i64))
  bel : Below w.heap.size w wr
section
variable {w wr w2 : World} {p q : Nat} {F : List (List Int)} {a : Option Addr} {c : Nat} {vs : List Value} {v v2 : Value} {M : List Int}
theorem Beside.grow (h : Beside w p q F a c vs wr v M) (o : Obj) (x : Int) (ho : w2.ownsRow w.heap.size 3 1 v2 (M.length + 1) (M.map (Value.int .i64) ++ [.int .i64 x])) (hg : (wr.alloc o).grownBy w2 v.ownBlock)
    (hat : v2.ownBlock = v.ownBlock ∨ v2.ownBlock = some (wr.alloc o).heap.size) : Beside w p q F a c vs w2 v2 (M ++ [x]) := by
  have hz := h.rows.hi_le
  refine ⟨by simpa using ho, fun b hb => ?_, ?_, (h.bel.alloc h.bel.size o).grown hg (Nat.le_trans h.bel.size (by simp)) fun j hj => (h.own.lt j hj).1⟩
  · rcases hat with h1 | h1
    · exact h.far b (by rw [← h1]; exact hb)
    · rw [h1] at hb; cases hb; right; simp; omega
  · exact (h.rows.below ((Below.refl _ _).alloc (Nat.le_refl _) o)).grown hg h.far
theorem Beside.below (h : Beside w p q F a c vs wr v M) (hb : Below wr.heap.size wr w2) : Beside w p q F a c vs w2 v M :=
  ⟨owns_below h.own hb, h.far, h.rows.below hb, h.bel.trans (hb.mono h.bel.size)⟩
theorem Beside.at (h : Beside w p q F a c vs wr v M) {k : Nat} (hk : k < F.length) :
    ∃ b o u d, a = some ⟨b, o, none⟩ ∧ wr.cell? ⟨b, o + k, none⟩ = some (.slice u F[k].length d) ∧ SlV wr u (F[k].map (Value.int .i64)) := by
  obtain ⟨b, o, u, d, h1, -, h3, h4⟩ := h.rows.sl2n.at hk
  exact ⟨b, o, u, d, h1, h3, h4⟩
end
end Go.Proofs.Ytljfiiohiolbnaa

/-
  A ROW OF INTS THAT GROWS WHILE ANOTHER THAT A CALL MADE IS READ. (Own work.)
-/
namespace Go.Proofs.Ytljfiiohiolbnaa
open Go Go.RowKit

structure Beside1 (w : World) (p q : Nat) (L : List Int) (a : Option Addr) (c : Nat) (wr : World) (v : Value) (M : List Int) : Prop where
  own : wr.ownsRow w.heap.size 3 1 v M.length (M.map (Value.int .i64))
  far : ∀ b, v.ownBlock = some b → b < p ∨ q ≤ b
  row : Row wr p q (.slice a L.length c) L.length (L.map (Value.int .i64))
  bel : Below w.heap.size w wr
section
variable {w wr w2 : World} {p q : Nat} {L : List Int} {a : Option Addr} {c : Nat} {v v2 : Value} {M : List Int}
theorem Beside1.grow (h : Beside1 w p q L a c wr v M) (o : Obj) (x : Int) (ho : w2.ownsRow w.heap.size 3 1 v2 (M.length + 1) (M.map (Value.int .i64) ++ [.int .i64 x])) (hg : (wr.alloc o).grownBy w2 v.ownBlock)
    (hat : v2.ownBlock = v.ownBlock ∨ v2.ownBlock = some (wr.alloc o).heap.size) : Beside1 w p q L a c w2 v2 (M ++ [x]) := by
  have hz := h.row.hi_le
  refine ⟨by simpa using ho, fun b hb => ?_, ?_, (h.bel.alloc h.bel.size o).grown hg (Nat.le_trans h.bel.size (by simp)) fun j hj => (h.own.lt j hj).1⟩
  · rcases hat with h1 | h1
    · exact h.far b (by rw [← h1]; exact hb)
    · rw [h1] at hb; cases hb; right; simp; omega
  · exact (h.row.below ((Below.refl _ _).alloc (Nat.le_refl _) o)).grown hg h.far
theorem Beside1.drew (h : Beside1 w p q L a c wr v M) : Beside1 w p q L a c wr.drew v M := ⟨h.own, h.far, ⟨h.row.own, h.row.blk, h.row.hi_le⟩, h.bel.drew⟩
/-- Where the row that is read lies: all its cells; the row that grows lies elsewhere. -/
theorem Beside1.at (h : Beside1 w p q L a c wr v M) (hL : L ≠ []) :
    ∃ b o, a = some ⟨b, o, none⟩ ∧ b < wr.heap.size ∧ v.ownBlock ≠ some b ∧ ∀ (k : Nat) (hk : k < L.length), wr.cell? ⟨b, o + k, none⟩ = some (.int .i64 L[k]) := by
  have hs := h.row.slv
  obtain ⟨b, o, rfl, hlt, hc⟩ := hs.open (by intro e; rw [List.map_eq_nil_iff] at e; exact hL e)
  refine ⟨b, o, rfl, hlt, fun e => ?_, fun k hk => hc k _ (by simp [hk])⟩
  have h1 := (h.row.own.lt b (by simp [Value.ownBlock]))
  have h2 := h.row.blk b (by simp [Value.ownBlock])
  have h3 := h.far b e
  omega
end
theorem keepC {w' : World} {b o1 o2 : Nat} {v1 v2 : Value} (h : w'.cell? ⟨b, o1, none⟩ = some v1 ∧ w'.cell? ⟨b, o2, none⟩ = some v2) (hb : b < w'.heap.size) (o : Obj) : (w'.alloc o).cell? ⟨b, o1, none⟩ = some v1 ∧ (w'.alloc o).cell? ⟨b, o2, none⟩ = some v2 :=
  ⟨(World.cell?_alloc_lt w' _ ⟨b, o1, none⟩ hb).trans h.1, (World.cell?_alloc_lt w' _ ⟨b, o2, none⟩ hb).trans h.2⟩
theorem keepGr {w' w2 : World} {b o1 o2 : Nat} {v1 v2 : Value} {row : Option Nat} (h : w'.cell? ⟨b, o1, none⟩ = some v1 ∧ w'.cell? ⟨b, o2, none⟩ = some v2) (hg : w'.grownBy w2 row) (hr : row ≠ some b) : w2.cell? ⟨b, o1, none⟩ = some v1 ∧ w2.cell? ⟨b, o2, none⟩ = some v2 :=
  ⟨hg.cell h.1 fun e => hr e.symm, hg.cell h.2 fun e => hr e.symm⟩
def diffsK (M : List Int) (k : Nat) : List Int := (List.range k).map fun i => M.getD (i + 1) 0 - M.getD i 0
theorem diffsK_succ {M : List Int} {k : Nat} (hk : k + 1 < M.length) : diffsK M (k + 1) = diffsK M k ++ [M[k + 1] - M[k]] := by
  unfold diffsK
  rw [List.range_succ, List.map_append, List.map_singleton, List.getD_eq_getElem?_getD, List.getD_eq_getElem?_getD, List.getElem?_eq_getElem hk, List.getElem?_eq_getElem (by omega)]; rfl
theorem diffsK_len (M : List Int) (k : Nat) : (diffsK M k).length = k := by unfold diffsK; simp
theorem diffs_all (M : List Int) : diffsK M (M.length - 1) = diffsL M := rfl
end Go.Proofs.Ytljfiiohiolbnaa

/-
  LENGTHS: no program. Values of the factorizations; the least and the greatest length. (Own work.)
-/
namespace Go.Proofs.Ytljfiiohiolbnaa
open Go

theorem leafs_dot : ∀ (G : List Int) (m : Nat), (∀ g ∈ G, 1 ≤ g) → ∀ v ∈ leafs G m, dotL v.1 G + (v.2 : Int) = (m : Int)
  | [], m, _, v, hv => by simp only [leafs, List.mem_singleton] at hv; subst hv; simp [dotL]
  | [g], m, hg, v, hv => by
    simp only [leafs, List.mem_singleton] at hv; subst hv
    have h1 := hg g (by simp)
    have h2 := Nat.div_add_mod m g.toNat
    simp only [dotL_cons, dotL_nil]
    have h3 : ((m / g.toNat : Nat) : Int) * g = ((g.toNat * (m / g.toNat) : Nat) : Int) := by
      rw [Int.natCast_mul, Int.toNat_of_nonneg (by omega), Int.mul_comm]
    rw [h3]
    generalize g.toNat * (m / g.toNat) = p at *
    generalize m % g.toNat = r at *
    omega
  | g :: g2 :: r, m, hg, v, hv => by
    rw [leafs, List.mem_flatMap] at hv
    obtain ⟨k, hk, hv⟩ := hv
    obtain ⟨u, hu, rfl⟩ := List.mem_map.1 hv
    have ih := leafs_dot (g2 :: r) (m - k * g.toNat) (fun x hx => hg x (by simp only [List.mem_cons] at hx ⊢; exact .inr hx)) u hu
    have h1 := hg g (by simp)
    unfold downL at hk
    have hk' : k < m / g.toNat + 1 := by simpa using hk
    have h2 : k * g.toNat ≤ m := Nat.le_trans (Nat.mul_le_mul_right _ (Nat.le_of_lt_succ hk')) (Nat.div_mul_le_self m g.toNat)
    have h3 : (k : Int) * g = ((k * g.toNat : Nat) : Int) := by rw [Int.natCast_mul, Int.toNat_of_nonneg (by omega)]
    simp only [pre1, dotL_cons]
    rw [h3]
    generalize k * g.toNat = p at *
    omega
theorem fact_dot {G : List Int} {n : Int} {L : List Int} (h : L ∈ factL G n) : dotL L G = n ∧ L.length = G.length := by
  obtain ⟨hs, h0, h1, h2⟩ := factL_sg h
  have hm := mem_findF.1 h2
  have hd := leafs_dot G n.toNat (fun g hg => ((isSgB_iff.1 hs).bounds g hg).1) _ hm
  have hw := leafs_width G n.toNat _ hm
  simp only at hd hw
  exact ⟨by omega, hw⟩
theorem dotL_zero : ∀ (L G : List Int), (∀ x ∈ L, x = 0) → dotL L G = 0
  | [], G, _ => dotL_nil G
  | x :: L, [], _ => by simp [dotL]
  | x :: L, g :: G, h => by rw [dotL_cons, dotL_zero L G fun y hy => h y (by simp [hy]), h x (by simp)]; simp
theorem sum_zero {L : List Int} (h : ∀ x ∈ L, 0 ≤ x) (hs : L.sum ≤ 0) : ∀ x ∈ L, x = 0 := by
  induction L with
  | nil => simp
  | cons a r ih =>
    have h1 := h a (by simp)
    have h2 : 0 ≤ r.sum := by
      have h' : ∀ x ∈ r, 0 ≤ x := fun x hx => h x (by simp [hx])
      clear ih hs
      induction r with
      | nil => simp
      | cons b r ih2 => rw [List.sum_cons]; have := ih2 (fun x hx => h x (by simp only [List.mem_cons] at hx ⊢; rcases hx with h | h; exact .inl h; exact .inr (.inr h))) (fun x hx => h' x (by simp [hx])); have := h' b (by simp); omega
    rw [List.sum_cons] at hs
    intro x hx
    rcases List.mem_cons.1 hx with rfl | hx
    · omega
    · exact ih (fun x hx => h x (by simp [hx])) (by omega) x hx
theorem lenL_pos {G : List Int} {n x : Int} (h : x ∈ lenL G n) (hn : n ≠ 0) : 1 ≤ x := by
  obtain ⟨L, hL, rfl⟩ := mem_lenL.1 h
  have h1 := (sum_bnd (fact_ent hL)).1
  have h2 := (fact_dot hL).1
  by_cases h3 : L.sum ≤ 0
  · have h4 := sum_zero (fun x hx => (fact_ent hL x hx).1) h3
    rw [dotL_zero L G h4] at h2
    omega
  · omega
theorem lenL_zero {G : List Int} {x : Int} (h : x ∈ lenL G 0) : x = 0 := by
  obtain ⟨L, hL, rfl⟩ := mem_lenL.1 h
  obtain ⟨-, h0, h1, h2⟩ := factL_sg hL
  have h3 : ∀ x ∈ L, x = 0 := fun x hx => by have := leafs_ent G (0 : Int).toNat _ (mem_findF.1 h2) x hx; simp at this; omega
  clear h h2 hL
  induction L with
  | nil => rfl
  | cons a r ih => rw [List.sum_cons, h3 a (by simp), ih fun x hx => h3 x (by simp [hx])]; rfl
theorem low_zero : lowA ((0 : Nat) : Int) ((0 : Nat) : Int) = 0 ∧ lowB ((0 : Nat) : Int) ((0 : Nat) : Int) = 0 := by
  refine low_no ?_
  rw [gcdOf_in (small_iff.2 ⟨by omega, by omega⟩) (small_iff.2 ⟨by omega, by omega⟩)]; rfl
theorem ela_none {G : List Int} {n : Int} (h : (lenL G n).length = 0) : elaA G n = 0 ∧ elaB G n = 0 := by unfold elaA elaB; rw [if_pos h, if_pos h]; exact ⟨rfl, rfl⟩
theorem ela_ends {G : List Int} {n : Int} (h : (lenL G n).length ≠ 0) : ∃ p x y : Nat, p + 1 ≤ (lenL G n).length ∧ (lenL G n).length ≤ p + 1 ∧ (lenL G n)[p]? = some (x : Int) ∧ (lenL G n)[0]? = some (y : Int) ∧ x ≤ 1200 ∧ y ≤ 1200 ∧
    elaA G n = lowA x y ∧ elaB G n = lowB x y ∧ (n ≠ 0 → 1 ≤ x) ∧ (n = 0 → x = 0 ∧ y = 0) := by
  have hl : 1 ≤ (lenL G n).length := by omega
  have m1 := List.getElem_mem (l := lenL G n) (n := (lenL G n).length - 1) (by omega)
  have m2 := List.getElem_mem (l := lenL G n) (n := 0) (by omega)
  have h1 := lenL_bnd m1
  have h2 := lenL_bnd m2
  have e1 : (lenL G n).getD ((lenL G n).length - 1) 0 = (lenL G n)[(lenL G n).length - 1] := by rw [List.getD_eq_getElem?_getD, List.getElem?_eq_getElem (by omega)]; rfl
  have e2 : (lenL G n).getD 0 0 = (lenL G n)[0] := by rw [List.getD_eq_getElem?_getD, List.getElem?_eq_getElem (by omega)]; rfl
  refine ⟨(lenL G n).length - 1, (lenL G n)[(lenL G n).length - 1].toNat, (lenL G n)[0].toNat, by omega, by omega, ?_, ?_, by omega, by omega, ?_, ?_, fun hn => ?_, fun hn => ?_⟩
  · rw [List.getElem?_eq_getElem (by omega)]; congr 1; omega
  · rw [List.getElem?_eq_getElem (by omega)]; congr 1; omega
  · unfold elaA; rw [if_neg h, e1, e2, Int.toNat_of_nonneg (by omega), Int.toNat_of_nonneg (by omega)]
  · unfold elaB; rw [if_neg h, e1, e2, Int.toNat_of_nonneg (by omega), Int.toNat_of_nonneg (by omega)]
  · have := lenL_pos m1 hn; omega
  · subst hn; have := lenL_zero m1; have := lenL_zero m2; omega
end Go.Proofs.Ytljfiiohiolbnaa

/-
  DELTA SETS: no program. (Own work.)
-/
namespace Go.Proofs.Ytljfiiohiolbnaa
open Go Go.RowKit

theorem mem_diffsL {L : List Int} {x : Int} : x ∈ diffsL L ↔ ∃ i, ∃ h : i + 1 < L.length, x = L[i + 1] - L[i] := by
  unfold diffsL
  rw [List.mem_map]
  constructor
  · rintro ⟨i, hi, rfl⟩
    have hi' : i < L.length - 1 := by simpa using hi
    refine ⟨i, by omega, ?_⟩
    rw [List.getD_eq_getElem?_getD, List.getD_eq_getElem?_getD, List.getElem?_eq_getElem (by omega), List.getElem?_eq_getElem (by omega)]; rfl
  · rintro ⟨i, h, rfl⟩
    refine ⟨i, by simp; omega, ?_⟩
    rw [List.getD_eq_getElem?_getD, List.getD_eq_getElem?_getD, List.getElem?_eq_getElem (by omega), List.getElem?_eq_getElem (by omega)]; rfl
theorem mem_deltaL {G : List Int} {n x : Int} : x ∈ deltaL G n ↔ ∃ i, ∃ h : i + 1 < (lenL G n).length, x = (lenL G n)[i + 1] - (lenL G n)[i] := by
  unfold deltaL; rw [(sortL_spec _).2, mem_diffsL]
theorem deltaL_asc (G : List Int) (n : Int) : Asc (deltaL G n) := (sortL_spec _).1
theorem deltaL_bnd {G : List Int} {n x : Int} (h : x ∈ deltaL G n) : 1 ≤ x ∧ x ≤ 1200 := by
  obtain ⟨i, hi, rfl⟩ := mem_deltaL.1 h
  have h1 := lenL_bnd (List.getElem_mem hi)
  have h2 := lenL_bnd (List.getElem_mem (show i < (lenL G n).length by omega))
  have h3 := lenL_asc G n i (i + 1) hi (by omega)
  omega
theorem deltaL_len (G : List Int) (n : Int) : (deltaL G n).length ≤ 1201 := asc_len (deltaL_asc G n) fun x hx => by have := deltaL_bnd hx; omega
theorem deltaL_no {G : List Int} (n : Int) (h : isSgB G = false) : deltaL G n = [] := by
  have h1 : factL G n = [] := by unfold factL; simp [h]
  unfold deltaL lenL
  rw [h1]; rfl
noncomputable def upD (G : List Int) (k : Nat) : List Int := (List.range k).flatMap fun (i : Nat) => deltaL G (i : Int)
theorem upD_succ (G : List Int) (k : Nat) : upD G (k + 1) = upD G k ++ deltaL G (k : Int) := by
  unfold upD
  rw [List.range_succ, List.flatMap_append, List.flatMap_singleton]
theorem upD_len (G : List Int) (k : Nat) : (upD G k).length ≤ 1201 * k := by
  induction k with
  | zero => simp [upD]
  | succ k ih => rw [upD_succ, List.length_append]; have := deltaL_len G (k : Int); omega
theorem upD_bnd {G : List Int} {k : Nat} {x : Int} (h : x ∈ upD G k) : 1 ≤ x ∧ x ≤ 1200 := by
  unfold upD at h
  obtain ⟨i, -, hi⟩ := List.mem_flatMap.1 h
  exact deltaL_bnd hi
theorem upD_no {G : List Int} (k : Nat) (h : isSgB G = false) : upD G k = [] := by
  induction k with
  | zero => rfl
  | succ k ih => rw [upD_succ, ih, deltaL_no _ h]; rfl
theorem deltasL_yes {G : List Int} {m : Nat} (h : inB (m : Int) 0 100 = true) : deltasL G (m : Int) = sortL (upD G (m + 1)) := by
  unfold deltasL; rw [if_pos h, Int.toNat_natCast]; rfl
theorem deltasL_out {G : List Int} {m : Int} (h : inB m 0 100 = false) : deltasL G m = [] := by
  unfold deltasL; rw [h]; rfl
theorem deltasL_no {G : List Int} (m : Int) (h : isSgB G = false) : deltasL G m = [] := by
  unfold deltasL
  split
  · exact congrArg sortL (upD_no _ h)
  · rfl
theorem deltasL_len (G : List Int) (m : Int) : (deltasL G m).length ≤ 1201 := by
  unfold deltasL
  split
  · exact asc_len (sortL_spec _).1 fun x hx => by have := upD_bnd ((sortL_spec _).2 x |>.1 hx); omega
  · simp
/-- A row of one's own: none at all, or cells behind an address. -/
theorem own_cases {w : World} {base : Nat} {v : Value} {n : Nat} {xs : List Value} (h : w.ownsRow base 3 1 v n xs) :
    (v = .slice none 0 0 ∧ n = 0) ∨ ∃ g c, v = .slice (some ⟨g, 0, none⟩) n c ∧ ∀ j u, xs[j]? = some u → w.cell? ((⟨g, 0, none⟩ : Addr).add j) = some u := by
  have h' := h
  obtain ⟨hl, hv⟩ := h
  rcases hv with ⟨rfl, rfl⟩ | ⟨g, c, cur, rfl, -⟩
  · exact .inl ⟨rfl, rfl⟩
  · refine .inr ⟨g, c, rfl, fun j u hu => ?_⟩
    have e : (⟨g, 0, none⟩ : Addr).add j = ⟨g, j, none⟩ := by unfold Addr.add; split <;> simp_all
    rw [e]; exact (owns_facts h').2.2.2.2.2 j u hu
end Go.Proofs.Ytljfiiohiolbnaa

/-
  WHAT THE LAW FnLengths SAYS OF THE MODELS: no program. (Own work.)
-/
namespace Go.Proofs.Ytljfiiohiolbnaa
open Go

noncomputable def gch (G : List Int) (k : Nat) : Int := (diffsK G k).foldl gcdOf 0
theorem gch_succ {G : List Int} {k : Nat} (hk : k + 1 < G.length) : gch G (k + 1) = gcdOf (gch G k) (G[k + 1] - G[k]) := by
  unfold gch; rw [diffsK_succ hk, List.foldl_append]; rfl
theorem gch_bnd (G : List Int) (k : Nat) : 0 ≤ gch G k ∧ gch G k ≤ 1000000 := by
  suffices h : ∀ (L : List Int) (a : Int), 0 ≤ a ∧ a ≤ 1000000 → 0 ≤ L.foldl gcdOf a ∧ L.foldl gcdOf a ≤ 1000000 from h _ 0 (by omega)
  intro L
  induction L with
  | nil => intro a h; exact h
  | cons x r ih => intro a _; exact ih _ (gcdOf_bounds a x)
theorem gcdOf_dvd2 {a b : Int} (ha : small a = true) (hb : small b = true) : gcdOf a b ∣ a ∧ gcdOf a b ∣ b := by
  rw [gcdOf_in ha hb]
  exact ⟨Int.dvd_natAbs.1 (Int.natCast_dvd_natCast.2 (Nat.gcd_dvd_left _ _)), Int.dvd_natAbs.1 (Int.natCast_dvd_natCast.2 (Nat.gcd_dvd_right _ _))⟩
theorem dvd_gcdOf {a b e : Int} (ha : e ∣ a) (hb : e ∣ b) : e ∣ gcdOf a b := by
  unfold gcdOf
  split
  · exact Int.natAbs_dvd.1 (Int.natCast_dvd_natCast.2 (Nat.dvd_gcd (Int.natAbs_dvd_natAbs.2 ha) (Int.natAbs_dvd_natAbs.2 hb)))
  · exact Int.dvd_zero e
theorem dvd_gcdL {G : List Int} {e : Int} (h : ∀ g ∈ G, e ∣ g) : e ∣ gcdL G := by
  unfold gcdL
  suffices hs : ∀ (L : List Int) (a : Int), e ∣ a → (∀ g ∈ L, e ∣ g) → e ∣ L.foldl gcdOf a from hs G 0 (Int.dvd_zero e) h
  intro L
  induction L with
  | nil => intro a h _; exact h
  | cons x r ih => intro a h1 h2; exact ih _ (dvd_gcdOf h1 (h2 x (by simp))) fun g hg => h2 g (by simp [hg])
theorem gch_dvd {G : List Int} (hG : ∀ g ∈ G, 1 ≤ g ∧ g ≤ 60) : ∀ (k : Nat), k < G.length → ∀ i, i ≤ k → ∀ (hi : i < G.length) (h0 : 0 < G.length), gch G k ∣ G[i] - G[0]
  | 0, _, i, hik, hi, h0 => by
    obtain rfl : i = 0 := by omega
    rw [Int.sub_self]; exact Int.dvd_zero _
  | k + 1, hk, i, hik, hi, h0 => by
    have hb := gch_bnd G k
    have h1 := hG G[k + 1] (List.getElem_mem hk)
    have h2 := hG G[k] (List.getElem_mem (by omega))
    have hd := gcdOf_dvd2 (a := gch G k) (b := G[k + 1] - G[k]) (small_iff.2 ⟨by omega, by omega⟩) (small_iff.2 ⟨by omega, by omega⟩)
    rw [gch_succ hk]
    by_cases h : i ≤ k
    · exact Int.dvd_trans hd.1 (gch_dvd hG k (by omega) i h hi h0)
    · obtain rfl : i = k + 1 := by omega
      have h3 := Int.dvd_trans hd.1 (gch_dvd hG k (by omega) k (Nat.le_refl _) (by omega) h0)
      have := Int.dvd_add hd.2 h3
      rw [show G[k + 1] - G[k] + (G[k] - G[0]) = G[k + 1] - G[0] by omega] at this
      exact this
theorem dot_mod {D g0 : Int} : ∀ (L G : List Int), L.length = G.length → (∀ g ∈ G, D ∣ g - g0) → D ∣ dotL L G - L.sum * g0
  | [], [], _, _ => by simp [dotL]
  | x :: L, g :: G, hl, h => by
    have ih := dot_mod L G (by simpa using hl) fun y hy => h y (by simp [hy])
    have h1 : D ∣ x * (g - g0) := Int.dvd_trans (h g (by simp)) (Int.dvd_mul_left _ _)
    rw [dotL_cons, List.sum_cons]
    have := Int.dvd_add h1 ih
    rw [show x * (g - g0) + (dotL L G - L.sum * g0) = x * g + dotL L G - (x + L.sum) * g0 by rw [Int.mul_sub, Int.add_mul]; omega] at this
    exact this
  | [], _ :: _, h, _ => by simp at h
  | _ :: _, [], h, _ => by simp at h
theorem delta_law {G : List Int} {n x : Int} (h : x ∈ deltaL G n) : gch G (G.length - 1) ≠ 0 ∧ x.tmod (gch G (G.length - 1)) = 0 := by
  have hx := deltaL_bnd h
  obtain ⟨i, hi, hxe⟩ := mem_deltaL.1 h
  obtain ⟨L, hL, hLs⟩ := mem_lenL.1 (List.getElem_mem hi)
  obtain ⟨M, hM, hMs⟩ := mem_lenL.1 (List.getElem_mem (show i < (lenL G n).length by omega))
  have hs := (factL_sg hL).1
  have hS := isSgB_iff.1 hs
  have h0 : 0 < G.length := (okG_iff.1 hS.ok).2.1
  have hbd := hS.bounds
  obtain ⟨D, hD⟩ : ∃ D, D = gch G (G.length - 1) := ⟨_, rfl⟩
  rw [← hD]
  have hDb := gch_bnd G (G.length - 1)
  rw [← hD] at hDb
  have hall : ∀ g ∈ G, D ∣ g - G[0] := fun g hg => by
    obtain ⟨j, hj, rfl⟩ := List.getElem_of_mem hg
    rw [hD]; exact gch_dvd hbd _ (by omega) j (by omega) hj h0
  have h1 := dot_mod L G (fact_dot hL).2 hall
  have h2 := dot_mod M G (fact_dot hM).2 hall
  rw [(fact_dot hL).1, hLs] at h1
  rw [(fact_dot hM).1, hMs] at h2
  have h3 : D ∣ x * G[0] := by
    have := Int.dvd_sub h2 h1
    rw [show n - (lenL G n)[i] * G[0] - (n - (lenL G n)[i + 1] * G[0]) = x * G[0] by rw [hxe, Int.sub_mul]; omega] at this
    exact this
  have hg0 := hbd G[0] (List.getElem_mem h0)
  have hcop : Nat.Coprime D.natAbs G[0].natAbs := by
    have he : ((Nat.gcd D.natAbs G[0].natAbs : Nat) : Int) ∣ gcdL G := dvd_gcdL fun g hg => by
      have e1 : ((Nat.gcd D.natAbs G[0].natAbs : Nat) : Int) ∣ D := Int.dvd_natAbs.1 (Int.natCast_dvd_natCast.2 (Nat.gcd_dvd_left _ _))
      have e2 : ((Nat.gcd D.natAbs G[0].natAbs : Nat) : Int) ∣ G[0] := Int.dvd_natAbs.1 (Int.natCast_dvd_natCast.2 (Nat.gcd_dvd_right _ _))
      have := Int.dvd_add (Int.dvd_trans e1 (hall g hg)) e2
      rw [show g - G[0] + G[0] = g by omega] at this
      exact this
    rw [hS.gcd] at he
    have : Nat.gcd D.natAbs G[0].natAbs ∣ 1 := Int.natCast_dvd_natCast.1 he
    exact Nat.dvd_one.1 this
  have h4 : D ∣ x := by
    have h5 : D.natAbs ∣ x.natAbs * G[0].natAbs := by rw [← Int.natAbs_mul]; exact Int.natAbs_dvd_natAbs.2 h3
    exact Int.natAbs_dvd_natAbs.1 (hcop.dvd_of_dvd_mul_right h5)
  constructor
  · intro e; rw [e] at h4; have := Int.zero_dvd.1 h4; omega
  · exact Int.tmod_eq_zero_of_dvd h4
theorem dot_le {lo hi : Int} : ∀ (L G : List Int), L.length = G.length → (∀ x ∈ L, 0 ≤ x) → (∀ g ∈ G, lo ≤ g ∧ g ≤ hi) → L.sum * lo ≤ dotL L G ∧ dotL L G ≤ L.sum * hi
  | [], [], _, _, _ => by simp [dotL]
  | x :: L, g :: G, hl, hx, hg => by
    have ih := dot_le L G (by simpa using hl) (fun y hy => hx y (by simp [hy])) fun y hy => hg y (by simp [hy])
    have h1 := hx x (by simp)
    have h2 := hg g (by simp)
    have h3 := Int.mul_le_mul_of_nonneg_left h2.1 h1
    have h4 := Int.mul_le_mul_of_nonneg_left h2.2 h1
    rw [dotL_cons, List.sum_cons, Int.add_mul, Int.add_mul]
    omega
  | [], _ :: _, h, _, _ => by simp at h
  | _ :: _, [], h, _, _ => by simp at h
/-- Division by a common divisor keeps the order of the two products. -/
theorem low_le {a b p q : Nat} (ha : a ≤ 1200) (hb : b ≤ 1200) (hp : p ≤ 60) (hq : q ≤ 60) (h : a * q ≤ b * p) (ha1 : 1 ≤ a) (hp1 : 1 ≤ p) : lowA a b * lowB p q ≤ lowB a b * lowA p q := by
  obtain ⟨d, hd, hd1⟩ := gcd_nat a b
  obtain ⟨e, he, he1⟩ := gcd_nat p q
  have hdz : d ≠ 0 := fun z => gcd_pos ha1 (by omega) (by omega : b ≤ 1000000) (by rw [hd, z])
  have hez : e ≠ 0 := fun z => gcd_pos hp1 (by omega) (by omega : q ≤ 1000000) (by rw [he, z])
  have sa : ∀ m : Nat, m ≤ 1000000 → small (m : Int) = true := fun m hm => small_iff.2 ⟨by omega, by omega⟩
  have d1 := gcdOf_dvd2 (sa a (by omega)) (sa b (by omega))
  have d2 := gcdOf_dvd2 (sa p (by omega)) (sa q (by omega))
  rw [hd] at d1
  rw [he] at d2
  obtain ⟨a', rfl⟩ := Int.natCast_dvd_natCast.1 d1.1
  obtain ⟨b', rfl⟩ := Int.natCast_dvd_natCast.1 d1.2
  obtain ⟨p', rfl⟩ := Int.natCast_dvd_natCast.1 d2.1
  obtain ⟨q', rfl⟩ := Int.natCast_dvd_natCast.1 d2.2
  obtain ⟨l1, l2⟩ := low_yes hd hdz
  obtain ⟨l3, l4⟩ := low_yes he hez
  rw [l1, l2, l3, l4, Nat.mul_div_cancel_left _ (by omega), Nat.mul_div_cancel_left _ (by omega), Nat.mul_div_cancel_left _ (by omega), Nat.mul_div_cancel_left _ (by omega)]
  have h2 : d * e * (a' * q') ≤ d * e * (b' * p') := by
    calc d * e * (a' * q') = d * a' * (e * q') := by ac_rfl
      _ ≤ d * b' * (e * p') := h
      _ = d * e * (b' * p') := by ac_rfl
  have h3 : a' * q' ≤ b' * p' := Nat.le_of_mul_le_mul_left h2 (Nat.mul_pos (by omega) (by omega))
  exact_mod_cast h3
theorem low_bnd (a b : Nat) (ha : a ≤ 1200) (hb : b ≤ 1200) : 0 ≤ lowA a b ∧ lowA a b ≤ 1200 ∧ 0 ≤ lowB a b ∧ lowB a b ≤ 1200 := by
  obtain ⟨d, hd, hd1⟩ := gcd_nat a b
  by_cases hz : d = 0
  · subst hz; obtain ⟨l1, l2⟩ := low_no hd; rw [l1, l2]; omega
  · obtain ⟨l1, l2⟩ := low_yes hd hz
    rw [l1, l2]
    have := Nat.div_le_self a d
    have := Nat.div_le_self b d
    generalize a / d = x at *
    generalize b / d = y at *
    omega
theorem ela_bnd (G : List Int) (n : Int) : 0 ≤ elaA G n ∧ elaA G n ≤ 1200 ∧ 0 ≤ elaB G n ∧ elaB G n ≤ 1200 := by
  by_cases h : (lenL G n).length = 0
  · rw [(ela_none h).1, (ela_none h).2]; omega
  · obtain ⟨p, x, y, -, -, -, -, hx, hy, hA, hB, -⟩ := ela_ends h
    rw [hA, hB]; exact low_bnd x y hx hy
theorem great_bnd (G : List Int) : 0 ≤ greatA G ∧ greatA G ≤ 1200 ∧ 0 ≤ greatB G ∧ greatB G ≤ 1200 := by
  cases hs : isSgB G
  · rw [(great_no hs).1, (great_no hs).2]; omega
  · obtain ⟨p, x, y, -, -, -, -, -, hx, -, hy, hA, hB⟩ := great_ends hs
    rw [hA, hB]; exact low_bnd x y (by omega) (by omega)
theorem ela_law {G : List Int} {n : Int} (h : (lenL G n).length ≠ 0) (hn : n ≠ 0) : elaA G n * greatB G ≤ elaB G n * greatA G := by
  obtain ⟨p, x, y, hp1, hp2, hgp, hg0, hx, hy, hA, hB, hpos, -⟩ := ela_ends h
  have hlt : p < (lenL G n).length := by omega
  rw [List.getElem?_eq_getElem hlt] at hgp
  rw [List.getElem?_eq_getElem (show 0 < (lenL G n).length by omega)] at hg0
  obtain ⟨L, hL, hLs⟩ := mem_lenL.1 (List.getElem_mem hlt)
  obtain ⟨M, hM, hMs⟩ := mem_lenL.1 (List.getElem_mem (show 0 < (lenL G n).length by omega))
  have hs := (factL_sg hL).1
  obtain ⟨r, a, b, hr1, hr2, hgr, hgz, ha1, ha60, hb1, hb60, hGA, hGB⟩ := great_ends hs
  have hS := isSgB_iff.1 hs
  have hlt2 : r < G.length := by omega
  rw [List.getElem?_eq_getElem hlt2] at hgr
  rw [List.getElem?_eq_getElem (show 0 < G.length by omega)] at hgz
  injection hgr with hgr
  injection hgz with hgz
  injection hgp with hgp
  injection hg0 with hg0
  have hin : ∀ g ∈ G, (b : Int) ≤ g ∧ g ≤ (a : Int) := fun g hg => by
    obtain ⟨i, hi, rfl⟩ := List.getElem_of_mem hg
    have hA := hS.Asc
    constructor
    · rw [← hgz]
      rcases Nat.eq_zero_or_pos i with e | e
      · subst e; exact Int.le_refl _
      · exact Int.le_of_lt (hA 0 i hi e)
    · rw [← hgr]
      rcases Nat.lt_or_ge i r with e | e
      · exact Int.le_of_lt (hA i r hlt2 e)
      · have : i = r := by omega
        subst this; exact Int.le_refl _
  have h1 := (dot_le L G (fact_dot hL).2 (fun z hz => (fact_ent hL z hz).1) hin).1
  have h2 := (dot_le M G (fact_dot hM).2 (fun z hz => (fact_ent hM z hz).1) hin).2
  rw [(fact_dot hL).1, hLs, hgp] at h1
  rw [(fact_dot hM).1, hMs, hg0] at h2
  rw [hA, hB, hGA, hGB]
  refine low_le hx hy ha60 hb60 ?_ (hpos hn) ha1
  have h3 : ((x * b : Nat) : Int) ≤ ((y * a : Nat) : Int) := by rw [Int.natCast_mul, Int.natCast_mul]; exact Int.le_trans h1 h2
  exact Int.ofNat_le.1 h3
end Go.Proofs.Ytljfiiohiolbnaa

/-
  WHAT THE LAW FnFactorizations SAYS OF THE MODELS: no program. How many factorizations; whether there is one; no two alike; each of the value. (Own work.)
-/
namespace Go.Proofs.Ytljfiiohiolbnaa
open Go

def cntF (G : List Int) (m : Nat) : Nat := (findF G m).length
theorem cnt_nil (m : Nat) : cntF [] m = if m = 0 then 1 else 0 := by
  unfold cntF findF leafs
  by_cases h : m = 0 <;> simp [okF, h]
def sumD (f : Nat → Nat) : Nat → Nat
  | 0 => f 0
  | q + 1 => f (q + 1) + sumD f q
theorem sumD_shift (f : Nat → Nat) : ∀ q, sumD f (q + 1) = f 0 + sumD (fun k => f (k + 1)) q
  | 0 => by simp [sumD]; omega
  | q + 1 => by rw [sumD, sumD_shift f q, sumD]; omega
theorem sumD_down (f : Nat → Nat) : ∀ q, ((downL q).map f).sum = sumD f q
  | 0 => by simp [downL_zero, sumD]
  | q + 1 => by rw [downL_succ, List.map_cons, List.sum_cons, sumD_down f q, sumD]
theorem sumD_congr {f g : Nat → Nat} : ∀ q, (∀ k, k ≤ q → f k = g k) → sumD f q = sumD g q
  | 0, h => h 0 (Nat.le_refl _)
  | q + 1, h => by rw [sumD, sumD, h (q + 1) (Nat.le_refl _), sumD_congr q fun k hk => h k (by omega)]
theorem cnt_two (g g2 : Int) (r : List Int) (m : Nat) : cntF (g :: g2 :: r) m = sumD (fun k => cntF (g2 :: r) (m - k * g.toNat)) (m / g.toNat) := by
  unfold cntF
  rw [findF_cons, List.length_flatMap, ← sumD_down]
  simp only [List.length_map]
theorem cnt_cons {g : Int} (hg : 1 ≤ g) (r : List Int) (m : Nat) : cntF (g :: r) m = cntF r m + if g.toNat ≤ m then cntF (g :: r) (m - g.toNat) else 0 := by
  have hn : 1 ≤ g.toNat := by omega
  generalize hq : g.toNat = n at *
  cases r with
  | nil =>
    have h1 : ∀ m, cntF [g] m = if m % n = 0 then 1 else 0 := fun m => by
      unfold cntF; rw [findF_one, hq]; split <;> rfl
    rw [cnt_nil, h1]
    by_cases h : n ≤ m
    · rw [if_pos h, h1, if_neg (by omega : ¬ m = 0), Nat.mod_eq_sub_mod h]; omega
    · rw [if_neg h, Nat.mod_eq_of_lt (by omega), Nat.add_zero]
  | cons g2 r =>
    rw [cnt_two, hq]
    by_cases h : n ≤ m
    · have hd : m / n = (m - n) / n + 1 := by rw [Nat.div_eq m n, if_pos ⟨by omega, h⟩]
      rw [if_pos h, cnt_two, hq, hd, sumD_shift]
      rw [Nat.zero_mul, Nat.sub_zero]
      congr 1
      exact sumD_congr _ fun k _ => by congr 1; rw [Nat.add_mul, Nat.one_mul]; omega
    · rw [if_neg h, Nat.div_eq_of_lt (by omega), sumD, Nat.zero_mul, Nat.sub_zero, Nat.add_zero]
theorem cnt_snoc {g : Int} (hg : 1 ≤ g) : ∀ (G : List Int), (∀ x ∈ G, 1 ≤ x) → ∀ m, cntF (G ++ [g]) m = cntF G m + if g.toNat ≤ m then cntF (G ++ [g]) (m - g.toNat) else 0
  | [], _, m => cnt_cons hg [] m
  | a :: G, hG, m => by
    have ha := hG a (by simp)
    have ihG := cnt_snoc hg G fun x hx => hG x (by simp [hx])
    induction m using Nat.strongRecOn with
    | ind m ihm =>
      rw [List.cons_append, cnt_cons ha (G ++ [g]) m, cnt_cons ha G m, ihG m]
      have hga : 1 ≤ g.toNat := by omega
      have haa : 1 ≤ a.toNat := by omega
      generalize hgn : g.toNat = n at *
      generalize hab : a.toNat = b at *
      by_cases h1 : b ≤ m
      · have e1 := ihm (m - b) (by omega)
        rw [List.cons_append] at e1
        rw [if_pos h1, if_pos h1, e1]
        by_cases h2 : n ≤ m
        · rw [if_pos h2, if_pos h2, cnt_cons ha (G ++ [g]) (m - n)]
          rw [hab]
          by_cases h3 : n ≤ m - b
          · rw [if_pos h3, if_pos (by omega : b ≤ m - n), show m - b - n = m - n - b by omega]; omega
          · rw [if_neg h3, if_neg (by omega : ¬ b ≤ m - n)]; omega
        · rw [if_neg h2, if_neg h2, if_neg (by omega : ¬ n ≤ m - b)]; omega
      · rw [if_neg h1, if_neg h1]
        by_cases h2 : n ≤ m
        · rw [if_pos h2, if_pos h2, cnt_cons ha (G ++ [g]) (m - n)]
          rw [hab, if_neg (by omega : ¬ b ≤ m - n)]; omega
        · rw [if_neg h2, if_neg h2]
theorem cnt_mono {G : List Int} (hG : ∀ x ∈ G, 1 ≤ x) (m : Nat) : ∀ k, cntF (G.take k) m ≤ cntF G m := by
  suffices h : ∀ j k, k + j = G.length → cntF (G.take k) m ≤ cntF G m by
    intro k
    by_cases hk : k ≤ G.length
    · exact h (G.length - k) k (by omega)
    · rw [List.take_of_length_le (by omega)]; exact Nat.le_refl _
  intro j
  induction j with
  | zero => intro k hk; rw [List.take_of_length_le (by omega)]; exact Nat.le_refl _
  | succ j ih =>
    intro k hk
    refine Nat.le_trans ?_ (ih (k + 1) (by omega))
    rw [List.take_add_one, List.getElem?_eq_getElem (by omega), Option.toList_some, cnt_snoc (hG _ (List.getElem_mem (by omega))) _ fun x hx => hG x (List.mem_of_mem_take hx)]
    omega
theorem ways_cnt {G : List Int} (hs : isSgB G = true) : ∀ k, k ≤ G.length → ∀ i, i ≤ 100 → waysT (G.take k) i = (cntF (G.take k) i : Int)
  | 0, _, i, _ => by
    rw [List.take_zero, cnt_nil]
    unfold waysT
    simp only [List.foldl_nil]
    split <;> rfl
  | k + 1, hk, i, hi => by
    have hG : ∀ x ∈ G, 1 ≤ x := fun x hx => ((isSgB_iff.1 hs).bounds x hx).1
    have ih := ways_cnt hs k (by omega)
    have hgk := hG G[k] (List.getElem_mem (by omega))
    have htk : G.take (k + 1) = G.take k ++ [G[k]] := by rw [List.take_add_one, List.getElem?_eq_getElem (by omega)]; rfl
    rw [waysT_take (by omega)]
    induction i using Nat.strongRecOn with
    | ind i ihi =>
      have hc := cnt_snoc hgk (G.take k) (fun x hx => hG x (List.mem_of_mem_take hx)) i
      rw [← htk] at hc
      by_cases h : i < G[k].toNat
      · rw [stepW_lt _ h, ih i hi, hc, if_neg (by omega), Nat.add_zero]
      · rw [stepW_ge _ (by omega) (by omega), ih i hi, ihi (i - G[k].toNat) (by omega) (by omega)]
        rw [if_pos (by omega)] at hc
        have hb : cntF (G.take (k + 1)) i ≤ 31381059609 := Nat.le_trans (cnt_mono hG i (k + 1)) (by have := findF_bound hs 0 i hi; rw [List.drop_zero] at this; exact this)
        rw [← Int.natCast_add, ← hc]
        exact IntWalk.i64_in _ (by omega)
theorem count_law {G : List Int} {n : Int} (hs : isSgB G = true) (h0 : 0 ≤ n) (h1 : n ≤ 100) : countN G n = ((factL G n).length : Int) := by
  have hx : inB n 0 1000 = true := by unfold inB; rw [decide_eq_true h0, decide_eq_true (by omega : n ≤ 1000)]; rfl
  have hy : inB n 0 100 = true := by unfold inB; rw [decide_eq_true h0, decide_eq_true h1]; rfl
  have := ways_cnt hs G.length (Nat.le_refl _) n.toNat (by omega)
  rw [List.take_length] at this
  unfold countN factL
  rw [hs, hx, hy]
  exact this
theorem isSum_more {G : List Int} {a : Int} {m : Nat} (h : IsSum G m) : IsSum (a :: G) m := by
  induction h with
  | zero => exact .zero
  | add hg _ ih => exact .add (by simp [hg]) ih
theorem cnt_add : ∀ {G : List Int}, (∀ x ∈ G, 1 ≤ x) → ∀ {g : Nat}, (g : Int) ∈ G → ∀ m, 0 < cntF G m → 0 < cntF G (m + g)
  | [], _, g, hg, _, _ => by simp at hg
  | a :: G, hG, g, hg, m, hm => by
    have ha := hG a (by simp)
    by_cases e : (g : Int) = a
    · rw [cnt_cons ha, show a.toNat = g by omega, if_pos (by omega), Nat.add_sub_cancel]; omega
    · have hgG : (g : Int) ∈ G := by rcases List.mem_cons.1 hg with h | h; exact absurd h e; exact h
      induction m using Nat.strongRecOn with
      | ind m ih =>
        rw [cnt_cons ha] at hm
        rw [cnt_cons ha]
        by_cases h1 : 0 < cntF G m
        · have := cnt_add (fun x hx => hG x (by simp [hx])) hgG m h1; omega
        · by_cases h2 : a.toNat ≤ m
          · rw [if_pos h2] at hm
            have := ih (m - a.toNat) (by omega) (by omega)
            rw [if_pos (by omega), show m + g - a.toNat = m - a.toNat + g by omega]; omega
          · rw [if_neg h2] at hm; omega
theorem cnt_zero : ∀ {G : List Int}, (∀ x ∈ G, 1 ≤ x) → 0 < cntF G 0
  | [], _ => by rw [cnt_nil]; simp
  | a :: G, hG => by rw [cnt_cons (hG a (by simp))]; have := cnt_zero (G := G) fun x hx => hG x (by simp [hx]); omega
theorem cnt_sum : ∀ {G : List Int}, (∀ x ∈ G, 1 ≤ x) → ∀ m, 0 < cntF G m ↔ IsSum G m := by
  intro G hG m
  constructor
  · intro h
    induction G generalizing m with
    | nil =>
      rw [cnt_nil] at h
      by_cases e : m = 0
      · subst e; exact .zero
      · rw [if_neg e] at h; omega
    | cons a G ih =>
      have ha := hG a (by simp)
      induction m using Nat.strongRecOn with
      | ind m ihm =>
        rw [cnt_cons ha] at h
        by_cases h1 : 0 < cntF G m
        · exact isSum_more (ih (fun x hx => hG x (by simp [hx])) m h1)
        · by_cases h2 : a.toNat ≤ m
          · rw [if_pos h2] at h
            have := ihm (m - a.toNat) (by omega) (by omega)
            have h3 := IsSum.add (G := a :: G) (g := a.toNat) (by rw [Int.toNat_of_nonneg (by omega)]; simp) this
            rw [Nat.sub_add_cancel h2] at h3
            exact h3
          · rw [if_neg h2] at h; omega
  · intro h
    induction h with
    | zero => exact cnt_zero hG
    | add hg _ ih => exact cnt_add hG hg _ ih
theorem some_law {G : List Int} {n : Int} (hs : isSgB G = true) (h0 : 0 ≤ n) (h1 : n ≤ 100) : decide (0 < (factL G n).length) = hasN G n := by
  have hy : inB n 0 100 = true := by unfold inB; rw [decide_eq_true h0, decide_eq_true h1]; rfl
  have e : (factL G n).length = cntF G n.toNat := by unfold factL cntF; rw [hs, hy]; rfl
  unfold hasN
  rw [e, hs, decide_eq_true h0]
  have := cnt_sum (fun x hx => ((isSgB_iff.1 hs).bounds x hx).1) n.toNat
  rw [← sumB_iff] at this
  cases hb : sumB G n.toNat
  · rw [hb] at this; simpa using this
  · rw [hb] at this; simpa using this
theorem findF_nodup : ∀ (G : List Int) (m : Nat), (findF G m).Nodup
  | [], m => by
    unfold findF leafs
    by_cases h : m = 0 <;> simp [okF, h]
  | [g], m => by rw [findF_one]; split <;> simp
  | g :: g2 :: r, m => by
    rw [findF_cons, List.Nodup, List.pairwise_flatMap]
    refine ⟨fun k _ => ?_, ?_⟩
    · rw [List.pairwise_map]
      exact (findF_nodup (g2 :: r) _).imp fun h e => h (by injection e)
    · have hd : (downL (m / g.toNat)).Nodup := by unfold downL; exact List.pairwise_reverse.2 (List.nodup_range.imp fun h => Ne.symm h)
      refine hd.imp fun {a b} hab x hx y hy e => ?_
      obtain ⟨x', -, rfl⟩ := List.mem_map.1 hx
      obtain ⟨y', -, rfl⟩ := List.mem_map.1 hy
      injection e with e1 e2
      exact hab (by omega)
theorem near_law {G : List Int} {n : Int} {i : Nat} (hi : i + 1 < (factL G n).length) : (factL G n)[i] ≠ (factL G n)[i + 1] := by
  have hn : (factL G n).Nodup := by
    unfold factL
    split
    · exact findF_nodup _ _
    · exact List.nodup_nil
  exact List.pairwise_iff_getElem.1 hn i (i + 1) (by omega) hi (by omega)
theorem fac_law {G : List Int} {n : Int} {L : List Int} (h : L ∈ factL G n) : isFacB G n L = true := by
  obtain ⟨hs, h0, h1, -⟩ := factL_sg h
  obtain ⟨hd, hl⟩ := fact_dot h
  unfold isFacB
  rw [valueN_yes hs hl (List.all_eq_true.2 fun x hx => by have := fact_ent h x hx; unfold inB; rw [decide_eq_true this.1, decide_eq_true (by omega : x ≤ 1000000)]; rfl), hd, decide_eq_true h0, decide_eq_true rfl]; rfl
end Go.Proofs.Ytljfiiohiolbnaa
