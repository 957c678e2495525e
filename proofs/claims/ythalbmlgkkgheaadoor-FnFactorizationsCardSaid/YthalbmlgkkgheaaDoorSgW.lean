/-
  FACTORIZATIONS: no program. Values, ways by a table, the leaves of the search, what a search that goes back has still to find. (Own work.)
-/
import Derived.Test.YthalbmlgkkgheaaDoorCh3L
namespace Go.Proofs.YthalbmlgkkgheaaDoor
open Go

/-! ### Values -/
def dotL (L G : List Int) : Int := (List.zipWith (· * ·) L G).sum
noncomputable def valueN (G L : List Int) : Int := if isSgB G && decide (L.length = G.length) && L.all (fun x => inB x 0 1000000) then dotL L G else -1
noncomputable def isFacB (G : List Int) (n : Int) (L : List Int) : Bool := decide (0 ≤ n) && decide (valueN G L = n)
theorem dotL_nil (G : List Int) : dotL [] G = 0 := by simp [dotL]
theorem dotL_cons (x g : Int) (L G : List Int) : dotL (x :: L) (g :: G) = x * g + dotL L G := by simp [dotL]
theorem dotL_snoc : ∀ {L G : List Int} (x g : Int), L.length = G.length → dotL (L ++ [x]) (G ++ [g]) = dotL L G + x * g
  | [], [], x, g, _ => by simp [dotL]
  | a :: L, b :: G, x, g, h => by
    rw [List.cons_append, List.cons_append, dotL_cons, dotL_cons, dotL_snoc x g (by simpa using h)]; omega
  | [], _ :: _, _, _, h => by simp at h
  | _ :: _, [], _, _, h => by simp at h
theorem dotL_take {L G : List Int} (h : L.length = G.length) {k : Nat} (hk : k < L.length) : dotL (L.take (k + 1)) (G.take (k + 1)) = dotL (L.take k) (G.take k) + L[k] * G[k]'(by omega) := by
  rw [List.take_add_one, List.take_add_one, List.getElem?_eq_getElem hk, List.getElem?_eq_getElem (by omega), Option.toList_some, Option.toList_some]
  exact dotL_snoc _ _ (by simp; omega)
theorem valueN_yes {G L : List Int} (hs : isSgB G = true) (hl : L.length = G.length) (ha : L.all (fun x => inB x 0 1000000) = true) : valueN G L = dotL L G := by
  unfold valueN; rw [hs, decide_eq_true hl, ha]; rfl
theorem valueN_sg {G : List Int} (L : List Int) (hs : isSgB G = false) : valueN G L = -1 := by unfold valueN; rw [hs]; rfl
theorem valueN_len {G L : List Int} (hl : L.length ≠ G.length) : valueN G L = -1 := by unfold valueN; rw [decide_eq_false hl]; simp
theorem valueN_out {G L : List Int} (ha : L.all (fun x => inB x 0 1000000) = false) : valueN G L = -1 := by unfold valueN; rw [ha]; simp
theorem dot_bnd {L G : List Int} (hl : L.length = G.length) (hG : ∀ g ∈ G, 1 ≤ g ∧ g ≤ 60) (hL : ∀ x ∈ L, 0 ≤ x ∧ x ≤ 1000000) : ∀ k, k ≤ L.length → 0 ≤ dotL (L.take k) (G.take k) ∧ dotL (L.take k) (G.take k) ≤ 60000000 * (k : Int)
  | 0, _ => by simp [dotL]
  | k + 1, hk => by
    have ih := dot_bnd hl hG hL k (by omega)
    rw [dotL_take hl (by omega)]
    have h1 := hL L[k] (List.getElem_mem (by omega))
    have h2 := hG G[k] (List.getElem_mem (by omega))
    have h3 : 0 ≤ L[k] * G[k] := Int.mul_nonneg h1.1 (by omega)
    have h4 : L[k] * G[k] ≤ 1000000 * 60 := Int.mul_le_mul h1.2 h2.2 (by omega) (by omega)
    omega

/-! ### Ways, by a table that is gone through upwards (the sums wrap as the machine's do) -/
def chainW (T : Nat → Int) (g r : Nat) : Nat → Int
  | 0 => T r
  | j + 1 => IntKind.i64.wrap (T (r + (j + 1) * g) + chainW T g r j)
def stepW (g : Nat) (T : Nat → Int) (i : Nat) : Int := chainW T g (i % g) (i / g)
def waysT : List Int → Nat → Int := fun G => G.foldl (fun T g => stepW g.toNat T) fun i => if i = 0 then 1 else 0
noncomputable def countN (G : List Int) (n : Int) : Int := if isSgB G && inB n 0 1000 then waysT G n.toNat else -1
theorem stepW_lt {g i : Nat} (T : Nat → Int) (h : i < g) : stepW g T i = T i := by
  unfold stepW; rw [Nat.mod_eq_of_lt h, Nat.div_eq_of_lt h]; rfl
theorem stepW_ge {g i : Nat} (T : Nat → Int) (hg : 1 ≤ g) (h : g ≤ i) : stepW g T i = IntKind.i64.wrap (T i + stepW g T (i - g)) := by
  unfold stepW
  have h1 : i / g = (i - g) / g + 1 := by
    rw [Nat.div_eq i g, if_pos ⟨by omega, h⟩]
  have h2 : i % g = (i - g) % g := Nat.mod_eq_sub_mod h
  have h3 : (i - g) % g + ((i - g) / g + 1) * g = i := by
    have := Nat.mod_add_div (i - g) g
    rw [Nat.add_mul, Nat.one_mul, Nat.mul_comm ((i - g) / g) g]; omega
  rw [h1, h2, chainW, h3]
def mixW (g : Nat) (T : Nat → Int) (i0 i : Nat) : Int := if i < i0 then stepW g T i else T i
theorem mixW_start (g : Nat) (T : Nat → Int) : mixW g T g = T := funext fun i => by
  unfold mixW
  split
  · next h => exact stepW_lt T h
  · rfl
theorem waysT_take {G : List Int} {k : Nat} (hk : k < G.length) : waysT (G.take (k + 1)) = stepW G[k].toNat (waysT (G.take k)) := by
  unfold waysT
  rw [List.take_add_one, List.getElem?_eq_getElem hk, Option.toList_some, List.foldl_append]; rfl

/-! ### The leaves of the search -/
def downL (q : Nat) : List Nat := (List.range (q + 1)).reverse
def pre1 (k : Nat) (v : List Int × Nat) : List Int × Nat := ((k : Int) :: v.1, v.2)
def preL (P : List Int) (v : List Int × Nat) : List Int × Nat := (P ++ v.1, v.2)
def leafs : List Int → Nat → List (List Int × Nat)
  | [], m => [([], m)]
  | [g], m => [([((m / g.toNat : Nat) : Int)], m % g.toNat)]
  | g :: g2 :: r, m => (downL (m / g.toNat)).flatMap fun k => (leafs (g2 :: r) (m - k * g.toNat)).map (pre1 k)
def okF (v : List Int × Nat) : Option (List Int) := if v.2 = 0 then some v.1 else none
def findF (G : List Int) (m : Nat) : List (List Int) := (leafs G m).filterMap okF
noncomputable def factL (G : List Int) (n : Int) : List (List Int) := if isSgB G && inB n 0 100 then findF G n.toNat else []
theorem downL_succ (q : Nat) : downL (q + 1) = (q + 1) :: downL q := by unfold downL; rw [List.range_succ, List.reverse_append]; rfl
theorem downL_zero : downL 0 = [0] := rfl
theorem findF_one (g : Int) (m : Nat) : findF [g] m = if m % g.toNat = 0 then [[((m / g.toNat : Nat) : Int)]] else [] := by
  unfold findF leafs
  simp only [List.filterMap_cons, List.filterMap_nil, okF]
  split <;> rename_i h <;> split at h <;> simp_all
theorem okF_pre (k : Nat) (v : List Int × Nat) : okF (pre1 k v) = (okF v).map fun x => (k : Int) :: x := by
  unfold okF pre1
  simp only
  split <;> rfl
theorem findF_cons (g g2 : Int) (r : List Int) (m : Nat) : findF (g :: g2 :: r) m = (downL (m / g.toNat)).flatMap fun k => (findF (g2 :: r) (m - k * g.toNat)).map fun v => (k : Int) :: v := by
  unfold findF
  rw [leafs, List.filterMap_flatMap]
  refine congrArg (fun f => List.flatMap f (downL (m / g.toNat))) (funext fun k => ?_)
  rw [List.filterMap_map, List.map_filterMap]
  refine congrArg (fun f => List.filterMap f _) (funext fun v => ?_)
  exact okF_pre k v

/-! ### What is left to find when the stack T (its last number first: S) stands and m is left -/
def backs (G : List Int) : List Nat → Nat → List (List Int × Nat)
  | [], _ => []
  | a :: S, m => (if S.length + 1 < G.length then (List.range a).reverse.flatMap fun b => (leafs (G.drop (S.length + 1)) (m + (a - b) * (G.getD S.length 0).toNat)).map (preL ((b :: S).reverse.map Int.ofNat)) else []) ++
      backs G S (m + a * (G.getD S.length 0).toNat)
def todo (G : List Int) (S : List Nat) (m : Nat) : List (List Int × Nat) := (leafs (G.drop S.length) m).map (preL (S.reverse.map Int.ofNat)) ++ backs G S m
theorem preL_cons (P : List Int) (k : Nat) (v : List Int × Nat) : preL P (pre1 k v) = preL (P ++ [(k : Int)]) v := by simp [preL, pre1]
theorem preL_nil : preL [] = id := funext fun v => by simp [preL]
theorem todo_start (G : List Int) (m : Nat) : todo G [] m = leafs G m := by
  unfold todo backs
  simp [preL_nil]
theorem todo_full {G : List Int} {S : List Nat} (m : Nat) (h : S.length = G.length) : todo G S m = (S.reverse.map Int.ofNat, m) :: backs G S m := by
  unfold todo
  rw [List.drop_of_length_le (by omega)]
  simp [leafs, preL]
theorem rev_ofNat (k : Nat) (S : List Nat) : (k :: S).reverse.map Int.ofNat = S.reverse.map Int.ofNat ++ [(k : Int)] := by simp
theorem drop_two {G : List Int} {k : Nat} (hk : k + 1 < G.length) : G.drop k = G[k] :: G.drop (k + 1) := List.drop_eq_getElem_cons (by omega)
theorem downL_split (q : Nat) : downL q = q :: (List.range q).reverse := by
  cases q with
  | zero => rfl
  | succ q => rw [downL_succ]; rfl
theorem todo_fill {G : List Int} {S : List Nat} (m : Nat) (h : S.length < G.length) (hp : 1 ≤ G[S.length]) : todo G S m = todo G ((m / G[S.length].toNat) :: S) (m % G[S.length].toNat) := by
  have hgd : G.getD S.length 0 = G[S.length] := by rw [List.getD_eq_getElem?_getD, List.getElem?_eq_getElem h]; rfl
  obtain ⟨g, hg⟩ : ∃ g, g = G[S.length] := ⟨_, rfl⟩
  have hg1 : 1 ≤ g.toNat := by omega
  have hdm := Nat.mod_add_div m g.toNat
  rw [← hg]
  unfold todo
  rw [List.length_cons, backs, hgd, ← hg]
  have hm : m % g.toNat + m / g.toNat * g.toNat = m := by rw [Nat.mul_comm]; exact hdm
  rw [hm, ← List.append_assoc]
  congr 1
  by_cases h2 : S.length + 1 < G.length
  · rw [if_pos h2, drop_two h2, ← hg]
    obtain ⟨g2, r, hr⟩ : ∃ g2 r, G.drop (S.length + 1) = g2 :: r := by
      cases hd : G.drop (S.length + 1) with
      | nil => have := congrArg List.length hd; simp at this; omega
      | cons a r => exact ⟨a, r, rfl⟩
    have hq : m - m / g.toNat * g.toNat = m % g.toNat := by omega
    rw [hr, leafs, downL_split, List.flatMap_cons, List.map_append, List.map_flatMap, hq, ← hr]
    congr 1
    · rw [List.map_map]
      refine List.map_congr_left fun v _ => ?_
      show preL _ (pre1 _ v) = _
      rw [preL_cons, rev_ofNat]
    · rw [List.flatMap_def, List.flatMap_def]
      congr 1
      refine List.map_congr_left fun b hb => ?_
      have hb' : b < m / g.toNat := by simpa using hb
      have e : m % g.toNat + (m / g.toNat - b) * g.toNat = m - b * g.toNat := by
        have h1 : b * g.toNat ≤ m / g.toNat * g.toNat := Nat.mul_le_mul_right _ (by omega)
        rw [Nat.sub_mul]; omega
      rw [e, List.map_map]
      refine List.map_congr_left fun v _ => ?_
      show preL _ (pre1 _ v) = _
      rw [preL_cons, rev_ofNat]
  · rw [if_neg h2, List.append_nil]
    have hd : G.drop S.length = [g] := by
      rw [List.drop_eq_getElem_cons h, List.drop_of_length_le (by omega), hg]
    rw [hd, List.drop_of_length_le (by omega)]
    simp [leafs, preL]
theorem backs_less {G : List Int} {S : List Nat} (b m : Nat) (h : S.length + 1 < G.length) : backs G ((b + 1) :: S) m = todo G (b :: S) (m + (G.getD S.length 0).toNat) := by
  obtain ⟨g, hg⟩ : ∃ g, g = (G.getD S.length 0).toNat := ⟨_, rfl⟩
  unfold todo
  rw [List.length_cons, backs, backs, if_pos h, if_pos h, ← hg, List.range_succ, List.reverse_append, List.reverse_singleton, List.singleton_append, List.flatMap_cons, List.append_assoc]
  have e1 : m + (b + 1 - b) * g = m + g := by rw [show b + 1 - b = 1 by omega, Nat.one_mul]
  have e2 : m + (b + 1) * g = m + g + b * g := by rw [Nat.add_mul, Nat.one_mul]; omega
  rw [e1, e2]
  congr 1
  congr 1
  rw [List.flatMap_def, List.flatMap_def]
  congr 1
  refine List.map_congr_left fun c hc => ?_
  have hc' : c < b := by simpa using hc
  have e3 : m + (b + 1 - c) * g = m + g + (b - c) * g := by rw [show b + 1 - c = (b - c) + 1 by omega, Nat.add_mul, Nat.one_mul]; omega
  rw [e3]
theorem backs_pop {G : List Int} {S : List Nat} (a m : Nat) (h : ¬ S.length + 1 < G.length ∨ a = 0) : backs G (a :: S) m = backs G S (m + a * (G.getD S.length 0).toNat) := by
  rw [backs]
  rcases h with h | h
  · rw [if_neg h, List.nil_append]
  · subst h
    split <;> simp
theorem backs_nil (G : List Int) (m : Nat) : backs G [] m = [] := rfl
end Go.Proofs.YthalbmlgkkgheaaDoor
