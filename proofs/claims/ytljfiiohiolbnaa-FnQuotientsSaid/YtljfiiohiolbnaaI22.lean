/-
  THE MAP FROM REMAINDERS (what it says when the numbers below k have been met), and what the program's FromApery keeps of its list: no function of the program. (Own work.)
-/
import Derived.Test.YtljfiiohiolbnaaSgA
import Derived.Test.YtljfiiohiolbnaaCh3I
import Derived.Maps.OwnSet
import Derived.Maps.OwnOps
namespace Go.Proofs.Ytljfiiohiolbnaa
open Go

def keyR (r : Nat) : Lit := .int .i64 (r : Int)
theorem keyR_ne {r r' : Nat} (h : r ≠ r') : keyR r ≠ keyR r' := fun e => h (by unfold keyR at e; injection e with _ e; omega)
theorem keyR_is (r : Nat) : WideAt.IsKeyLit (keyR r) := trivial
/-- The map when the numbers below k have been met. -/
structure LeastMap (p : Nat → Bool) (n k : Nat) (D : DataW Unit) : Prop where
  isMap : Maps.IsMap D
  has : ∀ r, r < n → (Maps.has D (keyR r) = true ↔ ∃ x, x < k ∧ p x = true ∧ x % n = r)
  least : ∀ r x, r < n → x < k → p x = true → x % n = r → (∀ y, y < x → y % n = r → p y = false) → D.atKey (keyR r) (.lit (.int .i64 0)) = .lit (.int .i64 (x : Int))
theorem LeastMap.start (p : Nat → Bool) (n : Nat) : LeastMap p n 0 (.map []) :=
  ⟨Maps.isMap_empty, fun r _ => ⟨fun h => (by cases h), fun ⟨x, h, _⟩ => (by omega)⟩, fun r x _ h => by omega⟩
theorem LeastMap.put {p : Nat → Bool} {n k : Nat} {D : DataW Unit} (h : LeastMap p n k D) (hn : 1 ≤ n) (hk : p k = true) (hno : Maps.has D (keyR (k % n)) = false) : LeastMap p n (k + 1) (D.put (keyR (k % n)) (.lit (.int .i64 (k : Int)))) := by
  have hr := Nat.mod_lt k (show 0 < n by omega)
  refine ⟨h.isMap.put _ _, fun r hrn => ?_, fun r x hrn hx hp hc hmin => ?_⟩
  · by_cases e : r = k % n
    · subst e
      exact ⟨fun _ => ⟨k, by omega, hk, rfl⟩, fun _ => Maps.has_put_same h.isMap (keyR_is _) _⟩
    · rw [Maps.has_put_other (keyR_ne e), h.has r hrn]
      constructor
      · rintro ⟨x, h1, h2, h3⟩; exact ⟨x, by omega, h2, h3⟩
      · rintro ⟨x, h1, h2, h3⟩
        have : x ≠ k := fun e' => e (by rw [← h3, e'])
        exact ⟨x, by omega, h2, h3⟩
  · by_cases e : r = k % n
    · subst e
      have hxk : x = k := by
        rcases Nat.lt_or_ge x k with h1 | h1
        · rw [(h.has _ hrn).2 ⟨x, h1, hp, hc⟩] at hno; cases hno
        · omega
      subst hxk
      exact Maps.atKey_put_same h.isMap (keyR_is _) _ _
    · rw [Maps.atKey_put_other (keyR_ne e)]
      have : x ≠ k := fun e' => e (by rw [← hc, e'])
      exact h.least r x hrn (by omega) hp hc hmin
theorem LeastMap.stay {p : Nat → Bool} {n k : Nat} {D : DataW Unit} (h : LeastMap p n k D) (hn : 1 ≤ n) (hk : p k = true → Maps.has D (keyR (k % n)) = true) : LeastMap p n (k + 1) D := by
  have hr := Nat.mod_lt k (show 0 < n by omega)
  refine ⟨h.isMap, fun r hrn => ?_, fun r x hrn hx hp hc hmin => ?_⟩
  · rw [h.has r hrn]
    constructor
    · rintro ⟨x, h1, h2, h3⟩; exact ⟨x, by omega, h2, h3⟩
    · rintro ⟨x, h1, h2, h3⟩
      by_cases e : x = k
      · subst e
        have := (h.has _ hr).1 (hk h2)
        rw [h3] at this
        exact this
      · exact ⟨x, by omega, h2, h3⟩
  · by_cases e : x = k
    · subst e
      obtain ⟨y, h1, h2, h3⟩ := (h.has _ hr).1 (hk hp)
      have := hmin y h1 (by rw [h3, hc])
      rw [h2] at this; cases this
    · exact h.least r x hrn (by omega) hp hc hmin
theorem LeastMap.done {p : Nat → Bool} {n : Nat} {D : DataW Unit} (h : LeastMap p n 260 D) (hp : ∀ m, 200 ≤ m → p m = true) (hn : 1 ≤ n) (h60 : n ≤ 60) {r : Nat} (hr : r < n) {c : Int}
    (hc : D.atKey (keyR r) (.lit (.int .i64 0)) = .lit (.int .i64 c)) : c = (apOf p n r : Int) := by
  have hl := apOf_least hp hn hr
  have hlt := apOf_lt hp hn hr
  have := h.least r (apOf p n r) hr (by omega) hl.has hl.cls (fun y hy hyc => by
    cases hb : p y
    · rfl
    · have := hl.min y hyc hb; omega)
  rw [this] at hc
  injection hc with hc
  injection hc with _ hc
  exact hc.symm

/-! ### FromApery's list -/
def posL (l : List Int) : List Int := l.filter fun x => decide (0 < x)
noncomputable def apKept (l : List Int) : List Int := keptL (sortL (posL l ++ [(l.length : Int)]))
theorem posL_len (l : List Int) : (posL l).length ≤ l.length := List.length_filter_le _ _
theorem apKept_len (l : List Int) : (apKept l).length ≤ l.length + 1 := by
  unfold apKept keptL
  have h1 := List.length_filter_le (keptF (sortL (posL l ++ [(l.length : Int)]))) (sortL (posL l ++ [(l.length : Int)]))
  have h2 := sortL_length_le (posL l ++ [(l.length : Int)])
  have h3 := posL_len l
  rw [List.length_append, List.length_singleton] at h2
  omega
theorem apKept_of {l : List Int} (h : fromApB l = true) : apKept l = fromApL l := by
  obtain ⟨hN, hl⟩ := fromApB_sg h
  generalize hG : fromApL l = G at hN hl
  have hat := aperyL_at hN
  have hlen := aperyL_length hN
  have htl := aperyL_tail hN
  rw [hl] at hat htl
  have hpos := hN.pos
  have h60 := hN.le
  have hlt : ∀ x ∈ l, x < 260 := by
    intro x hx
    obtain ⟨i, hi, rfl⟩ := List.getElem_of_mem hx
    obtain ⟨y, h1, -, -, h2, -⟩ := hat i hi
    rw [List.getElem?_eq_getElem hi, Option.some.injEq] at h1
    omega
  have h0 : l.head? = some 0 := by
    have e : l[0]? = some 0 := by
      rw [← hl, aperyL_in hN, List.getElem?_eq_getElem (by rw [apL_length]; exact hpos), apL_get, apOf_zero (sumB_zero G)]; rfl
    rw [← e, List.head?_eq_getElem?]
  have hcons : l = 0 :: l.tail := by
    cases l with
    | nil => simp at h0
    | cons y l => simp at h0; subst h0; rfl
  have hmem : ∀ x, x ∈ posL l ++ [(l.length : Int)] ↔ x ∈ apGens l := by
    intro x
    unfold posL apGens
    rw [List.mem_append, List.mem_filter, List.mem_singleton, List.mem_cons, decide_eq_true_eq]
    constructor
    · rintro (⟨h1, h2⟩ | h1)
      · rw [hcons, List.mem_cons] at h1
        rcases h1 with h1 | h1
        · omega
        · exact .inr h1
      · exact .inl h1
    · rintro (h1 | h1)
      · exact .inr h1
      · have := htl x h1
        exact .inl ⟨List.mem_of_mem_tail h1, by omega⟩
  have hpa : Pos (posL l ++ [(l.length : Int)]) := by
    intro x hx
    rw [List.mem_append, List.mem_singleton] at hx
    rcases hx with h1 | h1
    · have := (List.mem_filter.1 h1).2; rw [decide_eq_true_eq] at this; omega
    · omega
  unfold apKept
  rw [keptL_small, ← hG, fromApL_yes h]
  · show minL _ = _
    exact minL_congr hpa (fun x hx => hpa x ((hmem x).2 hx)) fun m => ⟨fun k => k.mono fun x hx => (hmem x).1 hx, fun k => k.mono fun x hx => (hmem x).2 hx⟩
  · intro x hx
    have hx := ((sortL_spec _).2 x).1 hx
    rw [List.mem_append, List.mem_singleton] at hx
    rcases hx with h1 | h1
    · exact hlt x (List.mem_filter.1 h1).1
    · omega
/-- The program's way: what is kept, held against the list. -/
theorem fromAp_way {l : List Int} (h1 : 1 ≤ l.length) : fromApB l = decide (aperyL (apKept l) (l.length : Int) = l) := by
  cases h : fromApB l
  · refine (decide_eq_false fun e => ?_).symm
    have hA : ApIn (apKept l) l.length := by
      rcases aperyL_cases (apKept l) (l.length : Int) with h2 | ⟨N, hN, h2, -⟩
      · rw [h2] at e; rw [← e] at h1; simp at h1
      · rwa [show l.length = N by omega]
    have := (fromAp_iff.2 ⟨hA, e⟩).1
    rw [h] at this; cases this
  · refine (decide_eq_true ?_).symm
    rw [apKept_of h]
    exact (fromApB_sg h).2
end Go.Proofs.Ytljfiiohiolbnaa
