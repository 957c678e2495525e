/-
  PLAIN LEMMAS: sums by reckoning; the eight lists that the draws know are semigroups. No program in this text.
-/
import Derived.Test.YtdjjagpecbflnaaGreatDoorSgN
namespace Go.Proofs.YtdjjagpecbflnaaGreatDoor
open Go

/-- Of the numbers n, n-1, .., 0 (in this order) whether they are sums. -/
def dp (G : List Nat) : Nat → List Bool
  | 0 => [true]
  | n + 1 => (G.any fun g => (dp G n).getD (g - 1) false) :: dp G n
theorem dp_length (G : List Nat) : ∀ n, (dp G n).length = n + 1
  | 0 => rfl
  | n + 1 => by rw [dp, List.length_cons, dp_length G n]
theorem dp_get {G : List Nat} (hG : ∀ g ∈ G, 1 ≤ g) : ∀ n i, i ≤ n → (dp G n).getD i false = sumB (G.map fun g : Nat => (g : Int)) (n - i) := by
  intro n
  induction n with
  | zero =>
    intro i hi
    obtain rfl : i = 0 := by omega
    rw [Nat.sub_zero, sumB_zero]; rfl
  | succ n ih =>
    intro i hi
    cases i with
    | succ i =>
      rw [dp, List.getD_cons_succ, ih i (by omega)]
      congr 1; omega
    | zero =>
      rw [dp, List.getD_cons_zero, Nat.sub_zero, Bool.eq_iff_iff, List.any_eq_true, sumB_iff, isSum_step (by omega)]
      constructor
      · rintro ⟨g, hg, h⟩
        have h1 := hG g hg
        by_cases hle : g - 1 ≤ n
        · rw [ih (g - 1) hle, sumB_iff] at h
          refine ⟨g, List.mem_map.2 ⟨g, hg, rfl⟩, by omega, ?_⟩
          rw [show n + 1 - g = n - (g - 1) by omega]; exact h
        · rw [List.getD, List.getElem?_eq_none (by rw [dp_length]; omega)] at h
          cases h
      · rintro ⟨g, hg, hle, h⟩
        obtain ⟨g', hg', e⟩ := List.mem_map.1 hg
        obtain rfl : g' = g := by omega
        have h1 := hG g' hg'
        refine ⟨g', hg', ?_⟩
        rw [ih (g' - 1) (by omega), sumB_iff, show n - (g' - 1) = n + 1 - g' by omega]; exact h

/-- A list of numbers checked by reckoning. -/
def chkSg (G : List Nat) : Bool :=
  decide (1 ≤ G.length) && decide (G.length ≤ 12) && G.all (fun g => decide (1 ≤ g) && decide (g ≤ 60)) && (List.range (G.length - 1)).all (fun i => decide (G.getD i 0 < G.getD (i + 1) 0)) &&
  (List.range G.length).all (fun i => !(dp (G.take i) (G.getD i 0)).getD 0 false) && ((dp G 259).take 60).all id

theorem sum_of_map {G : List Nat} {n : Nat} : sumB (G.map fun g : Nat => (g : Int)) n = sumB (G.map fun g : Nat => (g : Int)) n := rfl
theorem chkSg_spec {G : List Nat} (h : chkSg G = true) : isSgB (G.map fun g : Nat => (g : Int)) = true := by
  unfold chkSg at h
  simp only [Bool.and_eq_true, decide_eq_true_eq, List.all_eq_true, List.mem_range] at h
  obtain ⟨⟨⟨⟨⟨h1, h2⟩, h3⟩, h4⟩, h5⟩, h6⟩ := h
  have hlen : (G.map fun g : Nat => (g : Int)).length = G.length := List.length_map _
  have hok : okG (G.map fun g : Nat => (g : Int)) = true := okG_iff.2 ⟨fun x hx => by
    obtain ⟨g, hg, rfl⟩ := List.mem_map.1 hx
    have := h3 g hg
    omega, by omega, by omega⟩
  have hget : ∀ i (hi : i < G.length), G.getD i 0 = G[i] := fun i hi => by rw [List.getD, List.getElem?_eq_getElem hi]; rfl
  have hasc : Asc (G.map fun g : Nat => (g : Int)) := asc_of_next fun k hk => by
    rw [hlen] at hk
    have := h4 k (by omega)
    rw [hget k (by omega), hget (k + 1) hk] at this
    simp only [List.getElem_map]
    omega
  have hnext : ascB (G.map fun g : Nat => (g : Int)) = true := ascB_true fun k hk => hasc k (k + 1) hk (by omega)
  refine (isSgB_way hok (by omega) hnext).2 ⟨?_, ?_⟩
  · have hall : ∀ x ∈ (G.map fun g : Nat => (g : Int)), (!sumB ((G.map fun g : Nat => (g : Int)).filter fun y => decide (y < x)) x.toNat) = true := by
      intro x hx
      obtain ⟨i, hi, rfl⟩ := List.getElem_of_mem hx
      rw [← take_lesser hasc i hi]
      have hi' : i < G.length := by rw [hlen] at hi; exact hi
      have h := h5 i hi'
      have hp : ∀ g ∈ G.take i, 1 ≤ g := fun g hg => (h3 g (List.mem_of_mem_take hg)).1
      rw [dp_get hp _ 0 (Nat.zero_le _), hget i hi', Nat.sub_zero] at h
      rw [← List.map_take, List.getElem_map, Int.toNat_natCast]
      exact h
    unfold minOf
    rw [List.filter_eq_self.2 hall]
    exact Nat.le_refl _
  · intro n hn1 hn2
    have hp : ∀ g ∈ G, 1 ≤ g := fun g hg => (h3 g hg).1
    have h := dp_get hp 259 (259 - n) (by omega)
    rw [show 259 - (259 - n) = n by omega] at h
    rw [← h]
    have hm : (dp G 259).getD (259 - n) false ∈ (dp G 259).take 60 := by
      rw [List.getD, List.getElem?_eq_getElem (by rw [dp_length]; omega)]
      exact List.mem_take_iff_getElem.2 ⟨259 - n, by rw [dp_length]; omega, rfl⟩
    exact h6 _ hm

def baseL : List (List Nat) := [[1], [3, 5], [4, 6, 9], [3, 4, 5], [6, 9, 20], [5, 7, 9, 11], [2, 3], [4, 5, 11]]
theorem baseL_chk : baseL.all chkSg = true := by decide +kernel
theorem baseL_sg {G : List Nat} (h : G ∈ baseL) : isSgB (G.map fun g : Nat => (g : Int)) = true := chkSg_spec (List.all_eq_true.1 baseL_chk G h)
/-- The numbers of a semigroup are those of the semigroup that they make. -/
theorem from_sg {G : List Int} (h : isSgB G = true) : fromB G = true ∧ fromL G = G := by
  have hs := isSgB_iff.1 h
  have hf : fromB G = true := by unfold fromB; rw [hs.ok, hs.min, h]; rfl
  exact ⟨hf, by rw [fromL_yes hf]; exact hs.min⟩
theorem baseL_len {G : List Nat} (h : G ∈ baseL) : G.length ≤ 4 := by
  have : baseL.all (fun G => decide (G.length ≤ 4)) = true := by decide
  simpa using List.all_eq_true.1 this G h
end Go.Proofs.YtdjjagpecbflnaaGreatDoor
