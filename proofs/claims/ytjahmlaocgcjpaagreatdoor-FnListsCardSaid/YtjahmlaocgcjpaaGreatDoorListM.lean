/-
  PLAIN LEMMAS on lists of numbers: the common divisor, strictly ascending lists, insertion, sums, what is shared. No program in this text.
-/
import Derived.Test.YtjahmlaocgcjpaaGreatDoorProg
namespace Go.Proofs.YtjahmlaocgcjpaaGreatDoor
open Go

/-! ### The common divisor -/
def small (n : Int) : Bool := decide (-1000000 ≤ n) && decide (n ≤ 1000000)
theorem small_iff {n : Int} : small n = true ↔ -1000000 ≤ n ∧ n ≤ 1000000 := by simp [small]
def gcdOf (a b : Int) : Int := if small a && small b then (Nat.gcd a.natAbs b.natAbs : Nat) else 0
theorem gcdOf_in {a b : Int} (ha : small a = true) (hb : small b = true) : gcdOf a b = (Nat.gcd a.natAbs b.natAbs : Nat) := by simp [gcdOf, ha, hb]
theorem gcdOf_out {a b : Int} (h : small a = false ∨ small b = false) : gcdOf a b = 0 := by
  unfold gcdOf; rcases h with h | h <;> simp [h]
theorem gcd_le_million (a b : Nat) (ha : a ≤ 1000000) (hb : b ≤ 1000000) : Nat.gcd a b ≤ 1000000 := by
  rcases Nat.eq_zero_or_pos a with h | h
  · subst h; simpa using hb
  · exact Nat.le_trans (Nat.gcd_le_left b h) ha
theorem gcdOf_bounds (a b : Int) : 0 ≤ gcdOf a b ∧ gcdOf a b ≤ 1000000 := by
  unfold gcdOf
  split
  · rename_i h
    simp only [Bool.and_eq_true, small_iff] at h
    have := gcd_le_million a.natAbs b.natAbs (by omega) (by omega)
    omega
  · omega
/-- The Euclidean step. -/
theorem gcd_step (a b : Nat) : Nat.gcd b (a % b) = Nat.gcd a b := by
  rw [Nat.gcd_comm a b, Nat.gcd_rec b a, Nat.gcd_comm]
def gcdL (L : List Int) : Int := L.foldl gcdOf 0
theorem gcdL_take (L : List Int) (k : Nat) (h : k < L.length) : gcdL (L.take (k + 1)) = gcdOf (gcdL (L.take k)) L[k] := by
  unfold gcdL
  rw [List.take_add_one, List.getElem?_eq_getElem h, List.foldl_append]
  rfl
theorem gcdL_bounds (L : List Int) : 0 ≤ gcdL L ∧ gcdL L ≤ 1000000 := by
  unfold gcdL
  suffices h : ∀ (L : List Int) (a : Int), 0 ≤ a ∧ a ≤ 1000000 → 0 ≤ L.foldl gcdOf a ∧ L.foldl gcdOf a ≤ 1000000 from h L 0 (by omega)
  intro L
  induction L with
  | nil => intro a h; exact h
  | cons x r ih => intro a _; exact ih _ (gcdOf_bounds a x)

/-! ### Strictly ascending lists -/
def Asc (L : List Int) : Prop := ∀ (i j : Nat) (hj : j < L.length) (hij : i < j), L[i]'(Nat.lt_trans hij hj) < L[j]
theorem Asc.nil : Asc [] := fun _ _ hj _ => absurd hj (by simp)
theorem Asc.tail {x : Int} {r : List Int} (h : Asc (x :: r)) : Asc r := fun i j hj hij => by
  have := h (i + 1) (j + 1) (by simp; omega) (by omega)
  simpa using this
theorem Asc.head {x : Int} {r : List Int} (h : Asc (x :: r)) : ∀ y ∈ r, x < y := fun y hy => by
  obtain ⟨k, hk, rfl⟩ := List.getElem_of_mem hy
  have := h 0 (k + 1) (by simp; omega) (by omega)
  simpa using this
theorem Asc.cons {x : Int} {r : List Int} (hx : ∀ y ∈ r, x < y) (hr : Asc r) : Asc (x :: r) := fun i j hj hij => by
  cases j with
  | zero => omega
  | succ j =>
    cases i with
    | zero => simpa using hx _ (List.getElem_mem (by simpa using hj))
    | succ i => simpa using hr i j (by simpa using hj) (by omega)
/-- Neighbours suffice. -/
theorem asc_of_next {L : List Int} (h : ∀ (k : Nat) (hk : k + 1 < L.length), L[k] < L[k + 1]) : Asc L := by
  intro i j hj hij
  induction j with
  | zero => omega
  | succ j ih =>
    by_cases e : i = j
    · subst e; exact h i hj
    · exact Int.lt_trans (ih (by omega) (by omega)) (h j hj)
/-- A strictly ascending list is told by its members. -/
theorem asc_unique : ∀ {L M : List Int}, Asc L → Asc M → (∀ x, x ∈ L ↔ x ∈ M) → L = M
  | [], [], _, _, _ => rfl
  | [], y :: M, _, _, h => absurd ((h y).2 (by simp)) (by simp)
  | x :: L, [], _, _, h => absurd ((h x).1 (by simp)) (by simp)
  | x :: L, y :: M, hL, hM, h => by
    have hx := hL.head; have hy := hM.head
    have e : x = y := by
      rcases List.mem_cons.1 ((h x).1 (by simp)) with e | e
      · exact e
      · rcases List.mem_cons.1 ((h y).2 (by simp)) with e2 | e2
        · exact e2.symm
        · have := hy x e; have := hx y e2; omega
    subst e
    rw [asc_unique hL.tail hM.tail fun z => ?_]
    constructor
    · intro hz
      rcases List.mem_cons.1 ((h z).1 (List.mem_cons_of_mem _ hz)) with e | e
      · have := hx z hz; omega
      · exact e
    · intro hz
      rcases List.mem_cons.1 ((h z).2 (List.mem_cons_of_mem _ hz)) with e | e
      · have := hy z hz; omega
      · exact e

/-! ### Insertion -/
def ins (x : Int) : List Int → List Int
  | [] => [x]
  | y :: r => if x < y then x :: y :: r else if x = y then y :: r else y :: ins x r
theorem mem_ins (x z : Int) : ∀ L : List Int, z ∈ ins x L ↔ z = x ∨ z ∈ L
  | [] => by simp [ins]
  | y :: r => by
    unfold ins
    split
    · simp
    · split
      · rename_i h; subst h; simp
      · simp only [List.mem_cons, mem_ins x z r]
        constructor
        · rintro (h | h | h) <;> simp [h]
        · rintro (h | h | h) <;> simp [h]
theorem asc_ins (x : Int) : ∀ L : List Int, Asc L → Asc (ins x L)
  | [], _ => by unfold ins; exact Asc.cons (by simp) Asc.nil
  | y :: r, h => by
    unfold ins
    split
    · rename_i hxy
      exact Asc.cons (fun z hz => by
        rcases List.mem_cons.1 hz with e | e
        · omega
        · have := h.head z e; omega) h
    · split
      · exact h
      · rename_i h1 h2
        exact Asc.cons (fun z hz => by
          rcases (mem_ins x z r).1 hz with e | e
          · omega
          · exact h.head z e) (asc_ins x r h.tail)
def sortL (L : List Int) : List Int := L.foldl (fun acc x => ins x acc) []
theorem sortL_take (L : List Int) (k : Nat) (h : k < L.length) : sortL (L.take (k + 1)) = ins L[k] (sortL (L.take k)) := by
  unfold sortL
  rw [List.take_add_one, List.getElem?_eq_getElem h, List.foldl_append]
  rfl
theorem sortL_spec (L : List Int) : Asc (sortL L) ∧ ∀ x, x ∈ sortL L ↔ x ∈ L := by
  suffices h : ∀ (L acc : List Int), Asc acc → Asc (L.foldl (fun acc x => ins x acc) acc) ∧ ∀ x, x ∈ L.foldl (fun acc x => ins x acc) acc ↔ x ∈ acc ∨ x ∈ L by
    have := h L [] Asc.nil
    exact ⟨this.1, fun x => by unfold sortL; rw [this.2]; simp⟩
  intro L
  induction L with
  | nil => intro acc h; exact ⟨h, fun x => by simp⟩
  | cons a r ih =>
    intro acc h
    obtain ⟨h1, h2⟩ := ih (ins a acc) (asc_ins a acc h)
    refine ⟨h1, fun x => ?_⟩
    rw [List.foldl_cons, h2, mem_ins]
    simp only [List.mem_cons]
    constructor
    · rintro ((h | h) | h) <;> simp [h]
    · rintro (h | h | h) <;> simp [h]
theorem sortL_eq {L M : List Int} (h : Asc M) (hm : ∀ x, x ∈ M ↔ x ∈ L) : M = sortL L :=
  asc_unique h (sortL_spec L).1 fun x => by rw [hm, (sortL_spec L).2]
theorem ins_length (x : Int) : ∀ L : List Int, (ins x L).length ≤ L.length + 1
  | [] => by simp [ins]
  | y :: r => by
    unfold ins
    split
    · simp
    · split
      · simp
      · have := ins_length x r; simp; omega
theorem sortL_length_le (L : List Int) : (sortL L).length ≤ L.length := by
  suffices h : ∀ (L acc : List Int), (L.foldl (fun acc x => ins x acc) acc).length ≤ acc.length + L.length by
    have := h L []; simpa [sortL] using this
  intro L
  induction L with
  | nil => intro acc; simp
  | cons a r ih => intro acc; have := ih (ins a acc); have := ins_length a acc; simp only [List.foldl_cons, List.length_cons]; omega
/-- WHERE x BELONGS: behind 'at' all are greater, ahead of it all are less: insertion at that place. -/
theorem ins_at (x : Int) : ∀ (L : List Int) (k : Nat), (∀ y ∈ L.take k, y < x) → (∀ y ∈ L.drop k, x < y) → k ≤ L.length → ins x L = L.take k ++ x :: L.drop k
  | [], k, _, _, hk => by simp at hk; subst hk; simp [ins]
  | y :: r, 0, _, h2, _ => by
    have := h2 y (by simp)
    unfold ins
    rw [if_pos this]; rfl
  | y :: r, k + 1, h1, h2, hk => by
    have hy := h1 y (by simp)
    unfold ins
    rw [if_neg (by omega), if_neg (by omega), ins_at x r k (fun z hz => h1 z (by simp [hz])) (fun z hz => h2 z (by simpa using hz)) (by simpa using hk)]
    rfl
theorem ins_mem (x : Int) (L : List Int) (hL : Asc L) (h : x ∈ L) : ins x L = L :=
  asc_unique (asc_ins x L hL) hL fun z => by
    rw [mem_ins]
    constructor
    · rintro (e | e)
      · rw [e]; exact h
      · exact e
    · exact .inr
end Go.Proofs.YtjahmlaocgcjpaaGreatDoor
