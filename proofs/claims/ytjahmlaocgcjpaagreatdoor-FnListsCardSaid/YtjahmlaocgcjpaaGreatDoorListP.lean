/-
  PLAIN LEMMAS for the law on lists: a list is read again from its text; sums commute; what a positive common divisor divides.
-/
import Derived.Test.YtjahmlaocgcjpaaGreatDoorC2f
import Derived.Test.YtjahmlaocgcjpaaGreatDoorC2d
namespace Go.Proofs.YtjahmlaocgcjpaaGreatDoor
open Go

theorem decDigits_bytes (u : Nat) : ∀ x ∈ Lib.decDigits u, 48 ≤ x.toNat ∧ x.toNat ≤ 57 := by
  induction u using Nat.strongRecOn with
  | _ u ih =>
    rw [Lib.decDigits]
    by_cases h : u < 10
    · rw [dif_pos h]
      intro x hx
      rw [List.mem_singleton] at hx
      subst hx
      rw [UInt8.toNat_ofNat']
      omega
    · rw [dif_neg h]
      intro x hx
      rcases List.mem_append.1 hx with hx | hx
      · exact ih (u / 10) (by omega) x hx
      · rw [List.mem_singleton] at hx
        subst hx
        rw [UInt8.toNat_ofNat']
        omega
theorem itoa_bytes (n : Int) : ∀ x ∈ Lib.itoa n, x.toNat = 45 ∨ (48 ≤ x.toNat ∧ x.toNat ≤ 57) := by
  intro x hx
  unfold Lib.itoa at hx
  split at hx
  · rcases List.mem_cons.1 hx with h | h
    · subst h; exact .inl rfl
    · exact .inr (decDigits_bytes _ x h)
  · exact .inr (decDigits_bytes _ x hx)
theorem itoa_no44 (n : Int) : ∀ x ∈ Lib.itoa n, x ≠ 44 := by
  intro x hx e
  subst e
  rcases itoa_bytes n _ hx with h | ⟨h, _⟩
  · exact absurd h (by decide)
  · exact absurd h (by decide)
theorem itoa_ne (n : Int) : Lib.itoa n ≠ [] := by
  unfold Lib.itoa
  split
  · simp
  · rw [Lib.decDigits]
    split <;> simp

theorem splitL_join' (c : UInt8) : ∀ (p : List UInt8) (ps : List (List UInt8)), (∀ q ∈ p :: ps, ∀ x ∈ q, x ≠ c) → splitL c (Lib.join (p :: ps) [c]) = p :: ps
  | p, [], h => by
    rw [Lib.join_one]
    exact splitL_none c p (h p (by simp))
  | p, q :: r, h => by
    have ih := splitL_join' c q r (fun x hx => h x (List.mem_cons_of_mem _ hx))
    have e : Lib.join (p :: q :: r) [c] = p ++ c :: Lib.join (q :: r) [c] := by
      rw [Lib.join_cons, Lib.join_cons]
      simp [Lib.joinTail]
    rw [e, splitL_hit c _ p (h p (by simp)), ih]

theorem readAll_itoa : ∀ L : List Int, (∀ x ∈ L, -999999999999 ≤ x ∧ x ≤ 999999999999) → readAll (L.map Lib.itoa) = some L
  | [], _ => rfl
  | x :: r, h => by
    have hx := h x (by simp)
    simp only [List.map_cons, readAll, readOf_some rfl hx.1 hx.2, readAll_itoa r (fun y hy => h y (List.mem_cons_of_mem _ hy))]
    rfl

theorem readList_listText (L : List Int) (h : ∀ x ∈ L, -999999999999 ≤ x ∧ x ≤ 999999999999) : readList (listText L) = some L := by
  cases L with
  | nil => show readList noneB = some []; exact readList_none
  | cons x r =>
    have hT := listText_cons (L := x :: r) (by simp)
    have hne : listText (x :: r) ≠ noneB := by
      rw [hT]
      intro e
      have e2 := congrArg (fun s : ByteArray => s.data.toList) e
      simp only [noneB, List.map_cons, Lib.join_cons] at e2
      cases hi : Lib.itoa x with
      | nil => exact itoa_ne x hi
      | cons b t =>
        rw [hi] at e2
        simp at e2
        have hb := itoa_bytes x b (by rw [hi]; simp)
        rw [e2.1] at hb
        rcases hb with hb | ⟨_, hb⟩ <;> exact absurd hb (by decide)
    unfold readList
    rw [if_neg hne, hT]
    show readAll (splitL 44 (Lib.join ((x :: r).map Lib.itoa) [44])) = _
    rw [List.map_cons, splitL_join' 44 _ _ ?_, ← List.map_cons, readAll_itoa _ h]
    intro q hq
    rw [← List.map_cons] at hq
    obtain ⟨y, -, rfl⟩ := List.mem_map.1 hq
    exact itoa_no44 y

theorem listText_size (L : List Int) (hI : ∀ x ∈ L, -9223372036854775808 ≤ x ∧ x ≤ 9223372036854775807) : (listText L).size ≤ 22 * L.length + 4 := by
  cases L with
  | nil => decide
  | cons x r =>
    rw [listText_cons (by simp)]
    have h1 : (Lib.join ((x :: r).map Lib.itoa) [44]).length ≤ 22 * (x :: r).length := by
      rw [List.map_cons, Lib.join_cons, List.length_append, Lib.joinTail_length]
      have h2 : ∀ M : List Int, (∀ x ∈ M, -9223372036854775808 ≤ x ∧ x ≤ 9223372036854775807) → Lib.lens (M.map Lib.itoa) ≤ 21 * M.length := by
        intro M
        induction M with
        | nil => intro _; simp [Lib.lens]
        | cons y t ih =>
          intro h
          have h3 := Lib.itoa_length_le y (h y (by simp)).1 (h y (by simp)).2
          have h4 := ih (fun z hz => h z (List.mem_cons_of_mem _ hz))
          simp only [Lib.lens, List.map_cons, List.sum_cons, List.length_cons] at h4 ⊢
          omega
      have h3 := h2 r (fun z hz => hI z (List.mem_cons_of_mem _ hz))
      have h4 := Lib.itoa_length_le x (hI x (by simp)).1 (hI x (by simp)).2
      simp only [List.length_cons, List.length_map, List.length_nil]
      omega
    show (Lib.join ((x :: r).map Lib.itoa) [44]).toArray.size ≤ _
    rw [List.size_toArray]
    omega

theorem ascB_sortL (L : List Int) : ascB (sortL L) = true :=
  ascB_true fun k hk => (sortL_spec L).1 k (k + 1) hk (by omega)

theorem mem_allSums (A B : List Int) (z : Int) : z ∈ allSums A B ↔ ∃ x ∈ A, ∃ y ∈ B, x + y = z := by
  unfold allSums
  simp [List.mem_flatMap, List.mem_map]

theorem sums_comm (A B : List Int) : sums A B = sums B A := by
  unfold sums
  rw [Bool.and_comm]
  split
  · refine sortL_eq (sortL_spec _).1 fun z => ?_
    rw [(sortL_spec _).2, mem_allSums, mem_allSums]
    constructor
    · rintro ⟨x, hx, y, hy, e⟩; exact ⟨y, hy, x, hx, by omega⟩
    · rintro ⟨x, hx, y, hy, e⟩; exact ⟨y, hy, x, hx, by omega⟩
  · rfl

theorem gcdOf_divides {a b : Int} (h : 0 < gcdOf a b) : a.tmod (gcdOf a b) = 0 ∧ b.tmod (gcdOf a b) = 0 := by
  unfold gcdOf at *
  split at h
  · rename_i hs
    rw [if_pos hs]
    constructor
    · exact Int.tmod_eq_zero_of_dvd (Int.ofNat_dvd_left.2 (Nat.gcd_dvd_left _ _))
    · exact Int.tmod_eq_zero_of_dvd (Int.ofNat_dvd_left.2 (Nat.gcd_dvd_right _ _))
  · omega
end Go.Proofs.YtjahmlaocgcjpaaGreatDoor
