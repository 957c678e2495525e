/-
  PLAIN LEMMAS: a text parted at every occurrence of one byte. No program in this text.
-/
import Derived.Test.YtjahmlaocgcjpaaGreatDoorProg
import Derived.Lib.Split
import Derived.Lib.SplitLaws
import Derived.Lib.CountLaws
import Derived.Lib.IndexLaws
import Derived.Lib.Join
namespace Go.Proofs.YtjahmlaocgcjpaaGreatDoor
open Go

/-- The parts of a text between the occurrences of c. -/
def splitL (c : UInt8) : List UInt8 → List (List UInt8)
  | [] => [[]]
  | b :: r => if b = c then [] :: splitL c r else match splitL c r with
    | [] => [[b]]
    | p :: ps => (b :: p) :: ps

theorem splitL_ne (c : UInt8) (l : List UInt8) : splitL c l ≠ [] := by
  cases l with
  | nil => simp [splitL]
  | cons b r =>
    simp only [splitL]
    split
    · simp
    · split <;> simp
theorem splitL_none (c : UInt8) : ∀ p : List UInt8, (∀ x ∈ p, x ≠ c) → splitL c p = [p]
  | [], _ => rfl
  | b :: r, h => by
    have hb : b ≠ c := h b (by simp)
    simp only [splitL, if_neg hb, splitL_none c r (fun x hx => h x (by simp [hx]))]
theorem splitL_hit (c : UInt8) (r : List UInt8) : ∀ p : List UInt8, (∀ x ∈ p, x ≠ c) → splitL c (p ++ c :: r) = p :: splitL c r
  | [], _ => by simp [splitL]
  | b :: p, h => by
    have hb : b ≠ c := h b (by simp)
    simp only [List.cons_append, splitL, if_neg hb, splitL_hit c r p (fun x hx => h x (by simp [hx]))]

theorem first_occ (c : UInt8) : ∀ s : List UInt8, (∀ x ∈ s, x ≠ c) ∨ ∃ p r, s = p ++ c :: r ∧ ∀ x ∈ p, x ≠ c
  | [] => .inl (by simp)
  | b :: s => by
    by_cases hb : b = c
    · exact .inr ⟨[], s, by simp [hb], by simp⟩
    · rcases first_occ c s with h | ⟨p, r, rfl, h⟩
      · exact .inl (by intro x hx; rcases List.mem_cons.1 hx with rfl | hx; exact hb; exact h x hx)
      · exact .inr ⟨b :: p, r, rfl, by intro x hx; rcases List.mem_cons.1 hx with rfl | hx; exact hb; exact h x hx⟩

theorem occ_one (s : List UInt8) (c : UInt8) (j : Nat) : Lib.occAt s [c] j = (s[j]? == some c) := by
  unfold Lib.occAt
  rw [← List.head?_drop]
  cases s.drop j with
  | nil => rfl
  | cons a t => simp only [List.isPrefixOf, Bool.and_true, List.head?_cons]; exact BEq.comm

theorem index_no (c : UInt8) (s : List UInt8) (h : ∀ x ∈ s, x ≠ c) : Lib.index s [c] = -1 :=
  Lib.index_none fun j _ => by
    rw [occ_one, beq_eq_false_iff_ne]
    intro e
    exact h c (List.mem_of_getElem? e) rfl
theorem index_at (c : UInt8) (p r : List UInt8) (h : ∀ x ∈ p, x ≠ c) : Lib.index (p ++ c :: r) [c] = p.length :=
  Lib.index_first (by simp) (by rw [occ_one]; simp) fun j hj => by
    rw [occ_one, beq_eq_false_iff_ne, List.getElem?_append_left hj, List.getElem?_eq_getElem hj]
    intro e
    exact h _ (List.getElem_mem hj) (Option.some.inj e)

theorem splitK_one (c : UInt8) : ∀ (n : Nat) (s : List UInt8), s.length ≤ n → Lib.splitK [c] 0 (Lib.count s [c]) s = splitL c s
  | n, s, hn => by
    rcases first_occ c s with h | ⟨p, r, rfl, h⟩
    · rw [Lib.count_miss (index_no c s h), splitL_none c s h]; rfl
    · have hi := index_at c p r h
      have hd : (p ++ c :: r).drop (p.length + 1) = r := by rw [← List.drop_drop]; simp
      rw [Lib.count_hit (by simp) hi, splitL_hit c r p h, Nat.add_comm, Lib.splitK, hi, if_neg (by rw [beq_iff_eq]; omega)]
      have e1 : ((p.length : Int).toNat + 0) = p.length := by omega
      have e2 : ((p.length : Int).toNat + [c].length) = p.length + 1 := by simp
      rw [e1, e2, show p.length + [c].length = p.length + 1 from rfl, hd, List.take_left]
      cases n with
      | zero => simp at hn
      | succ n => rw [splitK_one c n r (by simp at hn; omega)]

theorem splitB_one (c : UInt8) (s : ByteArray) : (Lib.splitB ⟨#[c]⟩ 0 (Lib.countB s ⟨#[c]⟩) s).map (·.data.toList) = splitL c s.data.toList := by
  rw [Lib.splitB_data]
  exact splitK_one c _ s.data.toList (Nat.le_refl _)

theorem bytes_inj {a b : ByteArray} (h : a.data.toList = b.data.toList) : a = b := ByteArray.ext (Array.toList_inj.1 h)
theorem parts_inj : ∀ (M N : List ByteArray), M.map (·.data.toList) = N.map (·.data.toList) → M = N
  | [], [], _ => rfl
  | [], _ :: _, h => by simp at h
  | _ :: _, [], h => by simp at h
  | a :: M, b :: N, h => by
    simp only [List.map_cons, List.cons.injEq] at h
    rw [bytes_inj h.1, parts_inj M N h.2]

theorem splitL_length (c : UInt8) : ∀ l : List UInt8, (splitL c l).length ≤ l.length + 1
  | [] => by simp [splitL]
  | b :: r => by
    have := splitL_length c r
    simp only [splitL]
    split
    · simp; omega
    · split
      · simp
      · rename_i h; rw [h] at this; simp at this ⊢; omega

theorem splitL_join (c : UInt8) (l : List UInt8) : Lib.join (splitL c l) [c] = l := by
  suffices h : ∀ l : List UInt8, ∃ p ps, splitL c l = p :: ps ∧ p ++ Lib.joinTail [c] ps = l by
    obtain ⟨p, ps, h1, h2⟩ := h l
    rw [h1, Lib.join_cons, h2]
  intro l
  induction l with
  | nil => exact ⟨[], [], rfl, rfl⟩
  | cons b r ih =>
    obtain ⟨p, ps, h1, h2⟩ := ih
    by_cases hb : b = c
    · refine ⟨[], p :: ps, by rw [splitL, if_pos hb, h1], ?_⟩
      rw [hb, List.nil_append]
      show ([c] ++ p) ++ Lib.joinTail [c] ps = c :: r
      rw [List.append_assoc, h2]; rfl
    · exact ⟨b :: p, ps, by rw [splitL, if_neg hb, h1], by rw [List.cons_append, h2]⟩
theorem splitL_parts (c : UInt8) : ∀ (l : List UInt8) (p : List UInt8), p ∈ splitL c l → ∀ x ∈ p, x ≠ c
  | [], p, hp, x, hx => by simp [splitL] at hp; subst hp; cases hx
  | b :: r, p, hp, x, hx => by
    by_cases hb : b = c
    · rw [splitL, if_pos hb] at hp
      rcases List.mem_cons.1 hp with rfl | hp
      · cases hx
      · exact splitL_parts c r p hp x hx
    · cases h : splitL c r with
      | nil => exact absurd h (splitL_ne c r)
      | cons q qs =>
        have ih := splitL_parts c r
        rw [h] at ih
        rw [splitL, if_neg hb, h] at hp
        rcases List.mem_cons.1 hp with rfl | hp
        · rcases List.mem_cons.1 hx with rfl | hx
          · exact hb
          · exact ih q (by simp) x hx
        · exact ih p (by simp [hp]) x hx
theorem splitL_lens (c : UInt8) (l : List UInt8) : Lib.lens (splitL c l) ≤ l.length := by
  have h := congrArg List.length (splitL_join c l)
  cases hs : splitL c l with
  | nil => simp [Lib.lens]
  | cons p ps =>
    rw [hs, Lib.join_cons, List.length_append, Lib.joinTail_length] at h
    simp only [Lib.lens, List.map_cons, List.sum_cons] at h ⊢
    omega
end Go.Proofs.YtjahmlaocgcjpaaGreatDoor
