/-
  A SLICE THAT CAN BE READ: what contracts on slices ask and give. No function of the program in this text.
-/
import Derived.Test.YtjahmlaocgcjpaaGreatDoorBase
import Derived.Laws.AppendOwn
import Derived.Laws.OwnMore
import Derived.OwnWalk
namespace Go.Proofs.YtjahmlaocgcjpaaGreatDoor
open Go Go.RowKit

/-- The slice's first cells hold the values xs (where there is one at all). -/
def SlV (w : World) (a : Option Addr) (xs : List Value) : Prop :=
  xs = [] ∨ ∃ b off, a = some ⟨b, off, none⟩ ∧ b < w.heap.size ∧ ∀ (i : Nat) (u : Value), xs[i]? = some u → w.cell? ⟨b, off + i, none⟩ = some u

theorem SlV.below {w w' : World} {a : Option Addr} {xs : List Value} (h : SlV w a xs) (hb : Below w.heap.size w w') : SlV w' a xs := by
  rcases h with h | ⟨b, off, ha, hlt, hc⟩
  · exact .inl h
  · exact .inr ⟨b, off, ha, Nat.lt_of_lt_of_le hlt hb.size, fun i u hi => by rw [hb.cell (p := ⟨b, off + i, none⟩) hlt]; exact hc i u hi⟩

theorem SlV.nil (w : World) (a : Option Addr) : SlV w a [] := .inl rfl

theorem SlV.open {w : World} {a : Option Addr} {xs : List Value} (h : SlV w a xs) (hne : xs ≠ []) :
    ∃ b off, a = some ⟨b, off, none⟩ ∧ b < w.heap.size ∧ ∀ (i : Nat) (u : Value), xs[i]? = some u → w.cell? ⟨b, off + i, none⟩ = some u := by
  rcases h with h | h
  · exact absurd h hne
  · exact h

/-- An owned row can be read. -/
theorem SlV.of_owns {w : World} {base : Nat} {e : TypeId} {v : Value} {n : Nat} {xs : List Value} (h : w.ownsRow base e 1 v n xs) :
    ∃ a cap, v = .slice a n cap ∧ n = xs.length ∧ n ≤ cap ∧ SlV w a xs ∧ (xs = [] ∨ ∃ g, a = some ⟨g, 0, none⟩ ∧ base ≤ g) := by
  obtain ⟨hl, h⟩ := h
  have hn : n = xs.length := by omega
  rcases h with ⟨rfl, rfl⟩ | ⟨g, cap, cur, rfl, hb, hg, hnc, hcm, hcs, htk⟩
  · have : xs = [] := List.eq_nil_of_length_eq_zero (by omega)
    exact ⟨none, 0, rfl, hn, Nat.le_refl _, .inl this, .inl this⟩
  · refine ⟨some ⟨g, 0, none⟩, cap, rfl, hn, hnc, .inr ⟨g, 0, rfl, ?_, fun i u hi => ?_⟩, .inr ⟨g, rfl, hb⟩⟩
    · rcases Nat.lt_or_ge g w.heap.size with h1 | h1
      · exact h1
      · rw [Array.getElem?_eq_none h1] at hg; cases hg
    · rw [cell_of_row w g (0 + i) cur e (0, 0) hg, Nat.zero_add, ← hi, ← htk, List.getElem?_take, if_pos]
      · simp
      · have := (List.getElem?_eq_some_iff.1 hi).1
        omega

/-- A row of integers, of strings, that came in. -/
theorem SlV.of_row {k : IntKind} {w : World} {a : Option Addr} {len cap : Nat} {zs : List Int} (h : IsRow k w a len cap zs) : SlV w a ((zs.take len).map (Value.int k)) ∧ (zs.take len).length = len := by
  rcases h with ⟨rfl, rfl, rfl⟩ | ⟨b, off, rfl, hlt, hl, hm, hz, hc, hw⟩
  · exact ⟨.inl rfl, rfl⟩
  · refine ⟨.inr ⟨b, off, rfl, hlt, fun i u hi => ?_⟩, by rw [List.length_take]; omega⟩
    rw [List.getElem?_map, Option.map_eq_some_iff] at hi
    obtain ⟨z, hz1, rfl⟩ := hi
    rw [List.getElem?_take] at hz1
    split at hz1
    · rename_i hi2
      have h1 := (List.getElem?_eq_some_iff.1 hz1).1
      rw [hc i h1, List.getD, hz1]; rfl
    · cases hz1
theorem SlV.of_strs {w : World} {a : Option Addr} {len cap : Nat} {ss : List ByteArray} (h : IsStrs w a len cap ss) : SlV w a ((ss.take len).map Value.string) ∧ (ss.take len).length = len ∧ ∀ s ∈ ss.take len, s.size ≤ maxLen := by
  rcases h with ⟨rfl, rfl, rfl⟩ | ⟨b, off, rfl, hlt, hl, hm, hz, hc, hw⟩
  · exact ⟨.inl rfl, rfl, by simp⟩
  · refine ⟨.inr ⟨b, off, rfl, hlt, fun i u hi => ?_⟩, by rw [List.length_take]; omega, fun s hs => hw s (List.mem_of_mem_take hs)⟩
    rw [List.getElem?_map, Option.map_eq_some_iff] at hi
    obtain ⟨z, hz1, rfl⟩ := hi
    rw [List.getElem?_take] at hz1
    split at hz1
    · rename_i hi2
      have h1 := (List.getElem?_eq_some_iff.1 hz1).1
      rw [hc i h1, List.getD, hz1]; rfl
    · cases hz1

/-- k cells are filled, the others still zero. -/
def filled (xs : List Value) (z : Value) (k : Nat) : List Value := xs.take k ++ List.replicate (xs.length - k) z
theorem filled_zero (xs : List Value) (z : Value) : filled xs z 0 = List.replicate xs.length z := by simp [filled]
theorem filled_all (xs : List Value) (z : Value) : filled xs z xs.length = xs := by simp [filled]
theorem filled_set (xs : List Value) (z u : Value) (k : Nat) (hu : xs[k]? = some u) : (filled xs z k).set k u = filled xs z (k + 1) := by
  have hk := (List.getElem?_eq_some_iff.1 hu).1
  unfold filled
  rw [List.set_append_right _ _ (by simp; omega)]
  have e1 : k - (xs.take k).length = 0 := by simp; omega
  have e2 : xs.length - k = (xs.length - (k + 1)) + 1 := by omega
  rw [e1, e2, List.replicate_succ, List.set_cons_zero, List.take_add_one, hu]
  simp
end Go.Proofs.YtjahmlaocgcjpaaGreatDoor
