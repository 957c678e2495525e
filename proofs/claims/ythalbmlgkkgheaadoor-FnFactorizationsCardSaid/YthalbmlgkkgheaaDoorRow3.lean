/-
  LISTS OF LISTS OF INTS: two of them put together; an empty one in a block of its own. (Own work.)
-/
import Derived.Test.YthalbmlgkkgheaaDoorRow2
namespace Go.Proofs.YthalbmlgkkgheaaDoor
open Go Go.RowKit

/-- The headers of a second list of lists go behind those of the first. -/
theorem Rows2.join {w w' : World} {lo hi h2 : Nat} {v v' u : Value} {vs us : List Value} {xss yss : List (List Value)} (h : Rows2 w lo hi v vs xss) (k : Rows2 w hi h2 u us yss) (hlo : lo ≤ hi)
    (ho : w'.ownsRow lo 24 1 v' (vs.length + us.length) (vs ++ us)) (hg : w.grownBy w' v.ownBlock) (hv' : ∀ b, v'.ownBlock = some b → v.ownBlock = some b ∨ w.heap.size ≤ b) : Rows2 w' lo w'.heap.size v' (vs ++ us) (xss ++ yss) := by
  have hvb : ∀ b, v.ownBlock = some b → b < hi := h.blk
  have hin : ∀ i (hi' : i < vs.length) b, vs[i].ownBlock = some b → lo ≤ b ∧ b < hi := fun i hi' b hb => by
    have r := h.inn i hi' (by rw [← h.len]; exact hi')
    exact ⟨(r.own.lt b hb).1, r.blk b hb⟩
  have kin : ∀ i (hi' : i < us.length) b, us[i].ownBlock = some b → hi ≤ b ∧ b < w.heap.size := fun i hi' b hb => by
    have r := k.inn i hi' (by rw [← k.len]; exact hi')
    exact ⟨(r.own.lt b hb).1, (r.own.lt b hb).2⟩
  have hlen : (vs ++ us).length = vs.length + us.length := List.length_append
  have both : ∀ i (hi' : i < (vs ++ us).length) b, (vs ++ us)[i].ownBlock = some b → b < w.heap.size ∧ v.ownBlock ≠ some b := fun i hi' b hb => by
    by_cases e : i < vs.length
    · rw [List.getElem_append_left e] at hb
      exact ⟨Nat.lt_of_lt_of_le (hin i e b hb).2 h.hi_le, h.outer i e b hb⟩
    · rw [List.getElem_append_right (by omega)] at hb
      have := kin (i - vs.length) (by omega) b hb
      exact ⟨this.2, fun hq => by have := hvb b hq; omega⟩
  refine ⟨by rw [hlen]; exact ho, by rw [hlen, List.length_append, h.len, k.len], fun i h1 h2' => ?_, fun j hj => (ho.lt j hj).2, Nat.le_refl _, fun i j hi' hj hne b hb hb2 => ?_, fun i hi' b hb hb2 => ?_⟩
  · by_cases e : i < vs.length
    · have r := h.inn i e (by rw [← h.len]; exact e)
      simp only [List.getElem_append_left e, List.getElem_append_left (show i < xss.length by rw [← h.len]; exact e)]
      exact ⟨row_kept r.own fun j hj => hg.block j (r.own.lt j hj).2 fun e' => h.outer i e j hj e'.symm, fun j hj => Nat.lt_of_lt_of_le (r.blk j hj) (Nat.le_trans h.hi_le hg.size), Nat.le_refl _⟩
    · have hl := h.len
      have e1 : (vs ++ us)[i] = us[i - vs.length]'(by omega) := List.getElem_append_right (by omega)
      have hk : i - vs.length < yss.length := by rw [← k.len]; omega
      have e2 : (xss ++ yss)[i] = yss[i - vs.length] := by rw [List.getElem_append_right (by omega)]; simp only [hl]
      have r := k.inn (i - vs.length) (by omega) hk
      rw [e1, e2]
      exact ⟨ownsBase (row_kept r.own fun j hj => hg.block j (r.own.lt j hj).2 fun e' => by have h3 := hvb j e'.symm; have h4 := (r.own.lt j hj).1; omega) hlo, fun j hj => Nat.lt_of_lt_of_le (r.own.lt j hj).2 hg.size, Nat.le_refl _⟩
  · by_cases e : i < vs.length
    · rw [List.getElem_append_left e] at hb
      by_cases e' : j < vs.length
      · rw [List.getElem_append_left e'] at hb2
        exact h.apart i j e e' hne b hb hb2
      · rw [List.getElem_append_right (by omega)] at hb2
        have := (hin i e b hb).2; have := (kin (j - vs.length) (by omega) b hb2).1; omega
    · rw [List.getElem_append_right (by omega)] at hb
      by_cases e' : j < vs.length
      · rw [List.getElem_append_left e'] at hb2
        have := (hin j e' b hb2).2; have := (kin (i - vs.length) (by omega) b hb).1; omega
      · rw [List.getElem_append_right (by omega)] at hb2
        exact k.apart (i - vs.length) (j - vs.length) (by omega) (by omega) (by omega) b hb hb2
  · obtain ⟨h3, h4⟩ := both i hi' b hb
    rcases hv' b hb2 with h5 | h5
    · exact h4 h5
    · omega
end Go.Proofs.YthalbmlgkkgheaaDoor
