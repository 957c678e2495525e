/-
  CHAPTER 9 OF THE REFERENCE: PseudoFrobenius, TypeOf. (Own work.)
-/
import Derived.Test.YtekeaigdphicaaaSgS
import Derived.Test.YtekeaigdphicaaaCh4L
import Derived.Test.YtekeaigdphicaaaL19
import Derived.Test.YtekeaigdphicaaaHta
namespace Go.Proofs.Ytekeaigdphicaaa
open Go Go.RowKit

theorem gapsL_bnd {G : List Int} : ∀ x ∈ gapsL G, 0 ≤ x ∧ x ≤ 199 := by
  intro x hx
  unfold gapsL at hx
  split at hx
  · obtain ⟨n, hn, rfl⟩ := List.mem_map.1 hx
    have := (mem_upB.1 hn).1
    exact ⟨Int.natCast_nonneg n, by simp only [Int.ofNat_eq_natCast]; omega⟩
  · cases hx
theorem gapsL_sg {G : List Int} (h : gapsL G ≠ []) : isSgB G = true := by
  cases hs : isSgB G
  · exact absurd (gapsL_no hs) h
  · rfl
theorem keep93 {W wr w1 : World} {b1 b2 b3 o2 o3 : Nat} {v1 v2 v3 : Value} (h1 : b1 < W.heap.size) (h2 : b2 < W.heap.size) (h3 : b3 < W.heap.size)
    (h : wr.cell? ⟨b1, 0, none⟩ = some v1 ∧ wr.cell? ⟨b2, o2, none⟩ = some v2 ∧ wr.cell? ⟨b3, o3, none⟩ = some v3 ∧ Below W.heap.size W wr) (hb : Below wr.heap.size wr w1) : w1.cell? ⟨b1, 0, none⟩ = some v1 ∧ w1.cell? ⟨b2, o2, none⟩ = some v2 ∧ w1.cell? ⟨b3, o3, none⟩ = some v3 ∧ Below W.heap.size W w1 := by
  obtain ⟨e1, e2, e3, hB⟩ := h
  have hs := hB.size
  exact ⟨(hb.cell (p := ⟨b1, 0, none⟩) (Nat.lt_of_lt_of_le h1 hs)).trans e1, (hb.cell (p := ⟨b2, o2, none⟩) (Nat.lt_of_lt_of_le h2 hs)).trans e2, (hb.cell (p := ⟨b3, o3, none⟩) (Nat.lt_of_lt_of_le h3 hs)).trans e3, hB.trans (hb.mono hs)⟩
end Go.Proofs.Ytekeaigdphicaaa
