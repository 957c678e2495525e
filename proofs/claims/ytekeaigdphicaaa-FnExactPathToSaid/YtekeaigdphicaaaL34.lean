/-
  CHAPTER 9 OF THE REFERENCE, third part: l1Max, TypeOf, SpecialGaps. (Own work.)
-/
import Derived.Test.YtekeaigdphicaaaL29
namespace Go.Proofs.Ytekeaigdphicaaa
open Go Go.RowKit

theorem keep92 {W wr w1 : World} {b1 b2 o2 : Nat} {v1 v2 : Value} (h1 : b1 < W.heap.size) (h2 : b2 < W.heap.size)
    (h : wr.cell? ⟨b1, 0, none⟩ = some v1 ∧ wr.cell? ⟨b2, o2, none⟩ = some v2 ∧ Below W.heap.size W wr) (hb : Below wr.heap.size wr w1) : w1.cell? ⟨b1, 0, none⟩ = some v1 ∧ w1.cell? ⟨b2, o2, none⟩ = some v2 ∧ Below W.heap.size W w1 := by
  obtain ⟨e1, e2, hB⟩ := h
  have hs := hB.size
  exact ⟨(hb.cell (p := ⟨b1, 0, none⟩) (Nat.lt_of_lt_of_le h1 hs)).trans e1, (hb.cell (p := ⟨b2, o2, none⟩) (Nat.lt_of_lt_of_le h2 hs)).trans e2, hB.trans (hb.mono hs)⟩
theorem psfL_sg {G : List Int} (h : psfL G ≠ []) : isSgB G = true := by
  cases hs : isSgB G
  · exact absurd (psfL_no hs) h
  · rfl
theorem psfL_bnd {G : List Int} : ∀ x ∈ psfL G, 0 ≤ x ∧ x ≤ 199 := by
  intro x hx
  rw [psfL_way] at hx
  exact gapsL_bnd x (List.mem_filter.1 hx).1
theorem typeN_yes {G : List Int} (h : isSgB G = true) : typeN G = if (psfL G).length ≤ 1 then 1 else ((psfL G).length : Int) := by unfold typeN; rw [if_pos h]

set_option maxRecDepth 100000 in
set_option maxHeartbeats 400000 in
theorem l1Max_one (n : Nat) (w : World) : Calls Try.prog 67 #[.int .i64 1, .int .i64 (n : Int)] w fun e w' => e = .returned (.int .i64 (if n ≤ 1 then 1 else (n : Int))) ∧ w' = w := by
  by_cases h : n ≤ 1
  · rw [if_pos h]
    by_cases h1 : n = 1
    · subst h1
      go_enter Try.func67, Try.ntmps67
      go_wp2_with fail
      go_ret
      exact ⟨rfl, rfl⟩
    · obtain rfl : n = 0 := by omega
      go_enter Try.func67, Try.ntmps67
      go_wp2_with fail
      go_ret
      exact ⟨rfl, rfl⟩
  · rw [if_neg h]
    have hd : ¬ (n : Int) < 1 := by omega
    have hd2 : decide ((n : Int) < 1) = false := decide_eq_false hd
    clear h
    go_enter Try.func67, Try.ntmps67
    go_wp2_with fail
    go_ret
    exact ⟨rfl, rfl⟩


end Go.Proofs.Ytekeaigdphicaaa
