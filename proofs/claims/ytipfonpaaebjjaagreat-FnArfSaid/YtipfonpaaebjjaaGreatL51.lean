/-
  CONTRACTS of the reference's chapter 15: membership of any number, SeriesFrom, IsPalindrome. (Own work.)
-/
import Derived.Test.YtipfonpaaebjjaaGreatSgSr
import Derived.Test.YtipfonpaaebjjaaGreatSgL
import Derived.Maps.AppendAt
import Derived.WalkMore
namespace Go.Proofs.YtipfonpaaebjjaaGreat
open Go Go.RowKit

set_option maxRecDepth 100000 in
set_option maxHeartbeats 800000 in
theorem spec_l15Has (G : List Int) (n : Int) (a : Option Addr) (cap : Nat) (w : World) (hr : SlV w a (G.map (Value.int .i64))) (hs : isSgB G = true) :
    Calls Tryz.prog 73 #[.agg #[.slice a G.length cap], .int .i64 n] w fun e w' => e = .returned (.bool (hasN G n)) ∧ Below w.heap.size w w' := by
  obtain ⟨W, hW⟩ : ∃ W, W = w.alloc (.cells #[.slice a G.length cap] 26) := ⟨_, rfl⟩
  have hbW : Below w.heap.size w W := by rw [hW]; exact box_below _ _
  have hc0 : W.cell? ⟨w.heap.size, 0, none⟩ = some (.slice a G.length cap) := by rw [hW]; exact box_cell w _
  have c1 := spec_l3Has G n a cap W (hr.below hbW) hs
  have hz := hasZ_sg hs n
  have HW := Lib.hid hW
  clear hW hr
  by_cases h0 : n = 0
  · have HR : Hid (hasN G n = true) := Lib.hid (by rw [← hz]; unfold hasZ; rw [decide_eq_true h0]; rfl)
    have hd : (n == 0) = true := by rw [beq_iff_eq]; exact h0
    clear h0 hz hs c1
    go_enter Tryz.func73, Tryz.ntmps73
    go_wp2_with fail
    rw [← HW.out]
    go_ret
    exact ⟨by rw [HR.out]; rfl, hbW⟩
  · have hd : (n == 0) = false := by rw [beq_eq_false_iff_ne]; exact h0
    clear h0 hz hs
    generalize hasN G n = q at *
    go_enter Tryz.func73, Tryz.ntmps73
    go_wp2_with fail
    rw [← HW.out]
    refine c1.mono ?_
    rintro e w1 ⟨rfl, hb1⟩
    have hb01 := hbW.trans (hb1.mono hbW.size)
    go_wp2_with fail
    go_ret
    exact ⟨rfl, hb01⟩
noncomputable def serK (L : List Int) (k : Nat) : List Int := (List.range k).map fun j => wsum (L.take (j + 1))
theorem serK_succ (L : List Int) (k : Nat) : serK L (k + 1) = serK L k ++ [wsum (L.take (k + 1))] := by unfold serK; rw [List.range_succ, List.map_append]; rfl
theorem serK_len (L : List Int) (k : Nat) : (serK L k).length = k := by unfold serK; simp
end Go.Proofs.YtipfonpaaebjjaaGreat
