/-
  CHAPTER 4 OF THE REFERENCE: FrobeniusOf, GenusOf, ConductorOf. (Own work.)
-/
import Derived.Test.YtdjjagpecbflnaaL13
namespace Go.Proofs.Ytdjjagpecbflnaa
open Go Go.RowKit

theorem gapsL_length_le (G : List Int) : (gapsL G).length ≤ 200 := by
  unfold gapsL
  split
  · rw [List.length_map]; exact upB_len_le _ _
  · simp

set_option maxRecDepth 100000 in
set_option maxHeartbeats 800000 in
theorem spec_FrobeniusOf (G : List Int) (a : Option Addr) (cap : Nat) (w : World) (hr : SlV w a (G.map (Value.int .i64))) (hb : G.length ≤ 1048576) :
    Calls Try.prog 25 #[.agg #[.slice a G.length cap]] w fun e w' => e = .returned (.int .i64 (frobN G)) ∧ Below w.heap.size w w' := by
  obtain ⟨W, hW⟩ : ∃ W, W = w.alloc (.cells #[.slice a G.length cap] 26) := ⟨_, rfl⟩
  have hbW : Below w.heap.size w W := by rw [hW]; exact box_below _ _
  have hc0 : W.cell? ⟨w.heap.size, 0, none⟩ = some (.slice a G.length cap) := by rw [hW]; exact box_cell w _
  have hWs : w.heap.size < W.heap.size := by rw [hW]; simp
  have HW := Lib.hid hW
  clear hW
  have cg := spec_Gaps G a cap W (hr.below hbW) hb
  clear hc0
  have HF := Lib.hid (gaps_last G)
  have hlen := gapsL_length_le G
  clear hr hb
  go_enter Try.func25, Try.ntmps25
  go_wp2_with fail
  rw [← HW.out]
  refine cg.mono ?_
  rintro e w1 ⟨v, rfl, ho, hb0⟩
  have hb1 := hbW.trans (hb0.mono hbW.size)
  clear cg
  obtain ⟨a1, c1, rfl, -, -, hs1, -⟩ := SlV.of_owns ho
  clear ho
  generalize gapsL G = M at *
  by_cases hm : M.length = 0
  · have hn : M = [] := List.eq_nil_of_length_eq_zero hm
    subst hn
    clear hs1 hm hlen
    go_wp2_with fail
    go_ret
    exact ⟨by rw [HF.out]; rfl, hb1⟩
  · obtain ⟨b, off, rfl, hbs, hc⟩ := hs1.open (by intro h; rw [List.map_eq_nil_iff] at h; subst h; simp at hm)
    have hk : M.length - 1 < M.length := by omega
    have hcell : w1.cell? ⟨b, off + (M.length - 1), none⟩ = some (.int .i64 M[M.length - 1]) := hc (M.length - 1) _ (by simp [hk])
    have HL := Lib.hid (show frobN G = M[M.length - 1] by rw [HF.out, List.getLast?_eq_getElem?, List.getElem?_eq_getElem hk]; rfl)
    have hx2 : (0 : Int) ≤ (M.length : Int) - 1 := by omega
    have hx3 : (M.length : Int) - 1 < (M.length : Int) := by omega
    have hw1 : IntKind.i64.wrap ((M.length : Int) - 1) = (M.length : Int) - 1 := IntWalk.i64_in _ (by omega)
    have ht1 : ((M.length : Int) - 1).toNat = M.length - 1 := by omega
    have hne : ((M.length : Int) == 0) = false := by rw [beq_eq_false_iff_ne]; omega
    clear hc hs1 hm
    generalize M[M.length - 1] = x at *
    go_wp2_with fail
    go_ret
    exact ⟨by rw [HL.out]; rfl, hb1⟩

set_option maxRecDepth 100000 in
set_option maxHeartbeats 800000 in
theorem spec_ConductorOf (G : List Int) (a : Option Addr) (cap : Nat) (w : World) (hr : SlV w a (G.map (Value.int .i64))) (hb : G.length ≤ 1048576) :
    Calls Try.prog 29 #[.agg #[.slice a G.length cap]] w fun e w' => e = .returned (.int .i64 (condN G)) ∧ Below w.heap.size w w' := by
  obtain ⟨W, hW⟩ : ∃ W, W = w.alloc (.cells #[.slice a G.length cap] 26) := ⟨_, rfl⟩
  have hbW : Below w.heap.size w W := by rw [hW]; exact box_below _ _
  have hc0 : W.cell? ⟨w.heap.size, 0, none⟩ = some (.slice a G.length cap) := by rw [hW]; exact box_cell w _
  have hWs : w.heap.size < W.heap.size := by rw [hW]; simp
  have HW := Lib.hid hW
  clear hW
  have cg := spec_FrobeniusOf G a cap W (hr.below hbW) hb
  clear hc0
  have hw1 : IntKind.i64.wrap (frobN G + 1) = frobN G + 1 := IntWalk.i64_in _ (by have := condNat_le G; unfold frobN; split; split; all_goals omega)
  clear hr hb
  go_enter Try.func29, Try.ntmps29
  go_wp2_with fail
  rw [← HW.out]
  refine cg.mono ?_
  rintro e w1 ⟨rfl, hb0⟩
  have hb1 := hbW.trans (hb0.mono hbW.size)
  go_wp2_with fail
  go_ret
  exact ⟨rfl, hb1⟩

set_option maxRecDepth 100000 in
set_option maxHeartbeats 800000 in
theorem spec_GenusOf (G : List Int) (a : Option Addr) (cap : Nat) (w : World) (hr : SlV w a (G.map (Value.int .i64))) (hb : G.length ≤ 1048576) :
    Calls Try.prog 27 #[.agg #[.slice a G.length cap]] w fun e w' => e = .returned (.int .i64 (genusN G)) ∧ Below w.heap.size w w' := by
  obtain ⟨W, hW⟩ : ∃ W, W = w.alloc (.cells #[.slice a G.length cap] 26) := ⟨_, rfl⟩
  have hbW : Below w.heap.size w W := by rw [hW]; exact box_below _ _
  have hc0 : W.cell? ⟨w.heap.size, 0, none⟩ = some (.slice a G.length cap) := by rw [hW]; exact box_cell w _
  have hWs : w.heap.size < W.heap.size := by rw [hW]; simp
  have HW := Lib.hid hW
  clear hW
  have c1 := spec_IsSemigroup G a cap W (hr.below hbW) hb
  cases hs : isSgB G
  · have HR := Lib.hid (show genusN G = -1 by unfold genusN; rw [hs]; rfl)
    rw [hs] at c1
    clear hr hs
    go_enter Try.func27, Try.ntmps27
    go_wp2_with fail
    rw [← HW.out]
    refine c1.mono ?_
    rintro e w1 ⟨rfl, hb0⟩
    have hb1 := hbW.trans (hb0.mono hbW.size)
    go_wp2_with fail
    go_ret
    exact ⟨by rw [HR.out]; rfl, hb1⟩
  · rw [hs] at c1
    have HR := Lib.hid (show genusN G = ((gapsL G).length : Int) by unfold genusN; rw [if_pos hs])
    go_enter Try.func27, Try.ntmps27
    go_wp2_with fail
    rw [← HW.out]
    refine c1.mono ?_
    rintro e w1 ⟨rfl, hb0⟩
    have hb1 := hbW.trans (hb0.mono hbW.size)
    have hk : w1.cell? ⟨w.heap.size, 0, none⟩ = some (.slice a G.length cap) := by rw [hb0.cell (p := ⟨w.heap.size, 0, none⟩) hWs]; exact hc0
    have c2 := spec_l4Gaps G a cap w1 (hr.below hb1) hs
    have hS := Lib.hid hs
    clear hs hr c1 hc0 hb0
    go_wp2_with fail
    refine c2.mono ?_
    rintro e w2 ⟨v, rfl, ho, hb2⟩
    obtain ⟨a1, k1, rfl, -, -, hs1, -⟩ := SlV.of_owns ho
    clear c2 ho hs1
    go_wp2_with fail
    go_ret
    exact ⟨by rw [HR.out]; rfl, hb1.trans (hb2.mono hb1.size)⟩
end Go.Proofs.Ytdjjagpecbflnaa
