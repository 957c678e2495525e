/-
  CHAPTER 5 OF THE REFERENCE: SemigroupText, GapText. (Own work.)
-/
import Derived.Test.YtipfonpaaebjjaaGreatCh4L
import Derived.Test.YtipfonpaaebjjaaGreatSgT
namespace Go.Proofs.YtipfonpaaebjjaaGreat
open Go Go.RowKit

set_option maxRecDepth 100000 in
set_option maxHeartbeats 800000 in
theorem spec_SemigroupText (G : List Int) (a : Option Addr) (cap : Nat) (w : World) (hr : SlV w a (G.map (Value.int .i64))) (hb : G.length ≤ 1048576) :
    Calls Tryz.prog 110 #[.agg #[.slice a G.length cap]] w fun e w' => e = .returned (.string (semText G)) ∧ Below w.heap.size w w' := by
  obtain ⟨W, hW⟩ : ∃ W, W = w.alloc (.cells #[.slice a G.length cap] 26) := ⟨_, rfl⟩
  have hbW : Below w.heap.size w W := by rw [hW]; exact box_below _ _
  have hc0 : W.cell? ⟨w.heap.size, 0, none⟩ = some (.slice a G.length cap) := by rw [hW]; exact box_cell w _
  have hWs : w.heap.size < W.heap.size := by rw [hW]; simp
  have HW := Lib.hid hW
  clear hW
  have c1 := spec_IsSemigroup G a cap W (hr.below hbW) hb
  cases hs : isSgB G
  · have HR := Lib.hid (semText_no hs)
    rw [hs] at c1
    clear hr hs
    go_enter Tryz.func110, Tryz.ntmps110
    go_wp2_with fail
    rw [← HW.out]
    refine c1.mono ?_
    rintro e w1 ⟨rfl, hb0⟩
    have hb1 := hbW.trans (hb0.mono hbW.size)
    go_wp2_with fail
    go_ret
    exact ⟨by rw [HR.out]; rfl, hb1⟩
  · rw [hs] at c1
    have HR := Lib.hid (semText_yes hs)
    have hI := sg_in64' hs
    have hsz := semText_size G
    rw [semText_yes hs, ByteArray.size_append, ByteArray.size_append] at hsz
    go_enter Tryz.func110, Tryz.ntmps110
    go_wp2_with fail
    rw [← HW.out]
    refine c1.mono ?_
    rintro e w1 ⟨rfl, hb0⟩
    have hb1 := hbW.trans (hb0.mono hbW.size)
    have hk : w1.cell? ⟨w.heap.size, 0, none⟩ = some (.slice a G.length cap) := by rw [hb0.cell (p := ⟨w.heap.size, 0, none⟩) hWs]; exact hc0
    have c2 := spec_ListText G a cap w1 (hr.below hb1) hb hI (by have := sizes_numerals G hI; omega)
    clear hs hr c1 hc0 hb0 hI
    generalize listText G = T at *
    go_wp2_with fail
    refine c2.mono ?_
    rintro e w2 ⟨rfl, hb2⟩
    clear c2
    go_wp2_with fail
    go_ret
    exact ⟨by rw [HR.out]; rfl, hb1.trans (hb2.mono hb1.size)⟩


theorem semO_none {s : ByteArray} (h : readList (s.extract 1 (s.size - 1)) = none) : semO s = none := by
  unfold semO
  split
  · rw [h]
  · rfl
theorem semO_not {s : ByteArray} {L : List Int} (h : readList (s.extract 1 (s.size - 1)) = some L) (hn : semText L ≠ s) : semO s = none := by
  unfold semO
  split
  · rw [h]; simp only [if_neg hn]
  · rfl
theorem sem_none {s : ByteArray} (h : semO s = none) : semRead s = [] ∧ semOk s = false := by unfold semRead semOk; rw [h]; exact ⟨rfl, rfl⟩
theorem sem_some {s : ByteArray} {L : List Int} (h : semO s = some L) : semRead s = L ∧ semOk s = true := by unfold semRead semOk; rw [h]; exact ⟨rfl, rfl⟩
end Go.Proofs.YtipfonpaaebjjaaGreat
