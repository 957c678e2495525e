/-
  CHAPTER 4 OF THE REFERENCE: SmallElements, IndexOfElement. (Own work.)
-/
import Derived.Test.YtdjjagpecbflnaaL14
namespace Go.Proofs.Ytdjjagpecbflnaa
open Go Go.RowKit

theorem smallL_yes {G : List Int} (h : isSgB G = true) : smallL G = (upB (sumB G) (condNat G)).map Int.ofNat := by unfold smallL; rw [if_pos h]
theorem smallL_no {G : List Int} (h : isSgB G = false) : smallL G = [] := by unfold smallL; rw [h]; rfl

set_option maxRecDepth 100000 in
set_option maxHeartbeats 800000 in
theorem spec_SmallElements (G : List Int) (a : Option Addr) (cap : Nat) (w : World) (hr : SlV w a (G.map (Value.int .i64))) (hb : G.length ≤ 1048576) :
    Calls Try.prog 21 #[.agg #[.slice a G.length cap]] w (SlPost (smallL G) w) := by
  obtain ⟨W, hW⟩ : ∃ W, W = w.alloc (.cells #[.slice a G.length cap] 26) := ⟨_, rfl⟩
  have hbW : Below w.heap.size w W := by rw [hW]; exact box_below _ _
  have hc0 : W.cell? ⟨w.heap.size, 0, none⟩ = some (.slice a G.length cap) := by rw [hW]; exact box_cell w _
  have hWs : w.heap.size < W.heap.size := by rw [hW]; simp
  have c1 := spec_IsSemigroup G a cap W (hr.below hbW) hb
  have HW := Lib.hid hW
  clear hW
  cases hs : isSgB G
  · have HR := Lib.hid (smallL_no hs)
    rw [hs] at c1
    clear hr hs
    go_enter Try.func21, Try.ntmps21
    go_wp2_with fail
    rw [← HW.out]
    refine c1.mono ?_
    rintro e w1 ⟨rfl, hb1⟩
    have hbz := hbW.trans (hb1.mono hbW.size)
    have hown0 : (w1.alloc (.cells #[] 3)).ownsRow w.heap.size 3 1 (.slice (some ⟨w1.heap.size, 0, none⟩) 0 0) 0 [] := World.ownsRow_lit w1 #[] 0 hbz.size (by simp) rfl
    go_wp2_with fail
    go_ret
    exact ⟨_, rfl, by rw [HR.out]; exact hown0, hbz.alloc hbz.size _⟩
  · rw [hs] at c1
    have HR := Lib.hid (smallL_yes hs)
    have HC := condN_yes hs
    have hcl := condNat_le G
    go_enter Try.func21, Try.ntmps21
    go_wp2_with fail
    rw [← HW.out]
    refine c1.mono ?_
    rintro e w1 ⟨rfl, hb1⟩
    have hbz := hbW.trans (hb1.mono hbW.size)
    have hk : w1.drew.cell? ⟨w.heap.size, 0, none⟩ = some (.slice a G.length cap) := by show w1.cell? _ = _; rw [hb1.cell (p := ⟨w.heap.size, 0, none⟩) hWs]; exact hc0
    have hbd : Below w.heap.size w w1.drew := hbz.drew
    have c2 := spec_ConductorOf G a cap w1.drew (hr.below hbd) hb
    rw [HC] at c2
    have c3 : ∀ w2, Below w1.drew.heap.size w1.drew w2 → Calls Try.prog 49 #[.agg #[.slice a G.length cap], .int .i64 (condNat G : Int)] w2 (SlPost ((upB (sumB G) (condNat G)).map Int.ofNat) w2) := fun w2 h2 => spec_l4Small G a cap w2 (hr.below (hbd.trans (h2.mono hbd.size))) hs (condNat G) (by omega)
    have hz1 := hb1.size
    clear hs hc0 c1 hb1 HC hr hb hcl
    generalize condNat G = C at *
    go_wp2_with fail
    refine wp_region_held_drew (S := fun w' => w'.cell? ⟨w.heap.size, 0, none⟩ = some (.slice a G.length cap)) (by kernel_rfl) hk (fun hHeld => ?_)
    refine held_take 0 _ _ rfl (by kernel_rfl) (by kernel_rfl) (by kernel_rfl) (fun _ _ _ h => h) (by rfl) hHeld (fun w hSw => by (try dsimp only at hSw); go_simp; try with_reducible rfl) ?_
    (try simp only [Act.put, List.setIfInBounds_toArray, List.set_cons_zero, List.set_cons_succ, List.getElem_toArray, List.getElem_cons_zero])
    refine held_take 1 _ _ rfl (by kernel_rfl) (by kernel_rfl) (by kernel_rfl) (fun _ _ _ h => h) (by rfl) hHeld (fun w hSw => by (try dsimp only at hSw); go_simp; try with_reducible rfl) ?_
    (try simp only [Act.put, List.setIfInBounds_toArray, List.set_cons_zero, List.set_cons_succ, List.getElem_toArray, List.getElem_cons_succ, List.getElem_cons_zero])
    refine wpAnyH_ready (rs := [2]) (by kernel_rfl) (by simp) ?_
    refine AllReadyH.cons rfl (fun K hK => ?_) AllReadyH.nil
    rw [if_pos (by rfl)]
    go_wp2_with (first | (go_at_call 29; (with_reducible refine c2.mono ?_); rintro e w2 ⟨rfl, hb2⟩; have hz2' : w1.heap.size ≤ w2.heap.size := hb2.size))
    refine hK.out _ _ ((hb2.cell (p := ⟨w.heap.size, 0, none⟩) (show w.heap.size < w1.heap.size by omega)).trans hHeld) (fun hHeld1 => ?_)
    clear hK K
    (try simp only [Act.put, List.setIfInBounds_toArray, List.set_cons_zero, List.set_cons_succ, List.getElem_toArray, List.getElem_cons_succ, List.getElem_cons_zero])
    refine wpAnyH_ready (rs := [3]) (by kernel_rfl) (by simp) ?_
    refine AllReadyH.cons rfl (fun K hK => ?_) AllReadyH.nil
    rw [if_pos (by rfl)]
    go_wp2_with (first | (go_at_call 49; (with_reducible refine (c3 w2 hb2).mono ?_); rintro e w3 ⟨v, rfl, ho, hb3⟩))
    refine hK.out _ _ ((hb3.cell (p := ⟨w.heap.size, 0, none⟩) (show w.heap.size < w2.heap.size by omega)).trans hHeld1) (fun hHeld2 => ?_)
    clear hK K
    (try simp only [Act.put, List.setIfInBounds_toArray, List.set_cons_zero, List.set_cons_succ, List.getElem_toArray, List.getElem_cons_succ, List.getElem_cons_zero])
    refine held_take 4 _ _ rfl (by kernel_rfl) (by kernel_rfl) (by kernel_rfl) (fun _ _ _ h => h) (by rfl) hHeld2 (fun w hSw => by (try dsimp only at hSw); go_simp; try with_reducible rfl) ?_
    (try simp only [Act.put, List.setIfInBounds_toArray, List.set_cons_zero, List.set_cons_succ, List.getElem_toArray, List.getElem_cons_succ, List.getElem_cons_zero])
    refine wpAnyH_done (by kernel_rfl) ?_ _
    go_wp2_with fail
    go_ret
    have hb2' := hbd.trans (hb2.mono hbd.size)
    exact ⟨_, rfl, by rw [HR.out]; exact owns_wider ho hb2'.size, hb2'.trans (hb3.mono hb2'.size)⟩


end Go.Proofs.Ytdjjagpecbflnaa
