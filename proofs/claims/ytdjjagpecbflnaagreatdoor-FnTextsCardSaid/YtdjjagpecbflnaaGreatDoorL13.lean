/-
  CHAPTER 4 OF THE REFERENCE: l4Gaps. (Own work.)
-/
import Derived.Test.YtdjjagpecbflnaaGreatDoorL12
import Derived.Test.YtdjjagpecbflnaaGreatDoorSgG
namespace Go.Proofs.YtdjjagpecbflnaaGreatDoor
open Go Go.RowKit

theorem owns_wider {w : World} {base base' : Nat} {e : TypeId} {v : Value} {n : Nat} {xs : List Value} (h : w.ownsRow base e 1 v n xs) (hb : base' ≤ base) : w.ownsRow base' e 1 v n xs := by
  obtain ⟨hx, ⟨rfl, h0⟩ | ⟨g, cap, cur, rfl, h1, h2⟩⟩ := h
  · exact ⟨hx, .inl ⟨rfl, h0⟩⟩
  · exact ⟨hx, .inr ⟨g, cap, cur, rfl, Nat.le_trans hb h1, h2⟩⟩

set_option maxRecDepth 100000 in
set_option maxHeartbeats 3200000 in
theorem spec_l4Gaps (G : List Int) (a : Option Addr) (cap : Nat) (w : World) (hr : SlV w a (G.map (Value.int .i64))) (hs : isSgB G = true) :
    Calls Tryz.prog 65 #[.agg #[.slice a G.length cap]] w (SlPost (gapsL G) w) := by
  obtain ⟨i0, hi, hz0, hz1, hz2⟩ := info_parts infoIntL
  have hS := isSgB_iff.1 hs
  have hl := hS.len
  have HG := Lib.hid (show gapsL G = (upB (fun n => !sumB G n) 200).map Int.ofNat by unfold gapsL; rw [if_pos hs])
  obtain ⟨W, hW⟩ : ∃ W, W = w.alloc (.cells #[.slice a G.length cap] 26) := ⟨_, rfl⟩
  have hbW : Below w.heap.size w W := by rw [hW]; exact box_below _ _
  have hc0 : W.cell? ⟨w.heap.size, 0, none⟩ = some (.slice a G.length cap) := by rw [hW]; exact box_cell w _
  have hWs : w.heap.size < W.heap.size := by rw [hW]; simp
  have HWE : Hid (W.heap.size = w.heap.size + 1) := Lib.hid (by rw [hW]; simp)
  have HW := Lib.hid hW
  clear hW
  have hown0 : (W.alloc (.cells #[] 3)).ownsRow w.heap.size 3 1 (.slice (some ⟨W.heap.size, 0, none⟩) 0 0) 0 [] := World.ownsRow_lit W #[] 0 (Nat.le_of_lt hWs) (by simp) rfl
  have hb0 := hbW.alloc (o := .cells #[] 3) hbW.size
  have ct := spec_l3Table G a cap 200 (W.alloc (.cells #[] 3)) (hr.below hb0) (by omega) (okG_pos hS.ok) (by omega)
  have hc1 : (W.alloc (.cells #[] 3)).cell? ⟨w.heap.size, 0, none⟩ = some (.slice a G.length cap) := by rw [World.cell?_alloc_lt _ _ _ (show w.heap.size < W.heap.size from hWs)]; exact hc0
  have hz : W.heap.size < (W.alloc (.cells #[] 3)).heap.size := by simp
  clear hr hs hS hc0
  go_enter Tryz.func65, Tryz.ntmps65
  go_wp2_with fail
  rw [← HW.out]
  refine ct.mono ?_
  rintro e w1 ⟨v, rfl, ho, hb1⟩
  obtain ⟨g, c, rfl, ht⟩ := tab_last ho
  have hg1 := (owns_facts ho).1
  have hg2 := (owns_facts ho).2.1
  have hown1 := owns_below hown0 hb1
  have hbel1 := hb0.trans (hb1.mono hb0.size)
  have HT := Lib.hid ht
  have hz3 := hb1.size
  clear ct ho hb1 hown0 hb0 ht hc1
  go_wp2_with fail
  go_loopw [3, 5] (fun v i wr => ∃ (k q c : Nat) (M : List Int), 1 ≤ k ∧ k ≤ 200 ∧ i = .int .i64 (k : Int) ∧ M = (upB (fun n => !sumB G n) k).map Int.ofNat ∧ v = .slice (some ⟨q, 0, none⟩) M.length c ∧
      wr.ownsRow w.heap.size 3 1 (.slice (some ⟨q, 0, none⟩) M.length c) M.length (M.map (Value.int .i64)) ∧ q ≠ g ∧ g < wr.heap.size ∧ Hid (∀ j, j ≤ 200 → wr.cell? ⟨g, j, none⟩ = some (.bool (sumB G j))) ∧ Below w.heap.size w wr) (fun _ i _ => 200 - (intOf i).toNat)
  case atStart =>
    have e1 : (upB (fun n => !sumB G n) 1).map Int.ofNat = [] := by rw [upB_succ, upB_zero, if_neg (by simp [sumB_iff.2 (IsSum.zero (G := G))])]; rfl
    exact ⟨1, w.heap.size + 1, 0, [], Nat.le_refl _, by omega, rfl, e1.symm, rfl, by have h := hown1; rw [HWE.out] at h; exact h, by have h := HWE.out; omega, hg2, HT, hbel1⟩
  case round =>
    clear hown1 hbel1 HT
    obtain ⟨k, q, c, M, hk1, hk, rfl, hMe, rfl, hown, hne, hgl, HT, hbel⟩ := hrel
    by_cases hlt : k < 200
    · have hcell := HT.out k (by omega)
      have hx0 : (0 : Int) ≤ (k : Int) := by omega
      have hx1 : (k : Int) < 201 := by omega
      have hx2 : (k : Int) < 200 := by omega
      cases hp : sumB G k
      · rw [hp] at hcell
        have hML : M.length ≤ k := by rw [hMe, List.length_map]; exact upB_len_le _ _
        have HMe := Lib.hid (show M ++ [(k : Int)] = (upB (fun n => !sumB G n) (k + 1)).map Int.ofNat by rw [upB_succ, if_pos (by simp [hp]), List.map_append, ← hMe]; rfl)
        have hsz2 := hbel.size
        clear hMe hp
        go_wp2_with (at_builtin; refine wpList_append_lies _ rfl _ _ 24 rfl w.heap.size 3 i0 (Value.int .i64 0) 1 8 Tryz.underlying24 hi hz0 hz1 hz2 rfl (by decide) (.slice (some ⟨q, 0, none⟩) M.length c) M.length (M.map (Value.int .i64)) rfl (hown.alloc _) ⟨wr.heap.size, 0, none⟩ 1 1 [.int .i64 (k : Int)] rfl rfl (World.news_of_block (cs := #[.int .i64 (k : Int)]) (t := 3) (fr := (0, 0)) (heap_alloc_new wr _)) (by simp [Value.oneCell']) (by omega) (by unfold maxLen; omega) (by omega) (by simp; omega) _ rfl ?_; intro q3 c3 w3 hown3 hgr3 hat3 hlt3)
        have hb3 := (hbel.alloc hsz2 _).grown hgr3 (by simp; omega) (fun j hj => by simp [Value.ownBlock] at hj; have := (owns_facts hown).1; omega)
        have hblk : w3.heap[g]? = wr.heap[g]? := (hgr3.block g (by simp; omega) (by simp [Value.ownBlock]; omega)).trans (Below.heap_alloc wr _ g hgl)
        have hgl3 : g < w3.heap.size := by have := hgr3.size; simp at this; omega
        have hq3 : q3 ≠ g := by
          rcases hat3 with h | h
          · simp [Value.ownBlock] at h; omega
          · simp at h; omega
        have HT3 := Lib.hid (show ∀ j, j ≤ 200 → w3.cell? ⟨g, j, none⟩ = some (.bool (sumB G j)) from fun j hj => (World.cell?_of_block (a := ⟨g, j, none⟩) hblk).trans (HT.out j hj))
        have HO := Lib.hid hown3
        clear hown3 hown hgr3 hblk HT
        go_wp2_with fail
        go_roundw
        case rel => exact ⟨k + 1, q3, c3, M ++ [(k : Int)], by omega, by omega, by go_num, HMe.out, by rw [List.length_append, List.length_singleton], by have := HO.out; simpa using this, hq3, hgl3, HT3, hb3⟩
        case measure => simp [intOf]; omega
      · rw [hp] at hcell
        have HMe := Lib.hid (show M = (upB (fun n => !sumB G n) (k + 1)).map Int.ofNat by rw [upB_succ, if_neg (by simp [hp])]; exact hMe)
        clear hMe hp
        go_wp2_with fail
        go_roundw
        case rel => exact ⟨k + 1, q, c, M, by omega, by omega, by go_num, HMe.out, rfl, hown, hne, hgl, HT, hbel⟩
        case measure => simp [intOf]; omega
    · obtain rfl : k = 200 := by omega
      have HMe := Lib.hid hMe
      clear hMe
      go_wp2_with fail
      go_ret
      exact ⟨_, rfl, by rw [HG.out, ← HMe.out]; exact hown, hbel⟩
set_option maxRecDepth 100000 in
set_option maxHeartbeats 800000 in
theorem spec_Gaps (G : List Int) (a : Option Addr) (cap : Nat) (w : World) (hr : SlV w a (G.map (Value.int .i64))) (hb : G.length ≤ 1048576) :
    Calls Tryz.prog 36 #[.agg #[.slice a G.length cap]] w (SlPost (gapsL G) w) := by
  obtain ⟨W, hW⟩ : ∃ W, W = w.alloc (.cells #[.slice a G.length cap] 26) := ⟨_, rfl⟩
  have hbW : Below w.heap.size w W := by rw [hW]; exact box_below _ _
  have hc0 : W.cell? ⟨w.heap.size, 0, none⟩ = some (.slice a G.length cap) := by rw [hW]; exact box_cell w _
  have hWs : w.heap.size < W.heap.size := by rw [hW]; simp
  have c1 := spec_IsSemigroup G a cap W (hr.below hbW) hb
  have HW := Lib.hid hW
  clear hW
  cases hs : isSgB G
  · have HR := Lib.hid (show gapsL G = [] by unfold gapsL; rw [hs]; rfl)
    rw [hs] at c1
    clear hr hs
    go_enter Tryz.func36, Tryz.ntmps36
    go_wp2_with fail
    rw [← HW.out]
    refine c1.mono ?_
    rintro e w1 ⟨rfl, hb1⟩
    have hbz := hbW.trans (hb1.mono hbW.size)
    have hown0 : (w1.alloc (.cells #[] 3)).ownsRow w.heap.size 3 1 (.slice (some ⟨w1.heap.size, 0, none⟩) 0 0) 0 [] := World.ownsRow_lit w1 #[] 0 hbz.size (by simp) rfl
    go_wp2_with fail
    go_ret
    exact ⟨_, rfl, by rw [HR.out]; exact hown0, hbz.alloc hbz.size _⟩
  · rw [hs] at c1
    go_enter Tryz.func36, Tryz.ntmps36
    go_wp2_with fail
    rw [← HW.out]
    refine c1.mono ?_
    rintro e w1 ⟨rfl, hb1⟩
    have hbz := hbW.trans (hb1.mono hbW.size)
    have hk : w1.cell? ⟨w.heap.size, 0, none⟩ = some (.slice a G.length cap) := by rw [hb1.cell (p := ⟨w.heap.size, 0, none⟩) hWs]; exact hc0
    have c2 := spec_l4Gaps G a cap w1 (hr.below hbz) hs
    have hS := Lib.hid hs
    clear hs hr hc0 c1
    go_wp2_with fail
    refine c2.mono ?_
    rintro e w2 ⟨v, rfl, ho, hb2⟩
    clear c2
    go_wp2_with fail
    go_ret
    exact ⟨_, rfl, owns_wider ho hbz.size, hbz.trans (hb2.mono hbz.size)⟩

end Go.Proofs.YtdjjagpecbflnaaGreatDoor
