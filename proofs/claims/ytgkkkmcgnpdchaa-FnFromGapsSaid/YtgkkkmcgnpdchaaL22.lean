/-
  CHAPTER 7 OF THE REFERENCE: CoordinatesOf, CoordinateClash. (Own work.)
-/
import Derived.Test.YtgkkkmcgnpdchaaSgK
import Derived.Test.YtgkkkmcgnpdchaaL19
namespace Go.Proofs.Ytgkkkmcgnpdchaa
open Go Go.RowKit

theorem coord_take {G : List Int} {m : Nat} (hm : multN G = (m : Int)) (hA : ApIn G m) {r : Nat} (h1 : 1 ≤ r) (hr : r < m) : (coordL G).take r = (coordL G).take (r - 1) ++ [((apOf (sumB G) m r / m : Nat) : Int)] := by
  obtain ⟨hlen, hat⟩ := coordL_at hm hA
  have e := hat r h1 hr
  obtain ⟨k, rfl⟩ : ∃ k, r = k + 1 := ⟨r - 1, by omega⟩
  unfold at7 at e
  rw [show k + 1 - 1 = k by omega, List.getD_eq_getElem?_getD, List.getElem?_eq_getElem (by omega), Option.getD_some] at e
  rw [show k + 1 - 1 = k by omega, List.take_add_one, List.getElem?_eq_getElem (by omega), e]
  rfl
set_option maxRecDepth 100000 in
set_option maxHeartbeats 3200000 in
theorem spec_CoordinatesOf (G : List Int) (a : Option Addr) (cap : Nat) (w : World) (hr : SlV w a (G.map (Value.int .i64))) (hb : G.length ≤ 1048576) :
    Calls Try.prog 20 #[.agg #[.slice a G.length cap]] w (SlPost (coordL G) w) := by
  obtain ⟨i0, hi, hz0, hz1, hz2⟩ := info_parts infoIntL
  obtain ⟨W, hW⟩ : ∃ W, W = w.alloc (.cells #[.slice a G.length cap] 26) := ⟨_, rfl⟩
  have hbW : Below w.heap.size w W := by rw [hW]; exact box_below _ _
  have hc0 : W.cell? ⟨w.heap.size, 0, none⟩ = some (.slice a G.length cap) := by rw [hW]; exact box_cell w _
  have hWs : w.heap.size < W.heap.size := by rw [hW]; simp
  have hWz : W.heap.size = w.heap.size + 1 := by rw [hW]; simp
  have HW := Lib.hid hW
  clear hW
  have hown0 : (W.alloc (.cells #[] 3)).ownsRow w.heap.size 3 1 (.slice (some ⟨W.heap.size, 0, none⟩) 0 0) 0 [] := World.ownsRow_lit W #[] 0 hbW.size (by simp) rfl
  rw [hWz] at hown0
  have hbel0 := hbW.alloc (o := .cells #[] 3) hbW.size
  have hcA : (W.alloc (.cells #[] 3)).cell? ⟨w.heap.size, 0, none⟩ = some (.slice a G.length cap) := (World.cell?_alloc_lt W _ ⟨w.heap.size, 0, none⟩ hWs).trans hc0
  have c1 := spec_MultiplicityOf G a cap (W.alloc (.cells #[] 3)) (hr.below hbel0) hb
  have hz : w.heap.size < (W.alloc (.cells #[] 3)).heap.size := by simp; omega
  go_enter Try.func20, Try.ntmps20
  cases hs : isSgB G
  · have HR := Lib.hid (coordL_no hs)
    have hm : multN G = 0 := by unfold multN; rw [hs]; rfl
    rw [hm] at c1
    clear hs hm hr
    go_wp2_with fail
    rw [← HW.out]
    refine c1.mono ?_
    rintro e w1 ⟨rfl, hb1⟩
    have hown1 := owns_below hown0 hb1
    have hbel1 := hbel0.trans (hb1.mono hbel0.size)
    clear c1 hc0 hcA hbW hb1
    go_wp2_with fail
    go_ret
    exact ⟨_, rfl, by rw [HR.out]; exact hown1, hbel1⟩
  · obtain ⟨m, hm, hA, -⟩ := mult_of hs
    rw [hm] at c1
    have hp := hA.pos
    have h60 := hA.le
    have HA := Lib.hid hA
    have HT : Hid (∀ r, 1 ≤ r → r < m → (coordL G).take r = (coordL G).take (r - 1) ++ [((apOf (sumB G) m r / m : Nat) : Int)]) := Lib.hid fun r h1 h2 => coord_take hm hA h1 h2
    have HLn := Lib.hid (coordL_at hm hA).1
    have HG : Hid (∀ r, r < m → (apL (sumB G) m)[r]? = some (apOf (sumB G) m r : Int) ∧ apOf (sumB G) m r < 260) := Lib.hid fun r h2 => ⟨by rw [List.getElem?_eq_getElem (by rw [apL_length]; exact h2), apL_get], by have := apOf_lt hA.far hp h2; omega⟩
    have hal := apL_length (sumB G) m
    have c2 := fun w (h : SlV w a (G.map (Value.int .i64))) => spec_l6Apery G m a cap w h HA.out
    have hm0 : ((m : Int) == 0) = false := by rw [beq_eq_false_iff_ne]; omega
    clear hs hA hm
    go_wp2_with fail
    rw [← HW.out]
    refine c1.mono ?_
    rintro e w1 ⟨rfl, hb1⟩
    have hown1 := owns_below hown0 hb1
    have hbel1 := hbel0.trans (hb1.mono hbel0.size)
    have hc1 : w1.cell? ⟨w.heap.size, 0, none⟩ = some (.slice a G.length cap) := (hb1.cell (p := ⟨w.heap.size, 0, none⟩) hz).trans hcA
    have hzA := Nat.lt_of_lt_of_le hz hb1.size
    clear c1 hc0 hcA hbW hb1 hown0 hbel0
    go_wp2_with fail
    refine (c2 _ (hr.below hbel1)).mono ?_
    rintro e w2 ⟨v2, rfl, ho2, hb2⟩
    obtain ⟨g, k2, rfl, rX⟩ := row_open ho2
    obtain ⟨g2, off2, rfl, hg2, hcl⟩ := rX.slv.open (by intro h; rw [List.map_eq_nil_iff] at h; rw [h] at hal; simp at hal; omega)
    have hge := (ho2.lt g2 rfl).1
    have hown2 := owns_below hown1 hb2
    have hbel2 := hbel1.trans (hb2.mono hbel1.size)
    have HC := Lib.hid hcl
    have hW1 := hb2.size
    have hq0 : w.heap.size + 1 < w1.heap.size := (owns_facts hown1).2.1
    clear c2 hr hc1 ho2 rX hcl hb2 hown1 hbel1
    go_wp2_with fail
    go_loopw [3, 6] (fun v i wr => ∃ (r q c : Nat) (M : List Int), 1 ≤ r ∧ r ≤ m ∧ i = .int .i64 (r : Int) ∧ M = (coordL G).take (r - 1) ∧ M.length ≤ r ∧ v = .slice (some ⟨q, 0, none⟩) M.length c ∧
        wr.ownsRow w.heap.size 3 1 (.slice (some ⟨q, 0, none⟩) M.length c) M.length (M.map (Value.int .i64)) ∧ q ≠ g2 ∧ g2 < wr.heap.size ∧ Hid (∀ j (u : Value), ((apL (sumB G) m).map (Value.int .i64))[j]? = some u → wr.cell? ⟨g2, off2 + j, none⟩ = some u) ∧ Below w.heap.size w wr) (fun _ i _ => m - (intOf i).toNat)
    case atStart => exact ⟨1, w.heap.size + 1, 0, [], Nat.le_refl _, hp, rfl, by simp, by simp, rfl, hown2, by omega, hg2, HC, hbel2⟩
    case round =>
      clear hown2 hbel2 HC hg2
      obtain ⟨r, q, c, M, hr1, hrm, rfl, hMe, hML, rfl, hown, hne, hgl, HC, hbel⟩ := hrel
      have HMe := Lib.hid hMe
      clear hMe
      by_cases hlt : r < m
      · have hlti : (r : Int) < (m : Int) := by omega
        obtain ⟨hx1, hx2⟩ := HG.out r hlt
        have HMS := Lib.hid (HT.out r hr1 hlt)
        rw [← HMe.out] at HMS
        have hcell : wr.cell? ⟨g2, off2 + r, none⟩ = some (.int .i64 (apOf (sumB G) m r : Int)) := HC.out r _ (by rw [List.getElem?_map, hx1]; rfl)
        have hr0 : (0 : Int) ≤ (r : Int) := by omega
        have hsz2 := hbel.size
        clear hx1
        have hdv : ((apOf (sumB G) m r : Nat) : Int) / (m : Int) = ((apOf (sumB G) m r / m : Nat) : Int) := (Int.natCast_ediv _ _).symm
        have hdb : apOf (sumB G) m r / m ≤ 260 := Nat.le_trans (Nat.div_le_self _ _) (by omega)
        generalize apOf (sumB G) m r = X at *
        generalize X / m = Y at *
        go_wp2_with (at_builtin; refine wpList_append_lies _ rfl _ _ 24 rfl w.heap.size 3 i0 (Value.int .i64 0) 1 8 Try.underlying24 hi hz0 hz1 hz2 rfl (by decide) (.slice (some ⟨q, 0, none⟩) M.length c) M.length (M.map (Value.int .i64)) rfl (hown.alloc _) ⟨wr.heap.size, 0, none⟩ 1 1 [.int .i64 (Y : Int)] rfl rfl (World.news_of_block (cs := #[.int .i64 (Y : Int)]) (t := 3) (fr := (0, 0)) (heap_alloc_new wr _)) (by simp [Value.oneCell']) (by omega) (by unfold maxLen; omega) (by omega) (by simp; omega) _ rfl ?_; intro q3 c3 w3 hown3 hgr3 hat3 hlt3)
        have hb3 := (hbel.alloc hsz2 _).grown hgr3 (by simp; omega) (fun j hj => by simp [Value.ownBlock] at hj; have := (owns_facts hown).1; omega)
        have hblk : w3.heap[g2]? = wr.heap[g2]? := (hgr3.block g2 (by simp; omega) (by simp [Value.ownBlock]; omega)).trans (Below.heap_alloc wr _ g2 hgl)
        have hgl3 : g2 < w3.heap.size := by have := hgr3.size; simp at this; omega
        have hq3 : q3 ≠ g2 := by
          rcases hat3 with h | h
          · simp [Value.ownBlock] at h; omega
          · simp at h; omega
        have HC3 := Lib.hid (show ∀ j (u : Value), ((apL (sumB G) m).map (Value.int .i64))[j]? = some u → w3.cell? ⟨g2, off2 + j, none⟩ = some u from fun j u hj => (World.cell?_of_block (a := ⟨g2, off2 + j, none⟩) hblk).trans (HC.out j u hj))
        have HO := Lib.hid hown3
        clear hown3 hown hgr3 hblk HC
        go_wp2_with fail
        go_roundw
        case rel => exact ⟨r + 1, q3, c3, M ++ [(Y : Int)], by omega, by omega, by go_num, by rw [show r + 1 - 1 = r by omega]; exact HMS.out.symm, by rw [List.length_append, List.length_singleton]; omega, by rw [List.length_append, List.length_singleton], by have := HO.out; simpa using this, hq3, hgl3, HC3, hb3⟩
        case measure => simp [intOf]; omega
      · obtain rfl : r = m := by omega
        have HE : Hid (coordL G = M) := Lib.hid (by rw [HMe.out, List.take_of_length_le (by rw [HLn.out]; exact Nat.le_refl _)])
        go_wp2_with fail
        go_ret
        exact ⟨_, rfl, by rw [HE.out]; exact hown, hbel⟩
end Go.Proofs.Ytgkkkmcgnpdchaa
