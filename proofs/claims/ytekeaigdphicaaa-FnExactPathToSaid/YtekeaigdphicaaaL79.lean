/-
  CONTRACT of the reference's PathTo. (Own work.)
-/
import Derived.Test.YtekeaigdphicaaaSgPa
import Derived.Test.YtekeaigdphicaaaSgSs
import Derived.Test.YtekeaigdphicaaaLCp
import Derived.Test.YtekeaigdphicaaaL71
import Derived.Test.YtekeaigdphicaaaL24
import Derived.Deep.LoopGhost
import Derived.Deep.Cut
import Derived.Maps.AppendAt
namespace Go.Proofs.Ytekeaigdphicaaa
open Go Go.RowKit

theorem infoSg1 : (Try.prog.info? 42).map (fun i => (i.zero, i.size, i.bytes)) = some (some (.agg #[Value.slice none 0 0]), 1, 24) := by kernel_rfl
/-- None, in a block of its own. -/
theorem RowsG.zero {w : World} {lo : Nat} (hlo : lo ≤ w.heap.size) : RowsG (w.alloc (.cells #[] 42)) lo (w.alloc (.cells #[] 42)).heap.size (.slice (some ⟨w.heap.size, 0, none⟩) 0 0) [] [] :=
  ⟨World.ownsRow_lit w #[] 0 hlo (by simp) rfl, rfl, fun i h => absurd h (by simp), fun j hj => by cases hj; simp, Nat.le_refl _, fun i j h => absurd h (by simp), fun i h => absurd h (by simp)⟩
/-- The path as rows. -/
noncomputable def upV (G : List Int) (k : Nat) : List (List Value) := (upL G k).reverse.map fun L => L.map (Value.int .i64)
theorem upV_next (G : List Int) (k : Nat) : upV G (k + 1) = (parL (ancL G k)).map (Value.int .i64) :: upV G k := by unfold upV; rw [up_rev]; rfl
theorem upV_zero (G : List Int) : upV G 0 = [G.map (Value.int .i64)] := rfl
theorem upV_len (G : List Int) (k : Nat) : (upV G k).length = k + 1 := by unfold upV; rw [List.length_map, List.length_reverse, upL_len]
/-- The first header, read. -/
theorem RowsG.first {w : World} {lo hi n c : Nat} {a : Option Addr} {vs : List Value} {G : List Int} {k : Nat} (h : RowsG w lo hi (.slice a n c) vs (upV G k)) :
    ∃ g p q us, a = some ⟨g, 0, none⟩ ∧ g < w.heap.size ∧ lo ≤ g ∧ vs = .slice p (ancL G k).length q :: us ∧ w.cell? ⟨g, 0, none⟩ = some (.slice p (ancL G k).length q) ∧ SlV w p ((ancL G k).map (Value.int .i64)) ∧ n = k + 1 ∧ vs.length = k + 1 := by
  have hn := h.num
  subst hn
  have hl := h.len
  rw [upV_len] at hl
  obtain ⟨b, o, p, q, e, hb, hc, hs⟩ := (Sl2.at (show Sl2 w a (upL G k).reverse from h.sl2n) (k := 0) (by rw [List.length_reverse, upL_len]; omega))
  rw [up_head] at hc hs
  have ho := h.own
  subst e
  obtain ⟨hx, hv | ⟨g, cap, cur, hv, -⟩⟩ := h.own
  · cases hv.1
  · injection hv with hv hv2 hv3
    injection hv with hv
    injection hv with hv h4
    subst hv h4
    cases vs with
    | nil => simp at hl
    | cons u us =>
      have h2 := ho.lt b rfl
      have h3 : w.cell? ⟨b, 0, none⟩ = some u := by
        have := row_cells ho 0 u rfl
        simpa using this
      rw [Nat.zero_add] at hc
      rw [hc] at h3
      injection h3 with h3
      exact ⟨b, p, q, us, rfl, hb, h2.1, by rw [h3], hc, hs, hl, hl⟩

set_option maxRecDepth 100000 in
set_option maxHeartbeats 6400000 in
theorem spec_PathTo (G : List Int) (a : Option Addr) (cap : Nat) (w : World) (hr : SlW w a cap (G.map (Value.int .i64))) (hb : G.length ≤ 1048576) :
    Calls Try.prog 16 #[.agg #[.slice a G.length cap]] w (SsbPost (pathL G) (pathB G) w) := by
  obtain ⟨i0, hi, hz0, hz1, hz2⟩ := info_parts infoSg1
  obtain ⟨U, hU⟩ : ∃ U, U = w.alloc (.cells #[.slice a G.length cap] 42) := ⟨_, rfl⟩
  have hbU : Below w.heap.size w U := by rw [hU]; exact box_below _ _
  have hUs : U.heap.size = w.heap.size + 1 := by rw [hU]; simp
  have hcU : U.cell? ⟨w.heap.size, 0, none⟩ = some (.slice a G.length cap) := by rw [hU]; exact box_cell w _
  have HU := Lib.hid hU
  have HR := Lib.hid (fun w2 (h : Below w.heap.size w w2) => hr.below h)
  have c1 := spec_IsSemigroup G a cap U (HR.out U hbU).sl hb
  clear hU hr
  go_enter Try.func16, Try.ntmps16
  go_upto_region 1 with fail
  rw [← HU.out]
  cases hs : isSgB G
  · have HB : Hid (pathB G = false) := Lib.hid (by unfold pathB; rw [hs]; rfl)
    rw [hs] at c1
    clear hs
    go_wp2_with fail
    refine c1.mono ?_
    rintro e w1 ⟨rfl, hb1⟩
    have hbF := hbU.trans (hb1.mono hbU.size)
    have HF := Lib.hid (RowsG.zero (w := w1) (lo := w.heap.size) hbF.size)
    have hbG := hbF.alloc hbF.size (.cells #[] 42)
    clear c1 hcU hb1
    go_wp2_with fail
    go_ret2
    exact ⟨.slice (some ⟨w1.heap.size, 0, none⟩) 0 0, [], by rw [HB.out]; rfl, by rw [path_no HB.out]; exact HF.out, hbG⟩
  · rw [hs] at c1
    have HS := Lib.hid hs
    clear hs
    go_wp2_with fail
    refine c1.mono ?_
    rintro e w1 ⟨rfl, hb1⟩
    have hbF := hbU.trans (hb1.mono hbU.size)
    have hz1' := hbF.size
    have hc1 := (hb1.cell (p := ⟨w.heap.size, 0, none⟩) (show w.heap.size < U.heap.size by omega)).trans hcU
    have c2 := l3Copy_any G a cap w1 (HR.out w1 hbF) hb
    clear c1 hcU hb1
    go_wp2_with fail
    refine c2.mono ?_
    rintro e w2 ⟨v, rfl, ho, hb2⟩
    obtain ⟨a2, k2, rfl, -⟩ := row_open ho
    have hbF2 := hbF.trans (hb2.mono hz1')
    have HR1 : Hid (RowsG (w2.alloc (.cells #[.slice a2 G.length k2] 42)) w.heap.size (w2.alloc (.cells #[.slice a2 G.length k2] 42)).heap.size (.slice (some ⟨w2.heap.size, 0, none⟩) (0 + 1) 1) [.slice a2 G.length k2] (upV G 0)) := Lib.hid (by
      rw [upV_zero, show (w2.alloc (.cells #[.slice a2 G.length k2] 42)).heap.size = w2.heap.size + 1 by simp]
      exact RowsG.one (by rw [List.length_map]; exact ownsBase ho hz1') hbF2.size)
    have hbG := hbF2.alloc hbF2.size (.cells #[.slice a2 G.length k2] 42)
    clear c2 hc1 ho hb2 hbF
    go_wp2_with fail
    go_loopg [4] (topN G) (fun m v wr => ∃ (k g c : Nat) (vs : List Value), k ≤ topN G ∧ m = topN G - k ∧ v = .slice (some ⟨g, 0, none⟩) (k + 1) c ∧ Hid (RowsG wr w.heap.size wr.heap.size (.slice (some ⟨g, 0, none⟩) (k + 1) c) vs (upV G k)) ∧ Below w.heap.size w wr)
    case atStart => exact ⟨0, w2.heap.size, 1, _, Nat.zero_le _, rfl, rfl, HR1, hbG⟩
    case round =>
      clear HR1 hbG hbF2
      rename World => wr
      obtain ⟨k, g, c, vs, hk, rfl, rfl, HRW, hbel⟩ := hrel
      obtain ⟨g', p, q, us, e, hg1, hg2, hvs, hcell, hsl, -, hlen⟩ := HRW.out.first
      cases e
      have hsz := hbel.size
      have hA12 := anc_len HS.out k
      have hP12 := parL_len (ancL G k)
      have hk200 := path_part hk
      have c3 := spec_ParentOf (ancL G k) p q wr hsl (by omega)
      have c4 := fun w' (h : SlV w' p ((ancL G k).map (Value.int .i64))) => spec_FrobeniusOf (ancL G k) p q w' h (by omega)
      have HSL := Lib.hid hsl
      clear hsl
      cases hp : parB (ancL G k)
      · rw [hp] at c3
        obtain rfl := top_eq hk hp
        have HPB : Hid (pathB G = decide (frobN (ancL G (topN G)) < 0)) := Lib.hid (by unfold pathB; rw [HS.out]; rfl)
        generalize frobN (ancL G (topN G)) = f at *
        clear hp
        go_wp2_with fail
        refine c3.mono ?_
        rintro e w3 ⟨v, rfl, ho, hb3⟩
        obtain ⟨a3, k3, rfl, -⟩ := row_open ho
        have hcell3 := (hb3.cell (p := ⟨g, 0, none⟩) hg1).trans hcell
        have hg3 : g < w3.heap.size := Nat.lt_of_lt_of_le hg1 hb3.size
        have hbel3 := hbel.trans (hb3.mono hsz)
        clear c3 hcell ho
        by_cases hf : 0 ≤ f
        · have hfd := decide_eq_true hf
          have HB : Hid (pathB G = false) := Lib.hid (by rw [HPB.out]; exact decide_eq_false (by omega))
          go_wp2_with (first | (refine wpList_alloc_arr 42 [Value.slice none 0 0] zeroSg rfl rfl ?_) | (refine wpList_store_arr 42 (.tmp 5) (.tmp 19) w3.heap.size [Value.slice none 0 0] [Value.slice a3 (parL (ancL G (topN G))).length k3] rfl rfl rfl rfl (Arr.new w3 42 [Value.slice none 0 0]) rfl sizeSg (by simp [Value.oneCell']) ?_; intro w4 hN4 hg4 hz4; clear hz4; have hb4 := (box_below w3 (.cells [Value.slice none 0 0].toArray 42)).grown hg4 (by simp) (fun k hk => by cases hk; exact Nat.le_refl _); have hcell4 := (hb4.cell (p := ⟨g, 0, none⟩) hg3).trans hcell3; have hN4c := hN4.cell 0; have hbel4 := hbel3.trans (hb4.mono hbel3.size); clear hcell3 hg4))
          refine (c4 w4 ((HSL.out.below hb3).below hb4)).mono ?_
          rintro e w5 ⟨rfl, hb5⟩
          have hbF := hbel4.trans (hb5.mono hbel4.size)
          have HF := Lib.hid (RowsG.zero (w := w5) (lo := w.heap.size) hbF.size)
          have hbG := hbF.alloc hbF.size (.cells #[] 42)
          clear c4 hcell4 hN4 hN4c hb5
          go_wp2_with fail
          go_ret2
          exact ⟨.slice (some ⟨w5.heap.size, 0, none⟩) 0 0, [], by rw [HB.out]; rfl, by rw [path_no HB.out]; exact HF.out, hbG⟩
        · have hfd := decide_eq_false hf
          have HB : Hid (pathB G = true) := Lib.hid (by rw [HPB.out]; exact decide_eq_true (by omega))
          go_wp2_with (first | (refine wpList_alloc_arr 42 [Value.slice none 0 0] zeroSg rfl rfl ?_) | (refine wpList_store_arr 42 (.tmp 5) (.tmp 19) w3.heap.size [Value.slice none 0 0] [Value.slice a3 (parL (ancL G (topN G))).length k3] rfl rfl rfl rfl (Arr.new w3 42 [Value.slice none 0 0]) rfl sizeSg (by simp [Value.oneCell']) ?_; intro w4 hN4 hg4 hz4; clear hz4; have hb4 := (box_below w3 (.cells [Value.slice none 0 0].toArray 42)).grown hg4 (by simp) (fun k hk => by cases hk; exact Nat.le_refl _); have hcell4 := (hb4.cell (p := ⟨g, 0, none⟩) hg3).trans hcell3; have hN4c := hN4.cell 0; have hbel4 := hbel3.trans (hb4.mono hbel3.size); clear hcell3 hg4))
          refine (c4 w4 ((HSL.out.below hb3).below hb4)).mono ?_
          rintro e w5 ⟨rfl, hb5⟩
          have hbF := hbel4.trans (hb5.mono hbel4.size)
          have HF : Hid (RowsG w5 w.heap.size w5.heap.size (.slice (some ⟨g, 0, none⟩) (topN G + 1) c) vs (upV G (topN G))) := Lib.hid ((((HRW.out.below hb3).below hb4).below hb5).wider (Nat.le_refl _) (by have := hb3.size; have := hb4.size; have := hb5.size; omega) (Nat.le_refl _))
          clear c4 hcell4 hN4 hN4c hb5
          go_wp2_with fail
          go_ret2
          exact ⟨.slice (some ⟨g, 0, none⟩) (topN G + 1) c, vs, by rw [HB.out]; rfl, by rw [path_yes HB.out]; exact HF.out, hbF⟩
      · rw [hp] at c3
        have hkt := top_lt hk hp
        clear hp c4
        go_wp2_with fail
        refine c3.mono ?_
        rintro e w3 ⟨v, rfl, ho, hb3⟩
        obtain ⟨a3, k3, rfl, -⟩ := row_open ho
        have hcell3 := (hb3.cell (p := ⟨g, 0, none⟩) hg1).trans hcell
        have hg3 : g < w3.heap.size := Nat.lt_of_lt_of_le hg1 hb3.size
        have hbel3 := hbel.trans (hb3.mono hsz)
        have HO := Lib.hid ho
        clear c3 hcell ho HSL
        go_wp2_with (first | (refine wpList_alloc_arr 42 [Value.slice none 0 0] zeroSg rfl rfl ?_) | (refine wpList_store_arr 42 (.tmp 5) (.tmp 19) w3.heap.size [Value.slice none 0 0] [Value.slice a3 (parL (ancL G k)).length k3] rfl rfl rfl rfl (Arr.new w3 42 [Value.slice none 0 0]) rfl sizeSg (by simp [Value.oneCell']) ?_; intro w4 hN4 hg4 hz4; clear hz4; have hb4 := (box_below w3 (.cells [Value.slice none 0 0].toArray 42)).grown hg4 (by simp) (fun k hk => by cases hk; exact Nat.le_refl _); have hcell4 := (hb4.cell (p := ⟨g, 0, none⟩) hg3).trans hcell3; have hN4c := hN4.cell 0; have hbel4 := hbel3.trans (hb4.mono hbel3.size); clear hcell3 hg4) | (at_builtin; refine wpList_append_own_at _ rfl (.tmp 35) (.tmp 36) 39 rfl w.heap.size 42 i0 (.agg [Value.slice none 0 0].toArray) 1 24 Try.underlying39 hi hz0 hz1 hz2 rfl (by decide) (.slice (some ⟨w4.heap.size, 0, none⟩) 1 1) 1 [.slice a3 (parL (ancL G k)).length k3] rfl (World.ownsRow_lit (e := 42) (size := 1) w4 #[.slice a3 (parL (ancL G k)).length k3] 1 hbel4.size (by unfold maxLen; omega) rfl) ⟨g, 0, none⟩ (k + 1) c vs rfl (by omega) (rowG_cells (((HRW.out.below hb3).below hb4).below (box_below w4 (.cells #[.slice a3 (parL (ancL G k)).length k3] 42)))) (rowG_one HRW.out) (by unfold maxLen; omega) (by omega) (Nat.le_trans hbel4.size (by simp)) ?_; intro v5 w5 hO5 hg5 hv5 hv6; clear hv5))
        have HA : RowsG w5 w.heap.size w5.heap.size v5 (.slice a3 (parL (ancL G k)).length k3 :: vs) (upV G (k + 1)) := by
          rw [upV_next]
          have hbA := hb4.trans ((box_below w4 (.cells #[.slice a3 (parL (ancL G k)).length k3] 42)).mono hb4.size)
          refine RowsG.ahead (w := w3) (w1 := w4.alloc (.cells #[.slice a3 (parL (ancL G k)).length k3] 42)) (v1 := .slice (some ⟨w4.heap.size, 0, none⟩) 1 1) (HRW.out.below hb3) (by rw [List.length_map]; exact HO.out) hsz hbA.block hbA.size (by rw [hlen]; exact hO5) hg5 (fun b hb => by cases hb; exact hb4.size) (fun b hb => ?_)
          rcases hv6 with h | h
          · rw [h] at hb; cases hb; exact hb4.size
          · rw [h] at hb; cases hb; exact hbA.size
        have hb5 := (hbel4.alloc hbel4.size (.cells #[.slice a3 (parL (ancL G k)).length k3] 42)).grown hg5 (Nat.le_trans hbel4.size (by simp)) (fun b hb => by cases hb; exact hbel4.size)
        obtain ⟨a5, c5, rfl⟩ := rowsG_open HA
        obtain ⟨g5, p5, q5, us5, e5, -, -, -, -, -, hn5, -⟩ := HA.first
        subst e5
        have HA5 := Lib.hid HA
        rw [hn5] at HA5 ⊢
        go_roundg (topN G - (k + 1))
        case measure => omega
        case rel => exact ⟨k + 1, g5, c5, _, hkt, rfl, rfl, HA5, hb5⟩
end Go.Proofs.Ytekeaigdphicaaa
