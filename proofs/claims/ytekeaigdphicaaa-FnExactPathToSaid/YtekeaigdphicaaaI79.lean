/-
  CONTRACT of the program's PathTo. (Own work.)
-/
import Derived.Test.YtekeaigdphicaaaSgPa
import Derived.Test.YtekeaigdphicaaaSgSs
import Derived.Test.YtekeaigdphicaaaICp
import Derived.Test.YtekeaigdphicaaaIRv
import Derived.Test.YtekeaigdphicaaaI71
import Derived.Test.YtekeaigdphicaaaL24
import Derived.Deep.LoopGhost
import Derived.Deep.Cut
import Derived.Maps.AppendAt
namespace Go.Proofs.Ytekeaigdphicaaa
open Go Go.RowKit

theorem infoSg2 : (Try.prog.info? 42).map (fun i => (i.zero, i.size, i.bytes)) = some (some (.agg #[Value.slice none 0 0]), 1, 24) := by kernel_rfl
noncomputable def upI (G : List Int) (k : Nat) : List (List Value) := (upL G k).map fun L => L.map (Value.int .i64)
theorem upI_next (G : List Int) (k : Nat) : upI G (k + 1) = upI G k ++ [(parL (ancL G k)).map (Value.int .i64)] := by unfold upI; rw [upL_next, List.map_append]; rfl
theorem upI_zero (G : List Int) : upI G 0 = [G.map (Value.int .i64)] := rfl
theorem upI_len (G : List Int) (k : Nat) : (upI G k).length = k + 1 := by unfold upI; rw [List.length_map, upL_len]
theorem upI_at (G : List Int) (k : Nat) (h : k < (upI G k).length) : (upI G k)[k] = (ancL G k).map (Value.int .i64) := by unfold upI upL; simp
theorem upI_rev (G : List Int) (k : Nat) : (upI G k).reverse = (upL G k).reverse.map fun L => L.map (Value.int .i64) := by unfold upI; rw [List.map_reverse]
/-- The last header, read. -/
theorem RowsG.last {w : World} {lo hi k : Nat} {v : Value} {vs : List Value} {G : List Int} {p : Option Addr} {n q : Nat} (h : RowsG w lo hi v vs (upI G k)) (hv : vs[k]? = some (.slice p n q)) : n = (ancL G k).length ∧ SlV w p ((ancL G k).map (Value.int .i64)) ∧ vs.length = k + 1 := by
  have hl := h.len
  rw [upI_len] at hl
  have r := h.inn k (by omega) (by rw [upI_len]; omega)
  rw [upI_at] at r
  obtain ⟨p', q', e, -, -, hs, -⟩ := SlV.of_owns r.own
  rw [List.getElem?_eq_getElem (by omega), e] at hv
  injection hv with hv
  injection hv with h1 h2 h3
  subst h1
  rw [List.length_map] at h2
  exact ⟨h2.symm, hs, hl⟩

/-- Where there is one, the headers lie in a block. -/
theorem RowsG.addr {w : World} {lo hi n c : Nat} {a : Option Addr} {vs : List Value} {xss : List (List Value)} (h : RowsG w lo hi (.slice a n c) vs xss) (hn : 0 < vs.length) : ∃ g, a = some ⟨g, 0, none⟩ := by
  obtain ⟨hx, ⟨e, h0⟩ | ⟨g, cap, cur, e, -⟩⟩ := h.own
  · omega
  · cases e; exact ⟨g, rfl⟩

set_option maxRecDepth 100000 in
set_option maxHeartbeats 6400000 in
theorem impl_PathTo (G : List Int) (a : Option Addr) (cap : Nat) (w : World) (hr : SlW w a cap (G.map (Value.int .i64))) (hb : G.length ≤ 1048576) :
    Calls Try.prog 18 #[.agg #[.slice a G.length cap]] w (SsbPost (pathL G) (pathB G) w) := by
  obtain ⟨i0, hi, hz0, hz1, hz2⟩ := info_parts infoSg2
  obtain ⟨U, hU⟩ : ∃ U, U = w.alloc (.cells #[.slice a G.length cap] 42) := ⟨_, rfl⟩
  have hbU : Below w.heap.size w U := by rw [hU]; exact box_below _ _
  have hUs : U.heap.size = w.heap.size + 1 := by rw [hU]; simp
  have hcU : U.cell? ⟨w.heap.size, 0, none⟩ = some (.slice a G.length cap) := by rw [hU]; exact box_cell w _
  have HU := Lib.hid hU
  have HR := Lib.hid (fun w2 (h : Below w.heap.size w w2) => hr.below h)
  have c1 := impl_IsSemigroup G a cap U (HR.out U hbU).sl hb
  clear hU hr
  go_enter Try.func18, Try.ntmps18
  go_upto_region 1 with fail
  rw [← HU.out]
  cases hs : isSgB G
  · have HB : Hid (pathB G = false) := Lib.hid (by unfold pathB; rw [hs]; rfl)
    rw [hs] at c1
    clear hs
    go_wp2_with fail
    refine c1.mono ?_
    rintro e w1 ⟨rfl, hb1⟩
    have hbF := hbU.trans (hb1.mono hbU.size)
    clear c1 hcU hb1
    go_wp2_with fail
    go_ret2
    exact ⟨.slice none 0 0, [], by rw [HB.out]; rfl, by rw [path_no HB.out]; exact RowsG.nil _ _ _ (Nat.le_refl _), hbF⟩
  · rw [hs] at c1
    have HS := Lib.hid hs
    clear hs
    go_wp2_with fail
    refine c1.mono ?_
    rintro e w1 ⟨rfl, hb1⟩
    have hbF := hbU.trans (hb1.mono hbU.size)
    have hz1' := hbF.size
    have hc1 := (hb1.cell (p := ⟨w.heap.size, 0, none⟩) (show w.heap.size < U.heap.size by omega)).trans hcU
    have c2 := impl_copyOf G a cap w1 (HR.out w1 hbF).sl hb
    clear c1 hcU hb1
    go_wp2_with fail
    refine c2.mono ?_
    rintro e w2 ⟨a2, k2, rfl, ho, hb2⟩
    have hbF2 := hbF.trans (hb2.mono hz1')
    obtain ⟨X, hX⟩ : ∃ X, X = w2.alloc (.cells #[.slice a2 G.length k2] 42) := ⟨_, rfl⟩
    have hXs : X.heap.size = w2.heap.size + 1 := by rw [hX]; simp
    have hbX : Below w.heap.size w X := by rw [hX]; exact hbF2.alloc hbF2.size _
    have hNX : Arr X w2.heap.size 42 [.slice a2 G.length k2] := by rw [hX]; exact Arr.new _ _ _
    have hoX : X.ownsRow w1.heap.size 3 1 (.slice a2 G.length k2) G.length (G.map (Value.int .i64)) := by rw [hX]; exact ho.alloc _
    have HR1 : Hid (RowsG (X.alloc (.cells #[.slice a2 G.length k2] 42)) w.heap.size (X.alloc (.cells #[.slice a2 G.length k2] 42)).heap.size (.slice (some ⟨X.heap.size, 0, none⟩) (0 + 1) 1) [.slice a2 G.length k2] (upI G 0)) := Lib.hid (by
      rw [upI_zero, show (X.alloc (.cells #[.slice a2 G.length k2] 42)).heap.size = X.heap.size + 1 by simp]
      exact RowsG.one (by rw [List.length_map]; exact ownsBase hoX hz1') hbX.size)
    have hNY := hNX.alloc (.cells #[.slice a2 G.length k2] 42)
    have HNE : Hid ((Value.slice (some ⟨X.heap.size, 0, none⟩) (0 + 1) 1).ownBlock ≠ some w2.heap.size ∧ ∀ u ∈ [Value.slice a2 G.length k2], u.ownBlock ≠ some w2.heap.size) := Lib.hid ⟨fun e => by simp [Value.ownBlock] at e; omega, fun u hu e => by rw [List.mem_singleton] at hu; subst hu; have := (ho.lt _ e).2; omega⟩
    have hbG := hbX.alloc hbX.size (.cells #[.slice a2 G.length k2] 42)
    have HX := Lib.hid hX
    have hN2 : w.heap.size ≤ w2.heap.size := hbF2.size
    rw [hXs] at HR1 HNE
    have hcX := hNX.cell 0
    clear c2 hc1 ho hb2 hbF hX hoX
    go_upto_region 4 with fail
    rw [← HX.out]
    go_wp2_with fail
    clear hcX
    go_loopg [5] (topN G) (fun m v wr => ∃ (k g c q : Nat) (p : Option Addr) (vs : List Value), k ≤ topN G ∧ m = topN G - k ∧ v = .slice (some ⟨g, 0, none⟩) (k + 1) c ∧ Hid (RowsG wr w.heap.size wr.heap.size (.slice (some ⟨g, 0, none⟩) (k + 1) c) vs (upI G k)) ∧ Hid (Arr wr w2.heap.size 42 [.slice p (ancL G k).length q]) ∧ Hid (vs[k]? = some (.slice p (ancL G k).length q)) ∧ Hid ((Value.slice (some ⟨g, 0, none⟩) (k + 1) c).ownBlock ≠ some w2.heap.size ∧ ∀ u ∈ vs, u.ownBlock ≠ some w2.heap.size) ∧ Below w.heap.size w wr)
    case atStart => exact ⟨0, w2.heap.size + 1, 1, k2, a2, _, Nat.zero_le _, rfl, rfl, HR1, Lib.hid hNY, Lib.hid rfl, HNE, hbG⟩
    case round =>
      clear HR1 hbG hNY HNE hNX
      rename World => wr
      obtain ⟨k, g, c, q, p, vs, hk, rfl, rfl, HRW, HNW, HVK, HNE, hbel⟩ := hrel
      obtain ⟨-, hsl, hlen⟩ := HRW.out.last HVK.out
      have HSL := Lib.hid hsl
      have hsz := hbel.size
      have hNl := HNW.out.lt
      have hA12 := anc_len HS.out k
      have hP12 := parL_len (ancL G k)
      have hk200 := path_part hk
      have hcN := HNW.out.cell 0
      have c1 := impl_GenusOf (ancL G k) p q wr hsl (by omega)
      have c2 := fun w' (h : SlV w' p ((ancL G k).map (Value.int .i64))) => impl_ParentOf (ancL G k) p q w' h (by omega)
      have hgp := genus_pos (anc_sg HS.out hk)
      clear hsl
      by_cases hg0 : 0 < genusN (ancL G k)
      · have hfr := hgp.1 hg0
        have hgd := decide_eq_true hg0
        generalize genusN (ancL G k) = gn at *
        clear hgp
        cases hp : parB (ancL G k)
        · rw [hp] at c2
          obtain rfl := top_eq hk hp
          have HB : Hid (pathB G = false) := Lib.hid (by unfold pathB; rw [HS.out, decide_eq_false (by omega)]; rfl)
          clear hp hfr
          go_wp2_with fail
          refine c1.mono ?_
          rintro e w3 ⟨rfl, hb3⟩
          have hbel3 := hbel.trans (hb3.mono hsz)
          have hcN3 := (HNW.out.below hb3).cell 0
          clear c1 hcN
          go_wp2_with fail
          refine (c2 w3 (HSL.out.below hb3)).mono ?_
          rintro e w4 ⟨v, rfl, ho, hb4⟩
          obtain ⟨a3, k3, rfl, -⟩ := row_open ho
          have hbel4 := hbel3.trans (hb4.mono hbel3.size)
          clear c2 hcN3 ho hb4
          go_wp2_with (first | (refine wpList_alloc_arr 42 [Value.slice none 0 0] zeroSg rfl rfl ?_) | (refine wpList_store_arr 42 (.tmp 6) (.tmp 21) w4.heap.size [Value.slice none 0 0] [Value.slice a3 (parL (ancL G (topN G))).length k3] rfl rfl rfl rfl (Arr.new w4 42 [Value.slice none 0 0]) rfl sizeSg (by simp [Value.oneCell']) ?_; intro w5 hN5 hg5 hz5; clear hz5; have hb5 := (box_below w4 (.cells [Value.slice none 0 0].toArray 42)).grown hg5 (by simp) (fun k hk => by cases hk; exact Nat.le_refl _); have hbel5 := hbel4.trans (hb5.mono hbel4.size); clear hg5))
          go_ret2
          exact ⟨.slice none 0 0, [], by rw [HB.out]; rfl, by rw [path_no HB.out]; exact RowsG.nil _ _ _ (Nat.le_refl _), hbel5⟩
        · rw [hp] at c2
          have hkt := top_lt hk hp
          clear hp hfr
          go_wp2_with fail
          refine c1.mono ?_
          rintro e w3 ⟨rfl, hb3⟩
          have hbel3 := hbel.trans (hb3.mono hsz)
          have hcN3 := (HNW.out.below hb3).cell 0
          clear c1 hcN
          go_wp2_with fail
          refine (c2 w3 (HSL.out.below hb3)).mono ?_
          rintro e w4 ⟨v, rfl, ho, hb4⟩
          obtain ⟨a3, k3, rfl, -⟩ := row_open ho
          have hbel4 := hbel3.trans (hb4.mono hbel3.size)
          have hN4 := (HNW.out.below hb3).below hb4
          have HO := Lib.hid ho
          have HRW4 := Lib.hid ((HRW.out.below hb3).below hb4)
          clear c2 hcN3 ho HSL
          go_wp2_with (first | (refine wpList_alloc_arr 42 [Value.slice none 0 0] zeroSg rfl rfl ?_) | (refine wpList_store_arr 42 (.tmp 6) (.tmp 21) w4.heap.size [Value.slice none 0 0] [.slice a3 (parL (ancL G k)).length k3] rfl rfl rfl rfl (Arr.new w4 42 [Value.slice none 0 0]) rfl sizeSg (by simp [Value.oneCell']) ?_; intro w5 hN5 hg5 hz5; clear hz5; have hb5 := (box_below w4 (.cells [Value.slice none 0 0].toArray 42)).grown hg5 (by simp) (fun k hk => by cases hk; exact Nat.le_refl _); have hbel5 := hbel4.trans (hb5.mono hbel4.size); clear hg5; have hN5c := hN5.cell 0; have hN45 := hN4.below hb5) | (refine wpList_store_arr 42 (.tmp 4) (.tmp 25) w2.heap.size [.slice p (ancL G k).length q] [.slice a3 (parL (ancL G k)).length k3] rfl rfl rfl rfl hN45 rfl sizeSg (by simp [Value.oneCell']) ?_; intro w6 hN6 hg6 hz6; clear hz6; have hN6c := hN6.cell 0; have hbel6 := hbel5.grown hg6 hbel5.size (fun k hk => by cases hk; exact hN2); have HR6 := Lib.hid ((HRW4.out.below hb5).beside hg6 HNE.out.1 HNE.out.2); have HOW : Hid ((w6.alloc (.cells #[.slice a3 (parL (ancL G k)).length k3] 42)).ownsRow w.heap.size 42 1 (.slice (some ⟨g, 0, none⟩) (k + 1) c) (k + 1) vs) := Lib.hid (by have h := (HR6.out.below (box_below w6 (.cells #[.slice a3 (parL (ancL G k)).length k3] 42))).own; rw [hlen] at h; exact h)) | (at_builtin; refine wpList_append_own_at _ rfl (.tmp 26) (.tmp 28) 39 rfl w.heap.size 42 i0 (.agg [Value.slice none 0 0].toArray) 1 24 Try.underlying39 hi hz0 hz1 hz2 rfl (by decide) (.slice (some ⟨g, 0, none⟩) (k + 1) c) (k + 1) vs rfl HOW.out ⟨w6.heap.size, 0, none⟩ 1 1 [.slice a3 (parL (ancL G k)).length k3] rfl rfl (new_one w6 (.slice a3 (parL (ancL G k)).length k3) 42) (fun u hu => by rw [List.mem_singleton] at hu; subst hu; rfl) (by unfold maxLen; omega) (by omega) (Nat.le_trans hbel6.size (by simp)) ?_; intro v7 w7 hO7 hg7 hv7 hv8; clear hv7))
          have hbA := box_below w6 (.cells #[.slice a3 (parL (ancL G k)).length k3] 42)
          have hN3 : w2.heap.size < w3.heap.size := Nat.lt_of_lt_of_le hNl hb3.size
          have hudr : ∀ b, (Value.slice a3 (parL (ancL G k)).length k3).ownBlock = some b → w3.heap.size ≤ b := fun b hb => (HO.out.lt b hb).1
          have hu : (w6.alloc (.cells #[.slice a3 (parL (ancL G k)).length k3] 42)).ownsRow wr.heap.size 3 1 (.slice a3 (parL (ancL G k)).length k3) (parL (ancL G k)).length ((parL (ancL G k)).map (Value.int .i64)) := ownsBase (row_kept HO.out fun j hj => by
            have hj2 := HO.out.lt j hj
            have h5 := hb5.size
            have h6 := hg6.size
            exact (hbA.block j (by omega)).trans ((hg6.block j (by omega) (fun e => by injection e with e; omega)).trans (hb5.block j hj2.2))) hb3.size
          have HA : RowsG w7 w.heap.size w7.heap.size v7 (vs ++ [Value.slice a3 (parL (ancL G k)).length k3]) (upI G (k + 1)) := by
            rw [upI_next]
            refine (HR6.out.below hbA).snoc (by rw [hlen]; exact hO7) hg7 (by rw [List.length_map]; exact hu) hsz (fun b hb => ?_)
            rcases hv8 with h | h
            · exact .inl (by rw [← h]; exact hb)
            · rw [h] at hb; cases hb; exact .inr (Nat.le_refl _)
          have hb7 := (hbel6.alloc hbel6.size (.cells #[.slice a3 (parL (ancL G k)).length k3] 42)).grown hg7 (Nat.le_trans hbel6.size hbA.size) (fun b hb => ((HR6.out.below hbA).own.lt b hb).1)
          have hN7 : Arr w7 w2.heap.size 42 [.slice a3 (parL (ancL G k)).length k3] := (hN6.alloc _).grown hg7 (fun e => HNE.out.1 e.symm)
          have hne7 : v7.ownBlock ≠ some w2.heap.size ∧ ∀ u ∈ vs ++ [Value.slice a3 (parL (ancL G k)).length k3], u.ownBlock ≠ some w2.heap.size := by
            refine ⟨fun e => ?_, fun u hu e => ?_⟩
            · rcases hv8 with h | h
              · exact HNE.out.1 (by rw [← h]; exact e)
              · rw [h] at e
                injection e with e
                have h2 := hN6.lt
                have h3 := hbA.size
                omega
            · rw [List.mem_append, List.mem_singleton] at hu
              rcases hu with hu | hu
              · exact HNE.out.2 u hu e
              · subst hu
                have := hudr _ e
                omega
          have hv9 : (vs ++ [Value.slice a3 (parL (ancL G k)).length k3])[k + 1]? = some (.slice a3 (parL (ancL G k)).length k3) := by rw [List.getElem?_append_right (by omega), hlen]; simp
          obtain ⟨a7, c7, rfl⟩ := rowsG_open HA
          have hl7 : (vs ++ [Value.slice a3 (parL (ancL G k)).length k3]).length = k + 1 + 1 := by rw [List.length_append, hlen]; rfl
          obtain ⟨g7, rfl⟩ := HA.addr (by omega)
          have HA7 := Lib.hid HA
          have HN7 := Lib.hid hN7
          have HE7 := Lib.hid hne7
          have HV9 := Lib.hid hv9
          rw [hl7] at HA7 HE7 ⊢
          clear hN6c hN5c
          go_roundg (topN G - (k + 1))
          case measure => omega
          case rel => exact ⟨k + 1, g7, c7, k3, a3, _, hkt, rfl, rfl, HA7, HN7, HV9, HE7, hb7⟩
      · have hgd := decide_eq_false hg0
        have hfr : frobN (ancL G k) < 0 := by
          rcases Int.lt_or_le (frobN (ancL G k)) 0 with h | h
          · exact h
          · exact absurd (hgp.2 h) hg0
        have hp : parB (ancL G k) = false := by
          cases hp : parB (ancL G k)
          · rfl
          · have := (par_sg hp).2.1; omega
        obtain rfl := top_eq hk hp
        have HB : Hid (pathB G = true) := Lib.hid (by unfold pathB; rw [HS.out, decide_eq_true hfr]; rfl)
        generalize genusN (ancL G (topN G)) = gn at *
        clear hgp hp hfr c2
        go_wp2_with fail
        refine c1.mono ?_
        rintro e w3 ⟨rfl, hb3⟩
        have hbel3 := hbel.trans (hb3.mono hsz)
        have hR3 := HRW.out.below hb3
        have hlg := (hR3.own.lt g rfl).1
        have cR := impl_reverse w.heap.size wr.heap.size g c vs (upI G (topN G)) w3 (by rw [hlen]; exact hR3) (by omega)
        rw [hlen] at cR
        clear c1 hcN hR3 HNW HVK HNE HSL
        go_wp2_with fail
        refine cR.mono ?_
        rintro e w4 ⟨rfl, hR4, hg4⟩
        have hb4 := hbel3.grown hg4 hbel3.size (fun k hk => by cases hk; exact hlg)
        have HF : Hid (RowsG w4 w.heap.size w4.heap.size (.slice (some ⟨g, 0, none⟩) (topN G + 1) c) vs.reverse ((upL G (topN G)).reverse.map fun L => L.map (Value.int .i64))) := Lib.hid (by rw [← upI_rev]; exact hR4.wider (Nat.le_refl _) (by have := hb3.size; have := hg4.size; omega) (Nat.le_refl _))
        clear cR hR4 hg4
        go_wp2_with fail
        go_ret2
        exact ⟨.slice (some ⟨g, 0, none⟩) (topN G + 1) c, vs.reverse, by rw [HB.out]; rfl, by rw [path_yes HB.out]; exact HF.out, hb4⟩
end Go.Proofs.Ytekeaigdphicaaa
