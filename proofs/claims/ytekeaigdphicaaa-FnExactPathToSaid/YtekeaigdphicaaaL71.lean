/-
  CONTRACTS of the reference's chapters 19 and 20: l19Without, AddGap, ParentOf, RemoveGenerator. (Own work: mk71.py.)
-/
import Derived.Test.YtekeaigdphicaaaSgOv
import Derived.Test.YtekeaigdphicaaaL34
import Derived.Test.YtekeaigdphicaaaL26
import Derived.Maps.AppendAt
import Derived.WalkMore
namespace Go.Proofs.Ytekeaigdphicaaa
open Go Go.RowKit
attribute [local go_sem] Oper.semAt_some

theorem specL_len (G : List Int) : (specL G).length ≤ 200 := by
  unfold specL; split
  · rw [List.length_map]; exact upB_len_le _ _
  · simp
theorem gapsL_len2 (G : List Int) : (gapsL G).length ≤ 200 := by
  unfold gapsL; split
  · rw [List.length_map]; exact upB_len_le _ _
  · simp
theorem lessL_len (L : List Int) (x : Int) : (lessL L x).length ≤ L.length := List.length_filter_le _ _

set_option maxRecDepth 100000 in
set_option maxHeartbeats 1600000 in
theorem spec_l19Without (L : List Int) (x : Int) (a : Option Addr) (cap : Nat) (w : World) (hr : SlV w a (L.map (Value.int .i64))) (hb : L.length ≤ 1048576) :
    Calls Try.prog 41 #[.slice a L.length cap, .int .i64 x] w (SlPost (lessL L x) w) := by
  obtain ⟨i0, hi, hz0, hz1, hz2⟩ := info_parts infoIntL
  have hO : (w.alloc (.cells #[] 3)).ownsRow w.heap.size 3 1 (.slice (some ⟨w.heap.size, 0, none⟩) 0 0) 0 [] := World.ownsRow_lit w #[] 0 (Nat.le_refl _) (by simp) rfl
  have hB0 := box_below w (.cells #[] 3)
  have HO := Lib.hid hO
  clear hO
  go_enter Try.func41, Try.ntmps41
  go_wp2_with fail
  go_loopw [5, 6] (fun v i wr => ∃ (k : Nat) (M : List Int), k ≤ L.length ∧ i = .int .i64 (k : Int) ∧ Hid (M = lessL (L.take k) x) ∧ M.length ≤ k ∧ wr.ownsRow w.heap.size 3 1 v M.length (M.map (Value.int .i64)) ∧ Below w.heap.size w wr) (fun _ i _ => L.length - (intOf i).toNat)
  case atStart => exact ⟨0, [], Nat.zero_le _, rfl, Lib.hid rfl, Nat.le_refl _, HO.out, hB0⟩
  case round =>
    clear HO hB0
    obtain ⟨k, M, hk, rfl, HM, hMl, hown, hbel⟩ := hrel
    have hsz := hbel.size
    by_cases hlt : k < L.length
    · obtain ⟨b, o, rfl, hbs, hc⟩ := (hr.below hbel).open (by intro h; rw [List.map_eq_nil_iff] at h; subst h; simp at hlt)
      have hcell : wr.cell? ⟨b, o + k, none⟩ = some (.int .i64 L[k]) := hc k _ (by simp [hlt])
      have hlti : (k : Int) < (L.length : Int) := by omega
      have HT : Hid (lessL (L.take (k + 1)) x = M ++ if decide (L[k] ≠ x) then [L[k]] else []) := Lib.hid (by rw [HM.out]; exact filter_take (fun y => decide (y ≠ x)) hlt)
      clear hc HM hr
      generalize L[k] = y at *
      by_cases he : y = x
      · have hne : (y != x) = false := by rw [he]; simp
        have HN : Hid (M = lessL (L.take (k + 1)) x) := Lib.hid (by rw [HT.out, decide_eq_false (show ¬ y ≠ x from fun h => h he)]; simp)
        clear HT he
        go_wp2_with fail
        go_roundw
        case rel => exact ⟨k + 1, M, by omega, by go_num, HN, by omega, hown, hbel⟩
        case measure => simp [intOf]; omega
      · have hne : (y != x) = true := by rw [bne_iff_ne]; exact he
        have HN : Hid (M ++ [y] = lessL (L.take (k + 1)) x) := Lib.hid (by rw [HT.out, decide_eq_true (show y ≠ x from he)]; rfl)
        clear HT he
        go_wp2_with (at_builtin; refine wpList_append_own _ rfl (.tmp 20) (.tmp 25) 22 rfl w.heap.size 3 i0 (Value.int .i64 0) 1 8 Try.underlying22 hi hz0 hz1 hz2 rfl (by decide) _ _ _ rfl (hown.alloc _) ⟨_, 0, none⟩ 1 1 [.int .i64 y] rfl rfl (World.news_of_block (cs := #[.int .i64 y]) (t := 3) (fr := (0, 0)) (heap_alloc_new _ _)) (by simp [Value.oneCell']) (by unfold maxLen; omega) (by omega) (by simp; omega) ?_; intro v6 w6 hown6 hg6 _)
        have hbel6 := (hbel.alloc hbel.size (.cells #[.int .i64 y] 3)).grown hg6 (by simp; omega) (fun j hj => (hown.lt j hj).1)
        have HO := Lib.hid hown6
        clear hown6 hg6 hown
        go_wp2_with fail
        go_roundw
        case rel => exact ⟨k + 1, M ++ [y], by omega, by go_num, HN, by rw [List.length_append, List.length_singleton]; omega, by rw [List.length_append, List.length_singleton, List.map_append]; exact HO.out, hbel6⟩
        case measure => simp [intOf]; omega
    · obtain rfl : k = L.length := by omega
      have HE : Hid (lessL L x = M) := Lib.hid (by rw [HM.out, List.take_length])
      have hlti : ¬ ((L.length : Nat) : Int) < (L.length : Int) := by omega
      clear HM hr
      go_wp2_with fail
      go_ret
      exact ⟨_, rfl, by rw [HE.out]; exact hown, hbel⟩


set_option maxRecDepth 100000 in
set_option maxHeartbeats 1600000 in
theorem spec_ParentOf (G : List Int) (a : Option Addr) (cap : Nat) (w : World) (hr : SlV w a (G.map (Value.int .i64))) (hb : G.length ≤ 1048576) :
    Calls Try.prog 27 #[.agg #[.slice a G.length cap]] w (SgPost (parL G) (parB G) w) := by
  have c1 := fun w2 (h : SlV w2 a (G.map (Value.int .i64))) => spec_FrobeniusOf G a cap w2 h hb
  obtain ⟨dS, hdS, hrS⟩ := undSg
  obtain ⟨U, hU⟩ : ∃ U, U = (w.alloc (.cells #[.slice a G.length cap] 42)) := ⟨_, rfl⟩
  obtain ⟨V, hV⟩ : ∃ V, V = U.alloc (.cells [Value.slice none 0 0].toArray 42) := ⟨_, rfl⟩
  have hbU : Below w.heap.size w U := by rw [hU]; exact box_below _ _
  have hbUV : Below U.heap.size U V := by rw [hV]; exact box_below _ _
  have hbV := hbU.trans (hbUV.mono hbU.size)
  have hUe : U.heap.size = w.heap.size + 1 := by rw [hU]; simp
  have hcV : V.cell? ⟨w.heap.size, 0, none⟩ = some (.slice a G.length cap) := by rw [hV]; exact (World.cell?_alloc_lt _ _ ⟨w.heap.size, 0, none⟩ (show w.heap.size < U.heap.size by omega)).trans (by rw [hU]; exact box_cell w _)
  have hAV : Arr V (w.heap.size + 1) 42 [Value.slice none 0 0] := by rw [hV, ← hUe]; exact Arr.new _ _ _
  have hVs : w.heap.size + 1 < V.heap.size := hAV.lt
  have HV : Hid (V = (w.alloc (.cells #[.slice a G.length cap] 42)).alloc (.cells [Value.slice none 0 0].toArray 42)) := Lib.hid (by rw [hV, hU])
  have HRS := Lib.hid (fun w2 (h : Below V.heap.size V w2) => hr.below (hbV.trans (h.mono hbV.size)))
  have HKC := Lib.hid (fun w2 (h : Below V.heap.size V w2) => (h.cell (p := ⟨w.heap.size, 0, none⟩) (show w.heap.size < V.heap.size by omega)).trans hcV)
  have HAV := Lib.hid hAV
  clear hU hV hUe hbU hbUV hr hAV
  have c1 := c1 V (HRS.out V (Below.refl _ _))
  have hgl := gapsL_len2 G
  by_cases hq : frobN G < 1
  · have HB : Hid (parB G = false) := Lib.hid (by unfold parB; rw [decide_eq_false (show ¬ 1 ≤ frobN G by omega)]; rfl)
    have HL : Hid (parL G = []) := Lib.hid (by unfold parL; rw [decide_eq_false (show ¬ 1 ≤ frobN G by omega)]; rfl)
    generalize frobN G = F at *
    go_enter Try.func27, Try.ntmps27
    go_wp2_with (first | (refine wpList_alloc_arr 42 [Value.slice none 0 0] zeroSg rfl rfl ?_; rw [← HV.out]))
    go_wp2_with fail
    refine c1.mono ?_
    rintro e w1 ⟨rfl, hb1⟩
    clear c1 hcV
    have hA9' := HAV.out.below hb1
    have hbw9 := hbV.trans (hb1.mono hbV.size)
    go_wp2_with (first | (refine wpList_store_arr 42 (.tmp 2) (.tmp 11) (w.heap.size + 1) [Value.slice none 0 0] [Value.slice none 0 0] rfl rfl rfl rfl hA9' rfl sizeSg (by simp [Value.oneCell']) ?_; intro w9 hA9 hg9 hz9; clear hz9))
    have hb9 := hbw9.grown hg9 hbw9.size (fun k hk => by cases hk; omega)
    exact bodyPost_ret (results_arr_tmp rfl _ _ (w.heap.size + 1) [Value.slice none 0 0] dS rfl hA9 hdS hrS sizeSg) rfl ⟨_, by rw [HB.out]; rfl, by rw [HL.out]; exact World.ownsRow_nil _ _ _ _, hb9⟩
  · have HB : Hid (parB G = fromGpB (lessL (gapsL G) (frobN G))) := Lib.hid (by unfold parB; rw [decide_eq_true (show 1 ≤ frobN G by omega)]; rfl)
    have HL : Hid (parL G = fromGpL (lessL (gapsL G) (frobN G))) := Lib.hid (by unfold parL; rw [decide_eq_true (show 1 ≤ frobN G by omega)]; rfl)
    have HSG : Hid (isSgB G = true) := Lib.hid (by
      rcases Bool.eq_false_or_eq_true (isSgB G) with e | e
      · exact e
      · exact absurd (show frobN G < 1 by rw [show frobN G = -1 by unfold frobN; rw [e]; rfl]; omega) hq)
    have hll := lessL_len (gapsL G) (frobN G)
    generalize frobN G = F at *
    go_enter Try.func27, Try.ntmps27
    go_wp2_with (first | (refine wpList_alloc_arr 42 [Value.slice none 0 0] zeroSg rfl rfl ?_; rw [← HV.out]))
    go_wp2_with fail
    refine c1.mono ?_
    rintro e w1 ⟨rfl, hb1⟩
    clear c1 hcV
    have hbc := hb1
    have cg := spec_l4Gaps G a cap w1 (HRS.out _ hbc) HSG.out
    have hkc := HKC.out _ hbc
    go_wp2_with fail
    refine cg.mono ?_
    rintro e w3 ⟨v3, rfl, ho3, hb3⟩
    obtain ⟨a3, k3, rfl, rX3⟩ := row_open ho3
    have hb3V := hbc.trans (hb3.mono hbc.size)
    clear cg hkc
    have cw := spec_l19Without (gapsL G) F a3 k3 w3 rX3.slv (by omega)
    go_wp2_with fail
    refine cw.mono ?_
    rintro e w4 ⟨v4, rfl, ho4, hb4⟩
    obtain ⟨a4, k4, rfl, rX4⟩ := row_open ho4
    have hb4V := hb3V.trans (hb4.mono hb3V.size)
    clear cw rX3 ho3
    have cf := spec_FromGaps (lessL (gapsL G) F) a4 k4 w4 rX4.slv (by omega)
    clear rX4 ho4
    generalize fromGpB (lessL (gapsL G) F) = fb at *
    generalize hK : fromGpL (lessL (gapsL G) F) = K at *
    clear hK
    go_wp2_with fail
    refine cf.mono ?_
    rintro e w5 ⟨v5, rfl, ho5, hb5⟩
    have hb5V := hb4V.trans (hb5.mono hb4V.size)
    clear cf
    obtain ⟨a9, k9, rfl, -⟩ := row_open ho5
    have hbw8 := hbV.trans (hb5V.mono hbV.size)
    have hA8 := HAV.out.below hb5V
    have hN := Arr.new w5 42 [Value.slice none 0 0]
    have hA8c := hA8.alloc (.cells [Value.slice none 0 0].toArray 42)
    have hbw7 := hbw8.alloc (o := .cells [Value.slice none 0 0].toArray 42) hbw8.size
    have ho8c := ho5.alloc (.cells [Value.slice none 0 0].toArray 42)
    have hsw8 := hb5V.size
    have hsb8 := hb4V.size
    have hn8 := own_apart ho5 (g := w5.heap.size) (.inr (Nat.le_refl _))
    have hn7 := own_apart ho5 (g := w.heap.size + 1) (.inl (by omega))
    clear ho5 hA8
    go_wp2_with (first | (refine wpList_alloc_arr 42 [Value.slice none 0 0] zeroSg rfl rfl ?_) | (refine wpList_store_arr 42 (.tmp 5) (.tmp 18) w5.heap.size [Value.slice none 0 0] [Value.slice a9 K.length k9] rfl rfl rfl rfl hN rfl sizeSg (by simp [Value.oneCell']) ?_; intro wN hN6 hg6 hz6; clear hz6; have hcN := hN6.cell 0) | (refine wpList_store_arr 42 (.tmp 2) (.tmp 20) (w.heap.size + 1) [Value.slice none 0 0] [Value.slice a9 K.length k9] rfl rfl rfl rfl (hA8c.grown hg6 (by simp; omega)) rfl sizeSg (by simp [Value.oneCell']) ?_; intro w9 hA9 hg9 hz9; clear hz9))
    have hb6 := hbw7.grown hg6 hbw7.size (fun k hk => by cases hk; omega)
    have hb9 := hb6.grown hg9 hb6.size (fun k hk => by cases hk; omega)
    have ho9 := (ho8c.kept hg6 hn8).kept hg9 hn7
    exact bodyPost_ret (results_arr_tmp rfl _ _ (w.heap.size + 1) [Value.slice a9 K.length k9] dS rfl hA9 hdS hrS sizeSg) rfl ⟨_, by rw [HB.out]; rfl, by rw [HL.out]; exact ownsBase ho9 (by omega), hb9⟩


end Go.Proofs.Ytekeaigdphicaaa
