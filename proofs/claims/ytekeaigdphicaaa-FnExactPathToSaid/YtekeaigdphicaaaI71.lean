/-
  CONTRACTS of the program's chapters 19 and 20: AddGap, RemoveGenerator, ParentOf. (Own work: mk71i.py.)
-/
import Derived.Test.YtekeaigdphicaaaSgOv
import Derived.Test.YtekeaigdphicaaaI35
import Derived.Test.YtekeaigdphicaaaI32
import Derived.Test.YtekeaigdphicaaaI70c
namespace Go.Proofs.Ytekeaigdphicaaa
open Go Go.RowKit
attribute [local go_sem] Oper.semAt_some

theorem wp_store_arrV {P : Program} {o : Oper} {a : Act} {w : World} {K : Act → World → Prop} {Q : Exit → Act → World → Prop} (t : TypeId) (x y : Operand) (g : Nat) (old cs : List Value) (ho : o.op = .store t x y) (hx : a.eval x = .pointer (some ⟨g, 0, none⟩)) (hy : a.eval y = .agg cs.toArray) (hc : Arr w g t old) (hl : old.length = cs.length)
    (hi : (P.info? t).map (·.size) = some cs.length) (h1 : ∀ v ∈ cs, v.oneCell' = true)
    (h : ∀ w', Arr w' g t cs → w.grownBy w' (some g) → K (a.put o.dst undef) w') : o.wp P a w K Q := by
  refine wp_store_mid t x y ho g 0 cs.toArray hx hy (by have := hc.there; rw [hl] at this; simpa using this) (by simpa using hi) (all_oneCell_toArray h1) ?_
  obtain ⟨k1, k2⟩ := hc.setCells cs hl
  rw [List.toList_toArray]
  exact h _ k1 k2
theorem specL_lenI (G : List Int) : (specL G).length ≤ 200 := by
  unfold specL; split
  · rw [List.length_map]; exact upB_len_le _ _
  · simp




set_option maxRecDepth 100000 in
set_option maxHeartbeats 1600000 in
theorem impl_AddGap (G : List Int) (x : Int) (a : Option Addr) (cap : Nat) (w : World) (hr : SlV w a (G.map (Value.int .i64))) (hb : G.length ≤ 1048576) :
    Calls Try.prog 47 #[.agg #[.slice a G.length cap], .int .i64 x] w (SgPost (insL G x) (insB G x) w) := by
  have c1 := fun w2 (h : SlV w2 a (G.map (Value.int .i64))) => impl_SpecialGaps G a cap w2 h hb
  obtain ⟨dS, hdS, hrS⟩ := undSg
  obtain ⟨U, hU⟩ : ∃ U, U = (w.alloc (.cells #[.slice a G.length cap] 42)) := ⟨_, rfl⟩
  obtain ⟨V, hV⟩ : ∃ V, V = U.alloc (.cells [Value.slice none 0 0].toArray 42) := ⟨_, rfl⟩
  have hbU : Below w.heap.size w U := by rw [hU]; exact box_below _ _
  have hbUV : Below U.heap.size U V := by rw [hV]; exact box_below _ _
  have hbV := hbU.trans (hbUV.mono hbU.size)
  have hUe : U.heap.size = w.heap.size + 1 := by rw [hU]; simp
  have hcV : V.cell? ⟨w.heap.size, 0, none⟩ = some (.slice a G.length cap) := by rw [hV]; exact (World.cell?_alloc_lt _ _ ⟨w.heap.size, 0, none⟩ (show w.heap.size < U.heap.size by omega)).trans (by rw [hU]; exact box_cell w _)
  have hAV : Arr V (w.heap.size + 1) 42 [Value.slice none 0 0] := by rw [hV, ← hUe]; exact Arr.new _ _ _
  have hVs : w.heap.size + 1 < V.heap.size := hAV.lt
  have HV : Hid (V = (w.alloc (.cells #[.slice a G.length cap] 42)).alloc (.cells [Value.slice none 0 0].toArray 42)) := Lib.hid (by rw [hV, hU])
  have HRS := Lib.hid (fun w2 (h : Below V.heap.size V w2) => hr.below (hbV.trans (h.mono hbV.size)))
  have HKC := Lib.hid (fun w2 (h : Below V.heap.size V w2) => (h.cell (p := ⟨w.heap.size, 0, none⟩) (show w.heap.size < V.heap.size by omega)).trans hcV)
  have HAV := Lib.hid hAV
  clear hU hV hUe hbU hbUV hr hAV
  have c1 := c1 V (HRS.out V (Below.refl _ _))
  have hsl := specL_lenI G
  cases hq : hasB (specL G) x
  · have HB : Hid (insB G x = false) := Lib.hid (by unfold insB; rw [hq]; rfl)
    have HL : Hid (insL G x = []) := Lib.hid (by unfold insL; rw [hq]; rfl)
    go_enter Try.func47, Try.ntmps47
    go_wp2_with (first | (refine wpList_alloc_arr 42 [Value.slice none 0 0] zeroSg rfl rfl ?_; rw [← HV.out]))
    go_wp2_with fail
    refine c1.mono ?_
    rintro e w1 ⟨v1, rfl, ho1, hb1⟩
    obtain ⟨a1, k1, rfl, rX1⟩ := row_open ho1
    have c2 := impl_HasNumber (specL G) x a1 k1 w1 rX1.slv (by unfold maxLen; omega)
    rw [hq] at c2
    clear c1 rX1 ho1 hq hcV
    go_wp2_with fail
    refine c2.mono ?_
    rintro e w2 ⟨rfl, hww⟩
    rw [hww]
    clear c2 hww
    have hA9' := HAV.out.below hb1
    have hbw9 := hbV.trans (hb1.mono hbV.size)
    go_wp2_with (first | (refine wpList_store_arr 42 (.tmp 4) (.tmp 11) (w.heap.size + 1) [Value.slice none 0 0] [Value.slice none 0 0] rfl rfl rfl rfl hA9' rfl sizeSg (by simp [Value.oneCell']) ?_; intro w9 hA9 hg9 hz9; clear hz9))
    have hb9 := hbw9.grown hg9 hbw9.size (fun k hk => by cases hk; omega)
    exact bodyPost_ret (results_arr_tmp rfl _ _ (w.heap.size + 1) [Value.slice none 0 0] dS rfl hA9 hdS hrS sizeSg) rfl ⟨_, by rw [HB.out]; rfl, by rw [HL.out]; exact World.ownsRow_nil _ _ _ _, hb9⟩
  · obtain ⟨hgb, hgl⟩ := ins_gens hq
    have hs := (spec_open hq).1
    have hne : G ≠ [] := (isSgB_iff.1 hs).ne
    have hlen : G.length ≤ 12 := (isSgB_iff.1 hs).len
    have HB : Hid (insB G x = fromB (G ++ [x])) := Lib.hid hgb.symm
    have HL : Hid (insL G x = fromL (G ++ [x])) := Lib.hid hgl.symm
    clear hgb hgl hs
    go_enter Try.func47, Try.ntmps47
    go_wp2_with (first | (refine wpList_alloc_arr 42 [Value.slice none 0 0] zeroSg rfl rfl ?_; rw [← HV.out]))
    go_wp2_with fail
    refine c1.mono ?_
    rintro e w1 ⟨v1, rfl, ho1, hb1⟩
    obtain ⟨a1, k1, rfl, rX1⟩ := row_open ho1
    have c2 := impl_HasNumber (specL G) x a1 k1 w1 rX1.slv (by unfold maxLen; omega)
    rw [hq] at c2
    have hkc := HKC.out _ hb1
    clear c1 rX1 ho1 hq hcV
    go_wp2_with fail
    refine c2.mono ?_
    rintro e w2 ⟨rfl, hww⟩
    rw [hww]
    clear c2 hww
    obtain ⟨Y0, hY0⟩ : ∃ Y, Y = w1.alloc (.cells #[.int .i64 x] 3) := ⟨_, rfl⟩
    obtain ⟨Y, hY⟩ : ∃ Y, Y = Y0.alloc (.cells #[.slice a G.length cap, .slice (some ⟨w1.heap.size, 0, none⟩) 1 1] 22) := ⟨_, rfl⟩
    have hz0 : Y0.heap.size = w1.heap.size + 1 := by rw [hY0]; simp
    have hbY0 : Below w1.heap.size w1 Y0 := by rw [hY0]; exact box_below _ _
    have hbY1 : Below Y0.heap.size Y0 Y := by rw [hY]; exact box_below _ _
    have hbY := hb1.trans ((hbY0.trans (hbY1.mono hbY0.size)).mono hb1.size)
    have hA2 := Arr.new Y0 22 [.slice a G.length cap, .slice (some ⟨w1.heap.size, 0, none⟩) 1 1]
    have hx0 : SlV Y0 (some ⟨w1.heap.size, 0, none⟩) (([x] : List Int).map (Value.int .i64)) := by
      have hA := Arr.new w1 3 [.int .i64 x]
      rw [show w1.alloc (.cells [Value.int .i64 x].toArray 3) = Y0 from hY0.symm] at hA
      refine .inr ⟨w1.heap.size, 0, rfl, hA.lt, fun j u hu => ?_⟩
      rw [Nat.zero_add, hA.cell j]; exact hu
    have cC := impl_Concat2 G [x] a cap (some ⟨w1.heap.size, 0, none⟩) 1 (w1.heap.size + 1) Y hne (by simp) (by omega) (by simp) (HRS.out Y hbY) (hx0.below hbY1) (by have := hbY1.size; rw [hY]; simp; omega) (by rw [← hz0, hY]; exact hA2.cell 0) (by rw [← hz0, hY]; exact hA2.cell 1)
    have HY : Hid (Y = (w1.alloc (.cells #[.int .i64 x] 3)).alloc (.cells #[.slice a G.length cap, .slice (some ⟨w1.heap.size, 0, none⟩) 1 1] 22)) := Lib.hid (by rw [hY, hY0])
    clear hY hY0 hA2 hx0 hbY0 hbY1 hz0
    obtain ⟨LL, hLL⟩ : ∃ LL, LL = G ++ [x] := ⟨_, rfl⟩
    have hlLL : LL.length ≤ 13 := by rw [hLL, List.length_append, List.length_singleton]; omega
    rw [← hLL] at cC
    have HLL := Lib.hid hLL
    clear hLL
    rw [HY.out] at cC
    go_wp2_with fail
    refine cC.mono ?_
    rw [← HY.out]
    rintro e w3 ⟨v3, rfl, ho3, hb3⟩
    obtain ⟨a3, k3, rfl, rX3⟩ := row_open ho3
    have hb3V := hbY.trans (hb3.mono hbY.size)
    have cf := impl_FromGens LL a3 k3 w3 rX3.slw (by omega)
    rw [← HLL.out] at HB HL
    clear cC rX3 ho3 hkc HY HLL
    generalize fromB LL = fb at *
    generalize hK : fromL LL = K at *
    clear hK
    go_wp2_with fail
    refine cf.mono ?_
    rintro e w5 ⟨v5, rfl, ho5, hb5⟩
    have hb5V := hb3V.trans (hb5.mono hb3V.size)
    clear cf
    obtain ⟨a9, k9, rfl, -⟩ := row_open ho5
    have hA8 := HAV.out.below hb5V
    have hbw8 := hbV.trans (hb5V.mono hbV.size)
    have hsw8 := hb5V.size
    have hsb8 := hb3V.size
    have hn7 := own_apart ho5 (g := w.heap.size + 1) (.inl (by omega))
    go_wp2_with (first | (refine wpList_store_arr 42 (.tmp 4) (.tmp 19) (w.heap.size + 1) [Value.slice none 0 0] [Value.slice a9 K.length k9] rfl rfl rfl rfl hA8 rfl sizeSg (by simp [Value.oneCell']) ?_; intro w9 hA9 hg9 hz9; clear hz9))
    have hb9 := hbw8.grown hg9 hbw8.size (fun k hk => by cases hk; omega)
    exact bodyPost_ret (results_arr_tmp rfl _ _ (w.heap.size + 1) [Value.slice a9 K.length k9] dS rfl hA9 hdS hrS sizeSg) rfl ⟨_, by rw [HB.out]; rfl, by rw [HL.out]; exact ownsBase (ho5.kept hg9 hn7) (by omega), hb9⟩

set_option maxRecDepth 100000 in
set_option maxHeartbeats 1600000 in
theorem impl_ParentOf (G : List Int) (a : Option Addr) (cap : Nat) (w : World) (hr : SlV w a (G.map (Value.int .i64))) (hb : G.length ≤ 1048576) :
    Calls Try.prog 32 #[.agg #[.slice a G.length cap]] w (SgPost (parL G) (parB G) w) := by
  have c1 := fun w2 (h : SlV w2 a (G.map (Value.int .i64))) => impl_FrobeniusOf G a cap w2 h hb
  have c2 := fun w2 (h : SlV w2 a (G.map (Value.int .i64))) => impl_AddGap G (frobN G) a cap w2 h hb
  have HR0 := Lib.hid (fun w2 (h : Below w.heap.size w w2) => hr.below h)
  obtain ⟨dS, hdS, hrS⟩ := undSg
  obtain ⟨U, hU⟩ : ∃ U, U = (w.alloc (.cells #[.slice a G.length cap] 42)) := ⟨_, rfl⟩
  obtain ⟨V, hV⟩ : ∃ V, V = U.alloc (.cells [Value.slice none 0 0].toArray 42) := ⟨_, rfl⟩
  have hbU : Below w.heap.size w U := by rw [hU]; exact box_below _ _
  have hbUV : Below U.heap.size U V := by rw [hV]; exact box_below _ _
  have hbV := hbU.trans (hbUV.mono hbU.size)
  have hUe : U.heap.size = w.heap.size + 1 := by rw [hU]; simp
  have hcV : V.cell? ⟨w.heap.size, 0, none⟩ = some (.slice a G.length cap) := by rw [hV]; exact (World.cell?_alloc_lt _ _ ⟨w.heap.size, 0, none⟩ (show w.heap.size < U.heap.size by omega)).trans (by rw [hU]; exact box_cell w _)
  have hAV : Arr V (w.heap.size + 1) 42 [Value.slice none 0 0] := by rw [hV, ← hUe]; exact Arr.new _ _ _
  have hVs : w.heap.size + 1 < V.heap.size := hAV.lt
  have HV : Hid (V = (w.alloc (.cells #[.slice a G.length cap] 42)).alloc (.cells [Value.slice none 0 0].toArray 42)) := Lib.hid (by rw [hV, hU])
  have HRS := Lib.hid (fun w2 (h : Below V.heap.size V w2) => hr.below (hbV.trans (h.mono hbV.size)))
  have HKC := Lib.hid (fun w2 (h : Below V.heap.size V w2) => (h.cell (p := ⟨w.heap.size, 0, none⟩) (show w.heap.size < V.heap.size by omega)).trans hcV)
  have HAV := Lib.hid hAV
  clear hU hV hUe hbU hbUV hr hAV
  have hS0 : (fun w' => (w'.cell? ⟨w.heap.size, 0, none⟩ = some (.slice a G.length cap) ∧ (∃ u, Arr w' (w.heap.size + 1) 42 [u]) ∧ Below w.heap.size w w')) V.drew := ⟨hcV, ⟨_, HAV.out⟩, hbV.drew⟩
  have HB : Hid (parB G = insB G (frobN G)) := Lib.hid (par_ins G).1
  have HL : Hid (parL G = insL G (frobN G)) := Lib.hid (par_ins G).2
  generalize frobN G = F at *
  generalize insB G F = fb at *
  generalize insL G F = KL at *
  go_enter Try.func32, Try.ntmps32
  go_wp2_with (first | (refine wpList_alloc_arr 42 [Value.slice none 0 0] zeroSg rfl rfl ?_; rw [← HV.out]))
  refine wp_region_held_drew (S := fun w' => (w'.cell? ⟨w.heap.size, 0, none⟩ = some (.slice a G.length cap) ∧ (∃ u, Arr w' (w.heap.size + 1) 42 [u]) ∧ Below w.heap.size w w')) (by kernel_rfl) hS0 (fun hHeld => ?_)
  refine held_take 0 _ _ rfl (by kernel_rfl) (by kernel_rfl) (by kernel_rfl) (fun _ _ _ h => h) (by rfl) hHeld (fun w hSw => by (try dsimp only at hSw); go_simp; try with_reducible rfl) ?_
  (try simp only [Act.put, List.setIfInBounds_toArray, List.set_cons_zero, List.set_cons_succ, List.getElem_toArray, List.getElem_cons_zero])
  refine held_take 1 _ _ rfl (by kernel_rfl) (by kernel_rfl) (by kernel_rfl) (fun _ _ _ h => h) (by rfl) hHeld (fun w hSw => by (try dsimp only at hSw); go_simp; try with_reducible rfl) ?_
  (try simp only [Act.put, List.setIfInBounds_toArray, List.set_cons_zero, List.set_cons_succ, List.getElem_toArray, List.getElem_cons_succ, List.getElem_cons_zero])
  refine wpAnyH_ready (rs := [2]) (by kernel_rfl) (by simp) ?_
  refine AllReadyH.cons rfl (fun K hK => ?_) AllReadyH.nil
  rw [if_pos (by rfl)]
  go_wp2_with (first | (go_at_call 48; (with_reducible refine (c1 _ (HR0.out _ (hHeld).2.2)).mono ?_); rintro e wk ⟨rfl, hbk⟩))
  refine hK.out _ _ (⟨(hbk.cell (p := ⟨w.heap.size, 0, none⟩) (by have := (hHeld).2.1.choose_spec.lt; show w.heap.size < _; omega)).trans (hHeld).1, ⟨_, (hHeld).2.1.choose_spec.below hbk⟩, (hHeld).2.2.trans (hbk.mono (hHeld).2.2.size)⟩) (fun hHeld1 => ?_)
  clear hK K
  (try simp only [Act.put, List.setIfInBounds_toArray, List.set_cons_zero, List.set_cons_succ, List.getElem_toArray, List.getElem_cons_succ, List.getElem_cons_zero])
  refine wpAnyH_ready (rs := [3]) (by kernel_rfl) (by simp) ?_
  refine AllReadyH.cons rfl (fun K hK => ?_) AllReadyH.nil
  rw [if_pos (by rfl)]
  go_wp2_with (first | (go_at_call 47; (with_reducible refine (c2 _ (HR0.out _ (hHeld1).2.2)).mono ?_); rintro e wa ⟨v7, rfl, ho7, hbj⟩; have hlt7 := (hHeld1).2.1.choose_spec.lt; have hA8 := (hHeld1).2.1.choose_spec.below hbj; have hbw8 := (hHeld1).2.2.trans (hbj.mono (hHeld1).2.2.size); have hcs8 := (hbj.cell (p := ⟨w.heap.size, 0, none⟩) (by have := (hHeld1).2.1.choose_spec.lt; show w.heap.size < _; omega)).trans (hHeld1).1; obtain ⟨a9, k9, rfl, -⟩ := row_open ho7))
  refine hK.out _ _ (⟨hcs8, ⟨_, hA8⟩, hbw8⟩) (fun hHeld2 => ?_)
  clear hK K
  (try simp only [Act.put, List.setIfInBounds_toArray, List.set_cons_zero, List.set_cons_succ, List.getElem_toArray, List.getElem_cons_succ, List.getElem_cons_zero])
  refine held_take 4 _ _ rfl (by kernel_rfl) (by kernel_rfl) (by kernel_rfl) (fun _ _ _ h => h) (by rfl) hHeld2 (fun w hSw => by (try dsimp only at hSw); go_simp; try with_reducible rfl) ?_
  (try simp only [Act.put, List.setIfInBounds_toArray, List.set_cons_zero, List.set_cons_succ, List.getElem_toArray, List.getElem_cons_succ, List.getElem_cons_zero])
  refine held_take 5 _ _ rfl (by kernel_rfl) (by kernel_rfl) (by kernel_rfl) (fun _ _ _ h => h) (by rfl) hHeld2 (fun w hSw => by (try dsimp only at hSw); go_simp; try with_reducible rfl) ?_
  (try simp only [Act.put, List.setIfInBounds_toArray, List.set_cons_zero, List.set_cons_succ, List.getElem_toArray, List.getElem_cons_succ, List.getElem_cons_zero])
  refine wpAnyH_ready (rs := [6]) (by kernel_rfl) (by simp) ?_
  refine AllReadyH.cons rfl (fun K hK => ?_) AllReadyH.nil
  rw [if_pos (by rfl)]
  refine wp_store_arrV 42 (.tmp 2) (.tmp 8) (w.heap.size + 1) [_] [Value.slice a9 KL.length k9] (by rfl) (by rfl) (by rfl) hA8 rfl sizeSg (by simp [Value.oneCell']) ?_
  intro w9 hA9 hg9
  refine hK.out _ _ (⟨hg9.cell hcs8 (by simp), ⟨_, hA9⟩, hbw8.grown hg9 hbw8.size (fun k hk => by cases hk; omega)⟩) (fun hHeld3 => ?_)
  clear hK K
  (try simp only [Act.put, List.getElem_toArray, List.getElem_cons_succ, List.getElem_cons_zero])
  refine held_take 7 _ _ rfl (by kernel_rfl) (by kernel_rfl) (by kernel_rfl) (fun _ _ _ h => h) (by rfl) hHeld3 (fun w hSw => by (try dsimp only at hSw); go_simp; try with_reducible rfl) ?_
  (try simp only [Act.put, List.setIfInBounds_toArray, List.set_cons_zero, List.set_cons_succ, List.getElem_toArray, List.getElem_cons_succ, List.getElem_cons_zero])
  refine wpAnyH_done (by kernel_rfl) ?_ _
  go_wp2_with fail
  have hsw8 := hbw8.size
  have hn7 := own_apart ho7 (g := w.heap.size + 1) (.inl (by omega))
  have hb9 := hbw8.grown hg9 hbw8.size (fun k hk => by cases hk; omega)
  exact bodyPost_ret (results_arr_tmp rfl _ _ (w.heap.size + 1) [Value.slice a9 KL.length k9] dS rfl hA9 hdS hrS sizeSg) rfl ⟨_, by rw [HB.out]; rfl, by rw [HL.out]; exact ownsBase (ho7.kept hg9 hn7) (by omega), hb9⟩

end Go.Proofs.Ytekeaigdphicaaa
