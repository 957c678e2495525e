/-
  CONTRACTS of the program's chapter 22: gluingOf. (Own work: mk77i.py.)
-/
import Derived.Test.YtipfonpaaebjjaaGreatI77
namespace Go.Proofs.YtipfonpaaebjjaaGreat
open Go Go.RowKit
attribute [local go_sem] Oper.semAt_some

section
variable {P : Program} {o : Oper} {a : Act} {w : World} {K : Act → World → Prop} {Q : Exit → Act → World → Prop}
theorem wp_build_arrV (t : TypeId) (parts : Array (Nat × Operand)) (cs : List Value) (ho : o.op = .build t parts) (hf : P.built t (parts.map fun (i, x) => (i, a.eval x)).toList = some cs.toArray)
    (h : K (a.put o.dst (.agg cs.toArray)) w) : o.wp P a w K Q := by
  unfold Oper.wp execOp
  simp only [ho, Sem.run_bind, run_build w t _ _ hf, Result.andThen_ok]
  exact h
theorem wp_store_arrV2 (t : TypeId) (x y : Operand) (g : Nat) (old cs : List Value) (ho : o.op = .store t x y) (hx : a.eval x = .pointer (some ⟨g, 0, none⟩)) (hy : a.eval y = .agg cs.toArray) (hc : Arr w g t old) (hl : old.length = cs.length)
    (hi : (P.info? t).map (·.size) = some cs.length) (h1 : ∀ v ∈ cs, v.oneCell' = true)
    (h : ∀ w', Arr w' g t cs → w.grownBy w' (some g) → K (a.put o.dst undef) w') : o.wp P a w K Q := by
  refine wp_store_mid t x y ho g 0 cs.toArray hx hy (by have := hc.there; rw [hl] at this; simpa using this) (by simpa using hi) (all_oneCell_toArray h1) ?_
  obtain ⟨k1, k2⟩ := hc.setCells cs hl
  rw [List.toList_toArray]
  exact h _ k1 k2
end
theorem own_some {w : World} {lo n c : Nat} {a : Option Addr} {L : List Int} (h : w.ownsRow lo 3 1 (.slice a n c) n (L.map (Value.int .i64))) (hn : L ≠ []) : ∃ g, a = some ⟨g, 0, none⟩ := by
  obtain ⟨hx, ⟨e, h0⟩ | ⟨g, cap, cur, e, -⟩⟩ := h
  · exfalso; rw [h0, List.length_map] at hx; exact hn (List.length_eq_zero_iff.1 (by omega))
  · cases e; exact ⟨g, rfl⟩
theorem isSgB_ne {G : List Int} (h : isSgB G = true) : G ≠ [] := by
  rintro rfl
  have := (isSgB_iff.1 h)
  revert h; decide

set_option maxRecDepth 100000 in
set_option maxHeartbeats 3200000 in
theorem impl_gluingOf_no (A B : List Int) (x y : Int) (a : Option Addr) (ca : Nat) (b : Option Addr) (cb : Nat) (w : World) (hra : SlV w a (A.map (Value.int .i64))) (hrb : SlV w b (B.map (Value.int .i64))) (hba : A.length ≤ 1048576) (hbb : B.length ≤ 1048576) (hq : gluQ A B x y = false) :
    Calls Tryz.prog 37 #[.agg #[.slice a A.length ca], .agg #[.slice b B.length cb], .int .i64 x, .int .i64 y] w fun e w' => e = .returned (.tuple #[.agg [Value.slice none 0 0, .slice none 0 0, .int .i64 0, .int .i64 0].toArray, .bool false]) ∧ Below w.heap.size w w' := by
  obtain ⟨dG, hdG, hrG⟩ := undGlu
  obtain ⟨U, hU⟩ : ∃ U, U = ((w.alloc (.cells #[.slice a A.length ca] 26)).alloc (.cells #[.slice b B.length cb] 26)) := ⟨_, rfl⟩
  obtain ⟨V, hV⟩ : ∃ V, V = U.alloc (.cells [Value.slice none 0 0, .slice none 0 0, .int .i64 0, .int .i64 0].toArray 49) := ⟨_, rfl⟩
  have hbU : Below w.heap.size w U := by rw [hU]; exact (box_below _ _).alloc (by simp) _
  have hUe : U.heap.size = w.heap.size + 2 := by rw [hU]; simp
  have hcAU : U.cell? ⟨w.heap.size, 0, none⟩ = some (.slice a A.length ca) := by rw [hU]; exact (World.cell?_alloc_lt _ _ ⟨w.heap.size, 0, none⟩ (by simp)).trans (box_cell w _)
  have hcBU : U.cell? ⟨w.heap.size + 1, 0, none⟩ = some (.slice b B.length cb) := by rw [hU]; have := box_cell (w.alloc (.cells #[.slice a A.length ca] 26)) (.slice b B.length cb); rw [show (w.alloc (.cells #[.slice a A.length ca] 26)).heap.size = w.heap.size + 1 by simp] at this; exact this
  have hbUV : Below U.heap.size U V := by rw [hV]; exact box_below _ _
  have hAV : Arr V (w.heap.size + 2) 49 [Value.slice none 0 0, .slice none 0 0, .int .i64 0, .int .i64 0] := by rw [hV, ← hUe]; exact Arr.new _ _ _
  have hVs : w.heap.size + 2 < V.heap.size := hAV.lt
  have hbV := hbU.trans (hbUV.mono hbU.size)
  have HV : Hid (V = ((w.alloc (.cells #[.slice a A.length ca] 26)).alloc (.cells #[.slice b B.length cb] 26)).alloc (.cells [Value.slice none 0 0, .slice none 0 0, .int .i64 0, .int .i64 0].toArray 49)) := Lib.hid (by rw [hV, hU])
  have HAV := Lib.hid hAV
  have HK0 : Hid (∀ w2, Below (w.heap.size + 2) V w2 → w2.cell? ⟨w.heap.size, 0, none⟩ = some (.slice a A.length ca) ∧ w2.cell? ⟨w.heap.size + 1, 0, none⟩ = some (.slice b B.length cb)) := Lib.hid fun w2 h => ⟨((h.cell (p := ⟨w.heap.size, 0, none⟩) (show w.heap.size < w.heap.size + 2 by omega)).trans (hbUV.cell (p := ⟨w.heap.size, 0, none⟩) (show w.heap.size < U.heap.size by omega))).trans hcAU, ((h.cell (p := ⟨w.heap.size + 1, 0, none⟩) (show w.heap.size + 1 < w.heap.size + 2 by omega)).trans (hbUV.cell (p := ⟨w.heap.size + 1, 0, none⟩) (show w.heap.size + 1 < U.heap.size by omega))).trans hcBU⟩
  have HRA := Lib.hid (fun w2 (h : Below (w.heap.size + 2) V w2) => hra.below (hbV.trans (h.mono (by omega))))
  have HRB := Lib.hid (fun w2 (h : Below (w.heap.size + 2) V w2) => hrb.below (hbV.trans (h.mono (by omega))))
  obtain ⟨hkA, hkB⟩ := HK0.out V (Below.refl _ _)
  have hb0 := Below.refl V.heap.size V
  have c1 := fun w' (h : Below (w.heap.size + 2) V w') => impl_isFactorFor B x b cb w' (HRB.out _ h) hbb
  have c2 := fun w' (h : Below (w.heap.size + 2) V w') => impl_isFactorFor A y a ca w' (HRA.out _ h) hba
  have c3 := fun w' => impl_GcdOf x y w'
  clear hU hV hbU hbUV hcAU hcBU hra hrb hAV
  have hgq : gluQ A B x y = ((inB x 1 60 && hasN B x && !hasB B x) && (inB y 1 60 && hasN A y && !hasB A y) && decide (gcdOf x y = 1)) := rfl
  rw [hgq] at hq
  clear hgq
  generalize (inB x 1 60 && hasN B x && !hasB B x) = q1 at *
  generalize (inB y 1 60 && hasN A y && !hasB A y) = q2 at *
  cases q1
  · go_enter Tryz.func37, Tryz.ntmps37
    go_wp2_with (first | (refine wpList_alloc_arr 49 [Value.slice none 0 0, .slice none 0 0, .int .i64 0, .int .i64 0] zeroGlu rfl rfl ?_; rw [← HV.out]))
    go_wp2_with fail
    refine (c1 _ (hb0.mono (by omega))).mono ?_
    rintro e w1 ⟨rfl, hb1'⟩
    have hb1 := hb0.trans (hb1'.mono hb0.size)
    obtain ⟨hkA1, hkB1⟩ := HK0.out _ (hb1.mono (by omega))
    have hA9' := HAV.out.below hb1
    have hbw9 := hbV.trans (hb1.mono hbV.size)
    go_wp2_with (first | (refine wpList_build_arr 49 _ [Value.slice none 0 0, .slice none 0 0, .int .i64 0, .int .i64 0] rfl rfl builtGl0 ?_) | (refine wpList_store_arr 49 (.tmp 8) (.tmp 26) (w.heap.size + 2) [Value.slice none 0 0, .slice none 0 0, .int .i64 0, .int .i64 0] [Value.slice none 0 0, .slice none 0 0, .int .i64 0, .int .i64 0] rfl rfl rfl rfl hA9' rfl sizeGlu (by simp [Value.oneCell']) ?_; intro w9 hA9 hg9 hz9; clear hz9))
    have hb9 := hbw9.grown hg9 hbw9.size (fun k hk => by cases hk; omega)
    exact bodyPost_ret (results_arr_tmp rfl _ _ (w.heap.size + 2) [Value.slice none 0 0, .slice none 0 0, .int .i64 0, .int .i64 0] dG rfl hA9 hdG hrG sizeGlu) rfl ⟨rfl, hb9⟩
  · cases q2
    · go_enter Tryz.func37, Tryz.ntmps37
      go_wp2_with (first | (refine wpList_alloc_arr 49 [Value.slice none 0 0, .slice none 0 0, .int .i64 0, .int .i64 0] zeroGlu rfl rfl ?_; rw [← HV.out]))
      go_wp2_with fail
      refine (c1 _ (hb0.mono (by omega))).mono ?_
      rintro e w1 ⟨rfl, hb1'⟩
      have hb1 := hb0.trans (hb1'.mono hb0.size)
      obtain ⟨hkA1, hkB1⟩ := HK0.out _ (hb1.mono (by omega))
      go_wp2_with fail
      refine (c2 _ (hb1.mono (by omega))).mono ?_
      rintro e w2 ⟨rfl, hb2'⟩
      have hb2 := hb1.trans (hb2'.mono hb1.size)
      obtain ⟨hkA2, hkB2⟩ := HK0.out _ (hb2.mono (by omega))
      have hA9' := HAV.out.below hb2
      have hbw9 := hbV.trans (hb2.mono hbV.size)
      go_wp2_with (first | (refine wpList_build_arr 49 _ [Value.slice none 0 0, .slice none 0 0, .int .i64 0, .int .i64 0] rfl rfl builtGl0 ?_) | (refine wpList_store_arr 49 (.tmp 8) (.tmp 26) (w.heap.size + 2) [Value.slice none 0 0, .slice none 0 0, .int .i64 0, .int .i64 0] [Value.slice none 0 0, .slice none 0 0, .int .i64 0, .int .i64 0] rfl rfl rfl rfl hA9' rfl sizeGlu (by simp [Value.oneCell']) ?_; intro w9 hA9 hg9 hz9; clear hz9))
      have hb9 := hbw9.grown hg9 hbw9.size (fun k hk => by cases hk; omega)
      exact bodyPost_ret (results_arr_tmp rfl _ _ (w.heap.size + 2) [Value.slice none 0 0, .slice none 0 0, .int .i64 0, .int .i64 0] dG rfl hA9 hdG hrG sizeGlu) rfl ⟨rfl, hb9⟩
    · have hg : ¬ gcdOf x y = 1 := by intro h; rw [h] at hq; cases hq
      have hgb : (gcdOf x y != 1) = true := by rw [bne_iff_ne]; exact hg
      clear hq hg
      generalize gcdOf x y = gg at *
      go_enter Tryz.func37, Tryz.ntmps37
      go_wp2_with (first | (refine wpList_alloc_arr 49 [Value.slice none 0 0, .slice none 0 0, .int .i64 0, .int .i64 0] zeroGlu rfl rfl ?_; rw [← HV.out]))
      go_wp2_with fail
      refine (c1 _ (hb0.mono (by omega))).mono ?_
      rintro e w1 ⟨rfl, hb1'⟩
      have hb1 := hb0.trans (hb1'.mono hb0.size)
      obtain ⟨hkA1, hkB1⟩ := HK0.out _ (hb1.mono (by omega))
      go_wp2_with fail
      refine (c2 _ (hb1.mono (by omega))).mono ?_
      rintro e w2 ⟨rfl, hb2'⟩
      have hb2 := hb1.trans (hb2'.mono hb1.size)
      obtain ⟨hkA2, hkB2⟩ := HK0.out _ (hb2.mono (by omega))
      go_wp2_with fail
      refine (c3 _).mono ?_
      rintro e w3 ⟨rfl, hb3'⟩
      have hb3 := hb2.trans (hb3'.mono hb2.size)
      obtain ⟨hkA3, hkB3⟩ := HK0.out _ (hb3.mono (by omega))
      have hA9' := HAV.out.below hb3
      have hbw9 := hbV.trans (hb3.mono hbV.size)
      go_wp2_with (first | (refine wpList_build_arr 49 _ [Value.slice none 0 0, .slice none 0 0, .int .i64 0, .int .i64 0] rfl rfl builtGl0 ?_) | (refine wpList_store_arr 49 (.tmp 8) (.tmp 26) (w.heap.size + 2) [Value.slice none 0 0, .slice none 0 0, .int .i64 0, .int .i64 0] [Value.slice none 0 0, .slice none 0 0, .int .i64 0, .int .i64 0] rfl rfl rfl rfl hA9' rfl sizeGlu (by simp [Value.oneCell']) ?_; intro w9 hA9 hg9 hz9; clear hz9))
      have hb9 := hbw9.grown hg9 hbw9.size (fun k hk => by cases hk; omega)
      exact bodyPost_ret (results_arr_tmp rfl _ _ (w.heap.size + 2) [Value.slice none 0 0, .slice none 0 0, .int .i64 0, .int .i64 0] dG rfl hA9 hdG hrG sizeGlu) rfl ⟨rfl, hb9⟩

set_option maxRecDepth 100000 in
set_option maxHeartbeats 3200000 in
theorem impl_gluingOf_yes (A B : List Int) (x y : Int) (a : Option Addr) (ca : Nat) (b : Option Addr) (cb : Nat) (w : World) (hra : SlV w a (A.map (Value.int .i64))) (hrb : SlV w b (B.map (Value.int .i64))) (hba : A.length ≤ 1048576) (hbb : B.length ≤ 1048576) (hq : gluQ A B x y = true) :
    Calls Tryz.prog 37 #[.agg #[.slice a A.length ca], .agg #[.slice b B.length cb], .int .i64 x, .int .i64 y] w fun e w' => ∃ ga c4 gb c5, e = .returned (.tuple #[.agg [Value.slice (some ⟨ga, 0, none⟩) A.length c4, .slice (some ⟨gb, 0, none⟩) B.length c5, .int .i64 x, .int .i64 y].toArray, .bool true]) ∧ w'.ownsRow w.heap.size 3 1 (.slice (some ⟨ga, 0, none⟩) A.length c4) A.length (A.map (Value.int .i64)) ∧ w'.ownsRow w.heap.size 3 1 (.slice (some ⟨gb, 0, none⟩) B.length c5) B.length (B.map (Value.int .i64)) ∧ ga ≠ gb ∧ Below w.heap.size w w' := by
  obtain ⟨dG, hdG, hrG⟩ := undGlu
  obtain ⟨U, hU⟩ : ∃ U, U = ((w.alloc (.cells #[.slice a A.length ca] 26)).alloc (.cells #[.slice b B.length cb] 26)) := ⟨_, rfl⟩
  obtain ⟨V, hV⟩ : ∃ V, V = U.alloc (.cells [Value.slice none 0 0, .slice none 0 0, .int .i64 0, .int .i64 0].toArray 49) := ⟨_, rfl⟩
  have hbU : Below w.heap.size w U := by rw [hU]; exact (box_below _ _).alloc (by simp) _
  have hUe : U.heap.size = w.heap.size + 2 := by rw [hU]; simp
  have hcAU : U.cell? ⟨w.heap.size, 0, none⟩ = some (.slice a A.length ca) := by rw [hU]; exact (World.cell?_alloc_lt _ _ ⟨w.heap.size, 0, none⟩ (by simp)).trans (box_cell w _)
  have hcBU : U.cell? ⟨w.heap.size + 1, 0, none⟩ = some (.slice b B.length cb) := by rw [hU]; have := box_cell (w.alloc (.cells #[.slice a A.length ca] 26)) (.slice b B.length cb); rw [show (w.alloc (.cells #[.slice a A.length ca] 26)).heap.size = w.heap.size + 1 by simp] at this; exact this
  have hbUV : Below U.heap.size U V := by rw [hV]; exact box_below _ _
  have hAV : Arr V (w.heap.size + 2) 49 [Value.slice none 0 0, .slice none 0 0, .int .i64 0, .int .i64 0] := by rw [hV, ← hUe]; exact Arr.new _ _ _
  have hVs : w.heap.size + 2 < V.heap.size := hAV.lt
  have hbV := hbU.trans (hbUV.mono hbU.size)
  have HV : Hid (V = ((w.alloc (.cells #[.slice a A.length ca] 26)).alloc (.cells #[.slice b B.length cb] 26)).alloc (.cells [Value.slice none 0 0, .slice none 0 0, .int .i64 0, .int .i64 0].toArray 49)) := Lib.hid (by rw [hV, hU])
  have HAV := Lib.hid hAV
  have HK0 : Hid (∀ w2, Below (w.heap.size + 2) V w2 → w2.cell? ⟨w.heap.size, 0, none⟩ = some (.slice a A.length ca) ∧ w2.cell? ⟨w.heap.size + 1, 0, none⟩ = some (.slice b B.length cb)) := Lib.hid fun w2 h => ⟨((h.cell (p := ⟨w.heap.size, 0, none⟩) (show w.heap.size < w.heap.size + 2 by omega)).trans (hbUV.cell (p := ⟨w.heap.size, 0, none⟩) (show w.heap.size < U.heap.size by omega))).trans hcAU, ((h.cell (p := ⟨w.heap.size + 1, 0, none⟩) (show w.heap.size + 1 < w.heap.size + 2 by omega)).trans (hbUV.cell (p := ⟨w.heap.size + 1, 0, none⟩) (show w.heap.size + 1 < U.heap.size by omega))).trans hcBU⟩
  have HRA := Lib.hid (fun w2 (h : Below (w.heap.size + 2) V w2) => hra.below (hbV.trans (h.mono (by omega))))
  have HRB := Lib.hid (fun w2 (h : Below (w.heap.size + 2) V w2) => hrb.below (hbV.trans (h.mono (by omega))))
  obtain ⟨hkA, hkB⟩ := HK0.out V (Below.refl _ _)
  have hb0 := Below.refl V.heap.size V
  have c1 := fun w' (h : Below (w.heap.size + 2) V w') => impl_isFactorFor B x b cb w' (HRB.out _ h) hbb
  have c2 := fun w' (h : Below (w.heap.size + 2) V w') => impl_isFactorFor A y a ca w' (HRA.out _ h) hba
  have c3 := fun w' => impl_GcdOf x y w'
  clear hU hV hbU hbUV hcAU hcBU hra hrb hAV
  have hgq : gluQ A B x y = ((inB x 1 60 && hasN B x && !hasB B x) && (inB y 1 60 && hasN A y && !hasB A y) && decide (gcdOf x y = 1)) := rfl
  obtain ⟨hsa, hsb, -, -, -⟩ := gluQ_open hq
  have hAn : A ≠ [] := by have := isSgB_ne hsa; exact this
  have hBn : B ≠ [] := by have := isSgB_ne hsb; exact this
  rw [hgq] at hq
  clear hgq
  rw [Bool.and_eq_true, Bool.and_eq_true, decide_eq_true_eq] at hq
  obtain ⟨⟨h1, h2⟩, h3⟩ := hq
  rw [h1] at c1
  rw [h2] at c2
  rw [h3] at c3
  have HK : Hid (∀ w2, Below (w.heap.size + 2) V w2 → w2.cell? ⟨w.heap.size, 0, none⟩ = some (.slice a A.length ca) ∧ w2.cell? ⟨w.heap.size + 1, 0, none⟩ = some (.slice b B.length cb) ∧ Below (w.heap.size + 2) V w2) := Lib.hid fun w2 h => ⟨(HK0.out w2 h).1, (HK0.out w2 h).2, h⟩
  clear hsa hsb h1 h2 h3
  go_enter Tryz.func37, Tryz.ntmps37
  go_wp2_with (first | (refine wpList_alloc_arr 49 [Value.slice none 0 0, .slice none 0 0, .int .i64 0, .int .i64 0] zeroGlu rfl rfl ?_; rw [← HV.out]))
  go_wp2_with fail
  refine (c1 _ (hb0.mono (by omega))).mono ?_
  rintro e w1 ⟨rfl, hb1'⟩
  have hb1 := hb0.trans (hb1'.mono hb0.size)
  obtain ⟨hkA1, hkB1⟩ := HK0.out _ (hb1.mono (by omega))
  go_wp2_with fail
  refine (c2 _ (hb1.mono (by omega))).mono ?_
  rintro e w2 ⟨rfl, hb2'⟩
  have hb2 := hb1.trans (hb2'.mono hb1.size)
  obtain ⟨hkA2, hkB2⟩ := HK0.out _ (hb2.mono (by omega))
  go_wp2_with fail
  refine (c3 _).mono ?_
  rintro e w3 ⟨rfl, hb3'⟩
  have hb3 := hb2.trans (hb3'.mono hb2.size)
  obtain ⟨hkA3, hkB3⟩ := HK0.out _ (hb3.mono (by omega))
  have hS0 := HK.out _ ((hb3.mono (Nat.le_of_lt hVs)).drew)
  have hA8 : Arr w3.drew (w.heap.size + 2) 49 [Value.slice none 0 0, .slice none 0 0, .int .i64 0, .int .i64 0] := (HAV.out.below hb3).drew
  have hzd : V.heap.size ≤ w3.drew.heap.size := hb3.size
  go_wp2_with fail
  refine wp_region_held_drew (S := fun w' => w'.cell? ⟨w.heap.size, 0, none⟩ = some (.slice a A.length ca) ∧ w'.cell? ⟨w.heap.size + 1, 0, none⟩ = some (.slice b B.length cb) ∧ Below (w.heap.size + 2) V w') (by kernel_rfl) hS0 (fun hHeld => ?_)
  generalize w3.drew = wd at *
  refine held_take 0 _ _ rfl (by kernel_rfl) (by kernel_rfl) (by kernel_rfl) (fun _ _ _ h => h) (by rfl) hHeld (fun w hSw => by (try dsimp only at hSw); go_simp; try with_reducible rfl) ?_
  (try simp only [Act.put, List.setIfInBounds_toArray, List.set_cons_zero, List.set_cons_succ, List.getElem_toArray, List.getElem_cons_zero])
  refine held_take 2 _ _ rfl (by kernel_rfl) (by kernel_rfl) (by kernel_rfl) (fun _ _ _ h => h) (by rfl) hHeld (fun w hSw => by (try dsimp only at hSw); go_simp; try with_reducible rfl) ?_
  (try simp only [Act.put, List.setIfInBounds_toArray, List.set_cons_zero, List.set_cons_succ, List.getElem_toArray, List.getElem_cons_succ, List.getElem_cons_zero])
  refine held_take 4 _ _ rfl (by kernel_rfl) (by kernel_rfl) (by kernel_rfl) (fun _ _ _ h => h) (by rfl) hHeld (fun w hSw => by (try dsimp only at hSw); go_simp; try with_reducible rfl) ?_
  (try simp only [Act.put, List.setIfInBounds_toArray, List.set_cons_zero, List.set_cons_succ, List.getElem_toArray, List.getElem_cons_succ, List.getElem_cons_zero])
  refine held_take 5 _ _ rfl (by kernel_rfl) (by kernel_rfl) (by kernel_rfl) (fun _ _ _ h => h) (by rfl) hHeld (fun w hSw => by (try dsimp only at hSw); go_simp; try with_reducible rfl) ?_
  (try simp only [Act.put, List.setIfInBounds_toArray, List.set_cons_zero, List.set_cons_succ, List.getElem_toArray, List.getElem_cons_succ, List.getElem_cons_zero])
  refine wpAnyH_ready (rs := [1]) (by kernel_rfl) (by simp) ?_
  refine AllReadyH.cons rfl (fun K hK => ?_) AllReadyH.nil
  rw [if_pos (by rfl)]
  go_wp2_with (first | (go_at_call 84; (with_reducible refine (impl_copyOf A a ca _ (HRA.out _ (hHeld).2.2) hba).mono ?_); rintro e wA ⟨a4, c4, rfl, hO1, hbA⟩; obtain ⟨ga, rfl⟩ := own_some hO1 hAn; replace hA8 := hA8.below hbA))
  refine hK.out _ _ (HK.out _ ((hHeld).2.2.trans (hbA.mono (Nat.le_trans (Nat.le_of_lt hVs) (hHeld).2.2.size)))) (fun hHeld1 => ?_)
  clear hK K
  (try simp only [Act.put, List.setIfInBounds_toArray, List.set_cons_zero, List.set_cons_succ, List.getElem_toArray, List.getElem_cons_succ, List.getElem_cons_zero])
  refine wpAnyH_ready (rs := [3]) (by kernel_rfl) (by simp) ?_
  refine AllReadyH.cons rfl (fun K hK => ?_) AllReadyH.nil
  rw [if_pos (by rfl)]
  go_wp2_with (first | (go_at_call 84; (with_reducible refine (impl_copyOf B b cb _ (HRB.out _ (hHeld1).2.2) hbb).mono ?_); rintro e wB ⟨a5, c5, rfl, hO2, hbB⟩; obtain ⟨gb, rfl⟩ := own_some hO2 hBn; have hlt1 : ga < wA.heap.size := (hO1.lt ga rfl).2; have hge2 : wA.heap.size ≤ gb := (hO2.lt gb rfl).1; have hge1 : V.heap.size ≤ ga := Nat.le_trans hzd (hO1.lt ga rfl).1; replace hA8 := hA8.below hbB; replace hO1 := owns_below hO1 hbB))
  refine hK.out _ _ (HK.out _ ((hHeld1).2.2.trans (hbB.mono (Nat.le_trans (Nat.le_of_lt hVs) (hHeld1).2.2.size)))) (fun hHeld2 => ?_)
  clear hK K
  (try simp only [Act.put, List.setIfInBounds_toArray, List.set_cons_zero, List.set_cons_succ, List.getElem_toArray, List.getElem_cons_succ, List.getElem_cons_zero])
  refine wpAnyH_ready (rs := [6]) (by kernel_rfl) (by simp) ?_
  refine AllReadyH.cons rfl (fun K hK => ?_) AllReadyH.nil
  rw [if_pos (by rfl)]
  refine wp_build_arrV 49 _ [Value.slice (some ⟨ga, 0, none⟩) A.length c4, .slice (some ⟨gb, 0, none⟩) B.length c5, .int .i64 x, .int .i64 y] (by rfl) (by kernel_rfl) ?_
  refine hK.out _ _ (hHeld2) (fun hHeld3 => ?_)
  clear hK K
  (try simp only [Act.put, List.setIfInBounds_toArray, List.set_cons_zero, List.set_cons_succ, List.getElem_toArray, List.getElem_cons_succ, List.getElem_cons_zero])
  refine wpAnyH_ready (rs := [7]) (by kernel_rfl) (by simp) ?_
  refine AllReadyH.cons rfl (fun K hK => ?_) AllReadyH.nil
  rw [if_pos (by rfl)]
  refine wp_store_arrV2 49 (.tmp 8) (.tmp 33) (w.heap.size + 2) [Value.slice none 0 0, .slice none 0 0, .int .i64 0, .int .i64 0] [Value.slice (some ⟨ga, 0, none⟩) A.length c4, .slice (some ⟨gb, 0, none⟩) B.length c5, .int .i64 x, .int .i64 y] (by rfl) (by rfl) (by rfl) hA8 rfl sizeGlu (by simp [Value.oneCell']) ?_
  intro wS hN7 hg7
  refine hK.out _ _ (HK.out _ ((hHeld3).2.2.grown hg7 (Nat.le_trans (Nat.le_of_lt hVs) (hHeld3).2.2.size) (fun k hk => by cases hk; exact Nat.le_refl _))) (fun hHeld4 => ?_)
  clear hK K
  (try simp only [Act.put, List.getElem_toArray, List.getElem_cons_succ, List.getElem_cons_zero])
  refine held_take 8 _ _ rfl (by kernel_rfl) (by kernel_rfl) (by kernel_rfl) (fun _ _ _ h => h) (by rfl) hHeld4 (fun w hSw => by (try dsimp only at hSw); go_simp; try with_reducible rfl) ?_
  (try simp only [Act.put, List.setIfInBounds_toArray, List.set_cons_zero, List.set_cons_succ, List.getElem_toArray, List.getElem_cons_succ, List.getElem_cons_zero])
  refine wpAnyH_done (by kernel_rfl) ?_ _
  have hbF := hbV.trans ((hHeld4).2.2.mono (by omega))
  clear hS0 hHeld4
  go_wp2_with fail
  have hO1' := hO1.kept hg7 (.inr (by simp [Value.ownBlock]; omega))
  have hO2' := hO2.kept hg7 (.inr (by simp [Value.ownBlock]; omega))
  exact bodyPost_ret (results_arr_tmp rfl _ _ (w.heap.size + 2) [Value.slice (some ⟨ga, 0, none⟩) A.length c4, .slice (some ⟨gb, 0, none⟩) B.length c5, .int .i64 x, .int .i64 y] dG rfl hN7 hdG hrG sizeGlu) rfl ⟨ga, c4, gb, c5, rfl, ownsBase hO1' (Nat.le_trans hbV.size hzd), ownsBase hO2' (Nat.le_trans hbV.size (Nat.le_trans (Nat.le_of_lt (Nat.lt_of_le_of_lt hge1 hlt1)) (Nat.le_refl _))), by omega, hbF⟩
end Go.Proofs.YtipfonpaaebjjaaGreat
