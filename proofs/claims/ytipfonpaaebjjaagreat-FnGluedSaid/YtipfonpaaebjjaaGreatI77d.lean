/-
  CONTRACTS of the program's chapter 22: GlueOf, GlueFrobenius. (Own work: mk77j.py.)
-/
import Derived.Test.YtipfonpaaebjjaaGreatI77c
import Derived.Test.YtipfonpaaebjjaaGreatSgId
import Derived.Deep.Cut
namespace Go.Proofs.YtipfonpaaebjjaaGreat
open Go Go.RowKit
attribute [local go_sem] Oper.semAt_some
theorem mul_bnd7 {x f : Int} (hx : 1 ≤ x ∧ x ≤ 60) (hf : -1 ≤ f ∧ f ≤ 199) : -60 ≤ x * f ∧ x * f ≤ 11940 := by
  have h1 := Int.mul_le_mul_of_nonneg_left hf.2 (show 0 ≤ x by omega)
  have h2 := Int.mul_le_mul_of_nonneg_left hf.1 (show 0 ≤ x by omega)
  omega

set_option maxRecDepth 100000 in
set_option maxHeartbeats 3200000 in
theorem impl_GlueOf (A B : List Int) (x y : Int) (a : Option Addr) (ca : Nat) (b : Option Addr) (cb : Nat) (w : World) (hra : SlV w a (A.map (Value.int .i64))) (hrb : SlV w b (B.map (Value.int .i64))) (hba : A.length ≤ 1048576) (hbb : B.length ≤ 1048576) :
    Calls Tryz.prog 7 #[.agg #[.slice a A.length ca], .agg #[.slice b B.length cb], .int .i64 x, .int .i64 y] w (SgPost (gluL A B x y) (gluB A B x y) w) := by
  obtain ⟨dG, hdG, hrG⟩ := undGlu
  obtain ⟨dS, hdS, hrS⟩ := undSg
  obtain ⟨U, hU⟩ : ∃ U, U = ((w.alloc (.cells #[.slice a A.length ca] 26)).alloc (.cells #[.slice b B.length cb] 26)) := ⟨_, rfl⟩
  obtain ⟨V, hV⟩ : ∃ V, V = U.alloc (.cells [Value.slice none 0 0].toArray 26) := ⟨_, rfl⟩
  have hbU : Below w.heap.size w U := by rw [hU]; exact (box_below _ _).alloc (by simp) _
  have hUe : U.heap.size = w.heap.size + 2 := by rw [hU]; simp
  have hcAU : U.cell? ⟨w.heap.size, 0, none⟩ = some (.slice a A.length ca) := by rw [hU]; exact (World.cell?_alloc_lt _ _ ⟨w.heap.size, 0, none⟩ (by simp)).trans (box_cell w _)
  have hcBU : U.cell? ⟨w.heap.size + 1, 0, none⟩ = some (.slice b B.length cb) := by rw [hU]; have := box_cell (w.alloc (.cells #[.slice a A.length ca] 26)) (.slice b B.length cb); rw [show (w.alloc (.cells #[.slice a A.length ca] 26)).heap.size = w.heap.size + 1 by simp] at this; exact this
  have hbUV : Below U.heap.size U V := by rw [hV]; exact box_below _ _
  have hAV : Arr V (w.heap.size + 2) 26 [Value.slice none 0 0] := by rw [hV, ← hUe]; exact Arr.new _ _ _
  have hVs : w.heap.size + 2 < V.heap.size := hAV.lt
  have hbV := hbU.trans (hbUV.mono hbU.size)
  have HV : Hid (V = ((w.alloc (.cells #[.slice a A.length ca] 26)).alloc (.cells #[.slice b B.length cb] 26)).alloc (.cells [Value.slice none 0 0].toArray 26)) := Lib.hid (by rw [hV, hU])
  have HAV := Lib.hid hAV
  have HK0 : Hid (∀ w2, Below (w.heap.size + 2) V w2 → w2.cell? ⟨w.heap.size, 0, none⟩ = some (.slice a A.length ca) ∧ w2.cell? ⟨w.heap.size + 1, 0, none⟩ = some (.slice b B.length cb)) := Lib.hid fun w2 h => ⟨((h.cell (p := ⟨w.heap.size, 0, none⟩) (show w.heap.size < w.heap.size + 2 by omega)).trans (hbUV.cell (p := ⟨w.heap.size, 0, none⟩) (show w.heap.size < U.heap.size by omega))).trans hcAU, ((h.cell (p := ⟨w.heap.size + 1, 0, none⟩) (show w.heap.size + 1 < w.heap.size + 2 by omega)).trans (hbUV.cell (p := ⟨w.heap.size + 1, 0, none⟩) (show w.heap.size + 1 < U.heap.size by omega))).trans hcBU⟩
  have HRA := Lib.hid (fun w2 (h : Below (w.heap.size + 2) V w2) => hra.below (hbV.trans (h.mono (by omega))))
  have HRB := Lib.hid (fun w2 (h : Below (w.heap.size + 2) V w2) => hrb.below (hbV.trans (h.mono (by omega))))
  obtain ⟨hkA, hkB⟩ := HK0.out V (Below.refl _ _)
  clear hU hV hbU hbUV hcAU hcBU hra hrb hAV
  cases hq : gluQ A B x y
  · have HB : Hid (gluB A B x y = false) := Lib.hid (by unfold gluB; rw [hq]; rfl)
    have HL : Hid (gluL A B x y = []) := Lib.hid (by unfold gluL; rw [hq]; rfl)
    have cN := impl_gluingOf_no A B x y a ca b cb V (HRA.out _ (Below.refl _ _)) (HRB.out _ (Below.refl _ _)) hba hbb hq
    clear hq
    go_enter Tryz.func7, Tryz.ntmps7
    go_wp2_with (first | (refine wpList_alloc_arr 26 [Value.slice none 0 0] zeroSg rfl rfl ?_; rw [← HV.out]))
    go_wp2_with fail
    refine cN.mono ?_
    rintro e w1 ⟨rfl, hb1⟩
    clear cN hkA hkB
    have hz1 := hb1.size
    go_wp2_with (first | (refine wpList_alloc_arr 49 [Value.slice none 0 0, .slice none 0 0, .int .i64 0, .int .i64 0] zeroGlu rfl rfl ?_) | (refine wpList_store_arr 49 (.tmp 10) (.tmp 18) w1.heap.size [Value.slice none 0 0, .slice none 0 0, .int .i64 0, .int .i64 0] [Value.slice none 0 0, .slice none 0 0, .int .i64 0, .int .i64 0] rfl rfl rfl rfl (Arr.new w1 49 [Value.slice none 0 0, .slice none 0 0, .int .i64 0, .int .i64 0]) rfl sizeGlu (by simp [Value.oneCell']) ?_; intro w2 hN2 hg2 hz2; clear hz2; have hb2 := (hb1.trans ((box_below w1 (.cells [Value.slice none 0 0, .slice none 0 0, .int .i64 0, .int .i64 0].toArray 49)).mono hb1.size)).grown hg2 (by simp; omega) (fun k hk => by cases hk; exact hb1.size); have hA9' := HAV.out.below hb2; have hbw9 := hbV.trans (hb2.mono hbV.size)) | (refine wpList_store_arr 26 (.tmp 8) (.tmp 22) (w.heap.size + 2) [Value.slice none 0 0] [Value.slice none 0 0] rfl rfl rfl rfl hA9' rfl sizeSg (by simp [Value.oneCell']) ?_; intro w9 hA9 hg9 hz9; clear hz9))
    have hb9 := hbw9.grown hg9 hbw9.size (fun k hk => by cases hk; omega)
    exact bodyPost_ret (results_arr_tmp rfl _ _ (w.heap.size + 2) [Value.slice none 0 0] dS rfl hA9 hdS hrS sizeSg) rfl ⟨_, by rw [HB.out]; rfl, by rw [HL.out]; exact World.ownsRow_nil _ _ _ _, hb9⟩
  · have HQ := Lib.hid hq
    obtain ⟨hsa, hsb, hx, hy, -⟩ := gluQ_open hq
    have hAn := isSgB_ne hsa
    have hBn := isSgB_ne hsb
    have hlA := (isSgB_iff.1 hsa).len
    have hlB := (isSgB_iff.1 hsb).len
    have HBA := Lib.hid (isSgB_iff.1 hsa).bounds
    have HBB := Lib.hid (isSgB_iff.1 hsb).bounds
    have HB : Hid (gluB A B x y = fromB (timesL A x ++ timesL B y)) := Lib.hid (by unfold gluB; rw [hq]; rfl)
    have HL : Hid (gluL A B x y = fromL (timesL A x ++ timesL B y)) := Lib.hid (by unfold gluL; rw [hq]; rfl)
    clear hsa hsb
    have cY := impl_gluingOf_yes A B x y a ca b cb V (HRA.out _ (Below.refl _ _)) (HRB.out _ (Below.refl _ _)) hba hbb hq
    clear hq
    go_enter Tryz.func7, Tryz.ntmps7
    go_wp2_with (first | (refine wpList_alloc_arr 26 [Value.slice none 0 0] zeroSg rfl rfl ?_; rw [← HV.out]))
    go_wp2_with fail
    refine cY.mono ?_
    rintro e w1 ⟨ga, c4, gb, c5, rfl, hO1, hO2, hne, hb1⟩
    clear cY hkA hkB
    have hz1 := hb1.size
    go_wp2_with (first | (refine wpList_alloc_arr 49 [Value.slice none 0 0, .slice none 0 0, .int .i64 0, .int .i64 0] zeroGlu rfl rfl ?_) | (refine wpList_store_arr 49 (.tmp 10) (.tmp 18) w1.heap.size [Value.slice none 0 0, .slice none 0 0, .int .i64 0, .int .i64 0] [Value.slice (some ⟨ga, 0, none⟩) A.length c4, .slice (some ⟨gb, 0, none⟩) B.length c5, .int .i64 x, .int .i64 y] rfl rfl rfl rfl (Arr.new w1 49 [Value.slice none 0 0, .slice none 0 0, .int .i64 0, .int .i64 0]) rfl sizeGlu (by simp [Value.oneCell']) ?_; intro w2 hN2 hg2 hz2; clear hz2; have hb2 := (hb1.trans ((box_below w1 (.cells [Value.slice none 0 0, .slice none 0 0, .int .i64 0, .int .i64 0].toArray 49)).mono hb1.size)).grown hg2 (by simp; omega) (fun k hk => by cases hk; exact hb1.size); have hb12 := (box_below w1 (.cells [Value.slice none 0 0, .slice none 0 0, .int .i64 0, .int .i64 0].toArray 49)).grown hg2 (by simp) (fun k hk => by cases hk; exact Nat.le_refl _)) | (refine wpList_load_arr 49 (.tmp 10) w1.heap.size [Value.slice (some ⟨ga, 0, none⟩) A.length c4, .slice (some ⟨gb, 0, none⟩) B.length c5, .int .i64 x, .int .i64 y] dG rfl rfl rfl hN2 hdG hrG sizeGlu ?_))
    have hO1' := owns_below hO1 hb12
    have hO2' := owns_below hO2 hb12
    have hz12 := hN2.lt
    refine (impl_gluSg A B x y V.heap.size ga c4 gb c5 w2 hO1' hO2' hne HBA.out HBB.out hx hy hlA hlB hAn hBn).mono ?_
    rintro e w3 ⟨v3, rfl, ho3, hoA3, hoB3, hb3, hfr⟩
    obtain ⟨a3, k3, rfl, -⟩ := row_open ho3
    have hb3V := hb2.trans hb3
    have hla := (hO1.lt ga rfl).2
    have hlb := (hO2.lt gb rfl).2
    clear hO1 hO2 hO1' hO2' hb12
    have hA8 := HAV.out.below hb3V
    have hbw8 := hbV.trans (hb3V.mono hbV.size)
    have hz3 := hb2.size
    have hn7 := own_apart ho3 (g := w.heap.size + 2) (.inl (by omega))
    clear hoA3 hoB3
    generalize fromB (timesL A x ++ timesL B y) = fb at *
    generalize fromL (timesL A x ++ timesL B y) = K at *
    go_wp2_with (first | (refine wpList_store_arr 26 (.tmp 8) (.tmp 25) (w.heap.size + 2) [Value.slice none 0 0] [Value.slice a3 K.length k3] rfl rfl rfl rfl hA8 rfl sizeSg (by simp [Value.oneCell']) ?_; intro w9 hA9 hg9 hz9; clear hz9))
    have hb9 := hbw8.grown hg9 hbw8.size (fun k hk => by cases hk; omega)
    exact bodyPost_ret (results_arr_tmp rfl _ _ (w.heap.size + 2) [Value.slice a3 K.length k3] dS rfl hA9 hdS hrS sizeSg) rfl ⟨_, by rw [HB.out]; rfl, by rw [HL.out]; exact ownsBase (ho3.kept hg9 hn7) (by omega), hb9⟩

set_option maxRecDepth 100000 in
set_option maxHeartbeats 3200000 in
theorem impl_GlueFrobenius (A B : List Int) (x y : Int) (a : Option Addr) (ca : Nat) (b : Option Addr) (cb : Nat) (w : World) (hra : SlV w a (A.map (Value.int .i64))) (hrb : SlV w b (B.map (Value.int .i64))) (hba : A.length ≤ 1048576) (hbb : B.length ≤ 1048576) :
    Calls Tryz.prog 9 #[.agg #[.slice a A.length ca], .agg #[.slice b B.length cb], .int .i64 x, .int .i64 y] w fun e w' => e = .returned (.int .i64 (gluN A B x y)) ∧ Below w.heap.size w w' := by
  obtain ⟨dG, hdG, hrG⟩ := undGlu
  obtain ⟨U, hU⟩ : ∃ U, U = ((w.alloc (.cells #[.slice a A.length ca] 26)).alloc (.cells #[.slice b B.length cb] 26)) := ⟨_, rfl⟩
  obtain ⟨V, hV⟩ : ∃ V, V = U := ⟨_, rfl⟩
  have hbU : Below w.heap.size w U := by rw [hU]; exact (box_below _ _).alloc (by simp) _
  have hUe : U.heap.size = w.heap.size + 2 := by rw [hU]; simp
  have hcAU : U.cell? ⟨w.heap.size, 0, none⟩ = some (.slice a A.length ca) := by rw [hU]; exact (World.cell?_alloc_lt _ _ ⟨w.heap.size, 0, none⟩ (by simp)).trans (box_cell w _)
  have hcBU : U.cell? ⟨w.heap.size + 1, 0, none⟩ = some (.slice b B.length cb) := by rw [hU]; have := box_cell (w.alloc (.cells #[.slice a A.length ca] 26)) (.slice b B.length cb); rw [show (w.alloc (.cells #[.slice a A.length ca] 26)).heap.size = w.heap.size + 1 by simp] at this; exact this
  have hbUV : Below U.heap.size U V := by rw [hV]; exact Below.refl _ _
  have hVs : w.heap.size + 2 ≤ V.heap.size := by rw [hV, hUe]; exact Nat.le_refl _
  have hbV := hbU.trans (hbUV.mono hbU.size)
  have HV : Hid (V = ((w.alloc (.cells #[.slice a A.length ca] 26)).alloc (.cells #[.slice b B.length cb] 26))) := Lib.hid (by rw [hV, hU])
  have HK0 : Hid (∀ w2, Below (w.heap.size + 2) V w2 → w2.cell? ⟨w.heap.size, 0, none⟩ = some (.slice a A.length ca) ∧ w2.cell? ⟨w.heap.size + 1, 0, none⟩ = some (.slice b B.length cb)) := Lib.hid fun w2 h => ⟨((h.cell (p := ⟨w.heap.size, 0, none⟩) (show w.heap.size < w.heap.size + 2 by omega)).trans (hbUV.cell (p := ⟨w.heap.size, 0, none⟩) (show w.heap.size < U.heap.size by omega))).trans hcAU, ((h.cell (p := ⟨w.heap.size + 1, 0, none⟩) (show w.heap.size + 1 < w.heap.size + 2 by omega)).trans (hbUV.cell (p := ⟨w.heap.size + 1, 0, none⟩) (show w.heap.size + 1 < U.heap.size by omega))).trans hcBU⟩
  have HRA := Lib.hid (fun w2 (h : Below (w.heap.size + 2) V w2) => hra.below (hbV.trans (h.mono (by omega))))
  have HRB := Lib.hid (fun w2 (h : Below (w.heap.size + 2) V w2) => hrb.below (hbV.trans (h.mono (by omega))))
  obtain ⟨hkA, hkB⟩ := HK0.out V (Below.refl _ _)
  clear hU hV hbU hbUV hcAU hcBU hra hrb
  cases hq : gluQ A B x y
  · have HB : Hid (gluN A B x y = -1) := Lib.hid (by unfold gluN gluB; rw [hq]; rfl)
    have cN := impl_gluingOf_no A B x y a ca b cb V (HRA.out _ (Below.refl _ _)) (HRB.out _ (Below.refl _ _)) hba hbb hq
    clear hq
    go_enter Tryz.func9, Tryz.ntmps9
    go_upto_region 1 with fail
    rw [← HV.out]
    go_wp2_with fail
    refine cN.mono ?_
    rintro e w1 ⟨rfl, hb1⟩
    clear cN hkA hkB
    have hz1 := hb1.size
    go_wp2_with (first | (refine wpList_alloc_arr 49 [Value.slice none 0 0, .slice none 0 0, .int .i64 0, .int .i64 0] zeroGlu rfl rfl ?_) | (refine wpList_store_arr 49 (.tmp 9) (.tmp 19) w1.heap.size [Value.slice none 0 0, .slice none 0 0, .int .i64 0, .int .i64 0] [Value.slice none 0 0, .slice none 0 0, .int .i64 0, .int .i64 0] rfl rfl rfl rfl (Arr.new w1 49 [Value.slice none 0 0, .slice none 0 0, .int .i64 0, .int .i64 0]) rfl sizeGlu (by simp [Value.oneCell']) ?_; intro w2 hN2 hg2 hz2; clear hz2; have hb2 := (hb1.trans ((box_below w1 (.cells [Value.slice none 0 0, .slice none 0 0, .int .i64 0, .int .i64 0].toArray 49)).mono hb1.size)).grown hg2 (by simp; omega) (fun k hk => by cases hk; exact hb1.size)))
    go_ret
    exact ⟨by rw [HB.out]; rfl, hbV.trans (hb2.mono hbV.size)⟩
  · have HQ := Lib.hid hq
    obtain ⟨hsa, hsb, hx, hy, -⟩ := gluQ_open hq
    have hAn := isSgB_ne hsa
    have hBn := isSgB_ne hsb
    have hlA := (isSgB_iff.1 hsa).len
    have hlB := (isSgB_iff.1 hsb).len
    have HBA := Lib.hid (isSgB_iff.1 hsa).bounds
    have HBB := Lib.hid (isSgB_iff.1 hsb).bounds
    have hfa : -1 ≤ frobN A ∧ frobN A ≤ 199 := by have := frob_cond hsa; have := condNat_le A; omega
    have hfb : -1 ≤ frobN B ∧ frobN B ≤ 199 := by have := frob_cond hsb; have := condNat_le B; omega
    have HN : Hid (gluN A B x y = if fromB (timesL A x ++ timesL B y) then x * frobN A + y * frobN B + x * y else -1) := Lib.hid (by unfold gluN gluB; rw [hq, Bool.true_and])
    clear hsa hsb
    have cY := impl_gluingOf_yes A B x y a ca b cb V (HRA.out _ (Below.refl _ _)) (HRB.out _ (Below.refl _ _)) hba hbb hq
    clear hq
    go_enter Tryz.func9, Tryz.ntmps9
    go_upto_region 1 with fail
    rw [← HV.out]
    go_wp2_with fail
    refine cY.mono ?_
    rintro e w1 ⟨ga, c4, gb, c5, rfl, hO1, hO2, hne, hb1⟩
    clear cY hkA hkB
    have hz1 := hb1.size
    go_wp2_with (first | (refine wpList_alloc_arr 49 [Value.slice none 0 0, .slice none 0 0, .int .i64 0, .int .i64 0] zeroGlu rfl rfl ?_) | (refine wpList_store_arr 49 (.tmp 9) (.tmp 19) w1.heap.size [Value.slice none 0 0, .slice none 0 0, .int .i64 0, .int .i64 0] [Value.slice (some ⟨ga, 0, none⟩) A.length c4, .slice (some ⟨gb, 0, none⟩) B.length c5, .int .i64 x, .int .i64 y] rfl rfl rfl rfl (Arr.new w1 49 [Value.slice none 0 0, .slice none 0 0, .int .i64 0, .int .i64 0]) rfl sizeGlu (by simp [Value.oneCell']) ?_; intro w2 hN2 hg2 hz2; clear hz2; have hb2 := (hb1.trans ((box_below w1 (.cells [Value.slice none 0 0, .slice none 0 0, .int .i64 0, .int .i64 0].toArray 49)).mono hb1.size)).grown hg2 (by simp; omega) (fun k hk => by cases hk; exact hb1.size); have hb12 := (box_below w1 (.cells [Value.slice none 0 0, .slice none 0 0, .int .i64 0, .int .i64 0].toArray 49)).grown hg2 (by simp) (fun k hk => by cases hk; exact Nat.le_refl _)) | (refine wpList_load_arr 49 (.tmp 9) w1.heap.size [Value.slice (some ⟨ga, 0, none⟩) A.length c4, .slice (some ⟨gb, 0, none⟩) B.length c5, .int .i64 x, .int .i64 y] dG rfl rfl rfl hN2 hdG hrG sizeGlu ?_))
    have hO1' := owns_below hO1 hb12
    have hO2' := owns_below hO2 hb12
    have hz12 := hN2.lt
    refine (impl_gluSg A B x y V.heap.size ga c4 gb c5 w2 hO1' hO2' hne HBA.out HBB.out hx hy hlA hlB hAn hBn).mono ?_
    rintro e w3 ⟨v3, rfl, ho3, hoA3, hoB3, hb3, hfr⟩
    obtain ⟨a3, k3, rfl, -⟩ := row_open ho3
    have hb3V := hb2.trans hb3
    have hla := (hO1.lt ga rfl).2
    have hlb := (hO2.lt gb rfl).2
    clear hO1 hO2 hO1' hO2' hb12
    have hz3 := hb2.size
    have hz4 := hb3.size
    have hG3 : Arr w3 w1.heap.size 49 [Value.slice (some ⟨ga, 0, none⟩) A.length c4, .slice (some ⟨gb, 0, none⟩) B.length c5, .int .i64 x, .int .i64 y] := (hfr w1.heap.size hN2.lt (by omega) (by omega)).trans hN2
    generalize hfb : fromB (timesL A x ++ timesL B y) = fb at *
    generalize fromL (timesL A x ++ timesL B y) = K at *
    clear hfr hfb
    cases fb
    · go_wp2_with (first | (refine wpList_alloc_arr 26 [Value.slice none 0 0] zeroSg rfl rfl ?_) | (refine wpList_store_arr 26 (.tmp 11) (.tmp 26) w3.heap.size [Value.slice none 0 0] [Value.slice a3 K.length k3] rfl rfl rfl rfl (Arr.new w3 26 [Value.slice none 0 0]) rfl sizeSg (by simp [Value.oneCell']) ?_; intro w5 hN5 hg5 hz5; clear hz5; have hb35 := (box_below w3 (.cells [Value.slice none 0 0].toArray 26)).grown hg5 (by simp) (fun k hk => by cases hk; exact Nat.le_refl _)))
      go_ret
      exact ⟨by rw [HN.out]; rfl, hbV.trans ((hb3V.trans (hb35.mono (by omega))).mono hbV.size)⟩
    · go_wp2_with (first | (refine wpList_alloc_arr 26 [Value.slice none 0 0] zeroSg rfl rfl ?_) | (refine wpList_store_arr 26 (.tmp 11) (.tmp 26) w3.heap.size [Value.slice none 0 0] [Value.slice a3 K.length k3] rfl rfl rfl rfl (Arr.new w3 26 [Value.slice none 0 0]) rfl sizeSg (by simp [Value.oneCell']) ?_; intro w5 hN5 hg5 hz5; clear hz5; have hb35 := (box_below w3 (.cells [Value.slice none 0 0].toArray 26)).grown hg5 (by simp) (fun k hk => by cases hk; exact Nat.le_refl _)))
      have hG5 := hG3.below hb35
      have hsA := own_slvG2 (owns_below hoA3 hb35)
      have hsB := own_slvG2 (owns_below hoB3 hb35)
      have HK := Lib.hid (fun w2 (h : Below w5.heap.size w5 w2) => And.intro (((hG5.below h).cell 0)) (And.intro ((hG5.below h).cell 1) (And.intro ((hG5.below h).cell 2) ((hG5.below h).cell 3))))
      have HSA := Lib.hid (fun w2 (h : Below w5.heap.size w5 w2) => hsA.below h)
      have HSB := Lib.hid (fun w2 (h : Below w5.heap.size w5 w2) => hsB.below h)
      have hpa := mul_bnd7 hx hfa
      have hpb := mul_bnd7 hy hfb
      have hpc := prod_bnd hx hy
      generalize hFA : frobN A = fA at *
      generalize hFB : frobN B = fB at *
      have cA := fun w' (h : Below w5.heap.size w5 w') => impl_FrobeniusOf A (some ⟨ga, 0, none⟩) c4 w' (HSA.out _ h) (by omega)
      have cB := fun w' (h : Below w5.heap.size w5 w') => impl_FrobeniusOf B (some ⟨gb, 0, none⟩) c5 w' (HSB.out _ h) (by omega)
      rw [hFA] at cA
      rw [hFB] at cB
      clear hFA hFB
      have hw1 : IntKind.i64.wrap (x * fA) = x * fA := IntWalk.i64_in _ (by omega)
      have hw2 : IntKind.i64.wrap (y * fB) = y * fB := IntWalk.i64_in _ (by omega)
      have hw3 : IntKind.i64.wrap (x * fA + y * fB) = x * fA + y * fB := IntWalk.i64_in _ (by omega)
      have hw4 : IntKind.i64.wrap (x * y) = x * y := IntWalk.i64_in _ (by omega)
      have hw5 : IntKind.i64.wrap (x * fA + y * fB + x * y) = x * fA + y * fB + x * y := IntWalk.i64_in _ (by omega)
      have HK2 : Hid (∀ w2, Below w5.heap.size w5 w2 → w2.cell? ⟨w1.heap.size, 0, none⟩ = some (.slice (some ⟨ga, 0, none⟩) A.length c4) ∧ w2.cell? ⟨w1.heap.size, 1, none⟩ = some (.slice (some ⟨gb, 0, none⟩) B.length c5) ∧ w2.cell? ⟨w1.heap.size, 2, none⟩ = some (.int .i64 x) ∧ w2.cell? ⟨w1.heap.size, 3, none⟩ = some (.int .i64 y) ∧ Below w5.heap.size w5 w2) := Lib.hid fun w2 h => ⟨(HK.out _ h).1, (HK.out _ h).2.1, (HK.out _ h).2.2.1, (HK.out _ h).2.2.2, h⟩
      have hS0 := HK2.out _ (Below.refl w5.heap.size w5).drew
      have hb05 := hb3V.trans (hb35.mono (by omega))
      have hz05 := hb05.size
      clear hG3 hN5 hg5 hG5 hN2 hg2 hoA3 hoB3 ho3 HK HBA HBB hsA hsB hb35 hb3
      refine wp_region_held_drew (S := fun w' => w'.cell? ⟨w1.heap.size, 0, none⟩ = some (.slice (some ⟨ga, 0, none⟩) A.length c4) ∧ w'.cell? ⟨w1.heap.size, 1, none⟩ = some (.slice (some ⟨gb, 0, none⟩) B.length c5) ∧ w'.cell? ⟨w1.heap.size, 2, none⟩ = some (.int .i64 x) ∧ w'.cell? ⟨w1.heap.size, 3, none⟩ = some (.int .i64 y) ∧ Below w5.heap.size w5 w') (by kernel_rfl) hS0 (fun hHeld => ?_)
      refine held_take 0 _ _ rfl (by kernel_rfl) (by kernel_rfl) (by kernel_rfl) (fun _ _ _ h => h) (by rfl) hHeld (fun w hSw => by (try dsimp only at hSw); go_simp; try with_reducible rfl) ?_
      (try simp only [Act.put, List.setIfInBounds_toArray, List.set_cons_zero, List.set_cons_succ, List.getElem_toArray, List.getElem_cons_zero])
      refine held_take 1 _ _ rfl (by kernel_rfl) (by kernel_rfl) (by kernel_rfl) (fun _ _ _ h => h) (by rfl) hHeld (fun w hSw => by (try dsimp only at hSw); go_simp; try with_reducible rfl) ?_
      (try simp only [Act.put, List.setIfInBounds_toArray, List.set_cons_zero, List.set_cons_succ, List.getElem_toArray, List.getElem_cons_succ, List.getElem_cons_zero])
      refine held_take 2 _ _ rfl (by kernel_rfl) (by kernel_rfl) (by kernel_rfl) (fun _ _ _ h => h) (by rfl) hHeld (fun w hSw => by (try dsimp only at hSw); go_simp; try with_reducible rfl) ?_
      (try simp only [Act.put, List.setIfInBounds_toArray, List.set_cons_zero, List.set_cons_succ, List.getElem_toArray, List.getElem_cons_succ, List.getElem_cons_zero])
      refine held_take 3 _ _ rfl (by kernel_rfl) (by kernel_rfl) (by kernel_rfl) (fun _ _ _ h => h) (by rfl) hHeld (fun w hSw => by (try dsimp only at hSw); go_simp; try with_reducible rfl) ?_
      (try simp only [Act.put, List.setIfInBounds_toArray, List.set_cons_zero, List.set_cons_succ, List.getElem_toArray, List.getElem_cons_succ, List.getElem_cons_zero])
      refine held_take 6 _ _ rfl (by kernel_rfl) (by kernel_rfl) (by kernel_rfl) (fun _ _ _ h => h) (by rfl) hHeld (fun w hSw => by (try dsimp only at hSw); go_simp; try with_reducible rfl) ?_
      (try simp only [Act.put, List.setIfInBounds_toArray, List.set_cons_zero, List.set_cons_succ, List.getElem_toArray, List.getElem_cons_succ, List.getElem_cons_zero])
      refine held_take 7 _ _ rfl (by kernel_rfl) (by kernel_rfl) (by kernel_rfl) (fun _ _ _ h => h) (by rfl) hHeld (fun w hSw => by (try dsimp only at hSw); go_simp; try with_reducible rfl) ?_
      (try simp only [Act.put, List.setIfInBounds_toArray, List.set_cons_zero, List.set_cons_succ, List.getElem_toArray, List.getElem_cons_succ, List.getElem_cons_zero])
      refine held_take 8 _ _ rfl (by kernel_rfl) (by kernel_rfl) (by kernel_rfl) (fun _ _ _ h => h) (by rfl) hHeld (fun w hSw => by (try dsimp only at hSw); go_simp; try with_reducible rfl) ?_
      (try simp only [Act.put, List.setIfInBounds_toArray, List.set_cons_zero, List.set_cons_succ, List.getElem_toArray, List.getElem_cons_succ, List.getElem_cons_zero])
      refine held_take 9 _ _ rfl (by kernel_rfl) (by kernel_rfl) (by kernel_rfl) (fun _ _ _ h => h) (by rfl) hHeld (fun w hSw => by (try dsimp only at hSw); go_simp; try with_reducible rfl) ?_
      (try simp only [Act.put, List.setIfInBounds_toArray, List.set_cons_zero, List.set_cons_succ, List.getElem_toArray, List.getElem_cons_succ, List.getElem_cons_zero])
      refine held_take 13 _ _ rfl (by kernel_rfl) (by kernel_rfl) (by kernel_rfl) (fun _ _ _ h => h) (by rfl) hHeld (fun w hSw => by (try dsimp only at hSw); go_simp; try with_reducible rfl) ?_
      (try simp only [Act.put, List.setIfInBounds_toArray, List.set_cons_zero, List.set_cons_succ, List.getElem_toArray, List.getElem_cons_succ, List.getElem_cons_zero])
      refine held_take 14 _ _ rfl (by kernel_rfl) (by kernel_rfl) (by kernel_rfl) (fun _ _ _ h => h) (by rfl) hHeld (fun w hSw => by (try dsimp only at hSw); go_simp; try with_reducible rfl) ?_
      (try simp only [Act.put, List.setIfInBounds_toArray, List.set_cons_zero, List.set_cons_succ, List.getElem_toArray, List.getElem_cons_succ, List.getElem_cons_zero])
      refine held_take 15 _ _ rfl (by kernel_rfl) (by kernel_rfl) (by kernel_rfl) (fun _ _ _ h => h) (by rfl) hHeld (fun w hSw => by (try dsimp only at hSw); go_simp; try with_reducible rfl) ?_
      (try simp only [Act.put, List.setIfInBounds_toArray, List.set_cons_zero, List.set_cons_succ, List.getElem_toArray, List.getElem_cons_succ, List.getElem_cons_zero])
      refine held_take 16 _ _ rfl (by kernel_rfl) (by kernel_rfl) (by kernel_rfl) (fun _ _ _ h => h) (by rfl) hHeld (fun w hSw => by (try dsimp only at hSw); go_simp; try with_reducible rfl) ?_
      (try simp only [Act.put, List.setIfInBounds_toArray, List.set_cons_zero, List.set_cons_succ, List.getElem_toArray, List.getElem_cons_succ, List.getElem_cons_zero])
      refine held_take 17 _ _ rfl (by kernel_rfl) (by kernel_rfl) (by kernel_rfl) (fun _ _ _ h => h) (by rfl) hHeld (fun w hSw => by (try dsimp only at hSw); go_simp; try with_reducible rfl) ?_
      (try simp only [Act.put, List.setIfInBounds_toArray, List.set_cons_zero, List.set_cons_succ, List.getElem_toArray, List.getElem_cons_succ, List.getElem_cons_zero])
      refine wpAnyH_ready (rs := [4]) (by kernel_rfl) (by simp) ?_
      refine AllReadyH.cons rfl (fun K hK => ?_) AllReadyH.nil
      rw [if_pos (by rfl)]
      go_wp2_with (first | (go_at_call 43; (with_reducible refine (cA _ (hHeld).2.2.2.2).mono ?_); rintro e wk ⟨rfl, hbk⟩))
      refine hK.out _ _ (HK2.out _ ((hHeld).2.2.2.2.trans (hbk.mono (hHeld).2.2.2.2.size))) (fun hHeld1 => ?_)
      clear hK K
      (try simp only [Act.put, List.setIfInBounds_toArray, List.set_cons_zero, List.set_cons_succ, List.getElem_toArray, List.getElem_cons_succ, List.getElem_cons_zero])
      refine held_take 5 _ _ rfl (by kernel_rfl) (by kernel_rfl) (by kernel_rfl) (fun _ _ _ h => h) (by rfl) hHeld1 (fun w hSw => by (try dsimp only at hSw); go_simp; try with_reducible rfl) ?_
      (try simp only [Act.put, List.setIfInBounds_toArray, List.set_cons_zero, List.set_cons_succ, List.getElem_toArray, List.getElem_cons_succ, List.getElem_cons_zero])
      refine wpAnyH_ready (rs := [10]) (by kernel_rfl) (by simp) ?_
      refine AllReadyH.cons rfl (fun K hK => ?_) AllReadyH.nil
      rw [if_pos (by rfl)]
      go_wp2_with (first | (go_at_call 43; (with_reducible refine (cB _ (hHeld1).2.2.2.2).mono ?_); rintro e wk2 ⟨rfl, hbk2⟩))
      refine hK.out _ _ (HK2.out _ ((hHeld1).2.2.2.2.trans (hbk2.mono (hHeld1).2.2.2.2.size))) (fun hHeld2 => ?_)
      clear hK K
      (try simp only [Act.put, List.setIfInBounds_toArray, List.set_cons_zero, List.set_cons_succ, List.getElem_toArray, List.getElem_cons_succ, List.getElem_cons_zero])
      refine held_take 11 _ _ rfl (by kernel_rfl) (by kernel_rfl) (by kernel_rfl) (fun _ _ _ h => h) (by rfl) hHeld2 (fun w hSw => by (try dsimp only at hSw); go_simp; try with_reducible rfl) ?_
      (try simp only [Act.put, List.setIfInBounds_toArray, List.set_cons_zero, List.set_cons_succ, List.getElem_toArray, List.getElem_cons_succ, List.getElem_cons_zero])
      refine held_take 12 _ _ rfl (by kernel_rfl) (by kernel_rfl) (by kernel_rfl) (fun _ _ _ h => h) (by rfl) hHeld2 (fun w hSw => by (try dsimp only at hSw); go_simp; try with_reducible rfl) ?_
      (try simp only [Act.put, List.setIfInBounds_toArray, List.set_cons_zero, List.set_cons_succ, List.getElem_toArray, List.getElem_cons_succ, List.getElem_cons_zero])
      refine held_take 18 _ _ rfl (by kernel_rfl) (by kernel_rfl) (by kernel_rfl) (fun _ _ _ h => h) (by rfl) hHeld2 (fun w hSw => by (try dsimp only at hSw); go_simp; try with_reducible rfl) ?_
      (try simp only [Act.put, List.setIfInBounds_toArray, List.set_cons_zero, List.set_cons_succ, List.getElem_toArray, List.getElem_cons_succ, List.getElem_cons_zero])
      refine held_take 19 _ _ rfl (by kernel_rfl) (by kernel_rfl) (by kernel_rfl) (fun _ _ _ h => h) (by rfl) hHeld2 (fun w hSw => by (try dsimp only at hSw); go_simp; try with_reducible rfl) ?_
      (try simp only [Act.put, List.setIfInBounds_toArray, List.set_cons_zero, List.set_cons_succ, List.getElem_toArray, List.getElem_cons_succ, List.getElem_cons_zero])
      refine wpAnyH_done (by kernel_rfl) ?_ _
      go_wp2_with fail
      go_ret
      exact ⟨by rw [HN.out]; rfl, hbV.trans ((hb05.trans ((hHeld2).2.2.2.2.mono (by omega))).mono hbV.size)⟩
end Go.Proofs.YtipfonpaaebjjaaGreat
