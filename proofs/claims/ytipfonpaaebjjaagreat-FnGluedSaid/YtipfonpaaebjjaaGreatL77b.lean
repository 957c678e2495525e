/-
  CONTRACTS of the reference's chapter 22: GlueFrobenius. (Own work: mk77j.py.)
-/
import Derived.Test.YtipfonpaaebjjaaGreatL77
import Derived.Test.YtipfonpaaebjjaaGreatL25
import Derived.Test.YtipfonpaaebjjaaGreatSgId
import Derived.Deep.Cut
namespace Go.Proofs.YtipfonpaaebjjaaGreat
open Go Go.RowKit
attribute [local go_sem] Oper.semAt_some

theorem mul_bnd8 {x f : Int} (hx : 1 ≤ x ∧ x ≤ 60) (hf : -1 ≤ f ∧ f ≤ 199) : -60 ≤ x * f ∧ x * f ≤ 11940 := by
  have h1 := Int.mul_le_mul_of_nonneg_left hf.2 (show 0 ≤ x by omega)
  have h2 := Int.mul_le_mul_of_nonneg_left hf.1 (show 0 ≤ x by omega)
  omega

set_option maxRecDepth 100000 in
set_option maxHeartbeats 3200000 in
theorem spec_GlueFrobenius (A B : List Int) (x y : Int) (a : Option Addr) (ca : Nat) (b : Option Addr) (cb : Nat) (w : World) (hra : SlV w a (A.map (Value.int .i64))) (hrb : SlV w b (B.map (Value.int .i64))) (hba : A.length ≤ 1048576) (hbb : B.length ≤ 1048576) :
    Calls Tryz.prog 14 #[.agg #[.slice a A.length ca], .agg #[.slice b B.length cb], .int .i64 x, .int .i64 y] w fun e w' => e = .returned (.int .i64 (gluN A B x y)) ∧ Below w.heap.size w w' := by
  obtain ⟨U, hU⟩ : ∃ U, U = ((w.alloc (.cells #[.slice a A.length ca] 26)).alloc (.cells #[.slice b B.length cb] 26)) := ⟨_, rfl⟩
  obtain ⟨V, hV⟩ : ∃ V, V = U := ⟨_, rfl⟩
  have hbU : Below w.heap.size w U := by rw [hU]; exact (box_below _ _).alloc (by simp) _
  have hUe : U.heap.size = w.heap.size + 2 := by rw [hU]; simp
  have hcAU : U.cell? ⟨w.heap.size, 0, none⟩ = some (.slice a A.length ca) := by rw [hU]; exact (World.cell?_alloc_lt _ _ ⟨w.heap.size, 0, none⟩ (by simp)).trans (box_cell w _)
  have hcBU : U.cell? ⟨w.heap.size + 1, 0, none⟩ = some (.slice b B.length cb) := by rw [hU]; have := box_cell (w.alloc (.cells #[.slice a A.length ca] 26)) (.slice b B.length cb); rw [show (w.alloc (.cells #[.slice a A.length ca] 26)).heap.size = w.heap.size + 1 by simp] at this; exact this
  have hbUV : Below U.heap.size U V := by rw [hV]; exact Below.refl _ _
  have hVs : w.heap.size + 2 ≤ V.heap.size := by rw [hV, hUe]; exact Nat.le_refl _
  have hbV := hbU.trans (hbUV.mono hbU.size)
  have HV : Hid (V = ((w.alloc (.cells #[.slice a A.length ca] 26)).alloc (.cells #[.slice b B.length cb] 26))) := Lib.hid (by rw [hV, hU])
  have HK0 : Hid (∀ w2, Below (w.heap.size + 2) V w2 → w2.cell? ⟨w.heap.size, 0, none⟩ = some (.slice a A.length ca) ∧ w2.cell? ⟨w.heap.size + 1, 0, none⟩ = some (.slice b B.length cb)) := Lib.hid fun w2 h => ⟨((h.cell (p := ⟨w.heap.size, 0, none⟩) (show w.heap.size < w.heap.size + 2 by omega)).trans (hbUV.cell (p := ⟨w.heap.size, 0, none⟩) (show w.heap.size < U.heap.size by omega))).trans hcAU, ((h.cell (p := ⟨w.heap.size + 1, 0, none⟩) (show w.heap.size + 1 < w.heap.size + 2 by omega)).trans (hbUV.cell (p := ⟨w.heap.size + 1, 0, none⟩) (show w.heap.size + 1 < U.heap.size by omega))).trans hcBU⟩
  have HRA := Lib.hid (fun w2 (h : Below (w.heap.size + 2) V w2) => hra.below (hbV.trans (h.mono (by omega))))
  have HRB := Lib.hid (fun w2 (h : Below (w.heap.size + 2) V w2) => hrb.below (hbV.trans (h.mono (by omega))))
  obtain ⟨hkA, hkB⟩ := HK0.out V (Below.refl _ _)
  clear hU hV hbU hbUV hcAU hcBU hra hrb
  have c1 := spec_GlueOf A B x y a ca b cb V (HRA.out _ (Below.refl _ _)) (HRB.out _ (Below.refl _ _)) hba hbb
  have HB : Hid (gluN A B x y = if gluB A B x y then x * frobN A + y * frobN B + x * y else -1) := Lib.hid rfl
  go_enter Tryz.func14, Tryz.ntmps14
  go_upto_region 1 with fail
  rw [← HV.out]
  go_wp2_with fail
  refine c1.mono ?_
  rintro e w1 ⟨v1, rfl, ho1, hb1⟩
  obtain ⟨a1, k1, rfl, -⟩ := row_open ho1
  have hz1 := hb1.size
  clear c1 hkA hkB ho1
  cases hq : gluB A B x y
  · rw [hq] at HB
    clear hq
    go_wp2_with (first | (refine wpList_alloc_arr 26 [Value.slice none 0 0] zeroSg rfl rfl ?_) | (refine wpList_store_arr 26 (.tmp 9) (.tmp 17) w1.heap.size [Value.slice none 0 0] [Value.slice a1 (gluL A B x y).length k1] rfl rfl rfl rfl (Arr.new w1 26 [Value.slice none 0 0]) rfl sizeSg (by simp [Value.oneCell']) ?_; intro w2 hN2 hg2 hz2; clear hz2; have hb2 := (hb1.trans ((box_below w1 (.cells [Value.slice none 0 0].toArray 26)).mono hb1.size)).grown hg2 (by simp; omega) (fun k hk => by cases hk; exact hb1.size)))
    go_ret
    exact ⟨by rw [HB.out]; rfl, hbV.trans (hb2.mono hbV.size)⟩
  · rw [hq] at HB
    have hq2 : gluQ A B x y = true := by
      rcases Bool.eq_false_or_eq_true (gluQ A B x y) with e | e
      · exact e
      · unfold gluB at hq; rw [e] at hq; cases hq
    obtain ⟨hsa, hsb, hx, hy, -⟩ := gluQ_open hq2
    have hfa : -1 ≤ frobN A ∧ frobN A ≤ 199 := by have := frob_cond hsa; have := condNat_le A; omega
    have hfb : -1 ≤ frobN B ∧ frobN B ≤ 199 := by have := frob_cond hsb; have := condNat_le B; omega
    clear hsa hsb hq hq2
    go_wp2_with (first | (refine wpList_alloc_arr 26 [Value.slice none 0 0] zeroSg rfl rfl ?_) | (refine wpList_store_arr 26 (.tmp 9) (.tmp 17) w1.heap.size [Value.slice none 0 0] [Value.slice a1 (gluL A B x y).length k1] rfl rfl rfl rfl (Arr.new w1 26 [Value.slice none 0 0]) rfl sizeSg (by simp [Value.oneCell']) ?_; intro w2 hN2 hg2 hz2; clear hz2; have hb2 := (hb1.trans ((box_below w1 (.cells [Value.slice none 0 0].toArray 26)).mono hb1.size)).grown hg2 (by simp; omega) (fun k hk => by cases hk; exact hb1.size)))
    have hpa := mul_bnd8 hx hfa
    have hpb := mul_bnd8 hy hfb
    have hpc := prod_bnd hx hy
    generalize hFA : frobN A = fA at *
    generalize hFB : frobN B = fB at *
    have cA := fun w' (h : Below V.heap.size V w') => spec_FrobeniusOf A a ca w' (HRA.out _ (h.mono hVs)) (by omega)
    have cB := fun w' (h : Below V.heap.size V w') => spec_FrobeniusOf B b cb w' (HRB.out _ (h.mono hVs)) (by omega)
    rw [hFA] at cA
    rw [hFB] at cB
    clear hFA hFB
    have hw1 : IntKind.i64.wrap (x * fA) = x * fA := IntWalk.i64_in _ (by omega)
    have hw2 : IntKind.i64.wrap (y * fB) = y * fB := IntWalk.i64_in _ (by omega)
    have hw3 : IntKind.i64.wrap (x * fA + y * fB) = x * fA + y * fB := IntWalk.i64_in _ (by omega)
    have hw4 : IntKind.i64.wrap (x * y) = x * y := IntWalk.i64_in _ (by omega)
    have hw5 : IntKind.i64.wrap (x * fA + y * fB + x * y) = x * fA + y * fB + x * y := IntWalk.i64_in _ (by omega)
    have HK2 : Hid (∀ w2, Below V.heap.size V w2 → w2.cell? ⟨w.heap.size, 0, none⟩ = some (.slice a A.length ca) ∧ w2.cell? ⟨w.heap.size + 1, 0, none⟩ = some (.slice b B.length cb) ∧ Below V.heap.size V w2) := Lib.hid fun w2 h => ⟨(HK0.out _ (h.mono hVs)).1, (HK0.out _ (h.mono hVs)).2, h⟩
    have hS0 := HK2.out _ hb2.drew
    clear hN2 hg2 hb1
    refine wp_region_held_drew (S := fun w' => w'.cell? ⟨w.heap.size, 0, none⟩ = some (.slice a A.length ca) ∧ w'.cell? ⟨w.heap.size + 1, 0, none⟩ = some (.slice b B.length cb) ∧ Below V.heap.size V w') (by kernel_rfl) hS0 (fun hHeld => ?_)
    refine held_take 0 _ _ rfl (by kernel_rfl) (by kernel_rfl) (by kernel_rfl) (fun _ _ _ h => h) (by rfl) hHeld (fun w hSw => by (try dsimp only at hSw); go_simp; try with_reducible rfl) ?_
    (try simp only [Act.put, List.setIfInBounds_toArray, List.set_cons_zero, List.set_cons_succ, List.getElem_toArray, List.getElem_cons_zero])
    refine held_take 1 _ _ rfl (by kernel_rfl) (by kernel_rfl) (by kernel_rfl) (fun _ _ _ h => h) (by rfl) hHeld (fun w hSw => by (try dsimp only at hSw); go_simp; try with_reducible rfl) ?_
    (try simp only [Act.put, List.setIfInBounds_toArray, List.set_cons_zero, List.set_cons_succ, List.getElem_toArray, List.getElem_cons_succ, List.getElem_cons_zero])
    refine held_take 4 _ _ rfl (by kernel_rfl) (by kernel_rfl) (by kernel_rfl) (fun _ _ _ h => h) (by rfl) hHeld (fun w hSw => by (try dsimp only at hSw); go_simp; try with_reducible rfl) ?_
    (try simp only [Act.put, List.setIfInBounds_toArray, List.set_cons_zero, List.set_cons_succ, List.getElem_toArray, List.getElem_cons_succ, List.getElem_cons_zero])
    refine held_take 5 _ _ rfl (by kernel_rfl) (by kernel_rfl) (by kernel_rfl) (fun _ _ _ h => h) (by rfl) hHeld (fun w hSw => by (try dsimp only at hSw); go_simp; try with_reducible rfl) ?_
    (try simp only [Act.put, List.setIfInBounds_toArray, List.set_cons_zero, List.set_cons_succ, List.getElem_toArray, List.getElem_cons_succ, List.getElem_cons_zero])
    refine held_take 9 _ _ rfl (by kernel_rfl) (by kernel_rfl) (by kernel_rfl) (fun _ _ _ h => h) (by rfl) hHeld (fun w hSw => by (try dsimp only at hSw); go_simp; try with_reducible rfl) ?_
    (try simp only [Act.put, List.setIfInBounds_toArray, List.set_cons_zero, List.set_cons_succ, List.getElem_toArray, List.getElem_cons_succ, List.getElem_cons_zero])
    refine held_take 10 _ _ rfl (by kernel_rfl) (by kernel_rfl) (by kernel_rfl) (fun _ _ _ h => h) (by rfl) hHeld (fun w hSw => by (try dsimp only at hSw); go_simp; try with_reducible rfl) ?_
    (try simp only [Act.put, List.setIfInBounds_toArray, List.set_cons_zero, List.set_cons_succ, List.getElem_toArray, List.getElem_cons_succ, List.getElem_cons_zero])
    refine held_take 11 _ _ rfl (by kernel_rfl) (by kernel_rfl) (by kernel_rfl) (fun _ _ _ h => h) (by rfl) hHeld (fun w hSw => by (try dsimp only at hSw); go_simp; try with_reducible rfl) ?_
    (try simp only [Act.put, List.setIfInBounds_toArray, List.set_cons_zero, List.set_cons_succ, List.getElem_toArray, List.getElem_cons_succ, List.getElem_cons_zero])
    refine wpAnyH_ready (rs := [2]) (by kernel_rfl) (by simp) ?_
    refine AllReadyH.cons rfl (fun K hK => ?_) AllReadyH.nil
    rw [if_pos (by rfl)]
    go_wp2_with (first | (go_at_call 17; (with_reducible refine (cA _ (hHeld).2.2).mono ?_); rintro e wk ⟨rfl, hbk⟩))
    refine hK.out _ _ (HK2.out _ ((hHeld).2.2.trans (hbk.mono (hHeld).2.2.size))) (fun hHeld1 => ?_)
    clear hK K
    (try simp only [Act.put, List.setIfInBounds_toArray, List.set_cons_zero, List.set_cons_succ, List.getElem_toArray, List.getElem_cons_succ, List.getElem_cons_zero])
    refine held_take 3 _ _ rfl (by kernel_rfl) (by kernel_rfl) (by kernel_rfl) (fun _ _ _ h => h) (by rfl) hHeld1 (fun w hSw => by (try dsimp only at hSw); go_simp; try with_reducible rfl) ?_
    (try simp only [Act.put, List.setIfInBounds_toArray, List.set_cons_zero, List.set_cons_succ, List.getElem_toArray, List.getElem_cons_succ, List.getElem_cons_zero])
    refine wpAnyH_ready (rs := [6]) (by kernel_rfl) (by simp) ?_
    refine AllReadyH.cons rfl (fun K hK => ?_) AllReadyH.nil
    rw [if_pos (by rfl)]
    go_wp2_with (first | (go_at_call 17; (with_reducible refine (cB _ (hHeld1).2.2).mono ?_); rintro e wk2 ⟨rfl, hbk2⟩))
    refine hK.out _ _ (HK2.out _ ((hHeld1).2.2.trans (hbk2.mono (hHeld1).2.2.size))) (fun hHeld2 => ?_)
    clear hK K
    (try simp only [Act.put, List.setIfInBounds_toArray, List.set_cons_zero, List.set_cons_succ, List.getElem_toArray, List.getElem_cons_succ, List.getElem_cons_zero])
    refine held_take 7 _ _ rfl (by kernel_rfl) (by kernel_rfl) (by kernel_rfl) (fun _ _ _ h => h) (by rfl) hHeld2 (fun w hSw => by (try dsimp only at hSw); go_simp; try with_reducible rfl) ?_
    (try simp only [Act.put, List.setIfInBounds_toArray, List.set_cons_zero, List.set_cons_succ, List.getElem_toArray, List.getElem_cons_succ, List.getElem_cons_zero])
    refine held_take 8 _ _ rfl (by kernel_rfl) (by kernel_rfl) (by kernel_rfl) (fun _ _ _ h => h) (by rfl) hHeld2 (fun w hSw => by (try dsimp only at hSw); go_simp; try with_reducible rfl) ?_
    (try simp only [Act.put, List.setIfInBounds_toArray, List.set_cons_zero, List.set_cons_succ, List.getElem_toArray, List.getElem_cons_succ, List.getElem_cons_zero])
    refine held_take 12 _ _ rfl (by kernel_rfl) (by kernel_rfl) (by kernel_rfl) (fun _ _ _ h => h) (by rfl) hHeld2 (fun w hSw => by (try dsimp only at hSw); go_simp; try with_reducible rfl) ?_
    (try simp only [Act.put, List.setIfInBounds_toArray, List.set_cons_zero, List.set_cons_succ, List.getElem_toArray, List.getElem_cons_succ, List.getElem_cons_zero])
    refine held_take 13 _ _ rfl (by kernel_rfl) (by kernel_rfl) (by kernel_rfl) (fun _ _ _ h => h) (by rfl) hHeld2 (fun w hSw => by (try dsimp only at hSw); go_simp; try with_reducible rfl) ?_
    (try simp only [Act.put, List.setIfInBounds_toArray, List.set_cons_zero, List.set_cons_succ, List.getElem_toArray, List.getElem_cons_succ, List.getElem_cons_zero])
    refine wpAnyH_done (by kernel_rfl) ?_ _
    go_wp2_with fail
    go_ret
    exact ⟨by rw [HB.out]; rfl, hbV.trans ((hHeld2).2.2.mono hbV.size)⟩
end Go.Proofs.YtipfonpaaebjjaaGreat
