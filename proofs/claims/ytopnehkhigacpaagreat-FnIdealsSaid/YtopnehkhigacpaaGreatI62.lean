/-
  CONTRACTS of the program's chapter 16: multiplicity, dual, DualGens. (Own work: mkI62.py.)
-/
import Derived.Test.YtopnehkhigacpaaGreatI61
import Derived.Test.YtopnehkhigacpaaGreatSgEx
import Derived.Test.YtopnehkhigacpaaGreatI36
import Derived.Test.YtopnehkhigacpaaGreatCh4I
namespace Go.Proofs.YtopnehkhigacpaaGreat
open Go Go.RowKit
attribute [local go_sem] Oper.semAt_some

theorem least_min {L : List Int} (h : 0 < L.length) : leastI L = Lib.minOf L := by
  have hm := minOf_in h
  have hge := (minOf_ge h (Lib.minOf L)).1 (Int.le_refl _)
  cases hS : sortL L with
  | nil =>
    have := ((sortL_spec L).2 _).2 hm
    rw [hS] at this; cases this
  | cons y r =>
    have e : leastI L = y := by unfold leastI; rw [hS]; rfl
    have hy : y ∈ L := ((sortL_spec L).2 y).1 (by rw [hS]; simp)
    have hmem := ((sortL_spec L).2 _).2 hm
    obtain ⟨j, hj, hje⟩ := List.getElem_of_mem hmem
    have ha := (sortL_spec L).1
    have h0 : (sortL L)[0]'(by omega) = y := by simp [hS]
    rw [e]
    have h1 := hge y hy
    by_cases hj0 : j = 0
    · subst hj0; rw [← hje]; exact h0.symm
    · have := ha 0 j hj (by omega)
      rw [h0, hje] at this; omega
noncomputable def dualX (G L : List Int) (m : Int) (k : Nat) : List Int := ((List.range k).map fun (j : Nat) => (j : Int) - m).filter (dualB G L)
theorem dualX_succ (G L : List Int) (m : Int) (k : Nat) : dualX G L m (k + 1) = dualX G L m k ++ if dualB G L ((k : Int) - m) = true then [(k : Int) - m] else [] := by
  unfold dualX
  rw [List.range_succ, List.map_append, List.filter_append]
  congr 1
  simp only [List.map_cons, List.map_nil, List.filter_cons, List.filter_nil]
theorem dualX_len (G L : List Int) (m : Int) (k : Nat) : (dualX G L m k).length ≤ k := by
  unfold dualX
  exact Nat.le_trans (List.length_filter_le _ _) (by simp)

set_option maxRecDepth 100000 in
set_option maxHeartbeats 1600000 in
theorem impl_multiplicity (g : Int) (r L : List Int) (a : Option Addr) (cap : Nat) (al : Option Addr) (cl : Nat) (w : World) (hr : SlV w a ((g :: r).map (Value.int .i64))) :
    Calls Tryz.prog 69 #[.agg (idC (elF (g :: r)) a (g :: r).length cap al L.length cl).toArray] w fun e w' => e = .returned (.int .i64 g) ∧ Below w.heap.size w w' := by
  have hA := Arr.new w 51 (idC (elF (g :: r)) a (g :: r).length cap al L.length cl)
  have hB := box_below w (.cells (idC (elF (g :: r)) a (g :: r).length cap al L.length cl).toArray 51)
  generalize hW : w.alloc (.cells (idC (elF (g :: r)) a (g :: r).length cap al L.length cl).toArray 51) = W1 at hA hB
  have hg := id_gens hA
  obtain ⟨b, off, rfl, hbs, hc⟩ := (hr.below hB).open (by simp)
  have hcell : W1.cell? ⟨b, off, none⟩ = some (.int .i64 g) := hc 0 _ rfl
  have hcell0 : W1.cell? ⟨b, off + 0, none⟩ = some (.int .i64 g) := hcell
  have hl1 : (0 : Int) < ((r.length + 1 : Nat) : Int) := by omega
  have hl2 : (0 : Int) < (r.length : Int) + 1 := by omega
  clear hr hc hA
  go_enter Tryz.func69, Tryz.ntmps69
  go_wp2_with (first | (refine wpList_box_arr 51 (.tmp 0) (idC (elF (g :: r)) (some ⟨b, off, none⟩) (g :: r).length cap al L.length cl) rfl rfl rfl ?_; rw [hW]))
  go_ret
  exact ⟨rfl, hB⟩

set_option maxRecDepth 100000 in
set_option maxHeartbeats 3200000 in
theorem impl_dual (G L : List Int) (hs : isSgB G = true) (hL : ∀ y ∈ L, -200 ≤ y ∧ y ≤ 200) (hL0 : 0 < L.length) (hL1 : L.length ≤ 20) (a : Option Addr) (cap : Nat) (al : Option Addr) (cl : Nat) (w : World) (hr : SlV w a (G.map (Value.int .i64))) (hrl : SlV w al (L.map (Value.int .i64))) (hb : G.length ≤ 1048576) :
    Calls Tryz.prog 34 #[.agg (idC (elF G) a G.length cap al L.length cl).toArray] w (SlPost (dualAll G L) w) := by
  obtain ⟨i0, hi, hz0, hz1, hz2⟩ := info_parts infoIntL
  obtain ⟨dI, hdI, hrI⟩ := undId
  obtain ⟨V, hV⟩ : ∃ V, V = w.alloc (.cells (idC (elF G) a G.length cap al L.length cl).toArray 51) := ⟨_, rfl⟩
  have hbV : Below w.heap.size w V := by rw [hV]; exact box_below _ _
  have hAV : Arr V w.heap.size 51 (idC (elF G) a G.length cap al L.length cl) := by rw [hV]; exact Arr.new _ _ _
  have HV := Lib.hid hV
  clear hV
  have hcl0 := id_list hAV
  have hcg0 := id_gens hAV
  obtain ⟨b, off, eal, hbs, hc⟩ := hrl.open (by intro h; rw [List.map_eq_nil_iff] at h; subst h; simp at hL0)
  have hcells : ∀ j, j < L.length → V.cell? ⟨b, off + j, none⟩ = some (.int .i64 (L.getD j 0)) := fun j hj => (hbV.cell (p := ⟨b, off + j, none⟩) hbs).trans (hc j _ (by rw [List.getElem?_map, List.getElem?_eq_getElem hj, List.getD_eq_getElem?_getD, List.getElem?_eq_getElem hj]; rfl))
  have c1 := Tryz.slices_Min_int b off L.length cl L V hL0 (Nat.le_refl _) (by omega) hcells
  rw [List.take_length] at c1
  have hmn0 := (minOf_ge hL0 (-200)).2 (fun x hx => (hL x hx).1)
  have hmn1 := (hL _ (minOf_in hL0)).2
  have hS := isSgB_iff.1 hs
  obtain ⟨g, r, hgr⟩ : ∃ g r, G = g :: r := by cases G with | nil => exact absurd rfl hS.ne | cons g r => exact ⟨g, r, rfl⟩
  have hgb := hS.bounds g (by rw [hgr]; simp)
  have hC := condNat_le G
  have HD : Hid (∀ N : Nat, (N : Int) = (condNat G : Int) + g → dualAll G L = dualX G L (Lib.minOf L) N) := Lib.hid fun N hN => by unfold dualAll dualX; rw [least_min hL0, show condNat G + (G.headD 0).toNat = N by rw [hgr]; show condNat (g :: r) + g.toNat = N; rw [← hgr]; omega]
  have cc : ∀ W, Below V.heap.size V W → Calls Tryz.prog 68 #[.agg #[.slice a G.length cap]] W fun e w' => e = .returned (.int .i64 (condNat G : Int)) ∧ Below W.heap.size W w' := fun W h => by
    have h := impl_ConductorOf G a cap W (hr.below (hbV.trans (h.mono hbV.size))) hb
    rw [condN_yes hs] at h
    exact h
  have cm : ∀ W, Below V.heap.size V W → Calls Tryz.prog 69 #[.agg (idC (elF G) a G.length cap al L.length cl).toArray] W fun e w' => e = .returned (.int .i64 g) ∧ Below W.heap.size W w' := fun W h => by
    subst hgr
    exact impl_multiplicity g r L a cap al cl W (hr.below (hbV.trans (h.mono hbV.size)))
  have cs := fun (x : Int) W (h : Below V.heap.size V W) (h0 : -2000000 ≤ x) (h1 : x ≤ 2000000) => impl_hasSums_any G hs x h0 h1 L (by omega) (fun y hy => by have := hL y hy; omega) al cl W (hrl.below (hbV.trans (h.mono hbV.size)))
  have HK : Hid (∀ w2, Below V.heap.size V w2 → Arr w2 w.heap.size 51 (idC (elF G) a G.length cap al L.length cl) ∧ w2.cell? ⟨w.heap.size, 0, none⟩ = some (.slice a G.length cap) ∧ Below V.heap.size V w2) := Lib.hid fun w2 h => ⟨hAV.below h, id_gens (hAV.below h), h⟩
  have hS0 := HK.out _ (Below.refl V.heap.size V).drew
  clear hs hS hr hrl hc hcells hbs hgr hcg0 hL
  generalize Lib.minOf L = mn at *
  generalize condNat G = C at *
  rw [← eal] at c1
  clear eal
  have hn1 : IntKind.i64.wrap (-mn) = -mn := IntWalk.i64_in _ (by omega)
  have hw1 : IntKind.i64.wrap (-mn + (C : Int)) = -mn + (C : Int) := IntWalk.i64_in _ (by omega)
  have hw2 : IntKind.i64.wrap (-mn + (C : Int) + g) = -mn + (C : Int) + g := IntWalk.i64_in _ (by omega)
  go_enter Tryz.func34, Tryz.ntmps34
  go_wp2_with (first | (refine wpList_box_arr 51 (.tmp 0) (idC (elF G) a G.length cap al L.length cl) rfl rfl rfl ?_; rw [← HV.out]))
  refine c1.mono ?_
  rintro e w1 ⟨rfl, hww⟩
  rw [hww]
  clear hww c1
  go_wp2_with fail
  refine wp_region_held_drew (S := fun w' => Arr w' w.heap.size 51 (idC (elF G) a G.length cap al L.length cl) ∧ w'.cell? ⟨w.heap.size, 0, none⟩ = some (.slice a G.length cap) ∧ Below V.heap.size V w') (by kernel_rfl) hS0 (fun hHeld => ?_)
  refine held_take 0 _ _ rfl (by kernel_rfl) (by kernel_rfl) (by kernel_rfl) (fun _ _ _ h => h) (by rfl) hHeld (fun w hSw => by (try dsimp only at hSw); go_simp; try with_reducible rfl) ?_
  (try simp only [Act.put, List.setIfInBounds_toArray, List.set_cons_zero, List.set_cons_succ, List.getElem_toArray, List.getElem_cons_zero])
  refine held_take 1 _ _ rfl (by kernel_rfl) (by kernel_rfl) (by kernel_rfl) (fun _ _ _ h => h) (by rfl) hHeld (fun w hSw => by (try dsimp only at hSw); go_simp; try with_reducible rfl) ?_
  (try simp only [Act.put, List.setIfInBounds_toArray, List.set_cons_zero, List.set_cons_succ, List.getElem_toArray, List.getElem_cons_succ, List.getElem_cons_zero])
  refine held_take 2 _ _ rfl (by kernel_rfl) (by kernel_rfl) (by kernel_rfl) (fun _ _ _ h => h) (by rfl) hHeld (fun w hSw => by (try dsimp only at hSw); go_simp; try with_reducible rfl) ?_
  (try simp only [Act.put, List.setIfInBounds_toArray, List.set_cons_zero, List.set_cons_succ, List.getElem_toArray, List.getElem_cons_succ, List.getElem_cons_zero])
  refine held_take_arr 5 _ 51 (.tmp 1) w.heap.size (idC (elF G) a G.length cap al L.length cl) dI hdI hrI (sizeId _ _ _ _ _ _ _) (fun _ h => h.1) rfl (by kernel_rfl) (by kernel_rfl) (by kernel_rfl) (fun _ _ _ h => h) (by rfl) rfl rfl hHeld ?_
  (try simp only [Act.put, List.setIfInBounds_toArray, List.set_cons_zero, List.set_cons_succ, List.getElem_toArray, List.getElem_cons_succ, List.getElem_cons_zero])
  refine wpAnyH_ready (rs := [3]) (by kernel_rfl) (by simp) ?_
  refine AllReadyH.cons rfl (fun K hK => ?_) AllReadyH.nil
  rw [if_pos (by rfl)]
  go_wp2_with (first | (go_at_call 68; (with_reducible refine (cc _ hHeld.2.2).mono ?_); rintro e w4 ⟨rfl, hb4⟩))
  refine hK.out _ _ (HK.out _ ((hHeld).2.2.trans (hb4.mono (hHeld).2.2.size))) (fun hHeld1 => ?_)
  clear hK K
  (try simp only [Act.put, List.setIfInBounds_toArray, List.set_cons_zero, List.set_cons_succ, List.getElem_toArray, List.getElem_cons_succ, List.getElem_cons_zero])
  refine held_take 4 _ _ rfl (by kernel_rfl) (by kernel_rfl) (by kernel_rfl) (fun _ _ _ h => h) (by rfl) hHeld1 (fun w hSw => by (try dsimp only at hSw); go_simp; try with_reducible rfl) ?_
  (try simp only [Act.put, List.setIfInBounds_toArray, List.set_cons_zero, List.set_cons_succ, List.getElem_toArray, List.getElem_cons_succ, List.getElem_cons_zero])
  refine wpAnyH_ready (rs := [6]) (by kernel_rfl) (by simp) ?_
  refine AllReadyH.cons rfl (fun K hK => ?_) AllReadyH.nil
  rw [if_pos (by rfl)]
  go_wp2_with (first | (go_at_call 69; (with_reducible refine (cm _ hHeld1.2.2).mono ?_); rintro e w5 ⟨rfl, hb5⟩))
  refine hK.out _ _ (HK.out _ ((hHeld1).2.2.trans (hb5.mono (hHeld1).2.2.size))) (fun hHeld2 => ?_)
  clear hK K
  (try simp only [Act.put, List.setIfInBounds_toArray, List.set_cons_zero, List.set_cons_succ, List.getElem_toArray, List.getElem_cons_succ, List.getElem_cons_zero])
  refine held_take 7 _ _ rfl (by kernel_rfl) (by kernel_rfl) (by kernel_rfl) (fun _ _ _ h => h) (by rfl) hHeld2 (fun w hSw => by (try dsimp only at hSw); go_simp; try with_reducible rfl) ?_
  (try simp only [Act.put, List.setIfInBounds_toArray, List.set_cons_zero, List.set_cons_succ, List.getElem_toArray, List.getElem_cons_succ, List.getElem_cons_zero])
  refine held_take 8 _ _ rfl (by kernel_rfl) (by kernel_rfl) (by kernel_rfl) (fun _ _ _ h => h) (by rfl) hHeld2 (fun w hSw => by (try dsimp only at hSw); go_simp; try with_reducible rfl) ?_
  (try simp only [Act.put, List.setIfInBounds_toArray, List.set_cons_zero, List.set_cons_succ, List.getElem_toArray, List.getElem_cons_succ, List.getElem_cons_zero])
  refine wpAnyH_done (by kernel_rfl) ?_ _
  have hbl0 := (hHeld2).2.2
  clear hS0 cc cm
  go_wp2_with fail
  obtain ⟨N, hN⟩ : ∃ N : Nat, (N : Int) = (C : Int) + g := ⟨C + g.toNat, by omega⟩
  have hNb : N ≤ 260 := by omega
  have hzX := hbl0.size
  go_loopw [5, 6] (fun v i wr => ∃ (k : Nat) (M : List Int), k ≤ N ∧ i = .int .i64 ((k : Int) - mn) ∧ Hid (M = dualX G L mn k) ∧ M.length ≤ k ∧ wr.ownsRow V.heap.size 3 1 v M.length (M.map (Value.int .i64)) ∧ Below V.heap.size V wr) (fun _ i _ => N - (intOf i + mn).toNat)
  case atStart => exact ⟨0, [], Nat.zero_le _, by simp, Lib.hid rfl, by simp, World.ownsRow_nil _ _ _ _, hbl0⟩
  case round =>
    clear hbl0 hzX
    obtain ⟨k, M, hk, rfl, HM, hMl, hown, hbel⟩ := hrel
    have hsz := hbel.size
    have hAr := hAV.below hbel
    have hcl := id_list hAr
    by_cases hlt : k < N
    · have hlti : (k : Int) - mn < -mn + (C : Int) + g := by omega
      have c := cs ((k : Int) - mn) wr hbel (by omega) (by omega)
      have hds := dualX_succ G L mn k
      rw [← HM.out] at hds
      have HDS := Lib.hid hds
      have hdq : (L.all fun y => hasN G ((k : Int) - mn + y)) = dualB G L ((k : Int) - mn) := rfl
      rw [hdq] at c
      clear hds hdq
      generalize dualB G L ((k : Int) - mn) = q at *
      go_wp2_with (first | (refine wpList_load_mid rfl 49 (.tmp 25) rfl w.heap.size 1 rfl (tabB (elF G) 260) (.array 260 4) (id_tab hAr) undT rfl (sizeTl _) ?_))
      refine c.mono ?_
      rintro e w6 ⟨rfl, hb6⟩
      have hown6 := owns_below hown hb6
      have hbel6 := hbel.trans (hb6.mono hbel.size)
      have hsz6 := hbel6.size
      have hw1 : IntKind.i64.wrap ((k : Int) - mn + 1) = (k : Int) - mn + 1 := IntWalk.i64_in _ (by omega)
      clear c hown hbel hb6 hAr hcl
      cases q
      · have HY : Hid (M = dualX G L mn (k + 1)) := Lib.hid (by rw [HDS.out]; simp)
        clear HDS
        go_wp2_with fail
        go_roundw
        case rel => exact ⟨k + 1, M, by omega, by simp; omega, HY, by omega, hown6, hbel6⟩
        case measure => simp [intOf]; omega
      · have HY : Hid (M ++ [(k : Int) - mn] = dualX G L mn (k + 1)) := Lib.hid (by rw [HDS.out]; simp)
        clear HDS
        go_wp2_with (first | (at_builtin; refine wpList_append_own _ rfl (.tmp 31) (.tmp 33) 24 rfl V.heap.size 3 i0 (Value.int .i64 0) 1 8 Tryz.underlying24 hi hz0 hz1 hz2 rfl (by decide) _ _ _ rfl (hown6.alloc _) ⟨_, 0, none⟩ 1 1 [.int .i64 ((k : Int) - mn)] rfl rfl (World.news_of_block (cs := #[.int .i64 ((k : Int) - mn)]) (t := 3) (fr := (0, 0)) (heap_alloc_new _ _)) (by simp [Value.oneCell']) (by unfold maxLen; omega) (by omega) (by simp; omega) ?_; intro v7 w7 hown7 hg7 _; have hbel7 := (hbel6.alloc hsz6 (.cells #[.int .i64 ((k : Int) - mn)] 3)).grown hg7 (by simp; omega) (fun j hj => (hown6.lt j hj).1); have HO := Lib.hid hown7; clear hown6 hown7 hg7 hbel6))
        go_wp2_with fail
        go_roundw
        case rel => exact ⟨k + 1, M ++ [(k : Int) - mn], by omega, by simp; omega, HY, by rw [List.length_append, List.length_singleton]; omega, by rw [List.length_append, List.length_singleton, List.map_append]; exact HO.out, hbel7⟩
        case measure => simp [intOf]; omega
    · have hke : k = N := by omega
      have hlti : ¬ (k : Int) - mn < -mn + (C : Int) + g := by omega
      have HF : Hid (dualAll G L = M) := Lib.hid (by rw [HD.out N hN, HM.out, hke])
      have HO := Lib.hid (owns_wider hown hbV.size)
      have hbF := hbV.trans (hbel.mono hbV.size)
      clear hown HM hAr hcl hke
      go_wp2_with fail
      go_ret
      exact ⟨_, rfl, by rw [HF.out]; exact HO.out, hbF⟩

set_option maxRecDepth 100000 in
set_option maxHeartbeats 1600000 in
theorem impl_DualGens (G L : List Int) (a : Option Addr) (cap : Nat) (al : Option Addr) (cl : Nat) (w : World) (hr : SlV w a (G.map (Value.int .i64))) (hrl : SlV w al (L.map (Value.int .i64))) (hb : G.length ≤ 1048576) (hbl : L.length ≤ 1048576) :
    Calls Tryz.prog 10 #[.agg #[.slice a G.length cap], .slice al L.length cl] w (SlPost (dualL G L) w) := by
  obtain ⟨dI, hdI, hrI⟩ := undId
  obtain ⟨V, hV⟩ : ∃ V, V = w.alloc (.cells #[.slice a G.length cap] 26) := ⟨_, rfl⟩
  have hbV : Below w.heap.size w V := by rw [hV]; exact box_below _ _
  have hc0 : V.cell? ⟨w.heap.size, 0, none⟩ = some (.slice a G.length cap) := by rw [hV]; exact box_cell w _
  have hVs : w.heap.size < V.heap.size := by rw [hV]; simp
  have HV := Lib.hid hV
  have HKV : Hid (∀ w2, Below V.heap.size V w2 → w2.cell? ⟨w.heap.size, 0, none⟩ = some (.slice a G.length cap)) := Lib.hid fun w2 h => (h.cell (p := ⟨w.heap.size, 0, none⟩) hVs).trans hc0
  clear hV
  have c1 := impl_idealOf G L a cap al cl V (hr.below hbV) (hrl.below hbV) hb hbl
  cases hq : isSgB G && validB L
  · have HE : Hid (dualL G L = []) := Lib.hid (by unfold dualL; rw [hq]; rfl)
    unfold idPost at c1
    rw [hq, if_neg Bool.false_ne_true] at c1
    clear hq hr hrl
    go_enter Tryz.func10, Tryz.ntmps10
    go_wp2_with fail
    rw [← HV.out]
    refine c1.mono ?_
    rintro e w1 ⟨rfl, hb1⟩
    have hA := Arr.new w1 51 (idC (fun _ => false) none 0 0 none 0 0)
    have hbA := hb1.alloc (o := .cells (idC (fun _ => false) none 0 0 none 0 0).toArray 51) hb1.size
    clear c1 hc0
    go_wp2_with (first | (refine wpList_alloc_arr 51 (idC (fun _ => false) none 0 0 none 0 0) zeroId rfl rfl ?_) | (refine wpList_store_arr 51 (.tmp 5) (.tmp 11) w1.heap.size (idC (fun _ => false) none 0 0 none 0 0) (idC (fun _ => false) none 0 0 none 0 0) rfl rfl rfl rfl hA (by simp only [idC_len]) (sizeId _ _ _ _ _ _ _) (idC_one _ _ _ _ _ _ _) ?_; intro w3 hB hg3 hz3; clear hz3; have hb3 := hbA.grown hg3 hbA.size (fun k hk => by cases hk; exact hb1.size); have hc3 := HKV.out _ hb3; clear hg3 hA hbA))
    go_ret
    exact ⟨_, rfl, by rw [HE.out]; exact World.ownsRow_nil _ _ _ _, hbV.trans (hb3.mono hbV.size)⟩
  · have HE : Hid (dualL G L = topL G (dualAll G L) true) := Lib.hid (by unfold dualL; rw [hq]; rfl)
    unfold idPost at c1
    rw [hq, if_pos (by rfl)] at c1
    obtain ⟨hs, hv⟩ := Bool.and_eq_true_iff.1 hq
    have hvb := validB_iff.1 hv
    have hdl := dualAll_len (L := L) hs
    have cd := fun W (h : Below V.heap.size V W) => impl_dual G L hs hvb.1 (by omega) hvb.2.2 a cap al cl W (hr.below (hbV.trans (h.mono hbV.size))) (hrl.below (hbV.trans (h.mono hbV.size))) hb
    have cm := fun q k W (h : Below V.heap.size V W) (h2 : SlV W q ((dualAll G L).map (Value.int .i64))) => impl_MinimalIn G (dualAll G L) a cap q k W (hr.below (hbV.trans (h.mono hbV.size))) h2 hb (by omega)
    clear hq hs hv hvb hr hrl
    go_enter Tryz.func10, Tryz.ntmps10
    go_wp2_with fail
    rw [← HV.out]
    refine c1.mono ?_
    rintro e w1 ⟨rfl, hb1⟩
    have hA := Arr.new w1 51 (idC (fun _ => false) none 0 0 none 0 0)
    have hbA := hb1.alloc (o := .cells (idC (fun _ => false) none 0 0 none 0 0).toArray 51) hb1.size
    clear c1 hc0
    go_wp2_with (first | (refine wpList_alloc_arr 51 (idC (fun _ => false) none 0 0 none 0 0) zeroId rfl rfl ?_) | (refine wpList_store_arr 51 (.tmp 5) (.tmp 11) w1.heap.size (idC (fun _ => false) none 0 0 none 0 0) (idC (elF G) a G.length cap al L.length cl) rfl rfl rfl rfl hA (by simp only [idC_len]) (sizeId _ _ _ _ _ _ _) (idC_one _ _ _ _ _ _ _) ?_; intro w3 hB hg3 hz3; clear hz3; have hb3 := hbA.grown hg3 hbA.size (fun k hk => by cases hk; exact hb1.size); have hc3 := HKV.out _ hb3; clear hg3 hA hbA))
    have hS0 : w3.drew.cell? ⟨w.heap.size, 0, none⟩ = some (.slice a G.length cap) ∧ Arr w3.drew w1.heap.size 51 (idC (elF G) a G.length cap al L.length cl) ∧ Below V.heap.size V w3.drew := ⟨hc3, hB, hb3.drew⟩
    refine wp_region_held_drew (S := fun w' => w'.cell? ⟨w.heap.size, 0, none⟩ = some (.slice a G.length cap) ∧ Arr w' w1.heap.size 51 (idC (elF G) a G.length cap al L.length cl) ∧ Below V.heap.size V w') (by kernel_rfl) hS0 (fun hHeld => ?_)
    refine held_take 0 _ _ rfl (by kernel_rfl) (by kernel_rfl) (by kernel_rfl) (fun _ _ _ h => h) (by rfl) hHeld (fun w hSw => by (try dsimp only at hSw); go_simp; try with_reducible rfl) ?_
    (try simp only [Act.put, List.setIfInBounds_toArray, List.set_cons_zero, List.set_cons_succ, List.getElem_toArray, List.getElem_cons_zero])
    refine held_take_arr 1 _ 51 (.tmp 5) w1.heap.size (idC (elF G) a G.length cap al L.length cl) dI hdI hrI (sizeId _ _ _ _ _ _ _) (fun _ h => h.2.1) rfl (by kernel_rfl) (by kernel_rfl) (by kernel_rfl) (fun _ _ _ h => h) (by rfl) rfl rfl hHeld ?_
    (try simp only [Act.put, List.setIfInBounds_toArray, List.set_cons_zero, List.set_cons_succ, List.getElem_toArray, List.getElem_cons_succ, List.getElem_cons_zero])
    refine wpAnyH_ready (rs := [2]) (by kernel_rfl) (by simp) ?_
    refine AllReadyH.cons rfl (fun K hK => ?_) AllReadyH.nil
    rw [if_pos (by rfl)]
    go_wp2_with (first | (go_at_call 34; (with_reducible refine (cd _ hHeld.2.2).mono ?_); rintro e w4 ⟨v4, rfl, ho4, hb4⟩; obtain ⟨a4, k4, rfl, rX⟩ := row_open ho4; have hs4 := rX.slv; clear rX ho4))
    refine hK.out _ _ (⟨HKV.out _ ((hHeld).2.2.trans (hb4.mono (hHeld).2.2.size)), (hHeld).2.1.below hb4, (hHeld).2.2.trans (hb4.mono (hHeld).2.2.size)⟩) (fun hHeld1 => ?_)
    clear hK K
    (try simp only [Act.put, List.setIfInBounds_toArray, List.set_cons_zero, List.set_cons_succ, List.getElem_toArray, List.getElem_cons_succ, List.getElem_cons_zero])
    refine wpAnyH_ready (rs := [3]) (by kernel_rfl) (by simp) ?_
    refine AllReadyH.cons rfl (fun K hK => ?_) AllReadyH.nil
    rw [if_pos (by rfl)]
    go_wp2_with (first | (go_at_call 33; (with_reducible refine (cm _ _ _ hHeld1.2.2 hs4).mono ?_); rintro e w5 ⟨v5, rfl, ho5, hb5⟩; have hz5 := Nat.le_trans hbV.size (hHeld1).2.2.size))
    refine hK.out _ _ (⟨HKV.out _ ((hHeld1).2.2.trans (hb5.mono (hHeld1).2.2.size)), (hHeld1).2.1.below hb5, (hHeld1).2.2.trans (hb5.mono (hHeld1).2.2.size)⟩) (fun hHeld2 => ?_)
    clear hK K
    (try simp only [Act.put, List.setIfInBounds_toArray, List.set_cons_zero, List.set_cons_succ, List.getElem_toArray, List.getElem_cons_succ, List.getElem_cons_zero])
    refine held_take 4 _ _ rfl (by kernel_rfl) (by kernel_rfl) (by kernel_rfl) (fun _ _ _ h => h) (by rfl) hHeld2 (fun w hSw => by (try dsimp only at hSw); go_simp; try with_reducible rfl) ?_
    (try simp only [Act.put, List.setIfInBounds_toArray, List.set_cons_zero, List.set_cons_succ, List.getElem_toArray, List.getElem_cons_succ, List.getElem_cons_zero])
    refine wpAnyH_done (by kernel_rfl) ?_ _
    have hbF := hbV.trans ((hHeld2).2.2.mono hbV.size)
    obtain ⟨a5, k5, rfl, -⟩ := row_open ho5
    clear hS0
    go_wp2_with fail
    go_ret
    exact ⟨_, rfl, by rw [HE.out]; exact owns_wider ho5 hz5, hbF⟩
end Go.Proofs.YtopnehkhigacpaaGreat
