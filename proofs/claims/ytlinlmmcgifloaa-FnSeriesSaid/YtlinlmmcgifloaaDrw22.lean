/-
  DRAWS OF CHAPTER 15 (written by mkD22.py). (Own work.)
-/
import Derived.Test.YtlinlmmcgifloaaDrS
namespace Go.Proofs.Ytlinlmmcgifloaa
open Go Go.RowKit

set_option maxRecDepth 100000 in
set_option maxHeartbeats 1600000 in
theorem DrawNumeratorOf_any (W : World) (a : Option Addr) (len cap : Nat) (zs : List Int) (hr : IsRow .u8 W a len cap zs) (hl : len ≤ 1048576) :
    Calls Try.prog 23 #[.slice a len cap] W (DSg W) := by
  have hb0 := box_below W (.cells #[.slice none 0 0] 26)
  have hA0 := Arr.new W 26 [.slice none 0 0]
  have cn := l1New_any (W.alloc (.cells #[.slice none 0 0] 26)) a len cap zs (hr.below hb0) hl
  have hsz : W.heap.size < (W.alloc (.cells #[.slice none 0 0] 26)).heap.size := hA0.lt
  clear hr
  go_enter Try.func23, Try.ntmps23
  go_wp2_with fail
  refine cn.mono ?_
  rintro e w1 ⟨N, rfl, hd⟩
  have hNb := hd.base
  have hA1 := hA0.below hd.bel
  have hb1 := hb0.trans (hd.bel.mono (Nat.le_of_lt hsz))
  have hz1 := hd.bel.size
  clear cn hA0
  go_wp2_with fail
  refine (l3Bent_dr hd).mono ?_
  rintro e w2 ⟨L, av, cv, hl13, hI, rfl, hs, hf, hd2, hg2⟩
  have HI := Lib.hid hI
  have hA2 := hA1.grownN hg2 (by omega)
  have hc2 : w2.cell? ⟨W.heap.size, 0, none⟩ = some (.slice none 0 0) := hA2.cell 0
  have hf2 := hA2.frozen 0
  have hb2 := hb1.grown hg2 hb1.size (fun k hk => by cases hk; omega)
  have hcf := World.cell?_setCell_same w2 ⟨W.heap.size, 0, none⟩ (.slice av L.length cv) hc2
  have HF : Hid (DSg W (.returned (.agg #[.slice av L.length cv])) (w2.setCell ⟨W.heap.size, 0, none⟩ (.slice av L.length cv))) := Lib.hid ⟨L, av, cv, hl13, HI.out, rfl, hs.grownBy (grownBy_setCell w2 W.heap.size 0 _) hf (by omega), hb2.setCell (Nat.le_refl _) _⟩
  clear hI hs hd hd2 hg2 hA1 hA2 hb0 hb1 hb2 hf
  go_wp2_with fail
  exact bodyPost_ret (v := .agg #[.slice av L.length cv]) (by simp [results, Try.results23, go_sem, hcf]) rfl HF.out

set_option maxRecDepth 100000 in
set_option maxHeartbeats 1600000 in
theorem DrawEulerList_any (W : World) (a : Option Addr) (len cap : Nat) (zs : List Int) (hr : IsRow .u8 W a len cap zs) (hl : len ≤ 1048576) :
    Calls Try.prog 29 #[.slice a len cap] W (DSg W) := by
  have hb0 := box_below W (.cells #[.slice none 0 0] 26)
  have hA0 := Arr.new W 26 [.slice none 0 0]
  have cn := l1New_any (W.alloc (.cells #[.slice none 0 0] 26)) a len cap zs (hr.below hb0) hl
  have hsz : W.heap.size < (W.alloc (.cells #[.slice none 0 0] 26)).heap.size := hA0.lt
  clear hr
  go_enter Try.func29, Try.ntmps29
  go_wp2_with fail
  refine cn.mono ?_
  rintro e w1 ⟨N, rfl, hd⟩
  have hNb := hd.base
  have hA1 := hA0.below hd.bel
  have hb1 := hb0.trans (hd.bel.mono (Nat.le_of_lt hsz))
  have hz1 := hd.bel.size
  clear cn hA0
  go_wp2_with fail
  refine (l3Bent_dr hd).mono ?_
  rintro e w2 ⟨L, av, cv, hl13, hI, rfl, hs, hf, hd2, hg2⟩
  have HI := Lib.hid hI
  have hA2 := hA1.grownN hg2 (by omega)
  have hc2 : w2.cell? ⟨W.heap.size, 0, none⟩ = some (.slice none 0 0) := hA2.cell 0
  have hf2 := hA2.frozen 0
  have hb2 := hb1.grown hg2 hb1.size (fun k hk => by cases hk; omega)
  have hcf := World.cell?_setCell_same w2 ⟨W.heap.size, 0, none⟩ (.slice av L.length cv) hc2
  have HF : Hid (DSg W (.returned (.agg #[.slice av L.length cv])) (w2.setCell ⟨W.heap.size, 0, none⟩ (.slice av L.length cv))) := Lib.hid ⟨L, av, cv, hl13, HI.out, rfl, hs.grownBy (grownBy_setCell w2 W.heap.size 0 _) hf (by omega), hb2.setCell (Nat.le_refl _) _⟩
  clear hI hs hd hd2 hg2 hA1 hA2 hb0 hb1 hb2 hf
  go_wp2_with fail
  exact bodyPost_ret (v := .agg #[.slice av L.length cv]) (by simp [results, Try.results29, go_sem, hcf]) rfl HF.out

set_option maxRecDepth 100000 in
theorem DrawMultiplyLists_any (W : World) (a : Option Addr) (len cap : Nat) (zs : List Int) (hr : IsRow .u8 W a len cap zs) (hl : len ≤ 1048576) :
    Calls Try.prog 27 #[.slice a len cap] W (D2 6 InI64 W) := by
  go_enter Try.func27, Try.ntmps27
  go_wp2_with fail
  refine (l1New_any W a len cap zs hr hl).mono ?_
  rintro e w1 ⟨N, rfl, hd⟩
  go_wp2_with fail
  refine (l2Bent_dr hd).mono ?_
  rintro e w2 ⟨L, v, hL, hT, rfl, hown, hd2, hg2⟩
  have HO := Lib.hid hown
  have HT := Lib.hid hT
  clear hown hT
  go_wp2_with fail
  refine (l2Bent_dr hd2).mono ?_
  rintro e w3 ⟨M, u, hM, hT2, rfl, hown2, hd3, hg3⟩
  have HO2 := Lib.hid hown2
  have HT2 := Lib.hid hT2
  have HOL := Lib.hid (dr_row hd2 HO.out hd.lt hg3)
  clear hown2 hT2 HO
  go_wp2_with fail
  go_ret2
  exact ⟨L, M, v, u, hL, hM, HT.out, HT2.out, rfl, ownsBase HOL.out hd.bel.size, ownsBase HO2.out hd2.bel.size, hd3.bel⟩

set_option maxRecDepth 100000 in
set_option maxHeartbeats 1600000 in
theorem DrawSeriesFrom_any (W : World) (a : Option Addr) (len cap : Nat) (zs : List Int) (hr : IsRow .u8 W a len cap zs) (hl : len ≤ 1048576) :
    Calls Try.prog 25 #[.slice a len cap] W (D1i 6 InI64 W) := by
  go_enter Try.func25, Try.ntmps25
  go_wp2_with fail
  refine (l1New_any W a len cap zs hr hl).mono ?_
  rintro e w1 ⟨N, rfl, hd⟩
  have hlt := hd.lt
  go_wp2_with fail
  refine (l2Bent_dr hd).mono ?_
  rintro e w2 ⟨L, v, hL, hT, rfl, hown, hd2, hg2⟩
  have HO := Lib.hid hown
  have HT := Lib.hid hT
  clear hown hT
  go_wp2_with fail
  refine (l1Below_dr hd2 10 (by decide)).mono ?_
  rintro e w3 ⟨x5, ⟨hx50, hx5⟩, rfl, hd3, hg3⟩
  have hx5b : x5 < 10 := by omega
  have HO3 := Lib.hid (dr_row hd2 HO.out hlt hg3)
  clear hx5 HO
  go_wp2_with fail
  refine (l1Below_dr hd3 10 (by decide)).mono ?_
  rintro e w4 ⟨x6, ⟨hx60, hx6⟩, rfl, hd4, hg4⟩
  have hx6b : x6 < 10 := by omega
  have HO4 := Lib.hid (dr_row hd3 HO3.out hlt hg4)
  have hlt4 := hd4.lt
  clear hx6 HO3
  go_wp2_with fail
  refine (l1PickInt_dr (hd4.alloc _) [x5, x6, 0, -1, 1001] w4.heap.size 5 (by simp) (by simp) (by simp) (by omega) ?_).mono ?_
  · intro i u h
    rw [cell_new]
    exact h
  rintro e w5 ⟨y, hy, rfl, hd5, hg5⟩
  have hy64 : InI64 y := by
    unfold InI64
    simp only [List.mem_cons, List.mem_nil_iff, or_false] at hy
    omega
  have HO5 := Lib.hid (dr_row (hd4.alloc _) (HO4.out.alloc _) hlt hg5)
  have hb5 := hd5.bel
  have hb1 := hd.bel.size
  clear hy HO4 hd5 hd4 hd3 hd2 hd hg2 hg3 hg4 hg5
  go_wp2_with fail
  go_ret2
  exact ⟨L, v, y, hL, HT.out, hy64, rfl, ownsBase HO5.out hb1, hb5⟩

set_option maxRecDepth 100000 in
set_option maxHeartbeats 3200000 in
theorem DrawEulerAt_any (W : World) (a : Option Addr) (len cap : Nat) (zs : List Int) (hr : IsRow .u8 W a len cap zs) (hl : len ≤ 1048576) :
    Calls Try.prog 28 #[.slice a len cap] W (DSgi W) := by
  have hb0 := box_below W (.cells #[.slice none 0 0] 26)
  have hA0 := Arr.new W 26 [.slice none 0 0]
  have cn := l1New_any (W.alloc (.cells #[.slice none 0 0] 26)) a len cap zs (hr.below hb0) hl
  have hsz : W.heap.size < (W.alloc (.cells #[.slice none 0 0] 26)).heap.size := hA0.lt
  clear hr
  go_enter Try.func28, Try.ntmps28
  go_wp2_with fail
  refine cn.mono ?_
  rintro e w1 ⟨N, rfl, hd⟩
  have hNb := hd.base
  have hN1 := hd.lt
  have hA1 := hA0.below hd.bel
  have hb1 := hb0.trans (hd.bel.mono (Nat.le_of_lt hsz))
  have hz1 := hd.bel.size
  clear cn hA0
  go_wp2_with fail
  refine (l3Bent_dr hd).mono ?_
  rintro e w2 ⟨L, av, cv, hl13, hI, rfl, hs, hf, hd2, hg2⟩
  have HI := Lib.hid hI
  have hrN : W.heap.size ≠ N := by omega
  have hbN : w2.heap.size ≠ N := by have := hg2.size; omega
  have hR2 := hA1.grownN hg2 hrN
  have hb2 := hb1.grown hg2 hb1.size (fun k hk => by cases hk; omega)
  have hz2 := hg2.size
  have hB3 := Arr.new w2 26 [.slice av L.length cv]
  obtain ⟨w3, hw3⟩ : ∃ w3, w3 = w2.alloc (.cells #[.slice av L.length cv] 26) := ⟨_, rfl⟩
  have hd3 : Dr (W.alloc (.cells #[.slice none 0 0] 26)) w3 N a len cap zs := by rw [hw3]; exact hd2.alloc _
  have hR3 : Arr w3 W.heap.size 26 [.slice none 0 0] := by rw [hw3]; exact hR2.alloc _
  have hB3' : Arr w3 w2.heap.size 26 [.slice av L.length cv] := by rw [hw3]; exact hB3
  have hs3 : SlW w3 av cv (L.map (Value.int .i64)) := by rw [hw3]; exact hs.below (box_below w2 _)
  have hb3 : Below W.heap.size W w3 := by rw [hw3]; exact hb2.alloc hb2.size _
  have hcb : w3.drew.cell? ⟨w2.heap.size, 0, none⟩ = some (.slice av L.length cv) := hB3'.cell 0
  have HW3 := Lib.hid hw3
  have hz3 : w2.heap.size < w3.heap.size := hB3'.lt
  have hNs : ∀ p, av = some p → p.block ≠ N := fun p hp => by have := hf p hp; omega
  have hWN : W.heap.size ≤ N := by omega
  have hdd : Dr (W.alloc (.cells #[.slice none 0 0] 26)) w3.drew N a len cap zs := hd3.drewN 1
  have hR3d : Arr w3.drew W.heap.size 26 [.slice none 0 0] := hR3
  have hs3d : SlW w3.drew av cv (L.map (Value.int .i64)) := ⟨hs3.sl, hs3.nil0, hs3.le, hs3.mx⟩
  have hb3d : Below W.heap.size W w3.drew := hb3.drew
  have pk : ∀ (x5 x6 : Int) (w6 : World), Dr (W.alloc (.cells #[.slice none 0 0] 26)) w6 N a len cap zs → Calls Try.prog 89 #[.pointer (some ⟨N, 0, none⟩), .slice (some ⟨w6.heap.size, 0, none⟩) 5 5] (w6.alloc (.cells #[.int .i64 x5, .int .i64 x6, .int .i64 (-1), .int .i64 1001, .int .i64 1000] 3)) fun e w' => ∃ x ∈ ([x5, x6, -1, 1001, 1000] : List Int), e = .returned (.int .i64 x) ∧ Dr (W.alloc (.cells #[.slice none 0 0] 26)) w' N a len cap zs ∧ (w6.alloc (.cells #[.int .i64 x5, .int .i64 x6, .int .i64 (-1), .int .i64 1001, .int .i64 1000] 3)).grownBy w' (some N) := fun x5 x6 w6 hd6 => l1PickInt_dr (hd6.alloc (.cells #[.int .i64 x5, .int .i64 x6, .int .i64 (-1), .int .i64 1001, .int .i64 1000] 3)) [x5, x6, -1, 1001, 1000] w6.heap.size 5 (by simp) (by simp) (by simp) (by have := hd6.lt; omega) (fun i u h => ((Arr.new w6 3 (([x5, x6, -1, 1001, 1000] : List Int).map (Value.int .i64))).cell i).trans h)
  clear hw3 hI hd hd2 hg2 hA1 hb0 hb1 hb2 hR2 hB3 hs hB3' hR3 hs3 hb3 hd3
  go_wp2_with fail
  rw [← HW3.out]
  refine wp_region_held_drew (S := fun w' => w'.cell? ⟨w2.heap.size, 0, none⟩ = some (.slice av L.length cv)) (by kernel_rfl) hcb (fun hHeld => ?_)
  refine held_take 0 _ _ rfl (by kernel_rfl) (by kernel_rfl) (by kernel_rfl) (fun _ _ _ h => h) (by rfl) hHeld (fun w hSw => by (try dsimp only at hSw); go_simp; try with_reducible rfl) ?_
  (try simp only [Act.put, List.setIfInBounds_toArray, List.set_cons_zero, List.set_cons_succ, List.getElem_toArray, List.getElem_cons_zero])
  refine held_take 1 _ _ rfl (by kernel_rfl) (by kernel_rfl) (by kernel_rfl) (fun _ _ _ h => h) (by rfl) hHeld (fun w hSw => by (try dsimp only at hSw); go_simp; try with_reducible rfl) ?_
  (try simp only [Act.put, List.setIfInBounds_toArray, List.set_cons_zero, List.set_cons_succ, List.getElem_toArray, List.getElem_cons_succ, List.getElem_cons_zero])
  refine held_take 2 _ _ rfl (by kernel_rfl) (by kernel_rfl) (by kernel_rfl) (fun _ _ _ h => h) (by rfl) hHeld (fun w hSw => by (try dsimp only at hSw); go_simp; try with_reducible rfl) ?_
  (try simp only [Act.put, List.setIfInBounds_toArray, List.set_cons_zero, List.set_cons_succ, List.getElem_toArray, List.getElem_cons_succ, List.getElem_cons_zero])
  refine held_take 4 _ _ rfl (by kernel_rfl) (by kernel_rfl) (by kernel_rfl) (fun _ _ _ h => h) (by rfl) hHeld (fun w hSw => by (try dsimp only at hSw); go_simp; try with_reducible rfl) ?_
  (try simp only [Act.put, List.setIfInBounds_toArray, List.set_cons_zero, List.set_cons_succ, List.getElem_toArray, List.getElem_cons_succ, List.getElem_cons_zero])
  refine wpAnyH_ready (rs := [3]) (by kernel_rfl) (by simp) ?_
  refine AllReadyH.cons rfl (fun K hK => ?_) AllReadyH.nil
  rw [if_pos (by rfl)]
  go_wp2_with (first | (go_at_call 90; (with_reducible refine (l1Below_dr hdd 80 (by decide)).mono ?_); rintro e w5 ⟨x5, ⟨hx50, hx5⟩, rfl, hd5, hg5⟩; have hx5b : x5 < 80 := (by omega); clear hx5; have hz5' : w3.heap.size ≤ w5.heap.size := hg5.size))
  refine hK.out _ _ ((grown_cell (w := w3.drew) hg5 (by show w2.heap.size < w3.heap.size; omega) hbN).trans hHeld) (fun hHeld1 => ?_)
  clear hK K
  (try simp only [Act.put, List.setIfInBounds_toArray, List.set_cons_zero, List.set_cons_succ, List.getElem_toArray, List.getElem_cons_succ, List.getElem_cons_zero])
  refine wpAnyH_ready (rs := [5]) (by kernel_rfl) (by simp) ?_
  refine AllReadyH.cons rfl (fun K hK => ?_) AllReadyH.nil
  rw [if_pos (by rfl)]
  go_wp2_with (first | (go_at_call 90; (with_reducible refine (l1Below_dr hd5 80 (by decide)).mono ?_); rintro e w6 ⟨x6, ⟨hx60, hx6⟩, rfl, hd6, hg6⟩; have hx6b : x6 < 80 := (by omega); clear hx6; have hz6' : w5.heap.size ≤ w6.heap.size := hg6.size))
  refine hK.out _ _ ((grown_cell (w := w5) hg6 (by show w2.heap.size < w5.heap.size; omega) hbN).trans hHeld1) (fun hHeld2 => ?_)
  clear hK K
  (try simp only [Act.put, List.setIfInBounds_toArray, List.set_cons_zero, List.set_cons_succ, List.getElem_toArray, List.getElem_cons_succ, List.getElem_cons_zero])
  refine wpAnyH_ready (rs := [6]) (by kernel_rfl) (by simp) ?_
  refine AllReadyH.cons rfl (fun K hK => ?_) AllReadyH.nil
  rw [if_pos (by rfl)]
  go_wp2_with fail
  refine hK.out _ _ ((by rw [World.cell?_alloc_lt _ _ _ (show w2.heap.size < w6.heap.size by omega)]; exact hHeld2)) (fun hHeld3 => ?_)
  clear hK K
  (try simp only [Act.put, List.setIfInBounds_toArray, List.set_cons_zero, List.set_cons_succ, List.getElem_toArray, List.getElem_cons_succ, List.getElem_cons_zero])
  refine wpAnyH_ready (rs := [7]) (by kernel_rfl) (by simp) ?_
  refine AllReadyH.cons rfl (fun K hK => ?_) AllReadyH.nil
  rw [if_pos (by rfl)]
  go_wp2_with (first | (go_at_call 89; (with_reducible refine (pk x5 x6 w6 hd6).mono ?_); rintro e w7 ⟨y, hy, rfl, hd7, hg7⟩; have hz7' : w6.heap.size + 1 ≤ w7.heap.size := (by have := hg7.size; simp at this; omega); have hR7 := ((((hR3d.grownN hg5 hrN).grownN hg6 hrN).alloc (.cells #[.int .i64 x5, .int .i64 x6, .int .i64 (-1), .int .i64 1001, .int .i64 1000] 3)).grownN hg7 hrN); have hcr7 : w7.cell? ⟨W.heap.size, 0, none⟩ = some (.slice none 0 0) := hR7.cell 0; have hfr7 := hR7.frozen 0))
  refine hK.out _ _ ((grown_cell hg7 (by simp; omega) hbN).trans hHeld3) (fun hHeld4 => ?_)
  clear hK K
  (try simp only [Act.put, List.setIfInBounds_toArray, List.set_cons_zero, List.set_cons_succ, List.getElem_toArray, List.getElem_cons_succ, List.getElem_cons_zero])
  refine wpAnyH_ready (rs := [8]) (by kernel_rfl) (by simp) ?_
  refine AllReadyH.cons rfl (fun K hK => ?_) AllReadyH.nil
  rw [if_pos (by rfl)]
  go_wp2_with fail
  refine hK.out _ _ ((World.cell?_setCell_other _ _ _ _ (by first | (simp; done) | (simp; omega))).trans hHeld4) (fun hHeld5 => ?_)
  clear hK K
  (try simp only [Act.put, List.setIfInBounds_toArray, List.set_cons_zero, List.set_cons_succ, List.getElem_toArray, List.getElem_cons_succ, List.getElem_cons_zero])
  refine held_take 9 _ _ rfl (by kernel_rfl) (by kernel_rfl) (by kernel_rfl) (fun _ _ _ h => h) (by rfl) hHeld5 (fun w hSw => by (try dsimp only at hSw); go_simp; try with_reducible rfl) ?_
  (try simp only [Act.put, List.setIfInBounds_toArray, List.set_cons_zero, List.set_cons_succ, List.getElem_toArray, List.getElem_cons_succ, List.getElem_cons_zero])
  refine wpAnyH_done (by kernel_rfl) ?_ _
  have hs7 := ((((hs3d.grownN hg5 hNs).grownN hg6 hNs).below (box_below w6 (.cells #[.int .i64 x5, .int .i64 x6, .int .i64 (-1), .int .i64 1001, .int .i64 1000] 3))).grownN hg7 hNs)
  have hb5 := hb3d.grown hg5 hb3d.size (fun k hk => by cases hk; exact hWN)
  have hb6 := hb5.grown hg6 hb5.size (fun k hk => by cases hk; exact hWN)
  have hb6' := hb6.alloc hb6.size (.cells #[.int .i64 x5, .int .i64 x6, .int .i64 (-1), .int .i64 1001, .int .i64 1000] 3)
  have hb7 := hb6'.grown hg7 hb6'.size (fun k hk => by cases hk; exact hWN)
  have hy64 : InI64 y := by
    unfold InI64
    simp only [List.mem_cons, List.mem_nil_iff, or_false] at hy
    omega
  have hcf := World.cell?_setCell_same w7 ⟨W.heap.size, 0, none⟩ (.slice av L.length cv) hcr7
  have hz2W : W.heap.size + 1 ≤ w1.heap.size := by first | omega | (have := hN1; omega)
  have hfW : ∀ p, av = some p → W.heap.size < p.block := fun p hp => by have := hf p hp; omega
  have HF : Hid (DSgi W (.returned (.tuple #[.agg #[.slice av L.length cv], .int .i64 y])) (w7.setCell ⟨W.heap.size, 0, none⟩ (.slice av L.length cv))) := Lib.hid ⟨L, av, cv, y, hl13, HI.out, hy64, rfl, hs7.grownN (grownBy_setCell w7 W.heap.size 0 _) (fun p hp => by have := hfW p hp; omega), hb7.setCell (Nat.le_refl _) _⟩
  go_wp2_with fail
  exact bodyPost_ret (v := .tuple #[.agg #[.slice av L.length cv], .int .i64 y]) (by simp [results, Try.results28, go_sem, hcf]) rfl HF.out

set_option maxRecDepth 100000 in
set_option maxHeartbeats 1600000 in
theorem DrawIsPalindrome_any (W : World) (a : Option Addr) (len cap : Nat) (zs : List Int) (hr : IsRow .u8 W a len cap zs) (hl : len ≤ 1048576) :
    Calls Try.prog 26 #[.slice a len cap] W (D1 10 InI64 W) := by
  obtain ⟨i0, hi, hz0, hz1, hz2⟩ := info_parts infoIntL
  go_enter Try.func26, Try.ntmps26
  go_wp2_with fail
  refine (l1New_any W a len cap zs hr hl).mono ?_
  rintro e w1 ⟨N, rfl, hd⟩
  have hlt := hd.lt
  go_wp2_with fail
  refine (l2Draw_dr hd).mono ?_
  rintro e w2 ⟨L, v, hL, hT, rfl, hown, hd2, hg2⟩
  have HO := Lib.hid hown
  have HT := Lib.hid hT
  have hsz2 := hg2.size
  clear hown hT
  obtain ⟨av, cv, rfl, hrv⟩ := row_open HO.out
  clear hrv
  go_wp2_with fail
  refine (l1Once_dr hd2 2 (by decide)).mono ?_
  rintro e w3 ⟨b, rfl, hd3, hg3⟩
  have HO3 := Lib.hid (dr_row hd2 HO.out hlt hg3)
  have hsz3 := hg3.size
  have hb1 := hd.bel.size
  clear HO hd2 hg2 hg3 hd
  cases b
  · go_wp2_with fail
    go_ret
    exact ⟨L, _, by omega, fun x h => (HT.out x h).in64, rfl, ownsBase HO3.out hb1, hd3.bel⟩
  · obtain ⟨n, hn⟩ : ∃ n, n = L.length := ⟨_, rfl⟩
    have HL := Lib.hid hn
    have hn5 : n ≤ 5 := by omega
    clear hn
    go_wp2_with fail
    rw [← HL.out]
    go_loopw [4, 6] (fun q i wr => ∃ (k : Nat) (M : List Int), k ≤ n ∧ i = .int .i64 (k : Int) ∧ M.length = n + k ∧ (∀ x ∈ M, Tiny x) ∧ wr.ownsRow w1.heap.size 3 1 q M.length (M.map (Value.int .i64)) ∧ Dr W wr N a len cap zs ∧ w3.heap.size ≤ wr.heap.size) (fun _ i _ => n - (intOf i).toNat)
    case atStart => exact ⟨0, L, Nat.zero_le _, rfl, HL.out.symm, HT.out, by first | exact HO3.out | (have h := HO3.out; rw [HL.out]; exact h), hd3, Nat.le_refl _⟩
    case round =>
      clear HO3 hd3
      obtain ⟨k, M, hk, rfl, hMk, hT, hown, hd, hsw⟩ := hrel
      have HL2 := Lib.hid hMk
      have HT2 := Lib.hid hT
      have hM10 : M.length ≤ 10 := by omega
      clear hT
      by_cases hkn : k < n
      · have hkn' : (k : Int) < (n : Int) := by omega
        obtain ⟨bv, dv, rfl, hrv⟩ := row_open hown
        obtain ⟨g, off, rfl, hgs, hcl⟩ := hrv.slv.open (by intro h; rw [List.map_eq_nil_iff] at h; rw [h] at hMk; simp at hMk; omega)
        have hix : n - 1 - k < M.length := by omega
        have hcell : wr.cell? ⟨g, off + (n - 1 - k), none⟩ = some (.int .i64 M[n - 1 - k]) := hcl (n - 1 - k) _ (by simp [hix])
        have hty := HT2.out _ (List.getElem_mem hix)
        have hw1 : IntKind.i64.wrap ((n : Int) - 1) = (n : Int) - 1 := IntWalk.i64_in _ (by omega)
        have hw2 : IntKind.i64.wrap ((n : Int) - 1 - (k : Int)) = ((n - 1 - k : Nat) : Int) := by rw [IntWalk.i64_in _ (by omega)]; omega
        have hj0 : (0 : Int) ≤ ((n - 1 - k : Nat) : Int) := by omega
        have hj1 : ((n - 1 - k : Nat) : Int) < (M.length : Int) := by omega
        generalize M[n - 1 - k] = y at *
        obtain ⟨j, hj⟩ : ∃ j, j = n - 1 - k := ⟨_, rfl⟩
        rw [← hj] at hcell hw2 hj0 hj1
        clear hcl hix hrv hMk hj
        go_wp2_with (at_builtin; refine wpList_append_own _ rfl _ _ 24 rfl w1.heap.size 3 i0 (Value.int .i64 0) 1 8 Try.underlying24 hi hz0 hz1 hz2 rfl (by decide) _ _ _ rfl (hown.alloc _) ⟨_, 0, none⟩ 1 1 [.int .i64 y] rfl rfl (World.news_of_block (cs := #[.int .i64 y]) (t := 3) (fr := (0, 0)) (heap_alloc_new _ _)) (by simp [Value.oneCell']) (by unfold maxLen; omega) (by omega) (by simp; omega) ?_; intro v4 w4 hown4 hgr4 HK4)
        have hlow := hown.lt
        have hd4 : Dr W w4 N a len cap zs := (hd.alloc _).grownR hgr4 (fun i hi => by have h1 := (hlow i hi).1; have h2 := hd.base; omega)
        have hs4 : w3.heap.size ≤ w4.heap.size := by have h1 := hgr4.size; simp at h1; omega
        have HO4 := Lib.hid hown4
        clear hown hd hown4 hgr4 hlow HK4
        go_wp2_with fail
        go_roundw
        case rel =>
          refine ⟨k + 1, M ++ [y], by omega, by go_num, by have := HL2.out; simp; omega, ?_, by have := HO4.out; simpa using this, hd4, hs4⟩
          intro z hz
          rcases List.mem_append.1 hz with h | h
          · exact HT2.out z h
          · rw [List.mem_singleton.1 h]; exact hty
        case measure => simp [intOf]; omega
      · have hkn' : ¬ (k : Int) < (n : Int) := by omega
        have HOF := Lib.hid hown
        have hbF := hd.bel
        clear hown hd
        go_wp2_with fail
        go_ret
        exact ⟨M, _, hM10, fun x h => (HT2.out x h).in64, rfl, ownsBase HOF.out hb1, hbF⟩
end Go.Proofs.Ytlinlmmcgifloaa
