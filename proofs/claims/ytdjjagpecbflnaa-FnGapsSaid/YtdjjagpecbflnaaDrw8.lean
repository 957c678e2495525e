/-
  CONTRACTS of the draws of chapter 4.
-/
import Derived.Test.YtdjjagpecbflnaaDrw5
namespace Go.Proofs.Ytdjjagpecbflnaa
open Go Go.RowKit

set_option maxRecDepth 100000 in
set_option maxHeartbeats 1600000 in
theorem DrawGaps_any (W : World) (a : Option Addr) (len cap : Nat) (zs : List Int) (hr : IsRow .u8 W a len cap zs) (hl : len ≤ 1048576) :
    Calls Try.prog 12 #[.slice a len cap] W (DSg W) := by
  have hb0 := box_below W (.cells #[.slice none 0 0] 26)
  have hA0 := Arr.new W 26 [.slice none 0 0]
  have cn := l1New_any (W.alloc (.cells #[.slice none 0 0] 26)) a len cap zs (hr.below hb0) hl
  have hsz : W.heap.size < (W.alloc (.cells #[.slice none 0 0] 26)).heap.size := hA0.lt
  clear hr
  go_enter Try.func12, Try.ntmps12
  go_wp2_with fail
  refine cn.mono ?_
  rintro e w1 ⟨N, rfl, hd⟩
  have hNb := hd.base
  have hA1 := hA0.below hd.bel
  have hb1 := hb0.trans (hd.bel.mono (Nat.le_of_lt hsz))
  have hz1 := hd.bel.size
  clear cn hA0
  go_wp2_with fail
  refine (l3Bent_dr hd).mono ?_
  rintro e w2 ⟨L, av, cv, hl13, hI, rfl, hs, hf, hd2, hg2⟩
  have HI := Lib.hid hI
  have hA2 := hA1.grownN hg2 (by omega)
  have hc2 : w2.cell? ⟨W.heap.size, 0, none⟩ = some (.slice none 0 0) := hA2.cell 0
  have hf2 := hA2.frozen 0
  have hb2 := hb1.grown hg2 hb1.size (fun k hk => by cases hk; omega)
  have hcf := World.cell?_setCell_same w2 ⟨W.heap.size, 0, none⟩ (.slice av L.length cv) hc2
  have HF : Hid (DSg W (.returned (.agg #[.slice av L.length cv])) (w2.setCell ⟨W.heap.size, 0, none⟩ (.slice av L.length cv))) := Lib.hid ⟨L, av, cv, hl13, HI.out, rfl, hs.grownBy (grownBy_setCell w2 W.heap.size 0 _) hf (by omega), hb2.setCell (Nat.le_refl _) _⟩
  clear hI hs hd hd2 hg2 hA1 hA2 hb0 hb1 hb2 hf
  go_wp2_with fail
  exact bodyPost_ret (v := .agg #[.slice av L.length cv]) (by simp [results, Try.results12, go_sem, hcf]) rfl HF.out


set_option maxRecDepth 100000 in
set_option maxHeartbeats 3200000 in
theorem DrawElementAt_any (W : World) (a : Option Addr) (len cap : Nat) (zs : List Int) (hr : IsRow .u8 W a len cap zs) (hl : len ≤ 1048576) :
    Calls Try.prog 15 #[.slice a len cap] W (DSgi W) := by
  have hb0 := box_below W (.cells #[.slice none 0 0] 26)
  have hA0 := Arr.new W 26 [.slice none 0 0]
  have cn := l1New_any (W.alloc (.cells #[.slice none 0 0] 26)) a len cap zs (hr.below hb0) hl
  have hsz : W.heap.size < (W.alloc (.cells #[.slice none 0 0] 26)).heap.size := hA0.lt
  clear hr
  go_enter Try.func15, Try.ntmps15
  go_wp2_with fail
  refine cn.mono ?_
  rintro e w1 ⟨N, rfl, hd⟩
  have hNb := hd.base
  have hN1 := hd.lt
  have hA1 := hA0.below hd.bel
  have hb1 := hb0.trans (hd.bel.mono (Nat.le_of_lt hsz))
  have hz1 := hd.bel.size
  clear cn hA0
  go_wp2_with fail
  refine (l3Bent_dr hd).mono ?_
  rintro e w2 ⟨L, av, cv, hl13, hI, rfl, hs, hf, hd2, hg2⟩
  have HI := Lib.hid hI
  have hrN : W.heap.size ≠ N := by omega
  have hbN : w2.heap.size ≠ N := by have := hg2.size; omega
  have hR2 := hA1.grownN hg2 hrN
  have hb2 := hb1.grown hg2 hb1.size (fun k hk => by cases hk; omega)
  have hz2 := hg2.size
  have hB3 := Arr.new w2 26 [.slice av L.length cv]
  obtain ⟨w3, hw3⟩ : ∃ w3, w3 = w2.alloc (.cells #[.slice av L.length cv] 26) := ⟨_, rfl⟩
  have hd3 : Dr (W.alloc (.cells #[.slice none 0 0] 26)) w3 N a len cap zs := by rw [hw3]; exact hd2.alloc _
  have hR3 : Arr w3 W.heap.size 26 [.slice none 0 0] := by rw [hw3]; exact hR2.alloc _
  have hB3' : Arr w3 w2.heap.size 26 [.slice av L.length cv] := by rw [hw3]; exact hB3
  have hs3 : SlW w3 av cv (L.map (Value.int .i64)) := by rw [hw3]; exact hs.below (box_below w2 _)
  have hb3 : Below W.heap.size W w3 := by rw [hw3]; exact hb2.alloc hb2.size _
  have hcb : w3.drew.cell? ⟨w2.heap.size, 0, none⟩ = some (.slice av L.length cv) := hB3'.cell 0
  have hdd : Dr (W.alloc (.cells #[.slice none 0 0] 26)) w3.drew N a len cap zs := hd3.drewN 1
  have hz3 := hB3'.lt
  have pk : ∀ (x4 x5 : Int) (w6 : World), Dr (W.alloc (.cells #[.slice none 0 0] 26)) w6 N a len cap zs → Calls Try.prog 45 #[.pointer (some ⟨N, 0, none⟩), .slice (some ⟨w6.heap.size, 0, none⟩) 5 5] (w6.alloc (.cells #[.int .i64 x4, .int .i64 x5, .int .i64 200, .int .i64 201, .int .i64 (-1)] 3)) fun e w' => ∃ x ∈ [x4, x5, 200, 201, -1], e = .returned (.int .i64 x) ∧ Dr (W.alloc (.cells #[.slice none 0 0] 26)) w' N a len cap zs ∧ (w6.alloc (.cells #[.int .i64 x4, .int .i64 x5, .int .i64 200, .int .i64 201, .int .i64 (-1)] 3)).grownBy w' (some N) := fun x4 x5 w6 hd6 => l1PickInt_dr (hd6.alloc (.cells #[.int .i64 x4, .int .i64 x5, .int .i64 200, .int .i64 201, .int .i64 (-1)] 3)) [x4, x5, 200, 201, -1] w6.heap.size 5 (by simp) (by simp) (by simp) (by have := hd6.lt; omega) (fun i u h => ((Arr.new w6 3 ([x4, x5, 200, 201, -1].map (Value.int .i64))).cell i).trans h)
  have HW3 := Lib.hid hw3
  clear hw3 hI hd hd2 hg2 hA1 hb0 hb1 hb2 hR2 hB3 hs hd3
  go_wp2_with fail
  rw [← HW3.out]
  refine wp_region_held_drew (S := fun w' => w'.cell? ⟨w2.heap.size, 0, none⟩ = some (.slice av L.length cv)) (by kernel_rfl) hcb (fun hHeld => ?_)
  refine held_take 0 _ _ rfl (by kernel_rfl) (by kernel_rfl) (by kernel_rfl) (fun _ _ _ h => h) (by rfl) hHeld (fun w hSw => by (try dsimp only at hSw); go_simp; try with_reducible rfl) ?_
  (try simp only [Act.put, List.setIfInBounds_toArray, List.set_cons_zero, List.set_cons_succ, List.getElem_toArray, List.getElem_cons_zero])
  refine held_take 1 _ _ rfl (by kernel_rfl) (by kernel_rfl) (by kernel_rfl) (fun _ _ _ h => h) (by rfl) hHeld (fun w hSw => by (try dsimp only at hSw); go_simp; try with_reducible rfl) ?_
  (try simp only [Act.put, List.setIfInBounds_toArray, List.set_cons_zero, List.set_cons_succ, List.getElem_toArray, List.getElem_cons_succ, List.getElem_cons_zero])
  refine held_take 2 _ _ rfl (by kernel_rfl) (by kernel_rfl) (by kernel_rfl) (fun _ _ _ h => h) (by rfl) hHeld (fun w hSw => by (try dsimp only at hSw); go_simp; try with_reducible rfl) ?_
  (try simp only [Act.put, List.setIfInBounds_toArray, List.set_cons_zero, List.set_cons_succ, List.getElem_toArray, List.getElem_cons_succ, List.getElem_cons_zero])
  refine held_take 4 _ _ rfl (by kernel_rfl) (by kernel_rfl) (by kernel_rfl) (fun _ _ _ h => h) (by rfl) hHeld (fun w hSw => by (try dsimp only at hSw); go_simp; try with_reducible rfl) ?_
  (try simp only [Act.put, List.setIfInBounds_toArray, List.set_cons_zero, List.set_cons_succ, List.getElem_toArray, List.getElem_cons_succ, List.getElem_cons_zero])
  refine wpAnyH_ready (rs := [3]) (by kernel_rfl) (by simp) ?_
  refine AllReadyH.cons rfl (fun K hK => ?_) AllReadyH.nil
  rw [if_pos (by rfl)]
  go_wp2_with (first | (go_at_call 46; (with_reducible refine (l1Below_dr hdd 30 (by decide)).mono ?_); rintro e w4 ⟨x4, ⟨hx40, hx4⟩, rfl, hd4, hg4⟩; have hx4b : x4 < 30 := (by omega); clear hx4; have hz4' : w3.heap.size ≤ w4.heap.size := hg4.size))
  refine hK.out _ _ ((grown_cell (w := w3.drew) hg4 (by show w2.heap.size < w3.heap.size; omega) hbN).trans hHeld) (fun hHeld1 => ?_)
  clear hK K
  (try simp only [Act.put, List.setIfInBounds_toArray, List.set_cons_zero, List.set_cons_succ, List.getElem_toArray, List.getElem_cons_succ, List.getElem_cons_zero])
  refine wpAnyH_ready (rs := [5]) (by kernel_rfl) (by simp) ?_
  refine AllReadyH.cons rfl (fun K hK => ?_) AllReadyH.nil
  rw [if_pos (by rfl)]
  go_wp2_with (first | (go_at_call 46; (with_reducible refine (l1Below_dr hd4 30 (by decide)).mono ?_); rintro e w6 ⟨x5, ⟨hx50, hx5⟩, rfl, hd6, hg6⟩; have hx5b : x5 < 30 := (by omega); clear hx5; have hz6' : w4.heap.size ≤ w6.heap.size := hg6.size))
  refine hK.out _ _ ((grown_cell (w := w4) hg6 (by show w2.heap.size < w4.heap.size; omega) hbN).trans hHeld1) (fun hHeld2 => ?_)
  clear hK K
  (try simp only [Act.put, List.setIfInBounds_toArray, List.set_cons_zero, List.set_cons_succ, List.getElem_toArray, List.getElem_cons_succ, List.getElem_cons_zero])
  refine wpAnyH_ready (rs := [6]) (by kernel_rfl) (by simp) ?_
  refine AllReadyH.cons rfl (fun K hK => ?_) AllReadyH.nil
  rw [if_pos (by rfl)]
  go_wp2_with fail
  refine hK.out _ _ (by rw [World.cell?_alloc_lt _ _ _ (show w2.heap.size < w6.heap.size by omega)]; exact hHeld2) (fun hHeld3 => ?_)
  clear hK K
  (try simp only [Act.put, List.setIfInBounds_toArray, List.set_cons_zero, List.set_cons_succ, List.getElem_toArray, List.getElem_cons_succ, List.getElem_cons_zero])
  refine wpAnyH_ready (rs := [7]) (by kernel_rfl) (by simp) ?_
  refine AllReadyH.cons rfl (fun K hK => ?_) AllReadyH.nil
  rw [if_pos (by rfl)]
  go_wp2_with (first | (go_at_call 45; (with_reducible refine (pk x4 x5 w6 hd6).mono ?_); rintro e w7 ⟨y, hy, rfl, hd7, hg7⟩; have hz7' : w6.heap.size + 1 ≤ w7.heap.size := (by have := hg7.size; simp at this; omega); have hR7 := ((((hR3.drew.grownN hg4 hrN).grownN hg6 hrN).alloc (.cells #[.int .i64 x4, .int .i64 x5, .int .i64 200, .int .i64 201, .int .i64 (-1)] 3)).grownN hg7 hrN); have hcr7 : w7.cell? ⟨W.heap.size, 0, none⟩ = some (.slice none 0 0) := hR7.cell 0; have hfr7 := hR7.frozen 0))
  refine hK.out _ _ ((grown_cell hg7 (by simp; omega) hbN).trans hHeld3) (fun hHeld4 => ?_)
  clear hK K
  (try simp only [Act.put, List.setIfInBounds_toArray, List.set_cons_zero, List.set_cons_succ, List.getElem_toArray, List.getElem_cons_succ, List.getElem_cons_zero])
  refine wpAnyH_ready (rs := [8]) (by kernel_rfl) (by simp) ?_
  refine AllReadyH.cons rfl (fun K hK => ?_) AllReadyH.nil
  rw [if_pos (by rfl)]
  go_wp2_with fail
  refine hK.out _ _ ((World.cell?_setCell_other _ _ _ _ (by first | (simp; done) | (simp; omega))).trans hHeld4) (fun hHeld5 => ?_)
  clear hK K
  (try simp only [Act.put, List.setIfInBounds_toArray, List.set_cons_zero, List.set_cons_succ, List.getElem_toArray, List.getElem_cons_succ, List.getElem_cons_zero])
  refine held_take 9 _ _ rfl (by kernel_rfl) (by kernel_rfl) (by kernel_rfl) (fun _ _ _ h => h) (by rfl) hHeld5 (fun w hSw => by (try dsimp only at hSw); go_simp; try with_reducible rfl) ?_
  (try simp only [Act.put, List.setIfInBounds_toArray, List.set_cons_zero, List.set_cons_succ, List.getElem_toArray, List.getElem_cons_succ, List.getElem_cons_zero])
  refine wpAnyH_done (by kernel_rfl) ?_ _
  have hNs : ∀ p, av = some p → p.block ≠ N := fun p hp => by have := hf p hp; omega
  have hWN : W.heap.size ≤ N := by omega
  have hs7 := (((SlW.grownN (w := w3.drew) ⟨hs3.sl, hs3.nil0, hs3.le, hs3.mx⟩ hg4 hNs).grownN hg6 hNs).below (box_below w6 (.cells #[.int .i64 x4, .int .i64 x5, .int .i64 200, .int .i64 201, .int .i64 (-1)] 3))).grownN hg7 hNs
  have hb4 := hb3.drew.grown hg4 hb3.size (fun k hk => by cases hk; exact hWN)
  have hb6 := hb4.grown hg6 hb4.size (fun k hk => by cases hk; exact hWN)
  have hb6' := hb6.alloc hb6.size (.cells #[.int .i64 x4, .int .i64 x5, .int .i64 200, .int .i64 201, .int .i64 (-1)] 3)
  have hb7 := hb6'.grown hg7 hb6'.size (fun k hk => by cases hk; exact hWN)
  have hy64 : InI64 y := by
    unfold InI64
    simp only [List.mem_cons, List.mem_nil_iff, or_false] at hy
    omega
  have hcf := World.cell?_setCell_same w7 ⟨W.heap.size, 0, none⟩ (.slice av L.length cv) hcr7
  have HF : Hid (DSgi W (.returned (.tuple #[.agg #[.slice av L.length cv], .int .i64 y])) (w7.setCell ⟨W.heap.size, 0, none⟩ (.slice av L.length cv))) := Lib.hid ⟨L, av, cv, y, hl13, HI.out, hy64, rfl, hs7.grownBy (grownBy_setCell w7 W.heap.size 0 _) hf (by omega), hb7.setCell (Nat.le_refl _) _⟩
  go_wp2_with fail
  exact bodyPost_ret (v := .tuple #[.agg #[.slice av L.length cv], .int .i64 y]) (by simp [results, Try.results15, go_sem, hcf]) rfl HF.out


set_option maxRecDepth 100000 in
set_option maxHeartbeats 3200000 in
theorem DrawIndexOfElement_any (W : World) (a : Option Addr) (len cap : Nat) (zs : List Int) (hr : IsRow .u8 W a len cap zs) (hl : len ≤ 1048576) :
    Calls Try.prog 17 #[.slice a len cap] W (DSgi W) := by
  have hb0 := box_below W (.cells #[.slice none 0 0] 26)
  have hA0 := Arr.new W 26 [.slice none 0 0]
  have cn := l1New_any (W.alloc (.cells #[.slice none 0 0] 26)) a len cap zs (hr.below hb0) hl
  have hsz : W.heap.size < (W.alloc (.cells #[.slice none 0 0] 26)).heap.size := hA0.lt
  clear hr
  go_enter Try.func17, Try.ntmps17
  go_wp2_with fail
  refine cn.mono ?_
  rintro e w1 ⟨N, rfl, hd⟩
  have hNb := hd.base
  have hN1 := hd.lt
  have hA1 := hA0.below hd.bel
  have hb1 := hb0.trans (hd.bel.mono (Nat.le_of_lt hsz))
  have hz1 := hd.bel.size
  clear cn hA0
  go_wp2_with fail
  refine (l3Bent_dr hd).mono ?_
  rintro e w2 ⟨L, av, cv, hl13, hI, rfl, hs, hf, hd2, hg2⟩
  have HI := Lib.hid hI
  have hrN : W.heap.size ≠ N := by omega
  have hbN : w2.heap.size ≠ N := by have := hg2.size; omega
  have hR2 := hA1.grownN hg2 hrN
  have hb2 := hb1.grown hg2 hb1.size (fun k hk => by cases hk; omega)
  have hz2 := hg2.size
  have hB3 := Arr.new w2 26 [.slice av L.length cv]
  obtain ⟨w3, hw3⟩ : ∃ w3, w3 = w2.alloc (.cells #[.slice av L.length cv] 26) := ⟨_, rfl⟩
  have hd3 : Dr (W.alloc (.cells #[.slice none 0 0] 26)) w3 N a len cap zs := by rw [hw3]; exact hd2.alloc _
  have hR3 : Arr w3 W.heap.size 26 [.slice none 0 0] := by rw [hw3]; exact hR2.alloc _
  have hB3' : Arr w3 w2.heap.size 26 [.slice av L.length cv] := by rw [hw3]; exact hB3
  have hs3 : SlW w3 av cv (L.map (Value.int .i64)) := by rw [hw3]; exact hs.below (box_below w2 _)
  have hb3 : Below W.heap.size W w3 := by rw [hw3]; exact hb2.alloc hb2.size _
  have hcb : w3.drew.cell? ⟨w2.heap.size, 0, none⟩ = some (.slice av L.length cv) := hB3'.cell 0
  have hdd : Dr (W.alloc (.cells #[.slice none 0 0] 26)) w3.drew N a len cap zs := hd3.drewN 1
  have hz3 := hB3'.lt
  have pk : ∀ (x4 x5 : Int) (w6 : World), Dr (W.alloc (.cells #[.slice none 0 0] 26)) w6 N a len cap zs → Calls Try.prog 45 #[.pointer (some ⟨N, 0, none⟩), .slice (some ⟨w6.heap.size, 0, none⟩) 5 5] (w6.alloc (.cells #[.int .i64 x4, .int .i64 x5, .int .i64 200, .int .i64 201, .int .i64 (-1)] 3)) fun e w' => ∃ x ∈ [x4, x5, 200, 201, -1], e = .returned (.int .i64 x) ∧ Dr (W.alloc (.cells #[.slice none 0 0] 26)) w' N a len cap zs ∧ (w6.alloc (.cells #[.int .i64 x4, .int .i64 x5, .int .i64 200, .int .i64 201, .int .i64 (-1)] 3)).grownBy w' (some N) := fun x4 x5 w6 hd6 => l1PickInt_dr (hd6.alloc (.cells #[.int .i64 x4, .int .i64 x5, .int .i64 200, .int .i64 201, .int .i64 (-1)] 3)) [x4, x5, 200, 201, -1] w6.heap.size 5 (by simp) (by simp) (by simp) (by have := hd6.lt; omega) (fun i u h => ((Arr.new w6 3 ([x4, x5, 200, 201, -1].map (Value.int .i64))).cell i).trans h)
  have HW3 := Lib.hid hw3
  clear hw3 hI hd hd2 hg2 hA1 hb0 hb1 hb2 hR2 hB3 hs hd3
  go_wp2_with fail
  rw [← HW3.out]
  refine wp_region_held_drew (S := fun w' => w'.cell? ⟨w2.heap.size, 0, none⟩ = some (.slice av L.length cv)) (by kernel_rfl) hcb (fun hHeld => ?_)
  refine held_take 0 _ _ rfl (by kernel_rfl) (by kernel_rfl) (by kernel_rfl) (fun _ _ _ h => h) (by rfl) hHeld (fun w hSw => by (try dsimp only at hSw); go_simp; try with_reducible rfl) ?_
  (try simp only [Act.put, List.setIfInBounds_toArray, List.set_cons_zero, List.set_cons_succ, List.getElem_toArray, List.getElem_cons_zero])
  refine held_take 1 _ _ rfl (by kernel_rfl) (by kernel_rfl) (by kernel_rfl) (fun _ _ _ h => h) (by rfl) hHeld (fun w hSw => by (try dsimp only at hSw); go_simp; try with_reducible rfl) ?_
  (try simp only [Act.put, List.setIfInBounds_toArray, List.set_cons_zero, List.set_cons_succ, List.getElem_toArray, List.getElem_cons_succ, List.getElem_cons_zero])
  refine held_take 2 _ _ rfl (by kernel_rfl) (by kernel_rfl) (by kernel_rfl) (fun _ _ _ h => h) (by rfl) hHeld (fun w hSw => by (try dsimp only at hSw); go_simp; try with_reducible rfl) ?_
  (try simp only [Act.put, List.setIfInBounds_toArray, List.set_cons_zero, List.set_cons_succ, List.getElem_toArray, List.getElem_cons_succ, List.getElem_cons_zero])
  refine held_take 4 _ _ rfl (by kernel_rfl) (by kernel_rfl) (by kernel_rfl) (fun _ _ _ h => h) (by rfl) hHeld (fun w hSw => by (try dsimp only at hSw); go_simp; try with_reducible rfl) ?_
  (try simp only [Act.put, List.setIfInBounds_toArray, List.set_cons_zero, List.set_cons_succ, List.getElem_toArray, List.getElem_cons_succ, List.getElem_cons_zero])
  refine wpAnyH_ready (rs := [3]) (by kernel_rfl) (by simp) ?_
  refine AllReadyH.cons rfl (fun K hK => ?_) AllReadyH.nil
  rw [if_pos (by rfl)]
  go_wp2_with (first | (go_at_call 46; (with_reducible refine (l1Below_dr hdd 50 (by decide)).mono ?_); rintro e w4 ⟨x4, ⟨hx40, hx4⟩, rfl, hd4, hg4⟩; have hx4b : x4 < 50 := (by omega); clear hx4; have hz4' : w3.heap.size ≤ w4.heap.size := hg4.size))
  refine hK.out _ _ ((grown_cell (w := w3.drew) hg4 (by show w2.heap.size < w3.heap.size; omega) hbN).trans hHeld) (fun hHeld1 => ?_)
  clear hK K
  (try simp only [Act.put, List.setIfInBounds_toArray, List.set_cons_zero, List.set_cons_succ, List.getElem_toArray, List.getElem_cons_succ, List.getElem_cons_zero])
  refine wpAnyH_ready (rs := [5]) (by kernel_rfl) (by simp) ?_
  refine AllReadyH.cons rfl (fun K hK => ?_) AllReadyH.nil
  rw [if_pos (by rfl)]
  go_wp2_with (first | (go_at_call 46; (with_reducible refine (l1Below_dr hd4 50 (by decide)).mono ?_); rintro e w6 ⟨x5, ⟨hx50, hx5⟩, rfl, hd6, hg6⟩; have hx5b : x5 < 50 := (by omega); clear hx5; have hz6' : w4.heap.size ≤ w6.heap.size := hg6.size))
  refine hK.out _ _ ((grown_cell (w := w4) hg6 (by show w2.heap.size < w4.heap.size; omega) hbN).trans hHeld1) (fun hHeld2 => ?_)
  clear hK K
  (try simp only [Act.put, List.setIfInBounds_toArray, List.set_cons_zero, List.set_cons_succ, List.getElem_toArray, List.getElem_cons_succ, List.getElem_cons_zero])
  refine wpAnyH_ready (rs := [6]) (by kernel_rfl) (by simp) ?_
  refine AllReadyH.cons rfl (fun K hK => ?_) AllReadyH.nil
  rw [if_pos (by rfl)]
  go_wp2_with fail
  refine hK.out _ _ (by rw [World.cell?_alloc_lt _ _ _ (show w2.heap.size < w6.heap.size by omega)]; exact hHeld2) (fun hHeld3 => ?_)
  clear hK K
  (try simp only [Act.put, List.setIfInBounds_toArray, List.set_cons_zero, List.set_cons_succ, List.getElem_toArray, List.getElem_cons_succ, List.getElem_cons_zero])
  refine wpAnyH_ready (rs := [7]) (by kernel_rfl) (by simp) ?_
  refine AllReadyH.cons rfl (fun K hK => ?_) AllReadyH.nil
  rw [if_pos (by rfl)]
  go_wp2_with (first | (go_at_call 45; (with_reducible refine (pk x4 x5 w6 hd6).mono ?_); rintro e w7 ⟨y, hy, rfl, hd7, hg7⟩; have hz7' : w6.heap.size + 1 ≤ w7.heap.size := (by have := hg7.size; simp at this; omega); have hR7 := ((((hR3.drew.grownN hg4 hrN).grownN hg6 hrN).alloc (.cells #[.int .i64 x4, .int .i64 x5, .int .i64 200, .int .i64 201, .int .i64 (-1)] 3)).grownN hg7 hrN); have hcr7 : w7.cell? ⟨W.heap.size, 0, none⟩ = some (.slice none 0 0) := hR7.cell 0; have hfr7 := hR7.frozen 0))
  refine hK.out _ _ ((grown_cell hg7 (by simp; omega) hbN).trans hHeld3) (fun hHeld4 => ?_)
  clear hK K
  (try simp only [Act.put, List.setIfInBounds_toArray, List.set_cons_zero, List.set_cons_succ, List.getElem_toArray, List.getElem_cons_succ, List.getElem_cons_zero])
  refine wpAnyH_ready (rs := [8]) (by kernel_rfl) (by simp) ?_
  refine AllReadyH.cons rfl (fun K hK => ?_) AllReadyH.nil
  rw [if_pos (by rfl)]
  go_wp2_with fail
  refine hK.out _ _ ((World.cell?_setCell_other _ _ _ _ (by first | (simp; done) | (simp; omega))).trans hHeld4) (fun hHeld5 => ?_)
  clear hK K
  (try simp only [Act.put, List.setIfInBounds_toArray, List.set_cons_zero, List.set_cons_succ, List.getElem_toArray, List.getElem_cons_succ, List.getElem_cons_zero])
  refine held_take 9 _ _ rfl (by kernel_rfl) (by kernel_rfl) (by kernel_rfl) (fun _ _ _ h => h) (by rfl) hHeld5 (fun w hSw => by (try dsimp only at hSw); go_simp; try with_reducible rfl) ?_
  (try simp only [Act.put, List.setIfInBounds_toArray, List.set_cons_zero, List.set_cons_succ, List.getElem_toArray, List.getElem_cons_succ, List.getElem_cons_zero])
  refine wpAnyH_done (by kernel_rfl) ?_ _
  have hNs : ∀ p, av = some p → p.block ≠ N := fun p hp => by have := hf p hp; omega
  have hWN : W.heap.size ≤ N := by omega
  have hs7 := (((SlW.grownN (w := w3.drew) ⟨hs3.sl, hs3.nil0, hs3.le, hs3.mx⟩ hg4 hNs).grownN hg6 hNs).below (box_below w6 (.cells #[.int .i64 x4, .int .i64 x5, .int .i64 200, .int .i64 201, .int .i64 (-1)] 3))).grownN hg7 hNs
  have hb4 := hb3.drew.grown hg4 hb3.size (fun k hk => by cases hk; exact hWN)
  have hb6 := hb4.grown hg6 hb4.size (fun k hk => by cases hk; exact hWN)
  have hb6' := hb6.alloc hb6.size (.cells #[.int .i64 x4, .int .i64 x5, .int .i64 200, .int .i64 201, .int .i64 (-1)] 3)
  have hb7 := hb6'.grown hg7 hb6'.size (fun k hk => by cases hk; exact hWN)
  have hy64 : InI64 y := by
    unfold InI64
    simp only [List.mem_cons, List.mem_nil_iff, or_false] at hy
    omega
  have hcf := World.cell?_setCell_same w7 ⟨W.heap.size, 0, none⟩ (.slice av L.length cv) hcr7
  have HF : Hid (DSgi W (.returned (.tuple #[.agg #[.slice av L.length cv], .int .i64 y])) (w7.setCell ⟨W.heap.size, 0, none⟩ (.slice av L.length cv))) := Lib.hid ⟨L, av, cv, y, hl13, HI.out, hy64, rfl, hs7.grownBy (grownBy_setCell w7 W.heap.size 0 _) hf (by omega), hb7.setCell (Nat.le_refl _) _⟩
  go_wp2_with fail
  exact bodyPost_ret (v := .tuple #[.agg #[.slice av L.length cv], .int .i64 y]) (by simp [results, Try.results17, go_sem, hcf]) rfl HF.out


end Go.Proofs.Ytdjjagpecbflnaa
