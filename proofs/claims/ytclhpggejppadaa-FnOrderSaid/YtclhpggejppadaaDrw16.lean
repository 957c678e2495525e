/-
  DRAWS OF CHAPTER 10: DrawExceedingOf, DrawMaximalOf, DrawIsBelow (written by mkD16.py). (Own work.)
-/
import Derived.Test.YtclhpggejppadaaDrw10
namespace Go.Proofs.Ytclhpggejppadaa
open Go Go.RowKit

def DSgl (W : World) (e : Ending) (w' : World) : Prop :=
  ∃ (L : List Int) (av : Option Addr) (cv : Nat) (M : List Int) (v : Value), L.length ≤ 13 ∧ (∀ x ∈ L, InI64 x) ∧ M.length ≤ 6 ∧ (∀ x ∈ M, InI64 x) ∧ e = .returned (.tuple #[.agg #[.slice av L.length cv], v]) ∧ SlW w' av cv (L.map (Value.int .i64)) ∧ w'.ownsRow W.heap.size 3 1 v M.length (M.map (Value.int .i64)) ∧ Below W.heap.size W w'
def DSgii (W : World) (e : Ending) (w' : World) : Prop :=
  ∃ (L : List Int) (av : Option Addr) (cv : Nat) (x y : Int), L.length ≤ 13 ∧ (∀ x ∈ L, InI64 x) ∧ InI64 x ∧ InI64 y ∧ e = .returned (.tuple #[.agg #[.slice av L.length cv], .int .i64 x, .int .i64 y]) ∧ SlW w' av cv (L.map (Value.int .i64)) ∧ Below W.heap.size W w'

set_option maxRecDepth 100000 in
set_option maxHeartbeats 1600000 in
theorem DrawExceedingOf_any (W : World) (a : Option Addr) (len cap : Nat) (zs : List Int) (hr : IsRow .u8 W a len cap zs) (hl : len ≤ 1048576) :
    Calls Try.prog 10 #[.slice a len cap] W (DSgi W) := by
  have hb0 := box_below W (.cells #[.slice none 0 0] 26)
  have hA0 := Arr.new W 26 [.slice none 0 0]
  have c1 := l6Case_any (W.alloc (.cells #[.slice none 0 0] 26)) a len cap zs (hr.below hb0) hl
  have hsz : W.heap.size < (W.alloc (.cells #[.slice none 0 0] 26)).heap.size := hA0.lt
  clear hr
  go_enter Try.func10, Try.ntmps10
  go_wp2_with fail
  refine c1.mono ?_
  rintro e w1 ⟨L, av, cv, n, hl13, hI, hn, rfl, hs, hf, hb1⟩
  have hA1 := hA0.below hb1
  have hbz := hb0.trans (hb1.mono (Nat.le_of_lt hsz))
  have hb2 := box_below w1 (.cells #[.slice av L.length cv] 26)
  have hs2 := (hs.below hb2).grownN (grownBy_setCell (w1.alloc (.cells #[.slice av L.length cv] 26)) W.heap.size 0 (.slice av L.length cv)) (fun p hp => by have := hf p hp; omega)
  have hA2 := hA1.alloc (.cells #[.slice av L.length cv] 26)
  have hcr : (w1.alloc (.cells #[.slice av L.length cv] 26)).cell? ⟨W.heap.size, 0, none⟩ = some (.slice none 0 0) := hA2.cell 0
  have hfr := hA2.frozen 0
  have hcf := World.cell?_setCell_same (w1.alloc (.cells #[.slice av L.length cv] 26)) ⟨W.heap.size, 0, none⟩ (.slice av L.length cv) hcr
  have HF : Hid (DSgi W (.returned (.tuple #[.agg #[.slice av L.length cv], .int .i64 n])) ((w1.alloc (.cells #[.slice av L.length cv] 26)).setCell ⟨W.heap.size, 0, none⟩ (.slice av L.length cv))) := Lib.hid ⟨L, av, cv, n, hl13, hI, hn, rfl, hs2, (hbz.trans (hb2.mono hbz.size)).setCell (Nat.le_refl _) _⟩
  clear hs hs2 hf hb1 hb0 hbz hb2 hA0 hA1 hA2 hI hn c1
  go_wp2_with fail
  exact bodyPost_ret (v := .tuple #[.agg #[.slice av L.length cv], .int .i64 n]) (by simp [results, Try.results10, go_sem, hcf]) rfl HF.out

set_option maxRecDepth 100000 in
set_option maxHeartbeats 3200000 in
theorem DrawMaximalOf_any (W : World) (a : Option Addr) (len cap : Nat) (zs : List Int) (hr : IsRow .u8 W a len cap zs) (hl : len ≤ 1048576) :
    Calls Try.prog 12 #[.slice a len cap] W (DSgl W) := by
  have hb0 := box_below W (.cells #[.slice none 0 0] 26)
  have hA0 := Arr.new W 26 [.slice none 0 0]
  have cn := l1New_any (W.alloc (.cells #[.slice none 0 0] 26)) a len cap zs (hr.below hb0) hl
  have hsz : W.heap.size < (W.alloc (.cells #[.slice none 0 0] 26)).heap.size := hA0.lt
  clear hr
  go_enter Try.func12, Try.ntmps12
  go_wp2_with fail
  refine cn.mono ?_
  rintro e w1 ⟨N, rfl, hd⟩
  have hNb := hd.base
  have hN1 := hd.lt
  have hA1 := hA0.below hd.bel
  have hb1 := hb0.trans (hd.bel.mono (Nat.le_of_lt hsz))
  have hz1 := hd.bel.size
  clear cn hA0
  go_wp2_with fail
  refine (l3Bent_dr hd).mono ?_
  rintro e w2 ⟨L, av, cv, hl13, hI, rfl, hs, hf, hd2, hg2⟩
  have HI := Lib.hid hI
  have hrN : W.heap.size ≠ N := by omega
  have hbN : w2.heap.size ≠ N := by have := hg2.size; omega
  have hR2 := hA1.grownN hg2 hrN
  have hb2 := hb1.grown hg2 hb1.size (fun k hk => by cases hk; omega)
  have hz2 := hg2.size
  have hB3 := Arr.new w2 26 [.slice av L.length cv]
  obtain ⟨w3, hw3⟩ : ∃ w3, w3 = w2.alloc (.cells #[.slice av L.length cv] 26) := ⟨_, rfl⟩
  have hd3 : Dr (W.alloc (.cells #[.slice none 0 0] 26)) w3 N a len cap zs := by rw [hw3]; exact hd2.alloc _
  have hR3 : Arr w3 W.heap.size 26 [.slice none 0 0] := by rw [hw3]; exact hR2.alloc _
  have hB3' : Arr w3 w2.heap.size 26 [.slice av L.length cv] := by rw [hw3]; exact hB3
  have hs3 : SlW w3 av cv (L.map (Value.int .i64)) := by rw [hw3]; exact hs.below (box_below w2 _)
  have hb3 : Below W.heap.size W w3 := by rw [hw3]; exact hb2.alloc hb2.size _
  have hcb : w3.drew.cell? ⟨w2.heap.size, 0, none⟩ = some (.slice av L.length cv) := hB3'.cell 0
  have hdd : Dr (W.alloc (.cells #[.slice none 0 0] 26)) w3.drew N a len cap zs := hd3.drewN 1
  have hz3 := hB3'.lt
  have HW3 := Lib.hid hw3
  clear hw3 hI hd hd2 hg2 hA1 hb0 hb1 hb2 hR2 hB3 hs hd3
  go_wp2_with fail
  rw [← HW3.out]
  refine wp_region_held_drew (S := fun w' => w'.cell? ⟨w2.heap.size, 0, none⟩ = some (.slice av L.length cv)) (by kernel_rfl) hcb (fun hHeld => ?_)
  refine held_take 0 _ _ rfl (by kernel_rfl) (by kernel_rfl) (by kernel_rfl) (fun _ _ _ h => h) (by rfl) hHeld (fun w hSw => by (try dsimp only at hSw); go_simp; try with_reducible rfl) ?_
  (try simp only [Act.put, List.setIfInBounds_toArray, List.set_cons_zero, List.set_cons_succ, List.getElem_toArray, List.getElem_cons_zero])
  refine held_take 1 _ _ rfl (by kernel_rfl) (by kernel_rfl) (by kernel_rfl) (fun _ _ _ h => h) (by rfl) hHeld (fun w hSw => by (try dsimp only at hSw); go_simp; try with_reducible rfl) ?_
  (try simp only [Act.put, List.setIfInBounds_toArray, List.set_cons_zero, List.set_cons_succ, List.getElem_toArray, List.getElem_cons_succ, List.getElem_cons_zero])
  refine wpAnyH_ready (rs := [2]) (by kernel_rfl) (by simp) ?_
  refine AllReadyH.cons rfl (fun K hK => ?_) AllReadyH.nil
  rw [if_pos (by rfl)]
  go_wp2_with (first | (go_at_call 38; (with_reducible refine (l2Bent_dr hdd).mono ?_); rintro e w4 ⟨M, v4, hm6, hMI, rfl, ho4, hd4, hg4⟩; have hz4' : w3.heap.size ≤ w4.heap.size := hg4.size; have hR4 := hR3.drew.grownN hg4 hrN; have hcr4 : w4.cell? ⟨W.heap.size, 0, none⟩ = some (.slice none 0 0) := hR4.cell 0; have hfr4 := hR4.frozen 0))
  refine hK.out _ _ ((grown_cell (w := w3.drew) hg4 (by show w2.heap.size < w3.heap.size; omega) hbN).trans hHeld) (fun hHeld1 => ?_)
  clear hK K
  (try simp only [Act.put, List.setIfInBounds_toArray, List.set_cons_zero, List.set_cons_succ, List.getElem_toArray, List.getElem_cons_succ, List.getElem_cons_zero])
  refine wpAnyH_ready (rs := [3]) (by kernel_rfl) (by simp) ?_
  refine AllReadyH.cons rfl (fun K hK => ?_) AllReadyH.nil
  rw [if_pos (by rfl)]
  go_wp2_with fail
  refine hK.out _ _ ((World.cell?_setCell_other _ _ _ _ (by first | (simp; done) | (simp; omega))).trans hHeld1) (fun hHeld2 => ?_)
  clear hK K
  (try simp only [Act.put, List.setIfInBounds_toArray, List.set_cons_zero, List.set_cons_succ, List.getElem_toArray, List.getElem_cons_succ, List.getElem_cons_zero])
  refine held_take 4 _ _ rfl (by kernel_rfl) (by kernel_rfl) (by kernel_rfl) (fun _ _ _ h => h) (by rfl) hHeld2 (fun w hSw => by (try dsimp only at hSw); go_simp; try with_reducible rfl) ?_
  (try simp only [Act.put, List.setIfInBounds_toArray, List.set_cons_zero, List.set_cons_succ, List.getElem_toArray, List.getElem_cons_succ, List.getElem_cons_zero])
  refine wpAnyH_done (by kernel_rfl) ?_ _
  have hNs : ∀ p, av = some p → p.block ≠ N := fun p hp => by have := hf p hp; omega
  have hWN : W.heap.size ≤ N := by omega
  have hs4 := SlW.grownN (w := w3.drew) ⟨hs3.sl, hs3.nil0, hs3.le, hs3.mx⟩ hg4 hNs
  have hb4 := hb3.drew.grown hg4 hb3.size (fun k hk => by cases hk; exact hWN)
  have ho5 := ownsRow_setCell_below ho4 (a := ⟨W.heap.size, 0, none⟩) (show W.heap.size < w3.heap.size by omega) (.slice av L.length cv)
  have hcf := World.cell?_setCell_same w4 ⟨W.heap.size, 0, none⟩ (.slice av L.length cv) hcr4
  have HF : Hid (DSgl W (.returned (.tuple #[.agg #[.slice av L.length cv], v4])) (w4.setCell ⟨W.heap.size, 0, none⟩ (.slice av L.length cv))) := Lib.hid ⟨L, av, cv, M, v4, hl13, HI.out, hm6, hMI, rfl, hs4.grownBy (grownBy_setCell w4 W.heap.size 0 _) hf (by omega), owns_wider ho5 (show W.heap.size ≤ w3.heap.size by omega), hb4.setCell (Nat.le_refl _) _⟩
  clear hMI ho4 ho5
  go_wp2_with fail
  exact bodyPost_ret (v := .tuple #[.agg #[.slice av L.length cv], v4]) (by simp [results, Try.results12, go_sem, hcf]) rfl HF.out

set_option maxRecDepth 100000 in
set_option maxHeartbeats 3200000 in
theorem DrawIsBelow_any (W : World) (a : Option Addr) (len cap : Nat) (zs : List Int) (hr : IsRow .u8 W a len cap zs) (hl : len ≤ 1048576) :
    Calls Try.prog 15 #[.slice a len cap] W (DSgii W) := by
  have hb0 := box_below W (.cells #[.slice none 0 0] 26)
  have hA0 := Arr.new W 26 [.slice none 0 0]
  have cn := l1New_any (W.alloc (.cells #[.slice none 0 0] 26)) a len cap zs (hr.below hb0) hl
  have hsz : W.heap.size < (W.alloc (.cells #[.slice none 0 0] 26)).heap.size := hA0.lt
  clear hr
  go_enter Try.func15, Try.ntmps15
  go_wp2_with fail
  refine cn.mono ?_
  rintro e w1 ⟨N, rfl, hd⟩
  have hNb := hd.base
  have hN1 := hd.lt
  have hA1 := hA0.below hd.bel
  have hb1 := hb0.trans (hd.bel.mono (Nat.le_of_lt hsz))
  have hz1 := hd.bel.size
  clear cn hA0
  go_wp2_with fail
  refine (l3Bent_dr hd).mono ?_
  rintro e w2 ⟨L, av, cv, hl13, hI, rfl, hs, hf, hd2, hg2⟩
  have HI := Lib.hid hI
  have hrN : W.heap.size ≠ N := by omega
  have hbN : w2.heap.size ≠ N := by have := hg2.size; omega
  have hR2 := hA1.grownN hg2 hrN
  have hb2 := hb1.grown hg2 hb1.size (fun k hk => by cases hk; omega)
  have hz2 := hg2.size
  have hB3 := Arr.new w2 26 [.slice av L.length cv]
  obtain ⟨w3, hw3⟩ : ∃ w3, w3 = w2.alloc (.cells #[.slice av L.length cv] 26) := ⟨_, rfl⟩
  have hd3 : Dr (W.alloc (.cells #[.slice none 0 0] 26)) w3 N a len cap zs := by rw [hw3]; exact hd2.alloc _
  have hR3 : Arr w3 W.heap.size 26 [.slice none 0 0] := by rw [hw3]; exact hR2.alloc _
  have hB3' : Arr w3 w2.heap.size 26 [.slice av L.length cv] := by rw [hw3]; exact hB3
  have hs3 : SlW w3 av cv (L.map (Value.int .i64)) := by rw [hw3]; exact hs.below (box_below w2 _)
  have hb3 : Below W.heap.size W w3 := by rw [hw3]; exact hb2.alloc hb2.size _
  have hz3 := hB3'.lt
  have HW3 := Lib.hid hw3
  clear hw3 hI hd hd2 hg2 hA1 hb0 hb1 hb2 hR2 hB3 hs
  go_wp2_with fail
  rw [← HW3.out]
  refine (l1Below_dr hd3 60 (by decide)).mono ?_
  rintro e w9 ⟨xa, ⟨hxa0, hxa⟩, rfl, hd9, hg9⟩
  have hxab : xa < 60 := by omega
  clear hxa
  have hwa : IntKind.i64.wrap (xa - 20) = xa - 20 := IntWalk.i64_in _ (by omega)
  have hz9 : w3.heap.size ≤ w9.heap.size := hg9.size
  have hR9 := hR3.grownN hg9 hrN
  have hB9 := hB3'.grownN hg9 (show w2.heap.size ≠ N by omega)
  have hNs : ∀ p, av = some p → p.block ≠ N := fun p hp => by have := hf p hp; omega
  have hWN : W.heap.size ≤ N := by omega
  have hs9 := SlW.grownN (w := w3) hs3 hg9 hNs
  have hb9 := hb3.grown hg9 hb3.size (fun k hk => by cases hk; exact hWN)
  have hcb : w9.drew.cell? ⟨w2.heap.size, 0, none⟩ = some (.slice av L.length cv) := hB9.cell 0
  have hdd : Dr (W.alloc (.cells #[.slice none 0 0] 26)) w9.drew N a len cap zs := hd9.drewN 1
  have pk : ∀ (x4 x5 : Int) (w6 : World), Dr (W.alloc (.cells #[.slice none 0 0] 26)) w6 N a len cap zs → Calls Try.prog 43 #[.pointer (some ⟨N, 0, none⟩), .slice (some ⟨w6.heap.size, 0, none⟩) 3 3] (w6.alloc (.cells #[.int .i64 x4, .int .i64 (x5 - 10), .int .i64 1000001] 3)) fun e w' => ∃ x ∈ [x4, x5 - 10, 1000001], e = .returned (.int .i64 x) ∧ Dr (W.alloc (.cells #[.slice none 0 0] 26)) w' N a len cap zs ∧ (w6.alloc (.cells #[.int .i64 x4, .int .i64 (x5 - 10), .int .i64 1000001] 3)).grownBy w' (some N) := fun x4 x5 w6 hd6 => l1PickInt_dr (hd6.alloc (.cells #[.int .i64 x4, .int .i64 (x5 - 10), .int .i64 1000001] 3)) [x4, x5 - 10, 1000001] w6.heap.size 3 (by simp) (by simp) (by simp) (by have := hd6.lt; omega) (fun i u h => ((Arr.new w6 3 ([x4, x5 - 10, 1000001].map (Value.int .i64))).cell i).trans h)
  clear hd3 hR3 hB3' hs3 hb3 hg9 hd9
  go_wp2_with fail
  refine wp_region_held_drew (S := fun w' => w'.cell? ⟨w2.heap.size, 0, none⟩ = some (.slice av L.length cv)) (by kernel_rfl) hcb (fun hHeld => ?_)
  refine held_take 0 _ _ rfl (by kernel_rfl) (by kernel_rfl) (by kernel_rfl) (fun _ _ _ h => h) (by rfl) hHeld (fun w hSw => by (try dsimp only at hSw); go_simp; try with_reducible rfl) ?_
  (try simp only [Act.put, List.setIfInBounds_toArray, List.set_cons_zero, List.set_cons_succ, List.getElem_toArray, List.getElem_cons_zero])
  refine held_take 1 _ _ rfl (by kernel_rfl) (by kernel_rfl) (by kernel_rfl) (fun _ _ _ h => h) (by rfl) hHeld (fun w hSw => by (try dsimp only at hSw); go_simp; try with_reducible rfl) ?_
  (try simp only [Act.put, List.setIfInBounds_toArray, List.set_cons_zero, List.set_cons_succ, List.getElem_toArray, List.getElem_cons_succ, List.getElem_cons_zero])
  refine held_take 2 _ _ rfl (by kernel_rfl) (by kernel_rfl) (by kernel_rfl) (fun _ _ _ h => h) (by rfl) hHeld (fun w hSw => by (try dsimp only at hSw); go_simp; try with_reducible rfl) ?_
  (try simp only [Act.put, List.setIfInBounds_toArray, List.set_cons_zero, List.set_cons_succ, List.getElem_toArray, List.getElem_cons_succ, List.getElem_cons_zero])
  refine held_take 3 _ _ rfl (by kernel_rfl) (by kernel_rfl) (by kernel_rfl) (fun _ _ _ h => h) (by rfl) hHeld (fun w hSw => by (try dsimp only at hSw); go_simp; try with_reducible rfl) ?_
  (try simp only [Act.put, List.setIfInBounds_toArray, List.set_cons_zero, List.set_cons_succ, List.getElem_toArray, List.getElem_cons_succ, List.getElem_cons_zero])
  refine held_take 5 _ _ rfl (by kernel_rfl) (by kernel_rfl) (by kernel_rfl) (fun _ _ _ h => h) (by rfl) hHeld (fun w hSw => by (try dsimp only at hSw); go_simp; try with_reducible rfl) ?_
  (try simp only [Act.put, List.setIfInBounds_toArray, List.set_cons_zero, List.set_cons_succ, List.getElem_toArray, List.getElem_cons_succ, List.getElem_cons_zero])
  refine wpAnyH_ready (rs := [4]) (by kernel_rfl) (by simp) ?_
  refine AllReadyH.cons rfl (fun K hK => ?_) AllReadyH.nil
  rw [if_pos (by rfl)]
  go_wp2_with (first | (go_at_call 42; (with_reducible refine (l1Below_dr hdd 60 (by decide)).mono ?_); rintro e w4 ⟨x4, ⟨hx40, hx4⟩, rfl, hd4, hg4⟩; have hx4b : x4 < 60 := (by omega); clear hx4; have hz4' : w9.heap.size ≤ w4.heap.size := hg4.size))
  refine hK.out _ _ ((grown_cell (w := w9.drew) hg4 (by show w2.heap.size < w9.heap.size; omega) hbN).trans hHeld) (fun hHeld1 => ?_)
  clear hK K
  (try simp only [Act.put, List.setIfInBounds_toArray, List.set_cons_zero, List.set_cons_succ, List.getElem_toArray, List.getElem_cons_succ, List.getElem_cons_zero])
  refine wpAnyH_ready (rs := [6]) (by kernel_rfl) (by simp) ?_
  refine AllReadyH.cons rfl (fun K hK => ?_) AllReadyH.nil
  rw [if_pos (by rfl)]
  go_wp2_with (first | (go_at_call 42; (with_reducible refine (l1Below_dr hd4 60 (by decide)).mono ?_); rintro e w5 ⟨x5, ⟨hx50, hx5⟩, rfl, hd5, hg5⟩; have hx5b : x5 < 60 := (by omega); clear hx5; have hz5' : w4.heap.size ≤ w5.heap.size := hg5.size; have hw5 : IntKind.i64.wrap (x5 - 10) = x5 - 10 := IntWalk.i64_in _ (by omega)))
  refine hK.out _ _ ((grown_cell (w := w4) hg5 (by show w2.heap.size < w4.heap.size; omega) hbN).trans hHeld1) (fun hHeld2 => ?_)
  clear hK K
  (try simp only [Act.put, List.setIfInBounds_toArray, List.set_cons_zero, List.set_cons_succ, List.getElem_toArray, List.getElem_cons_succ, List.getElem_cons_zero])
  refine held_take 7 _ _ rfl (by kernel_rfl) (by kernel_rfl) (by kernel_rfl) (fun _ _ _ h => h) (by rfl) hHeld2 (fun w hSw => by (try dsimp only at hSw); go_simp; try with_reducible rfl) ?_
  (try simp only [Act.put, List.setIfInBounds_toArray, List.set_cons_zero, List.set_cons_succ, List.getElem_toArray, List.getElem_cons_succ, List.getElem_cons_zero])
  refine wpAnyH_ready (rs := [8]) (by kernel_rfl) (by simp) ?_
  refine AllReadyH.cons rfl (fun K hK => ?_) AllReadyH.nil
  rw [if_pos (by rfl)]
  go_wp2_with fail
  refine hK.out _ _ ((by rw [World.cell?_alloc_lt _ _ _ (show w2.heap.size < w5.heap.size by omega)]; exact hHeld2)) (fun hHeld3 => ?_)
  clear hK K
  (try simp only [Act.put, List.setIfInBounds_toArray, List.set_cons_zero, List.set_cons_succ, List.getElem_toArray, List.getElem_cons_succ, List.getElem_cons_zero])
  refine wpAnyH_ready (rs := [9]) (by kernel_rfl) (by simp) ?_
  refine AllReadyH.cons rfl (fun K hK => ?_) AllReadyH.nil
  rw [if_pos (by rfl)]
  go_wp2_with (first | (go_at_call 43; (with_reducible refine (pk x4 x5 w5 hd5).mono ?_); rintro e w7 ⟨y, hy, rfl, hd7, hg7⟩; have hz7' : w5.heap.size + 1 ≤ w7.heap.size := (by have := hg7.size; simp at this; omega); have hR7 := ((((hR9.drew.grownN hg4 hrN).grownN hg5 hrN).alloc (.cells #[.int .i64 x4, .int .i64 (x5 - 10), .int .i64 1000001] 3)).grownN hg7 hrN); have hcr7 : w7.cell? ⟨W.heap.size, 0, none⟩ = some (.slice none 0 0) := hR7.cell 0; have hfr7 := hR7.frozen 0))
  refine hK.out _ _ ((grown_cell hg7 (by simp; omega) hbN).trans hHeld3) (fun hHeld4 => ?_)
  clear hK K
  (try simp only [Act.put, List.setIfInBounds_toArray, List.set_cons_zero, List.set_cons_succ, List.getElem_toArray, List.getElem_cons_succ, List.getElem_cons_zero])
  refine wpAnyH_ready (rs := [10]) (by kernel_rfl) (by simp) ?_
  refine AllReadyH.cons rfl (fun K hK => ?_) AllReadyH.nil
  rw [if_pos (by rfl)]
  go_wp2_with fail
  refine hK.out _ _ ((World.cell?_setCell_other _ _ _ _ (by first | (simp; done) | (simp; omega))).trans hHeld4) (fun hHeld5 => ?_)
  clear hK K
  (try simp only [Act.put, List.setIfInBounds_toArray, List.set_cons_zero, List.set_cons_succ, List.getElem_toArray, List.getElem_cons_succ, List.getElem_cons_zero])
  refine held_take 11 _ _ rfl (by kernel_rfl) (by kernel_rfl) (by kernel_rfl) (fun _ _ _ h => h) (by rfl) hHeld5 (fun w hSw => by (try dsimp only at hSw); go_simp; try with_reducible rfl) ?_
  (try simp only [Act.put, List.setIfInBounds_toArray, List.set_cons_zero, List.set_cons_succ, List.getElem_toArray, List.getElem_cons_succ, List.getElem_cons_zero])
  refine held_take 12 _ _ rfl (by kernel_rfl) (by kernel_rfl) (by kernel_rfl) (fun _ _ _ h => h) (by rfl) hHeld5 (fun w hSw => by (try dsimp only at hSw); go_simp; try with_reducible rfl) ?_
  (try simp only [Act.put, List.setIfInBounds_toArray, List.set_cons_zero, List.set_cons_succ, List.getElem_toArray, List.getElem_cons_succ, List.getElem_cons_zero])
  refine wpAnyH_done (by kernel_rfl) ?_ _
  have hs7 := (((SlW.grownN (w := w9.drew) ⟨hs9.sl, hs9.nil0, hs9.le, hs9.mx⟩ hg4 hNs).grownN hg5 hNs).below (box_below w5 (.cells #[.int .i64 x4, .int .i64 (x5 - 10), .int .i64 1000001] 3))).grownN hg7 hNs
  have hb4 := hb9.drew.grown hg4 hb9.size (fun k hk => by cases hk; exact hWN)
  have hb5 := hb4.grown hg5 hb4.size (fun k hk => by cases hk; exact hWN)
  have hb6' := hb5.alloc hb5.size (.cells #[.int .i64 x4, .int .i64 (x5 - 10), .int .i64 1000001] 3)
  have hb7 := hb6'.grown hg7 hb6'.size (fun k hk => by cases hk; exact hWN)
  have hy64 : InI64 y := by
    unfold InI64
    simp only [List.mem_cons, List.mem_nil_iff, or_false] at hy
    omega
  have hx64 : InI64 (xa - 20) := by unfold InI64; omega
  have hcf := World.cell?_setCell_same w7 ⟨W.heap.size, 0, none⟩ (.slice av L.length cv) hcr7
  have HF : Hid (DSgii W (.returned (.tuple #[.agg #[.slice av L.length cv], .int .i64 (xa - 20), .int .i64 y])) (w7.setCell ⟨W.heap.size, 0, none⟩ (.slice av L.length cv))) := Lib.hid ⟨L, av, cv, xa - 20, y, hl13, HI.out, hx64, hy64, rfl, hs7.grownBy (grownBy_setCell w7 W.heap.size 0 _) hf (by omega), hb7.setCell (Nat.le_refl _) _⟩
  go_wp2_with fail
  exact bodyPost_ret (v := .tuple #[.agg #[.slice av L.length cv], .int .i64 (xa - 20), .int .i64 y]) (by simp [results, Try.results15, go_sem, hcf]) rfl HF.out
end Go.Proofs.Ytclhpggejppadaa
