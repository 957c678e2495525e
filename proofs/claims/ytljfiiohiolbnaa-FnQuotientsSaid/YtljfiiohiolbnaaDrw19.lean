/-
  DRAWS OF CHAPTER 17: DrawQuotientOf, DrawScaledElements (written by mkD19.py). (Own work.)
-/
import Derived.Test.YtljfiiohiolbnaaDrS
namespace Go.Proofs.Ytljfiiohiolbnaa
open Go Go.RowKit

def DSgiF (W : World) (e : Ending) (w' : World) : Prop :=
  ∃ (L : List Int) (av : Option Addr) (cv : Nat) (n : Int), L.length ≤ 13 ∧ (∀ x ∈ L, InI64 x) ∧ InI64 n ∧ e = .returned (.tuple #[.agg #[.slice av L.length cv], .int .i64 n]) ∧ SlW w' av cv (L.map (Value.int .i64)) ∧ (∀ p, av = some p → W.heap.size < p.block) ∧ Below W.heap.size W w'
def DSgiiF (W : World) (e : Ending) (w' : World) : Prop :=
  ∃ (L : List Int) (av : Option Addr) (cv : Nat) (x y : Int), L.length ≤ 13 ∧ (∀ x ∈ L, InI64 x) ∧ InI64 x ∧ InI64 y ∧ e = .returned (.tuple #[.agg #[.slice av L.length cv], .int .i64 x, .int .i64 y]) ∧ SlW w' av cv (L.map (Value.int .i64)) ∧ (∀ p, av = some p → W.heap.size < p.block) ∧ Below W.heap.size W w'

set_option maxRecDepth 100000 in
set_option maxHeartbeats 3200000 in
theorem DrawQuotientOf_any (W : World) (a : Option Addr) (len cap : Nat) (zs : List Int) (hr : IsRow .u8 W a len cap zs) (hl : len ≤ 1048576) :
    Calls Try.prog 11 #[.slice a len cap] W (DSgiF W) := by
  have hb0 := box_below W (.cells #[.slice none 0 0] 26)
  have hA0 := Arr.new W 26 [.slice none 0 0]
  have cn := l1New_any (W.alloc (.cells #[.slice none 0 0] 26)) a len cap zs (hr.below hb0) hl
  have hsz : W.heap.size < (W.alloc (.cells #[.slice none 0 0] 26)).heap.size := hA0.lt
  clear hr
  go_enter Try.func11, Try.ntmps11
  go_wp2_with fail
  refine cn.mono ?_
  rintro e w1 ⟨N, rfl, hd⟩
  have hNb := hd.base
  have hN1 := hd.lt
  have hA1 := hA0.below hd.bel
  have hb1 := hb0.trans (hd.bel.mono (Nat.le_of_lt hsz))
  have hz1 := hd.bel.size
  clear cn hA0
  go_wp2_with fail
  refine (l3Bent_dr hd).mono ?_
  rintro e w2 ⟨L, av, cv, hl13, hI, rfl, hs, hf, hd2, hg2⟩
  have HI := Lib.hid hI
  have hrN : W.heap.size ≠ N := by omega
  have hbN : w2.heap.size ≠ N := by have := hg2.size; omega
  have hR2 := hA1.grownN hg2 hrN
  have hb2 := hb1.grown hg2 hb1.size (fun k hk => by cases hk; omega)
  have hz2 := hg2.size
  have hB3 := Arr.new w2 26 [.slice av L.length cv]
  obtain ⟨w3, hw3⟩ : ∃ w3, w3 = w2.alloc (.cells #[.slice av L.length cv] 26) := ⟨_, rfl⟩
  have hd3 : Dr (W.alloc (.cells #[.slice none 0 0] 26)) w3 N a len cap zs := by rw [hw3]; exact hd2.alloc _
  have hR3 : Arr w3 W.heap.size 26 [.slice none 0 0] := by rw [hw3]; exact hR2.alloc _
  have hB3' : Arr w3 w2.heap.size 26 [.slice av L.length cv] := by rw [hw3]; exact hB3
  have hs3 : SlW w3 av cv (L.map (Value.int .i64)) := by rw [hw3]; exact hs.below (box_below w2 _)
  have hb3 : Below W.heap.size W w3 := by rw [hw3]; exact hb2.alloc hb2.size _
  have hcb : w3.drew.cell? ⟨w2.heap.size, 0, none⟩ = some (.slice av L.length cv) := hB3'.cell 0
  have hdd : Dr (W.alloc (.cells #[.slice none 0 0] 26)) w3.drew N a len cap zs := hd3.drewN 1
  have hz3d : w2.heap.size < w3.drew.heap.size := hB3'.lt
  have hR3d : Arr w3.drew W.heap.size 26 [.slice none 0 0] := hR3
  have hs3d : SlW w3.drew av cv (L.map (Value.int .i64)) := ⟨hs3.sl, hs3.nil0, hs3.le, hs3.mx⟩
  have hb3d : Below W.heap.size W w3.drew := hb3.drew
  have pk : ∀ (w6 : World), Dr (W.alloc (.cells #[.slice none 0 0] 26)) w6 N a len cap zs → Calls Try.prog 41 #[.pointer (some ⟨N, 0, none⟩), .slice (some ⟨w6.heap.size, 0, none⟩) 9 9] (w6.alloc (.cells #[.int .i64 1, .int .i64 2, .int .i64 2, .int .i64 3, .int .i64 3, .int .i64 5, .int .i64 20, .int .i64 0, .int .i64 21] 3)) fun e w' => ∃ x ∈ ([1, 2, 2, 3, 3, 5, 20, 0, 21] : List Int), e = .returned (.int .i64 x) ∧ Dr (W.alloc (.cells #[.slice none 0 0] 26)) w' N a len cap zs ∧ (w6.alloc (.cells #[.int .i64 1, .int .i64 2, .int .i64 2, .int .i64 3, .int .i64 3, .int .i64 5, .int .i64 20, .int .i64 0, .int .i64 21] 3)).grownBy w' (some N) := fun w6 hd6 => l1PickInt_dr (hd6.alloc (.cells #[.int .i64 1, .int .i64 2, .int .i64 2, .int .i64 3, .int .i64 3, .int .i64 5, .int .i64 20, .int .i64 0, .int .i64 21] 3)) [1, 2, 2, 3, 3, 5, 20, 0, 21] w6.heap.size 9 (by simp) (by simp) (by simp) (by have := hd6.lt; omega) (fun i u h => ((Arr.new w6 3 (([1, 2, 2, 3, 3, 5, 20, 0, 21] : List Int).map (Value.int .i64))).cell i).trans h)
  have HW3 := Lib.hid hw3
  clear hw3 hI hd hd2 hg2 hA1 hb0 hb1 hb2 hR2 hB3 hs hd3
  go_wp2_with fail
  rw [← HW3.out]
  refine wp_region_held_drew (S := fun w' => w'.cell? ⟨w2.heap.size, 0, none⟩ = some (.slice av L.length cv)) (by kernel_rfl) hcb (fun hHeld => ?_)
  generalize w3.drew = wd at *
  refine held_take 0 _ _ rfl (by kernel_rfl) (by kernel_rfl) (by kernel_rfl) (fun _ _ _ h => h) (by rfl) hHeld (fun w hSw => by (try dsimp only at hSw); go_simp; try with_reducible rfl) ?_
  (try simp only [Act.put, List.setIfInBounds_toArray, List.set_cons_zero, List.set_cons_succ, List.getElem_toArray, List.getElem_cons_zero])
  refine held_take 1 _ _ rfl (by kernel_rfl) (by kernel_rfl) (by kernel_rfl) (fun _ _ _ h => h) (by rfl) hHeld (fun w hSw => by (try dsimp only at hSw); go_simp; try with_reducible rfl) ?_
  (try simp only [Act.put, List.setIfInBounds_toArray, List.set_cons_zero, List.set_cons_succ, List.getElem_toArray, List.getElem_cons_succ, List.getElem_cons_zero])
  refine wpAnyH_ready (rs := [2]) (by kernel_rfl) (by simp) ?_
  refine AllReadyH.cons rfl (fun K hK => ?_) AllReadyH.nil
  rw [if_pos (by rfl)]
  go_wp2_with fail
  refine hK.out _ _ ((by rw [World.cell?_alloc_lt _ _ _ hz3d]; exact hHeld)) (fun hHeld1 => ?_)
  clear hK K
  (try simp only [Act.put, List.setIfInBounds_toArray, List.set_cons_zero, List.set_cons_succ, List.getElem_toArray, List.getElem_cons_succ, List.getElem_cons_zero])
  refine wpAnyH_ready (rs := [3]) (by kernel_rfl) (by simp) ?_
  refine AllReadyH.cons rfl (fun K hK => ?_) AllReadyH.nil
  rw [if_pos (by rfl)]
  go_wp2_with (first | (go_at_call 41; (with_reducible refine (pk wd hdd).mono ?_); rintro e w7 ⟨y, hy, rfl, hd7, hg7⟩; have hz7' : wd.heap.size + 1 ≤ w7.heap.size := (by have := hg7.size; simp at this; exact this); have hR7 := ((hR3d.alloc (.cells #[.int .i64 1, .int .i64 2, .int .i64 2, .int .i64 3, .int .i64 3, .int .i64 5, .int .i64 20, .int .i64 0, .int .i64 21] 3)).grownN hg7 hrN); have hcr7 : w7.cell? ⟨W.heap.size, 0, none⟩ = some (.slice none 0 0) := hR7.cell 0; have hfr7 := hR7.frozen 0))
  refine hK.out _ _ ((grown_cell hg7 (by simp; omega) hbN).trans hHeld1) (fun hHeld2 => ?_)
  clear hK K
  (try simp only [Act.put, List.setIfInBounds_toArray, List.set_cons_zero, List.set_cons_succ, List.getElem_toArray, List.getElem_cons_succ, List.getElem_cons_zero])
  refine wpAnyH_ready (rs := [4]) (by kernel_rfl) (by simp) ?_
  refine AllReadyH.cons rfl (fun K hK => ?_) AllReadyH.nil
  rw [if_pos (by rfl)]
  go_wp2_with fail
  refine hK.out _ _ ((World.cell?_setCell_other _ _ _ _ (by first | (simp; done) | (simp; omega))).trans hHeld2) (fun hHeld3 => ?_)
  clear hK K
  (try simp only [Act.put, List.setIfInBounds_toArray, List.set_cons_zero, List.set_cons_succ, List.getElem_toArray, List.getElem_cons_succ, List.getElem_cons_zero])
  refine held_take 5 _ _ rfl (by kernel_rfl) (by kernel_rfl) (by kernel_rfl) (fun _ _ _ h => h) (by rfl) hHeld3 (fun w hSw => by (try dsimp only at hSw); go_simp; try with_reducible rfl) ?_
  (try simp only [Act.put, List.setIfInBounds_toArray, List.set_cons_zero, List.set_cons_succ, List.getElem_toArray, List.getElem_cons_succ, List.getElem_cons_zero])
  refine wpAnyH_done (by kernel_rfl) ?_ _
  have hNs : ∀ p, av = some p → p.block ≠ N := fun p hp => by have := hf p hp; omega
  have hWN : W.heap.size ≤ N := by omega
  have hs7 := ((hs3d.below (box_below wd (.cells #[.int .i64 1, .int .i64 2, .int .i64 2, .int .i64 3, .int .i64 3, .int .i64 5, .int .i64 20, .int .i64 0, .int .i64 21] 3)))).grownN hg7 hNs
  have hb6' := hb3d.alloc (o := (.cells #[.int .i64 1, .int .i64 2, .int .i64 2, .int .i64 3, .int .i64 3, .int .i64 5, .int .i64 20, .int .i64 0, .int .i64 21] 3)) hb3d.size
  have hb7 := hb6'.grown hg7 hb6'.size (fun k hk => by cases hk; exact hWN)
  have hy64 : InI64 y := by
    unfold InI64
    simp only [List.mem_cons, List.mem_nil_iff, or_false] at hy
    omega
  have hcf := World.cell?_setCell_same w7 ⟨W.heap.size, 0, none⟩ (.slice av L.length cv) hcr7
  have hz2W : W.heap.size + 1 ≤ w1.heap.size := by first | omega | (have := hN1; omega)
  have HF : Hid (DSgiF W (.returned (.tuple #[.agg #[.slice av L.length cv], .int .i64 y])) (w7.setCell ⟨W.heap.size, 0, none⟩ (.slice av L.length cv))) := Lib.hid ⟨L, av, cv, y, hl13, HI.out, hy64, rfl, hs7.grownBy (grownBy_setCell w7 W.heap.size 0 _) hf (by omega), fun p hp => by have := hf p hp; omega, hb7.setCell (Nat.le_refl _) _⟩
  go_wp2_with fail
  exact bodyPost_ret (v := .tuple #[.agg #[.slice av L.length cv], .int .i64 y]) (by simp [results, Try.results11, go_sem, hcf]) rfl HF.out

theorem slw_lt {w : World} {av : Option Addr} {cv : Nat} {L : List Int} (h : SlW w av cv (L.map (Value.int .i64))) {p : Addr} (hp : av = some p) (hne : L ≠ []) : p.block < w.heap.size := by
  obtain ⟨b, off, e, hlt, -⟩ := h.sl.open (by intro e; rw [List.map_eq_nil_iff] at e; exact hne e)
  rw [hp] at e; cases e; exact hlt
theorem slw_grownN {w w' : World} {av : Option Addr} {cv N : Nat} {L : List Int} (h : SlW w av cv (L.map (Value.int .i64))) (hg : w.grownBy w' (some N)) (hn : ∀ p, av = some p → L ≠ [] → p.block ≠ N) : SlW w' av cv (L.map (Value.int .i64)) := by
  by_cases hL : L = []
  · subst hL; exact ⟨.inl rfl, h.nil0, h.le, h.mx⟩
  · exact h.grownN hg fun p hp => hn p hp hL

set_option maxRecDepth 100000 in
set_option maxHeartbeats 1600000 in
theorem DrawScaledElements_any (W : World) (a : Option Addr) (len cap : Nat) (zs : List Int) (hr : IsRow .u8 W a len cap zs) (hl : len ≤ 1048576) :
    Calls Try.prog 14 #[.slice a len cap] W (DSgiiF W) := by
  have hb0 := box_below W (.cells #[.slice none 0 0] 26)
  have hA0 := Arr.new W 26 [.slice none 0 0]
  have cq := DrawQuotientOf_any (W.alloc (.cells #[.slice none 0 0] 26)) a len cap zs (hr.below hb0) hl
  have hsz : W.heap.size < (W.alloc (.cells #[.slice none 0 0] 26)).heap.size := hA0.lt
  go_enter Try.func14, Try.ntmps14
  go_wp2_with fail
  refine cq.mono ?_
  rintro e w1 ⟨L, av, cv, n, hl13, hI, hn, rfl, hs1, hf, hb1⟩
  have HI := Lib.hid hI
  have hA1 := hA0.below hb1
  have hbw1 := hb0.trans (hb1.mono (Nat.le_of_lt hsz))
  have hz1 := hb1.size
  obtain ⟨w2, hw2⟩ : ∃ w2, w2 = w1.alloc (.cells #[.slice av L.length cv] 26) := ⟨_, rfl⟩
  have hb2 : Below w1.heap.size w1 w2 := by rw [hw2]; exact box_below _ _
  have hB2 : Arr w2 w1.heap.size 26 [.slice av L.length cv] := by rw [hw2]; exact Arr.new _ _ _
  have hbw2 := hbw1.trans (hb2.mono hbw1.size)
  have hs2 := hs1.below hb2
  have hA2 := hA1.below hb2
  have hz2 := hB2.lt
  have cn := l1New_any w2 a len cap zs (hr.below hbw2) hl
  have HW2 := Lib.hid hw2
  clear hr cq hA0 hb0 hb1 hs1 hA1 hI hw2 hb2
  go_wp2_with fail
  rw [← HW2.out]
  refine cn.mono ?_
  rintro e w3 ⟨N, rfl, hd⟩
  have hNb := hd.base
  have hN1 := hd.lt
  have hbz := hd.bel
  have hz3 := hd.bel.size
  have hrN : W.heap.size ≠ N := by omega
  have hbN : w1.heap.size ≠ N := by omega
  have hR3 := hA2.below hbz
  have hB3 := hB2.below hbz
  have hs3 := hs2.below hbz
  have hb3 := hbw2.trans (hbz.mono hbw2.size)
  have hcb : w3.drew.cell? ⟨w1.heap.size, 0, none⟩ = some (.slice av L.length cv) := hB3.cell 0
  have hdd : Dr w2 w3.drew N a len cap zs := hd.drewN 1
  have hNs : ∀ p, av = some p → L ≠ [] → p.block ≠ N := fun p hp hne => by have := slw_lt hs2 hp hne; omega
  have pk : ∀ (x4 x5 : Int) (w6 : World), Dr w2 w6 N a len cap zs → Calls Try.prog 41 #[.pointer (some ⟨N, 0, none⟩), .slice (some ⟨w6.heap.size, 0, none⟩) 5 5] (w6.alloc (.cells #[.int .i64 x4, .int .i64 x5, .int .i64 200, .int .i64 201, .int .i64 (-1)] 3)) fun e w' => ∃ x ∈ [x4, x5, 200, 201, -1], e = .returned (.int .i64 x) ∧ Dr w2 w' N a len cap zs ∧ (w6.alloc (.cells #[.int .i64 x4, .int .i64 x5, .int .i64 200, .int .i64 201, .int .i64 (-1)] 3)).grownBy w' (some N) := fun x4 x5 w6 hd6 => l1PickInt_dr (hd6.alloc (.cells #[.int .i64 x4, .int .i64 x5, .int .i64 200, .int .i64 201, .int .i64 (-1)] 3)) [x4, x5, 200, 201, -1] w6.heap.size 5 (by simp) (by simp) (by simp) (by have := hd6.lt; omega) (fun i u h => ((Arr.new w6 3 ([x4, x5, 200, 201, -1].map (Value.int .i64))).cell i).trans h)
  clear cn hd hbz hA2 hB2
  go_wp2_with fail
  refine wp_region_held_drew (S := fun w' => w'.cell? ⟨w1.heap.size, 0, none⟩ = some (.slice av L.length cv)) (by kernel_rfl) hcb (fun hHeld => ?_)
  refine held_take 0 _ _ rfl (by kernel_rfl) (by kernel_rfl) (by kernel_rfl) (fun _ _ _ h => h) (by rfl) hHeld (fun w hSw => by (try dsimp only at hSw); go_simp; try with_reducible rfl) ?_
  (try simp only [Act.put, List.setIfInBounds_toArray, List.set_cons_zero, List.set_cons_succ, List.getElem_toArray, List.getElem_cons_zero])
  refine held_take 1 _ _ rfl (by kernel_rfl) (by kernel_rfl) (by kernel_rfl) (fun _ _ _ h => h) (by rfl) hHeld (fun w hSw => by (try dsimp only at hSw); go_simp; try with_reducible rfl) ?_
  (try simp only [Act.put, List.setIfInBounds_toArray, List.set_cons_zero, List.set_cons_succ, List.getElem_toArray, List.getElem_cons_succ, List.getElem_cons_zero])
  refine held_take 2 _ _ rfl (by kernel_rfl) (by kernel_rfl) (by kernel_rfl) (fun _ _ _ h => h) (by rfl) hHeld (fun w hSw => by (try dsimp only at hSw); go_simp; try with_reducible rfl) ?_
  (try simp only [Act.put, List.setIfInBounds_toArray, List.set_cons_zero, List.set_cons_succ, List.getElem_toArray, List.getElem_cons_succ, List.getElem_cons_zero])
  refine held_take 3 _ _ rfl (by kernel_rfl) (by kernel_rfl) (by kernel_rfl) (fun _ _ _ h => h) (by rfl) hHeld (fun w hSw => by (try dsimp only at hSw); go_simp; try with_reducible rfl) ?_
  (try simp only [Act.put, List.setIfInBounds_toArray, List.set_cons_zero, List.set_cons_succ, List.getElem_toArray, List.getElem_cons_succ, List.getElem_cons_zero])
  refine held_take 5 _ _ rfl (by kernel_rfl) (by kernel_rfl) (by kernel_rfl) (fun _ _ _ h => h) (by rfl) hHeld (fun w hSw => by (try dsimp only at hSw); go_simp; try with_reducible rfl) ?_
  (try simp only [Act.put, List.setIfInBounds_toArray, List.set_cons_zero, List.set_cons_succ, List.getElem_toArray, List.getElem_cons_succ, List.getElem_cons_zero])
  refine wpAnyH_ready (rs := [4]) (by kernel_rfl) (by simp) ?_
  refine AllReadyH.cons rfl (fun K hK => ?_) AllReadyH.nil
  rw [if_pos (by rfl)]
  go_wp2_with (first | (go_at_call 52; (with_reducible refine (l1Below_dr hdd 30 (by decide)).mono ?_); rintro e w4 ⟨x4, ⟨hx40, hx4⟩, rfl, hd4, hg4⟩; have hx4b : x4 < 30 := (by omega); clear hx4; have hz4' : w3.heap.size ≤ w4.heap.size := hg4.size))
  refine hK.out _ _ ((grown_cell (w := w3.drew) hg4 (by show w1.heap.size < w3.heap.size; omega) hbN).trans hHeld) (fun hHeld1 => ?_)
  clear hK K
  (try simp only [Act.put, List.setIfInBounds_toArray, List.set_cons_zero, List.set_cons_succ, List.getElem_toArray, List.getElem_cons_succ, List.getElem_cons_zero])
  refine wpAnyH_ready (rs := [6]) (by kernel_rfl) (by simp) ?_
  refine AllReadyH.cons rfl (fun K hK => ?_) AllReadyH.nil
  rw [if_pos (by rfl)]
  go_wp2_with (first | (go_at_call 52; (with_reducible refine (l1Below_dr hd4 30 (by decide)).mono ?_); rintro e w6 ⟨x5, ⟨hx50, hx5⟩, rfl, hd6, hg6⟩; have hx5b : x5 < 30 := (by omega); clear hx5; have hz6' : w4.heap.size ≤ w6.heap.size := hg6.size))
  refine hK.out _ _ ((grown_cell (w := w4) hg6 (by show w1.heap.size < w4.heap.size; omega) hbN).trans hHeld1) (fun hHeld2 => ?_)
  clear hK K
  (try simp only [Act.put, List.setIfInBounds_toArray, List.set_cons_zero, List.set_cons_succ, List.getElem_toArray, List.getElem_cons_succ, List.getElem_cons_zero])
  refine wpAnyH_ready (rs := [7]) (by kernel_rfl) (by simp) ?_
  refine AllReadyH.cons rfl (fun K hK => ?_) AllReadyH.nil
  rw [if_pos (by rfl)]
  go_wp2_with fail
  refine hK.out _ _ ((by rw [World.cell?_alloc_lt _ _ _ (show w1.heap.size < w6.heap.size by omega)]; exact hHeld2)) (fun hHeld3 => ?_)
  clear hK K
  (try simp only [Act.put, List.setIfInBounds_toArray, List.set_cons_zero, List.set_cons_succ, List.getElem_toArray, List.getElem_cons_succ, List.getElem_cons_zero])
  refine wpAnyH_ready (rs := [8]) (by kernel_rfl) (by simp) ?_
  refine AllReadyH.cons rfl (fun K hK => ?_) AllReadyH.nil
  rw [if_pos (by rfl)]
  go_wp2_with (first | (go_at_call 41; (with_reducible refine (pk x4 x5 w6 hd6).mono ?_); rintro e w7 ⟨y, hy, rfl, hd7, hg7⟩; have hz7' : w6.heap.size + 1 ≤ w7.heap.size := (by have := hg7.size; simp at this; omega); have hR7 := ((((hR3.drew.grownN hg4 hrN).grownN hg6 hrN).alloc (.cells #[.int .i64 x4, .int .i64 x5, .int .i64 200, .int .i64 201, .int .i64 (-1)] 3)).grownN hg7 hrN); have hcr7 : w7.cell? ⟨W.heap.size, 0, none⟩ = some (.slice none 0 0) := hR7.cell 0; have hfr7 := hR7.frozen 0))
  refine hK.out _ _ ((grown_cell hg7 (by simp; omega) hbN).trans hHeld3) (fun hHeld4 => ?_)
  clear hK K
  (try simp only [Act.put, List.setIfInBounds_toArray, List.set_cons_zero, List.set_cons_succ, List.getElem_toArray, List.getElem_cons_succ, List.getElem_cons_zero])
  refine wpAnyH_ready (rs := [9]) (by kernel_rfl) (by simp) ?_
  refine AllReadyH.cons rfl (fun K hK => ?_) AllReadyH.nil
  rw [if_pos (by rfl)]
  go_wp2_with fail
  refine hK.out _ _ ((World.cell?_setCell_other _ _ _ _ (by first | (simp; done) | (simp; omega))).trans hHeld4) (fun hHeld5 => ?_)
  clear hK K
  (try simp only [Act.put, List.setIfInBounds_toArray, List.set_cons_zero, List.set_cons_succ, List.getElem_toArray, List.getElem_cons_succ, List.getElem_cons_zero])
  refine held_take 10 _ _ rfl (by kernel_rfl) (by kernel_rfl) (by kernel_rfl) (fun _ _ _ h => h) (by rfl) hHeld5 (fun w hSw => by (try dsimp only at hSw); go_simp; try with_reducible rfl) ?_
  (try simp only [Act.put, List.setIfInBounds_toArray, List.set_cons_zero, List.set_cons_succ, List.getElem_toArray, List.getElem_cons_succ, List.getElem_cons_zero])
  refine held_take 11 _ _ rfl (by kernel_rfl) (by kernel_rfl) (by kernel_rfl) (fun _ _ _ h => h) (by rfl) hHeld5 (fun w hSw => by (try dsimp only at hSw); go_simp; try with_reducible rfl) ?_
  (try simp only [Act.put, List.setIfInBounds_toArray, List.set_cons_zero, List.set_cons_succ, List.getElem_toArray, List.getElem_cons_succ, List.getElem_cons_zero])
  refine wpAnyH_done (by kernel_rfl) ?_ _
  have hWN : W.heap.size ≤ N := by omega
  have hs7 := (slw_grownN ((slw_grownN (slw_grownN (w := w3.drew) ⟨hs3.sl, hs3.nil0, hs3.le, hs3.mx⟩ hg4 hNs) hg6 hNs).below (box_below w6 (.cells #[.int .i64 x4, .int .i64 x5, .int .i64 200, .int .i64 201, .int .i64 (-1)] 3))) hg7 hNs)
  have hb4 := hb3.drew.grown hg4 hb3.size (fun k hk => by cases hk; exact hWN)
  have hb6 := hb4.grown hg6 hb4.size (fun k hk => by cases hk; exact hWN)
  have hb6' := hb6.alloc hb6.size (.cells #[.int .i64 x4, .int .i64 x5, .int .i64 200, .int .i64 201, .int .i64 (-1)] 3)
  have hb7 := hb6'.grown hg7 hb6'.size (fun k hk => by cases hk; exact hWN)
  have hy64 : InI64 y := by
    unfold InI64
    simp only [List.mem_cons, List.mem_nil_iff, or_false] at hy
    omega
  have hcf := World.cell?_setCell_same w7 ⟨W.heap.size, 0, none⟩ (.slice av L.length cv) hcr7
  have hf2 : ∀ p, av = some p → W.heap.size < p.block := fun p hp => by have := hf p hp; simp at this; omega
  have HF : Hid (DSgiiF W (.returned (.tuple #[.agg #[.slice av L.length cv], .int .i64 n, .int .i64 y])) (w7.setCell ⟨W.heap.size, 0, none⟩ (.slice av L.length cv))) := Lib.hid ⟨L, av, cv, n, y, hl13, HI.out, hn, hy64, rfl, hs7.grownN (grownBy_setCell w7 W.heap.size 0 _) (fun p hp => by have := hf2 p hp; omega), hf2, hb7.setCell (Nat.le_refl _) _⟩
  go_wp2_with fail
  exact bodyPost_ret (v := .tuple #[.agg #[.slice av L.length cv], .int .i64 n, .int .i64 y]) (by simp [results, Try.results14, go_sem, hcf]) rfl HF.out
end Go.Proofs.Ytljfiiohiolbnaa
