/-
  DRAWS OF CHAPTER 18: DrawMeetOf, DrawAddOf, DrawIsWithin (written by mkD20.py). (Own work.)
-/
import Derived.Test.YtljfiiohiolbnaaDrw6
import Derived.Test.YtljfiiohiolbnaaL58
namespace Go.Proofs.Ytljfiiohiolbnaa
open Go Go.RowKit

set_option maxRecDepth 100000 in
set_option maxHeartbeats 3200000 in
theorem DrawMeetOf_any (W : World) (a : Option Addr) (len cap : Nat) (zs : List Int) (hr : IsRow .u8 W a len cap zs) (hl : len ≤ 1048576) :
    Calls Try.prog 21 #[.slice a len cap] W (DSg2 W) := by
  have hb0 : Below W.heap.size W ((W.alloc (.cells #[.slice none 0 0] 26)).alloc (.cells #[.slice none 0 0] 26)) := ((Below.refl _ _).alloc (Nat.le_refl _) _).alloc (by simp) _
  have hR0 := (Arr.new W 26 [.slice none 0 0]).alloc (.cells #[.slice none 0 0] 26)
  have hT0 : Arr ((W.alloc (.cells #[.slice none 0 0] 26)).alloc (.cells #[.slice none 0 0] 26)) (W.heap.size + 1) 26 [.slice none 0 0] := by
    have h := Arr.new (W.alloc (.cells #[.slice none 0 0] 26)) 26 [.slice none 0 0]
    rw [show (W.alloc (.cells #[.slice none 0 0] 26)).heap.size = W.heap.size + 1 by simp] at h; exact h
  have cn := l1New_any ((W.alloc (.cells #[.slice none 0 0] 26)).alloc (.cells #[.slice none 0 0] 26)) a len cap zs (hr.below hb0) hl
  have hsz : W.heap.size + 1 < ((W.alloc (.cells #[.slice none 0 0] 26)).alloc (.cells #[.slice none 0 0] 26)).heap.size := hT0.lt
  clear hr
  go_enter Try.func21, Try.ntmps21
  go_wp2_with fail
  refine cn.mono ?_
  rintro e w1 ⟨N, rfl, hd⟩
  have hNb := hd.base
  have hN1 := hd.lt
  have hR1 := hR0.below hd.bel
  have hT1 := hT0.below hd.bel
  have hb1 := hb0.trans (hd.bel.mono (by omega))
  have hz1 := hd.bel.size
  clear cn hR0 hT0
  go_wp2_with fail
  refine (l3Bent_dr hd).mono ?_
  rintro e w2 ⟨L, av, cv, hl13, hI, rfl, hs, hf, hd2, hg2⟩
  have HI := Lib.hid hI
  have hrN : W.heap.size ≠ N := by omega
  have htN : W.heap.size + 1 ≠ N := by omega
  have hWN : W.heap.size ≤ N := by omega
  have hbN : w2.heap.size ≠ N := by have := hg2.size; omega
  have hNs : ∀ p, av = some p → p.block ≠ N := fun p hp => by have := hf p hp; omega
  have hR2 := hR1.grownN hg2 hrN
  have hT2 := hT1.grownN hg2 htN
  have hb2 := hb1.grown hg2 hb1.size (fun k hk => by cases hk; exact hWN)
  have hz2 := hg2.size
  have hB3 := Arr.new w2 26 [.slice av L.length cv]
  obtain ⟨w4, hw4⟩ : ∃ w4, w4 = w2.alloc (.cells #[.slice av L.length cv] 26) := ⟨_, rfl⟩
  have hB4 : Arr w4 w2.heap.size 26 [.slice av L.length cv] := by rw [hw4]; exact hB3
  have hR4' : Arr w4 W.heap.size 26 [.slice none 0 0] := by rw [hw4]; exact hR2.alloc _
  have hT4' : Arr w4 (W.heap.size + 1) 26 [.slice none 0 0] := by rw [hw4]; exact hT2.alloc _
  have hs4' : SlW w4 av cv (L.map (Value.int .i64)) := by rw [hw4]; exact hs.below (box_below w2 _)
  have hb4' : Below W.heap.size W w4 := by rw [hw4]; exact hb2.alloc hb2.size _
  have hz4 : w2.heap.size + 1 ≤ w4.heap.size := by rw [hw4]; simp
  have hd4' : Dr ((W.alloc (.cells #[.slice none 0 0] 26)).alloc (.cells #[.slice none 0 0] 26)) w4 N a len cap zs := by rw [hw4]; exact hd2.alloc _
  have hcb : w4.drew.cell? ⟨w2.heap.size, 0, none⟩ = some (.slice av L.length cv) := hB4.cell 0
  have hd4 : Dr ((W.alloc (.cells #[.slice none 0 0] 26)).alloc (.cells #[.slice none 0 0] 26)) w4.drew N a len cap zs := hd4'.drewN 1
  have hR4 : Arr w4.drew W.heap.size 26 [.slice none 0 0] := hR4'
  have hT4 : Arr w4.drew (W.heap.size + 1) 26 [.slice none 0 0] := hT4'
  have hs4 : SlW w4.drew av cv (L.map (Value.int .i64)) := ⟨hs4'.sl, hs4'.nil0, hs4'.le, hs4'.mx⟩
  have hb4 : Below W.heap.size W w4.drew := hb4'.drew
  have HW4 := Lib.hid hw4
  clear hB3 hR2 hT2 hs hd2 hb4' hR4' hT4' hs4' hd4' hb2 hw4 hB4 hI hd hg2 hR1 hT1 hb0 hb1
  go_wp2_with fail
  rw [← HW4.out]
  refine wp_region_held_drew (S := fun w' => w'.cell? ⟨w2.heap.size, 0, none⟩ = some (.slice av L.length cv)) (by kernel_rfl) hcb (fun hHeld => ?_)
  refine held_take 0 _ _ rfl (by kernel_rfl) (by kernel_rfl) (by kernel_rfl) (fun _ _ _ h => h) (by rfl) hHeld (fun w hSw => by (try dsimp only at hSw); go_simp; try with_reducible rfl) ?_
  (try simp only [Act.put, List.setIfInBounds_toArray, List.set_cons_zero, List.set_cons_succ, List.getElem_toArray, List.getElem_cons_zero])
  refine held_take 1 _ _ rfl (by kernel_rfl) (by kernel_rfl) (by kernel_rfl) (fun _ _ _ h => h) (by rfl) hHeld (fun w hSw => by (try dsimp only at hSw); go_simp; try with_reducible rfl) ?_
  (try simp only [Act.put, List.setIfInBounds_toArray, List.set_cons_zero, List.set_cons_succ, List.getElem_toArray, List.getElem_cons_succ, List.getElem_cons_zero])
  refine wpAnyH_ready (rs := [2]) (by kernel_rfl) (by simp) ?_
  refine AllReadyH.cons rfl (fun K hK => ?_) AllReadyH.nil
  rw [if_pos (by rfl)]
  go_wp2_with (first | (go_at_call 40; (with_reducible refine (l3Bent_dr hd4).mono ?_); rintro e w5 ⟨M, bv, dv, hl13b, hIb, rfl, hsb, hfb, hd5, hg5⟩; have hR5 := hR4.grownN hg5 hrN; have hT5 := hT4.grownN hg5 htN; have hcr5 : w5.cell? ⟨W.heap.size, 0, none⟩ = some (.slice none 0 0) := hR5.cell 0; have hct5 : w5.cell? ⟨W.heap.size + 1, 0, none⟩ = some (.slice none 0 0) := hT5.cell 0; have hfr5 := hR5.frozen 0; have hft5 := hT5.frozen 0))
  refine hK.out _ _ ((grown_cell (w := w4.drew) hg5 (by show w2.heap.size < w4.heap.size; omega) hbN).trans hHeld) (fun hHeld1 => ?_)
  clear hK K
  (try simp only [Act.put, List.setIfInBounds_toArray, List.set_cons_zero, List.set_cons_succ, List.getElem_toArray, List.getElem_cons_succ, List.getElem_cons_zero])
  refine wpAnyH_ready (rs := [3]) (by kernel_rfl) (by simp) ?_
  refine AllReadyH.cons rfl (fun K hK => ?_) AllReadyH.nil
  rw [if_pos (by rfl)]
  go_wp2_with fail
  refine hK.out _ _ ((World.cell?_setCell_other _ _ _ _ (by first | (simp; done) | (simp; omega))).trans hHeld1) (fun hHeld2 => ?_)
  clear hK K
  (try simp only [Act.put, List.setIfInBounds_toArray, List.set_cons_zero, List.set_cons_succ, List.getElem_toArray, List.getElem_cons_succ, List.getElem_cons_zero])
  refine wpAnyH_ready (rs := [4]) (by kernel_rfl) (by simp) ?_
  refine AllReadyH.cons rfl (fun K hK => ?_) AllReadyH.nil
  rw [if_pos (by rfl)]
  go_wp2_with fail
  refine hK.out _ _ ((World.cell?_setCell_other _ _ _ _ (by first | (simp; done) | (simp; omega))).trans hHeld2) (fun hHeld3 => ?_)
  clear hK K
  (try simp only [Act.put, List.setIfInBounds_toArray, List.set_cons_zero, List.set_cons_succ, List.getElem_toArray, List.getElem_cons_succ, List.getElem_cons_zero])
  refine wpAnyH_done (by kernel_rfl) ?_ _
  have hbel5 := hb4.grown hg5 hb4.size (fun k hk => by cases hk; exact hWN)
  have hfb' : ∀ p, bv = some p → w1.heap.size ≤ p.block := fun p hp => by have := hfb p hp; have h2 : w4.drew.heap.size = w4.heap.size := rfl; omega
  have hf2 : (w5.setCell ⟨W.heap.size, 0, none⟩ (.slice av L.length cv)).cell? ⟨W.heap.size + 1, 0, none⟩ = some (.slice none 0 0) := (World.cell?_setCell_other _ _ _ _ (by first | (simp; done) | (simp; omega))).trans hct5
  have hcf1 : ((w5.setCell ⟨W.heap.size, 0, none⟩ (.slice av L.length cv)).setCell ⟨W.heap.size + 1, 0, none⟩ (.slice bv M.length dv)).cell? ⟨W.heap.size, 0, none⟩ = some (.slice av L.length cv) := (World.cell?_setCell_other _ _ _ _ (by first | (simp; done) | (simp; omega))).trans (World.cell?_setCell_same w5 ⟨W.heap.size, 0, none⟩ (.slice av L.length cv) hcr5)
  have hcf2 := World.cell?_setCell_same (w5.setCell ⟨W.heap.size, 0, none⟩ (.slice av L.length cv)) ⟨W.heap.size + 1, 0, none⟩ (.slice bv M.length dv) hf2
  have hsA := (hs4.grownN hg5 hNs).grownBy (grownBy_setCell w5 W.heap.size 0 (.slice av L.length cv)) hf (by omega)
  have hsA2 := hsA.grownBy (grownBy_setCell _ (W.heap.size + 1) 0 (.slice bv M.length dv)) hf (by omega)
  have hsB := (hsb).grownBy (grownBy_setCell w5 W.heap.size 0 (.slice av L.length cv)) hfb' (by omega)
  have hsB2 := hsB.grownBy (grownBy_setCell _ (W.heap.size + 1) 0 (.slice bv M.length dv)) hfb' (by omega)
  have HF : Hid (DSg2 W (.returned (.tuple #[.agg #[.slice av L.length cv], .agg #[.slice bv M.length dv]])) ((w5.setCell ⟨W.heap.size, 0, none⟩ (.slice av L.length cv)).setCell ⟨W.heap.size + 1, 0, none⟩ (.slice bv M.length dv))) := Lib.hid ⟨L, M, av, bv, cv, dv, hl13, hl13b, HI.out, hIb, rfl, hsA2, hsB2, (hbel5.setCell (Nat.le_refl _) _).setCell (by simp) _⟩
  go_wp2_with fail
  refine bodyPost_ret (v := .tuple #[.agg #[.slice av L.length cv], .agg #[.slice bv M.length dv]]) ?_ rfl HF.out
  simp [results, Try.results21, go_sem, hcf1, hcf2]

set_option maxRecDepth 100000 in
set_option maxHeartbeats 3200000 in
theorem DrawAddOf_any (W : World) (a : Option Addr) (len cap : Nat) (zs : List Int) (hr : IsRow .u8 W a len cap zs) (hl : len ≤ 1048576) :
    Calls Try.prog 24 #[.slice a len cap] W (DSg2 W) := by
  have hb0 : Below W.heap.size W ((W.alloc (.cells #[.slice none 0 0] 26)).alloc (.cells #[.slice none 0 0] 26)) := ((Below.refl _ _).alloc (Nat.le_refl _) _).alloc (by simp) _
  have hR0 := (Arr.new W 26 [.slice none 0 0]).alloc (.cells #[.slice none 0 0] 26)
  have hT0 : Arr ((W.alloc (.cells #[.slice none 0 0] 26)).alloc (.cells #[.slice none 0 0] 26)) (W.heap.size + 1) 26 [.slice none 0 0] := by
    have h := Arr.new (W.alloc (.cells #[.slice none 0 0] 26)) 26 [.slice none 0 0]
    rw [show (W.alloc (.cells #[.slice none 0 0] 26)).heap.size = W.heap.size + 1 by simp] at h; exact h
  have cn := l1New_any ((W.alloc (.cells #[.slice none 0 0] 26)).alloc (.cells #[.slice none 0 0] 26)) a len cap zs (hr.below hb0) hl
  have hsz : W.heap.size + 1 < ((W.alloc (.cells #[.slice none 0 0] 26)).alloc (.cells #[.slice none 0 0] 26)).heap.size := hT0.lt
  clear hr
  go_enter Try.func24, Try.ntmps24
  go_wp2_with fail
  refine cn.mono ?_
  rintro e w1 ⟨N, rfl, hd⟩
  have hNb := hd.base
  have hN1 := hd.lt
  have hR1 := hR0.below hd.bel
  have hT1 := hT0.below hd.bel
  have hb1 := hb0.trans (hd.bel.mono (by omega))
  have hz1 := hd.bel.size
  clear cn hR0 hT0
  go_wp2_with fail
  refine (l3Bent_dr hd).mono ?_
  rintro e w2 ⟨L, av, cv, hl13, hI, rfl, hs, hf, hd2, hg2⟩
  have HI := Lib.hid hI
  have hrN : W.heap.size ≠ N := by omega
  have htN : W.heap.size + 1 ≠ N := by omega
  have hWN : W.heap.size ≤ N := by omega
  have hbN : w2.heap.size ≠ N := by have := hg2.size; omega
  have hNs : ∀ p, av = some p → p.block ≠ N := fun p hp => by have := hf p hp; omega
  have hR2 := hR1.grownN hg2 hrN
  have hT2 := hT1.grownN hg2 htN
  have hb2 := hb1.grown hg2 hb1.size (fun k hk => by cases hk; exact hWN)
  have hz2 := hg2.size
  have hB3 := Arr.new w2 26 [.slice av L.length cv]
  obtain ⟨w4, hw4⟩ : ∃ w4, w4 = w2.alloc (.cells #[.slice av L.length cv] 26) := ⟨_, rfl⟩
  have hB4 : Arr w4 w2.heap.size 26 [.slice av L.length cv] := by rw [hw4]; exact hB3
  have hR4' : Arr w4 W.heap.size 26 [.slice none 0 0] := by rw [hw4]; exact hR2.alloc _
  have hT4' : Arr w4 (W.heap.size + 1) 26 [.slice none 0 0] := by rw [hw4]; exact hT2.alloc _
  have hs4' : SlW w4 av cv (L.map (Value.int .i64)) := by rw [hw4]; exact hs.below (box_below w2 _)
  have hb4' : Below W.heap.size W w4 := by rw [hw4]; exact hb2.alloc hb2.size _
  have hz4 : w2.heap.size + 1 ≤ w4.heap.size := by rw [hw4]; simp
  have hd4' : Dr ((W.alloc (.cells #[.slice none 0 0] 26)).alloc (.cells #[.slice none 0 0] 26)) w4 N a len cap zs := by rw [hw4]; exact hd2.alloc _
  have hcb : w4.drew.cell? ⟨w2.heap.size, 0, none⟩ = some (.slice av L.length cv) := hB4.cell 0
  have hd4 : Dr ((W.alloc (.cells #[.slice none 0 0] 26)).alloc (.cells #[.slice none 0 0] 26)) w4.drew N a len cap zs := hd4'.drewN 1
  have hR4 : Arr w4.drew W.heap.size 26 [.slice none 0 0] := hR4'
  have hT4 : Arr w4.drew (W.heap.size + 1) 26 [.slice none 0 0] := hT4'
  have hs4 : SlW w4.drew av cv (L.map (Value.int .i64)) := ⟨hs4'.sl, hs4'.nil0, hs4'.le, hs4'.mx⟩
  have hb4 : Below W.heap.size W w4.drew := hb4'.drew
  have HW4 := Lib.hid hw4
  clear hB3 hR2 hT2 hs hd2 hb4' hR4' hT4' hs4' hd4' hb2 hw4 hB4 hI hd hg2 hR1 hT1 hb0 hb1
  go_wp2_with fail
  rw [← HW4.out]
  refine wp_region_held_drew (S := fun w' => w'.cell? ⟨w2.heap.size, 0, none⟩ = some (.slice av L.length cv)) (by kernel_rfl) hcb (fun hHeld => ?_)
  refine held_take 0 _ _ rfl (by kernel_rfl) (by kernel_rfl) (by kernel_rfl) (fun _ _ _ h => h) (by rfl) hHeld (fun w hSw => by (try dsimp only at hSw); go_simp; try with_reducible rfl) ?_
  (try simp only [Act.put, List.setIfInBounds_toArray, List.set_cons_zero, List.set_cons_succ, List.getElem_toArray, List.getElem_cons_zero])
  refine held_take 1 _ _ rfl (by kernel_rfl) (by kernel_rfl) (by kernel_rfl) (fun _ _ _ h => h) (by rfl) hHeld (fun w hSw => by (try dsimp only at hSw); go_simp; try with_reducible rfl) ?_
  (try simp only [Act.put, List.setIfInBounds_toArray, List.set_cons_zero, List.set_cons_succ, List.getElem_toArray, List.getElem_cons_succ, List.getElem_cons_zero])
  refine wpAnyH_ready (rs := [2]) (by kernel_rfl) (by simp) ?_
  refine AllReadyH.cons rfl (fun K hK => ?_) AllReadyH.nil
  rw [if_pos (by rfl)]
  go_wp2_with (first | (go_at_call 40; (with_reducible refine (l3Bent_dr hd4).mono ?_); rintro e w5 ⟨M, bv, dv, hl13b, hIb, rfl, hsb, hfb, hd5, hg5⟩; have hR5 := hR4.grownN hg5 hrN; have hT5 := hT4.grownN hg5 htN; have hcr5 : w5.cell? ⟨W.heap.size, 0, none⟩ = some (.slice none 0 0) := hR5.cell 0; have hct5 : w5.cell? ⟨W.heap.size + 1, 0, none⟩ = some (.slice none 0 0) := hT5.cell 0; have hfr5 := hR5.frozen 0; have hft5 := hT5.frozen 0))
  refine hK.out _ _ ((grown_cell (w := w4.drew) hg5 (by show w2.heap.size < w4.heap.size; omega) hbN).trans hHeld) (fun hHeld1 => ?_)
  clear hK K
  (try simp only [Act.put, List.setIfInBounds_toArray, List.set_cons_zero, List.set_cons_succ, List.getElem_toArray, List.getElem_cons_succ, List.getElem_cons_zero])
  refine wpAnyH_ready (rs := [3]) (by kernel_rfl) (by simp) ?_
  refine AllReadyH.cons rfl (fun K hK => ?_) AllReadyH.nil
  rw [if_pos (by rfl)]
  go_wp2_with fail
  refine hK.out _ _ ((World.cell?_setCell_other _ _ _ _ (by first | (simp; done) | (simp; omega))).trans hHeld1) (fun hHeld2 => ?_)
  clear hK K
  (try simp only [Act.put, List.setIfInBounds_toArray, List.set_cons_zero, List.set_cons_succ, List.getElem_toArray, List.getElem_cons_succ, List.getElem_cons_zero])
  refine wpAnyH_ready (rs := [4]) (by kernel_rfl) (by simp) ?_
  refine AllReadyH.cons rfl (fun K hK => ?_) AllReadyH.nil
  rw [if_pos (by rfl)]
  go_wp2_with fail
  refine hK.out _ _ ((World.cell?_setCell_other _ _ _ _ (by first | (simp; done) | (simp; omega))).trans hHeld2) (fun hHeld3 => ?_)
  clear hK K
  (try simp only [Act.put, List.setIfInBounds_toArray, List.set_cons_zero, List.set_cons_succ, List.getElem_toArray, List.getElem_cons_succ, List.getElem_cons_zero])
  refine wpAnyH_done (by kernel_rfl) ?_ _
  have hbel5 := hb4.grown hg5 hb4.size (fun k hk => by cases hk; exact hWN)
  have hfb' : ∀ p, bv = some p → w1.heap.size ≤ p.block := fun p hp => by have := hfb p hp; have h2 : w4.drew.heap.size = w4.heap.size := rfl; omega
  have hf2 : (w5.setCell ⟨W.heap.size, 0, none⟩ (.slice av L.length cv)).cell? ⟨W.heap.size + 1, 0, none⟩ = some (.slice none 0 0) := (World.cell?_setCell_other _ _ _ _ (by first | (simp; done) | (simp; omega))).trans hct5
  have hcf1 : ((w5.setCell ⟨W.heap.size, 0, none⟩ (.slice av L.length cv)).setCell ⟨W.heap.size + 1, 0, none⟩ (.slice bv M.length dv)).cell? ⟨W.heap.size, 0, none⟩ = some (.slice av L.length cv) := (World.cell?_setCell_other _ _ _ _ (by first | (simp; done) | (simp; omega))).trans (World.cell?_setCell_same w5 ⟨W.heap.size, 0, none⟩ (.slice av L.length cv) hcr5)
  have hcf2 := World.cell?_setCell_same (w5.setCell ⟨W.heap.size, 0, none⟩ (.slice av L.length cv)) ⟨W.heap.size + 1, 0, none⟩ (.slice bv M.length dv) hf2
  have hsA := (hs4.grownN hg5 hNs).grownBy (grownBy_setCell w5 W.heap.size 0 (.slice av L.length cv)) hf (by omega)
  have hsA2 := hsA.grownBy (grownBy_setCell _ (W.heap.size + 1) 0 (.slice bv M.length dv)) hf (by omega)
  have hsB := (hsb).grownBy (grownBy_setCell w5 W.heap.size 0 (.slice av L.length cv)) hfb' (by omega)
  have hsB2 := hsB.grownBy (grownBy_setCell _ (W.heap.size + 1) 0 (.slice bv M.length dv)) hfb' (by omega)
  have HF : Hid (DSg2 W (.returned (.tuple #[.agg #[.slice av L.length cv], .agg #[.slice bv M.length dv]])) ((w5.setCell ⟨W.heap.size, 0, none⟩ (.slice av L.length cv)).setCell ⟨W.heap.size + 1, 0, none⟩ (.slice bv M.length dv))) := Lib.hid ⟨L, M, av, bv, cv, dv, hl13, hl13b, HI.out, hIb, rfl, hsA2, hsB2, (hbel5.setCell (Nat.le_refl _) _).setCell (by simp) _⟩
  go_wp2_with fail
  refine bodyPost_ret (v := .tuple #[.agg #[.slice av L.length cv], .agg #[.slice bv M.length dv]]) ?_ rfl HF.out
  simp [results, Try.results24, go_sem, hcf1, hcf2]

theorem addL_in64 (A B : List Int) : ∀ x ∈ addL A B, InI64 x := by
  intro x hx
  unfold addL at hx
  split at hx
  · cases hf : fromB (A ++ B) with
    | true => exact sg_in64 (fromL_isSg hf) x hx
    | false => rw [fromL_no hf] at hx; cases hx
  · cases hx

set_option maxRecDepth 100000 in
set_option maxHeartbeats 3200000 in
theorem DrawIsWithin_any (W : World) (a : Option Addr) (len cap : Nat) (zs : List Int) (hr : IsRow .u8 W a len cap zs) (hl : len ≤ 1048576) :
    Calls Try.prog 27 #[.slice a len cap] W (DSg2 W) := by
  have hb0 : Below W.heap.size W ((W.alloc (.cells #[.slice none 0 0] 26)).alloc (.cells #[.slice none 0 0] 26)) := ((Below.refl _ _).alloc (Nat.le_refl _) _).alloc (by simp) _
  have hR0 := (Arr.new W 26 [.slice none 0 0]).alloc (.cells #[.slice none 0 0] 26)
  have hT0 : Arr ((W.alloc (.cells #[.slice none 0 0] 26)).alloc (.cells #[.slice none 0 0] 26)) (W.heap.size + 1) 26 [.slice none 0 0] := by
    have h := Arr.new (W.alloc (.cells #[.slice none 0 0] 26)) 26 [.slice none 0 0]
    rw [show (W.alloc (.cells #[.slice none 0 0] 26)).heap.size = W.heap.size + 1 by simp] at h; exact h
  have cn := l1New_any ((W.alloc (.cells #[.slice none 0 0] 26)).alloc (.cells #[.slice none 0 0] 26)) a len cap zs (hr.below hb0) hl
  have hsz : W.heap.size + 1 < ((W.alloc (.cells #[.slice none 0 0] 26)).alloc (.cells #[.slice none 0 0] 26)).heap.size := hT0.lt
  clear hr
  go_enter Try.func27, Try.ntmps27
  go_wp2_with fail
  refine cn.mono ?_
  rintro e w1 ⟨N, rfl, hd⟩
  have hNb := hd.base
  have hN1 := hd.lt
  have hR1 := hR0.below hd.bel
  have hT1 := hT0.below hd.bel
  have hb1 := hb0.trans (hd.bel.mono (by omega))
  have hz1 := hd.bel.size
  clear cn hR0 hT0
  go_wp2_with fail
  refine (l3Bent_dr hd).mono ?_
  rintro e w2 ⟨L, av, cv, hl13, hI, rfl, hs, hf, hd2, hg2⟩
  have HI := Lib.hid hI
  have hrN : W.heap.size ≠ N := by omega
  have htN : W.heap.size + 1 ≠ N := by omega
  have hWN : W.heap.size ≤ N := by omega
  have hbN : w2.heap.size ≠ N := by have := hg2.size; omega
  have hNs : ∀ p, av = some p → p.block ≠ N := fun p hp => by have := hf p hp; omega
  have hR2 := hR1.grownN hg2 hrN
  have hT2 := hT1.grownN hg2 htN
  have hb2 := hb1.grown hg2 hb1.size (fun k hk => by cases hk; exact hWN)
  have hz2 := hg2.size
  have hB3 := Arr.new w2 26 [.slice av L.length cv]
  obtain ⟨w4, hw4⟩ : ∃ w4, w4 = w2.alloc (.cells #[.slice av L.length cv] 26) := ⟨_, rfl⟩
  have hB4 : Arr w4 w2.heap.size 26 [.slice av L.length cv] := by rw [hw4]; exact hB3
  have hR4' : Arr w4 W.heap.size 26 [.slice none 0 0] := by rw [hw4]; exact hR2.alloc _
  have hT4' : Arr w4 (W.heap.size + 1) 26 [.slice none 0 0] := by rw [hw4]; exact hT2.alloc _
  have hs4' : SlW w4 av cv (L.map (Value.int .i64)) := by rw [hw4]; exact hs.below (box_below w2 _)
  have hb4' : Below W.heap.size W w4 := by rw [hw4]; exact hb2.alloc hb2.size _
  have hz4 : w2.heap.size + 1 ≤ w4.heap.size := by rw [hw4]; simp
  have hd4' : Dr ((W.alloc (.cells #[.slice none 0 0] 26)).alloc (.cells #[.slice none 0 0] 26)) w4 N a len cap zs := by rw [hw4]; exact hd2.alloc _
  have HW4 := Lib.hid hw4
  clear hB3 hR2 hT2 hs hd2 hb2 hw4 hI hd hg2 hR1 hT1 hb0 hb1
  go_wp2_with fail
  rw [← HW4.out]
  refine (l3Bent_dr hd4').mono ?_
  rintro e w5 ⟨M, bv, dv, hl13b, hIb, rfl, hsb, hfb, hd5, hg5⟩
  have HIb := Lib.hid hIb
  have hB5 := hB4.grownN hg5 hbN
  have hR5 := hR4'.grownN hg5 hrN
  have hT5 := hT4'.grownN hg5 htN
  have hs5 := hs4'.grownN hg5 hNs
  have hb5 := hb4'.grown hg5 hb4'.size (fun k hk => by cases hk; exact hWN)
  have hz5 := hg5.size
  have hbN5 : w5.heap.size ≠ N := by have := hd5.lt; omega
  have hMs : ∀ p, bv = some p → p.block ≠ N := fun p hp => by have := hfb p hp; have := hd4'.lt; omega
  obtain ⟨w6, hw6⟩ : ∃ w6, w6 = w5.alloc (.cells #[.slice bv M.length dv] 26) := ⟨_, rfl⟩
  have hB6 : Arr w6 w2.heap.size 26 [.slice av L.length cv] := by rw [hw6]; exact hB5.alloc _
  have hC6 : Arr w6 w5.heap.size 26 [.slice bv M.length dv] := by rw [hw6]; exact Arr.new _ _ _
  have hR6 : Arr w6 W.heap.size 26 [.slice none 0 0] := by rw [hw6]; exact hR5.alloc _
  have hT6 : Arr w6 (W.heap.size + 1) 26 [.slice none 0 0] := by rw [hw6]; exact hT5.alloc _
  have hs6 : SlW w6 av cv (L.map (Value.int .i64)) := by rw [hw6]; exact hs5.below (box_below w5 _)
  have hm6 : SlW w6 bv dv (M.map (Value.int .i64)) := by rw [hw6]; exact hsb.below (box_below w5 _)
  have hz6 : w5.heap.size < w6.heap.size := hC6.lt
  have hb6 : Below W.heap.size W w6 := by rw [hw6]; exact hb5.alloc hb5.size _
  have hd6 : Dr ((W.alloc (.cells #[.slice none 0 0] 26)).alloc (.cells #[.slice none 0 0] 26)) w6 N a len cap zs := by rw [hw6]; exact hd5.alloc _
  have HW6 := Lib.hid hw6
  clear hB4 hR4' hT4' hs4' hb4' hd4' hw6 hIb hsb hd5 hg5 hB5 hR5 hT5 hs5 hb5
  go_wp2_with fail
  rw [← HW6.out]
  refine (l1Once_dr hd6 2 (by decide)).mono ?_
  rintro e w7 ⟨b, rfl, hd7, hg7⟩
  have hB7 := hB6.grownN hg7 hbN
  have hC7 := hC6.grownN hg7 hbN5
  have hR7 := hR6.grownN hg7 hrN
  have hT7 := hT6.grownN hg7 htN
  have hs7 := hs6.grownN hg7 hNs
  have hm7 := hm6.grownN hg7 hMs
  have hb7 := hb6.grown hg7 hb6.size (fun k hk => by cases hk; exact hWN)
  have hz7 := hg7.size
  have hf0 : ∀ p, av = some p → W.heap.size + 1 < p.block := fun p hp => by have := hf p hp; omega
  have hfb0 : ∀ p, bv = some p → W.heap.size + 1 < p.block := fun p hp => by have := hfb p hp; omega
  have hk1 := hB7.cell 0
  have hk2 := hC7.cell 0
  clear hB6 hC6 hR6 hT6 hs6 hm6 hb6 hd6 hg7 hd7
  cases b
  · clear hk1 hk2
    have hg0 := hfb0
    have hk13 := hl13b
    have HIk := HIb
    have hB9 := hB7
    have hC9 := hC7
    have hR9 := hR7
    have hT9 := hT7
    have hs9 := hs7
    have hm9 := hm7
    have hb9 := hb7
    have hS0 : w7.drew.cell? ⟨w2.heap.size, 0, none⟩ = some (.slice av L.length cv) ∧ w7.drew.cell? ⟨w5.heap.size, 0, none⟩ = some (.slice bv M.length dv) := ⟨hB9.cell 0, hC9.cell 0⟩
    have hcr5 : w7.drew.cell? ⟨W.heap.size, 0, none⟩ = some (.slice none 0 0) := hR9.cell 0
    have hct5 : w7.drew.cell? ⟨W.heap.size + 1, 0, none⟩ = some (.slice none 0 0) := hT9.cell 0
    have hfr5 : w7.drew.frozen? ⟨W.heap.size, 0, none⟩ = false := hR9.frozen 0
    have hft5 : w7.drew.frozen? ⟨W.heap.size + 1, 0, none⟩ = false := hT9.frozen 0
    have hs9d : SlW w7.drew av cv (L.map (Value.int .i64)) := ⟨hs9.sl, hs9.nil0, hs9.le, hs9.mx⟩
    have hm9d : SlW w7.drew bv dv (M.map (Value.int .i64)) := ⟨hm9.sl, hm9.nil0, hm9.le, hm9.mx⟩
    have hb9d : Below W.heap.size W w7.drew := hb9.drew
    clear hB9 hC9 hR9 hT9 hs9 hm9 hb9
    go_wp2_with fail
    refine wp_region_held_drew (S := fun w' => w'.cell? ⟨w2.heap.size, 0, none⟩ = some (.slice av L.length cv) ∧ w'.cell? ⟨w5.heap.size, 0, none⟩ = some (.slice bv M.length dv)) (by kernel_rfl) hS0 (fun hHeld => ?_)
    generalize w7.drew = wd at *
    refine held_take 0 _ _ rfl (by kernel_rfl) (by kernel_rfl) (by kernel_rfl) (fun _ _ _ h => h) (by rfl) hHeld (fun w hSw => by (try dsimp only at hSw); go_simp; try with_reducible rfl) ?_
    (try simp only [Act.put, List.setIfInBounds_toArray, List.set_cons_zero, List.set_cons_succ, List.getElem_toArray, List.getElem_cons_zero])
    refine held_take 1 _ _ rfl (by kernel_rfl) (by kernel_rfl) (by kernel_rfl) (fun _ _ _ h => h) (by rfl) hHeld (fun w hSw => by (try dsimp only at hSw); go_simp; try with_reducible rfl) ?_
    (try simp only [Act.put, List.setIfInBounds_toArray, List.set_cons_zero, List.set_cons_succ, List.getElem_toArray, List.getElem_cons_succ, List.getElem_cons_zero])
    refine wpAnyH_ready (rs := [2]) (by kernel_rfl) (by simp) ?_
    refine AllReadyH.cons rfl (fun K hK => ?_) AllReadyH.nil
    rw [if_pos (by rfl)]
    go_wp2_with fail
    refine hK.out _ _ (⟨(World.cell?_setCell_other _ _ _ _ (by first | (simp; done) | (simp; omega))).trans (hHeld).1, (World.cell?_setCell_other _ _ _ _ (by first | (simp; done) | (simp; omega))).trans (hHeld).2⟩) (fun hHeld1 => ?_)
    clear hK K
    (try simp only [Act.put, List.setIfInBounds_toArray, List.set_cons_zero, List.set_cons_succ, List.getElem_toArray, List.getElem_cons_succ, List.getElem_cons_zero])
    refine wpAnyH_ready (rs := [3]) (by kernel_rfl) (by simp) ?_
    refine AllReadyH.cons rfl (fun K hK => ?_) AllReadyH.nil
    rw [if_pos (by rfl)]
    go_wp2_with fail
    refine hK.out _ _ (⟨(World.cell?_setCell_other _ _ _ _ (by first | (simp; done) | (simp; omega))).trans (hHeld1).1, (World.cell?_setCell_other _ _ _ _ (by first | (simp; done) | (simp; omega))).trans (hHeld1).2⟩) (fun hHeld2 => ?_)
    clear hK K
    (try simp only [Act.put, List.setIfInBounds_toArray, List.set_cons_zero, List.set_cons_succ, List.getElem_toArray, List.getElem_cons_succ, List.getElem_cons_zero])
    refine wpAnyH_done (by kernel_rfl) ?_ _
    have hf2 : (wd.setCell ⟨W.heap.size, 0, none⟩ (.slice av L.length cv)).cell? ⟨W.heap.size + 1, 0, none⟩ = some (.slice none 0 0) := (World.cell?_setCell_other _ _ _ _ (by first | (simp; done) | (simp; omega))).trans hct5
    have hcf1 : ((wd.setCell ⟨W.heap.size, 0, none⟩ (.slice av L.length cv)).setCell ⟨W.heap.size + 1, 0, none⟩ (.slice bv M.length dv)).cell? ⟨W.heap.size, 0, none⟩ = some (.slice av L.length cv) := (World.cell?_setCell_other _ _ _ _ (by first | (simp; done) | (simp; omega))).trans (World.cell?_setCell_same wd ⟨W.heap.size, 0, none⟩ (.slice av L.length cv) hcr5)
    have hcf2 := World.cell?_setCell_same (wd.setCell ⟨W.heap.size, 0, none⟩ (.slice av L.length cv)) ⟨W.heap.size + 1, 0, none⟩ (.slice bv M.length dv) hf2
    have hsA := hs9d.grownN (grownBy_setCell wd W.heap.size 0 (.slice av L.length cv)) (fun p hp => by have := hf0 p hp; omega)
    have hsA2 := hsA.grownN (grownBy_setCell _ (W.heap.size + 1) 0 (.slice bv M.length dv)) (fun p hp => by have := hf0 p hp; omega)
    have hsB := hm9d.grownN (grownBy_setCell wd W.heap.size 0 (.slice av L.length cv)) (fun p hp => by have := hg0 p hp; omega)
    have hsB2 := hsB.grownN (grownBy_setCell _ (W.heap.size + 1) 0 (.slice bv M.length dv)) (fun p hp => by have := hg0 p hp; omega)
    have HF : Hid (DSg2 W (.returned (.tuple #[.agg #[.slice av L.length cv], .agg #[.slice bv M.length dv]])) ((wd.setCell ⟨W.heap.size, 0, none⟩ (.slice av L.length cv)).setCell ⟨W.heap.size + 1, 0, none⟩ (.slice bv M.length dv))) := Lib.hid ⟨L, M, av, bv, cv, dv, hl13, hk13, HI.out, HIk.out, rfl, hsA2, hsB2, (hb9d.setCell (Nat.le_refl _) _).setCell (by simp) _⟩
    go_wp2_with fail
    refine bodyPost_ret (v := .tuple #[.agg #[.slice av L.length cv], .agg #[.slice bv M.length dv]]) ?_ rfl HF.out
    simp [results, Try.results27, go_sem, hcf1, hcf2]
  · have ca := spec_AddOf L M av cv bv dv w7 hs7.sl hm7.sl (by omega) (by omega)
    have hal := addL_len L M
    have HAI := Lib.hid (addL_in64 L M)
    generalize addL L M = K at *
    generalize addB L M = ok at *
    go_wp2_with fail
    refine ca.mono ?_
    rintro e w8 ⟨v8, rfl, ho8, hb8⟩
    obtain ⟨xv, xc, rfl, rX⟩ := row_open ho8
    have hm8 := rX.slw
    have hxf : ∀ p, xv = some p → W.heap.size + 1 < p.block := fun p hp => by have h3 := (SlW.of_owns ho8).2 p hp; omega
    have hB8 := hB7.below hb8
    have hC8 := hC7.below hb8
    have hR8 := hR7.below hb8
    have hT8 := hT7.below hb8
    have hs8 := hs7.below hb8
    have hn8 := hm7.below hb8
    have hbb8 := hb7.trans (hb8.mono hb7.size)
    have hz8 := hb8.size
    obtain ⟨w9, hw9⟩ : ∃ w9, w9 = w8.alloc (.cells #[.slice xv K.length xc] 26) := ⟨_, rfl⟩
    have hB9 : Arr w9 w2.heap.size 26 [.slice av L.length cv] := by rw [hw9]; exact hB8.alloc _
    have hC9 : Arr w9 w5.heap.size 26 [.slice bv M.length dv] := by rw [hw9]; exact hC8.alloc _
    have hX9 : Arr w9 w8.heap.size 26 [.slice xv K.length xc] := by rw [hw9]; exact Arr.new _ _ _
    have hR9 : Arr w9 W.heap.size 26 [.slice none 0 0] := by rw [hw9]; exact hR8.alloc _
    have hT9 : Arr w9 (W.heap.size + 1) 26 [.slice none 0 0] := by rw [hw9]; exact hT8.alloc _
    have hs9 : SlW w9 av cv (L.map (Value.int .i64)) := by rw [hw9]; exact hs8.below (box_below w8 _)
    have hn9 : SlW w9 bv dv (M.map (Value.int .i64)) := by rw [hw9]; exact hn8.below (box_below w8 _)
    have hx9 : SlW w9 xv xc (K.map (Value.int .i64)) := by rw [hw9]; exact hm8.below (box_below w8 _)
    have hb9 : Below W.heap.size W w9 := by rw [hw9]; exact hbb8.alloc hbb8.size _
    have hz9 : w8.heap.size < w9.heap.size := hX9.lt
    have HW9 := Lib.hid hw9
    clear ca hk1 hk2 ho8 rX hb8 hB8 hC8 hR8 hT8 hs8 hn8 hm8 hbb8 hw9 hB7 hC7 hR7 hT7 hs7 hm7 hb7
    cases ok
    · have hm9 := hn9
      have hg0 := hfb0
      have hk13 := hl13b
      have HIk := HIb
      clear hX9 hx9 hn9
      have hS0 : w9.drew.cell? ⟨w2.heap.size, 0, none⟩ = some (.slice av L.length cv) ∧ w9.drew.cell? ⟨w5.heap.size, 0, none⟩ = some (.slice bv M.length dv) := ⟨hB9.cell 0, hC9.cell 0⟩
      have hcr5 : w9.drew.cell? ⟨W.heap.size, 0, none⟩ = some (.slice none 0 0) := hR9.cell 0
      have hct5 : w9.drew.cell? ⟨W.heap.size + 1, 0, none⟩ = some (.slice none 0 0) := hT9.cell 0
      have hfr5 : w9.drew.frozen? ⟨W.heap.size, 0, none⟩ = false := hR9.frozen 0
      have hft5 : w9.drew.frozen? ⟨W.heap.size + 1, 0, none⟩ = false := hT9.frozen 0
      have hs9d : SlW w9.drew av cv (L.map (Value.int .i64)) := ⟨hs9.sl, hs9.nil0, hs9.le, hs9.mx⟩
      have hm9d : SlW w9.drew bv dv (M.map (Value.int .i64)) := ⟨hm9.sl, hm9.nil0, hm9.le, hm9.mx⟩
      have hb9d : Below W.heap.size W w9.drew := hb9.drew
      clear hB9 hC9 hR9 hT9 hs9 hm9 hb9
      go_wp2_with fail
      rw [← HW9.out]
      refine wp_region_held_drew (S := fun w' => w'.cell? ⟨w2.heap.size, 0, none⟩ = some (.slice av L.length cv) ∧ w'.cell? ⟨w5.heap.size, 0, none⟩ = some (.slice bv M.length dv)) (by kernel_rfl) hS0 (fun hHeld => ?_)
      generalize w9.drew = wd at *
      refine held_take 0 _ _ rfl (by kernel_rfl) (by kernel_rfl) (by kernel_rfl) (fun _ _ _ h => h) (by rfl) hHeld (fun w hSw => by (try dsimp only at hSw); go_simp; try with_reducible rfl) ?_
      (try simp only [Act.put, List.setIfInBounds_toArray, List.set_cons_zero, List.set_cons_succ, List.getElem_toArray, List.getElem_cons_zero])
      refine held_take 1 _ _ rfl (by kernel_rfl) (by kernel_rfl) (by kernel_rfl) (fun _ _ _ h => h) (by rfl) hHeld (fun w hSw => by (try dsimp only at hSw); go_simp; try with_reducible rfl) ?_
      (try simp only [Act.put, List.setIfInBounds_toArray, List.set_cons_zero, List.set_cons_succ, List.getElem_toArray, List.getElem_cons_succ, List.getElem_cons_zero])
      refine wpAnyH_ready (rs := [2]) (by kernel_rfl) (by simp) ?_
      refine AllReadyH.cons rfl (fun K hK => ?_) AllReadyH.nil
      rw [if_pos (by rfl)]
      go_wp2_with fail
      refine hK.out _ _ (⟨(World.cell?_setCell_other _ _ _ _ (by first | (simp; done) | (simp; omega))).trans (hHeld).1, (World.cell?_setCell_other _ _ _ _ (by first | (simp; done) | (simp; omega))).trans (hHeld).2⟩) (fun hHeld1 => ?_)
      clear hK K
      (try simp only [Act.put, List.setIfInBounds_toArray, List.set_cons_zero, List.set_cons_succ, List.getElem_toArray, List.getElem_cons_succ, List.getElem_cons_zero])
      refine wpAnyH_ready (rs := [3]) (by kernel_rfl) (by simp) ?_
      refine AllReadyH.cons rfl (fun K hK => ?_) AllReadyH.nil
      rw [if_pos (by rfl)]
      go_wp2_with fail
      refine hK.out _ _ (⟨(World.cell?_setCell_other _ _ _ _ (by first | (simp; done) | (simp; omega))).trans (hHeld1).1, (World.cell?_setCell_other _ _ _ _ (by first | (simp; done) | (simp; omega))).trans (hHeld1).2⟩) (fun hHeld2 => ?_)
      clear hK K
      (try simp only [Act.put, List.setIfInBounds_toArray, List.set_cons_zero, List.set_cons_succ, List.getElem_toArray, List.getElem_cons_succ, List.getElem_cons_zero])
      refine wpAnyH_done (by kernel_rfl) ?_ _
      have hf2 : (wd.setCell ⟨W.heap.size, 0, none⟩ (.slice av L.length cv)).cell? ⟨W.heap.size + 1, 0, none⟩ = some (.slice none 0 0) := (World.cell?_setCell_other _ _ _ _ (by first | (simp; done) | (simp; omega))).trans hct5
      have hcf1 : ((wd.setCell ⟨W.heap.size, 0, none⟩ (.slice av L.length cv)).setCell ⟨W.heap.size + 1, 0, none⟩ (.slice bv M.length dv)).cell? ⟨W.heap.size, 0, none⟩ = some (.slice av L.length cv) := (World.cell?_setCell_other _ _ _ _ (by first | (simp; done) | (simp; omega))).trans (World.cell?_setCell_same wd ⟨W.heap.size, 0, none⟩ (.slice av L.length cv) hcr5)
      have hcf2 := World.cell?_setCell_same (wd.setCell ⟨W.heap.size, 0, none⟩ (.slice av L.length cv)) ⟨W.heap.size + 1, 0, none⟩ (.slice bv M.length dv) hf2
      have hsA := hs9d.grownN (grownBy_setCell wd W.heap.size 0 (.slice av L.length cv)) (fun p hp => by have := hf0 p hp; omega)
      have hsA2 := hsA.grownN (grownBy_setCell _ (W.heap.size + 1) 0 (.slice bv M.length dv)) (fun p hp => by have := hf0 p hp; omega)
      have hsB := hm9d.grownN (grownBy_setCell wd W.heap.size 0 (.slice av L.length cv)) (fun p hp => by have := hg0 p hp; omega)
      have hsB2 := hsB.grownN (grownBy_setCell _ (W.heap.size + 1) 0 (.slice bv M.length dv)) (fun p hp => by have := hg0 p hp; omega)
      have HF : Hid (DSg2 W (.returned (.tuple #[.agg #[.slice av L.length cv], .agg #[.slice bv M.length dv]])) ((wd.setCell ⟨W.heap.size, 0, none⟩ (.slice av L.length cv)).setCell ⟨W.heap.size + 1, 0, none⟩ (.slice bv M.length dv))) := Lib.hid ⟨L, M, av, bv, cv, dv, hl13, hk13, HI.out, HIk.out, rfl, hsA2, hsB2, (hb9d.setCell (Nat.le_refl _) _).setCell (by simp) _⟩
      go_wp2_with fail
      refine bodyPost_ret (v := .tuple #[.agg #[.slice av L.length cv], .agg #[.slice bv M.length dv]]) ?_ rfl HF.out
      simp [results, Try.results27, go_sem, hcf1, hcf2]
    · have hm9 := hx9
      have hg0 := hxf
      have hk13 : K.length ≤ 13 := by omega
      have HIk := HAI
      replace hC9 := hX9
      clear hX9 hx9 hn9
      have hS0 : w9.drew.cell? ⟨w2.heap.size, 0, none⟩ = some (.slice av L.length cv) ∧ w9.drew.cell? ⟨w8.heap.size, 0, none⟩ = some (.slice xv K.length xc) := ⟨hB9.cell 0, hC9.cell 0⟩
      have hcr5 : w9.drew.cell? ⟨W.heap.size, 0, none⟩ = some (.slice none 0 0) := hR9.cell 0
      have hct5 : w9.drew.cell? ⟨W.heap.size + 1, 0, none⟩ = some (.slice none 0 0) := hT9.cell 0
      have hfr5 : w9.drew.frozen? ⟨W.heap.size, 0, none⟩ = false := hR9.frozen 0
      have hft5 : w9.drew.frozen? ⟨W.heap.size + 1, 0, none⟩ = false := hT9.frozen 0
      have hs9d : SlW w9.drew av cv (L.map (Value.int .i64)) := ⟨hs9.sl, hs9.nil0, hs9.le, hs9.mx⟩
      have hm9d : SlW w9.drew xv xc (K.map (Value.int .i64)) := ⟨hm9.sl, hm9.nil0, hm9.le, hm9.mx⟩
      have hb9d : Below W.heap.size W w9.drew := hb9.drew
      clear hB9 hC9 hR9 hT9 hs9 hm9 hb9
      go_wp2_with fail
      rw [← HW9.out]
      refine wp_region_held_drew (S := fun w' => w'.cell? ⟨w2.heap.size, 0, none⟩ = some (.slice av L.length cv) ∧ w'.cell? ⟨w8.heap.size, 0, none⟩ = some (.slice xv K.length xc)) (by kernel_rfl) hS0 (fun hHeld => ?_)
      generalize w9.drew = wd at *
      refine held_take 0 _ _ rfl (by kernel_rfl) (by kernel_rfl) (by kernel_rfl) (fun _ _ _ h => h) (by rfl) hHeld (fun w hSw => by (try dsimp only at hSw); go_simp; try with_reducible rfl) ?_
      (try simp only [Act.put, List.setIfInBounds_toArray, List.set_cons_zero, List.set_cons_succ, List.getElem_toArray, List.getElem_cons_zero])
      refine held_take 1 _ _ rfl (by kernel_rfl) (by kernel_rfl) (by kernel_rfl) (fun _ _ _ h => h) (by rfl) hHeld (fun w hSw => by (try dsimp only at hSw); go_simp; try with_reducible rfl) ?_
      (try simp only [Act.put, List.setIfInBounds_toArray, List.set_cons_zero, List.set_cons_succ, List.getElem_toArray, List.getElem_cons_succ, List.getElem_cons_zero])
      refine wpAnyH_ready (rs := [2]) (by kernel_rfl) (by simp) ?_
      refine AllReadyH.cons rfl (fun K hK => ?_) AllReadyH.nil
      rw [if_pos (by rfl)]
      go_wp2_with fail
      refine hK.out _ _ (⟨(World.cell?_setCell_other _ _ _ _ (by first | (simp; done) | (simp; omega))).trans (hHeld).1, (World.cell?_setCell_other _ _ _ _ (by first | (simp; done) | (simp; omega))).trans (hHeld).2⟩) (fun hHeld1 => ?_)
      clear hK K
      (try simp only [Act.put, List.setIfInBounds_toArray, List.set_cons_zero, List.set_cons_succ, List.getElem_toArray, List.getElem_cons_succ, List.getElem_cons_zero])
      refine wpAnyH_ready (rs := [3]) (by kernel_rfl) (by simp) ?_
      refine AllReadyH.cons rfl (fun K hK => ?_) AllReadyH.nil
      rw [if_pos (by rfl)]
      go_wp2_with fail
      refine hK.out _ _ (⟨(World.cell?_setCell_other _ _ _ _ (by first | (simp; done) | (simp; omega))).trans (hHeld1).1, (World.cell?_setCell_other _ _ _ _ (by first | (simp; done) | (simp; omega))).trans (hHeld1).2⟩) (fun hHeld2 => ?_)
      clear hK K
      (try simp only [Act.put, List.setIfInBounds_toArray, List.set_cons_zero, List.set_cons_succ, List.getElem_toArray, List.getElem_cons_succ, List.getElem_cons_zero])
      refine wpAnyH_done (by kernel_rfl) ?_ _
      have hf2 : (wd.setCell ⟨W.heap.size, 0, none⟩ (.slice av L.length cv)).cell? ⟨W.heap.size + 1, 0, none⟩ = some (.slice none 0 0) := (World.cell?_setCell_other _ _ _ _ (by first | (simp; done) | (simp; omega))).trans hct5
      have hcf1 : ((wd.setCell ⟨W.heap.size, 0, none⟩ (.slice av L.length cv)).setCell ⟨W.heap.size + 1, 0, none⟩ (.slice xv K.length xc)).cell? ⟨W.heap.size, 0, none⟩ = some (.slice av L.length cv) := (World.cell?_setCell_other _ _ _ _ (by first | (simp; done) | (simp; omega))).trans (World.cell?_setCell_same wd ⟨W.heap.size, 0, none⟩ (.slice av L.length cv) hcr5)
      have hcf2 := World.cell?_setCell_same (wd.setCell ⟨W.heap.size, 0, none⟩ (.slice av L.length cv)) ⟨W.heap.size + 1, 0, none⟩ (.slice xv K.length xc) hf2
      have hsA := hs9d.grownN (grownBy_setCell wd W.heap.size 0 (.slice av L.length cv)) (fun p hp => by have := hf0 p hp; omega)
      have hsA2 := hsA.grownN (grownBy_setCell _ (W.heap.size + 1) 0 (.slice xv K.length xc)) (fun p hp => by have := hf0 p hp; omega)
      have hsB := hm9d.grownN (grownBy_setCell wd W.heap.size 0 (.slice av L.length cv)) (fun p hp => by have := hg0 p hp; omega)
      have hsB2 := hsB.grownN (grownBy_setCell _ (W.heap.size + 1) 0 (.slice xv K.length xc)) (fun p hp => by have := hg0 p hp; omega)
      have HF : Hid (DSg2 W (.returned (.tuple #[.agg #[.slice av L.length cv], .agg #[.slice xv K.length xc]])) ((wd.setCell ⟨W.heap.size, 0, none⟩ (.slice av L.length cv)).setCell ⟨W.heap.size + 1, 0, none⟩ (.slice xv K.length xc))) := Lib.hid ⟨L, K, av, xv, cv, xc, hl13, hk13, HI.out, HIk.out, rfl, hsA2, hsB2, (hb9d.setCell (Nat.le_refl _) _).setCell (by simp) _⟩
      go_wp2_with fail
      refine bodyPost_ret (v := .tuple #[.agg #[.slice av L.length cv], .agg #[.slice xv K.length xc]]) ?_ rfl HF.out
      simp [results, Try.results27, go_sem, hcf1, hcf2]
end Go.Proofs.Ytljfiiohiolbnaa
