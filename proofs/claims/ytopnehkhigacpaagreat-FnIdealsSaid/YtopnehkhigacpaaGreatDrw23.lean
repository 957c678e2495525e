/-
  DRAWS OF CHAPTER 16: DrawIdealSum, DrawDualGens, DrawCanonicalGens (written by mkD23.py). (Own work.)
-/
import Derived.Test.YtopnehkhigacpaaGreatDrw21
namespace Go.Proofs.YtopnehkhigacpaaGreat
open Go Go.RowKit

def DSgL (W : World) (e : Ending) (w' : World) : Prop :=
  ∃ (L : List Int) (av : Option Addr) (cv : Nat) (M : List Int) (bv : Option Addr) (dv : Nat), L.length ≤ 13 ∧ (∀ x ∈ L, InI64 x) ∧ M.length ≤ 5 ∧ (∀ x ∈ M, InI64 x) ∧ e = .returned (.tuple #[.agg #[.slice av L.length cv], .slice bv M.length dv]) ∧ SlW w' av cv (L.map (Value.int .i64)) ∧ SlW w' bv dv (M.map (Value.int .i64)) ∧ Below W.heap.size W w'
def DSgLL (W : World) (e : Ending) (w' : World) : Prop :=
  ∃ (L : List Int) (av : Option Addr) (cv : Nat) (M : List Int) (bv : Option Addr) (dv : Nat) (K : List Int) (kv : Option Addr) (ev : Nat), L.length ≤ 13 ∧ (∀ x ∈ L, InI64 x) ∧ M.length ≤ 5 ∧ (∀ x ∈ M, InI64 x) ∧ K.length ≤ 5 ∧ (∀ x ∈ K, InI64 x) ∧ e = .returned (.tuple #[.agg #[.slice av L.length cv], .slice bv M.length dv, .slice kv K.length ev]) ∧ SlW w' av cv (L.map (Value.int .i64)) ∧ SlW w' bv dv (M.map (Value.int .i64)) ∧ SlW w' kv ev (K.map (Value.int .i64)) ∧ Below W.heap.size W w'

set_option maxRecDepth 100000 in
set_option maxHeartbeats 1600000 in
theorem DrawCanonicalGens_any (W : World) (a : Option Addr) (len cap : Nat) (zs : List Int) (hr : IsRow .u8 W a len cap zs) (hl : len ≤ 1048576) :
    Calls Tryz.prog 11 #[.slice a len cap] W (DSg W) := by
  have hb0 := box_below W (.cells #[.slice none 0 0] 26)
  have hA0 := Arr.new W 26 [.slice none 0 0]
  have cn := l1New_any (W.alloc (.cells #[.slice none 0 0] 26)) a len cap zs (hr.below hb0) hl
  have hsz : W.heap.size < (W.alloc (.cells #[.slice none 0 0] 26)).heap.size := hA0.lt
  clear hr
  go_enter Tryz.func11, Tryz.ntmps11
  go_wp2_with fail
  refine cn.mono ?_
  rintro e w1 ⟨N, rfl, hd⟩
  have hNb := hd.base
  have hA1 := hA0.below hd.bel
  have hb1 := hb0.trans (hd.bel.mono (Nat.le_of_lt hsz))
  have hz1 := hd.bel.size
  clear cn hA0
  go_wp2_with fail
  refine (l3Bent_dr hd).mono ?_
  rintro e w2 ⟨L, av, cv, hl13, hI, rfl, hs, hf, hd2, hg2⟩
  have HI := Lib.hid hI
  have hA2 := hA1.grownN hg2 (by omega)
  have hc2 : w2.cell? ⟨W.heap.size, 0, none⟩ = some (.slice none 0 0) := hA2.cell 0
  have hf2 := hA2.frozen 0
  have hb2 := hb1.grown hg2 hb1.size (fun k hk => by cases hk; omega)
  have hcf := World.cell?_setCell_same w2 ⟨W.heap.size, 0, none⟩ (.slice av L.length cv) hc2
  have HF : Hid (DSg W (.returned (.agg #[.slice av L.length cv])) (w2.setCell ⟨W.heap.size, 0, none⟩ (.slice av L.length cv))) := Lib.hid ⟨L, av, cv, hl13, HI.out, rfl, hs.grownBy (grownBy_setCell w2 W.heap.size 0 _) hf (by omega), hb2.setCell (Nat.le_refl _) _⟩
  clear hI hs hd hd2 hg2 hA1 hA2 hb0 hb1 hb2 hf
  go_wp2_with fail
  exact bodyPost_ret (v := .agg #[.slice av L.length cv]) (by simp [results, Tryz.results11, go_sem, hcf]) rfl HF.out

set_option maxRecDepth 100000 in
set_option maxHeartbeats 1600000 in
theorem DrawDualGens_any (W : World) (a : Option Addr) (len cap : Nat) (zs : List Int) (hr : IsRow .u8 W a len cap zs) (hl : len ≤ 1048576) :
    Calls Tryz.prog 9 #[.slice a len cap] W (DSgL W) := by
  have hb0 := box_below W (.cells #[.slice none 0 0] 26)
  have hA0 := Arr.new W 26 [.slice none 0 0]
  have cq := DrawInIdeal_anyF (W.alloc (.cells #[.slice none 0 0] 26)) a len cap zs (hr.below hb0) hl
  have hsz : W.heap.size < (W.alloc (.cells #[.slice none 0 0] 26)).heap.size := hA0.lt
  clear hr
  go_enter Tryz.func9, Tryz.ntmps9
  go_wp2_with fail
  refine cq.mono ?_
  rintro e w1 ⟨L, av, cv, M, bv, dv, n, hl13, hI, hM5, hIM, -, rfl, hs1, hm1, hf, hfM, hb1⟩
  have HI := Lib.hid hI
  have HIM := Lib.hid hIM
  have hA1 := hA0.below hb1
  have hbw1 := hb0.trans (hb1.mono (Nat.le_of_lt hsz))
  have hz1 := hb1.size
  obtain ⟨w2, hw2⟩ : ∃ w2, w2 = w1.alloc (.cells #[.slice av L.length cv] 26) := ⟨_, rfl⟩
  have hb2 : Below w1.heap.size w1 w2 := by rw [hw2]; exact box_below _ _
  have hB2 : Arr w2 w1.heap.size 26 [.slice av L.length cv] := by rw [hw2]; exact Arr.new _ _ _
  have hbw2 := hbw1.trans (hb2.mono hbw1.size)
  have hs2 := hs1.below hb2
  have hm2 := hm1.below hb2
  have hA2 := hA1.below hb2
  have hcr : w2.cell? ⟨W.heap.size, 0, none⟩ = some (.slice none 0 0) := hA2.cell 0
  have hfr := hA2.frozen 0
  have hcb : w2.cell? ⟨w1.heap.size, 0, none⟩ = some (.slice av L.length cv) := hB2.cell 0
  have hcf := World.cell?_setCell_same w2 ⟨W.heap.size, 0, none⟩ (.slice av L.length cv) hcr
  have hfW : ∀ p, av = some p → p.block ≠ W.heap.size := fun p hp => by have := hf p hp; omega
  have hfMW : ∀ p, bv = some p → p.block ≠ W.heap.size := fun p hp => by have := hfM p hp; omega
  have HF : Hid (DSgL W (.returned (.tuple #[.agg #[.slice av L.length cv], .slice bv M.length dv])) (w2.setCell ⟨W.heap.size, 0, none⟩ (.slice av L.length cv))) := Lib.hid ⟨L, av, cv, M, bv, dv, hl13, HI.out, hM5, HIM.out, rfl, hs2.grownN (grownBy_setCell w2 W.heap.size 0 _) hfW, hm2.grownN (grownBy_setCell w2 W.heap.size 0 _) hfMW, hbw2.setCell (Nat.le_refl _) _⟩
  have HW2 := Lib.hid hw2
  rw [hw2] at hcr hfr hcb
  clear hI hIM cq hb0 hA0 hs1 hm1 hb1 hA1 hbw1 hb2 hB2 hbw2 hs2 hm2 hA2 hw2 hf hfM
  go_wp2_with fail
  rw [← HW2.out]
  exact bodyPost_ret (v := .tuple #[.agg #[.slice av L.length cv], .slice bv M.length dv]) (by simp [results, Tryz.results9, go_sem, hcf]) rfl HF.out

set_option maxRecDepth 100000 in
set_option maxHeartbeats 3200000 in
theorem DrawIdealSum_any (W : World) (a : Option Addr) (len cap : Nat) (zs : List Int) (hr : IsRow .u8 W a len cap zs) (hl : len ≤ 1048576) :
    Calls Tryz.prog 8 #[.slice a len cap] W (DSgLL W) := by
  have hb0 := box_below W (.cells #[.slice none 0 0] 26)
  have hA0 := Arr.new W 26 [.slice none 0 0]
  have cn := l1New_any (W.alloc (.cells #[.slice none 0 0] 26)) a len cap zs (hr.below hb0) hl
  have hsz : W.heap.size < (W.alloc (.cells #[.slice none 0 0] 26)).heap.size := hA0.lt
  clear hr
  go_enter Tryz.func8, Tryz.ntmps8
  go_wp2_with fail
  refine cn.mono ?_
  rintro e w1 ⟨N, rfl, hd⟩
  have hNb := hd.base
  have hN1 := hd.lt
  have hA1 := hA0.below hd.bel
  have hb1 := hb0.trans (hd.bel.mono (Nat.le_of_lt hsz))
  have hz1 := hd.bel.size
  clear cn hA0
  go_wp2_with fail
  refine (l3Bent_dr hd).mono ?_
  rintro e w2 ⟨L, av, cv, hl13, hI, rfl, hs, hf, hd2, hg2⟩
  have HI := Lib.hid hI
  have hrN : W.heap.size ≠ N := by omega
  have hbN : w2.heap.size ≠ N := by have := hg2.size; omega
  have hR2 := hA1.grownN hg2 hrN
  have hb2 := hb1.grown hg2 hb1.size (fun k hk => by cases hk; omega)
  have hz2 := hg2.size
  have hB3 := Arr.new w2 26 [.slice av L.length cv]
  obtain ⟨w3, hw3⟩ : ∃ w3, w3 = w2.alloc (.cells #[.slice av L.length cv] 26) := ⟨_, rfl⟩
  have hd3 : Dr (W.alloc (.cells #[.slice none 0 0] 26)) w3 N a len cap zs := by rw [hw3]; exact hd2.alloc _
  have hR3 : Arr w3 W.heap.size 26 [.slice none 0 0] := by rw [hw3]; exact hR2.alloc _
  have hB3' : Arr w3 w2.heap.size 26 [.slice av L.length cv] := by rw [hw3]; exact hB3
  have hs3 : SlW w3 av cv (L.map (Value.int .i64)) := by rw [hw3]; exact hs.below (box_below w2 _)
  have hb3 : Below W.heap.size W w3 := by rw [hw3]; exact hb2.alloc hb2.size _
  have hcb : w3.drew.cell? ⟨w2.heap.size, 0, none⟩ = some (.slice av L.length cv) := hB3'.cell 0
  have HW3 := Lib.hid hw3
  have hNl := hd3.lt
  clear hw3 hI hd hd2 hg2 hA1 hb0 hb1 hb2 hR2 hB3 hs hcb
  go_wp2_with fail
  rw [← HW3.out]
  refine (l16Draw_dr hd3).mono ?_
  rintro e w4 ⟨M, v, hM5, hIM, rfl, hown, hd4, hg4⟩
  obtain ⟨bv, dv, rfl, rM⟩ := row_open hown
  obtain ⟨hsM, hfM⟩ := SlW.of_owns hown
  have HIM := Lib.hid hIM
  have hz4 : w3.heap.size ≤ w4.heap.size := hg4.size
  have hz3 : w2.heap.size < w3.heap.size := hB3'.lt
  have hNs : ∀ p, av = some p → p.block ≠ N := fun p hp => by have := hf p hp; omega
  have hWN : W.heap.size ≤ N := by omega
  have hNsM : ∀ p, bv = some p → p.block ≠ N := fun p hp => by have := hfM p hp; omega
  have hB4 := hB3'.grownN hg4 hbN
  have hR4 := hR3.grownN hg4 hrN
  have hs4 := hs3.grownN hg4 hNs
  have hb4 := hb3.grown hg4 hb3.size (fun k hk => by cases hk; exact hWN)
  have hcb : w4.drew.cell? ⟨w2.heap.size, 0, none⟩ = some (.slice av L.length cv) := hB4.cell 0
  have hdd : Dr (W.alloc (.cells #[.slice none 0 0] 26)) w4.drew N a len cap zs := hd4.drewN 1
  have hR4d : Arr w4.drew W.heap.size 26 [.slice none 0 0] := hR4
  have hs4d : SlW w4.drew av cv (L.map (Value.int .i64)) := ⟨hs4.sl, hs4.nil0, hs4.le, hs4.mx⟩
  have hM4d : SlW w4.drew bv dv (M.map (Value.int .i64)) := ⟨hsM.sl, hsM.nil0, hsM.le, hsM.mx⟩
  have hb4d : Below W.heap.size W w4.drew := hb4.drew
  clear hown rM hIM hd4 hg4 hB4 hR4 hs4 hb4 hsM hB3' hR3 hs3 hb3 hd3
  go_wp2_with fail
  refine wp_region_held_drew (S := fun w' => w'.cell? ⟨w2.heap.size, 0, none⟩ = some (.slice av L.length cv)) (by kernel_rfl) hcb (fun hHeld => ?_)
  refine held_take 0 _ _ rfl (by kernel_rfl) (by kernel_rfl) (by kernel_rfl) (fun _ _ _ h => h) (by rfl) hHeld (fun w hSw => by (try dsimp only at hSw); go_simp; try with_reducible rfl) ?_
  (try simp only [Act.put, List.setIfInBounds_toArray, List.set_cons_zero, List.set_cons_succ, List.getElem_toArray, List.getElem_cons_zero])
  refine held_take 1 _ _ rfl (by kernel_rfl) (by kernel_rfl) (by kernel_rfl) (fun _ _ _ h => h) (by rfl) hHeld (fun w hSw => by (try dsimp only at hSw); go_simp; try with_reducible rfl) ?_
  (try simp only [Act.put, List.setIfInBounds_toArray, List.set_cons_zero, List.set_cons_succ, List.getElem_toArray, List.getElem_cons_succ, List.getElem_cons_zero])
  refine held_take 2 _ _ rfl (by kernel_rfl) (by kernel_rfl) (by kernel_rfl) (fun _ _ _ h => h) (by rfl) hHeld (fun w hSw => by (try dsimp only at hSw); go_simp; try with_reducible rfl) ?_
  (try simp only [Act.put, List.setIfInBounds_toArray, List.set_cons_zero, List.set_cons_succ, List.getElem_toArray, List.getElem_cons_succ, List.getElem_cons_zero])
  refine wpAnyH_ready (rs := [3]) (by kernel_rfl) (by simp) ?_
  refine AllReadyH.cons rfl (fun K hK => ?_) AllReadyH.nil
  rw [if_pos (by rfl)]
  go_wp2_with (first | (go_at_call 26; (with_reducible refine (l16Draw_dr hdd).mono ?_); rintro e w5 ⟨Kl, v5, hK5, hIK, rfl, hown5, hd5, hg5⟩; obtain ⟨kv, ev, rfl, rK⟩ := row_open hown5; obtain ⟨hsK, hfK⟩ := SlW.of_owns hown5; have HIK := Lib.hid hIK; clear hIK rK hown5; have hz5' : w4.heap.size ≤ w5.heap.size := hg5.size; have hR5 := hR4d.grownN hg5 hrN; have hcr5 : w5.cell? ⟨W.heap.size, 0, none⟩ = some (.slice none 0 0) := hR5.cell 0; have hfr5 := hR5.frozen 0))
  refine hK.out _ _ ((grown_cell (w := w4.drew) hg5 (by show w2.heap.size < w4.heap.size; omega) hbN).trans hHeld) (fun hHeld1 => ?_)
  clear hK K
  (try simp only [Act.put, List.setIfInBounds_toArray, List.set_cons_zero, List.set_cons_succ, List.getElem_toArray, List.getElem_cons_succ, List.getElem_cons_zero])
  refine wpAnyH_ready (rs := [4]) (by kernel_rfl) (by simp) ?_
  refine AllReadyH.cons rfl (fun K hK => ?_) AllReadyH.nil
  rw [if_pos (by rfl)]
  go_wp2_with fail
  refine hK.out _ _ ((World.cell?_setCell_other _ _ _ _ (by first | (simp; done) | (simp; omega))).trans hHeld1) (fun hHeld2 => ?_)
  clear hK K
  (try simp only [Act.put, List.setIfInBounds_toArray, List.set_cons_zero, List.set_cons_succ, List.getElem_toArray, List.getElem_cons_succ, List.getElem_cons_zero])
  refine held_take 5 _ _ rfl (by kernel_rfl) (by kernel_rfl) (by kernel_rfl) (fun _ _ _ h => h) (by rfl) hHeld2 (fun w hSw => by (try dsimp only at hSw); go_simp; try with_reducible rfl) ?_
  (try simp only [Act.put, List.setIfInBounds_toArray, List.set_cons_zero, List.set_cons_succ, List.getElem_toArray, List.getElem_cons_succ, List.getElem_cons_zero])
  refine held_take 6 _ _ rfl (by kernel_rfl) (by kernel_rfl) (by kernel_rfl) (fun _ _ _ h => h) (by rfl) hHeld2 (fun w hSw => by (try dsimp only at hSw); go_simp; try with_reducible rfl) ?_
  (try simp only [Act.put, List.setIfInBounds_toArray, List.set_cons_zero, List.set_cons_succ, List.getElem_toArray, List.getElem_cons_succ, List.getElem_cons_zero])
  refine wpAnyH_done (by kernel_rfl) ?_ _
  have hs5 := hs4d.grownN hg5 hNs
  have hM5' := hM4d.grownN hg5 hNsM
  have hb5 := hb4d.grown hg5 hb4d.size (fun k hk => by cases hk; exact hWN)
  have hcf := World.cell?_setCell_same w5 ⟨W.heap.size, 0, none⟩ (.slice av L.length cv) hcr5
  have hz2W : W.heap.size + 1 ≤ w1.heap.size := by first | omega | (have := hN1; omega)
  have hfW : ∀ p, av = some p → p.block ≠ W.heap.size := fun p hp => by have := hf p hp; omega
  have hfMW : ∀ p, bv = some p → p.block ≠ W.heap.size := fun p hp => by have := hfM p hp; omega
  have hfKW : ∀ p, kv = some p → p.block ≠ W.heap.size := fun p hp => by have h1 : w4.heap.size ≤ p.block := hfK p hp; omega
  have HF : Hid (DSgLL W (.returned (.tuple #[.agg #[.slice av L.length cv], .slice bv M.length dv, .slice kv Kl.length ev])) (w5.setCell ⟨W.heap.size, 0, none⟩ (.slice av L.length cv))) := Lib.hid ⟨L, av, cv, M, bv, dv, Kl, kv, ev, hl13, HI.out, hM5, HIM.out, hK5, HIK.out, rfl, hs5.grownN (grownBy_setCell w5 W.heap.size 0 _) hfW, hM5'.grownN (grownBy_setCell w5 W.heap.size 0 _) hfMW, hsK.grownN (grownBy_setCell w5 W.heap.size 0 _) hfKW, hb5.setCell (Nat.le_refl _) _⟩
  go_wp2_with fail
  exact bodyPost_ret (v := .tuple #[.agg #[.slice av L.length cv], .slice bv M.length dv, .slice kv Kl.length ev]) (by simp [results, Tryz.results8, go_sem, hcf]) rfl HF.out

end Go.Proofs.YtopnehkhigacpaaGreat
