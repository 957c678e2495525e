/-
  CONTRACTS of the draws of chapter 3, last part: l3Copy, two semigroups, lists of generators.
-/
import Derived.Test.YtjnkdefogmfcnaaDrw5
namespace Go.Proofs.Ytjnkdefogmfcnaa
open Go Go.RowKit

set_option maxRecDepth 100000 in
set_option maxHeartbeats 800000 in
theorem l3Copy_any (L : List Int) (a : Option Addr) (c : Nat) (w : World) (hs : SlW w a c (L.map (Value.int .i64))) (hl : L.length ≤ 1048576) :
    Calls Try.prog 49 #[.agg #[.slice a L.length c]] w fun e w' => ∃ v, e = .returned (.agg #[v]) ∧ w'.ownsRow w.heap.size 3 1 v L.length (L.map (Value.int .i64)) ∧ Below w.heap.size w w' := by
  obtain ⟨i0, hi, hz0, hz1, hz2⟩ := info_parts infoIntL
  obtain ⟨W, hW⟩ : ∃ W, W = ((w.alloc (.cells #[.slice a L.length c] 28)).alloc (.cells #[.slice none 0 0] 28)).alloc (.cells #[] 3) := ⟨_, rfl⟩
  have hbW : Below w.heap.size w W := by rw [hW]; exact (((Below.refl _ _).alloc (Nat.le_refl _) _).alloc (by simp) _).alloc (by simp; omega) _
  have hzW : w.heap.size + 2 < W.heap.size := by rw [hW]; simp
  have hR : Arr W (w.heap.size + 1) 28 [.slice none 0 0] := by
    rw [hW]; have h := (Arr.new (w.alloc (.cells #[.slice a L.length c] 28)) 28 [.slice none 0 0]).alloc (.cells #[] 3)
    rw [show (w.alloc (.cells #[.slice a L.length c] 28)).heap.size = w.heap.size + 1 by simp] at h; exact h
  have hown : W.ownsRow (w.heap.size + 2) 3 1 (.slice (some ⟨w.heap.size + 1 + 1, 0, none⟩) 0 0) 0 [] := by
    rw [hW]
    have h := World.ownsRow_lit (base := w.heap.size + 2) (e := 3) (size := 1) ((w.alloc (.cells #[.slice a L.length c] 28)).alloc (.cells #[.slice none 0 0] 28)) #[] 0 (by simp) (by simp) rfl
    rw [show ((w.alloc (.cells #[.slice a L.length c] 28)).alloc (.cells #[.slice none 0 0] 28)).heap.size = w.heap.size + 1 + 1 by simp] at h
    exact h
  have hsW := hs.below hbW
  have HW := Lib.hid hW
  have hcs : w.heap.size + 1 < w.heap.size + 2 := by omega
  have hend : ∀ (v : Value) (w2 : World), w2.ownsRow (w.heap.size + 2) 3 1 v L.length (L.map (Value.int .i64)) → Below w.heap.size w w2 → w2.cell? ⟨w.heap.size + 1, 0, none⟩ = some (.slice none 0 0) →
      ∃ u, Ending.returned (.agg #[v]) = .returned (.agg #[u]) ∧ (w2.setCell ⟨w.heap.size + 1, 0, none⟩ v).ownsRow w.heap.size 3 1 u L.length (L.map (Value.int .i64)) ∧ Below w.heap.size w (w2.setCell ⟨w.heap.size + 1, 0, none⟩ v) := fun v w2 ho hb _ =>
    ⟨v, rfl, ownsBase (row_kept ho fun j hj => by
      have := (ho.lt j hj).1
      exact heap_setCell_other w2 ⟨w.heap.size + 1, 0, none⟩ j v (by show j ≠ w.heap.size + 1; omega)) (by omega), hb.setCell (by simp) _⟩
  have HE := Lib.hid hend
  clear hW hs hend
  rcases a with _ | ⟨b, off, sp⟩
  · obtain rfl : L = [] := by
      rcases hsW.sl with h | ⟨b, off, h, -⟩
      · simpa using h
      · cases h
    obtain rfl : c = 0 := hsW.nil0 rfl
    have hW := HW.out
    simp only [List.length_nil] at hW
    have HW2 := Lib.hid hW
    clear hsW hW HW
    rw [List.length_nil]
    go_enter Try.func49, Try.ntmps49
    have hcr : W.cell? ⟨w.heap.size + 1, 0, none⟩ = some (.slice none 0 0) := hR.cell 0
    have hfr := hR.frozen 0
    go_wp2_with (at_builtin; rw [← HW2.out]; refine wpList_append_own_none rfl _ _ 24 rfl (w.heap.size + 2) 3 i0 1 Try.underlying24 hi _ 0 [] rfl hown rfl ?_)
    have hcf := World.cell?_setCell_same W ⟨w.heap.size + 1, 0, none⟩ (.slice (some ⟨w.heap.size + 1 + 1, 0, none⟩) 0 0) hcr
    have HF := Lib.hid (HE.out _ W hown hbW hcr)
    refine bodyPost_ret (v := .agg #[.slice (some ⟨w.heap.size + 1 + 1, 0, none⟩) 0 0]) ?_ rfl HF.out
    simp [results, Try.results49, go_sem, hcf]
  · have hcell : ∀ j u, (L.map (Value.int .i64))[j]? = some u → W.cell? ((⟨b, off, sp⟩ : Addr).add j) = some u := by
      rcases hsW.sl with h | ⟨b', off', ha, hlt, hc⟩
      · intro j u hj; rw [h] at hj; simp at hj
      · injection ha with ha
        injection ha with h1 h2 h3
        subst h1 h2 h3
        exact fun j u h => by rw [Addr.add_mid]; exact hc j u h
    go_enter Try.func49, Try.ntmps49
    have hne : ∀ j, (Value.slice (some ⟨w.heap.size + 1 + 1, 0, none⟩) 0 0).ownBlock = some j → j ≠ w.heap.size + 1 := fun j hj => by have : w.heap.size + 1 + 1 = j := Option.some.inj hj; omega
    go_wp2_with (at_builtin; rw [← HW.out]; refine wpList_append_own _ rfl _ _ 24 rfl (w.heap.size + 2) 3 i0 (Value.int .i64 0) 1 8 Try.underlying24 hi hz0 hz1 hz2 rfl (by decide) _ _ _ rfl hown ⟨b, off, sp⟩ L.length c (L.map (Value.int .i64)) rfl (by simp) hcell (by simp [Value.oneCell']) (by unfold maxLen; omega) (by omega) (by omega) ?_; intro v2 w2 hown2 hg2 _
                 have hR2 := Arr.grownRow hR hg2 hne
                 have hcr : w2.cell? ⟨w.heap.size + 1, 0, none⟩ = some (.slice none 0 0) := hR2.cell 0
                 have hfr := hR2.frozen 0
                 have hb2 := hbW.grown hg2 hbW.size (fun j hj => by have : w.heap.size + 1 + 1 = j := Option.some.inj hj; omega)
                 have ho2 : w2.ownsRow (w.heap.size + 2) 3 1 v2 L.length (L.map (Value.int .i64)) := (by simpa using hown2)
                 have HF := Lib.hid (HE.out v2 w2 ho2 hb2 hcr)
                 have hcf := World.cell?_setCell_same w2 ⟨w.heap.size + 1, 0, none⟩ v2 hcr
                 obtain ⟨a2, c2, rfl, -⟩ := row_open ho2
                 clear hown2 ho2 hg2 hR2 hb2)
    refine bodyPost_ret (v := .agg #[.slice a2 L.length c2]) ?_ rfl HF.out
    simp [results, Try.results49, go_sem, hcf]
set_option maxRecDepth 100000 in
set_option maxHeartbeats 3200000 in
theorem DrawEqualSemigroup_any (W : World) (a : Option Addr) (len cap : Nat) (zs : List Int) (hr : IsRow .u8 W a len cap zs) (hl : len ≤ 1048576) :
    Calls Try.prog 18 #[.slice a len cap] W (DSg2 W) := by
  have hb0 : Below W.heap.size W ((W.alloc (.cells #[.slice none 0 0] 28)).alloc (.cells #[.slice none 0 0] 28)) := ((Below.refl _ _).alloc (Nat.le_refl _) _).alloc (by simp) _
  have hR0 := (Arr.new W 28 [.slice none 0 0]).alloc (.cells #[.slice none 0 0] 28)
  have hT0 : Arr ((W.alloc (.cells #[.slice none 0 0] 28)).alloc (.cells #[.slice none 0 0] 28)) (W.heap.size + 1) 28 [.slice none 0 0] := by
    have h := Arr.new (W.alloc (.cells #[.slice none 0 0] 28)) 28 [.slice none 0 0]
    rw [show (W.alloc (.cells #[.slice none 0 0] 28)).heap.size = W.heap.size + 1 by simp] at h; exact h
  have cn := l1New_any ((W.alloc (.cells #[.slice none 0 0] 28)).alloc (.cells #[.slice none 0 0] 28)) a len cap zs (hr.below hb0) hl
  have hsz : W.heap.size + 1 < ((W.alloc (.cells #[.slice none 0 0] 28)).alloc (.cells #[.slice none 0 0] 28)).heap.size := hT0.lt
  clear hr
  go_enter Try.func18, Try.ntmps18
  go_wp2_with fail
  refine cn.mono ?_
  rintro e w1 ⟨N, rfl, hd⟩
  have hNb := hd.base
  have hN1 := hd.lt
  have hR1 := hR0.below hd.bel
  have hT1 := hT0.below hd.bel
  have hb1 := hb0.trans (hd.bel.mono (by omega))
  have hz1 := hd.bel.size
  clear cn hR0 hT0
  go_wp2_with fail
  refine (l3Bent_dr hd).mono ?_
  rintro e w2 ⟨L, av, cv, hl13, hI, rfl, hs, hf, hd2, hg2⟩
  have HI := Lib.hid hI
  have hrN : W.heap.size ≠ N := by omega
  have htN : W.heap.size + 1 ≠ N := by omega
  have hWN : W.heap.size ≤ N := by omega
  have hbN : w2.heap.size ≠ N := by have := hg2.size; omega
  have hNs : ∀ p, av = some p → p.block ≠ N := fun p hp => by have := hf p hp; omega
  have hR2 := hR1.grownN hg2 hrN
  have hT2 := hT1.grownN hg2 htN
  have hb2 := hb1.grown hg2 hb1.size (fun k hk => by cases hk; exact hWN)
  have hz2 := hg2.size
  have hB3 := Arr.new w2 28 [.slice av L.length cv]
  clear hI hd hg2 hR1 hT1 hb0 hb1
  go_wp2_with fail
  refine (l1Once_dr (hd2.alloc _) 2 (by decide)).mono ?_
  rintro e w4 ⟨b, rfl, hd4', hg4⟩
  have hB4 := hB3.grownN hg4 hbN
  have hR4' := (hR2.alloc _).grownN hg4 hrN
  have hT4' := (hT2.alloc _).grownN hg4 htN
  have hs4' := (hs.below (box_below w2 _)).grownN hg4 hNs
  have hb4a := hb2.alloc (o := .cells #[.slice av L.length cv] 28) hb2.size
  have hb4' := hb4a.grown hg4 hb4a.size (fun k hk => by cases hk; exact hWN)
  have hz4 : w2.heap.size + 1 ≤ w4.heap.size := by have := hg4.size; simp at this; omega
  have hcb : w4.drew.cell? ⟨w2.heap.size, 0, none⟩ = some (.slice av L.length cv) := hB4.cell 0
  have hd4 : Dr ((W.alloc (.cells #[.slice none 0 0] 28)).alloc (.cells #[.slice none 0 0] 28)) w4.drew N a len cap zs := hd4'.drewN 1
  have hR4 : Arr w4.drew W.heap.size 28 [.slice none 0 0] := hR4'
  have hT4 : Arr w4.drew (W.heap.size + 1) 28 [.slice none 0 0] := hT4'
  have hs4 : SlW w4.drew av cv (L.map (Value.int .i64)) := ⟨hs4'.sl, hs4'.nil0, hs4'.le, hs4'.mx⟩
  have hb4 : Below W.heap.size W w4.drew := hb4'.drew
  clear hB3 hR2 hT2 hs hd2 hg4 hb4' hb4a hR4' hT4' hs4' hd4' hb2
  cases b
  · clear hB4
    go_wp2_with fail
    refine wp_region_held_drew (S := fun w' => w'.cell? ⟨w2.heap.size, 0, none⟩ = some (.slice av L.length cv)) (by kernel_rfl) hcb (fun hHeld => ?_)
    refine held_take 0 _ _ rfl (by kernel_rfl) (by kernel_rfl) (by kernel_rfl) (fun _ _ _ h => h) (by rfl) hHeld (fun w hSw => by (try dsimp only at hSw); go_simp; try with_reducible rfl) ?_
    (try simp only [Act.put, List.setIfInBounds_toArray, List.set_cons_zero, List.set_cons_succ, List.getElem_toArray, List.getElem_cons_zero])
    refine held_take 1 _ _ rfl (by kernel_rfl) (by kernel_rfl) (by kernel_rfl) (fun _ _ _ h => h) (by rfl) hHeld (fun w hSw => by (try dsimp only at hSw); go_simp; try with_reducible rfl) ?_
    (try simp only [Act.put, List.setIfInBounds_toArray, List.set_cons_zero, List.set_cons_succ, List.getElem_toArray, List.getElem_cons_succ, List.getElem_cons_zero])
    refine wpAnyH_ready (rs := [2]) (by kernel_rfl) (by simp) ?_
    refine AllReadyH.cons rfl (fun K hK => ?_) AllReadyH.nil
    rw [if_pos (by rfl)]
    go_wp2_with (first | (go_at_call 43; (with_reducible refine (l3Bent_dr hd4).mono ?_); rintro e w5 ⟨M, bv, dv, hl13b, hIb, rfl, hsb, hfb, hd5, hg5⟩; have hR5 := hR4.grownN hg5 hrN; have hT5 := hT4.grownN hg5 htN; have hcr5 : w5.cell? ⟨W.heap.size, 0, none⟩ = some (.slice none 0 0) := hR5.cell 0; have hct5 : w5.cell? ⟨W.heap.size + 1, 0, none⟩ = some (.slice none 0 0) := hT5.cell 0; have hfr5 := hR5.frozen 0; have hft5 := hT5.frozen 0))
    refine hK.out _ _ ((grown_cell (w := w4.drew) hg5 (by show w2.heap.size < w4.heap.size; omega) hbN).trans hHeld) (fun hHeld1 => ?_)
    clear hK K
    (try simp only [Act.put, List.setIfInBounds_toArray, List.set_cons_zero, List.set_cons_succ, List.getElem_toArray, List.getElem_cons_succ, List.getElem_cons_zero])
    refine wpAnyH_ready (rs := [3]) (by kernel_rfl) (by simp) ?_
    refine AllReadyH.cons rfl (fun K hK => ?_) AllReadyH.nil
    rw [if_pos (by rfl)]
    go_wp2_with fail
    refine hK.out _ _ ((World.cell?_setCell_other _ _ _ _ (by first | (simp; done) | (simp; omega))).trans hHeld1) (fun hHeld2 => ?_)
    clear hK K
    (try simp only [Act.put, List.setIfInBounds_toArray, List.set_cons_zero, List.set_cons_succ, List.getElem_toArray, List.getElem_cons_succ, List.getElem_cons_zero])
    refine wpAnyH_ready (rs := [4]) (by kernel_rfl) (by simp) ?_
    refine AllReadyH.cons rfl (fun K hK => ?_) AllReadyH.nil
    rw [if_pos (by rfl)]
    go_wp2_with fail
    refine hK.out _ _ ((World.cell?_setCell_other _ _ _ _ (by first | (simp; done) | (simp; omega))).trans hHeld2) (fun hHeld3 => ?_)
    clear hK K
    (try simp only [Act.put, List.setIfInBounds_toArray, List.set_cons_zero, List.set_cons_succ, List.getElem_toArray, List.getElem_cons_succ, List.getElem_cons_zero])
    refine wpAnyH_done (by kernel_rfl) ?_ _
    have hbel5 := hb4.grown hg5 hb4.size (fun k hk => by cases hk; exact hWN)
    have hfb' : ∀ p, bv = some p → w1.heap.size ≤ p.block := fun p hp => by have := hfb p hp; have h2 : w4.drew.heap.size = w4.heap.size := rfl; omega
    have hf2 : (w5.setCell ⟨W.heap.size, 0, none⟩ (.slice av L.length cv)).cell? ⟨W.heap.size + 1, 0, none⟩ = some (.slice none 0 0) := (World.cell?_setCell_other _ _ _ _ (by first | (simp; done) | (simp; omega))).trans hct5
    have hcf1 : ((w5.setCell ⟨W.heap.size, 0, none⟩ (.slice av L.length cv)).setCell ⟨W.heap.size + 1, 0, none⟩ (.slice bv M.length dv)).cell? ⟨W.heap.size, 0, none⟩ = some (.slice av L.length cv) := (World.cell?_setCell_other _ _ _ _ (by first | (simp; done) | (simp; omega))).trans (World.cell?_setCell_same w5 ⟨W.heap.size, 0, none⟩ (.slice av L.length cv) hcr5)
    have hcf2 := World.cell?_setCell_same (w5.setCell ⟨W.heap.size, 0, none⟩ (.slice av L.length cv)) ⟨W.heap.size + 1, 0, none⟩ (.slice bv M.length dv) hf2
    have hsA := (hs4.grownN hg5 hNs).grownBy (grownBy_setCell w5 W.heap.size 0 (.slice av L.length cv)) hf (by omega)
    have hsA2 := hsA.grownBy (grownBy_setCell _ (W.heap.size + 1) 0 (.slice bv M.length dv)) hf (by omega)
    have hsB := (hsb).grownBy (grownBy_setCell w5 W.heap.size 0 (.slice av L.length cv)) hfb' (by omega)
    have hsB2 := hsB.grownBy (grownBy_setCell _ (W.heap.size + 1) 0 (.slice bv M.length dv)) hfb' (by omega)
    have HF : Hid (DSg2 W (.returned (.tuple #[.agg #[.slice av L.length cv], .agg #[.slice bv M.length dv]])) ((w5.setCell ⟨W.heap.size, 0, none⟩ (.slice av L.length cv)).setCell ⟨W.heap.size + 1, 0, none⟩ (.slice bv M.length dv))) := Lib.hid ⟨L, M, av, bv, cv, dv, hl13, hl13b, HI.out, hIb, rfl, hsA2, hsB2, (hbel5.setCell (Nat.le_refl _) _).setCell (by simp) _⟩
    go_wp2_with fail
    refine bodyPost_ret (v := .tuple #[.agg #[.slice av L.length cv], .agg #[.slice bv M.length dv]]) ?_ rfl HF.out
    simp [results, Try.results18, go_sem, hcf1, hcf2]
  · have cp := l3Copy_any L av cv w4.drew hs4 (by omega)
    clear hB4
    go_wp2_with fail
    refine wp_region_held_drew (S := fun w' => w'.cell? ⟨w2.heap.size, 0, none⟩ = some (.slice av L.length cv)) (by kernel_rfl) hcb (fun hHeld => ?_)
    refine held_take 0 _ _ rfl (by kernel_rfl) (by kernel_rfl) (by kernel_rfl) (fun _ _ _ h => h) (by rfl) hHeld (fun w hSw => by (try dsimp only at hSw); go_simp; try with_reducible rfl) ?_
    (try simp only [Act.put, List.setIfInBounds_toArray, List.set_cons_zero, List.set_cons_succ, List.getElem_toArray, List.getElem_cons_zero])
    refine held_take 1 _ _ rfl (by kernel_rfl) (by kernel_rfl) (by kernel_rfl) (fun _ _ _ h => h) (by rfl) hHeld (fun w hSw => by (try dsimp only at hSw); go_simp; try with_reducible rfl) ?_
    (try simp only [Act.put, List.setIfInBounds_toArray, List.set_cons_zero, List.set_cons_succ, List.getElem_toArray, List.getElem_cons_succ, List.getElem_cons_zero])
    refine wpAnyH_ready (rs := [2]) (by kernel_rfl) (by simp) ?_
    refine AllReadyH.cons rfl (fun K hK => ?_) AllReadyH.nil
    rw [if_pos (by rfl)]
    go_wp2_with (first | (go_at_call 49; (with_reducible refine cp.mono ?_); rintro e w5 ⟨v5, rfl, ho5, hb5⟩; obtain ⟨a5, c5, rfl, r5⟩ := row_open ho5; have hR5 := hR4.below hb5; have hT5 := hT4.below hb5; have hcr5 : w5.cell? ⟨W.heap.size, 0, none⟩ = some (.slice none 0 0) := hR5.cell 0; have hct5 : w5.cell? ⟨W.heap.size + 1, 0, none⟩ = some (.slice none 0 0) := hT5.cell 0; have hfr5 := hR5.frozen 0; have hft5 := hT5.frozen 0))
    refine hK.out _ _ ((hb5.cell (p := ⟨w2.heap.size, 0, none⟩) (show w2.heap.size < w4.heap.size by omega)).trans hHeld) (fun hHeld1 => ?_)
    clear hK K
    (try simp only [Act.put, List.setIfInBounds_toArray, List.set_cons_zero, List.set_cons_succ, List.getElem_toArray, List.getElem_cons_succ, List.getElem_cons_zero])
    refine wpAnyH_ready (rs := [3]) (by kernel_rfl) (by simp) ?_
    refine AllReadyH.cons rfl (fun K hK => ?_) AllReadyH.nil
    rw [if_pos (by rfl)]
    go_wp2_with fail
    refine hK.out _ _ ((World.cell?_setCell_other _ _ _ _ (by first | (simp; done) | (simp; omega))).trans hHeld1) (fun hHeld2 => ?_)
    clear hK K
    (try simp only [Act.put, List.setIfInBounds_toArray, List.set_cons_zero, List.set_cons_succ, List.getElem_toArray, List.getElem_cons_succ, List.getElem_cons_zero])
    refine wpAnyH_ready (rs := [4]) (by kernel_rfl) (by simp) ?_
    refine AllReadyH.cons rfl (fun K hK => ?_) AllReadyH.nil
    rw [if_pos (by rfl)]
    go_wp2_with fail
    refine hK.out _ _ ((World.cell?_setCell_other _ _ _ _ (by first | (simp; done) | (simp; omega))).trans hHeld2) (fun hHeld3 => ?_)
    clear hK K
    (try simp only [Act.put, List.setIfInBounds_toArray, List.set_cons_zero, List.set_cons_succ, List.getElem_toArray, List.getElem_cons_succ, List.getElem_cons_zero])
    refine wpAnyH_done (by kernel_rfl) ?_ _
    have hbel5 := hb4.trans (hb5.mono hb4.size)
    have hfb' : ∀ p, a5 = some p → w1.heap.size ≤ p.block := fun p hp => by have h3 := (SlW.of_owns ho5).2 p hp; have h2 : w4.drew.heap.size = w4.heap.size := rfl; omega
    have hf2 : (w5.setCell ⟨W.heap.size, 0, none⟩ (.slice av L.length cv)).cell? ⟨W.heap.size + 1, 0, none⟩ = some (.slice none 0 0) := (World.cell?_setCell_other _ _ _ _ (by first | (simp; done) | (simp; omega))).trans hct5
    have hcf1 : ((w5.setCell ⟨W.heap.size, 0, none⟩ (.slice av L.length cv)).setCell ⟨W.heap.size + 1, 0, none⟩ (.slice a5 L.length c5)).cell? ⟨W.heap.size, 0, none⟩ = some (.slice av L.length cv) := (World.cell?_setCell_other _ _ _ _ (by first | (simp; done) | (simp; omega))).trans (World.cell?_setCell_same w5 ⟨W.heap.size, 0, none⟩ (.slice av L.length cv) hcr5)
    have hcf2 := World.cell?_setCell_same (w5.setCell ⟨W.heap.size, 0, none⟩ (.slice av L.length cv)) ⟨W.heap.size + 1, 0, none⟩ (.slice a5 L.length c5) hf2
    have hsA := (hs4.below hb5).grownBy (grownBy_setCell w5 W.heap.size 0 (.slice av L.length cv)) hf (by omega)
    have hsA2 := hsA.grownBy (grownBy_setCell _ (W.heap.size + 1) 0 (.slice a5 L.length c5)) hf (by omega)
    have hsB := (r5.slw).grownBy (grownBy_setCell w5 W.heap.size 0 (.slice av L.length cv)) hfb' (by omega)
    have hsB2 := hsB.grownBy (grownBy_setCell _ (W.heap.size + 1) 0 (.slice a5 L.length c5)) hfb' (by omega)
    have HF : Hid (DSg2 W (.returned (.tuple #[.agg #[.slice av L.length cv], .agg #[.slice a5 L.length c5]])) ((w5.setCell ⟨W.heap.size, 0, none⟩ (.slice av L.length cv)).setCell ⟨W.heap.size + 1, 0, none⟩ (.slice a5 L.length c5))) := Lib.hid ⟨L, L, av, a5, cv, c5, hl13, hl13, HI.out, HI.out, rfl, hsA2, hsB2, (hbel5.setCell (Nat.le_refl _) _).setCell (by simp) _⟩
    go_wp2_with fail
    refine bodyPost_ret (v := .tuple #[.agg #[.slice av L.length cv], .agg #[.slice a5 L.length c5]]) ?_ rfl HF.out
    simp [results, Try.results18, go_sem, hcf1, hcf2]


end Go.Proofs.Ytjnkdefogmfcnaa
