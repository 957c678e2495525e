/-
  THE DRAW OF LISTS OF LEAST ELEMENTS (chapter 6). (Own work.)
-/
import Derived.Test.YtfocaloploekmaaDrw10
namespace Go.Proofs.Ytfocaloploekmaa
open Go Go.RowKit

theorem own_put {w : World} {base : Nat} {e : TypeId} {g n cap : Nat} {xs : List Value} (h : w.ownsRow base e 1 (.slice (some ⟨g, 0, none⟩) n cap) n xs) (j : Nat) (u : Value) :
    (w.setCell ⟨g, j, none⟩ u).ownsRow base e 1 (.slice (some ⟨g, 0, none⟩) n cap) n (xs.set j u) := by
  obtain ⟨hx, hv | ⟨g', cap', cur, hv, h1, h2, h3, h4, h5, h6⟩⟩ := h
  · cases hv.1
  · injection hv with hv hv2 hv3
    injection hv with hv
    injection hv with hv
    subst hv hv3
    refine ⟨by rw [List.length_set]; exact hx, .inr ⟨g, cap, cur.setIfInBounds j u, rfl, h1, heap_setCell_same w g j cur e u h2, h3, h4, by rw [Array.size_setIfInBounds]; exact h5, ?_⟩⟩
    rw [Array.toList_setIfInBounds, List.take_set, h6]
/-- The list of a draw: least elements, the second perhaps moved. -/
theorem aperyL_small (G : List Int) (n : Int) : ∀ x ∈ aperyL G n, 0 ≤ x ∧ x ≤ 260 := by
  intro x hx
  rcases aperyL_cases G n with h | ⟨N, rfl, hA, h⟩
  · rw [h] at hx; cases hx
  · rw [h] at hx
    obtain ⟨r, hr, rfl⟩ := mem_apL.1 hx
    have := apOf_lt hA.far hA.pos hr
    have := hA.le
    omega

set_option maxRecDepth 100000 in
set_option maxHeartbeats 3200000 in
theorem DrawFromApery_any (W : World) (a : Option Addr) (len cap : Nat) (zs : List Int) (hr : IsRow .u8 W a len cap zs) (hl : len ≤ 1048576) :
    Calls Try.prog 11 #[.slice a len cap] W (D1 61 InI64 W) := by
  obtain ⟨i0, hi, hz0, hz1, hzb⟩ := info_parts infoIntL
  have cn := l1New_any W a len cap zs hr hl
  clear hr
  go_enter Try.func11, Try.ntmps11
  go_wp2_with fail
  refine cn.mono ?_
  rintro e w1 ⟨N, rfl, hd⟩
  have hNb := hd.base
  have hN1 := hd.lt
  clear cn
  go_wp2_with fail
  refine (l3Draw_dr hd).mono ?_
  rintro e w2 ⟨L, v, hsg, rfl, ho, hd2, hg2⟩
  obtain ⟨av, cv, rfl, -⟩ := row_open ho
  obtain ⟨hs, hlo⟩ := SlW.of_owns ho
  have hl12 := (isSgB_iff.1 hsg).len
  have hlp := (isSgB_iff.1 hsg).pos
  obtain ⟨b, off, rfl, -, -⟩ := hs.sl.open (by intro e; rw [List.map_eq_nil_iff] at e; subst e; simp at hlp)
  have hL0 : 0 < L.length := hlp
  have hz2 := hg2.size
  obtain ⟨w3, hw3⟩ : ∃ w3, w3 = w2.alloc (.cells #[.slice (some ⟨b, off, none⟩) L.length cv] 26) := ⟨_, rfl⟩
  have hB3 : Arr w3 w2.heap.size 26 [.slice (some ⟨b, off, none⟩) L.length cv] := by rw [hw3]; exact Arr.new w2 26 [.slice (some ⟨b, off, none⟩) L.length cv]
  have hs3 : SlW w3 (some ⟨b, off, none⟩) cv (L.map (Value.int .i64)) := by rw [hw3]; exact hs.below (box_below w2 _)
  have hd3 : Dr W w3 N a len cap zs := by rw [hw3]; exact hd2.alloc _
  have hbz : w2.heap.size < w3.drew.heap.size := hB3.lt
  have hcb : w3.drew.cell? ⟨w2.heap.size, 0, none⟩ = some (.slice (some ⟨b, off, none⟩) L.length cv) := hB3.cell 0
  have hcx : w3.drew.cell? ⟨b, off, none⟩ = some (.int .i64 L[0]) := slv_cell hs3.sl (i := 0) (u := .int .i64 L[0]) (by rw [List.getElem?_map, List.getElem?_eq_getElem hlp]; rfl)
  have c4 := spec_AperySet L L[0] (some ⟨b, off, none⟩) cv w3.drew hs3.sl (by omega)
  have hN3 := hd3.lt
  have HW3 := Lib.hid hw3
  have hML := aperyL_len_le L L[0]
  have HM := Lib.hid (aperyL_small L L[0])
  clear hw3 hsg hs hlo hd hd2 hg2 ho hB3 hs3
  generalize L[0] = n0 at *
  go_wp2_with fail
  rw [← HW3.out]
  refine wp_region_held_drew (S := fun w' => w'.cell? ⟨w2.heap.size, 0, none⟩ = some (.slice (some ⟨b, off, none⟩) L.length cv)) (by kernel_rfl) hcb (fun hHeld => ?_)
  refine held_take 0 _ _ rfl (by kernel_rfl) (by kernel_rfl) (by kernel_rfl) (fun _ _ _ h => h) (by rfl) hHeld (fun w hSw => by (try dsimp only at hSw); go_simp; try with_reducible rfl) ?_
  (try simp only [Act.put, List.setIfInBounds_toArray, List.set_cons_zero, List.set_cons_succ, List.getElem_toArray, List.getElem_cons_zero])
  refine held_take 1 _ _ rfl (by kernel_rfl) (by kernel_rfl) (by kernel_rfl) (fun _ _ _ h => h) (by rfl) hHeld (fun w hSw => by (try dsimp only at hSw); go_simp; try with_reducible rfl) ?_
  (try simp only [Act.put, List.setIfInBounds_toArray, List.set_cons_zero, List.set_cons_succ, List.getElem_toArray, List.getElem_cons_succ, List.getElem_cons_zero])
  refine held_take 2 _ _ rfl (by kernel_rfl) (by kernel_rfl) (by kernel_rfl) (fun _ _ _ h => h) (by rfl) hHeld (fun w hSw => by (try dsimp only at hSw); go_simp; try with_reducible rfl) ?_
  (try simp only [Act.put, List.setIfInBounds_toArray, List.set_cons_zero, List.set_cons_succ, List.getElem_toArray, List.getElem_cons_succ, List.getElem_cons_zero])
  refine held_take 3 _ _ rfl (by kernel_rfl) (by kernel_rfl) (by kernel_rfl) (fun _ _ _ h => h) (by rfl) hHeld (fun w hSw => by (try dsimp only at hSw); go_simp; try with_reducible rfl) ?_
  (try simp only [Act.put, List.setIfInBounds_toArray, List.set_cons_zero, List.set_cons_succ, List.getElem_toArray, List.getElem_cons_succ, List.getElem_cons_zero])
  refine wpAnyH_ready (rs := [4]) (by kernel_rfl) (by simp) ?_
  refine AllReadyH.cons rfl (fun K hK => ?_) AllReadyH.nil
  rw [if_pos (by rfl)]
  go_wp2_with fail
  refine hK.out _ _ (hHeld) (fun hHeld1 => ?_)
  clear hK K
  (try simp only [Act.put, List.setIfInBounds_toArray, List.set_cons_zero, List.set_cons_succ, List.getElem_toArray, List.getElem_cons_succ, List.getElem_cons_zero])
  refine wpAnyH_ready (rs := [5]) (by kernel_rfl) (by simp) ?_
  refine AllReadyH.cons rfl (fun K hK => ?_) AllReadyH.nil
  rw [if_pos (by rfl)]
  go_wp2_with (first | (go_at_call 15; (with_reducible refine c4.mono ?_); rintro e w4 ⟨v4, rfl, ho4, hb4⟩))
  refine hK.out _ _ ((hb4.cell (p := ⟨w2.heap.size, 0, none⟩) hbz).trans hHeld1) (fun hHeld2 => ?_)
  clear hK K
  (try simp only [Act.put, List.setIfInBounds_toArray, List.set_cons_zero, List.set_cons_succ, List.getElem_toArray, List.getElem_cons_succ, List.getElem_cons_zero])
  refine held_take 6 _ _ rfl (by kernel_rfl) (by kernel_rfl) (by kernel_rfl) (fun _ _ _ h => h) (by rfl) hHeld2 (fun w hSw => by (try dsimp only at hSw); go_simp; try with_reducible rfl) ?_
  (try simp only [Act.put, List.setIfInBounds_toArray, List.set_cons_zero, List.set_cons_succ, List.getElem_toArray, List.getElem_cons_succ, List.getElem_cons_zero])
  refine wpAnyH_done (by kernel_rfl) ?_ _
  generalize aperyL L n0 = M at *
  have hd4 := (hd3.drewN 1).belowW hb4
  have hz4 : w3.heap.size ≤ w4.heap.size := hb4.size
  clear c4 hb4 hd3 hcx hcb
  go_wp2_with fail
  refine (l1Below_dr hd4 6 (by decide)).mono ?_
  rintro e w5 ⟨x5, ⟨hx50, hx5⟩, rfl, hd5, hg5⟩
  have hown5 := row_kept ho4 (fun j hj => hg5.block j (ho4.lt j hj).2 (fun e => by injection e with e; have := (ho4.lt j hj).1; omega))
  have hz5 := hg5.size
  have hcs : x5 = 0 ∨ x5 = 1 ∨ (x5 == 0) = false ∧ (x5 == 1) = false := by
    by_cases h0 : x5 = 0
    · exact .inl h0
    · by_cases h1 : x5 = 1
      · exact .inr (.inl h1)
      · exact .inr (.inr ⟨by rw [beq_eq_false_iff_ne]; exact h0, by rw [beq_eq_false_iff_ne]; exact h1⟩)
  have hWb : W.heap.size ≤ w3.heap.size := by omega
  clear hx5 hd4 hg5 ho4
  have HD : Hid (D1 61 InI64 W (.returned v4) w5) := Lib.hid ⟨M, v4, by omega, fun x hx => by have := HM.out x hx; unfold InI64; omega, rfl, ownsBase hown5 hWb, hd5.bel⟩
  rcases hcs with rfl | rfl | ⟨he0, he1⟩
  · by_cases hM1 : 1 < M.length
    · rcases hown5.2 with ⟨rfl, h0⟩ | ⟨g, c5, cur, rfl, -⟩
      · omega
      · have hm1 : (M.map (Value.int .i64))[1]? = some (.int .i64 M[1]) := by rw [List.getElem?_map, List.getElem?_eq_getElem hM1]; rfl
        have hb1 := HM.out M[1] (List.getElem_mem hM1)
        have hcl5 : w5.drew.cell? ⟨g, 1, none⟩ = some (.int .i64 M[1]) := (hown5.cellAt 1 (by omega)).trans hm1
        generalize M[1] = m1 at *
        have hM1i : (1 : Int) < (M.length : Int) := by omega
        clear HD
        generalize hMLe : M.length = ML at *
        have HL2 := Lib.hid hMLe
        clear hMLe
        have hown5d : w5.drew.ownsRow w3.heap.size 3 1 (.slice (some ⟨g, 0, none⟩) ML c5) ML (M.map (Value.int .i64)) := hown5
        have hd5d : Dr W w5.drew N a len cap zs := hd5.drewN 1
        go_wp2_with fail
        refine wp_region_held_drew (S := fun _ => True) (by kernel_rfl) trivial (fun hHeld => ?_)
        refine held_take 0 _ _ rfl (by kernel_rfl) (by kernel_rfl) (by kernel_rfl) (fun _ _ _ h => h) (by rfl) hHeld (fun w hSw => by (try dsimp only at hSw); go_simp; try with_reducible rfl) ?_
        (try simp only [Act.put, List.setIfInBounds_toArray, List.set_cons_zero, List.set_cons_succ, List.getElem_toArray, List.getElem_cons_zero])
        refine held_take 1 _ _ rfl (by kernel_rfl) (by kernel_rfl) (by kernel_rfl) (fun _ _ _ h => h) (by rfl) hHeld (fun w hSw => by (try dsimp only at hSw); go_simp; try with_reducible rfl) ?_
        (try simp only [Act.put, List.setIfInBounds_toArray, List.set_cons_zero, List.set_cons_succ, List.getElem_toArray, List.getElem_cons_succ, List.getElem_cons_zero])
        refine held_take 2 _ _ rfl (by kernel_rfl) (by kernel_rfl) (by kernel_rfl) (fun _ _ _ h => h) (by rfl) hHeld (fun w hSw => by (try dsimp only at hSw); go_simp; try with_reducible rfl) ?_
        (try simp only [Act.put, List.setIfInBounds_toArray, List.set_cons_zero, List.set_cons_succ, List.getElem_toArray, List.getElem_cons_succ, List.getElem_cons_zero])
        refine held_take 4 _ _ rfl (by kernel_rfl) (by kernel_rfl) (by kernel_rfl) (fun _ _ _ h => h) (by rfl) hHeld (fun w hSw => by (try dsimp only at hSw); go_simp; try with_reducible rfl) ?_
        (try simp only [Act.put, List.setIfInBounds_toArray, List.set_cons_zero, List.set_cons_succ, List.getElem_toArray, List.getElem_cons_succ, List.getElem_cons_zero])
        refine held_take 5 _ _ rfl (by kernel_rfl) (by kernel_rfl) (by kernel_rfl) (fun _ _ _ h => h) (by rfl) hHeld (fun w hSw => by (try dsimp only at hSw); go_simp; try with_reducible rfl) ?_
        (try simp only [Act.put, List.setIfInBounds_toArray, List.set_cons_zero, List.set_cons_succ, List.getElem_toArray, List.getElem_cons_succ, List.getElem_cons_zero])
        refine held_take 6 _ _ rfl (by kernel_rfl) (by kernel_rfl) (by kernel_rfl) (fun _ _ _ h => h) (by rfl) hHeld (fun w hSw => by (try dsimp only at hSw); go_simp; try with_reducible rfl) ?_
        (try simp only [Act.put, List.setIfInBounds_toArray, List.set_cons_zero, List.set_cons_succ, List.getElem_toArray, List.getElem_cons_succ, List.getElem_cons_zero])
        refine wpAnyH_ready (rs := [3, 7]) (by kernel_rfl) (by simp) ?_
        refine AllReadyH.cons rfl (fun K hK => ?_) (AllReadyH.cons rfl (fun K hK => ?_) AllReadyH.nil)
        · rw [if_pos (by rfl)]
          go_wp2_with fail
          refine hK.out _ _ (trivial) (fun hHeld1 => ?_)
          clear hK K
          (try simp only [Act.put, List.setIfInBounds_toArray, List.set_cons_zero, List.set_cons_succ, List.getElem_toArray, List.getElem_cons_succ, List.getElem_cons_zero])
          refine wpAnyH_ready (rs := [7]) (by kernel_rfl) (by simp) ?_
          refine AllReadyH.cons rfl (fun K hK => ?_) AllReadyH.nil
          rw [if_pos (by rfl)]
          go_wp2_with (first | (go_at_call 39; (with_reducible refine (l1Below_dr hd5d 3 (by decide)).mono ?_); rintro e w6 ⟨x6, ⟨hx60, hx6⟩, rfl, hd6, hg6⟩; have hx6b : x6 < 3 := (by omega); clear hx6; have hown6 := row_kept (w' := w6) hown5d (fun j hj => hg6.block j (by have := (hown5.lt j hj).2; exact this) (fun e => by injection e with e; have := (hown5.lt j hj).1; omega)); have hcl6 : w6.cell? ⟨g, 1, none⟩ = some (.int .i64 m1) := (hown6.cellAt 1 (by omega)).trans hm1; have hfl6 := hown6.frozenAt 1; have hw1 : IntKind.i64.wrap (x6 - 1) = x6 - 1 := IntWalk.i64_in _ (by omega); have hpr : -60 ≤ (ML : Int) * (x6 - 1) ∧ (ML : Int) * (x6 - 1) ≤ 60 := (by have h3 : x6 = 0 ∨ x6 = 1 ∨ x6 = 2 := (by omega); rcases h3 with rfl | rfl | rfl <;> omega); have hw2 : IntKind.i64.wrap ((ML : Int) * (x6 - 1)) = (ML : Int) * (x6 - 1) := IntWalk.i64_in _ (by omega); have hw3 : IntKind.i64.wrap (m1 + (ML : Int) * (x6 - 1)) = m1 + (ML : Int) * (x6 - 1) := IntWalk.i64_in _ (by omega)))
          refine hK.out _ _ (trivial) (fun hHeld2 => ?_)
          clear hK K
          (try simp only [Act.put, List.setIfInBounds_toArray, List.set_cons_zero, List.set_cons_succ, List.getElem_toArray, List.getElem_cons_succ, List.getElem_cons_zero])
          refine held_take 8 _ _ rfl (by kernel_rfl) (by kernel_rfl) (by kernel_rfl) (fun _ _ _ h => h) (by rfl) hHeld2 (fun w hSw => by (try dsimp only at hSw); go_simp; try with_reducible rfl) ?_
          (try simp only [Act.put, List.setIfInBounds_toArray, List.set_cons_zero, List.set_cons_succ, List.getElem_toArray, List.getElem_cons_succ, List.getElem_cons_zero])
          refine held_take 9 _ _ rfl (by kernel_rfl) (by kernel_rfl) (by kernel_rfl) (fun _ _ _ h => h) (by rfl) hHeld2 (fun w hSw => by (try dsimp only at hSw); go_simp; try with_reducible rfl) ?_
          (try simp only [Act.put, List.setIfInBounds_toArray, List.set_cons_zero, List.set_cons_succ, List.getElem_toArray, List.getElem_cons_succ, List.getElem_cons_zero])
          refine held_take 10 _ _ rfl (by kernel_rfl) (by kernel_rfl) (by kernel_rfl) (fun _ _ _ h => h) (by rfl) hHeld2 (fun w hSw => by (try dsimp only at hSw); go_simp; try with_reducible rfl) ?_
          (try simp only [Act.put, List.setIfInBounds_toArray, List.set_cons_zero, List.set_cons_succ, List.getElem_toArray, List.getElem_cons_succ, List.getElem_cons_zero])
          refine held_take 11 _ _ rfl (by kernel_rfl) (by kernel_rfl) (by kernel_rfl) (fun _ _ _ h => h) (by rfl) hHeld2 (fun w hSw => by (try dsimp only at hSw); go_simp; try with_reducible rfl) ?_
          (try simp only [Act.put, List.setIfInBounds_toArray, List.set_cons_zero, List.set_cons_succ, List.getElem_toArray, List.getElem_cons_succ, List.getElem_cons_zero])
          refine wpAnyH_ready (rs := [12]) (by kernel_rfl) (by simp) ?_
          refine AllReadyH.cons rfl (fun K hK => ?_) AllReadyH.nil
          rw [if_pos (by rfl)]
          go_wp2_with fail
          refine hK.out _ _ (trivial) (fun hHeld3 => ?_)
          clear hK K
          (try simp only [Act.put, List.setIfInBounds_toArray, List.set_cons_zero, List.set_cons_succ, List.getElem_toArray, List.getElem_cons_succ, List.getElem_cons_zero])
          refine wpAnyH_done (by kernel_rfl) ?_ _
          have HF := Lib.hid (own_put hown6 1 (.int .i64 (m1 + (ML : Int) * (x6 - 1))))
          have hbF := hd6.bel.setCell (p := ⟨g, 1, none⟩) (by have := (hown6.lt g rfl).1; show W.heap.size ≤ g; omega) (.int .i64 (m1 + (ML : Int) * (x6 - 1)))
          have hy64 : InI64 (m1 + (ML : Int) * (x6 - 1)) := by unfold InI64; omega
          generalize m1 + (ML : Int) * (x6 - 1) = y at *
          clear hcl6 hfl6 hown6 hpr
          go_wp2_with fail
          go_ret
          exact ⟨M.set 1 y, _, by rw [List.length_set, HL2.out]; omega, fun x hx => by
            rcases List.mem_or_eq_of_mem_set hx with h | h
            · have := HM.out x h; unfold InI64; omega
            · rw [h]; exact hy64, rfl, by rw [List.length_set, HL2.out, List.map_set]; exact ownsBase HF.out hWb, hbF⟩
        · rw [if_pos (by rfl)]
          go_wp2_with (first | (go_at_call 39; (with_reducible refine (l1Below_dr hd5d 3 (by decide)).mono ?_); rintro e w6 ⟨x6, ⟨hx60, hx6⟩, rfl, hd6, hg6⟩; have hx6b : x6 < 3 := (by omega); clear hx6; have hown6 := row_kept (w' := w6) hown5d (fun j hj => hg6.block j (by have := (hown5.lt j hj).2; exact this) (fun e => by injection e with e; have := (hown5.lt j hj).1; omega)); have hcl6 : w6.cell? ⟨g, 1, none⟩ = some (.int .i64 m1) := (hown6.cellAt 1 (by omega)).trans hm1; have hfl6 := hown6.frozenAt 1; have hw1 : IntKind.i64.wrap (x6 - 1) = x6 - 1 := IntWalk.i64_in _ (by omega); have hpr : -60 ≤ (ML : Int) * (x6 - 1) ∧ (ML : Int) * (x6 - 1) ≤ 60 := (by have h3 : x6 = 0 ∨ x6 = 1 ∨ x6 = 2 := (by omega); rcases h3 with rfl | rfl | rfl <;> omega); have hw2 : IntKind.i64.wrap ((ML : Int) * (x6 - 1)) = (ML : Int) * (x6 - 1) := IntWalk.i64_in _ (by omega); have hw3 : IntKind.i64.wrap (m1 + (ML : Int) * (x6 - 1)) = m1 + (ML : Int) * (x6 - 1) := IntWalk.i64_in _ (by omega)))
          refine hK.out _ _ (trivial) (fun hHeld1 => ?_)
          clear hK K
          (try simp only [Act.put, List.setIfInBounds_toArray, List.set_cons_zero, List.set_cons_succ, List.getElem_toArray, List.getElem_cons_succ, List.getElem_cons_zero])
          refine held_take 8 _ _ rfl (by kernel_rfl) (by kernel_rfl) (by kernel_rfl) (fun _ _ _ h => h) (by rfl) hHeld1 (fun w hSw => by (try dsimp only at hSw); go_simp; try with_reducible rfl) ?_
          (try simp only [Act.put, List.setIfInBounds_toArray, List.set_cons_zero, List.set_cons_succ, List.getElem_toArray, List.getElem_cons_succ, List.getElem_cons_zero])
          refine held_take 9 _ _ rfl (by kernel_rfl) (by kernel_rfl) (by kernel_rfl) (fun _ _ _ h => h) (by rfl) hHeld1 (fun w hSw => by (try dsimp only at hSw); go_simp; try with_reducible rfl) ?_
          (try simp only [Act.put, List.setIfInBounds_toArray, List.set_cons_zero, List.set_cons_succ, List.getElem_toArray, List.getElem_cons_succ, List.getElem_cons_zero])
          refine wpAnyH_ready (rs := [3]) (by kernel_rfl) (by simp) ?_
          refine AllReadyH.cons rfl (fun K hK => ?_) AllReadyH.nil
          rw [if_pos (by rfl)]
          go_wp2_with fail
          refine hK.out _ _ (trivial) (fun hHeld2 => ?_)
          clear hK K
          (try simp only [Act.put, List.setIfInBounds_toArray, List.set_cons_zero, List.set_cons_succ, List.getElem_toArray, List.getElem_cons_succ, List.getElem_cons_zero])
          refine held_take 10 _ _ rfl (by kernel_rfl) (by kernel_rfl) (by kernel_rfl) (fun _ _ _ h => h) (by rfl) hHeld2 (fun w hSw => by (try dsimp only at hSw); go_simp; try with_reducible rfl) ?_
          (try simp only [Act.put, List.setIfInBounds_toArray, List.set_cons_zero, List.set_cons_succ, List.getElem_toArray, List.getElem_cons_succ, List.getElem_cons_zero])
          refine held_take 11 _ _ rfl (by kernel_rfl) (by kernel_rfl) (by kernel_rfl) (fun _ _ _ h => h) (by rfl) hHeld2 (fun w hSw => by (try dsimp only at hSw); go_simp; try with_reducible rfl) ?_
          (try simp only [Act.put, List.setIfInBounds_toArray, List.set_cons_zero, List.set_cons_succ, List.getElem_toArray, List.getElem_cons_succ, List.getElem_cons_zero])
          refine wpAnyH_ready (rs := [12]) (by kernel_rfl) (by simp) ?_
          refine AllReadyH.cons rfl (fun K hK => ?_) AllReadyH.nil
          rw [if_pos (by rfl)]
          go_wp2_with fail
          refine hK.out _ _ (trivial) (fun hHeld3 => ?_)
          clear hK K
          (try simp only [Act.put, List.setIfInBounds_toArray, List.set_cons_zero, List.set_cons_succ, List.getElem_toArray, List.getElem_cons_succ, List.getElem_cons_zero])
          refine wpAnyH_done (by kernel_rfl) ?_ _
          have HF := Lib.hid (own_put hown6 1 (.int .i64 (m1 + (ML : Int) * (x6 - 1))))
          have hbF := hd6.bel.setCell (p := ⟨g, 1, none⟩) (by have := (hown6.lt g rfl).1; show W.heap.size ≤ g; omega) (.int .i64 (m1 + (ML : Int) * (x6 - 1)))
          have hy64 : InI64 (m1 + (ML : Int) * (x6 - 1)) := by unfold InI64; omega
          generalize m1 + (ML : Int) * (x6 - 1) = y at *
          clear hcl6 hfl6 hown6 hpr
          go_wp2_with fail
          go_ret
          exact ⟨M.set 1 y, _, by rw [List.length_set, HL2.out]; omega, fun x hx => by
            rcases List.mem_or_eq_of_mem_set hx with h | h
            · have := HM.out x h; unfold InI64; omega
            · rw [h]; exact hy64, rfl, by rw [List.length_set, HL2.out, List.map_set]; exact ownsBase HF.out hWb, hbF⟩
    · have hM1i : ¬ (1 : Int) < (M.length : Int) := by omega
      obtain ⟨a4, c4, rfl, -⟩ := row_open hown5
      clear hown5
      go_wp2_with fail
      go_ret
      exact HD.out
  · have hz5' := hz5
    go_wp2_with fail
    refine (l1Below_dr hd5 20 (by decide)).mono ?_
    rintro e w6 ⟨x6, ⟨hx60, hx6⟩, rfl, hd6, hg6⟩
    have hown6 := row_kept hown5 (fun j hj => hg6.block j (hown5.lt j hj).2 (fun e => by injection e with e; have := (hown5.lt j hj).1; omega))
    have hz6 := hg6.size
    have hx64 : InI64 x6 := by unfold InI64; omega
    clear hx6 hg6 hown5 HD
    generalize hMLe : M.length = ML at *
    have HL2 := Lib.hid hMLe
    have hmm : (M.map (Value.int .i64)).length = ML := by rw [List.length_map, hMLe]
    go_wp2_with (first
      | (at_builtin; (refine wpList_append_own _ rfl (.tmp 37) (.tmp 40) 24 rfl w3.heap.size 3 i0 (Value.int .i64 0) 1 8 Try.underlying24 hi hz0 hz1 hzb rfl (by decide) _ _ _ rfl (hown6.alloc _) ⟨_, 0, none⟩ 1 1 [.int .i64 x6] rfl rfl (World.news_of_block (cs := #[.int .i64 x6]) (t := 3) (fr := (0, 0)) (heap_alloc_new _ _)) (by simp [Value.oneCell']) (by unfold maxLen; omega) (by omega) (by simp; omega) ?_; intro v7 w7 hown7 hg7 _)))
    go_ret
    exact ⟨M ++ [x6], _, by rw [List.length_append, List.length_singleton, HL2.out]; omega, fun x hx => by
      rcases List.mem_append.1 hx with h | h
      · have := HM.out x h; unfold InI64; omega
      · rw [List.mem_singleton.1 h]; exact hx64, rfl, by rw [List.length_append, List.length_singleton, HL2.out, List.map_append]; exact ownsBase hown7 hWb, (hd6.bel.alloc hd6.bel.size _).grown hg7 (by have := hd6.bel.size; simp; omega) (fun j hj => by have := (hown6.lt j hj).1; omega)⟩
  · clear hown5
    go_wp2_with fail
    go_ret
    exact HD.out
end Go.Proofs.Ytfocaloploekmaa
