/-
  THE DRAWS OF CHAPTER 7. (Own work.)
-/
import Derived.Test.YtgkkkmcgnpdchaaDrw11
import Derived.Test.YtgkkkmcgnpdchaaL22
namespace Go.Proofs.Ytgkkkmcgnpdchaa
open Go Go.RowKit

theorem coordL_small (G : List Int) : ∀ x ∈ coordL G, 0 ≤ x ∧ x ≤ 200 := by
  intro x hx
  cases h : isSgB G
  · rw [coordL_no h] at hx; cases hx
  · obtain ⟨hc, -⟩ := coord_sound h
    obtain ⟨i, hi, rfl⟩ := List.getElem_of_mem hx
    have := bad7_none hc (r := i + 1) (by omega) (by omega)
    unfold at7 at this
    rw [show i + 1 - 1 = i by omega, List.getD_eq_getElem?_getD, List.getElem?_eq_getElem hi, Option.getD_some] at this
    omega

set_option maxRecDepth 100000 in
set_option maxHeartbeats 1600000 in
theorem DrawCoordinatesOf_any (W : World) (a : Option Addr) (len cap : Nat) (zs : List Int) (hr : IsRow .u8 W a len cap zs) (hl : len ≤ 1048576) :
    Calls Try.prog 12 #[.slice a len cap] W (DSg W) := by
  have hb0 := box_below W (.cells #[.slice none 0 0] 26)
  have hA0 := Arr.new W 26 [.slice none 0 0]
  have cn := l1New_any (W.alloc (.cells #[.slice none 0 0] 26)) a len cap zs (hr.below hb0) hl
  have hsz : W.heap.size < (W.alloc (.cells #[.slice none 0 0] 26)).heap.size := hA0.lt
  clear hr
  go_enter Try.func12, Try.ntmps12
  go_wp2_with fail
  refine cn.mono ?_
  rintro e w1 ⟨N, rfl, hd⟩
  have hNb := hd.base
  have hA1 := hA0.below hd.bel
  have hb1 := hb0.trans (hd.bel.mono (Nat.le_of_lt hsz))
  have hz1 := hd.bel.size
  clear cn hA0
  go_wp2_with fail
  refine (l3Bent_dr hd).mono ?_
  rintro e w2 ⟨L, av, cv, hl13, hI, rfl, hs, hf, hd2, hg2⟩
  have HI := Lib.hid hI
  have hA2 := hA1.grownN hg2 (by omega)
  have hc2 : w2.cell? ⟨W.heap.size, 0, none⟩ = some (.slice none 0 0) := hA2.cell 0
  have hf2 := hA2.frozen 0
  have hb2 := hb1.grown hg2 hb1.size (fun k hk => by cases hk; omega)
  have hcf := World.cell?_setCell_same w2 ⟨W.heap.size, 0, none⟩ (.slice av L.length cv) hc2
  have HF : Hid (DSg W (.returned (.agg #[.slice av L.length cv])) (w2.setCell ⟨W.heap.size, 0, none⟩ (.slice av L.length cv))) := Lib.hid ⟨L, av, cv, hl13, HI.out, rfl, hs.grownBy (grownBy_setCell w2 W.heap.size 0 _) hf (by omega), hb2.setCell (Nat.le_refl _) _⟩
  clear hI hs hd hd2 hg2 hA1 hA2 hb0 hb1 hb2 hf
  go_wp2_with fail
  exact bodyPost_ret (v := .agg #[.slice av L.length cv]) (by simp [results, Try.results12, go_sem, hcf]) rfl HF.out
set_option maxRecDepth 100000 in
set_option maxHeartbeats 3200000 in
theorem l7List_any (W : World) (a : Option Addr) (len cap : Nat) (zs : List Int) (hr : IsRow .u8 W a len cap zs) (hl : len ≤ 1048576) :
    Calls Try.prog 51 #[.slice a len cap] W (D1 60 InI64 W) := by
  obtain ⟨i0, hi, hz0, hz1, hzb⟩ := info_parts infoIntL
  have cn := l1New_any W a len cap zs hr hl
  clear hr
  go_enter Try.func51, Try.ntmps51
  go_wp2_with fail
  refine cn.mono ?_
  rintro e w1 ⟨N, rfl, hd⟩
  have hNb := hd.base
  have hW1 := hd.bel.size
  clear cn
  go_wp2_with fail
  refine (l1Once_dr hd 3 (by decide)).mono ?_
  rintro e w2 ⟨b, rfl, hd2, hg2⟩
  have hW2 := hd2.bel.size
  have hN2 := hd2.lt
  clear hd hg2
  cases b
  · go_wp2_with fail
    refine (l3Draw_dr hd2).mono ?_
    rintro e w3 ⟨L, v, hsg, rfl, ho, hd3, hg3⟩
    obtain ⟨av, cv, rfl, rX⟩ := row_open ho
    have hl12 := (isSgB_iff.1 hsg).len
    have c4 := spec_CoordinatesOf L av cv w3 rX.slv (by omega)
    have hML := coordL_len_le L
    have HM := Lib.hid (coordL_small L)
    have hW3 := hd3.bel.size
    have hN3 := hd3.lt
    clear hd2 hg3 ho rX hsg
    go_wp2_with fail
    refine c4.mono ?_
    rintro e w4 ⟨v4, rfl, ho4, hb4⟩
    have hd4 := hd3.belowW hb4
    have hz4 : w3.heap.size ≤ w4.heap.size := hb4.size
    clear c4 hb4 hd3
    generalize coordL L = M at *
    go_wp2_with fail
    refine (l1Once_dr hd4 3 (by decide)).mono ?_
    rintro e w5 ⟨b5, rfl, hd5, hg5⟩
    have hown5 := row_kept ho4 (fun j hj => hg5.block j (ho4.lt j hj).2 (fun e => by injection e with e; have := (ho4.lt j hj).1; omega))
    have hz5 := hg5.size
    have hWb : W.heap.size ≤ w3.heap.size := by omega
    clear hd4 hg5 ho4
    have HD : Hid (D1 60 InI64 W (.returned v4) w5) := Lib.hid ⟨M, v4, by omega, fun x hx => by have := HM.out x hx; unfold InI64; omega, rfl, ownsBase hown5 hWb, hd5.bel⟩
    cases b5
    · clear hown5
      go_wp2_with fail
      go_ret
      exact HD.out
    · by_cases hM1 : 0 < M.length
      · rcases hown5.2 with ⟨rfl, h0⟩ | ⟨g, c5, cur, rfl, -⟩
        · omega
        · have hM1i : (0 : Int) < (M.length : Int) := by omega
          have hM1d := decide_eq_true hM1i
          clear HD
          generalize hMLe : M.length = ML at *
          have HL2 := Lib.hid hMLe
          clear hMLe
          go_wp2_with fail
          refine (l1Below_dr hd5 (ML : Int) (by omega)).mono ?_
          rintro e w7 ⟨x7, ⟨hx70, hx7⟩, rfl, hd7, hg7⟩
          obtain ⟨kx, rfl⟩ := Int.eq_ofNat_of_zero_le hx70
          have hKM : kx < ML := by omega
          have hown7 := row_kept hown5 (fun j hj => hg7.block j (hown5.lt j hj).2 (fun e => by injection e with e; have := (hown5.lt j hj).1; omega))
          have hz7 := hg7.size
          clear hx7 hd5 hg7 hown5
          obtain ⟨p, hp⟩ : ∃ p, M[kx]? = some p := ⟨M[kx]'(by rw [HL2.out]; exact hKM), List.getElem?_eq_getElem _⟩
          have hm1 : (M.map (Value.int .i64))[kx]? = some (.int .i64 p) := by rw [List.getElem?_map, hp]; rfl
          have hb1 := HM.out p (List.mem_of_getElem? hp)
          have hcl5 : w7.drew.cell? ⟨g, kx, none⟩ = some (.int .i64 p) := (hown7.cellAt kx (by omega)).trans hm1
          have hK0 : (0 : Int) ≤ (kx : Int) := by omega
          have hK1 : (kx : Int) < (ML : Int) := by omega
          clear hp
          have hown5 := hown7
          have hown5d : w7.drew.ownsRow w3.heap.size 3 1 (.slice (some ⟨g, 0, none⟩) ML c5) ML (M.map (Value.int .i64)) := hown7
          have hd5d : Dr W w7.drew N a len cap zs := hd7.drewN 1
          go_wp2_with fail
          refine wp_region_held_drew (S := fun _ => True) (by kernel_rfl) trivial (fun hHeld => ?_)
          refine held_take 0 _ _ rfl (by kernel_rfl) (by kernel_rfl) (by kernel_rfl) (fun _ _ _ h => h) (by rfl) hHeld (fun w hSw => by (try dsimp only at hSw); go_simp; try with_reducible rfl) ?_
          (try simp only [Act.put, List.setIfInBounds_toArray, List.set_cons_zero, List.set_cons_succ, List.getElem_toArray, List.getElem_cons_zero])
          refine held_take 1 _ _ rfl (by kernel_rfl) (by kernel_rfl) (by kernel_rfl) (fun _ _ _ h => h) (by rfl) hHeld (fun w hSw => by (try dsimp only at hSw); go_simp; try with_reducible rfl) ?_
          (try simp only [Act.put, List.setIfInBounds_toArray, List.set_cons_zero, List.set_cons_succ, List.getElem_toArray, List.getElem_cons_succ, List.getElem_cons_zero])
          refine held_take 2 _ _ rfl (by kernel_rfl) (by kernel_rfl) (by kernel_rfl) (fun _ _ _ h => h) (by rfl) hHeld (fun w hSw => by (try dsimp only at hSw); go_simp; try with_reducible rfl) ?_
          (try simp only [Act.put, List.setIfInBounds_toArray, List.set_cons_zero, List.set_cons_succ, List.getElem_toArray, List.getElem_cons_succ, List.getElem_cons_zero])
          refine held_take 3 _ _ rfl (by kernel_rfl) (by kernel_rfl) (by kernel_rfl) (fun _ _ _ h => h) (by rfl) hHeld (fun w hSw => by (try dsimp only at hSw); go_simp; try with_reducible rfl) ?_
          (try simp only [Act.put, List.setIfInBounds_toArray, List.set_cons_zero, List.set_cons_succ, List.getElem_toArray, List.getElem_cons_succ, List.getElem_cons_zero])
          refine held_take 4 _ _ rfl (by kernel_rfl) (by kernel_rfl) (by kernel_rfl) (fun _ _ _ h => h) (by rfl) hHeld (fun w hSw => by (try dsimp only at hSw); go_simp; try with_reducible rfl) ?_
          (try simp only [Act.put, List.setIfInBounds_toArray, List.set_cons_zero, List.set_cons_succ, List.getElem_toArray, List.getElem_cons_succ, List.getElem_cons_zero])
          refine held_take 6 _ _ rfl (by kernel_rfl) (by kernel_rfl) (by kernel_rfl) (fun _ _ _ h => h) (by rfl) hHeld (fun w hSw => by (try dsimp only at hSw); go_simp; try with_reducible rfl) ?_
          (try simp only [Act.put, List.setIfInBounds_toArray, List.set_cons_zero, List.set_cons_succ, List.getElem_toArray, List.getElem_cons_succ, List.getElem_cons_zero])
          refine wpAnyH_ready (rs := [5, 7]) (by kernel_rfl) (by simp) ?_
          refine AllReadyH.cons rfl (fun K hK => ?_) (AllReadyH.cons rfl (fun K hK => ?_) AllReadyH.nil)
          · rw [if_pos (by rfl)]
            go_wp2_with fail
            refine hK.out _ _ (trivial) (fun hHeld1 => ?_)
            clear hK K
            (try simp only [Act.put, List.setIfInBounds_toArray, List.set_cons_zero, List.set_cons_succ, List.getElem_toArray, List.getElem_cons_succ, List.getElem_cons_zero])
            refine wpAnyH_ready (rs := [7]) (by kernel_rfl) (by simp) ?_
            refine AllReadyH.cons rfl (fun K hK => ?_) AllReadyH.nil
            rw [if_pos (by rfl)]
            go_wp2_with (first | (go_at_call 78; (with_reducible refine (l1Below_dr hd5d 3 (by decide)).mono ?_); rintro e w6 ⟨x6, ⟨hx60, hx6⟩, rfl, hd6, hg6⟩; have hx6b : x6 < 3 := (by omega); clear hx6; have hown6 := row_kept (w' := w6) hown5d (fun j hj => hg6.block j (by have := (hown5.lt j hj).2; exact this) (fun e => by injection e with e; have := (hown5.lt j hj).1; omega)); have hcl6 : w6.cell? ⟨g, kx, none⟩ = some (.int .i64 p) := (hown6.cellAt kx (by omega)).trans hm1; have hfl6 := hown6.frozenAt kx; have hw2 : IntKind.i64.wrap (p + x6) = p + x6 := IntWalk.i64_in _ (by omega); have hw3 : IntKind.i64.wrap (p + x6 - 1) = p + x6 - 1 := IntWalk.i64_in _ (by omega)))
            refine hK.out _ _ (trivial) (fun hHeld2 => ?_)
            clear hK K
            (try simp only [Act.put, List.setIfInBounds_toArray, List.set_cons_zero, List.set_cons_succ, List.getElem_toArray, List.getElem_cons_succ, List.getElem_cons_zero])
            refine held_take 8 _ _ rfl (by kernel_rfl) (by kernel_rfl) (by kernel_rfl) (fun _ _ _ h => h) (by rfl) hHeld2 (fun w hSw => by (try dsimp only at hSw); go_simp; try with_reducible rfl) ?_
            (try simp only [Act.put, List.setIfInBounds_toArray, List.set_cons_zero, List.set_cons_succ, List.getElem_toArray, List.getElem_cons_succ, List.getElem_cons_zero])
            refine held_take 9 _ _ rfl (by kernel_rfl) (by kernel_rfl) (by kernel_rfl) (fun _ _ _ h => h) (by rfl) hHeld2 (fun w hSw => by (try dsimp only at hSw); go_simp; try with_reducible rfl) ?_
            (try simp only [Act.put, List.setIfInBounds_toArray, List.set_cons_zero, List.set_cons_succ, List.getElem_toArray, List.getElem_cons_succ, List.getElem_cons_zero])
            refine held_take 10 _ _ rfl (by kernel_rfl) (by kernel_rfl) (by kernel_rfl) (fun _ _ _ h => h) (by rfl) hHeld2 (fun w hSw => by (try dsimp only at hSw); go_simp; try with_reducible rfl) ?_
            (try simp only [Act.put, List.setIfInBounds_toArray, List.set_cons_zero, List.set_cons_succ, List.getElem_toArray, List.getElem_cons_succ, List.getElem_cons_zero])
            refine wpAnyH_ready (rs := [11]) (by kernel_rfl) (by simp) ?_
            refine AllReadyH.cons rfl (fun K hK => ?_) AllReadyH.nil
            rw [if_pos (by rfl)]
            go_wp2_with fail
            refine hK.out _ _ (trivial) (fun hHeld3 => ?_)
            clear hK K
            (try simp only [Act.put, List.setIfInBounds_toArray, List.set_cons_zero, List.set_cons_succ, List.getElem_toArray, List.getElem_cons_succ, List.getElem_cons_zero])
            refine wpAnyH_done (by kernel_rfl) ?_ _
            have HF := Lib.hid (own_put hown6 kx (.int .i64 (p + x6 - 1)))
            have hbF := hd6.bel.setCell (p := ⟨g, kx, none⟩) (by have := (hown6.lt g rfl).1; show W.heap.size ≤ g; omega) (.int .i64 (p + x6 - 1))
            have hy64 : InI64 (p + x6 - 1) := by unfold InI64; omega
            generalize p + x6 - 1 = y at *
            clear hcl6 hfl6 hown6
            go_wp2_with fail
            go_ret
            exact ⟨M.set kx y, _, by rw [List.length_set, HL2.out]; omega, fun x hx => by
              rcases List.mem_or_eq_of_mem_set hx with h | h
              · have := HM.out x h; unfold InI64; omega
              · rw [h]; exact hy64, rfl, by rw [List.length_set, HL2.out, List.map_set]; exact ownsBase HF.out hWb, hbF⟩
          · rw [if_pos (by rfl)]
            go_wp2_with (first | (go_at_call 78; (with_reducible refine (l1Below_dr hd5d 3 (by decide)).mono ?_); rintro e w6 ⟨x6, ⟨hx60, hx6⟩, rfl, hd6, hg6⟩; have hx6b : x6 < 3 := (by omega); clear hx6; have hown6 := row_kept (w' := w6) hown5d (fun j hj => hg6.block j (by have := (hown5.lt j hj).2; exact this) (fun e => by injection e with e; have := (hown5.lt j hj).1; omega)); have hcl6 : w6.cell? ⟨g, kx, none⟩ = some (.int .i64 p) := (hown6.cellAt kx (by omega)).trans hm1; have hfl6 := hown6.frozenAt kx; have hw2 : IntKind.i64.wrap (p + x6) = p + x6 := IntWalk.i64_in _ (by omega); have hw3 : IntKind.i64.wrap (p + x6 - 1) = p + x6 - 1 := IntWalk.i64_in _ (by omega)))
            refine hK.out _ _ (trivial) (fun hHeld1 => ?_)
            clear hK K
            (try simp only [Act.put, List.setIfInBounds_toArray, List.set_cons_zero, List.set_cons_succ, List.getElem_toArray, List.getElem_cons_succ, List.getElem_cons_zero])
            refine wpAnyH_ready (rs := [5]) (by kernel_rfl) (by simp) ?_
            refine AllReadyH.cons rfl (fun K hK => ?_) AllReadyH.nil
            rw [if_pos (by rfl)]
            go_wp2_with fail
            refine hK.out _ _ (trivial) (fun hHeld2 => ?_)
            clear hK K
            (try simp only [Act.put, List.setIfInBounds_toArray, List.set_cons_zero, List.set_cons_succ, List.getElem_toArray, List.getElem_cons_succ, List.getElem_cons_zero])
            refine held_take 8 _ _ rfl (by kernel_rfl) (by kernel_rfl) (by kernel_rfl) (fun _ _ _ h => h) (by rfl) hHeld2 (fun w hSw => by (try dsimp only at hSw); go_simp; try with_reducible rfl) ?_
            (try simp only [Act.put, List.setIfInBounds_toArray, List.set_cons_zero, List.set_cons_succ, List.getElem_toArray, List.getElem_cons_succ, List.getElem_cons_zero])
            refine held_take 9 _ _ rfl (by kernel_rfl) (by kernel_rfl) (by kernel_rfl) (fun _ _ _ h => h) (by rfl) hHeld2 (fun w hSw => by (try dsimp only at hSw); go_simp; try with_reducible rfl) ?_
            (try simp only [Act.put, List.setIfInBounds_toArray, List.set_cons_zero, List.set_cons_succ, List.getElem_toArray, List.getElem_cons_succ, List.getElem_cons_zero])
            refine held_take 10 _ _ rfl (by kernel_rfl) (by kernel_rfl) (by kernel_rfl) (fun _ _ _ h => h) (by rfl) hHeld2 (fun w hSw => by (try dsimp only at hSw); go_simp; try with_reducible rfl) ?_
            (try simp only [Act.put, List.setIfInBounds_toArray, List.set_cons_zero, List.set_cons_succ, List.getElem_toArray, List.getElem_cons_succ, List.getElem_cons_zero])
            refine wpAnyH_ready (rs := [11]) (by kernel_rfl) (by simp) ?_
            refine AllReadyH.cons rfl (fun K hK => ?_) AllReadyH.nil
            rw [if_pos (by rfl)]
            go_wp2_with fail
            refine hK.out _ _ (trivial) (fun hHeld3 => ?_)
            clear hK K
            (try simp only [Act.put, List.setIfInBounds_toArray, List.set_cons_zero, List.set_cons_succ, List.getElem_toArray, List.getElem_cons_succ, List.getElem_cons_zero])
            refine wpAnyH_done (by kernel_rfl) ?_ _
            have HF := Lib.hid (own_put hown6 kx (.int .i64 (p + x6 - 1)))
            have hbF := hd6.bel.setCell (p := ⟨g, kx, none⟩) (by have := (hown6.lt g rfl).1; show W.heap.size ≤ g; omega) (.int .i64 (p + x6 - 1))
            have hy64 : InI64 (p + x6 - 1) := by unfold InI64; omega
            generalize p + x6 - 1 = y at *
            clear hcl6 hfl6 hown6
            go_wp2_with fail
            go_ret
            exact ⟨M.set kx y, _, by rw [List.length_set, HL2.out]; omega, fun x hx => by
              rcases List.mem_or_eq_of_mem_set hx with h | h
              · have := HM.out x h; unfold InI64; omega
              · rw [h]; exact hy64, rfl, by rw [List.length_set, HL2.out, List.map_set]; exact ownsBase HF.out hWb, hbF⟩
      · have hM1d : decide ((0 : Int) < (M.length : Int)) = false := decide_eq_false (by omega)
        have hM1e : decide (0 < M.length) = false := decide_eq_false (by omega)
        obtain ⟨a4, c4, rfl, -⟩ := row_open hown5
        clear hown5 hM1
        go_wp2_with fail
        go_ret
        exact HD.out
  · go_wp2_with fail
    refine (l1Below_dr (hd2.alloc _) 6 (by decide)).mono ?_
    rintro e w3 ⟨x, ⟨hx0, hx⟩, rfl, hd3, hg3⟩
    obtain ⟨n, rfl⟩ := Int.eq_ofNat_of_zero_le hx0
    have hn : n ≤ 5 := by omega
    have hown0 : (w2.alloc (.cells #[] 3)).ownsRow w2.heap.size 3 1 (.slice (some ⟨w2.heap.size, 0, none⟩) 0 0) 0 [] := World.ownsRow_lit w2 #[] 0 (Nat.le_refl _) (by simp) rfl
    have hown3 : w3.ownsRow w2.heap.size 3 1 (.slice (some ⟨w2.heap.size, 0, none⟩) 0 0) 0 [] := hown0.kept hg3 (.inr (by simp [Value.ownBlock]; omega))
    have hz3 := hg3.size
    rw [World.size_alloc] at hz3
    clear hx hx0 hd2 hg3 hown0
    go_wp2_with fail
    go_loopw [4, 6] (fun v i wr => ∃ (k : Nat) (L : List Int), k ≤ n ∧ i = .int .i64 (k : Int) ∧ L.length = k ∧ (∀ x ∈ L, Tiny x) ∧
        wr.ownsRow w2.heap.size 3 1 v L.length (L.map (Value.int .i64)) ∧ Dr W wr N a len cap zs ∧ w2.heap.size < wr.heap.size) (fun _ i _ => n - (intOf i).toNat)
    case atStart => exact ⟨0, [], Nat.zero_le _, rfl, rfl, by simp, hown3, hd3, by omega⟩
    case round =>
      clear hown3 hd3 hz3
      obtain ⟨k, L, hk, rfl, hLk, hT, hown, hd, hsz⟩ := hrel
      have HL := Lib.hid hLk
      have HT := Lib.hid hT
      have hL5 : L.length ≤ 5 := by omega
      clear hLk hT
      by_cases hkn : k < n
      · have hkn' : (k : Int) < (n : Int) := by omega
        go_wp2_with fail
        refine (l1Below_dr hd 5 (by decide)).mono ?_
        rintro e w4 ⟨x, ⟨hx0, hx⟩, rfl, hd4, hg4⟩
        have hx1 : x < 5 := by omega
        have hlow := hown.lt
        have hown4 := row_kept hown fun j hj => hg4.block j (hlow j hj).2 (fun e => by injection e with e; have := (hlow j hj).1; omega)
        have hsz4 := hg4.size
        clear hx hown hd hg4 hlow
        go_wp2_with (first
          | (at_builtin; refine wpList_append_own _ rfl (.tmp 21) (.tmp 24) 24 rfl w2.heap.size 3 i0 (Value.int .i64 0) 1 8 Try.underlying24 hi hz0 hz1 hzb rfl (by decide) _ _ _ rfl (hown4.alloc _) ⟨_, 0, none⟩ 1 1 [.int .i64 x] rfl rfl (World.news_of_block (cs := #[.int .i64 x]) (t := 3) (fr := (0, 0)) (heap_alloc_new _ _)) (by simp [Value.oneCell']) (by unfold maxLen; omega) (by omega) (by simp; omega) ?_; intro v5 w5 hown5 hgr5 _))
        have hlow2 := hown4.lt
        have hd5 : Dr W w5 N a len cap zs := (hd4.alloc _).grownR hgr5 (fun j hj => by have := (hlow2 j hj).1; have := hd4.base; omega)
        have hsz5 := hgr5.size
        rw [World.size_alloc] at hsz5
        have HO := Lib.hid hown5
        clear hown4 hd4 hown5 hgr5 hlow2
        go_roundw
        case rel =>
          refine ⟨k + 1, L ++ [x], by omega, by go_num, by have := HL.out; simp; omega, ?_, by rw [List.length_append, List.length_singleton, List.map_append]; exact HO.out, hd5, by omega⟩
          intro y hy
          rcases List.mem_append.1 hy with h | h
          · exact HT.out y h
          · rw [List.mem_singleton.1 h]; unfold Tiny; omega
        case measure => simp [intOf]; omega
      · have hkn' : ¬ (k : Int) < (n : Int) := by omega
        have HO := Lib.hid hown
        clear hown
        go_wp2_with fail
        go_ret
        exact ⟨L, _, by omega, fun x hx => by have := HT.out x hx; unfold Tiny at this; unfold InI64; omega, rfl, ownsBase HO.out (by omega), hd.bel⟩
set_option maxRecDepth 100000 in
set_option maxHeartbeats 1600000 in
theorem DrawFromCoordinates_any (W : World) (a : Option Addr) (len cap : Nat) (zs : List Int) (hr : IsRow .u8 W a len cap zs) (hl : len ≤ 1048576) :
    Calls Try.prog 14 #[.slice a len cap] W (D1 60 InI64 W) := by
  have c := l7List_any W a len cap zs hr hl
  go_enter Try.func14, Try.ntmps14
  go_wp2_with fail
  refine c.mono ?_
  rintro e w1 h
  obtain ⟨L, v, h1, h2, rfl, h4, h5⟩ := h
  have HO := Lib.hid h4
  clear h4 c
  go_wp2_with fail
  go_ret
  exact ⟨L, v, h1, h2, rfl, HO.out, h5⟩
end Go.Proofs.Ytgkkkmcgnpdchaa
