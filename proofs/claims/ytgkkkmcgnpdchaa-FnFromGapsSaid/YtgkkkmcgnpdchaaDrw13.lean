/-
  THE DRAWS OF CHAPTER 8. (Own work.)
-/
import Derived.Test.YtgkkkmcgnpdchaaDrw12
import Derived.Test.YtgkkkmcgnpdchaaL27
namespace Go.Proofs.Ytgkkkmcgnpdchaa
open Go Go.RowKit

theorem gapsL_small {G : List Int} (h : isSgB G = true) : ∀ x ∈ gapsL G, 1 ≤ x ∧ x ≤ 199 := (okGp_iff.1 (gapsL_okGp h)).1
theorem gapsL_le (G : List Int) : (gapsL G).length ≤ 200 := by
  unfold gapsL
  split
  · rw [List.length_map]; exact upB_len_le _ _
  · exact Nat.zero_le _
def pick8 : List Int := [0, 200, 199]
theorem pick8_in : ∀ x ∈ pick8, InI64 x := by
  intro x hx
  simp only [pick8, List.mem_cons, List.not_mem_nil, or_false] at hx
  unfold InI64
  omega
theorem own_len8 {w : World} {lo t : Nat} {v : Value} {n : Nat} {xs : List Value} (h : w.ownsRow lo t 1 v n xs) : w.ownsRow lo t 1 v xs.length xs := by
  have e : xs.length = n := by have := h.1; omega
  rw [e]; exact h

set_option maxRecDepth 100000 in
set_option maxHeartbeats 3200000 in
theorem l8List_any (W : World) (a : Option Addr) (len cap : Nat) (zs : List Int) (hr : IsRow .u8 W a len cap zs) (hl : len ≤ 1048576) :
    Calls Try.prog 67 #[.slice a len cap] W (D1 201 InI64 W) := by
  obtain ⟨i0, hi, hz0, hz1, hzb⟩ := info_parts infoIntL
  have cn := l1New_any W a len cap zs hr hl
  clear hr
  go_enter Try.func67, Try.ntmps67
  go_wp2_with fail
  refine cn.mono ?_
  rintro e w1 ⟨N, rfl, hd⟩
  have hNb := hd.base
  have hW1 := hd.bel.size
  clear cn
  go_wp2_with fail
  refine (l3Draw_dr hd).mono ?_
  rintro e w3 ⟨L, v, hsg, rfl, ho, hd3, hg3⟩
  obtain ⟨av, cv, rfl, rX⟩ := row_open ho
  have hl12 := (isSgB_iff.1 hsg).len
  have c4 := spec_Gaps L av cv w3 rX.slv (by omega)
  have hML := gapsL_le L
  have HM := Lib.hid (gapsL_small hsg)
  have hW3 := hd3.bel.size
  have hN3 := hd3.lt
  clear hd hg3 ho rX hsg
  go_wp2_with fail
  refine c4.mono ?_
  rintro e w4 ⟨v4, rfl, ho4, hb4⟩
  have hd4 := hd3.belowW hb4
  have hz4 : w3.heap.size ≤ w4.heap.size := hb4.size
  clear c4 hb4 hd3
  generalize gapsL L = M at *
  go_wp2_with fail
  refine (l1Below_dr hd4 6 (by decide)).mono ?_
  rintro e w5 ⟨x5, ⟨hx50, hx5⟩, rfl, hd5, hg5⟩
  have hown5 := row_kept ho4 (fun j hj => hg5.block j (ho4.lt j hj).2 (fun e => by injection e with e; have := (ho4.lt j hj).1; omega))
  have hz5 := hg5.size
  have hWb : W.heap.size ≤ w3.heap.size := hW3
  have hcs : x5 = 0 ∨ x5 = 1 ∨ x5 = 2 ∨ (x5 == 0) = false ∧ (x5 == 1) = false ∧ (x5 == 2) = false := by
    by_cases h0 : x5 = 0
    · exact .inl h0
    · by_cases h1 : x5 = 1
      · exact .inr (.inl h1)
      · by_cases h2 : x5 = 2
        · exact .inr (.inr (.inl h2))
        · exact .inr (.inr (.inr ⟨by rw [beq_eq_false_iff_ne]; exact h0, by rw [beq_eq_false_iff_ne]; exact h1, by rw [beq_eq_false_iff_ne]; exact h2⟩))
  clear hx5 hd4 hg5 ho4
  have HD : Hid (D1 201 InI64 W (.returned v4) w5) := Lib.hid ⟨M, v4, by omega, fun x hx => by have := HM.out x hx; unfold InI64; omega, rfl, ownsBase hown5 hWb, hd5.bel⟩
  rcases hcs with rfl | rfl | rfl | ⟨he0, he1, he2⟩
  · clear HD hown5
    go_wp2_with fail
    refine (l2Draw_dr hd5).mono ?_
    rintro e w6 ⟨L2, v6, hL2, hT, rfl, ho6, hd6, hg6⟩
    obtain ⟨a6, c6, rfl, rX6⟩ := row_open ho6
    have c7 := spec_SortList L2 a6 c6 w6 rX6.slv (by omega)
    have HT := Lib.hid hT
    have hsl := sortL_length_le L2
    have hW6 := hd6.bel.size
    clear hd5 hg6 ho6 rX6 hT
    go_wp2_with fail
    refine c7.mono ?_
    rintro e w7 ⟨g7, k7, rfl, ho7, hb7⟩
    have HO := Lib.hid ho7
    clear c7 ho7
    go_wp2_with fail
    go_ret
    exact ⟨sortL L2, _, by omega, fun x hx => by have := HT.out x (((sortL_spec L2).2 x).1 hx); unfold Tiny at this; unfold InI64; omega, rfl, ownsBase HO.out hW6, hd6.bel.trans (hb7.mono hW6)⟩
  · by_cases hM1 : 1 < M.length
    · rcases hown5.2 with ⟨rfl, h0⟩ | ⟨g, c5, cur, rfl, -⟩
      · omega
      · have hM1i : (1 : Int) < (M.length : Int) := by omega
        clear HD
        go_wp2_with fail
        refine (l1Below_dr hd5 (M.length : Int) (by omega)).mono ?_
        rintro e w7 ⟨x7, ⟨hx70, hx7⟩, rfl, hd7, hg7⟩
        obtain ⟨kx, rfl⟩ := Int.eq_ofNat_of_zero_le hx70
        have hKM : kx < M.length := by omega
        have hown7 := row_kept hown5 (fun j hj => hg7.block j (hown5.lt j hj).2 (fun e => by injection e with e; have := (hown5.lt j hj).1; omega))
        have hz7 := hg7.size
        obtain ⟨a7, c7, e7, rX7⟩ := row_open hown7
        cases e7
        have hcap := rX7.slw.le
        rw [List.length_map] at hcap
        have hgl := (hown7.lt g rfl).2
        have HCY : Hid (∀ j (hj : j < M.length), w7.cell? ⟨g, j, none⟩ = some (.int .i64 M[j])) := Lib.hid fun j hj => (hown7.cellAt j (by omega)).trans (by rw [List.getElem?_map, List.getElem?_eq_getElem hj]; rfl)
        clear hx7 hx70 hd5 hg7 hown5 rX7 hown7
        have hi0 : (0 : Int) ≤ (kx : Int) := by omega
        have hi1 : (kx : Int) ≤ (c5 : Int) := by omega
        have hi2 : (kx : Int) < (M.length : Int) := by omega
        have hW7 := hd7.bel.size
        have hown0 : ((w7.alloc (.cells #[] 3)).drew).ownsRow w7.heap.size 3 1 (.slice (some ⟨w7.heap.size, 0, none⟩) 0 0) 0 [] := World.ownsRow_lit w7 #[] 0 (Nat.le_refl _) (by simp) rfl
        have hn1 : ∀ j u, ((M.take kx).map (Value.int .i64))[j]? = some u → ((w7.alloc (.cells #[] 3)).drew).cell? ((⟨g, 0, none⟩ : Addr).add j) = some u := fun j u hj => by
          rw [List.getElem?_map, List.getElem?_take] at hj
          split at hj
          · next hji =>
            rw [List.getElem?_eq_getElem (by omega)] at hj
            cases hj
            rw [Addr.add_mid, Nat.zero_add]
            show (w7.alloc _).cell? _ = _
            rw [World.cell?_alloc_lt _ _ _ (show g < w7.heap.size from hgl)]
            exact HCY.out j (by omega)
          · cases hj
        have hw1 : IntKind.i64.wrap ((kx : Int) + 1) = (kx : Int) + 1 := IntWalk.i64_in _ (by omega)
        have hi3 : (0 : Int) ≤ (kx : Int) + 1 := by omega
        have hi4 : (kx : Int) + 1 ≤ (M.length : Int) := by omega
        have hi6 : (kx : Int) ≤ (kx : Int) + 1 := by omega
        by_cases hcap' : c5 = kx + 1
        · subst hcap'
          go_wp2_with fail
          have hnil : M.drop (kx + 1) = [] := List.drop_eq_nil_of_le (by omega)
          refine wp_region_held_drew (S := fun _ => True) (by kernel_rfl) trivial (fun hHeld => ?_)
          refine held_take 1 _ _ rfl (by kernel_rfl) (by kernel_rfl) (by kernel_rfl) (fun _ _ _ h => h) (by rfl) hHeld (fun w hSw => by (try dsimp only at hSw); go_simp; try with_reducible rfl) ?_
          (try simp only [Act.put, List.setIfInBounds_toArray, List.set_cons_zero, List.set_cons_succ, List.getElem_toArray, List.getElem_cons_succ, List.getElem_cons_zero])
          refine held_take 2 _ _ rfl (by kernel_rfl) (by kernel_rfl) (by kernel_rfl) (fun _ _ _ h => h) (by rfl) hHeld (fun w hSw => by (try dsimp only at hSw); go_simp; try with_reducible rfl) ?_
          (try simp only [Act.put, List.setIfInBounds_toArray, List.set_cons_zero, List.set_cons_succ, List.getElem_toArray, List.getElem_cons_succ, List.getElem_cons_zero])
          refine held_take 3 _ _ rfl (by kernel_rfl) (by kernel_rfl) (by kernel_rfl) (fun _ _ _ h => h) (by rfl) hHeld (fun w hSw => by (try dsimp only at hSw); go_simp; try with_reducible rfl) ?_
          (try simp only [Act.put, List.setIfInBounds_toArray, List.set_cons_zero, List.set_cons_succ, List.getElem_toArray, List.getElem_cons_succ, List.getElem_cons_zero])
          refine held_take 5 _ _ rfl (by kernel_rfl) (by kernel_rfl) (by kernel_rfl) (fun _ _ _ h => h) (by rfl) hHeld (fun w hSw => by (try dsimp only at hSw); go_simp; try with_reducible rfl) ?_
          (try simp only [Act.put, List.setIfInBounds_toArray, List.set_cons_zero, List.set_cons_succ, List.getElem_toArray, List.getElem_cons_succ, List.getElem_cons_zero])
          refine held_take 6 _ _ rfl (by kernel_rfl) (by kernel_rfl) (by kernel_rfl) (fun _ _ _ h => h) (by rfl) hHeld (fun w hSw => by (try dsimp only at hSw); go_simp; try with_reducible rfl) ?_
          (try simp only [Act.put, List.setIfInBounds_toArray, List.set_cons_zero, List.set_cons_succ, List.getElem_toArray, List.getElem_cons_succ, List.getElem_cons_zero])
          refine held_take 7 _ _ rfl (by kernel_rfl) (by kernel_rfl) (by kernel_rfl) (fun _ _ _ h => h) (by rfl) hHeld (fun w hSw => by (try dsimp only at hSw); go_simp; try with_reducible rfl) ?_
          (try simp only [Act.put, List.setIfInBounds_toArray, List.set_cons_zero, List.set_cons_succ, List.getElem_toArray, List.getElem_cons_succ, List.getElem_cons_zero])
          refine held_take 8 _ _ rfl (by kernel_rfl) (by kernel_rfl) (by kernel_rfl) (fun _ _ _ h => h) (by rfl) hHeld (fun w hSw => by (try dsimp only at hSw); go_simp; try with_reducible rfl) ?_
          (try simp only [Act.put, List.setIfInBounds_toArray, List.set_cons_zero, List.set_cons_succ, List.getElem_toArray, List.getElem_cons_succ, List.getElem_cons_zero])
          refine wpAnyH_ready (rs := [0]) (by kernel_rfl) (by simp) ?_
          refine AllReadyH.cons rfl (fun K hK => ?_) AllReadyH.nil
          rw [if_pos (by rfl)]
          go_wp2_with fail
          refine hK.out _ _ (trivial) (fun hHeld1 => ?_)
          clear hK K
          (try simp only [Act.put, List.setIfInBounds_toArray, List.set_cons_zero, List.set_cons_succ, List.getElem_toArray, List.getElem_cons_succ, List.getElem_cons_zero])
          refine wpAnyH_ready (rs := [4]) (by kernel_rfl) (by simp) ?_
          refine AllReadyH.cons rfl (fun K hK => ?_) AllReadyH.nil
          rw [if_pos (by rfl)]
          refine wp_append_own _ (.tmp 27) (.tmp 30) 24 (by rfl) w7.heap.size 3 i0 (Value.int .i64 0) 1 8 Try.underlying24 hi hz0 hz1 hzb rfl (by decide) (.slice (some ⟨w7.heap.size, 0, none⟩) 0 0) 0 [] (by rfl) hown0 ⟨g, 0, none⟩ kx _ ((M.take kx).map (Value.int .i64)) (by rfl) (by simp; try omega) hn1 (fun u hu => by first | cases hu | (obtain ⟨x, -, rfl⟩ := List.mem_map.1 hu; rfl)) (by unfold maxLen; omega) (by omega) (by first | omega | (show w7.heap.size ≤ (w7.alloc _).heap.size; simp)) ?_; intro v5 wa hownA hgA _
          have hsA : w7.heap.size + 1 ≤ wa.heap.size := by have h := hgA.size; have e : (w7.alloc (.cells #[] 3)).drew.heap.size = w7.heap.size + 1 := (by show (w7.alloc _).heap.size = _; simp); omega
          have hbelA : Below W.heap.size W wa := (hd7.bel.alloc hd7.bel.size (.cells #[] 3)).drew.grown hgA (by show W.heap.size ≤ (w7.alloc _).heap.size; exact Nat.le_trans hd7.bel.size (by simp)) (fun k hk => by have e : w7.heap.size = k := Option.some.inj hk; have := hd7.bel.size; omega)
          refine hK.out _ _ (trivial) (fun hHeld2 => ?_)
          clear hK K
          (try simp only [Act.put, List.setIfInBounds_toArray, List.set_cons_zero, List.set_cons_succ, List.getElem_toArray, List.getElem_cons_succ, List.getElem_cons_zero])
          refine wpAnyH_ready (rs := [9]) (by kernel_rfl) (by simp) ?_
          refine AllReadyH.cons rfl (fun K hK => ?_) AllReadyH.nil
          rw [if_pos (by rfl)]
          refine wp_append_own _ (.tmp 31) (.tmp 35) 24 (by rfl) w7.heap.size 3 i0 (Value.int .i64 0) 1 8 Try.underlying24 hi hz0 hz1 hzb rfl (by decide) v5 (0 + kx) ([] ++ (M.take kx).map (Value.int .i64)) (by rfl) hownA _ _ _ ((M.drop (kx + 1)).map (Value.int .i64)) (by rfl) (by simp; try omega) (fun j u hj => by rw [hnil] at hj; simp at hj) (fun u hu => by first | cases hu | (obtain ⟨x, -, rfl⟩ := List.mem_map.1 hu; rfl)) (by unfold maxLen; omega) (by omega) (by first | omega | (show w7.heap.size ≤ (w7.alloc _).heap.size; simp)) ?_; intro v6 wb hownB hgB _
          have hloA := hownA.lt
          have hbelB := hbelA.grown hgB hbelA.size (fun k hk => by have := (hloA k hk).1; have := hd7.bel.size; omega)
          refine hK.out _ _ (trivial) (fun hHeld3 => ?_)
          clear hK K
          (try simp only [Act.put, List.setIfInBounds_toArray, List.set_cons_zero, List.set_cons_succ, List.getElem_toArray, List.getElem_cons_succ, List.getElem_cons_zero])
          refine held_take 10 _ _ rfl (by kernel_rfl) (by kernel_rfl) (by kernel_rfl) (fun _ _ _ h => h) (by rfl) hHeld3 (fun w hSw => by (try dsimp only at hSw); go_simp; try with_reducible rfl) ?_
          (try simp only [Act.put, List.setIfInBounds_toArray, List.set_cons_zero, List.set_cons_succ, List.getElem_toArray, List.getElem_cons_succ, List.getElem_cons_zero])
          refine wpAnyH_done (by kernel_rfl) ?_ _
          have hown9 : wb.ownsRow w7.heap.size 3 1 v6 (M.take kx ++ M.drop (kx + 1)).length ((M.take kx ++ M.drop (kx + 1)).map (Value.int .i64)) := by
            have h := own_len8 hownB
            rw [List.nil_append, ← List.map_append] at h
            rwa [List.length_map] at h
          have HF : Hid (D1 201 InI64 W (.returned v6) wb) := Lib.hid ⟨M.take kx ++ M.drop (kx + 1), v6, by rw [List.length_append, List.length_take, List.length_drop]; omega, fun x hx => by
            have hx' : x ∈ M := by
              rcases List.mem_append.1 hx with h | h
              · exact List.mem_of_mem_take h
              · exact List.mem_of_mem_drop h
            have := HM.out x hx'; unfold InI64; omega, rfl, ownsBase hown9 (Nat.le_trans hd7.bel.size (Nat.le_refl _)), hbelB⟩
          clear hnil hownA hownB hown9 hgA hgB hn1 hown0 hsA hbelA hbelB hloA
          go_wp2_with fail
          go_ret
          exact HF.out
        · have hcap2 : ¬ kx + 1 = c5 := fun e => hcap' e.symm
          go_wp2_with fail
          have hcut5 : ∀ w5 : World, (∀ b, b < w7.heap.size → b ≠ w7.heap.size → w5.heap[b]? = w7.heap[b]?) → ∀ j u, ((M.drop (kx + 1)).map (Value.int .i64))[j]? = some u → w5.cell? ((⟨g, kx + 1, none⟩ : Addr).add j) = some u := fun w5 hw5 j u hj => by
            rw [List.getElem?_map, List.getElem?_drop] at hj
            by_cases hj' : kx + 1 + j < M.length
            · rw [List.getElem?_eq_getElem hj'] at hj
              cases hj
              rw [Addr.add_mid]
              exact (World.cell?_of_block (a := ⟨g, kx + 1 + j, none⟩) (hw5 g hgl (by omega))).trans (HCY.out (kx + 1 + j) hj')
            · rw [List.getElem?_eq_none (by omega)] at hj; cases hj
          refine wp_region_held_drew (S := fun _ => True) (by kernel_rfl) trivial (fun hHeld => ?_)
          refine held_take 1 _ _ rfl (by kernel_rfl) (by kernel_rfl) (by kernel_rfl) (fun _ _ _ h => h) (by rfl) hHeld (fun w hSw => by (try dsimp only at hSw); go_simp; try with_reducible rfl) ?_
          (try simp only [Act.put, List.setIfInBounds_toArray, List.set_cons_zero, List.set_cons_succ, List.getElem_toArray, List.getElem_cons_succ, List.getElem_cons_zero])
          refine held_take 2 _ _ rfl (by kernel_rfl) (by kernel_rfl) (by kernel_rfl) (fun _ _ _ h => h) (by rfl) hHeld (fun w hSw => by (try dsimp only at hSw); go_simp; try with_reducible rfl) ?_
          (try simp only [Act.put, List.setIfInBounds_toArray, List.set_cons_zero, List.set_cons_succ, List.getElem_toArray, List.getElem_cons_succ, List.getElem_cons_zero])
          refine held_take 3 _ _ rfl (by kernel_rfl) (by kernel_rfl) (by kernel_rfl) (fun _ _ _ h => h) (by rfl) hHeld (fun w hSw => by (try dsimp only at hSw); go_simp; try with_reducible rfl) ?_
          (try simp only [Act.put, List.setIfInBounds_toArray, List.set_cons_zero, List.set_cons_succ, List.getElem_toArray, List.getElem_cons_succ, List.getElem_cons_zero])
          refine held_take 5 _ _ rfl (by kernel_rfl) (by kernel_rfl) (by kernel_rfl) (fun _ _ _ h => h) (by rfl) hHeld (fun w hSw => by (try dsimp only at hSw); go_simp; try with_reducible rfl) ?_
          (try simp only [Act.put, List.setIfInBounds_toArray, List.set_cons_zero, List.set_cons_succ, List.getElem_toArray, List.getElem_cons_succ, List.getElem_cons_zero])
          refine held_take 6 _ _ rfl (by kernel_rfl) (by kernel_rfl) (by kernel_rfl) (fun _ _ _ h => h) (by rfl) hHeld (fun w hSw => by (try dsimp only at hSw); go_simp; try with_reducible rfl) ?_
          (try simp only [Act.put, List.setIfInBounds_toArray, List.set_cons_zero, List.set_cons_succ, List.getElem_toArray, List.getElem_cons_succ, List.getElem_cons_zero])
          refine held_take 7 _ _ rfl (by kernel_rfl) (by kernel_rfl) (by kernel_rfl) (fun _ _ _ h => h) (by rfl) hHeld (fun w hSw => by (try dsimp only at hSw); go_simp; try with_reducible rfl) ?_
          (try simp only [Act.put, List.setIfInBounds_toArray, List.set_cons_zero, List.set_cons_succ, List.getElem_toArray, List.getElem_cons_succ, List.getElem_cons_zero])
          refine held_take 8 _ _ rfl (by kernel_rfl) (by kernel_rfl) (by kernel_rfl) (fun _ _ _ h => h) (by rfl) hHeld (fun w hSw => by (try dsimp only at hSw); go_simp; try with_reducible rfl) ?_
          (try simp only [Act.put, List.setIfInBounds_toArray, List.set_cons_zero, List.set_cons_succ, List.getElem_toArray, List.getElem_cons_succ, List.getElem_cons_zero])
          refine wpAnyH_ready (rs := [0]) (by kernel_rfl) (by simp) ?_
          refine AllReadyH.cons rfl (fun K hK => ?_) AllReadyH.nil
          rw [if_pos (by rfl)]
          go_wp2_with fail
          refine hK.out _ _ (trivial) (fun hHeld1 => ?_)
          clear hK K
          (try simp only [Act.put, List.setIfInBounds_toArray, List.set_cons_zero, List.set_cons_succ, List.getElem_toArray, List.getElem_cons_succ, List.getElem_cons_zero])
          refine wpAnyH_ready (rs := [4]) (by kernel_rfl) (by simp) ?_
          refine AllReadyH.cons rfl (fun K hK => ?_) AllReadyH.nil
          rw [if_pos (by rfl)]
          refine wp_append_own _ (.tmp 27) (.tmp 30) 24 (by rfl) w7.heap.size 3 i0 (Value.int .i64 0) 1 8 Try.underlying24 hi hz0 hz1 hzb rfl (by decide) (.slice (some ⟨w7.heap.size, 0, none⟩) 0 0) 0 [] (by rfl) hown0 ⟨g, 0, none⟩ kx _ ((M.take kx).map (Value.int .i64)) (by rfl) (by simp; try omega) hn1 (fun u hu => by first | cases hu | (obtain ⟨x, -, rfl⟩ := List.mem_map.1 hu; rfl)) (by unfold maxLen; omega) (by omega) (by first | omega | (show w7.heap.size ≤ (w7.alloc _).heap.size; simp)) ?_; intro v5 wa hownA hgA _
          have hsA : w7.heap.size + 1 ≤ wa.heap.size := by have h := hgA.size; have e : (w7.alloc (.cells #[] 3)).drew.heap.size = w7.heap.size + 1 := (by show (w7.alloc _).heap.size = _; simp); omega
          have hn2 := hcut5 wa (fun b hb hne => (hgA.block b (Nat.lt_of_lt_of_le hb (by show w7.heap.size ≤ (w7.alloc _).heap.size; simp)) (fun e => hne (Option.some.inj e))).trans (Below.heap_alloc w7 _ b hb))
          have hbelA : Below W.heap.size W wa := (hd7.bel.alloc hd7.bel.size (.cells #[] 3)).drew.grown hgA (by show W.heap.size ≤ (w7.alloc _).heap.size; exact Nat.le_trans hd7.bel.size (by simp)) (fun k hk => by have e : w7.heap.size = k := Option.some.inj hk; have := hd7.bel.size; omega)
          refine hK.out _ _ (trivial) (fun hHeld2 => ?_)
          clear hK K
          (try simp only [Act.put, List.setIfInBounds_toArray, List.set_cons_zero, List.set_cons_succ, List.getElem_toArray, List.getElem_cons_succ, List.getElem_cons_zero])
          refine wpAnyH_ready (rs := [9]) (by kernel_rfl) (by simp) ?_
          refine AllReadyH.cons rfl (fun K hK => ?_) AllReadyH.nil
          rw [if_pos (by rfl)]
          refine wp_append_own _ (.tmp 31) (.tmp 35) 24 (by rfl) w7.heap.size 3 i0 (Value.int .i64 0) 1 8 Try.underlying24 hi hz0 hz1 hzb rfl (by decide) v5 (0 + kx) ([] ++ (M.take kx).map (Value.int .i64)) (by rfl) hownA ⟨g, kx + 1, none⟩ (M.length - (kx + 1)) _ ((M.drop (kx + 1)).map (Value.int .i64)) (by rfl) (by simp; try omega) hn2 (fun u hu => by first | cases hu | (obtain ⟨x, -, rfl⟩ := List.mem_map.1 hu; rfl)) (by unfold maxLen; omega) (by omega) (by first | omega | (show w7.heap.size ≤ (w7.alloc _).heap.size; simp)) ?_; intro v6 wb hownB hgB _
          have hloA := hownA.lt
          have hbelB := hbelA.grown hgB hbelA.size (fun k hk => by have := (hloA k hk).1; have := hd7.bel.size; omega)
          refine hK.out _ _ (trivial) (fun hHeld3 => ?_)
          clear hK K
          (try simp only [Act.put, List.setIfInBounds_toArray, List.set_cons_zero, List.set_cons_succ, List.getElem_toArray, List.getElem_cons_succ, List.getElem_cons_zero])
          refine held_take 10 _ _ rfl (by kernel_rfl) (by kernel_rfl) (by kernel_rfl) (fun _ _ _ h => h) (by rfl) hHeld3 (fun w hSw => by (try dsimp only at hSw); go_simp; try with_reducible rfl) ?_
          (try simp only [Act.put, List.setIfInBounds_toArray, List.set_cons_zero, List.set_cons_succ, List.getElem_toArray, List.getElem_cons_succ, List.getElem_cons_zero])
          refine wpAnyH_done (by kernel_rfl) ?_ _
          have hown9 : wb.ownsRow w7.heap.size 3 1 v6 (M.take kx ++ M.drop (kx + 1)).length ((M.take kx ++ M.drop (kx + 1)).map (Value.int .i64)) := by
            have h := own_len8 hownB
            rw [List.nil_append, ← List.map_append] at h
            rwa [List.length_map] at h
          have HF : Hid (D1 201 InI64 W (.returned v6) wb) := Lib.hid ⟨M.take kx ++ M.drop (kx + 1), v6, by rw [List.length_append, List.length_take, List.length_drop]; omega, fun x hx => by
            have hx' : x ∈ M := by
              rcases List.mem_append.1 hx with h | h
              · exact List.mem_of_mem_take h
              · exact List.mem_of_mem_drop h
            have := HM.out x hx'; unfold InI64; omega, rfl, ownsBase hown9 (Nat.le_trans hd7.bel.size (Nat.le_refl _)), hbelB⟩
          clear hn2 hcut5 hownA hownB hown9 hgA hgB hn1 hown0 hsA hbelA hbelB hloA
          go_wp2_with fail
          go_ret
          exact HF.out
    · have hM1d : decide ((1 : Int) < (M.length : Int)) = false := decide_eq_false (by omega)
      have hM1e : decide (1 < M.length) = false := decide_eq_false (by omega)
      obtain ⟨a4, c4, rfl, -⟩ := row_open hown5
      clear hown5 hM1
      go_wp2_with fail
      go_ret
      exact HD.out
  · go_wp2_with fail
    refine (l1Once_dr hd5 3 (by decide)).mono ?_
    rintro e w6 ⟨b6, rfl, hd6, hg6⟩
    have hown6 := row_kept hown5 (fun j hj => hg6.block j (hown5.lt j hj).2 (fun e => by injection e with e; have := (hown5.lt j hj).1; omega))
    have hz6 := hg6.size
    clear HD hd5 hg6 hown5
    cases b6
    · have HD : Hid (D1 201 InI64 W (.returned v4) w6) := Lib.hid ⟨M, v4, by omega, fun x hx => by have := HM.out x hx; unfold InI64; omega, rfl, ownsBase hown6 hWb, hd6.bel⟩
      clear hown6
      go_wp2_with fail
      go_ret
      exact HD.out
    · have hd6a := hd6.alloc (.cells #[.int .i64 0, .int .i64 200, .int .i64 199] 3)
      have hN6 := hd6.lt
      have hcp : ∀ (i : Nat) (u : Value), (pick8.map (Value.int .i64))[i]? = some u → (w6.alloc (.cells #[.int .i64 0, .int .i64 200, .int .i64 199] 3)).cell? ⟨w6.heap.size, i, none⟩ = some u := fun i u h => ((Arr.new w6 3 (pick8.map (Value.int .i64))).cell i).trans h
      have cpk := l1PickInt_dr hd6a pick8 w6.heap.size 3 (by decide) (by decide) (by simp) (by omega) hcp
      rw [show pick8.length = 3 from rfl] at cpk
      have hown6a := hown6.alloc (.cells #[.int .i64 0, .int .i64 200, .int .i64 199] 3)
      clear hcp hown6
      go_wp2_with fail
      refine cpk.mono ?_
      rintro e w7 ⟨y, hy, rfl, hd7, hg7⟩
      have hy64 := pick8_in y hy
      have hown7 := row_kept hown6a (fun j hj => hg7.block j (hown6a.lt j hj).2 (fun e => by injection e with e; have := (hown6a.lt j hj).1; omega))
      have hz7 := hg7.size
      rw [World.size_alloc] at hz7
      clear cpk hy hg7 hown6a hd6a hd6
      generalize hMLe : M.length = ML at *
      have HL2 := Lib.hid hMLe
      have hmm : (M.map (Value.int .i64)).length = ML := by rw [List.length_map, hMLe]
      go_wp2_with (first
        | (at_builtin; (refine wpList_append_own _ rfl (.tmp 41) (.tmp 45) 24 rfl w3.heap.size 3 i0 (Value.int .i64 0) 1 8 Try.underlying24 hi hz0 hz1 hzb rfl (by decide) _ _ _ rfl (hown7.alloc _) ⟨_, 0, none⟩ 1 1 [.int .i64 y] rfl rfl (World.news_of_block (cs := #[.int .i64 y]) (t := 3) (fr := (0, 0)) (heap_alloc_new _ _)) (by simp [Value.oneCell']) (by unfold maxLen; omega) (by omega) (by simp; omega) ?_); intro v8 w8 hown8 hg8 hx8; clear hx8))
      have HF : Hid (D1 201 InI64 W (.returned v8) w8) := Lib.hid ⟨M ++ [y], _, by rw [List.length_append, List.length_singleton, HL2.out]; omega, fun x hx => by
        rcases List.mem_append.1 hx with h | h
        · have := HM.out x h; unfold InI64; omega
        · rw [List.mem_singleton.1 h]; exact hy64, rfl, by rw [List.length_append, List.length_singleton, HL2.out, List.map_append]; exact ownsBase hown8 hWb, (hd7.bel.alloc hd7.bel.size _).grown hg8 (by have := hd7.bel.size; simp; omega) (fun j hj => by have := (hown7.lt j hj).1; omega)⟩
      clear hown8 hg8 hown7
      go_wp2_with fail
      go_ret
      exact HF.out
  · clear hown5
    go_wp2_with fail
    go_ret
    exact HD.out
set_option maxRecDepth 100000 in
set_option maxHeartbeats 1600000 in
theorem DrawFromGaps_any (W : World) (a : Option Addr) (len cap : Nat) (zs : List Int) (hr : IsRow .u8 W a len cap zs) (hl : len ≤ 1048576) :
    Calls Try.prog 25 #[.slice a len cap] W (D1 201 InI64 W) := by
  have c := l8List_any W a len cap zs hr hl
  go_enter Try.func25, Try.ntmps25
  go_wp2_with fail
  refine c.mono ?_
  rintro e w1 h
  obtain ⟨L, v, h1, h2, rfl, h4, h5⟩ := h
  have HO := Lib.hid h4
  clear h4 c
  go_wp2_with fail
  go_ret
  exact ⟨L, v, h1, h2, rfl, HO.out, h5⟩
end Go.Proofs.Ytgkkkmcgnpdchaa
