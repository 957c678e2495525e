/-
  CHAPTER 6 OF THE REFERENCE: FromApery. (Own work.)
-/
import Derived.Test.YtgkkkmcgnpdchaaL19
namespace Go.Proofs.Ytgkkkmcgnpdchaa
open Go Go.RowKit

set_option maxRecDepth 100000 in
set_option maxHeartbeats 3200000 in
theorem spec_l6Minimal (G : List Int) (a : Option Addr) (cap : Nat) (w : World) (hr : SlV w a (G.map (Value.int .i64))) (hG : ∀ x ∈ G, 1 ≤ x ∧ x ≤ 260) (hl2 : G.length ≤ 60) :
    Calls Try.prog 90 #[.slice a G.length cap] w (SlPost (minL G) w) := by
  obtain ⟨i0, hi, hz0, hz1, hz2⟩ := info_parts infoIntL
  have hown0 : (w.alloc (.cells #[] 3)).ownsRow w.heap.size 3 1 (.slice (some ⟨w.heap.size, 0, none⟩) 0 0) 0 [] := World.ownsRow_lit w #[] 0 (Nat.le_refl _) (by simp) rfl
  have hbel0 : Below w.heap.size w (w.alloc (.cells #[] 3)) := (Below.refl _ _).alloc (Nat.le_refl _) _
  have c1 := spec_SortList G a cap _ (hr.below hbel0) (by omega)
  have hm : minL G = minOf (sortL G) := rfl
  have hSl := sortL_length_le G
  have hSa := (sortL_spec G).1
  have hSb : ∀ x ∈ sortL G, 1 ≤ x ∧ x ≤ 260 := fun x hx => hG x (((sortL_spec G).2 x).1 hx)
  clear hr hG
  go_enter Try.func90, Try.ntmps90
  go_wp2_with fail
  refine c1.mono ?_
  rintro e w1 ⟨g1, k1, rfl, ho1, hb1⟩
  have hown1 := owns_below hown0 hb1
  have hbel1 := hbel0.trans (hb1.mono hbel0.size)
  obtain ⟨a1, c1', e1, -, -, hs1, -⟩ := SlV.of_owns ho1
  cases e1
  have hg1 := (owns_facts ho1).1
  have hk1 := (owns_facts ho1).2.2.1
  have hgl := (owns_facts ho1).2.1
  have HM := Lib.hid hm
  have HA := Lib.hid hSa
  have HB := Lib.hid hSb
  clear c1 ho1 hb1 hown0 hbel0 hm hSa hSb
  generalize sortL G = S at *
  go_wp2_with fail
  go_loopw [3, 5] (fun v i wr => ∃ (k q c : Nat) (M : List Int), k ≤ S.length ∧ i = .int .i64 (k : Int) ∧ M = ((S.take k).filter fun x => !sumB (S.filter fun y => decide (y < x)) x.toNat) ∧ M.length ≤ k ∧ v = .slice (some ⟨q, 0, none⟩) M.length c ∧
      wr.ownsRow w.heap.size 3 1 (.slice (some ⟨q, 0, none⟩) M.length c) M.length (M.map (Value.int .i64)) ∧ q ≠ g1 ∧ SlV wr (some ⟨g1, 0, none⟩) (S.map (Value.int .i64)) ∧ g1 < wr.heap.size ∧ Below w.heap.size w wr) (fun _ i _ => S.length - (intOf i).toNat)
  case atStart => exact ⟨0, w.heap.size, 0, [], Nat.zero_le _, rfl, by simp, by simp, rfl, hown1, by simp at hg1; omega, hs1, hgl, hbel1⟩
  case round =>
    clear hown1 hs1 hbel1 hgl
    obtain ⟨k, q, c, M, hk, rfl, hMe, hMk, rfl, hown, hne, hs, hgl, hbel⟩ := hrel
    have HMe := Lib.hid hMe
    clear hMe
    by_cases hlt : k < S.length
    · obtain ⟨b, off, e2, hbs, hc⟩ := hs.open (by intro h; rw [List.map_eq_nil_iff] at h; subst h; simp at hlt)
      cases e2
      have hcell : wr.cell? ⟨g1, k, none⟩ = some (.int .i64 S[k]) := by have := hc k (.int .i64 S[k]) (by simp [hlt]); simpa using this
      obtain ⟨X, hX⟩ : ∃ X : Nat, S[k] = (X : Int) := ⟨(S[k]).toNat, by have := HB.out S[k] (List.getElem_mem hlt); omega⟩
      have hXb := HB.out S[k] (List.getElem_mem hlt)
      have hstep := minOf_take HA.out k hlt
      rw [← HMe.out, hX, Int.toNat_natCast] at hstep
      rw [hX] at hcell hXb
      have HP := Lib.hid hstep
      have hsz := hbel.size
      have hk3 : (0 : Int) ≤ (k : Int) := by omega
      have hk4 : (k : Int) < (S.length : Int) := by omega
      clear hc hstep hX
      by_cases hk0 : k = 0
      · subst hk0
        have HMN : Hid (M ++ [(X : Int)] = (S.take (0 + 1)).filter fun x => !sumB (S.filter fun y => decide (y < x)) x.toNat) := Lib.hid (by
          rw [HP.out, if_neg]
          rw [List.take_zero, sumB_iff]
          intro h
          have := isSum_nil h
          omega)
        have hsz2 := hsz
        go_wp2_with fail
        go_quiet (fail)
        have hbelq := below_drewN hbel nq
        have hownq : (wr.drewN nq).ownsRow w.heap.size 3 1 (.slice (some ⟨q, 0, none⟩) M.length c) M.length (M.map (Value.int .i64)) := hown
        have hsq : SlV (wr.drewN nq) (some ⟨g1, 0, none⟩) (S.map (Value.int .i64)) := hs
        clear hown hs
        go_wp2_with (at_builtin; refine wpList_append_lies _ rfl _ _ 24 rfl w.heap.size 3 i0 (Value.int .i64 0) 1 8 Try.underlying24 hi hz0 hz1 hz2 rfl (by decide) (.slice (some ⟨q, 0, none⟩) M.length c) M.length (M.map (Value.int .i64)) rfl (hownq.alloc _) ⟨(wr.drewN nq).heap.size, 0, none⟩ 1 1 [.int .i64 (X : Int)] rfl rfl (World.news_of_block (cs := #[.int .i64 (X : Int)]) (t := 3) (fr := (0, 0)) (heap_alloc_new (wr.drewN nq) _)) (by simp [Value.oneCell']) (by omega) (by unfold maxLen; omega) (by omega) (by simp; omega) _ rfl ?_; intro q3 c3 w3 hown3 hgr3 hat3 hlt3)
        have hb3 := (hbelq.alloc hsz2 _).grown hgr3 (by simp; omega) (fun j hj => by simp [Value.ownBlock] at hj; have := (owns_facts hownq).1; omega)
        have hblk : w3.heap[g1]? = (wr.drewN nq).heap[g1]? := (hgr3.block g1 (by simp; omega) (by simp [Value.ownBlock]; omega)).trans (Below.heap_alloc (wr.drewN nq) _ g1 hgl)
        have hs3 := slv_block hsq hblk (by have := hgr3.size; simp at this; omega)
        have hgl3 : g1 < w3.heap.size := by have := hgr3.size; simp at this; omega
        have hq3 : q3 ≠ g1 := by
          rcases hat3 with h | h
          · simp [Value.ownBlock] at h; omega
          · simp at h; omega
        have HO := Lib.hid hown3
        have HS3 := Lib.hid hs3
        clear hown3 hs3 hownq hgr3 hblk
        go_wp2_with fail
        go_roundw
        case rel => exact ⟨0 + 1, q3, c3, M ++ [(X : Int)], by omega, by go_num, by rw [HMN.out], by rw [List.length_append, List.length_singleton]; omega, by rw [List.length_append, List.length_singleton], by have := HO.out; simpa using this, hq3, HS3.out, hgl3, hb3⟩
        case measure => simp [intOf]; omega
      · have htl : (S.take k).length = k := by rw [List.length_take]; omega
        have ct := fun wq (hq : SlV wq (some ⟨g1, 0, none⟩) (S.map (Value.int .i64))) => spec_l3Table (S.take k) (some ⟨g1, 0, none⟩) k1 X wq (by rw [List.map_take]; exact hq.take k) (by omega) (fun x hx => (HB.out x (List.mem_of_mem_take hx)).1) (by omega)
        rw [htl] at ct
        have hkb : ((k : Int) == 0) = false := by rw [beq_eq_false_iff_ne]; omega
        have ct2 : ∀ w', (w'.cell? ⟨g1, k, none⟩ = some (.int .i64 (X : Int)) ∧ Below wr.heap.size wr w') → Calls Try.prog 74 #[.slice (some ⟨g1, 0, none⟩) k k1, .int .i64 (X : Int)] w' fun e w2 => ∃ v, e = .returned v ∧ w2.ownsRow w'.heap.size 4 1 v (X + 1) (tabL (S.take k) (X + 1)) ∧ Below w'.heap.size w' w2 := fun w' h => ct w' (hs.below h.2)
        have hk2 : (k : Int) ≤ (k1 : Int) := by omega
        have hX0 : (0 : Int) ≤ (X : Int) := by omega
        have hX1 : (X : Int) < (X : Int) + 1 := by omega
        have h0 : Hid (wr.cell? ⟨g1, k, none⟩ = some (.int .i64 (X : Int)) ∧ Below wr.heap.size wr wr.drew) := Lib.hid ⟨hcell, (Below.refl _ _).drew⟩
        clear ct hcell htl
        go_wp2_with fail
        refine wp_region_held_drew (S := fun w' => w'.cell? ⟨g1, k, none⟩ = some (.int .i64 (X : Int)) ∧ Below wr.heap.size wr w') (by kernel_rfl) h0.out (fun hHeld => ?_)
        refine held_take 0 _ _ rfl (by kernel_rfl) (by kernel_rfl) (by kernel_rfl) (fun _ _ _ h => h) (by rfl) hHeld (fun w hSw => by (try dsimp only at hSw); go_simp; try with_reducible rfl) ?_
        (try simp only [Act.put, List.setIfInBounds_toArray, List.set_cons_zero, List.set_cons_succ, List.getElem_toArray, List.getElem_cons_zero])
        refine held_take 1 _ _ rfl (by kernel_rfl) (by kernel_rfl) (by kernel_rfl) (fun _ _ _ h => h) (by rfl) hHeld (fun w hSw => by (try dsimp only at hSw); go_simp; try with_reducible rfl) ?_
        (try simp only [Act.put, List.setIfInBounds_toArray, List.set_cons_zero, List.set_cons_succ, List.getElem_toArray, List.getElem_cons_succ, List.getElem_cons_zero])
        refine held_take 2 _ _ rfl (by kernel_rfl) (by kernel_rfl) (by kernel_rfl) (fun _ _ _ h => h) (by rfl) hHeld (fun w hSw => by (try dsimp only at hSw); go_simp; try with_reducible rfl) ?_
        (try simp only [Act.put, List.setIfInBounds_toArray, List.set_cons_zero, List.set_cons_succ, List.getElem_toArray, List.getElem_cons_succ, List.getElem_cons_zero])
        refine held_take 3 _ _ rfl (by kernel_rfl) (by kernel_rfl) (by kernel_rfl) (fun _ _ _ h => h) (by rfl) hHeld (fun w hSw => by (try dsimp only at hSw); go_simp; try with_reducible rfl) ?_
        (try simp only [Act.put, List.setIfInBounds_toArray, List.set_cons_zero, List.set_cons_succ, List.getElem_toArray, List.getElem_cons_succ, List.getElem_cons_zero])
        refine held_take 4 _ _ rfl (by kernel_rfl) (by kernel_rfl) (by kernel_rfl) (fun _ _ _ h => h) (by rfl) hHeld (fun w hSw => by (try dsimp only at hSw); go_simp; try with_reducible rfl) ?_
        (try simp only [Act.put, List.setIfInBounds_toArray, List.set_cons_zero, List.set_cons_succ, List.getElem_toArray, List.getElem_cons_succ, List.getElem_cons_zero])
        refine held_take 5 _ _ rfl (by kernel_rfl) (by kernel_rfl) (by kernel_rfl) (fun _ _ _ h => h) (by rfl) hHeld (fun w hSw => by (try dsimp only at hSw); go_simp; try with_reducible rfl) ?_
        (try simp only [Act.put, List.setIfInBounds_toArray, List.set_cons_zero, List.set_cons_succ, List.getElem_toArray, List.getElem_cons_succ, List.getElem_cons_zero])
        refine held_take 6 _ _ rfl (by kernel_rfl) (by kernel_rfl) (by kernel_rfl) (fun _ _ _ h => h) (by rfl) hHeld (fun w hSw => by (try dsimp only at hSw); go_simp; try with_reducible rfl) ?_
        (try simp only [Act.put, List.setIfInBounds_toArray, List.set_cons_zero, List.set_cons_succ, List.getElem_toArray, List.getElem_cons_succ, List.getElem_cons_zero])
        refine held_take 7 _ _ rfl (by kernel_rfl) (by kernel_rfl) (by kernel_rfl) (fun _ _ _ h => h) (by rfl) hHeld (fun w hSw => by (try dsimp only at hSw); go_simp; try with_reducible rfl) ?_
        (try simp only [Act.put, List.setIfInBounds_toArray, List.set_cons_zero, List.set_cons_succ, List.getElem_toArray, List.getElem_cons_succ, List.getElem_cons_zero])
        refine held_take 8 _ _ rfl (by kernel_rfl) (by kernel_rfl) (by kernel_rfl) (fun _ _ _ h => h) (by rfl) hHeld (fun w hSw => by (try dsimp only at hSw); go_simp; try with_reducible rfl) ?_
        (try simp only [Act.put, List.setIfInBounds_toArray, List.set_cons_zero, List.set_cons_succ, List.getElem_toArray, List.getElem_cons_succ, List.getElem_cons_zero])
        refine held_take 9 _ _ rfl (by kernel_rfl) (by kernel_rfl) (by kernel_rfl) (fun _ _ _ h => h) (by rfl) hHeld (fun w hSw => by (try dsimp only at hSw); go_simp; try with_reducible rfl) ?_
        (try simp only [Act.put, List.setIfInBounds_toArray, List.set_cons_zero, List.set_cons_succ, List.getElem_toArray, List.getElem_cons_succ, List.getElem_cons_zero])
        refine held_take 11 _ _ rfl (by kernel_rfl) (by kernel_rfl) (by kernel_rfl) (fun _ _ _ h => h) (by rfl) hHeld (fun w hSw => by (try dsimp only at hSw); go_simp; try with_reducible rfl) ?_
        (try simp only [Act.put, List.setIfInBounds_toArray, List.set_cons_zero, List.set_cons_succ, List.getElem_toArray, List.getElem_cons_succ, List.getElem_cons_zero])
        refine held_take 12 _ _ rfl (by kernel_rfl) (by kernel_rfl) (by kernel_rfl) (fun _ _ _ h => h) (by rfl) hHeld (fun w hSw => by (try dsimp only at hSw); go_simp; try with_reducible rfl) ?_
        (try simp only [Act.put, List.setIfInBounds_toArray, List.set_cons_zero, List.set_cons_succ, List.getElem_toArray, List.getElem_cons_succ, List.getElem_cons_zero])
        refine held_take 13 _ _ rfl (by kernel_rfl) (by kernel_rfl) (by kernel_rfl) (fun _ _ _ h => h) (by rfl) hHeld (fun w hSw => by (try dsimp only at hSw); go_simp; try with_reducible rfl) ?_
        (try simp only [Act.put, List.setIfInBounds_toArray, List.set_cons_zero, List.set_cons_succ, List.getElem_toArray, List.getElem_cons_succ, List.getElem_cons_zero])
        refine held_take 14 _ _ rfl (by kernel_rfl) (by kernel_rfl) (by kernel_rfl) (fun _ _ _ h => h) (by rfl) hHeld (fun w hSw => by (try dsimp only at hSw); go_simp; try with_reducible rfl) ?_
        (try simp only [Act.put, List.setIfInBounds_toArray, List.set_cons_zero, List.set_cons_succ, List.getElem_toArray, List.getElem_cons_succ, List.getElem_cons_zero])
        refine wpAnyH_ready (rs := [10]) (by kernel_rfl) (by simp) ?_
        refine AllReadyH.cons rfl (fun K hK => ?_) AllReadyH.nil
        rw [if_pos (by rfl)]
        go_wp2_with (first | (go_at_call 74; (with_reducible refine (ct2 _ hHeld).mono ?_); rintro e w2 ⟨v, rfl, ho, hb2⟩; obtain ⟨g, cg, rfl, ht⟩ := tab_last ho; have hT := ht X (Nat.le_refl _); clear ht ho))
        refine hK.out _ _ (held_keep hgl hHeld hb2) (fun hHeld2 => ?_)
        clear hK K
        (try simp only [Act.put, List.setIfInBounds_toArray, List.set_cons_zero, List.set_cons_succ, List.getElem_toArray, List.getElem_cons_succ, List.getElem_cons_zero])
        refine held_take 15 _ _ rfl (by kernel_rfl) (by kernel_rfl) (by kernel_rfl) (fun _ _ _ h => h) (by rfl) hHeld2 (fun w hSw => by (try dsimp only at hSw); go_simp; try with_reducible rfl) ?_
        (try simp only [Act.put, List.setIfInBounds_toArray, List.set_cons_zero, List.set_cons_succ, List.getElem_toArray, List.getElem_cons_succ, List.getElem_cons_zero])
        refine wpAnyH_ready (rs := [16]) (by kernel_rfl) (by simp) ?_
        refine AllReadyH.cons rfl (fun K hK => ?_) AllReadyH.nil
        rw [if_pos (by rfl)]
        go_wp2_with fail
        refine hK.out _ _ hHeld2 (fun hHeld3 => ?_)
        clear hK K
        (try simp only [Act.put, List.setIfInBounds_toArray, List.set_cons_zero, List.set_cons_succ, List.getElem_toArray, List.getElem_cons_succ, List.getElem_cons_zero])
        refine held_take 17 _ _ rfl (by kernel_rfl) (by kernel_rfl) (by kernel_rfl) (fun _ _ _ h => h) (by rfl) hHeld3 (fun w hSw => by (try dsimp only at hSw); go_simp; try with_reducible rfl) ?_
        (try simp only [Act.put, List.setIfInBounds_toArray, List.set_cons_zero, List.set_cons_succ, List.getElem_toArray, List.getElem_cons_succ, List.getElem_cons_zero])
        refine held_take 18 _ _ rfl (by kernel_rfl) (by kernel_rfl) (by kernel_rfl) (fun _ _ _ h => h) (by rfl) hHeld3 (fun w hSw => by (try dsimp only at hSw); go_simp; try with_reducible rfl) ?_
        (try simp only [Act.put, List.setIfInBounds_toArray, List.set_cons_zero, List.set_cons_succ, List.getElem_toArray, List.getElem_cons_succ, List.getElem_cons_zero])
        refine wpAnyH_done (by kernel_rfl) ?_ _
        have hsz2 := Nat.le_trans hsz hHeld3.2.size
        have hbel2 := hbel.trans (hHeld3.2.mono hsz)
        have hown2 := owns_below hown hHeld3.2
        have hs2 := hs.below hHeld3.2
        have hgl2 := Nat.lt_of_lt_of_le hgl hHeld3.2.size
        have hcell := hHeld3.1
        clear hHeld hHeld2 hHeld3 ct2 h0 hT hown hs
        generalize sumB (S.take k) X = bX at *
        cases bX
        · have HMN : Hid (M ++ [(X : Int)] = (S.take (k + 1)).filter fun x => !sumB (S.filter fun y => decide (y < x)) x.toNat) := Lib.hid (by rw [HP.out]; rfl)
          go_wp2_with (at_builtin; refine wpList_append_lies _ rfl _ _ 24 rfl w.heap.size 3 i0 (Value.int .i64 0) 1 8 Try.underlying24 hi hz0 hz1 hz2 rfl (by decide) (.slice (some ⟨q, 0, none⟩) M.length c) M.length (M.map (Value.int .i64)) rfl (hown2.alloc _) ⟨w2.heap.size, 0, none⟩ 1 1 [.int .i64 (X : Int)] rfl rfl (World.news_of_block (cs := #[.int .i64 (X : Int)]) (t := 3) (fr := (0, 0)) (heap_alloc_new w2 _)) (by simp [Value.oneCell']) (by omega) (by unfold maxLen; omega) (by omega) (by simp; omega) _ rfl ?_; intro q3 c3 w3 hown3 hgr3 hat3 hlt3)
          have hb3 := (hbel2.alloc hsz2 _).grown hgr3 (by simp; omega) (fun j hj => by simp [Value.ownBlock] at hj; have := (owns_facts hown2).1; omega)
          have hblk : w3.heap[g1]? = w2.heap[g1]? := (hgr3.block g1 (by simp; omega) (by simp [Value.ownBlock]; omega)).trans (Below.heap_alloc w2 _ g1 hgl2)
          have hs3 := slv_block hs2 hblk (by have := hgr3.size; simp at this; omega)
          have hgl3 : g1 < w3.heap.size := by have := hgr3.size; simp at this; omega
          have hq3 : q3 ≠ g1 := by
            rcases hat3 with h | h
            · simp [Value.ownBlock] at h; omega
            · simp at h; omega
          have HO := Lib.hid hown3
          have HS3 := Lib.hid hs3
          clear hown3 hs3 hown2 hgr3 hblk
          go_wp2_with fail
          go_roundw
          case rel => exact ⟨k + 1, q3, c3, M ++ [(X : Int)], by omega, by go_num, by rw [HMN.out], by rw [List.length_append, List.length_singleton]; omega, by rw [List.length_append, List.length_singleton], by have := HO.out; simpa using this, hq3, HS3.out, hgl3, hb3⟩
          case measure => simp [intOf]; omega
        · have HMN : Hid (M = (S.take (k + 1)).filter fun x => !sumB (S.filter fun y => decide (y < x)) x.toNat) := Lib.hid (by rw [HP.out]; simp)
          have HO := Lib.hid hown2
          have HS := Lib.hid hs2
          clear hown2 hs2
          go_wp2_with fail
          go_roundw
          case rel => exact ⟨k + 1, q, c, M, by omega, by go_num, HMN.out, by omega, rfl, HO.out, hne, HS.out, hgl2, hbel2⟩
          case measure => simp [intOf]; omega
    · obtain rfl : k = S.length := by omega
      have HE : Hid (minL G = M) := Lib.hid (by rw [HM.out, HMe.out, List.take_of_length_le (Nat.le_refl _)]; rfl)
      clear hs
      go_wp2_with fail
      go_ret
      exact ⟨_, rfl, by rw [HE.out]; exact hown, hbel⟩
theorem apGens_take (l : List Int) (k : Nat) (hk : k + 1 < l.length) : (apGens l).take (k + 1 + 1) = (apGens l).take (k + 1) ++ [l[k + 1]] := by
  have hl : k + 1 < (apGens l).length := by unfold apGens; simp; omega
  have he : (apGens l)[k + 1]'hl = l[k + 1] := by
    show ((l.length : Int) :: l.tail)[k + 1]'(by simp; omega) = l[k + 1]
    rw [List.getElem_cons_succ, List.getElem_tail]
  rw [List.take_add_one, List.getElem?_eq_getElem hl, he]
  rfl
theorem apGens_length {l : List Int} (h : 1 ≤ l.length) : (apGens l).length = l.length := by unfold apGens; simp; omega
theorem fromAp_len {l : List Int} (h : inB (l.length : Int) 1 60 = false) : fromApB l = false := by unfold fromApB; rw [h]; rfl
theorem fromAp_bad {l : List Int} (k : Nat) (hk : k + 1 < l.length) (h : inB l[k + 1] 1 260 = false) : fromApB l = false := by
  have : apTail l = false := by
    rw [Bool.eq_false_iff]
    intro ht
    have h1 := List.all_eq_true.1 ht l[k + 1] (by
      have h2 : k < l.tail.length := by rw [List.length_tail]; omega
      have : l.tail[k] = l[k + 1] := by rw [List.getElem_tail]
      rw [← this]; exact List.getElem_mem h2)
    rw [h] at h1; cases h1
  unfold fromApB; rw [this, Bool.and_false, Bool.false_and]
theorem apGens_ok {l : List Int} (h : 1 ≤ (l.length : Int) ∧ (l.length : Int) ≤ 60) (ht : ∀ k (hk : k + 1 < l.length), inB l[k + 1] 1 260 = true) : ∀ x ∈ apGens l, 1 ≤ x ∧ x ≤ 260 := by
  intro x hx
  unfold apGens at hx
  rcases List.mem_cons.1 hx with rfl | hx
  · omega
  · obtain ⟨i, hi, e⟩ := List.getElem_of_mem hx
    rw [List.getElem_tail] at e
    rw [List.length_tail] at hi
    have := inB_iff.1 (ht i (by omega))
    rw [e] at this
    exact this
theorem fromAp_same {l : List Int} (h : inB (l.length : Int) 1 60 = true) (ht : ∀ k (hk : k + 1 < l.length), inB l[k + 1] 1 260 = true) : fromApB l = decide (aperyL (minL (apGens l)) (l.length : Int) = l) := by
  have : apTail l = true := List.all_eq_true.2 fun x hx => by
    obtain ⟨i, hi, e⟩ := List.getElem_of_mem hx
    rw [List.getElem_tail] at e
    rw [List.length_tail] at hi
    rw [← e]; exact ht i (by omega)
  unfold fromApB; rw [h, this]; rfl

set_option maxRecDepth 100000 in
set_option maxHeartbeats 3200000 in
theorem spec_FromApery (L : List Int) (a : Option Addr) (cap : Nat) (w : World) (hr : SlV w a (L.map (Value.int .i64))) (hb : L.length ≤ 1048576) :
    Calls Try.prog 54 #[.slice a L.length cap] w (SgPost (fromApL L) (fromApB L) w) := by
  obtain ⟨i0, hi, hz0, hz1, hz2⟩ := info_parts infoIntL
  have hb0 := box_below w (.cells #[.slice none 0 0] 26)
  have hA0 := Arr.new w 26 [.slice none 0 0]
  have hsz : w.heap.size < (w.alloc (.cells #[.slice none 0 0] 26)).heap.size := by simp
  have c1 := l1In_any (L.length : Int) 1 60 (w.alloc (.cells #[.slice none 0 0] 26))
  cases hin : inB (L.length : Int) 1 60
  · have HR := Lib.hid (fromAp_len hin)
    rw [hin] at c1
    clear hr hin
    go_enter Try.func54, Try.ntmps54
    go_wp2_with fail
    refine c1.mono ?_
    rintro e w1 ⟨rfl, rfl⟩
    have hcf := hA0.cell 0
    go_wp2_with fail
    exact bodyPost_ret (v := .tuple #[.agg #[.slice none 0 0], .bool false]) (by simp [results, Try.results54, go_sem]) rfl ⟨_, by rw [HR.out], by rw [fromApL_no HR.out]; exact World.ownsRow_nil _ _ _ _, hb0⟩
  · rw [hin] at c1
    have hbn := inB_iff.1 hin
    have HIN := Lib.hid hin
    have ci := fun x w => l1In_any x 1 260 w
    obtain ⟨W0, hW0⟩ : ∃ W0, W0 = w.alloc (.cells #[.slice none 0 0] 26) := ⟨_, rfl⟩
    rw [← hW0] at hb0 hA0 hsz c1
    have HW0 := Lib.hid hW0
    have hown0 : (W0.alloc (.cells #[.int .i64 (L.length : Int)] 3)).ownsRow W0.heap.size 3 1 (.slice (some ⟨W0.heap.size, 0, none⟩) 1 1) 1 [.int .i64 (L.length : Int)] := World.ownsRow_lit W0 #[.int .i64 (L.length : Int)] 1 (Nat.le_refl _) (by unfold maxLen; omega) rfl
    have hbel0 := hb0.alloc (o := .cells #[.int .i64 (L.length : Int)] 3) hb0.size
    have hA1 := hA0.alloc (.cells #[.int .i64 (L.length : Int)] 3)
    clear hW0 hin
    go_enter Try.func54, Try.ntmps54
    go_wp2_with fail
    rw [← HW0.out]
    refine c1.mono ?_
    rintro e w1 ⟨rfl, hw1⟩
    subst hw1
    clear c1
    go_wp2_with fail
    have hrW := hr.below hb0
    have HRW := Lib.hid hrW
    have hw1z : w.heap.size + 1 ≤ w1.heap.size := hsz
    clear hr hrW
    go_loopw [5, 6] (fun v i wr => ∃ k : Nat, k + 1 ≤ L.length ∧ i = .int .i64 ((k + 1 : Nat) : Int) ∧ wr.ownsRow w1.heap.size 3 1 v (k + 1) (((apGens L).take (k + 1)).map (Value.int .i64)) ∧ Hid (∀ j, j < k → ∀ hj : j + 1 < L.length, inB L[j + 1] 1 260 = true) ∧
        Arr wr w.heap.size 26 [.slice none 0 0] ∧ w1.heap.size ≤ wr.heap.size ∧ Below w1.heap.size w1 wr) (fun _ i _ => L.length - (intOf i).toNat)
    case atStart => exact ⟨0, by omega, rfl, hown0, Lib.hid (fun j hj => by omega), hA1, by simp, box_below _ _⟩
    case round =>
      clear hown0 hbel0 hA1 hA0
      obtain ⟨k, hk, rfl, hown, HALL, hA, hsz2, hbel⟩ := hrel
      have hbw := hb0.trans (hbel.mono hb0.size)
      by_cases hlt : k + 1 < L.length
      · obtain ⟨b, off, rfl, hbs, hc⟩ := (HRW.out.below hbel).open (by intro h; rw [List.map_eq_nil_iff] at h; subst h; simp at hlt)
        have hcell : wr.cell? ⟨b, off + (k + 1), none⟩ = some (.int .i64 L[k + 1]) := hc (k + 1) _ (by simp [hlt])
        have hx0 : (0 : Int) ≤ ((k + 1 : Nat) : Int) := by omega
        have hx1 : ((k + 1 : Nat) : Int) < (L.length : Int) := by omega
        have cx := ci L[k + 1]
        clear hc
        cases hq : inB L[k + 1] 1 260
        · have HR := Lib.hid (fromAp_bad k hlt hq)
          rw [hq] at cx
          clear hq ci
          generalize L[k + 1] = x at *
          have hc0 := hA.cell 0
          have hf0 := hA.frozen 0
          go_wp2_with fail
          refine (cx _).mono ?_
          rintro e w' ⟨rfl, rfl⟩
          go_wp2_with fail
          have hcf := World.cell?_setCell_same w' ⟨w.heap.size, 0, none⟩ (.slice none 0 0) hc0
          exact bodyPost_ret (v := .tuple #[.agg #[.slice none 0 0], .bool false]) (by simp [results, Try.results54, go_sem, hcf]) rfl ⟨_, by rw [HR.out], by rw [fromApL_no HR.out]; exact World.ownsRow_nil _ _ _ _, hbw.setCell (p := ⟨w.heap.size, 0, none⟩) (Nat.le_refl _) _⟩
        · have HT := Lib.hid (apGens_take L k hlt)
          have HALL2 : Hid (∀ j, j < k + 1 → ∀ hj : j + 1 < L.length, inB L[j + 1] 1 260 = true) := Lib.hid fun j hj hj2 => by
            rcases Nat.lt_or_ge j k with h | h
            · exact HALL.out j h hj2
            · obtain rfl : j = k := by omega
              exact hq
          rw [hq] at cx
          have hlenT : ((apGens L).take (k + 1)).length ≤ 60 := by rw [List.length_take]; omega
          clear hq HALL
          generalize hX : L[k + 1] = x at *
          go_wp2_with fail
          refine (cx _).mono ?_
          rintro e w' ⟨rfl, rfl⟩
          go_wp2_with (first
            | (at_builtin; refine wpList_append_own _ rfl (.tmp 28) (.tmp 33) 24 rfl w1.heap.size 3 i0 (Value.int .i64 0) 1 8 Try.underlying24 hi hz0 hz1 hz2 rfl (by decide) _ _ _ rfl (hown.alloc _) ⟨_, 0, none⟩ 1 1 [.int .i64 x] rfl rfl (World.news_of_block (cs := #[.int .i64 x]) (t := 3) (fr := (0, 0)) (heap_alloc_new _ _)) (by simp [Value.oneCell']) (by unfold maxLen; omega) (by omega) (by simp; omega) ?_; intro v6 w6 hown6 hg6 _))
          have hA6 := Arr.grown (hA.alloc (.cells #[.int .i64 x] 3)) hg6 (fun e => by have := hown.lt w.heap.size e.symm; omega)
          have hbel6 := (hbel.alloc hsz2 (.cells #[.int .i64 x] 3)).grown hg6 (by simp; omega) (fun j hj => (hown.lt j hj).1)
          exact ⟨⟨k + 1, by omega, by go_num, by rw [HT.out, List.map_append]; exact hown6, HALL2, hA6, hbel6.size, hbel6⟩, by simp [intOf]; omega⟩
      · have hLk : L.length = k + 1 := by omega
        have HF := Lib.hid (fromAp_same HIN.out (fun j hj => HALL.out j (by omega) hj))
        have hG := apGens_ok hbn (fun j hj => HALL.out j (by omega) hj)
        have h1 : (apGens L).length = k + 1 := (apGens_length (by omega)).trans hLk
        rw [List.take_of_length_le (by omega : (apGens L).length ≤ k + 1), ← h1] at hown
        have hgl : (apGens L).length ≤ 60 := by omega
        have hml : (minL (apGens L)).length ≤ 60 := Nat.le_trans (minL_length_le _) hgl
        obtain ⟨a1, k1, rfl, rX⟩ := row_open hown
        have c2 := spec_l6Minimal (apGens L) a1 k1 wr rX.slv hG hgl
        generalize hK : k + 1 = K at *
        obtain rfl : K = L.length := by omega
        have hlast : decide ((L.length : Int) < (L.length : Int)) = false := by simp
        have HY := Lib.hid (fromApL_yes (l := L))
        clear hown rX hG HALL ci
        generalize minL (apGens L) = M at *
        generalize (apGens L).length = NA at *
        obtain rfl : NA = L.length := h1
        clear hK hLk hlt
        go_wp2_with fail
        refine c2.mono ?_
        rintro e w2 ⟨v2, rfl, ho2, hb2⟩
        obtain ⟨a2, k2, rfl, r2⟩ := row_open ho2
        have hA2 := hA.below hb2
        have hbw2 := hbw.trans (hb2.mono hbw.size)
        have hbl2 := hbel.trans (hb2.mono hsz2)
        have hb3 := box_below w2 (.cells #[.slice a2 M.length k2] 26)
        have hA3 := hA2.alloc (.cells #[.slice a2 M.length k2] 26)
        have hc3 := box_cell w2 (.slice a2 M.length k2)
        have hbw3 := hbw2.trans (hb3.mono hbw2.size)
        have hbl3 := hbl2.trans (hb3.mono hbl2.size)
        have hz2 : w2.heap.size < (w2.alloc (.cells #[.slice a2 M.length k2] 26)).heap.size := by simp
        have c3 := spec_AperySet M (L.length : Int) a2 k2 (w2.alloc (.cells #[.slice a2 M.length k2] 26)) (r2.slv.below hb3) (by omega)
        have HO2 := Lib.hid ho2
        clear c2 hA hbel hbw hA2 r2 ho2
        go_wp2_with fail
        refine c3.mono ?_
        rintro e w4 ⟨v4, rfl, ho4, hb4⟩
        have hrl : (aperyL M (L.length : Int)).length ≤ 60 := aperyL_len_le _ _
        obtain ⟨a4, k4, rfl, r4⟩ := row_open ho4
        have hA4 := hA3.below hb4
        have hc4 : w4.cell? ⟨w2.heap.size, 0, none⟩ = some (.slice a2 M.length k2) := (hb4.cell (p := ⟨w2.heap.size, 0, none⟩) hz2).trans hc3
        have hbw4 := hbw3.trans (hb4.mono hbw3.size)
        have hbl4 := hbl3.trans (hb4.mono hbl3.size)
        have c5 := spec_l2Same (aperyL M (L.length : Int)) L a4 a k4 cap w4 r4.slv (HRW.out.below hbl4) (by omega) (by omega)
        clear c3 hA3 hc3 ho4 r4
        cases hd : decide (aperyL M (L.length : Int) = L)
        · have HR := Lib.hid (HF.out.trans hd)
          rw [hd] at c5
          clear hd HF
          generalize aperyL M (L.length : Int) = R at *
          go_wp2_with fail
          refine c5.mono ?_
          rintro e w6 ⟨rfl, hb6⟩
          have hA6 := hA4.below hb6
          have hbw6 := hbw4.trans (hb6.mono hbw4.size)
          have hc0 := hA6.cell 0
          have hf0 := hA6.frozen 0
          clear c5
          go_wp2_with fail
          have hcf := World.cell?_setCell_same w6 ⟨w.heap.size, 0, none⟩ (.slice none 0 0) hc0
          exact bodyPost_ret (v := .tuple #[.agg #[.slice none 0 0], .bool false]) (by simp [results, Try.results54, go_sem, hcf]) rfl ⟨_, by rw [HR.out], by rw [fromApL_no HR.out]; exact World.ownsRow_nil _ _ _ _, hbw6.setCell (p := ⟨w.heap.size, 0, none⟩) (Nat.le_refl _) _⟩
        · have HR := Lib.hid (HF.out.trans hd)
          rw [hd] at c5
          clear hd HF
          generalize aperyL M (L.length : Int) = R at *
          go_wp2_with fail
          refine c5.mono ?_
          rintro e w6 ⟨rfl, hb6⟩
          have hA6 := hA4.below hb6
          have hbw6 := hbw4.trans (hb6.mono hbw4.size)
          have hc0 := hA6.cell 0
          have hf0 := hA6.frozen 0
          have hc6 : w6.cell? ⟨w2.heap.size, 0, none⟩ = some (.slice a2 M.length k2) := (hb6.cell (p := ⟨w2.heap.size, 0, none⟩) (Nat.lt_of_lt_of_le hz2 hb4.size)).trans hc4
          generalize hMN : M.length = MN at *
          have HMN := Lib.hid hMN
          clear c5 hMN
          go_wp2_with fail
          have hcf := World.cell?_setCell_same w6 ⟨w.heap.size, 0, none⟩ (.slice a2 MN k2) hc0
          refine bodyPost_ret (v := .tuple #[.agg #[.slice a2 MN k2], .bool true]) (by simp [results, Try.results54, go_sem, hcf]) rfl ⟨_, by rw [HR.out], ?_, hbw6.setCell (p := ⟨w.heap.size, 0, none⟩) (Nat.le_refl _) _⟩
          rw [HY.out HR.out, HMN.out]
          have ho := HO2.out
          refine ownsBase (row_kept ho fun j hj => ?_) (by omega)
          obtain ⟨hj1, hj2⟩ := ho.lt j hj
          rw [heap_setCell_other w6 ⟨w.heap.size, 0, none⟩ j _ (by show j ≠ w.heap.size; omega), hb6.block j (by have := hb4.size; omega), hb4.block j (by omega), hb3.block j hj2]
end Go.Proofs.Ytgkkkmcgnpdchaa
