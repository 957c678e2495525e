/-
  CONTRACTS of the reference's chapter 3: l2Same, l3Minimal.
-/
import Derived.Test.YtdjjagpecbflnaaGreatDoorSgN
import Derived.Test.YtdjjagpecbflnaaGreatDoorL9
import Derived.Test.YtdjjagpecbflnaaGreatDoorArr
namespace Go.Proofs.YtdjjagpecbflnaaGreatDoor
open Go Go.RowKit

set_option maxRecDepth 100000 in
set_option maxHeartbeats 400000 in
/-- l2Same: whether the two lists are equal. -/
theorem spec_l2Same (L M : List Int) (a c : Option Addr) (cap cap2 : Nat) (w : World) (hr : SlV w a (L.map (Value.int .i64))) (hs : SlV w c (M.map (Value.int .i64))) (hb : L.length ≤ 4611686018427387904) (hb2 : M.length ≤ 4611686018427387904) :
    Calls Tryz.prog 32 #[.slice a L.length cap, .slice c M.length cap2] w fun e w' => e = .returned (.bool (decide (L = M))) ∧ Below w.heap.size w w' := by
  by_cases hlen : L.length = M.length
  · have hne : ((L.length : Int) != (M.length : Int)) = false := by simp [hlen]
    have HL := Lib.hid hlen
    clear hlen
    go_enter Tryz.func32, Tryz.ntmps32
    go_wp2_with fail
    go_loopw [5] (fun i wr => ∃ k : Nat, k ≤ L.length ∧ i = .int .i64 (k : Int) ∧ (∀ j, j < k → L[j]? = M[j]?) ∧ Below w.heap.size w wr) (fun i _ => L.length - (intOf i).toNat)
    case atStart => exact ⟨0, Nat.zero_le _, rfl, fun j h => by omega, Below.refl _ _⟩
    case round =>
      obtain ⟨k, hk, rfl, heq, hbel⟩ := hrel
      have HE := Lib.hid heq
      clear heq
      by_cases hlt : k < L.length
      · have hltM : k < M.length := by have := HL.out; omega
        obtain ⟨b, off, rfl, hbs, hc⟩ := hr.open (by intro h; rw [List.map_eq_nil_iff] at h; subst h; simp at hlt)
        obtain ⟨b2, off2, rfl, hbs2, hc2⟩ := hs.open (by intro h; rw [List.map_eq_nil_iff] at h; subst h; simp at hltM)
        have hcell : wr.cell? ⟨b, off + k, none⟩ = some ((Value.int .i64) L[k]) := by rw [hbel.cell (p := ⟨b, off + k, none⟩) hbs]; exact hc k _ (by simp [hlt])
        have hcell2 : wr.cell? ⟨b2, off2 + k, none⟩ = some ((Value.int .i64) M[k]) := by rw [hbel.cell (p := ⟨b2, off2 + k, none⟩) hbs2]; exact hc2 k _ (by simp [hltM])
        clear hc hc2 hr hs
        have hx0 : (0 : Int) ≤ (k : Int) := by omega
        have hx1 : (k : Int) < (L.length : Int) := by omega
        have hx2 : (k : Int) < (M.length : Int) := by omega
        by_cases he : L[k] = M[k]
        · have HEQ := Lib.hid (show L[k]? = M[k]? by rw [List.getElem?_eq_getElem hlt, List.getElem?_eq_getElem hltM, he])
          rw [← he] at hcell2
          clear he
          generalize L[k] = x at *
          go_wp2_with fail
          go_quiet (fail)
          go_wp2_with fail
          go_roundw
          case rel => exact ⟨k + 1, by omega, by go_num, (fun j hj => by
            by_cases h : j < k
            · exact HE.out j h
            · obtain rfl : j = k := by omega
              exact HEQ.out), by first | exact hbel | exact below_drewN hbel _⟩
          case measure => simp [intOf]; omega
        · have HNE := Lib.hid (decide_eq_false (p := L = M) (fun h => he (by subst h; rfl)))
          have hne2 : (L[k] != M[k]) = true := by rw [bne_iff_ne]; exact he
          clear he
          generalize L[k] = x at *
          generalize M[k] = y at *
          go_wp2_with fail
          go_quiet (fail)
          go_wp2_with fail
          go_ret
          exact ⟨by rw [HNE.out]; rfl, by first | exact hbel | exact below_drewN hbel _⟩
      · obtain rfl : k = L.length := by omega
        have HEQ := Lib.hid (decide_eq_true (p := L = M) (by
          apply List.ext_getElem? 
          intro j
          by_cases hj : j < L.length
          · exact HE.out j hj
          · rw [List.getElem?_eq_none (by omega), List.getElem?_eq_none (by have := HL.out; omega)]))
        clear hr hs
        go_wp2_with fail
        go_ret
        exact ⟨by rw [HEQ.out]; rfl, hbel⟩
  · have hne : ((L.length : Int) != (M.length : Int)) = true := by simp; omega
    have HNE := Lib.hid (decide_eq_false (p := L = M) (fun h => hlen (by rw [h])))
    clear hlen
    go_enter Tryz.func32, Tryz.ntmps32
    go_wp2_with fail
    go_ret
    exact ⟨by rw [HNE.out]; rfl, Below.refl _ _⟩

theorem SlV.take {w : World} {a : Option Addr} {xs : List Value} (h : SlV w a xs) (k : Nat) : SlV w a (xs.take k) := by
  rcases h with h | ⟨b, off, ha, hlt, hc⟩
  · subst h; exact .inl (by simp)
  · exact .inr ⟨b, off, ha, hlt, fun i u hi => by
      rw [List.getElem?_take] at hi
      split at hi
      · exact hc i u hi
      · cases hi⟩

theorem slv_block {w w' : World} {g : Nat} {xs : List Value} (h : SlV w (some ⟨g, 0, none⟩) xs) (hb : w'.heap[g]? = w.heap[g]?) (hl : g < w'.heap.size) : SlV w' (some ⟨g, 0, none⟩) xs := by
  rcases h with h | ⟨b, off, ha, hlt, hc⟩
  · exact .inl h
  · injection ha with ha
    injection ha with h1 h2
    subst h1 h2
    exact .inr ⟨g, 0, rfl, hl, fun i u hi => (World.cell?_of_block (a := ⟨g, 0 + i, none⟩) hb).trans (hc i u hi)⟩

set_option maxRecDepth 100000 in
set_option maxHeartbeats 3200000 in
theorem spec_l3Minimal (G : List Int) (a : Option Addr) (cap : Nat) (w : World) (hr : SlV w a (G.map (Value.int .i64))) (hok : okG G = true) :
    Calls Tryz.prog 33 #[.slice a G.length cap] w (SlPost (minL G) w) := by
  obtain ⟨i0, hi, hz0, hz1, hz2⟩ := info_parts infoIntL
  obtain ⟨hG, hl1, hl2⟩ := okG_iff.1 hok
  have hown0 : (w.alloc (.cells #[] 3)).ownsRow w.heap.size 3 1 (.slice (some ⟨w.heap.size, 0, none⟩) 0 0) 0 [] := World.ownsRow_lit w #[] 0 (Nat.le_refl _) (by simp) rfl
  have hbel0 : Below w.heap.size w (w.alloc (.cells #[] 3)) := (Below.refl _ _).alloc (Nat.le_refl _) _
  have c1 := spec_SortList G a cap _ (hr.below hbel0) (by omega)
  have hm : minL G = minOf (sortL G) := rfl
  have hSl := sortL_length_le G
  have hSa := (sortL_spec G).1
  have hSb : ∀ x ∈ sortL G, 1 ≤ x ∧ x ≤ 60 := fun x hx => hG x (((sortL_spec G).2 x).1 hx)
  clear hr hok hG
  go_enter Tryz.func33, Tryz.ntmps33
  go_wp2_with fail
  refine c1.mono ?_
  rintro e w1 ⟨g1, k1, rfl, ho1, hb1⟩
  have hown1 := owns_below hown0 hb1
  have hbel1 := hbel0.trans (hb1.mono hbel0.size)
  obtain ⟨a1, c1', e1, -, -, hs1, -⟩ := SlV.of_owns ho1
  cases e1
  have hg1 := (owns_facts ho1).1
  have hk1 := (owns_facts ho1).2.2.1
  have hgl := (owns_facts ho1).2.1
  have HM := Lib.hid hm
  have HA := Lib.hid hSa
  have HB := Lib.hid hSb
  clear c1 ho1 hb1 hown0 hbel0 hm hSa hSb
  generalize sortL G = S at *
  go_wp2_with fail
  go_loopw [3, 5] (fun v i wr => ∃ (k q c : Nat) (M : List Int), k ≤ S.length ∧ i = .int .i64 (k : Int) ∧ M = ((S.take k).filter fun x => !sumB (S.filter fun y => decide (y < x)) x.toNat) ∧ M.length ≤ k ∧ v = .slice (some ⟨q, 0, none⟩) M.length c ∧
      wr.ownsRow w.heap.size 3 1 (.slice (some ⟨q, 0, none⟩) M.length c) M.length (M.map (Value.int .i64)) ∧ q ≠ g1 ∧ SlV wr (some ⟨g1, 0, none⟩) (S.map (Value.int .i64)) ∧ g1 < wr.heap.size ∧ Below w.heap.size w wr) (fun _ i _ => S.length - (intOf i).toNat)
  case atStart => exact ⟨0, w.heap.size, 0, [], Nat.zero_le _, rfl, by simp, by simp, rfl, hown1, by simp at hg1; omega, hs1, hgl, hbel1⟩
  case round =>
    clear hown1 hs1 hbel1 hgl
    obtain ⟨k, q, c, M, hk, rfl, hMe, hMk, rfl, hown, hne, hs, hgl, hbel⟩ := hrel
    have HMe := Lib.hid hMe
    clear hMe
    by_cases hlt : k < S.length
    · obtain ⟨b, off, e2, hbs, hc⟩ := hs.open (by intro h; rw [List.map_eq_nil_iff] at h; subst h; simp at hlt)
      cases e2
      have hcell : wr.cell? ⟨g1, k, none⟩ = some (.int .i64 S[k]) := by have := hc k (.int .i64 S[k]) (by simp [hlt]); simpa using this
      obtain ⟨X, hX⟩ : ∃ X : Nat, S[k] = (X : Int) := ⟨(S[k]).toNat, by have := HB.out S[k] (List.getElem_mem hlt); omega⟩
      have hXb := HB.out S[k] (List.getElem_mem hlt)
      have hstep := minOf_take HA.out k hlt
      rw [← HMe.out, hX, Int.toNat_natCast] at hstep
      rw [hX] at hcell hXb
      have HP := Lib.hid hstep
      have hsz := hbel.size
      have hk3 : (0 : Int) ≤ (k : Int) := by omega
      have hk4 : (k : Int) < (S.length : Int) := by omega
      clear hc hstep hX
      by_cases hk0 : k = 0
      · subst hk0
        have HMN : Hid (M ++ [(X : Int)] = (S.take (0 + 1)).filter fun x => !sumB (S.filter fun y => decide (y < x)) x.toNat) := Lib.hid (by
          rw [HP.out, if_neg]
          rw [List.take_zero, sumB_iff]
          intro h
          have := isSum_nil h
          omega)
        have hsz2 := hsz
        go_wp2_with fail
        go_quiet (fail)
        have hbelq := below_drewN hbel nq
        have hownq : (wr.drewN nq).ownsRow w.heap.size 3 1 (.slice (some ⟨q, 0, none⟩) M.length c) M.length (M.map (Value.int .i64)) := hown
        have hsq : SlV (wr.drewN nq) (some ⟨g1, 0, none⟩) (S.map (Value.int .i64)) := hs
        clear hown hs
        go_wp2_with (at_builtin; refine wpList_append_lies _ rfl _ _ 24 rfl w.heap.size 3 i0 (Value.int .i64 0) 1 8 Tryz.underlying24 hi hz0 hz1 hz2 rfl (by decide) (.slice (some ⟨q, 0, none⟩) M.length c) M.length (M.map (Value.int .i64)) rfl (hownq.alloc _) ⟨(wr.drewN nq).heap.size, 0, none⟩ 1 1 [.int .i64 (X : Int)] rfl rfl (World.news_of_block (cs := #[.int .i64 (X : Int)]) (t := 3) (fr := (0, 0)) (heap_alloc_new (wr.drewN nq) _)) (by simp [Value.oneCell']) (by omega) (by unfold maxLen; omega) (by omega) (by simp; omega) _ rfl ?_; intro q3 c3 w3 hown3 hgr3 hat3 hlt3)
        have hb3 := (hbelq.alloc hsz2 _).grown hgr3 (by simp; omega) (fun j hj => by simp [Value.ownBlock] at hj; have := (owns_facts hownq).1; omega)
        have hblk : w3.heap[g1]? = (wr.drewN nq).heap[g1]? := (hgr3.block g1 (by simp; omega) (by simp [Value.ownBlock]; omega)).trans (Below.heap_alloc (wr.drewN nq) _ g1 hgl)
        have hs3 := slv_block hsq hblk (by have := hgr3.size; simp at this; omega)
        have hgl3 : g1 < w3.heap.size := by have := hgr3.size; simp at this; omega
        have hq3 : q3 ≠ g1 := by
          rcases hat3 with h | h
          · simp [Value.ownBlock] at h; omega
          · simp at h; omega
        have HO := Lib.hid hown3
        have HS3 := Lib.hid hs3
        clear hown3 hs3 hownq hgr3 hblk
        go_wp2_with fail
        go_roundw
        case rel => exact ⟨0 + 1, q3, c3, M ++ [(X : Int)], by omega, by go_num, by rw [HMN.out], by rw [List.length_append, List.length_singleton]; omega, by rw [List.length_append, List.length_singleton], by have := HO.out; simpa using this, hq3, HS3.out, hgl3, hb3⟩
        case measure => simp [intOf]; omega
      · have htl : (S.take k).length = k := by rw [List.length_take]; omega
        have ct := fun wq (hq : SlV wq (some ⟨g1, 0, none⟩) (S.map (Value.int .i64))) => spec_l3Table (S.take k) (some ⟨g1, 0, none⟩) k1 X wq (by rw [List.map_take]; exact hq.take k) (by omega) (fun x hx => (HB.out x (List.mem_of_mem_take hx)).1) (by omega)
        rw [htl] at ct
        have hkb : ((k : Int) == 0) = false := by rw [beq_eq_false_iff_ne]; omega
        have ct2 : ∀ w', (w'.cell? ⟨g1, k, none⟩ = some (.int .i64 (X : Int)) ∧ Below wr.heap.size wr w') → Calls Tryz.prog 63 #[.slice (some ⟨g1, 0, none⟩) k k1, .int .i64 (X : Int)] w' fun e w2 => ∃ v, e = .returned v ∧ w2.ownsRow w'.heap.size 4 1 v (X + 1) (tabL (S.take k) (X + 1)) ∧ Below w'.heap.size w' w2 := fun w' h => ct w' (hs.below h.2)
        have hk2 : (k : Int) ≤ (k1 : Int) := by omega
        have hX0 : (0 : Int) ≤ (X : Int) := by omega
        have hX1 : (X : Int) < (X : Int) + 1 := by omega
        have h0 : Hid (wr.cell? ⟨g1, k, none⟩ = some (.int .i64 (X : Int)) ∧ Below wr.heap.size wr wr.drew) := Lib.hid ⟨hcell, (Below.refl _ _).drew⟩
        clear ct hcell htl
        go_wp2_with fail
        refine wp_region_held_drew (S := fun w' => w'.cell? ⟨g1, k, none⟩ = some (.int .i64 (X : Int)) ∧ Below wr.heap.size wr w') (by kernel_rfl) h0.out (fun hHeld => ?_)
        refine held_take 0 _ _ rfl (by kernel_rfl) (by kernel_rfl) (by kernel_rfl) (fun _ _ _ h => h) (by rfl) hHeld (fun w hSw => by (try dsimp only at hSw); go_simp; try with_reducible rfl) ?_
        (try simp only [Act.put, List.setIfInBounds_toArray, List.set_cons_zero, List.set_cons_succ, List.getElem_toArray, List.getElem_cons_zero])
        refine held_take 1 _ _ rfl (by kernel_rfl) (by kernel_rfl) (by kernel_rfl) (fun _ _ _ h => h) (by rfl) hHeld (fun w hSw => by (try dsimp only at hSw); go_simp; try with_reducible rfl) ?_
        (try simp only [Act.put, List.setIfInBounds_toArray, List.set_cons_zero, List.set_cons_succ, List.getElem_toArray, List.getElem_cons_succ, List.getElem_cons_zero])
        refine held_take 2 _ _ rfl (by kernel_rfl) (by kernel_rfl) (by kernel_rfl) (fun _ _ _ h => h) (by rfl) hHeld (fun w hSw => by (try dsimp only at hSw); go_simp; try with_reducible rfl) ?_
        (try simp only [Act.put, List.setIfInBounds_toArray, List.set_cons_zero, List.set_cons_succ, List.getElem_toArray, List.getElem_cons_succ, List.getElem_cons_zero])
        refine held_take 3 _ _ rfl (by kernel_rfl) (by kernel_rfl) (by kernel_rfl) (fun _ _ _ h => h) (by rfl) hHeld (fun w hSw => by (try dsimp only at hSw); go_simp; try with_reducible rfl) ?_
        (try simp only [Act.put, List.setIfInBounds_toArray, List.set_cons_zero, List.set_cons_succ, List.getElem_toArray, List.getElem_cons_succ, List.getElem_cons_zero])
        refine held_take 4 _ _ rfl (by kernel_rfl) (by kernel_rfl) (by kernel_rfl) (fun _ _ _ h => h) (by rfl) hHeld (fun w hSw => by (try dsimp only at hSw); go_simp; try with_reducible rfl) ?_
        (try simp only [Act.put, List.setIfInBounds_toArray, List.set_cons_zero, List.set_cons_succ, List.getElem_toArray, List.getElem_cons_succ, List.getElem_cons_zero])
        refine held_take 5 _ _ rfl (by kernel_rfl) (by kernel_rfl) (by kernel_rfl) (fun _ _ _ h => h) (by rfl) hHeld (fun w hSw => by (try dsimp only at hSw); go_simp; try with_reducible rfl) ?_
        (try simp only [Act.put, List.setIfInBounds_toArray, List.set_cons_zero, List.set_cons_succ, List.getElem_toArray, List.getElem_cons_succ, List.getElem_cons_zero])
        refine held_take 6 _ _ rfl (by kernel_rfl) (by kernel_rfl) (by kernel_rfl) (fun _ _ _ h => h) (by rfl) hHeld (fun w hSw => by (try dsimp only at hSw); go_simp; try with_reducible rfl) ?_
        (try simp only [Act.put, List.setIfInBounds_toArray, List.set_cons_zero, List.set_cons_succ, List.getElem_toArray, List.getElem_cons_succ, List.getElem_cons_zero])
        refine held_take 7 _ _ rfl (by kernel_rfl) (by kernel_rfl) (by kernel_rfl) (fun _ _ _ h => h) (by rfl) hHeld (fun w hSw => by (try dsimp only at hSw); go_simp; try with_reducible rfl) ?_
        (try simp only [Act.put, List.setIfInBounds_toArray, List.set_cons_zero, List.set_cons_succ, List.getElem_toArray, List.getElem_cons_succ, List.getElem_cons_zero])
        refine held_take 8 _ _ rfl (by kernel_rfl) (by kernel_rfl) (by kernel_rfl) (fun _ _ _ h => h) (by rfl) hHeld (fun w hSw => by (try dsimp only at hSw); go_simp; try with_reducible rfl) ?_
        (try simp only [Act.put, List.setIfInBounds_toArray, List.set_cons_zero, List.set_cons_succ, List.getElem_toArray, List.getElem_cons_succ, List.getElem_cons_zero])
        refine held_take 9 _ _ rfl (by kernel_rfl) (by kernel_rfl) (by kernel_rfl) (fun _ _ _ h => h) (by rfl) hHeld (fun w hSw => by (try dsimp only at hSw); go_simp; try with_reducible rfl) ?_
        (try simp only [Act.put, List.setIfInBounds_toArray, List.set_cons_zero, List.set_cons_succ, List.getElem_toArray, List.getElem_cons_succ, List.getElem_cons_zero])
        refine held_take 11 _ _ rfl (by kernel_rfl) (by kernel_rfl) (by kernel_rfl) (fun _ _ _ h => h) (by rfl) hHeld (fun w hSw => by (try dsimp only at hSw); go_simp; try with_reducible rfl) ?_
        (try simp only [Act.put, List.setIfInBounds_toArray, List.set_cons_zero, List.set_cons_succ, List.getElem_toArray, List.getElem_cons_succ, List.getElem_cons_zero])
        refine held_take 12 _ _ rfl (by kernel_rfl) (by kernel_rfl) (by kernel_rfl) (fun _ _ _ h => h) (by rfl) hHeld (fun w hSw => by (try dsimp only at hSw); go_simp; try with_reducible rfl) ?_
        (try simp only [Act.put, List.setIfInBounds_toArray, List.set_cons_zero, List.set_cons_succ, List.getElem_toArray, List.getElem_cons_succ, List.getElem_cons_zero])
        refine held_take 13 _ _ rfl (by kernel_rfl) (by kernel_rfl) (by kernel_rfl) (fun _ _ _ h => h) (by rfl) hHeld (fun w hSw => by (try dsimp only at hSw); go_simp; try with_reducible rfl) ?_
        (try simp only [Act.put, List.setIfInBounds_toArray, List.set_cons_zero, List.set_cons_succ, List.getElem_toArray, List.getElem_cons_succ, List.getElem_cons_zero])
        refine held_take 14 _ _ rfl (by kernel_rfl) (by kernel_rfl) (by kernel_rfl) (fun _ _ _ h => h) (by rfl) hHeld (fun w hSw => by (try dsimp only at hSw); go_simp; try with_reducible rfl) ?_
        (try simp only [Act.put, List.setIfInBounds_toArray, List.set_cons_zero, List.set_cons_succ, List.getElem_toArray, List.getElem_cons_succ, List.getElem_cons_zero])
        refine wpAnyH_ready (rs := [10]) (by kernel_rfl) (by simp) ?_
        refine AllReadyH.cons rfl (fun K hK => ?_) AllReadyH.nil
        rw [if_pos (by rfl)]
        go_wp2_with (first | (go_at_call 63; (with_reducible refine (ct2 _ hHeld).mono ?_); rintro e w2 ⟨v, rfl, ho, hb2⟩; obtain ⟨g, cg, rfl, ht⟩ := tab_last ho; have hT := ht X (Nat.le_refl _); clear ht ho))
        refine hK.out _ _ (held_keep hgl hHeld hb2) (fun hHeld2 => ?_)
        clear hK K
        (try simp only [Act.put, List.setIfInBounds_toArray, List.set_cons_zero, List.set_cons_succ, List.getElem_toArray, List.getElem_cons_succ, List.getElem_cons_zero])
        refine held_take 15 _ _ rfl (by kernel_rfl) (by kernel_rfl) (by kernel_rfl) (fun _ _ _ h => h) (by rfl) hHeld2 (fun w hSw => by (try dsimp only at hSw); go_simp; try with_reducible rfl) ?_
        (try simp only [Act.put, List.setIfInBounds_toArray, List.set_cons_zero, List.set_cons_succ, List.getElem_toArray, List.getElem_cons_succ, List.getElem_cons_zero])
        refine wpAnyH_ready (rs := [16]) (by kernel_rfl) (by simp) ?_
        refine AllReadyH.cons rfl (fun K hK => ?_) AllReadyH.nil
        rw [if_pos (by rfl)]
        go_wp2_with fail
        refine hK.out _ _ hHeld2 (fun hHeld3 => ?_)
        clear hK K
        (try simp only [Act.put, List.setIfInBounds_toArray, List.set_cons_zero, List.set_cons_succ, List.getElem_toArray, List.getElem_cons_succ, List.getElem_cons_zero])
        refine held_take 17 _ _ rfl (by kernel_rfl) (by kernel_rfl) (by kernel_rfl) (fun _ _ _ h => h) (by rfl) hHeld3 (fun w hSw => by (try dsimp only at hSw); go_simp; try with_reducible rfl) ?_
        (try simp only [Act.put, List.setIfInBounds_toArray, List.set_cons_zero, List.set_cons_succ, List.getElem_toArray, List.getElem_cons_succ, List.getElem_cons_zero])
        refine held_take 18 _ _ rfl (by kernel_rfl) (by kernel_rfl) (by kernel_rfl) (fun _ _ _ h => h) (by rfl) hHeld3 (fun w hSw => by (try dsimp only at hSw); go_simp; try with_reducible rfl) ?_
        (try simp only [Act.put, List.setIfInBounds_toArray, List.set_cons_zero, List.set_cons_succ, List.getElem_toArray, List.getElem_cons_succ, List.getElem_cons_zero])
        refine wpAnyH_done (by kernel_rfl) ?_ _
        have hsz2 := Nat.le_trans hsz hHeld3.2.size
        have hbel2 := hbel.trans (hHeld3.2.mono hsz)
        have hown2 := owns_below hown hHeld3.2
        have hs2 := hs.below hHeld3.2
        have hgl2 := Nat.lt_of_lt_of_le hgl hHeld3.2.size
        have hcell := hHeld3.1
        clear hHeld hHeld2 hHeld3 ct2 h0 hT hown hs
        generalize sumB (S.take k) X = bX at *
        cases bX
        · have HMN : Hid (M ++ [(X : Int)] = (S.take (k + 1)).filter fun x => !sumB (S.filter fun y => decide (y < x)) x.toNat) := Lib.hid (by rw [HP.out]; rfl)
          go_wp2_with (at_builtin; refine wpList_append_lies _ rfl _ _ 24 rfl w.heap.size 3 i0 (Value.int .i64 0) 1 8 Tryz.underlying24 hi hz0 hz1 hz2 rfl (by decide) (.slice (some ⟨q, 0, none⟩) M.length c) M.length (M.map (Value.int .i64)) rfl (hown2.alloc _) ⟨w2.heap.size, 0, none⟩ 1 1 [.int .i64 (X : Int)] rfl rfl (World.news_of_block (cs := #[.int .i64 (X : Int)]) (t := 3) (fr := (0, 0)) (heap_alloc_new w2 _)) (by simp [Value.oneCell']) (by omega) (by unfold maxLen; omega) (by omega) (by simp; omega) _ rfl ?_; intro q3 c3 w3 hown3 hgr3 hat3 hlt3)
          have hb3 := (hbel2.alloc hsz2 _).grown hgr3 (by simp; omega) (fun j hj => by simp [Value.ownBlock] at hj; have := (owns_facts hown2).1; omega)
          have hblk : w3.heap[g1]? = w2.heap[g1]? := (hgr3.block g1 (by simp; omega) (by simp [Value.ownBlock]; omega)).trans (Below.heap_alloc w2 _ g1 hgl2)
          have hs3 := slv_block hs2 hblk (by have := hgr3.size; simp at this; omega)
          have hgl3 : g1 < w3.heap.size := by have := hgr3.size; simp at this; omega
          have hq3 : q3 ≠ g1 := by
            rcases hat3 with h | h
            · simp [Value.ownBlock] at h; omega
            · simp at h; omega
          have HO := Lib.hid hown3
          have HS3 := Lib.hid hs3
          clear hown3 hs3 hown2 hgr3 hblk
          go_wp2_with fail
          go_roundw
          case rel => exact ⟨k + 1, q3, c3, M ++ [(X : Int)], by omega, by go_num, by rw [HMN.out], by rw [List.length_append, List.length_singleton]; omega, by rw [List.length_append, List.length_singleton], by have := HO.out; simpa using this, hq3, HS3.out, hgl3, hb3⟩
          case measure => simp [intOf]; omega
        · have HMN : Hid (M = (S.take (k + 1)).filter fun x => !sumB (S.filter fun y => decide (y < x)) x.toNat) := Lib.hid (by rw [HP.out]; simp)
          have HO := Lib.hid hown2
          have HS := Lib.hid hs2
          clear hown2 hs2
          go_wp2_with fail
          go_roundw
          case rel => exact ⟨k + 1, q, c, M, by omega, by go_num, HMN.out, by omega, rfl, HO.out, hne, HS.out, hgl2, hbel2⟩
          case measure => simp [intOf]; omega
    · obtain rfl : k = S.length := by omega
      have HE : Hid (minL G = M) := Lib.hid (by rw [HM.out, HMe.out, List.take_of_length_le (Nat.le_refl _)]; rfl)
      clear hs
      go_wp2_with fail
      go_ret
      exact ⟨_, rfl, by rw [HE.out]; exact hown, hbel⟩
end Go.Proofs.YtdjjagpecbflnaaGreatDoor
