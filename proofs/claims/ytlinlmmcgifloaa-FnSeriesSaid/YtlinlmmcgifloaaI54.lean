/-
  CONTRACTS of the program's chapter 15: NumeratorOf. (Own work: mkI54.py.)
-/
import Derived.Test.YtlinlmmcgifloaaI52
import Derived.Test.YtlinlmmcgifloaaCh4I
import Derived.Test.YtlinlmmcgifloaaHta
namespace Go.Proofs.Ytlinlmmcgifloaa
open Go Go.RowKit
attribute [local go_sem] Oper.semAt_some

theorem keepB54 {n : Nat} {a b c : World} (hn : n ≤ a.heap.size) (h : Below n a b) (k : Below b.heap.size b c) : Below n a c := h.trans (k.mono (Nat.le_trans hn h.size))
noncomputable def numT (G : List Int) (k i : Nat) : Int := if i < k then bitI (hasN G (i : Int)) - bitI (hasN G ((i : Int) - 1)) else 0
theorem numT_set (G : List Int) (k M : Nat) : (tabJ (numT G k) M).set k (.int .i64 (bitI (hasN G (k : Int)) - bitI (hasN G ((k : Int) - 1)))) = tabJ (numT G (k + 1)) M :=
  tabJ_set _ (by unfold numT; rw [if_pos (by omega)]) fun i hi => by
    unfold numT
    by_cases h : i < k
    · rw [if_pos h, if_pos (by omega)]
    · rw [if_neg h, if_neg (by omega)]
theorem numT_all {G : List Int} (h : isSgB G = true) : (numL G).length = condNat G + 1 ∧ (numL G).map (Value.int .i64) = tabJ (numT G (condNat G + 1)) (condNat G + 1) := by
  rw [numL_yes h]
  refine ⟨by simp, ?_⟩
  rw [List.map_map]
  unfold tabJ
  refine List.map_congr_left fun i hi => ?_
  have : i < condNat G + 1 := by simpa using hi
  show Value.int .i64 _ = Value.int .i64 (numT G (condNat G + 1) i)
  unfold numT; rw [if_pos this]

set_option maxRecDepth 100000 in
set_option maxHeartbeats 1600000 in
theorem impl_NumeratorOf (G : List Int) (a : Option Addr) (cap : Nat) (w : World) (hr : SlV w a (G.map (Value.int .i64))) (hb : G.length ≤ 1048576) :
    Calls Try.prog 24 #[.agg #[.slice a G.length cap]] w (SlPost (numL G) w) := by
  obtain ⟨i0, hi, hz0, hz1, hz2⟩ := info_parts infoIntL
  obtain ⟨V, hV⟩ : ∃ V, V = w.alloc (.cells #[.slice a G.length cap] 26) := ⟨_, rfl⟩
  have hbV : Below w.heap.size w V := by rw [hV]; exact box_below _ _
  have hc0 : V.cell? ⟨w.heap.size, 0, none⟩ = some (.slice a G.length cap) := by rw [hV]; exact box_cell w _
  have hVs : w.heap.size < V.heap.size := by rw [hV]; simp
  have HV := Lib.hid hV
  have HKV : Hid (∀ w2, Below V.heap.size V w2 → w2.cell? ⟨w.heap.size, 0, none⟩ = some (.slice a G.length cap)) := Lib.hid fun w2 h => (h.cell (p := ⟨w.heap.size, 0, none⟩) hVs).trans hc0
  clear hV
  have c1 := impl_elementsOf G a cap V (hr.below hbV) hb
  have HT := fun f => Lib.hid (tabB_one f 260)
  cases hs : isSgB G
  · have HR := Lib.hid (numL_no hs)
    unfold ElPost at c1
    rw [hs] at c1
    clear hs hr hi hz0 hz1 hz2
    go_enter Try.func24, Try.ntmps24
    go_wp2_with fail
    rw [← HV.out]
    refine c1.mono ?_
    rintro e w1 ⟨rfl, hb1⟩
    have hA := Arr.new w1 74 (tabB (fun _ => false) 260)
    have hbA := hb1.alloc (o := .cells (tabB (fun _ => false) 260).toArray 74) hb1.size
    clear c1
    go_wp2_with (first | (refine wpList_alloc_arr 74 (tabB (fun _ => false) 260) zeroT rfl rfl ?_) | (refine wpList_store_arr 74 (.tmp 3) (.tmp 10) w1.heap.size (tabB (fun _ => false) 260) (tabB (elF G) 260) rfl rfl rfl rfl hA (by rw [tabB_length, tabB_length]) (sizeTl _) (HT _).out ?_; intro w3 hB hg3 hz3; clear hz3; have hb3 := hbA.grown hg3 hbA.size (fun k hk => by cases hk; exact hb1.size); have hc3 := HKV.out _ hb3; clear hg3 hA hbA))
    go_ret
    exact ⟨_, rfl, by rw [HR.out]; exact World.ownsRow_nil _ _ _ _, hbV.trans (hb3.mono hbV.size)⟩
  · have c2 : ∀ W, Below V.heap.size V W → Calls Try.prog 85 #[.agg #[.slice a G.length cap]] W fun e w' => e = .returned (.int .i64 (condNat G : Int)) ∧ Below W.heap.size W w' := fun W h => by
      have h := impl_ConductorOf G a cap W (hr.below (hbV.trans (h.mono hbV.size))) hb
      rw [condN_yes hs] at h
      exact h
    have hC := condNat_le G
    have HR := Lib.hid (numT_all hs)
    have ch : ∀ (x : Int) W, Calls Try.prog 87 #[.agg (tabB (elF G) 260).toArray, .int .i64 x] W fun e w' => e = .returned (.bool (hasN G x)) ∧ Below W.heap.size W w' := fun x W =>
      impl_has (elF G) x _ W (hasN_way G x hs)
    have co := fun b w => impl_oneIf b w
    clear hr
    unfold ElPost at c1
    rw [hs] at c1
    clear hs
    generalize condNat G = C at *
    go_enter Try.func24, Try.ntmps24
    go_wp2_with fail
    rw [← HV.out]
    refine c1.mono ?_
    rintro e w1 ⟨rfl, hb1⟩
    have hA := Arr.new w1 74 (tabB (fun _ => false) 260)
    have hbA := hb1.alloc (o := .cells (tabB (fun _ => false) 260).toArray 74) hb1.size
    clear c1
    go_wp2_with (first | (refine wpList_alloc_arr 74 (tabB (fun _ => false) 260) zeroT rfl rfl ?_) | (refine wpList_store_arr 74 (.tmp 3) (.tmp 10) w1.heap.size (tabB (fun _ => false) 260) (tabB (elF G) 260) rfl rfl rfl rfl hA (by rw [tabB_length, tabB_length]) (sizeTl _) (HT _).out ?_; intro w3 hB hg3 hz3; clear hz3; have hb3 := hbA.grown hg3 hbA.size (fun k hk => by cases hk; exact hb1.size); have hc3 := HKV.out _ hb3; clear hg3 hA hbA))
    refine (c2 _ hb3).mono ?_
    rintro e w4 ⟨rfl, hb4⟩
    have hB4 := hB.below hb4
    have hb04 := hb3.trans (hb4.mono hb3.size)
    have hzV := hb04.size
    have hz14 : w1.heap.size < w4.heap.size := Nat.lt_of_lt_of_le hB.lt hb4.size
    clear c2 hc3 hB hb3 hb4
    go_wp2_with (at_make; refine wpList_make_full _ rfl _ _ 24 rfl w4.heap.size 3 i0 (Value.int .i64 0) 1 Try.underlying24 hi hz0 hz1 .i64 .i64 _ _ (C + 1) rfl rfl (by first | rfl | (simp; done) | omega) (by first | rfl | (simp; done) | omega) (by rw [hz2]; omega) (by unfold maxLen; omega) (Nat.le_refl _) ?_; intro w5 hown hgrow; obtain ⟨HO, HB⟩ := tab0J (C + 1) w4.heap.size (Nat.le_refl _) hown hgrow; have hT5 := hB4.grown hgrow (fun e => by cases e); clear hown hgrow)
    clear hi hz0 hz1 hz2 hB4
    go_loopw [20] (fun i wr => ∃ k : Nat, k ≤ C + 1 ∧ i = .int .i64 (k : Int) ∧ wr.ownsRow w4.heap.size 3 1 (.slice (some ⟨w4.heap.size, 0, none⟩) (C + 1) (C + 1)) (C + 1) (tabJ (numT G k) (C + 1)) ∧ Arr wr w1.heap.size 74 (tabB (elF G) 260) ∧ Below w4.heap.size w4 wr ∧ w4.heap.size ≤ wr.heap.size) (fun i _ => C + 1 - (intOf i).toNat)
    case atStart => exact ⟨0, Nat.zero_le _, rfl, by have := HO.out; rwa [tabJ_congr (g := numT G 0) (fun i _ => by unfold numT; rw [if_neg (by omega)])] at this, hT5, HB.out, HB.out.size⟩
    case round =>
      clear HO HB hT5
      obtain ⟨k, hk, rfl, hRow, hB, hbel, hsz⟩ := hrel
      by_cases hltn : k < C + 1
      · have hlti : (k : Int) < ((C + 1 : Nat) : Int) := by omega
        have hlti2 : (k : Int) < (C : Int) + 1 := by omega
        have hk0 : (0 : Int) ≤ (k : Int) := by omega
        have c5 := fun W => ch (k : Int) W
        have c6 := fun W => ch ((k : Int) - 1) W
        have HTS := Lib.hid (numT_set G k (C + 1))
        have hx1 := bit_bnd (hasN G (k : Int))
        have hx2 := bit_bnd (hasN G ((k : Int) - 1))
        have HF : Hid (∀ w2, Below w4.heap.size wr w2 → Below w4.heap.size w4 w2) := Lib.hid fun w2 h => hbel.trans h
        have HZ : Hid (∀ w2, Below w4.heap.size wr w2 → w4.heap.size ≤ w2.heap.size) := Lib.hid fun w2 h => (hbel.trans h).size
        have hS0 : Arr wr.drew w1.heap.size 74 (tabB (elF G) 260) ∧ Below w4.heap.size wr wr.drew := ⟨hB, (Below.refl _ _).drew⟩
        replace hRow : wr.drew.ownsRow w4.heap.size 3 1 (.slice (some ⟨w4.heap.size, 0, none⟩) (C + 1) (C + 1)) (C + 1) (tabJ (numT G k) (C + 1)) := hRow
        clear ch hbel
        generalize hasN G (k : Int) = q1 at *
        generalize hasN G ((k : Int) - 1) = q2 at *
        go_wp2_with fail
        refine wp_region_held_drew (S := fun w' => Arr w' w1.heap.size 74 (tabB (elF G) 260) ∧ Below w4.heap.size wr w') (by kernel_rfl) hS0 (fun hHeld => ?_)
        refine held_take 0 _ _ rfl (by kernel_rfl) (by kernel_rfl) (by kernel_rfl) (fun _ _ _ h => h) (by rfl) hHeld (fun w hSw => by (try dsimp only at hSw); go_simp; try with_reducible rfl) ?_
        (try simp only [Act.put, List.setIfInBounds_toArray, List.set_cons_zero, List.set_cons_succ, List.getElem_toArray, List.getElem_cons_zero])
        refine held_take 1 _ _ rfl (by kernel_rfl) (by kernel_rfl) (by kernel_rfl) (fun _ _ _ h => h) (by rfl) hHeld (fun w hSw => by (try dsimp only at hSw); go_simp; try with_reducible rfl) ?_
        (try simp only [Act.put, List.setIfInBounds_toArray, List.set_cons_zero, List.set_cons_succ, List.getElem_toArray, List.getElem_cons_succ, List.getElem_cons_zero])
        refine held_take_arr 2 _ 74 (.tmp 3) w1.heap.size (tabB (elF G) 260) (.array 260 4) undT rfl (sizeTl _) (fun _ h => h.1) rfl (by kernel_rfl) (by kernel_rfl) (by kernel_rfl) (fun _ _ _ h => h) (by rfl) rfl rfl hHeld ?_
        (try simp only [Act.put, List.setIfInBounds_toArray, List.set_cons_zero, List.set_cons_succ, List.getElem_toArray, List.getElem_cons_succ, List.getElem_cons_zero])
        refine held_take 3 _ _ rfl (by kernel_rfl) (by kernel_rfl) (by kernel_rfl) (fun _ _ _ h => h) (by rfl) hHeld (fun w hSw => by (try dsimp only at hSw); go_simp; try with_reducible rfl) ?_
        (try simp only [Act.put, List.setIfInBounds_toArray, List.set_cons_zero, List.set_cons_succ, List.getElem_toArray, List.getElem_cons_succ, List.getElem_cons_zero])
        refine held_take_arr 6 _ 74 (.tmp 3) w1.heap.size (tabB (elF G) 260) (.array 260 4) undT rfl (sizeTl _) (fun _ h => h.1) rfl (by kernel_rfl) (by kernel_rfl) (by kernel_rfl) (fun _ _ _ h => h) (by rfl) rfl rfl hHeld ?_
        (try simp only [Act.put, List.setIfInBounds_toArray, List.set_cons_zero, List.set_cons_succ, List.getElem_toArray, List.getElem_cons_succ, List.getElem_cons_zero])
        refine held_take 7 _ _ rfl (by kernel_rfl) (by kernel_rfl) (by kernel_rfl) (fun _ _ _ h => h) (by rfl) hHeld (fun w hSw => by (try dsimp only at hSw); go_simp; try with_reducible rfl) ?_
        (try simp only [Act.put, List.setIfInBounds_toArray, List.set_cons_zero, List.set_cons_succ, List.getElem_toArray, List.getElem_cons_succ, List.getElem_cons_zero])
        refine held_take 8 _ _ rfl (by kernel_rfl) (by kernel_rfl) (by kernel_rfl) (fun _ _ _ h => h) (by rfl) hHeld (fun w hSw => by (try dsimp only at hSw); go_simp; try with_reducible rfl) ?_
        (try simp only [Act.put, List.setIfInBounds_toArray, List.set_cons_zero, List.set_cons_succ, List.getElem_toArray, List.getElem_cons_succ, List.getElem_cons_zero])
        refine wpAnyH_ready (rs := [4]) (by kernel_rfl) (by simp) ?_
        refine AllReadyH.cons rfl (fun K hK => ?_) AllReadyH.nil
        rw [if_pos (by rfl)]
        go_wp2_with (first | (go_at_call 87; (with_reducible refine (c5 _).mono ?_); rintro e wk ⟨rfl, hbk⟩; replace hRow := owns_below hRow hbk))
        refine hK.out _ _ (⟨(hHeld.1).below hbk, keepB54 hsz (hHeld.2) hbk⟩) (fun hHeld1 => ?_)
        clear hK K
        (try simp only [Act.put, List.setIfInBounds_toArray, List.set_cons_zero, List.set_cons_succ, List.getElem_toArray, List.getElem_cons_succ, List.getElem_cons_zero])
        refine wpAnyH_ready (rs := [5]) (by kernel_rfl) (by simp) ?_
        refine AllReadyH.cons rfl (fun K hK => ?_) AllReadyH.nil
        rw [if_pos (by rfl)]
        go_wp2_with (first | (go_at_call 86; (with_reducible refine (co _ _).mono ?_); rintro e wj ⟨rfl, rfl⟩))
        refine hK.out _ _ (hHeld1) (fun hHeld2 => ?_)
        clear hK K
        (try simp only [Act.put, List.setIfInBounds_toArray, List.set_cons_zero, List.set_cons_succ, List.getElem_toArray, List.getElem_cons_succ, List.getElem_cons_zero])
        refine wpAnyH_ready (rs := [9]) (by kernel_rfl) (by simp) ?_
        refine AllReadyH.cons rfl (fun K hK => ?_) AllReadyH.nil
        rw [if_pos (by rfl)]
        go_wp2_with (first | (go_at_call 87; (with_reducible refine (c6 _).mono ?_); rintro e wk ⟨rfl, hbk⟩; replace hRow := owns_below hRow hbk))
        refine hK.out _ _ (⟨(hHeld2.1).below hbk, keepB54 hsz (hHeld2.2) hbk⟩) (fun hHeld3 => ?_)
        clear hK K
        (try simp only [Act.put, List.setIfInBounds_toArray, List.set_cons_zero, List.set_cons_succ, List.getElem_toArray, List.getElem_cons_succ, List.getElem_cons_zero])
        refine wpAnyH_ready (rs := [10]) (by kernel_rfl) (by simp) ?_
        refine AllReadyH.cons rfl (fun K hK => ?_) AllReadyH.nil
        rw [if_pos (by rfl)]
        go_wp2_with (first | (go_at_call 86; (with_reducible refine (co _ _).mono ?_); rintro e wj ⟨rfl, rfl⟩))
        refine hK.out _ _ (hHeld3) (fun hHeld4 => ?_)
        clear hK K
        (try simp only [Act.put, List.setIfInBounds_toArray, List.set_cons_zero, List.set_cons_succ, List.getElem_toArray, List.getElem_cons_succ, List.getElem_cons_zero])
        refine held_take 11 _ _ rfl (by kernel_rfl) (by kernel_rfl) (by kernel_rfl) (fun _ _ _ h => h) (by rfl) hHeld4 (fun w hSw => by (try dsimp only at hSw); go_simp; try with_reducible rfl) ?_
        (try simp only [Act.put, List.setIfInBounds_toArray, List.set_cons_zero, List.set_cons_succ, List.getElem_toArray, List.getElem_cons_succ, List.getElem_cons_zero])
        refine held_take 12 _ _ rfl (by kernel_rfl) (by kernel_rfl) (by kernel_rfl) (fun _ _ _ h => h) (by rfl) hHeld4 (fun w hSw => by (try dsimp only at hSw); go_simp; try with_reducible rfl) ?_
        (try simp only [Act.put, List.setIfInBounds_toArray, List.set_cons_zero, List.set_cons_succ, List.getElem_toArray, List.getElem_cons_succ, List.getElem_cons_zero])
        refine wpAnyH_ready (rs := [13]) (by kernel_rfl) (by simp) ?_
        refine AllReadyH.cons rfl (fun K hK => ?_) AllReadyH.nil
        rw [if_pos (by rfl)]
        have hct := hRow.cellAt k (by omega)
        rw [tabJ_get _ hltn] at hct
        have hfz := hRow.frozenAt k
        have hst := hRow.stored k (.int .i64 (bitI q1 - bitI q2))
        rw [HTS.out] at hst
        replace hst := hst.1
        clear hRow
        go_wp2_with fail
        refine hK.out _ _ (⟨(hHeld4.1).grown (grownBy_setCell _ w4.heap.size k _) (fun e => by have := Option.some.inj e; omega), (hHeld4.2).setCell (p := ⟨w4.heap.size, k, none⟩) (Nat.le_refl _) _⟩) (fun hHeld5 => ?_)
        clear hK K
        (try simp only [Act.put, List.setIfInBounds_toArray, List.set_cons_zero, List.set_cons_succ, List.getElem_toArray, List.getElem_cons_succ, List.getElem_cons_zero])
        refine wpAnyH_done (by kernel_rfl) ?_ _
        have hB2 := (hHeld5).1
        clear c5 c6 hS0
        go_wp2_with fail
        go_roundw
        case rel => exact ⟨k + 1, by omega, by go_num, hst, hB2, HF.out _ (hHeld5).2, HZ.out _ (hHeld5).2⟩
        case measure => simp [intOf]; omega
      · obtain rfl : k = C + 1 := by omega
        have hlti : ¬ (((C + 1 : Nat) : Int)) < ((C + 1 : Nat) : Int) := by omega
        have hlti2 : ¬ (((C + 1 : Nat) : Int)) < (C : Int) + 1 := by omega
        rw [← HR.out.2] at hRow
        have HO := Lib.hid hRow
        clear hRow ch co
        have hbF := hbV.trans ((hb04.trans (hbel.mono hzV)).mono hbV.size)
        have hzw := hb04.size
        go_wp2_with fail
        go_ret
        exact ⟨_, rfl, by rw [HR.out.1]; exact owns_wider HO.out (Nat.le_trans hbV.size hzV), hbF⟩
end Go.Proofs.Ytlinlmmcgifloaa
