/-
  CONTRACT of the reference's MeetOfAll. (Own work; mk81.py.)
-/
import Derived.Test.YtfbfkaphcmngkaaSgMl
import Derived.Test.YtfbfkaphcmngkaaSgMs
import Derived.Test.YtfbfkaphcmngkaaLCp
import Derived.Test.YtfbfkaphcmngkaaL58
import Derived.Test.YtfbfkaphcmngkaaL24
import Derived.Deep.Cut
namespace Go.Proofs.Ytfbfkaphcmngkaa
open Go Go.RowKit

set_option maxRecDepth 100000 in
set_option maxHeartbeats 3200000 in
theorem spec_MeetOfAll (LL : List (List Int)) (a : Option Addr) (cap : Nat) (w : World) (hs : Sl2W w a LL) (hn : LL.length ≤ 1048576) (hw : ∀ L ∈ LL, L.length ≤ 1048576) :
    Calls Try.prog 5 #[.slice a LL.length cap] w (SgPost (mAllL LL) (mAllB LL) w) := by
  obtain ⟨dS, hdS, hrS⟩ := undSg
  obtain ⟨U, hU⟩ : ∃ U, U = w.alloc (.cells [Value.slice none 0 0].toArray 26) := ⟨_, rfl⟩
  have hbU : Below w.heap.size w U := by rw [hU]; exact box_below _ _
  have hU1 : w.heap.size + 1 ≤ U.heap.size := by rw [hU]; simp
  have hAU : Arr U w.heap.size 26 [Value.slice none 0 0] := by rw [hU]; exact Arr.new _ _ _
  have HU := Lib.hid hU
  have HS := Lib.hid (fun w2 (h : Below w.heap.size w w2) => hs.below h)
  have HW := Lib.hid hw
  clear hU hs hw
  by_cases h0 : LL.length = 0
  · have hz : ((LL.length : Int) == 0) = true := by rw [h0]; rfl
    have HB : Hid (mAllB LL = false) := Lib.hid (mAll_none h0).1
    have HL : Hid (mAllL LL = []) := Lib.hid (mAll_none h0).2
    clear h0
    go_enter Try.func5, Try.ntmps5
    go_upto_region 1 with (first | (refine wpList_alloc_arr 26 [Value.slice none 0 0] zeroSg rfl rfl ?_; rw [← HU.out]))
    go_wp2_with (first | (refine wpList_store_arr 26 (.tmp 2) (.tmp 18) w.heap.size [Value.slice none 0 0] [Value.slice none 0 0] rfl rfl rfl rfl hAU rfl sizeSg (by simp [Value.oneCell']) ?_; intro w9 hA9 hg9 hz9; clear hz9))
    have hb9 := hbU.grown hg9 hbU.size (fun k hk => by cases hk; exact Nat.le_refl _)
    exact bodyPost_ret (results_arr_tmp rfl _ _ w.heap.size [Value.slice none 0 0] dS rfl hA9 hdS hrS sizeSg) rfl ⟨_, by rw [HB.out]; rfl, by rw [HL.out]; exact World.ownsRow_nil _ _ _ _, hb9⟩
  · have hpos : 0 < LL.length := by omega
    have hz : ((LL.length : Int) == 0) = false := by rw [beq_eq_false_iff_ne]; omega
    have hzi : (0 : Int) < (LL.length : Int) := by omega
    obtain ⟨b, o, p, c, ea, hl1, hc1, hsw⟩ := (HS.out w (Below.refl _ _)).at hpos
    subst ea
    have HSW := Lib.hid (fun w2 (h : Below w.heap.size w w2) => hsw.below h)
    rw [Nat.add_zero] at hc1
    have hw0 := HW.out LL[0] (List.getElem_mem hpos)
    have c1 := spec_IsSemigroup LL[0] p c U (HSW.out U hbU).sl (by omega)
    have hcU := (hbU.cell (p := ⟨b, o, none⟩) hl1).trans hc1
    cases hsg : isSgB LL[0]
    · have HB : Hid (mAllB LL = false) := Lib.hid (mAll_fail hpos (by rw [(mRun_one hpos).1]; exact hsg)).1
      have HL : Hid (mAllL LL = []) := Lib.hid (mAll_fail hpos (by rw [(mRun_one hpos).1]; exact hsg)).2
      rw [hsg] at c1
      clear hsg hsw
      go_enter Try.func5, Try.ntmps5
      go_upto_region 1 with (first | (refine wpList_alloc_arr 26 [Value.slice none 0 0] zeroSg rfl rfl ?_; rw [← HU.out]))
      go_wp2_with fail
      refine c1.mono ?_
      rintro e w1 ⟨rfl, hb1⟩
      have hb1U := hbU.trans (hb1.mono hbU.size)
      have hA21 := hAU.below hb1
      clear c1 hcU
      go_wp2_with (first | (refine wpList_store_arr 26 (.tmp 2) (.tmp 18) w.heap.size [Value.slice none 0 0] [Value.slice none 0 0] rfl rfl rfl rfl hA21 rfl sizeSg (by simp [Value.oneCell']) ?_; intro w9 hA9 hg9 hz9; clear hz9))
      have hb9 := hb1U.grown hg9 hb1U.size (fun k hk => by cases hk; exact Nat.le_refl _)
      exact bodyPost_ret (results_arr_tmp rfl _ _ w.heap.size [Value.slice none 0 0] dS rfl hA9 hdS hrS sizeSg) rfl ⟨_, by rw [HB.out]; rfl, by rw [HL.out]; exact World.ownsRow_nil _ _ _ _, hb9⟩
    · have HSG := Lib.hid hsg
      rw [hsg] at c1
      clear hsg hsw
      go_enter Try.func5, Try.ntmps5
      go_upto_region 1 with (first | (refine wpList_alloc_arr 26 [Value.slice none 0 0] zeroSg rfl rfl ?_; rw [← HU.out]))
      go_wp2_with fail
      refine c1.mono ?_
      rintro e w1 ⟨rfl, hb1⟩
      have hb1U := hbU.trans (hb1.mono hbU.size)
      have hc1w := (hb1.cell (p := ⟨b, o, none⟩) (Nat.lt_of_lt_of_le hl1 hbU.size)).trans hcU
      clear hcU hc1
      have c2 := l3Copy_any LL[0] p c w1 ((HSW.out w1 hb1U)) (by omega)
      clear c1
      go_wp2_with fail
      refine c2.mono ?_
      rintro e w2 ⟨v, rfl, ho, hb2⟩
      obtain ⟨p0, q0, rfl, -⟩ := row_open ho
      have hb2w := hb1U.trans (hb2.mono hb1U.size)
      have hA22 := (hAU.below hb1).below hb2
      have hz2 := hb2.size
      obtain ⟨X, hX⟩ : ∃ X, X = w2.alloc (.cells #[.slice p0 LL[0].length q0] 26) := ⟨_, rfl⟩
      have hbX : Below w.heap.size w X := by rw [hX]; exact hb2w.alloc hb2w.size _
      have hNX : Arr X w2.heap.size 26 [.slice p0 LL[0].length q0] := by rw [hX]; exact Arr.new _ _ _
      have hA2X := hA22.alloc (.cells #[.slice p0 LL[0].length q0] 26)
      have hoX : X.ownsRow (w.heap.size + 1) 3 1 (.slice p0 LL[0].length q0) LL[0].length (LL[0].map (Value.int .i64)) := by rw [hX]; exact (ownsBase ho (by have := hb1.size; omega)).alloc _
      have HR1 : Hid ((mRun LL 1).1 = LL[0]) := Lib.hid ((mRun_one hpos).2 HSG.out)
      have HR2 : Hid ((mRun LL 1).2 = true) := Lib.hid (by rw [(mRun_one hpos).1]; exact HSG.out)
      rw [← hX] at hA2X
      have hN4w : w.heap.size + 1 ≤ w2.heap.size := by have := hb1.size; omega
      have HX := Lib.hid hX
      have HNX0 := Lib.hid (show Arr X w2.heap.size 26 [.slice p0 (mRun LL 1).1.length q0] by rw [HR1.out]; exact hNX)
      have HOX := Lib.hid (show X.ownsRow (w.heap.size + 1) 3 1 (.slice p0 (mRun LL 1).1.length q0) (mRun LL 1).1.length ((mRun LL 1).1.map (Value.int .i64)) by rw [HR1.out]; exact hoX)
      have HAX := Lib.hid hA2X
      have hcX := hNX.cell 0
      clear c2 ho hb2 hb1 hA22 hA2X hoX hX hNX hAU hb2w hcX
      go_upto_region 4 with fail
      rw [← HX.out]
      go_wp2_with fail
      go_loopw [5] (fun i wr => ∃ (k : Nat) (p : Option Addr) (q : Nat), 1 ≤ k ∧ k ≤ LL.length ∧ i = .int .i64 (k : Int) ∧ Hid ((mRun LL k).2 = true) ∧ Hid (Arr wr w2.heap.size 26 [.slice p (mRun LL k).1.length q]) ∧ Hid (wr.ownsRow (w.heap.size + 1) 3 1 (.slice p (mRun LL k).1.length q) (mRun LL k).1.length ((mRun LL k).1.map (Value.int .i64))) ∧ Hid (Arr wr w.heap.size 26 [Value.slice none 0 0]) ∧ Below w.heap.size w wr) (fun i _ => LL.length - (intOf i).toNat)
      case atStart => exact ⟨1, p0, q0, Nat.le_refl _, hpos, rfl, HR2, HNX0, HOX, HAX, hbX⟩
      case round =>
        rename World => wr
        obtain ⟨k, p, q, hk1, hk, rfl, HK2, HN, HO, HA, hbel⟩ := hrel
        have hsz := hbel.size
        by_cases hlt : k < LL.length
        · obtain ⟨b2, o2, p2, q2, e, hl2, hc2, hs2⟩ := (HS.out wr hbel).sl2.at hlt
          cases e
          have hlti : (k : Int) < (LL.length : Int) := by omega
          have hk0 : (0 : Int) ≤ (k : Int) := by omega
          have hwl := HW.out LL[k] (List.getElem_mem hlt)
          have hA12 := mRun_len LL hk
          have HNX : Hid (mRun LL (k + 1) = (meetL (mRun LL k).1 LL[k], meetB (mRun LL k).1 LL[k])) := Lib.hid (mRun_next hlt)
          have HFA := Lib.hid (fun (h : (mRun LL (k + 1)).2 = false) => mAll_fail hlt h)
          have hN4 := HN.out
          have hA2 := HA.out
          obtain ⟨p', q', e, -, -, hsA, -⟩ := SlV.of_owns HO.out
          cases e
          have hNl := hN4.lt
          have hN4c := hN4.cell 0
          have c3 := fun w' (h : Below wr.heap.size wr w') => spec_MeetOf (mRun LL k).1 LL[k] p q p2 q2 w' (hsA.below h) (hs2.below h) (by omega) (by omega)
          have HKr0 : ∀ w', Below wr.heap.size wr w' → w'.cell? ⟨w2.heap.size, 0, none⟩ = some (.slice p (mRun LL k).1.length q) ∧ w'.cell? ⟨b, o + k, none⟩ = some (.slice p2 LL[k].length q2) ∧ Below wr.heap.size wr w' := fun w' h => ⟨(h.cell (p := ⟨w2.heap.size, 0, none⟩) hNl).trans hN4c, (h.cell (p := ⟨b, o + k, none⟩) hl2).trans hc2, h⟩
          clear hsA hs2 hc2
          generalize hAe : (mRun LL k).1 = A at *
          generalize LL[k] = G at *
          have HKr := Lib.hid HKr0
          have hS0 := HKr.out _ (Below.refl wr.heap.size wr).drew
          clear HKr0
          cases hm : meetB A G
          · have HB : Hid (mAllB LL = false) := Lib.hid (HFA.out (by rw [HNX.out, hm])).1
            have HL : Hid (mAllL LL = []) := Lib.hid (HFA.out (by rw [HNX.out, hm])).2
            rw [hm] at c3
            clear hm HFA HNX hAe
            go_wp2_with fail
            refine wp_region_held_drew (S := fun w' => w'.cell? ⟨w2.heap.size, 0, none⟩ = some (.slice p A.length q) ∧ w'.cell? ⟨b, o + k, none⟩ = some (.slice p2 G.length q2) ∧ Below wr.heap.size wr w') (by kernel_rfl) hS0 (fun hHeld => ?_)
            generalize wr.drew = wd at *
            refine held_take 0 _ _ rfl (by kernel_rfl) (by kernel_rfl) (by kernel_rfl) (fun _ _ _ h => h) (by rfl) hHeld (fun w hSw => by (try dsimp only at hSw); go_simp; try with_reducible rfl) ?_
            (try simp only [Act.put, List.setIfInBounds_toArray, List.set_cons_zero, List.set_cons_succ, List.getElem_toArray, List.getElem_cons_zero])
            refine held_take 1 _ _ rfl (by kernel_rfl) (by kernel_rfl) (by kernel_rfl) (fun _ _ _ h => h) (by rfl) hHeld (fun w hSw => by (try dsimp only at hSw); go_simp; try with_reducible rfl) ?_
            (try simp only [Act.put, List.setIfInBounds_toArray, List.set_cons_zero, List.set_cons_succ, List.getElem_toArray, List.getElem_cons_succ, List.getElem_cons_zero])
            refine held_take 2 _ _ rfl (by kernel_rfl) (by kernel_rfl) (by kernel_rfl) (fun _ _ _ h => h) (by rfl) hHeld (fun w hSw => by (try dsimp only at hSw); go_simp; try with_reducible rfl) ?_
            (try simp only [Act.put, List.setIfInBounds_toArray, List.set_cons_zero, List.set_cons_succ, List.getElem_toArray, List.getElem_cons_succ, List.getElem_cons_zero])
            refine held_take 3 _ _ rfl (by kernel_rfl) (by kernel_rfl) (by kernel_rfl) (fun _ _ _ h => h) (by rfl) hHeld (fun w hSw => by (try dsimp only at hSw); go_simp; try with_reducible rfl) ?_
            (try simp only [Act.put, List.setIfInBounds_toArray, List.set_cons_zero, List.set_cons_succ, List.getElem_toArray, List.getElem_cons_succ, List.getElem_cons_zero])
            refine held_take 4 _ _ rfl (by kernel_rfl) (by kernel_rfl) (by kernel_rfl) (fun _ _ _ h => h) (by rfl) hHeld (fun w hSw => by (try dsimp only at hSw); go_simp; try with_reducible rfl) ?_
            (try simp only [Act.put, List.setIfInBounds_toArray, List.set_cons_zero, List.set_cons_succ, List.getElem_toArray, List.getElem_cons_succ, List.getElem_cons_zero])
            refine wpAnyH_ready (rs := [5, 9]) (by kernel_rfl) (by simp) ?_
            refine AllReadyH.cons rfl (fun K hK => ?_) (AllReadyH.cons rfl (fun K hK => ?_) AllReadyH.nil)
            · rw [if_pos (by rfl)]
              go_wp2_with (first | (go_at_call 16; (with_reducible refine (c3 _ (hHeld).2.2).mono ?_); rintro e w5 ⟨v, rfl, ho, hb6⟩; obtain ⟨lo_v, hi_v, a3, k3, rfl, hlo1, hlo2, hhi, rX⟩ := row_named (hHeld).2.2.size ho; clear ho; try (have hap : t_v < lo_v ∨ hi_v ≤ t_v := .inl (by have := hT.lt; omega); replace hT := hT.below hb6)))
              refine hK.out _ _ (HKr.out _ ((hHeld).2.2.trans (hb6.mono (hHeld).2.2.size))) (fun hHeld1 => ?_)
              clear hK K
              (try simp only [Act.put, List.setIfInBounds_toArray, List.set_cons_zero, List.set_cons_succ, List.getElem_toArray, List.getElem_cons_succ, List.getElem_cons_zero])
              refine held_take 6 _ _ rfl (by kernel_rfl) (by kernel_rfl) (by kernel_rfl) (fun _ _ _ h => h) (by rfl) hHeld1 (fun w hSw => by (try dsimp only at hSw); go_simp; try with_reducible rfl) ?_
              (try simp only [Act.put, List.setIfInBounds_toArray, List.set_cons_zero, List.set_cons_succ, List.getElem_toArray, List.getElem_cons_succ, List.getElem_cons_zero])
              refine held_take 7 _ _ rfl (by kernel_rfl) (by kernel_rfl) (by kernel_rfl) (fun _ _ _ h => h) (by rfl) hHeld1 (fun w hSw => by (try dsimp only at hSw); go_simp; try with_reducible rfl) ?_
              (try simp only [Act.put, List.setIfInBounds_toArray, List.set_cons_zero, List.set_cons_succ, List.getElem_toArray, List.getElem_cons_succ, List.getElem_cons_zero])
              refine held_take 8 _ _ rfl (by kernel_rfl) (by kernel_rfl) (by kernel_rfl) (fun _ _ _ h => h) (by rfl) hHeld1 (fun w hSw => by (try dsimp only at hSw); go_simp; try with_reducible rfl) ?_
              (try simp only [Act.put, List.setIfInBounds_toArray, List.set_cons_zero, List.set_cons_succ, List.getElem_toArray, List.getElem_cons_succ, List.getElem_cons_zero])
              refine wpAnyH_ready (rs := [9]) (by kernel_rfl) (by simp) ?_
              refine AllReadyH.cons rfl (fun K hK => ?_) AllReadyH.nil
              rw [if_pos (by rfl)]
              obtain ⟨t_v, et, hT, htV⟩ := newSgNamed (hHeld1).2.2
              try (have hap : t_v < lo_v ∨ hi_v ≤ t_v := .inr (by have := rX.hi_le; omega))
              try replace rX := rX.below (box_below _ (.cells [Value.slice none 0 0].toArray 26))
              refine wp_alloc_arr 26 [Value.slice none 0 0] zeroSg (by rfl) ?_
              rw [← et]
              clear et
              refine hK.out _ _ (HKr.out _ ((hHeld1).2.2.alloc (hHeld1).2.2.size _)) (fun hHeld2 => ?_)
              clear hK K
              (try simp only [Act.put, List.setIfInBounds_toArray, List.set_cons_zero, List.set_cons_succ, List.getElem_toArray, List.getElem_cons_succ, List.getElem_cons_zero])
              refine wpAnyH_ready (rs := [10]) (by kernel_rfl) (by simp) ?_
              refine AllReadyH.cons rfl (fun K hK => ?_) AllReadyH.nil
              rw [if_pos (by rfl)]
              refine wp_store_arr 26 (.tmp 6) (.tmp 36) _ [Value.slice none 0 0] [.slice a3 (meetL A G).length k3] (by rfl) (by rfl) (by rfl) hT rfl sizeSg (by simp [Value.oneCell']) ?_
              intro w7 hN7 hg7
              refine hK.out _ _ (HKr.out _ ((hHeld2).2.2.grown hg7 (hHeld2).2.2.size (fun j hj => by cases hj; exact htV))) (fun hHeld3 => ?_)
              clear hK K
              (try simp only [Act.put, List.getElem_toArray, List.getElem_cons_succ, List.getElem_cons_zero])
              refine held_take 11 _ _ rfl (by kernel_rfl) (by kernel_rfl) (by kernel_rfl) (fun _ _ _ h => h) (by rfl) hHeld3 (fun w hSw => by (try dsimp only at hSw); go_simp; try with_reducible rfl) ?_
              (try simp only [Act.put, List.setIfInBounds_toArray, List.set_cons_zero, List.set_cons_succ, List.getElem_toArray, List.getElem_cons_succ, List.getElem_cons_zero])
              refine wpAnyH_done (by kernel_rfl) ?_ _
              have hbG := (hHeld3).2.2
              have r7 := rX.grown hg7 (fun j hj => by cases hj; exact hap)
              have hN7c := hN7.cell 0
              have hbF := hbel.trans (hbG.mono hsz)
              have hA2F := hA2.below hbG
              have hN4F := hN4.below hbG
              clear hS0 HKr hHeld3 hg7 rX hT hb6
              go_wp2_with (first | (refine wpList_store_arr 26 (.tmp 2) (.tmp 40) w.heap.size [Value.slice none 0 0] [Value.slice none 0 0] rfl rfl rfl rfl hA2F rfl sizeSg (by simp [Value.oneCell']) ?_; intro w9 hA9 hg9 hz9; clear hz9))
              have hb9 := hbF.grown hg9 hbF.size (fun k hk => by cases hk; exact Nat.le_refl _)
              exact bodyPost_ret (results_arr_tmp rfl _ _ w.heap.size [Value.slice none 0 0] dS rfl hA9 hdS hrS sizeSg) rfl ⟨_, by rw [HB.out]; rfl, by rw [HL.out]; exact World.ownsRow_nil _ _ _ _, hb9⟩
            · rw [if_pos (by rfl)]
              obtain ⟨t_v, et, hT, htV⟩ := newSgNamed (hHeld).2.2
              try (have hap : t_v < lo_v ∨ hi_v ≤ t_v := .inr (by have := rX.hi_le; omega))
              try replace rX := rX.below (box_below _ (.cells [Value.slice none 0 0].toArray 26))
              refine wp_alloc_arr 26 [Value.slice none 0 0] zeroSg (by rfl) ?_
              rw [← et]
              clear et
              refine hK.out _ _ (HKr.out _ ((hHeld).2.2.alloc (hHeld).2.2.size _)) (fun hHeld1 => ?_)
              clear hK K
              (try simp only [Act.put, List.setIfInBounds_toArray, List.set_cons_zero, List.set_cons_succ, List.getElem_toArray, List.getElem_cons_succ, List.getElem_cons_zero])
              refine wpAnyH_ready (rs := [5]) (by kernel_rfl) (by simp) ?_
              refine AllReadyH.cons rfl (fun K hK => ?_) AllReadyH.nil
              rw [if_pos (by rfl)]
              go_wp2_with (first | (go_at_call 16; (with_reducible refine (c3 _ (hHeld1).2.2).mono ?_); rintro e w5 ⟨v, rfl, ho, hb6⟩; obtain ⟨lo_v, hi_v, a3, k3, rfl, hlo1, hlo2, hhi, rX⟩ := row_named (hHeld1).2.2.size ho; clear ho; try (have hap : t_v < lo_v ∨ hi_v ≤ t_v := .inl (by have := hT.lt; omega); replace hT := hT.below hb6)))
              refine hK.out _ _ (HKr.out _ ((hHeld1).2.2.trans (hb6.mono (hHeld1).2.2.size))) (fun hHeld2 => ?_)
              clear hK K
              (try simp only [Act.put, List.setIfInBounds_toArray, List.set_cons_zero, List.set_cons_succ, List.getElem_toArray, List.getElem_cons_succ, List.getElem_cons_zero])
              refine held_take 6 _ _ rfl (by kernel_rfl) (by kernel_rfl) (by kernel_rfl) (fun _ _ _ h => h) (by rfl) hHeld2 (fun w hSw => by (try dsimp only at hSw); go_simp; try with_reducible rfl) ?_
              (try simp only [Act.put, List.setIfInBounds_toArray, List.set_cons_zero, List.set_cons_succ, List.getElem_toArray, List.getElem_cons_succ, List.getElem_cons_zero])
              refine held_take 7 _ _ rfl (by kernel_rfl) (by kernel_rfl) (by kernel_rfl) (fun _ _ _ h => h) (by rfl) hHeld2 (fun w hSw => by (try dsimp only at hSw); go_simp; try with_reducible rfl) ?_
              (try simp only [Act.put, List.setIfInBounds_toArray, List.set_cons_zero, List.set_cons_succ, List.getElem_toArray, List.getElem_cons_succ, List.getElem_cons_zero])
              refine held_take 8 _ _ rfl (by kernel_rfl) (by kernel_rfl) (by kernel_rfl) (fun _ _ _ h => h) (by rfl) hHeld2 (fun w hSw => by (try dsimp only at hSw); go_simp; try with_reducible rfl) ?_
              (try simp only [Act.put, List.setIfInBounds_toArray, List.set_cons_zero, List.set_cons_succ, List.getElem_toArray, List.getElem_cons_succ, List.getElem_cons_zero])
              refine wpAnyH_ready (rs := [10]) (by kernel_rfl) (by simp) ?_
              refine AllReadyH.cons rfl (fun K hK => ?_) AllReadyH.nil
              rw [if_pos (by rfl)]
              refine wp_store_arr 26 (.tmp 6) (.tmp 36) _ [Value.slice none 0 0] [.slice a3 (meetL A G).length k3] (by rfl) (by rfl) (by rfl) hT rfl sizeSg (by simp [Value.oneCell']) ?_
              intro w7 hN7 hg7
              refine hK.out _ _ (HKr.out _ ((hHeld2).2.2.grown hg7 (hHeld2).2.2.size (fun j hj => by cases hj; exact htV))) (fun hHeld3 => ?_)
              clear hK K
              (try simp only [Act.put, List.getElem_toArray, List.getElem_cons_succ, List.getElem_cons_zero])
              refine held_take 11 _ _ rfl (by kernel_rfl) (by kernel_rfl) (by kernel_rfl) (fun _ _ _ h => h) (by rfl) hHeld3 (fun w hSw => by (try dsimp only at hSw); go_simp; try with_reducible rfl) ?_
              (try simp only [Act.put, List.setIfInBounds_toArray, List.set_cons_zero, List.set_cons_succ, List.getElem_toArray, List.getElem_cons_succ, List.getElem_cons_zero])
              refine wpAnyH_done (by kernel_rfl) ?_ _
              have hbG := (hHeld3).2.2
              have r7 := rX.grown hg7 (fun j hj => by cases hj; exact hap)
              have hN7c := hN7.cell 0
              have hbF := hbel.trans (hbG.mono hsz)
              have hA2F := hA2.below hbG
              have hN4F := hN4.below hbG
              clear hS0 HKr hHeld3 hg7 rX hT hb6
              go_wp2_with (first | (refine wpList_store_arr 26 (.tmp 2) (.tmp 40) w.heap.size [Value.slice none 0 0] [Value.slice none 0 0] rfl rfl rfl rfl hA2F rfl sizeSg (by simp [Value.oneCell']) ?_; intro w9 hA9 hg9 hz9; clear hz9))
              have hb9 := hbF.grown hg9 hbF.size (fun k hk => by cases hk; exact Nat.le_refl _)
              exact bodyPost_ret (results_arr_tmp rfl _ _ w.heap.size [Value.slice none 0 0] dS rfl hA9 hdS hrS sizeSg) rfl ⟨_, by rw [HB.out]; rfl, by rw [HL.out]; exact World.ownsRow_nil _ _ _ _, hb9⟩
          · rw [hm] at c3
            have hm' := hm
            clear hm HFA hAe
            have HM := Lib.hid hm'
            go_wp2_with fail
            refine wp_region_held_drew (S := fun w' => w'.cell? ⟨w2.heap.size, 0, none⟩ = some (.slice p A.length q) ∧ w'.cell? ⟨b, o + k, none⟩ = some (.slice p2 G.length q2) ∧ Below wr.heap.size wr w') (by kernel_rfl) hS0 (fun hHeld => ?_)
            generalize wr.drew = wd at *
            refine held_take 0 _ _ rfl (by kernel_rfl) (by kernel_rfl) (by kernel_rfl) (fun _ _ _ h => h) (by rfl) hHeld (fun w hSw => by (try dsimp only at hSw); go_simp; try with_reducible rfl) ?_
            (try simp only [Act.put, List.setIfInBounds_toArray, List.set_cons_zero, List.set_cons_succ, List.getElem_toArray, List.getElem_cons_zero])
            refine held_take 1 _ _ rfl (by kernel_rfl) (by kernel_rfl) (by kernel_rfl) (fun _ _ _ h => h) (by rfl) hHeld (fun w hSw => by (try dsimp only at hSw); go_simp; try with_reducible rfl) ?_
            (try simp only [Act.put, List.setIfInBounds_toArray, List.set_cons_zero, List.set_cons_succ, List.getElem_toArray, List.getElem_cons_succ, List.getElem_cons_zero])
            refine held_take 2 _ _ rfl (by kernel_rfl) (by kernel_rfl) (by kernel_rfl) (fun _ _ _ h => h) (by rfl) hHeld (fun w hSw => by (try dsimp only at hSw); go_simp; try with_reducible rfl) ?_
            (try simp only [Act.put, List.setIfInBounds_toArray, List.set_cons_zero, List.set_cons_succ, List.getElem_toArray, List.getElem_cons_succ, List.getElem_cons_zero])
            refine held_take 3 _ _ rfl (by kernel_rfl) (by kernel_rfl) (by kernel_rfl) (fun _ _ _ h => h) (by rfl) hHeld (fun w hSw => by (try dsimp only at hSw); go_simp; try with_reducible rfl) ?_
            (try simp only [Act.put, List.setIfInBounds_toArray, List.set_cons_zero, List.set_cons_succ, List.getElem_toArray, List.getElem_cons_succ, List.getElem_cons_zero])
            refine held_take 4 _ _ rfl (by kernel_rfl) (by kernel_rfl) (by kernel_rfl) (fun _ _ _ h => h) (by rfl) hHeld (fun w hSw => by (try dsimp only at hSw); go_simp; try with_reducible rfl) ?_
            (try simp only [Act.put, List.setIfInBounds_toArray, List.set_cons_zero, List.set_cons_succ, List.getElem_toArray, List.getElem_cons_succ, List.getElem_cons_zero])
            refine wpAnyH_ready (rs := [5, 9]) (by kernel_rfl) (by simp) ?_
            refine AllReadyH.cons rfl (fun K hK => ?_) (AllReadyH.cons rfl (fun K hK => ?_) AllReadyH.nil)
            · rw [if_pos (by rfl)]
              go_wp2_with (first | (go_at_call 16; (with_reducible refine (c3 _ (hHeld).2.2).mono ?_); rintro e w5 ⟨v, rfl, ho, hb6⟩; obtain ⟨lo_v, hi_v, a3, k3, rfl, hlo1, hlo2, hhi, rX⟩ := row_named (hHeld).2.2.size ho; clear ho; try (have hap : t_v < lo_v ∨ hi_v ≤ t_v := .inl (by have := hT.lt; omega); replace hT := hT.below hb6)))
              refine hK.out _ _ (HKr.out _ ((hHeld).2.2.trans (hb6.mono (hHeld).2.2.size))) (fun hHeld1 => ?_)
              clear hK K
              (try simp only [Act.put, List.setIfInBounds_toArray, List.set_cons_zero, List.set_cons_succ, List.getElem_toArray, List.getElem_cons_succ, List.getElem_cons_zero])
              refine held_take 6 _ _ rfl (by kernel_rfl) (by kernel_rfl) (by kernel_rfl) (fun _ _ _ h => h) (by rfl) hHeld1 (fun w hSw => by (try dsimp only at hSw); go_simp; try with_reducible rfl) ?_
              (try simp only [Act.put, List.setIfInBounds_toArray, List.set_cons_zero, List.set_cons_succ, List.getElem_toArray, List.getElem_cons_succ, List.getElem_cons_zero])
              refine held_take 7 _ _ rfl (by kernel_rfl) (by kernel_rfl) (by kernel_rfl) (fun _ _ _ h => h) (by rfl) hHeld1 (fun w hSw => by (try dsimp only at hSw); go_simp; try with_reducible rfl) ?_
              (try simp only [Act.put, List.setIfInBounds_toArray, List.set_cons_zero, List.set_cons_succ, List.getElem_toArray, List.getElem_cons_succ, List.getElem_cons_zero])
              refine held_take 8 _ _ rfl (by kernel_rfl) (by kernel_rfl) (by kernel_rfl) (fun _ _ _ h => h) (by rfl) hHeld1 (fun w hSw => by (try dsimp only at hSw); go_simp; try with_reducible rfl) ?_
              (try simp only [Act.put, List.setIfInBounds_toArray, List.set_cons_zero, List.set_cons_succ, List.getElem_toArray, List.getElem_cons_succ, List.getElem_cons_zero])
              refine wpAnyH_ready (rs := [9]) (by kernel_rfl) (by simp) ?_
              refine AllReadyH.cons rfl (fun K hK => ?_) AllReadyH.nil
              rw [if_pos (by rfl)]
              obtain ⟨t_v, et, hT, htV⟩ := newSgNamed (hHeld1).2.2
              try (have hap : t_v < lo_v ∨ hi_v ≤ t_v := .inr (by have := rX.hi_le; omega))
              try replace rX := rX.below (box_below _ (.cells [Value.slice none 0 0].toArray 26))
              refine wp_alloc_arr 26 [Value.slice none 0 0] zeroSg (by rfl) ?_
              rw [← et]
              clear et
              refine hK.out _ _ (HKr.out _ ((hHeld1).2.2.alloc (hHeld1).2.2.size _)) (fun hHeld2 => ?_)
              clear hK K
              (try simp only [Act.put, List.setIfInBounds_toArray, List.set_cons_zero, List.set_cons_succ, List.getElem_toArray, List.getElem_cons_succ, List.getElem_cons_zero])
              refine wpAnyH_ready (rs := [10]) (by kernel_rfl) (by simp) ?_
              refine AllReadyH.cons rfl (fun K hK => ?_) AllReadyH.nil
              rw [if_pos (by rfl)]
              refine wp_store_arr 26 (.tmp 6) (.tmp 36) _ [Value.slice none 0 0] [.slice a3 (meetL A G).length k3] (by rfl) (by rfl) (by rfl) hT rfl sizeSg (by simp [Value.oneCell']) ?_
              intro w7 hN7 hg7
              refine hK.out _ _ (HKr.out _ ((hHeld2).2.2.grown hg7 (hHeld2).2.2.size (fun j hj => by cases hj; exact htV))) (fun hHeld3 => ?_)
              clear hK K
              (try simp only [Act.put, List.getElem_toArray, List.getElem_cons_succ, List.getElem_cons_zero])
              refine held_take 11 _ _ rfl (by kernel_rfl) (by kernel_rfl) (by kernel_rfl) (fun _ _ _ h => h) (by rfl) hHeld3 (fun w hSw => by (try dsimp only at hSw); go_simp; try with_reducible rfl) ?_
              (try simp only [Act.put, List.setIfInBounds_toArray, List.set_cons_zero, List.set_cons_succ, List.getElem_toArray, List.getElem_cons_succ, List.getElem_cons_zero])
              refine wpAnyH_done (by kernel_rfl) ?_ _
              have hbG := (hHeld3).2.2
              have r7 := rX.grown hg7 (fun j hj => by cases hj; exact hap)
              have hN7c := hN7.cell 0
              have hbF := hbel.trans (hbG.mono hsz)
              have hA2F := hA2.below hbG
              have hN4F := hN4.below hbG
              have ho7 : w7.ownsRow (w.heap.size + 1) 3 1 (.slice a3 (meetL A G).length k3) (meetL A G).length ((meetL A G).map (Value.int .i64)) := ownsBase r7.own (by omega)
              have hne7 : (Value.slice a3 (meetL A G).length k3).ownBlock ≠ some w2.heap.size := fun e => by have := (r7.own.lt _ e).1; omega
              clear hS0 HKr hHeld3 hg7 rX hT hb6 hN4 hA2
              go_wp2_with (first | (refine wpList_store_arr 26 (.tmp 4) (.tmp 41) w2.heap.size [.slice p A.length q] [.slice a3 (meetL A G).length k3] rfl rfl rfl rfl hN4F rfl sizeSg (by simp [Value.oneCell']) ?_; intro w9 hN9 hg9 hz9; clear hz9))
              have hb9 := hbF.grown hg9 hbF.size (fun k hk => by cases hk; omega)
              have hA29 := hA2F.grown hg9 (fun e => by injection e with e; omega)
              have ho9 := ho7.kept hg9 (.inr hne7)
              have HO9 := Lib.hid ho9
              have HN9 := Lib.hid hN9
              have HA9 := Lib.hid hA29
              clear ho7 ho9 hA29 hN9 hA2F hN4F hN7c hg9
              go_roundw
              case rel => exact ⟨k + 1, a3, k3, by omega, by omega, by go_num, Lib.hid (by rw [HNX.out, HM.out]), Lib.hid (by rw [HNX.out]; exact HN9.out), Lib.hid (by rw [HNX.out]; exact HO9.out), HA9, hb9⟩
              case measure => simp [intOf]; omega
            · rw [if_pos (by rfl)]
              obtain ⟨t_v, et, hT, htV⟩ := newSgNamed (hHeld).2.2
              try (have hap : t_v < lo_v ∨ hi_v ≤ t_v := .inr (by have := rX.hi_le; omega))
              try replace rX := rX.below (box_below _ (.cells [Value.slice none 0 0].toArray 26))
              refine wp_alloc_arr 26 [Value.slice none 0 0] zeroSg (by rfl) ?_
              rw [← et]
              clear et
              refine hK.out _ _ (HKr.out _ ((hHeld).2.2.alloc (hHeld).2.2.size _)) (fun hHeld1 => ?_)
              clear hK K
              (try simp only [Act.put, List.setIfInBounds_toArray, List.set_cons_zero, List.set_cons_succ, List.getElem_toArray, List.getElem_cons_succ, List.getElem_cons_zero])
              refine wpAnyH_ready (rs := [5]) (by kernel_rfl) (by simp) ?_
              refine AllReadyH.cons rfl (fun K hK => ?_) AllReadyH.nil
              rw [if_pos (by rfl)]
              go_wp2_with (first | (go_at_call 16; (with_reducible refine (c3 _ (hHeld1).2.2).mono ?_); rintro e w5 ⟨v, rfl, ho, hb6⟩; obtain ⟨lo_v, hi_v, a3, k3, rfl, hlo1, hlo2, hhi, rX⟩ := row_named (hHeld1).2.2.size ho; clear ho; try (have hap : t_v < lo_v ∨ hi_v ≤ t_v := .inl (by have := hT.lt; omega); replace hT := hT.below hb6)))
              refine hK.out _ _ (HKr.out _ ((hHeld1).2.2.trans (hb6.mono (hHeld1).2.2.size))) (fun hHeld2 => ?_)
              clear hK K
              (try simp only [Act.put, List.setIfInBounds_toArray, List.set_cons_zero, List.set_cons_succ, List.getElem_toArray, List.getElem_cons_succ, List.getElem_cons_zero])
              refine held_take 6 _ _ rfl (by kernel_rfl) (by kernel_rfl) (by kernel_rfl) (fun _ _ _ h => h) (by rfl) hHeld2 (fun w hSw => by (try dsimp only at hSw); go_simp; try with_reducible rfl) ?_
              (try simp only [Act.put, List.setIfInBounds_toArray, List.set_cons_zero, List.set_cons_succ, List.getElem_toArray, List.getElem_cons_succ, List.getElem_cons_zero])
              refine held_take 7 _ _ rfl (by kernel_rfl) (by kernel_rfl) (by kernel_rfl) (fun _ _ _ h => h) (by rfl) hHeld2 (fun w hSw => by (try dsimp only at hSw); go_simp; try with_reducible rfl) ?_
              (try simp only [Act.put, List.setIfInBounds_toArray, List.set_cons_zero, List.set_cons_succ, List.getElem_toArray, List.getElem_cons_succ, List.getElem_cons_zero])
              refine held_take 8 _ _ rfl (by kernel_rfl) (by kernel_rfl) (by kernel_rfl) (fun _ _ _ h => h) (by rfl) hHeld2 (fun w hSw => by (try dsimp only at hSw); go_simp; try with_reducible rfl) ?_
              (try simp only [Act.put, List.setIfInBounds_toArray, List.set_cons_zero, List.set_cons_succ, List.getElem_toArray, List.getElem_cons_succ, List.getElem_cons_zero])
              refine wpAnyH_ready (rs := [10]) (by kernel_rfl) (by simp) ?_
              refine AllReadyH.cons rfl (fun K hK => ?_) AllReadyH.nil
              rw [if_pos (by rfl)]
              refine wp_store_arr 26 (.tmp 6) (.tmp 36) _ [Value.slice none 0 0] [.slice a3 (meetL A G).length k3] (by rfl) (by rfl) (by rfl) hT rfl sizeSg (by simp [Value.oneCell']) ?_
              intro w7 hN7 hg7
              refine hK.out _ _ (HKr.out _ ((hHeld2).2.2.grown hg7 (hHeld2).2.2.size (fun j hj => by cases hj; exact htV))) (fun hHeld3 => ?_)
              clear hK K
              (try simp only [Act.put, List.getElem_toArray, List.getElem_cons_succ, List.getElem_cons_zero])
              refine held_take 11 _ _ rfl (by kernel_rfl) (by kernel_rfl) (by kernel_rfl) (fun _ _ _ h => h) (by rfl) hHeld3 (fun w hSw => by (try dsimp only at hSw); go_simp; try with_reducible rfl) ?_
              (try simp only [Act.put, List.setIfInBounds_toArray, List.set_cons_zero, List.set_cons_succ, List.getElem_toArray, List.getElem_cons_succ, List.getElem_cons_zero])
              refine wpAnyH_done (by kernel_rfl) ?_ _
              have hbG := (hHeld3).2.2
              have r7 := rX.grown hg7 (fun j hj => by cases hj; exact hap)
              have hN7c := hN7.cell 0
              have hbF := hbel.trans (hbG.mono hsz)
              have hA2F := hA2.below hbG
              have hN4F := hN4.below hbG
              have ho7 : w7.ownsRow (w.heap.size + 1) 3 1 (.slice a3 (meetL A G).length k3) (meetL A G).length ((meetL A G).map (Value.int .i64)) := ownsBase r7.own (by omega)
              have hne7 : (Value.slice a3 (meetL A G).length k3).ownBlock ≠ some w2.heap.size := fun e => by have := (r7.own.lt _ e).1; omega
              clear hS0 HKr hHeld3 hg7 rX hT hb6 hN4 hA2
              go_wp2_with (first | (refine wpList_store_arr 26 (.tmp 4) (.tmp 41) w2.heap.size [.slice p A.length q] [.slice a3 (meetL A G).length k3] rfl rfl rfl rfl hN4F rfl sizeSg (by simp [Value.oneCell']) ?_; intro w9 hN9 hg9 hz9; clear hz9))
              have hb9 := hbF.grown hg9 hbF.size (fun k hk => by cases hk; omega)
              have hA29 := hA2F.grown hg9 (fun e => by injection e with e; omega)
              have ho9 := ho7.kept hg9 (.inr hne7)
              have HO9 := Lib.hid ho9
              have HN9 := Lib.hid hN9
              have HA9 := Lib.hid hA29
              clear ho7 ho9 hA29 hN9 hA2F hN4F hN7c hg9
              go_roundw
              case rel => exact ⟨k + 1, a3, k3, by omega, by omega, by go_num, Lib.hid (by rw [HNX.out, HM.out]), Lib.hid (by rw [HNX.out]; exact HN9.out), Lib.hid (by rw [HNX.out]; exact HO9.out), HA9, hb9⟩
              case measure => simp [intOf]; omega
        · have hlti : ¬ (k : Int) < (LL.length : Int) := by omega
          have hke : k = LL.length := by omega
          have HB : Hid (mAllB LL = true) := Lib.hid (by rw [(mAll_done hpos).1, ← hke]; exact HK2.out)
          have HL : Hid (mAllL LL = (mRun LL k).1) := Lib.hid (by rw [(mAll_done hpos).2, ← hke])
          clear hke
          have hN4c := HN.out.cell 0
          have hA2 := HA.out
          generalize (mRun LL k).1 = A at *
          go_wp2_with (first | (refine wpList_store_arr 26 (.tmp 2) (.tmp 42) w.heap.size [Value.slice none 0 0] [Value.slice p A.length q] rfl rfl rfl rfl hA2 rfl sizeSg (by simp [Value.oneCell']) ?_; intro w9 hA9 hg9 hz9; clear hz9))
          have hb9 := hbel.grown hg9 hbel.size (fun k hk => by cases hk; exact Nat.le_refl _)
          have ho9 := HO.out.kept hg9 (.inr (fun e => by have := (HO.out.lt _ e).1; omega))
          exact bodyPost_ret (results_arr_tmp rfl _ _ w.heap.size [Value.slice p A.length q] dS rfl hA9 hdS hrS sizeSg) rfl ⟨_, by rw [HB.out]; rfl, by rw [HL.out]; exact ownsBase ho9 (by omega), hb9⟩
end Go.Proofs.Ytfbfkaphcmngkaa
