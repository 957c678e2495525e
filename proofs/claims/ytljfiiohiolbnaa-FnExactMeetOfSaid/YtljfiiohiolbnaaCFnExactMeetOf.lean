/-
  THE WALK OF THE LAW FnExactMeetOf over the contracts of both sides (written by genlaw.py of the verifier's own).
-/
import Derived.Test.YtljfiiohiolbnaaRows
import Derived.Test.YtljfiiohiolbnaaC18
namespace Go.Proofs.Ytljfiiohiolbnaa
open Go Go.RowKit

set_option maxRecDepth 100000 in
set_option maxHeartbeats 3200000 in
theorem FnExactMeetOf.core (L0 : List Int) (a0 : Option Addr) (c0 : Nat) (L1 : List Int) (a1 : Option Addr) (c1 : Nat) (W : World) (hr0 : SlV W a0 (L0.map (Value.int .i64))) (hb0 : L0.length ≤ 1048576) (hr1 : SlV W a1 (L1.map (Value.int .i64))) (hb1 : L1.length ≤ 1048576) (hsum : L0.length + L1.length ≤ 1048576) :
    Calls Try.prog 8 #[.agg #[.slice a0 L0.length c0], .agg #[.slice a1 L1.length c1]] W fun e w' => e = .returned (.bool true) ∧ Below W.heap.size W w' := by
  have hm0 := meetL_len L0 L1
  obtain ⟨W0, hW0⟩ : ∃ W0, W0 = ((W.alloc (.cells #[.slice a0 L0.length c0] 41)).alloc (.cells #[.slice a1 L1.length c1] 41)) := ⟨_, rfl⟩
  have h00 : Below W.heap.size W W0 := by rw [hW0]; exact (((Below.refl _ _).alloc (by simp) _).alloc (by simp; try omega) _)
  have hsz0 : W.heap.size + 2 ≤ W0.heap.size := by rw [hW0]; simp
  have B_p0 : Hid (Arr W0 W.heap.size 41 [.slice a0 L0.length c0]) := Lib.hid (by
    rw [hW0]; exact (Arr.new W 41 [.slice a0 L0.length c0]).alloc (.cells #[.slice a1 L1.length c1] 41))
  have B_p1 : Hid (Arr W0 (W.heap.size + 1) 41 [.slice a1 L1.length c1]) := Lib.hid (by
    rw [hW0]; have h := Arr.new (W.alloc (.cells #[.slice a0 L0.length c0] 41)) 41 [.slice a1 L1.length c1]
    rw [show ((W.alloc (.cells #[.slice a0 L0.length c0] 41))).heap.size = W.heap.size + 1 by simp] at h; exact h)
  have HW0 := Lib.hid hW0
  have H00 := Lib.hid h00
  clear hW0
  have HR0 := Lib.hid (hr0.below h00)
  clear hr0
  have HR1 := Lib.hid (hr1.below h00)
  clear hr1
  clear h00
  have hW : Below W0.heap.size W0 W0 := Below.refl _ _
  go_enter Try.func8, Try.ntmps8
  have c := cz_Semigroup L0.length a0 c0 (1048576) W0 (by unfold maxLen; omega) (by omega) (by omega)
  rw [szI_in (by omega)] at c
  have hl0 : (0 : Int) ≤ 1048576 - (L0.length : Int) := by omega
  have hk_p0 : W0.cell? ⟨W.heap.size, 0, none⟩ = some (.slice a0 L0.length c0) := B_p0.out.cell 0
  have hk_p1 : W0.cell? ⟨W.heap.size + 1, 0, none⟩ = some (.slice a1 L1.length c1) := B_p1.out.cell 0
  rw [HW0.out] at hk_p0 hk_p1
  go_wp2_with fail
  rw [← HW0.out]
  refine c.mono ?_
  rintro e w1 ⟨rfl, hb⟩
  clear hk_p0 hk_p1
  clear c
  replace B_p0 := Lib.hid (B_p0.out.below hb)
  replace B_p1 := Lib.hid (B_p1.out.below hb)
  have z1 := hb.size
  replace hW := hW.trans (hb.mono hW.size)
  clear hb
  have c := cz_Semigroup L1.length a1 c1 (1048576 - (L0.length : Int)) w1 (by unfold maxLen; omega) (by omega) (by omega)
  rw [szI_in (by omega)] at c
  have hl1 : (0 : Int) ≤ 1048576 - (L0.length : Int) - (L1.length : Int) := by omega
  have hk_p0 : w1.cell? ⟨W.heap.size, 0, none⟩ = some (.slice a0 L0.length c0) := B_p0.out.cell 0
  have hk_p1 : w1.cell? ⟨W.heap.size + 1, 0, none⟩ = some (.slice a1 L1.length c1) := B_p1.out.cell 0
  go_wp2_with fail
  refine c.mono ?_
  rintro e w2 ⟨rfl, hb⟩
  clear hk_p0 hk_p1
  clear c
  replace B_p0 := Lib.hid (B_p0.out.below hb)
  replace B_p1 := Lib.hid (B_p1.out.below hb)
  have z2 := hb.size
  replace hW := hW.trans (hb.mono hW.size)
  clear hb
  have ctf0 : ∀ w', (w'.cell? ⟨W.heap.size, 0, none⟩ = some (.slice a0 L0.length c0) ∧ w'.cell? ⟨W.heap.size + 1, 0, none⟩ = some (.slice a1 L1.length c1) ∧ Below w2.heap.size w2 w') → Calls Try.prog 32 #[.agg #[.slice a0 L0.length c0]] w' fun e w2 => ∃ v, e = .returned (.agg #[v]) ∧ w2.ownsRow w'.heap.size 3 1 v L0.length (L0.map (Value.int .i64)) ∧ Below w'.heap.size w' w2 := fun w' h => ct_Semigroup L0 a0 c0 w' (HR0.out.below (hW.trans ((h.2.2).mono hW.size))) hb0
  have ctf1 : ∀ w', (w'.cell? ⟨W.heap.size, 0, none⟩ = some (.slice a0 L0.length c0) ∧ w'.cell? ⟨W.heap.size + 1, 0, none⟩ = some (.slice a1 L1.length c1) ∧ Below w2.heap.size w2 w') → Calls Try.prog 32 #[.agg #[.slice a1 L1.length c1]] w' fun e w2 => ∃ v, e = .returned (.agg #[v]) ∧ w2.ownsRow w'.heap.size 3 1 v L1.length (L1.map (Value.int .i64)) ∧ Below w'.heap.size w' w2 := fun w' h => ct_Semigroup L1 a1 c1 w' (HR1.out.below (hW.trans ((h.2.2).mono hW.size))) hb1
  have hlp0 := B_p0.out.lt
  have hlp1 := B_p1.out.lt
  have HKr : Hid (∀ w', Below w2.heap.size w2 w' → (w'.cell? ⟨W.heap.size, 0, none⟩ = some (.slice a0 L0.length c0) ∧ w'.cell? ⟨W.heap.size + 1, 0, none⟩ = some (.slice a1 L1.length c1) ∧ Below w2.heap.size w2 w')) := Lib.hid fun w' h => ⟨(h.cell (p := ⟨W.heap.size, 0, none⟩) hlp0).trans (B_p0.out.cell 0), (h.cell (p := ⟨W.heap.size + 1, 0, none⟩) hlp1).trans (B_p1.out.cell 0), h⟩
  have hS0 := HKr.out _ (Below.refl w2.heap.size w2).drew
  go_wp2_with fail
  refine wp_region_held_drew (S := fun w' => w'.cell? ⟨W.heap.size, 0, none⟩ = some (.slice a0 L0.length c0) ∧ w'.cell? ⟨W.heap.size + 1, 0, none⟩ = some (.slice a1 L1.length c1) ∧ Below w2.heap.size w2 w') (by kernel_rfl) hS0 (fun hHeld => ?_)
  generalize w2.drew = wd at *
  refine held_take 0 _ _ rfl (by kernel_rfl) (by kernel_rfl) (by kernel_rfl) (fun _ _ _ h => h) (by rfl) hHeld (fun w hSw => by (try dsimp only at hSw); go_simp; try with_reducible rfl) ?_
  (try simp only [Act.put, List.setIfInBounds_toArray, List.set_cons_zero, List.set_cons_succ, List.getElem_toArray, List.getElem_cons_zero])
  refine held_take 2 _ _ rfl (by kernel_rfl) (by kernel_rfl) (by kernel_rfl) (fun _ _ _ h => h) (by rfl) hHeld (fun w hSw => by (try dsimp only at hSw); go_simp; try with_reducible rfl) ?_
  (try simp only [Act.put, List.setIfInBounds_toArray, List.set_cons_zero, List.set_cons_succ, List.getElem_toArray, List.getElem_cons_succ, List.getElem_cons_zero])
  refine wpAnyH_ready (rs := [1, 8]) (by kernel_rfl) (by simp) ?_
  refine AllReadyH.cons rfl (fun K hK => ?_) (AllReadyH.cons rfl (fun K hK => ?_) AllReadyH.nil)
  · rw [if_pos (by rfl)]
    go_wp2_with (first | (go_at_call 32; (with_reducible refine (ctf0 _ (by assumption)).mono ?_); rintro e wx3 ⟨v, rfl, ho, hbt0⟩; obtain ⟨a_r0, c_r0, rfl, rX0⟩ := row_open ho; clear ho; try (replace hT := hT.below hbt0)))
    refine hK.out _ _ (HKr.out _ ((hHeld).2.2.trans (hbt0.mono (hHeld).2.2.size))) (fun hHeld1 => ?_)
    clear hK K
    (try simp only [Act.put, List.setIfInBounds_toArray, List.set_cons_zero, List.set_cons_succ, List.getElem_toArray, List.getElem_cons_succ, List.getElem_cons_zero])
    refine wpAnyH_ready (rs := [3, 8]) (by kernel_rfl) (by simp) ?_
    refine AllReadyH.cons rfl (fun K hK => ?_) (AllReadyH.cons rfl (fun K hK => ?_) AllReadyH.nil)
    · rw [if_pos (by rfl)]
      go_wp2_with (first | (go_at_call 32; (with_reducible refine (ctf1 _ (by assumption)).mono ?_); rintro e wy3 ⟨v, rfl, ho, hbt1⟩; obtain ⟨a_r1, c_r1, rfl, rX1⟩ := row_open ho; clear ho; replace rX0 := rX0.below hbt1; try (replace hT := hT.below hbt1)))
      refine hK.out _ _ (HKr.out _ ((hHeld1).2.2.trans (hbt1.mono (hHeld1).2.2.size))) (fun hHeld2 => ?_)
      clear hK K
      (try simp only [Act.put, List.setIfInBounds_toArray, List.set_cons_zero, List.set_cons_succ, List.getElem_toArray, List.getElem_cons_succ, List.getElem_cons_zero])
      refine wpAnyH_ready (rs := [4, 8]) (by kernel_rfl) (by simp) ?_
      refine AllReadyH.cons rfl (fun K hK => ?_) (AllReadyH.cons rfl (fun K hK => ?_) AllReadyH.nil)
      · rw [if_pos (by rfl)]
        go_wp2_with (first | (go_at_call 23; (with_reducible refine (cs_MeetOf L0 a_r0 c_r0 L1 a_r1 c_r1 _ rX0.slw rX1.slw hb0 hb1).mono ?_); rintro e wf3 ⟨v, rfl, ho, hb6⟩; obtain ⟨lo_w0, hi_w0, a_w0, c_w0, rfl, hlo1, hlo2, hhi, rX⟩ := row_named (hHeld2).2.2.size ho; clear ho; try (have hap : t_w0 < lo_w0 ∨ hi_w0 ≤ t_w0 := .inl (by have := hT.lt; omega); replace hT := hT.below hb6)))
        refine hK.out _ _ (HKr.out _ ((hHeld2).2.2.trans (hb6.mono (hHeld2).2.2.size))) (fun hHeld3 => ?_)
        clear hK K
        (try simp only [Act.put, List.setIfInBounds_toArray, List.set_cons_zero, List.set_cons_succ, List.getElem_toArray, List.getElem_cons_succ, List.getElem_cons_zero])
        refine held_take 5 _ _ rfl (by kernel_rfl) (by kernel_rfl) (by kernel_rfl) (fun _ _ _ h => h) (by rfl) hHeld3 (fun w hSw => by (try dsimp only at hSw); go_simp; try with_reducible rfl) ?_
        (try simp only [Act.put, List.setIfInBounds_toArray, List.set_cons_zero, List.set_cons_succ, List.getElem_toArray, List.getElem_cons_succ, List.getElem_cons_zero])
        refine held_take 6 _ _ rfl (by kernel_rfl) (by kernel_rfl) (by kernel_rfl) (fun _ _ _ h => h) (by rfl) hHeld3 (fun w hSw => by (try dsimp only at hSw); go_simp; try with_reducible rfl) ?_
        (try simp only [Act.put, List.setIfInBounds_toArray, List.set_cons_zero, List.set_cons_succ, List.getElem_toArray, List.getElem_cons_succ, List.getElem_cons_zero])
        refine held_take 7 _ _ rfl (by kernel_rfl) (by kernel_rfl) (by kernel_rfl) (fun _ _ _ h => h) (by rfl) hHeld3 (fun w hSw => by (try dsimp only at hSw); go_simp; try with_reducible rfl) ?_
        (try simp only [Act.put, List.setIfInBounds_toArray, List.set_cons_zero, List.set_cons_succ, List.getElem_toArray, List.getElem_cons_succ, List.getElem_cons_zero])
        refine wpAnyH_ready (rs := [8]) (by kernel_rfl) (by simp) ?_
        refine AllReadyH.cons rfl (fun K hK => ?_) AllReadyH.nil
        rw [if_pos (by rfl)]
        try replace rX0 := rX0.below (box_below _ (.cells [Value.slice none 0 0].toArray 26))
        try replace rX1 := rX1.below (box_below _ (.cells [Value.slice none 0 0].toArray 26))
        obtain ⟨t_w0, et, hT, htV⟩ := newSgNamed (hHeld3).2.2
        try (have hap : t_w0 < lo_w0 ∨ hi_w0 ≤ t_w0 := .inr (by have := rX.hi_le; omega))
        try replace rX := rX.below (box_below _ (.cells [Value.slice none 0 0].toArray 26))
        refine wp_alloc_arr 26 [Value.slice none 0 0] zeroSg (by rfl) ?_
        rw [← et]
        clear et
        refine hK.out _ _ (HKr.out _ ((hHeld3).2.2.alloc (hHeld3).2.2.size _)) (fun hHeld4 => ?_)
        clear hK K
        (try simp only [Act.put, List.setIfInBounds_toArray, List.set_cons_zero, List.set_cons_succ, List.getElem_toArray, List.getElem_cons_succ, List.getElem_cons_zero])
        refine wpAnyH_ready (rs := [9]) (by kernel_rfl) (by simp) ?_
        refine AllReadyH.cons rfl (fun K hK => ?_) AllReadyH.nil
        rw [if_pos (by rfl)]
        refine wp_store_arr 26 (.tmp 6) (.tmp 33) _ [Value.slice none 0 0] [.slice a_w0 (meetL L0 L1).length c_w0] (by rfl) (by rfl) (by rfl) hT rfl sizeSg (by simp [Value.oneCell']) ?_
        intro w3 hN7 hg7
        refine hK.out _ _ (HKr.out _ ((hHeld4).2.2.grown hg7 (hHeld4).2.2.size (fun j hj => by cases hj; exact htV))) (fun hHeld5 => ?_)
        clear hK K
        (try simp only [Act.put, List.getElem_toArray, List.getElem_cons_succ, List.getElem_cons_zero])
        refine held_take 10 _ _ rfl (by kernel_rfl) (by kernel_rfl) (by kernel_rfl) (fun _ _ _ h => h) (by rfl) hHeld5 (fun w hSw => by (try dsimp only at hSw); go_simp; try with_reducible rfl) ?_
        (try simp only [Act.put, List.setIfInBounds_toArray, List.set_cons_zero, List.set_cons_succ, List.getElem_toArray, List.getElem_cons_succ, List.getElem_cons_zero])
        refine wpAnyH_done (by kernel_rfl) ?_ _
        have hb := (hHeld5).2.2
        have R_w0 := Lib.hid (rX.grown hg7 (fun j hj => by cases hj; exact hap))
        have B_w0 := Lib.hid hN7
        have zt_w0 := hN7.lt
        have zh_w0 := R_w0.out.hi_le
        have zl_w0 : lo_w0 ≤ hi_w0 := by have := hb6.size; omega
        replace B_p0 := Lib.hid (B_p0.out.below hb)
        replace B_p1 := Lib.hid (B_p1.out.below hb)
        have z3 := hb.size
        replace hW := hW.trans (hb.mono hW.size)
        clear hb hlo2 hhi hN7 hg7 rX rX0 rX1 hT hb6 hbt0 hbt1 hS0 HKr ctf0 hlp0 ctf1 hlp1
        have c := ct_Semigroup L0 a0 c0 w3 (HR0.out.below hW) hb0
        have hk_p0 : w3.cell? ⟨W.heap.size, 0, none⟩ = some (.slice a0 L0.length c0) := B_p0.out.cell 0
        have hk_p1 : w3.cell? ⟨W.heap.size + 1, 0, none⟩ = some (.slice a1 L1.length c1) := B_p1.out.cell 0
        have hk_w0 : w3.cell? ⟨t_w0, 0, none⟩ = some (.slice a_w0 (meetL L0 L1).length c_w0) := B_w0.out.cell 0
        go_wp2_with fail
        refine c.mono ?_
        rintro e w4 ⟨v, rfl, ho, hb⟩
        clear hk_p0 hk_p1 hk_w0
        obtain ⟨a_x0, c_x0, rfl, rX⟩ := row_open ho
        clear c ho
        replace R_w0 := Lib.hid (R_w0.out.below hb)
        replace B_p0 := Lib.hid (B_p0.out.below hb)
        replace B_p1 := Lib.hid (B_p1.out.below hb)
        replace B_w0 := Lib.hid (B_w0.out.below hb)
        have z4 := hb.size
        replace hW := hW.trans (hb.mono hW.size)
        have R_x0 := Lib.hid rX
        clear rX hb
        obtain ⟨w5, hwb⟩ : ∃ wb, wb = w4.alloc (.cells #[.slice a_x0 L0.length c_x0] 26) := ⟨_, rfl⟩
        have hb : Below w4.heap.size w4 w5 := by rw [hwb]; exact (Below.refl _ _).alloc (Nat.le_refl _) _
        have hA : Arr w5 w4.heap.size 26 [.slice a_x0 L0.length c_x0] := by rw [hwb]; exact Arr.new _ _ _
        replace R_w0 := Lib.hid (R_w0.out.below hb)
        replace R_x0 := Lib.hid (R_x0.out.below hb)
        replace B_p0 := Lib.hid (B_p0.out.below hb)
        replace B_p1 := Lib.hid (B_p1.out.below hb)
        replace B_w0 := Lib.hid (B_w0.out.below hb)
        have z5 : w4.heap.size < w5.heap.size := hA.lt
        replace hW := hW.trans (hb.mono hW.size)
        have B_x0 := Lib.hid hA
        have H_w5 := Lib.hid hwb
        clear hwb hb hA
        have c := ct_Semigroup L1 a1 c1 w5 (HR1.out.below hW) hb1
        have hk_p0 : w5.cell? ⟨W.heap.size, 0, none⟩ = some (.slice a0 L0.length c0) := B_p0.out.cell 0
        have hk_p1 : w5.cell? ⟨W.heap.size + 1, 0, none⟩ = some (.slice a1 L1.length c1) := B_p1.out.cell 0
        have hk_w0 : w5.cell? ⟨t_w0, 0, none⟩ = some (.slice a_w0 (meetL L0 L1).length c_w0) := B_w0.out.cell 0
        have hk_x0 : w5.cell? ⟨w4.heap.size, 0, none⟩ = some (.slice a_x0 L0.length c_x0) := B_x0.out.cell 0
        rw [H_w5.out] at hk_p0 hk_p1 hk_w0 hk_x0
        go_wp2_with fail
        rw [← H_w5.out]
        refine c.mono ?_
        rintro e w6 ⟨v, rfl, ho, hb⟩
        clear hk_p0 hk_p1 hk_w0 hk_x0
        obtain ⟨a_x1, c_x1, rfl, rX⟩ := row_open ho
        clear c ho
        replace R_w0 := Lib.hid (R_w0.out.below hb)
        replace R_x0 := Lib.hid (R_x0.out.below hb)
        replace B_p0 := Lib.hid (B_p0.out.below hb)
        replace B_p1 := Lib.hid (B_p1.out.below hb)
        replace B_w0 := Lib.hid (B_w0.out.below hb)
        replace B_x0 := Lib.hid (B_x0.out.below hb)
        have z6 := hb.size
        replace hW := hW.trans (hb.mono hW.size)
        have R_x1 := Lib.hid rX
        clear rX hb
        obtain ⟨w7, hwb⟩ : ∃ wb, wb = w6.alloc (.cells #[.slice a_x1 L1.length c_x1] 26) := ⟨_, rfl⟩
        have hb : Below w6.heap.size w6 w7 := by rw [hwb]; exact (Below.refl _ _).alloc (Nat.le_refl _) _
        have hA : Arr w7 w6.heap.size 26 [.slice a_x1 L1.length c_x1] := by rw [hwb]; exact Arr.new _ _ _
        replace R_w0 := Lib.hid (R_w0.out.below hb)
        replace R_x0 := Lib.hid (R_x0.out.below hb)
        replace R_x1 := Lib.hid (R_x1.out.below hb)
        replace B_p0 := Lib.hid (B_p0.out.below hb)
        replace B_p1 := Lib.hid (B_p1.out.below hb)
        replace B_w0 := Lib.hid (B_w0.out.below hb)
        replace B_x0 := Lib.hid (B_x0.out.below hb)
        have z7 : w6.heap.size < w7.heap.size := hA.lt
        replace hW := hW.trans (hb.mono hW.size)
        have B_x1 := Lib.hid hA
        have H_w7 := Lib.hid hwb
        clear hwb hb hA
        have c := ci_MeetOf L0 a_x0 c_x0 L1 a_x1 c_x1 w7 R_x0.out.slw R_x1.out.slw hb0 hb1
        have hk_p0 : w7.cell? ⟨W.heap.size, 0, none⟩ = some (.slice a0 L0.length c0) := B_p0.out.cell 0
        have hk_p1 : w7.cell? ⟨W.heap.size + 1, 0, none⟩ = some (.slice a1 L1.length c1) := B_p1.out.cell 0
        have hk_w0 : w7.cell? ⟨t_w0, 0, none⟩ = some (.slice a_w0 (meetL L0 L1).length c_w0) := B_w0.out.cell 0
        have hk_x0 : w7.cell? ⟨w4.heap.size, 0, none⟩ = some (.slice a_x0 L0.length c_x0) := B_x0.out.cell 0
        have hk_x1 : w7.cell? ⟨w6.heap.size, 0, none⟩ = some (.slice a_x1 L1.length c_x1) := B_x1.out.cell 0
        rw [H_w7.out] at hk_p0 hk_p1 hk_w0 hk_x0 hk_x1
        go_wp2_with fail
        rw [← H_w7.out]
        refine c.mono ?_
        rintro e w8 ⟨v, rfl, ho, hb⟩
        clear hk_p0 hk_p1 hk_w0 hk_x0 hk_x1
        obtain ⟨a_g0, c_g0, rfl, rX⟩ := row_open ho
        clear c ho
        replace R_w0 := Lib.hid (R_w0.out.below hb)
        replace R_x0 := Lib.hid (R_x0.out.below hb)
        replace R_x1 := Lib.hid (R_x1.out.below hb)
        replace B_p0 := Lib.hid (B_p0.out.below hb)
        replace B_p1 := Lib.hid (B_p1.out.below hb)
        replace B_w0 := Lib.hid (B_w0.out.below hb)
        replace B_x0 := Lib.hid (B_x0.out.below hb)
        replace B_x1 := Lib.hid (B_x1.out.below hb)
        have z8 := hb.size
        replace hW := hW.trans (hb.mono hW.size)
        have R_g0 := Lib.hid rX
        clear rX hb
        obtain ⟨w9, hwb⟩ : ∃ wb, wb = w8.alloc (.cells #[.slice a_g0 (meetL L0 L1).length c_g0] 26) := ⟨_, rfl⟩
        have hb : Below w8.heap.size w8 w9 := by rw [hwb]; exact (Below.refl _ _).alloc (Nat.le_refl _) _
        have hA : Arr w9 w8.heap.size 26 [.slice a_g0 (meetL L0 L1).length c_g0] := by rw [hwb]; exact Arr.new _ _ _
        replace R_w0 := Lib.hid (R_w0.out.below hb)
        replace R_x0 := Lib.hid (R_x0.out.below hb)
        replace R_x1 := Lib.hid (R_x1.out.below hb)
        replace R_g0 := Lib.hid (R_g0.out.below hb)
        replace B_p0 := Lib.hid (B_p0.out.below hb)
        replace B_p1 := Lib.hid (B_p1.out.below hb)
        replace B_w0 := Lib.hid (B_w0.out.below hb)
        replace B_x0 := Lib.hid (B_x0.out.below hb)
        replace B_x1 := Lib.hid (B_x1.out.below hb)
        have z9 : w8.heap.size < w9.heap.size := hA.lt
        replace hW := hW.trans (hb.mono hW.size)
        have B_g0 := Lib.hid hA
        have H_w9 := Lib.hid hwb
        clear hwb hb hA
        have c := ce_Semigroup (meetL L0 L1) (meetL L0 L1) a_g0 a_w0 c_g0 c_w0 w9 R_g0.out.slv R_w0.out.slv (by omega) (by omega)
        rw [decide_eq_true (rfl : (meetL L0 L1) = (meetL L0 L1))] at c
        have hk_p0 : w9.cell? ⟨W.heap.size, 0, none⟩ = some (.slice a0 L0.length c0) := B_p0.out.cell 0
        have hk_p1 : w9.cell? ⟨W.heap.size + 1, 0, none⟩ = some (.slice a1 L1.length c1) := B_p1.out.cell 0
        have hk_w0 : w9.cell? ⟨t_w0, 0, none⟩ = some (.slice a_w0 (meetL L0 L1).length c_w0) := B_w0.out.cell 0
        have hk_x0 : w9.cell? ⟨w4.heap.size, 0, none⟩ = some (.slice a_x0 L0.length c_x0) := B_x0.out.cell 0
        have hk_x1 : w9.cell? ⟨w6.heap.size, 0, none⟩ = some (.slice a_x1 L1.length c_x1) := B_x1.out.cell 0
        have hk_g0 : w9.cell? ⟨w8.heap.size, 0, none⟩ = some (.slice a_g0 (meetL L0 L1).length c_g0) := B_g0.out.cell 0
        rw [H_w9.out] at hk_p0 hk_p1 hk_w0 hk_x0 hk_x1 hk_g0
        go_wp2_with fail
        rw [← H_w9.out]
        refine c.mono ?_
        rintro e w10 ⟨rfl, hb⟩
        clear hk_p0 hk_p1 hk_w0 hk_x0 hk_x1 hk_g0
        clear c
        replace R_w0 := Lib.hid (R_w0.out.below hb)
        replace R_x0 := Lib.hid (R_x0.out.below hb)
        replace R_x1 := Lib.hid (R_x1.out.below hb)
        replace R_g0 := Lib.hid (R_g0.out.below hb)
        replace B_p0 := Lib.hid (B_p0.out.below hb)
        replace B_p1 := Lib.hid (B_p1.out.below hb)
        replace B_w0 := Lib.hid (B_w0.out.below hb)
        replace B_x0 := Lib.hid (B_x0.out.below hb)
        replace B_x1 := Lib.hid (B_x1.out.below hb)
        replace B_g0 := Lib.hid (B_g0.out.below hb)
        have z10 := hb.size
        replace hW := hW.trans (hb.mono hW.size)
        clear hb
        have ctf : ∀ w', (w'.cell? ⟨w4.heap.size, 0, none⟩ = some (.slice a_x0 L0.length c_x0) ∧ w'.cell? ⟨W.heap.size, 0, none⟩ = some (.slice a0 L0.length c0) ∧ Below w10.heap.size w10 w') → Calls Try.prog 32 #[.agg #[.slice a0 L0.length c0]] w' fun e w2 => ∃ v, e = .returned (.agg #[v]) ∧ w2.ownsRow w'.heap.size 3 1 v L0.length (L0.map (Value.int .i64)) ∧ Below w'.heap.size w' w2 := fun w' h => ct_Semigroup L0 a0 c0 w' (HR0.out.below (hW.trans (h.2.2.mono hW.size))) hb0
        have HS := Lib.hid (show w10.drew.cell? ⟨w4.heap.size, 0, none⟩ = some (.slice a_x0 L0.length c_x0) ∧ w10.drew.cell? ⟨W.heap.size, 0, none⟩ = some (.slice a0 L0.length c0) ∧ Below w10.heap.size w10 w10.drew from ⟨B_x0.out.cell 0, B_p0.out.cell 0, (Below.refl _ _).drew⟩)
        have hlx := B_x0.out.lt
        have hlp := B_p0.out.lt
        go_wp2_with fail
        go_region_held3 (fun w' => w'.cell? ⟨w4.heap.size, 0, none⟩ = some (.slice a_x0 L0.length c_x0) ∧ w'.cell? ⟨W.heap.size, 0, none⟩ = some (.slice a0 L0.length c0) ∧ Below w10.heap.size w10 w')
          (first | exact HS.out | assumption | exact held_keep2 hlx hlp (by assumption) (by assumption))
          ((first | (go_at_call 32; (with_reducible refine (ctf _ (by assumption)).mono ?_); rintro e w11 ⟨v, rfl, ho, hb2⟩; obtain ⟨a_t, c_t, rfl, rX⟩ := row_open ho; have ce := ce_Semigroup L0 L0 a_x0 a_t c_x0 c_t w11 (R_x0.out.slv.below ((Below.refl _ _).drew.trans hb2)) rX.slv (by omega) (by omega); rw [decide_eq_true (rfl : L0 = L0)] at ce; clear ho rX)
                   | (go_at_call 33; (with_reducible refine ce.mono ?_); rintro e w12 ⟨rfl, hb3⟩)))
        have hb : Below w10.heap.size w10 w12 := ((Below.refl w10.heap.size w10).drew.trans hb2).trans (hb3.mono hb2.size)
        clear ctf HS hlx hlp ce hb2 hb3
        replace R_w0 := Lib.hid (R_w0.out.below hb)
        replace R_x0 := Lib.hid (R_x0.out.below hb)
        replace R_x1 := Lib.hid (R_x1.out.below hb)
        replace R_g0 := Lib.hid (R_g0.out.below hb)
        replace B_p0 := Lib.hid (B_p0.out.below hb)
        replace B_p1 := Lib.hid (B_p1.out.below hb)
        replace B_w0 := Lib.hid (B_w0.out.below hb)
        replace B_x0 := Lib.hid (B_x0.out.below hb)
        replace B_x1 := Lib.hid (B_x1.out.below hb)
        replace B_g0 := Lib.hid (B_g0.out.below hb)
        have z12 := hb.size
        replace hW := hW.trans (hb.mono hW.size)
        clear hb
        have ctf : ∀ w', (w'.cell? ⟨w6.heap.size, 0, none⟩ = some (.slice a_x1 L1.length c_x1) ∧ w'.cell? ⟨W.heap.size + 1, 0, none⟩ = some (.slice a1 L1.length c1) ∧ Below w12.heap.size w12 w') → Calls Try.prog 32 #[.agg #[.slice a1 L1.length c1]] w' fun e w2 => ∃ v, e = .returned (.agg #[v]) ∧ w2.ownsRow w'.heap.size 3 1 v L1.length (L1.map (Value.int .i64)) ∧ Below w'.heap.size w' w2 := fun w' h => ct_Semigroup L1 a1 c1 w' (HR1.out.below (hW.trans (h.2.2.mono hW.size))) hb1
        have HS := Lib.hid (show w12.drew.cell? ⟨w6.heap.size, 0, none⟩ = some (.slice a_x1 L1.length c_x1) ∧ w12.drew.cell? ⟨W.heap.size + 1, 0, none⟩ = some (.slice a1 L1.length c1) ∧ Below w12.heap.size w12 w12.drew from ⟨B_x1.out.cell 0, B_p1.out.cell 0, (Below.refl _ _).drew⟩)
        have hlx := B_x1.out.lt
        have hlp := B_p1.out.lt
        go_wp2_with fail
        go_region_held3 (fun w' => w'.cell? ⟨w6.heap.size, 0, none⟩ = some (.slice a_x1 L1.length c_x1) ∧ w'.cell? ⟨W.heap.size + 1, 0, none⟩ = some (.slice a1 L1.length c1) ∧ Below w12.heap.size w12 w')
          (first | exact HS.out | assumption | exact held_keep2 hlx hlp (by assumption) (by assumption))
          ((first | (go_at_call 32; (with_reducible refine (ctf _ (by assumption)).mono ?_); rintro e w13 ⟨v, rfl, ho, hb2⟩; obtain ⟨a_t, c_t, rfl, rX⟩ := row_open ho; have ce := ce_Semigroup L1 L1 a_x1 a_t c_x1 c_t w13 (R_x1.out.slv.below ((Below.refl _ _).drew.trans hb2)) rX.slv (by omega) (by omega); rw [decide_eq_true (rfl : L1 = L1)] at ce; clear ho rX)
                   | (go_at_call 33; (with_reducible refine ce.mono ?_); rintro e w14 ⟨rfl, hb3⟩)))
        have hb : Below w12.heap.size w12 w14 := ((Below.refl w12.heap.size w12).drew.trans hb2).trans (hb3.mono hb2.size)
        clear ctf HS hlx hlp ce hb2 hb3
        replace R_w0 := Lib.hid (R_w0.out.below hb)
        replace R_x0 := Lib.hid (R_x0.out.below hb)
        replace R_x1 := Lib.hid (R_x1.out.below hb)
        replace R_g0 := Lib.hid (R_g0.out.below hb)
        replace B_p0 := Lib.hid (B_p0.out.below hb)
        replace B_p1 := Lib.hid (B_p1.out.below hb)
        replace B_w0 := Lib.hid (B_w0.out.below hb)
        replace B_x0 := Lib.hid (B_x0.out.below hb)
        replace B_x1 := Lib.hid (B_x1.out.below hb)
        replace B_g0 := Lib.hid (B_g0.out.below hb)
        have z14 := hb.size
        replace hW := hW.trans (hb.mono hW.size)
        clear hb
        have rX := R_x0.out
        have c := cm_Semigroup (1) w3.heap.size L0.length _ _ w14 rX.own (by omega) (by omega) (by omega)
        have hk_p0 : w14.cell? ⟨W.heap.size, 0, none⟩ = some (.slice a0 L0.length c0) := B_p0.out.cell 0
        have hk_p1 : w14.cell? ⟨W.heap.size + 1, 0, none⟩ = some (.slice a1 L1.length c1) := B_p1.out.cell 0
        have hk_w0 : w14.cell? ⟨t_w0, 0, none⟩ = some (.slice a_w0 (meetL L0 L1).length c_w0) := B_w0.out.cell 0
        have hk_x0 : w14.cell? ⟨w4.heap.size, 0, none⟩ = some (.slice a_x0 L0.length c_x0) := B_x0.out.cell 0
        have hk_x1 : w14.cell? ⟨w6.heap.size, 0, none⟩ = some (.slice a_x1 L1.length c_x1) := B_x1.out.cell 0
        have hk_g0 : w14.cell? ⟨w8.heap.size, 0, none⟩ = some (.slice a_g0 (meetL L0 L1).length c_g0) := B_g0.out.cell 0
        go_wp2_with fail
        refine c.mono ?_
        rintro e w15 ⟨rfl, ho, hg⟩
        clear hk_p0 hk_p1 hk_w0 hk_x0 hk_x1 hk_g0
        clear c
        replace R_w0 := Lib.hid (R_w0.out.grown hg (fun j hj => by have h1 := rX.blk j hj; have h2 := (rX.own.lt j hj).1; omega))
        replace R_x1 := Lib.hid (R_x1.out.grown hg (fun j hj => by have h1 := rX.blk j hj; have h2 := (rX.own.lt j hj).1; omega))
        replace R_g0 := Lib.hid (R_g0.out.grown hg (fun j hj => by have h1 := rX.blk j hj; have h2 := (rX.own.lt j hj).1; omega))
        replace B_p0 := Lib.hid (B_p0.out.grownRow hg (fun j hj => by have h1 := rX.blk j hj; have h2 := (rX.own.lt j hj).1; omega))
        replace B_p1 := Lib.hid (B_p1.out.grownRow hg (fun j hj => by have h1 := rX.blk j hj; have h2 := (rX.own.lt j hj).1; omega))
        replace B_w0 := Lib.hid (B_w0.out.grownRow hg (fun j hj => by have h1 := rX.blk j hj; have h2 := (rX.own.lt j hj).1; omega))
        replace B_x0 := Lib.hid (B_x0.out.grownRow hg (fun j hj => by have h1 := rX.blk j hj; have h2 := (rX.own.lt j hj).1; omega))
        replace B_x1 := Lib.hid (B_x1.out.grownRow hg (fun j hj => by have h1 := rX.blk j hj; have h2 := (rX.own.lt j hj).1; omega))
        replace B_g0 := Lib.hid (B_g0.out.grownRow hg (fun j hj => by have h1 := rX.blk j hj; have h2 := (rX.own.lt j hj).1; omega))
        have z15 := hg.size
        replace hW := hW.grown hg hW.size (fun j hj => by have h1 := (rX.own.lt j hj).1; omega)
        replace R_x0 := Lib.hid (Row.remade rX ho hg)
        clear rX ho hg
        clear R_x0
        clear B_x0
        have rX := R_x1.out
        have c := cm_Semigroup (1 + L0.length) w5.heap.size L1.length _ _ w15 rX.own (by omega) (by omega) (by omega)
        have hk_p0 : w15.cell? ⟨W.heap.size, 0, none⟩ = some (.slice a0 L0.length c0) := B_p0.out.cell 0
        have hk_p1 : w15.cell? ⟨W.heap.size + 1, 0, none⟩ = some (.slice a1 L1.length c1) := B_p1.out.cell 0
        have hk_w0 : w15.cell? ⟨t_w0, 0, none⟩ = some (.slice a_w0 (meetL L0 L1).length c_w0) := B_w0.out.cell 0
        have hk_x1 : w15.cell? ⟨w6.heap.size, 0, none⟩ = some (.slice a_x1 L1.length c_x1) := B_x1.out.cell 0
        have hk_g0 : w15.cell? ⟨w8.heap.size, 0, none⟩ = some (.slice a_g0 (meetL L0 L1).length c_g0) := B_g0.out.cell 0
        go_wp2_with fail
        refine c.mono ?_
        rintro e w16 ⟨rfl, ho, hg⟩
        clear hk_p0 hk_p1 hk_w0 hk_x1 hk_g0
        clear c
        replace R_w0 := Lib.hid (R_w0.out.grown hg (fun j hj => by have h1 := rX.blk j hj; have h2 := (rX.own.lt j hj).1; omega))
        replace R_g0 := Lib.hid (R_g0.out.grown hg (fun j hj => by have h1 := rX.blk j hj; have h2 := (rX.own.lt j hj).1; omega))
        replace B_p0 := Lib.hid (B_p0.out.grownRow hg (fun j hj => by have h1 := rX.blk j hj; have h2 := (rX.own.lt j hj).1; omega))
        replace B_p1 := Lib.hid (B_p1.out.grownRow hg (fun j hj => by have h1 := rX.blk j hj; have h2 := (rX.own.lt j hj).1; omega))
        replace B_w0 := Lib.hid (B_w0.out.grownRow hg (fun j hj => by have h1 := rX.blk j hj; have h2 := (rX.own.lt j hj).1; omega))
        replace B_x1 := Lib.hid (B_x1.out.grownRow hg (fun j hj => by have h1 := rX.blk j hj; have h2 := (rX.own.lt j hj).1; omega))
        replace B_g0 := Lib.hid (B_g0.out.grownRow hg (fun j hj => by have h1 := rX.blk j hj; have h2 := (rX.own.lt j hj).1; omega))
        have z16 := hg.size
        replace hW := hW.grown hg hW.size (fun j hj => by have h1 := (rX.own.lt j hj).1; omega)
        replace R_x1 := Lib.hid (Row.remade rX ho hg)
        clear rX ho hg
        clear R_x1
        clear B_x1
        have c := ce_Semigroup (meetL L0 L1) (meetL L0 L1) a_g0 a_w0 c_g0 c_w0 w16 R_g0.out.slv R_w0.out.slv (by omega) (by omega)
        rw [decide_eq_true (rfl : (meetL L0 L1) = (meetL L0 L1))] at c
        have hk_p0 : w16.cell? ⟨W.heap.size, 0, none⟩ = some (.slice a0 L0.length c0) := B_p0.out.cell 0
        have hk_p1 : w16.cell? ⟨W.heap.size + 1, 0, none⟩ = some (.slice a1 L1.length c1) := B_p1.out.cell 0
        have hk_w0 : w16.cell? ⟨t_w0, 0, none⟩ = some (.slice a_w0 (meetL L0 L1).length c_w0) := B_w0.out.cell 0
        have hk_g0 : w16.cell? ⟨w8.heap.size, 0, none⟩ = some (.slice a_g0 (meetL L0 L1).length c_g0) := B_g0.out.cell 0
        go_wp2_with fail
        refine c.mono ?_
        rintro e w17 ⟨rfl, hb⟩
        clear hk_p0 hk_p1 hk_w0 hk_g0
        clear c
        replace R_w0 := Lib.hid (R_w0.out.below hb)
        replace R_g0 := Lib.hid (R_g0.out.below hb)
        replace B_p0 := Lib.hid (B_p0.out.below hb)
        replace B_p1 := Lib.hid (B_p1.out.below hb)
        replace B_w0 := Lib.hid (B_w0.out.below hb)
        replace B_g0 := Lib.hid (B_g0.out.below hb)
        have z17 := hb.size
        replace hW := hW.trans (hb.mono hW.size)
        clear hb
        have rX := R_g0.out
        have c := cm_Semigroup (1) w7.heap.size (meetL L0 L1).length _ _ w17 rX.own (by omega) (by omega) (by omega)
        have hk_p0 : w17.cell? ⟨W.heap.size, 0, none⟩ = some (.slice a0 L0.length c0) := B_p0.out.cell 0
        have hk_p1 : w17.cell? ⟨W.heap.size + 1, 0, none⟩ = some (.slice a1 L1.length c1) := B_p1.out.cell 0
        have hk_w0 : w17.cell? ⟨t_w0, 0, none⟩ = some (.slice a_w0 (meetL L0 L1).length c_w0) := B_w0.out.cell 0
        have hk_g0 : w17.cell? ⟨w8.heap.size, 0, none⟩ = some (.slice a_g0 (meetL L0 L1).length c_g0) := B_g0.out.cell 0
        go_wp2_with fail
        refine c.mono ?_
        rintro e w18 ⟨rfl, ho, hg⟩
        clear hk_p0 hk_p1 hk_w0 hk_g0
        clear c
        replace R_w0 := Lib.hid (R_w0.out.grown hg (fun j hj => by have h1 := rX.blk j hj; have h2 := (rX.own.lt j hj).1; omega))
        replace B_p0 := Lib.hid (B_p0.out.grownRow hg (fun j hj => by have h1 := rX.blk j hj; have h2 := (rX.own.lt j hj).1; omega))
        replace B_p1 := Lib.hid (B_p1.out.grownRow hg (fun j hj => by have h1 := rX.blk j hj; have h2 := (rX.own.lt j hj).1; omega))
        replace B_w0 := Lib.hid (B_w0.out.grownRow hg (fun j hj => by have h1 := rX.blk j hj; have h2 := (rX.own.lt j hj).1; omega))
        replace B_g0 := Lib.hid (B_g0.out.grownRow hg (fun j hj => by have h1 := rX.blk j hj; have h2 := (rX.own.lt j hj).1; omega))
        have z18 := hg.size
        replace hW := hW.grown hg hW.size (fun j hj => by have h1 := (rX.own.lt j hj).1; omega)
        replace R_g0 := Lib.hid (Row.remade rX ho hg)
        clear rX ho hg
        have c := ch_Semigroup 1 ((meetL L0 L1).length) c_g0 a_g0 w18 R_g0.out.slv (by omega) (by omega) (by omega)
        have hk_p0 : w18.cell? ⟨W.heap.size, 0, none⟩ = some (.slice a0 L0.length c0) := B_p0.out.cell 0
        have hk_p1 : w18.cell? ⟨W.heap.size + 1, 0, none⟩ = some (.slice a1 L1.length c1) := B_p1.out.cell 0
        have hk_w0 : w18.cell? ⟨t_w0, 0, none⟩ = some (.slice a_w0 (meetL L0 L1).length c_w0) := B_w0.out.cell 0
        have hk_g0 : w18.cell? ⟨w8.heap.size, 0, none⟩ = some (.slice a_g0 (meetL L0 L1).length c_g0) := B_g0.out.cell 0
        go_wp2_with fail
        refine c.mono ?_
        rintro e w19 ⟨rfl, hb⟩
        clear hk_p0 hk_p1 hk_w0 hk_g0
        clear c
        replace R_w0 := Lib.hid (R_w0.out.below hb)
        replace R_g0 := Lib.hid (R_g0.out.below hb)
        replace B_p0 := Lib.hid (B_p0.out.below hb)
        replace B_p1 := Lib.hid (B_p1.out.below hb)
        replace B_w0 := Lib.hid (B_w0.out.below hb)
        replace B_g0 := Lib.hid (B_g0.out.below hb)
        have z19 := hb.size
        replace hW := hW.trans (hb.mono hW.size)
        clear hb
        have ctf0 : ∀ w', (w'.cell? ⟨W.heap.size, 0, none⟩ = some (.slice a0 L0.length c0) ∧ w'.cell? ⟨W.heap.size + 1, 0, none⟩ = some (.slice a1 L1.length c1) ∧ Below w19.heap.size w19 w') → Calls Try.prog 32 #[.agg #[.slice a0 L0.length c0]] w' fun e w2 => ∃ v, e = .returned (.agg #[v]) ∧ w2.ownsRow w'.heap.size 3 1 v L0.length (L0.map (Value.int .i64)) ∧ Below w'.heap.size w' w2 := fun w' h => ct_Semigroup L0 a0 c0 w' (HR0.out.below (hW.trans ((h.2.2).mono hW.size))) hb0
        have ctf1 : ∀ w', (w'.cell? ⟨W.heap.size, 0, none⟩ = some (.slice a0 L0.length c0) ∧ w'.cell? ⟨W.heap.size + 1, 0, none⟩ = some (.slice a1 L1.length c1) ∧ Below w19.heap.size w19 w') → Calls Try.prog 32 #[.agg #[.slice a1 L1.length c1]] w' fun e w2 => ∃ v, e = .returned (.agg #[v]) ∧ w2.ownsRow w'.heap.size 3 1 v L1.length (L1.map (Value.int .i64)) ∧ Below w'.heap.size w' w2 := fun w' h => ct_Semigroup L1 a1 c1 w' (HR1.out.below (hW.trans ((h.2.2).mono hW.size))) hb1
        have hlp0 := B_p0.out.lt
        have hlp1 := B_p1.out.lt
        have HKr : Hid (∀ w', Below w19.heap.size w19 w' → (w'.cell? ⟨W.heap.size, 0, none⟩ = some (.slice a0 L0.length c0) ∧ w'.cell? ⟨W.heap.size + 1, 0, none⟩ = some (.slice a1 L1.length c1) ∧ Below w19.heap.size w19 w')) := Lib.hid fun w' h => ⟨(h.cell (p := ⟨W.heap.size, 0, none⟩) hlp0).trans (B_p0.out.cell 0), (h.cell (p := ⟨W.heap.size + 1, 0, none⟩) hlp1).trans (B_p1.out.cell 0), h⟩
        have hS0 := HKr.out _ (Below.refl w19.heap.size w19).drew
        go_wp2_with fail
        refine wp_region_held_drew (S := fun w' => w'.cell? ⟨W.heap.size, 0, none⟩ = some (.slice a0 L0.length c0) ∧ w'.cell? ⟨W.heap.size + 1, 0, none⟩ = some (.slice a1 L1.length c1) ∧ Below w19.heap.size w19 w') (by kernel_rfl) hS0 (fun hHeld => ?_)
        generalize w19.drew = wd at *
        refine held_take 0 _ _ rfl (by kernel_rfl) (by kernel_rfl) (by kernel_rfl) (fun _ _ _ h => h) (by rfl) hHeld (fun w hSw => by (try dsimp only at hSw); go_simp; try with_reducible rfl) ?_
        (try simp only [Act.put, List.setIfInBounds_toArray, List.set_cons_zero, List.set_cons_succ, List.getElem_toArray, List.getElem_cons_zero])
        refine held_take 2 _ _ rfl (by kernel_rfl) (by kernel_rfl) (by kernel_rfl) (fun _ _ _ h => h) (by rfl) hHeld (fun w hSw => by (try dsimp only at hSw); go_simp; try with_reducible rfl) ?_
        (try simp only [Act.put, List.setIfInBounds_toArray, List.set_cons_zero, List.set_cons_succ, List.getElem_toArray, List.getElem_cons_succ, List.getElem_cons_zero])
        refine wpAnyH_ready (rs := [1, 8]) (by kernel_rfl) (by simp) ?_
        refine AllReadyH.cons rfl (fun K hK => ?_) (AllReadyH.cons rfl (fun K hK => ?_) AllReadyH.nil)
        · rw [if_pos (by rfl)]
          go_wp2_with (first | (go_at_call 32; (with_reducible refine (ctf0 _ (by assumption)).mono ?_); rintro e wx20 ⟨v, rfl, ho, hbt0⟩; obtain ⟨a_r0, c_r0, rfl, rX0⟩ := row_open ho; clear ho; try (replace hT := hT.below hbt0)))
          refine hK.out _ _ (HKr.out _ ((hHeld).2.2.trans (hbt0.mono (hHeld).2.2.size))) (fun hHeld1 => ?_)
          clear hK K
          (try simp only [Act.put, List.setIfInBounds_toArray, List.set_cons_zero, List.set_cons_succ, List.getElem_toArray, List.getElem_cons_succ, List.getElem_cons_zero])
          refine wpAnyH_ready (rs := [3, 8]) (by kernel_rfl) (by simp) ?_
          refine AllReadyH.cons rfl (fun K hK => ?_) (AllReadyH.cons rfl (fun K hK => ?_) AllReadyH.nil)
          · rw [if_pos (by rfl)]
            go_wp2_with (first | (go_at_call 32; (with_reducible refine (ctf1 _ (by assumption)).mono ?_); rintro e wy20 ⟨v, rfl, ho, hbt1⟩; obtain ⟨a_r1, c_r1, rfl, rX1⟩ := row_open ho; clear ho; replace rX0 := rX0.below hbt1; try (replace hT := hT.below hbt1)))
            refine hK.out _ _ (HKr.out _ ((hHeld1).2.2.trans (hbt1.mono (hHeld1).2.2.size))) (fun hHeld2 => ?_)
            clear hK K
            (try simp only [Act.put, List.setIfInBounds_toArray, List.set_cons_zero, List.set_cons_succ, List.getElem_toArray, List.getElem_cons_succ, List.getElem_cons_zero])
            refine wpAnyH_ready (rs := [4, 8]) (by kernel_rfl) (by simp) ?_
            refine AllReadyH.cons rfl (fun K hK => ?_) (AllReadyH.cons rfl (fun K hK => ?_) AllReadyH.nil)
            · rw [if_pos (by rfl)]
              go_wp2_with (first | (go_at_call 22; (with_reducible refine (ci_MeetOf L0 a_r0 c_r0 L1 a_r1 c_r1 _ rX0.slw rX1.slw hb0 hb1).mono ?_); rintro e wf20 ⟨v, rfl, ho, hb6⟩; obtain ⟨lo_h0, hi_h0, a_h0, c_h0, rfl, hlo1, hlo2, hhi, rX⟩ := row_named (hHeld2).2.2.size ho; clear ho; try (have hap : t_h0 < lo_h0 ∨ hi_h0 ≤ t_h0 := .inl (by have := hT.lt; omega); replace hT := hT.below hb6)))
              refine hK.out _ _ (HKr.out _ ((hHeld2).2.2.trans (hb6.mono (hHeld2).2.2.size))) (fun hHeld3 => ?_)
              clear hK K
              (try simp only [Act.put, List.setIfInBounds_toArray, List.set_cons_zero, List.set_cons_succ, List.getElem_toArray, List.getElem_cons_succ, List.getElem_cons_zero])
              refine held_take 5 _ _ rfl (by kernel_rfl) (by kernel_rfl) (by kernel_rfl) (fun _ _ _ h => h) (by rfl) hHeld3 (fun w hSw => by (try dsimp only at hSw); go_simp; try with_reducible rfl) ?_
              (try simp only [Act.put, List.setIfInBounds_toArray, List.set_cons_zero, List.set_cons_succ, List.getElem_toArray, List.getElem_cons_succ, List.getElem_cons_zero])
              refine held_take 6 _ _ rfl (by kernel_rfl) (by kernel_rfl) (by kernel_rfl) (fun _ _ _ h => h) (by rfl) hHeld3 (fun w hSw => by (try dsimp only at hSw); go_simp; try with_reducible rfl) ?_
              (try simp only [Act.put, List.setIfInBounds_toArray, List.set_cons_zero, List.set_cons_succ, List.getElem_toArray, List.getElem_cons_succ, List.getElem_cons_zero])
              refine held_take 7 _ _ rfl (by kernel_rfl) (by kernel_rfl) (by kernel_rfl) (fun _ _ _ h => h) (by rfl) hHeld3 (fun w hSw => by (try dsimp only at hSw); go_simp; try with_reducible rfl) ?_
              (try simp only [Act.put, List.setIfInBounds_toArray, List.set_cons_zero, List.set_cons_succ, List.getElem_toArray, List.getElem_cons_succ, List.getElem_cons_zero])
              refine wpAnyH_ready (rs := [8]) (by kernel_rfl) (by simp) ?_
              refine AllReadyH.cons rfl (fun K hK => ?_) AllReadyH.nil
              rw [if_pos (by rfl)]
              try replace rX0 := rX0.below (box_below _ (.cells [Value.slice none 0 0].toArray 26))
              try replace rX1 := rX1.below (box_below _ (.cells [Value.slice none 0 0].toArray 26))
              obtain ⟨t_h0, et, hT, htV⟩ := newSgNamed (hHeld3).2.2
              try (have hap : t_h0 < lo_h0 ∨ hi_h0 ≤ t_h0 := .inr (by have := rX.hi_le; omega))
              try replace rX := rX.below (box_below _ (.cells [Value.slice none 0 0].toArray 26))
              refine wp_alloc_arr 26 [Value.slice none 0 0] zeroSg (by rfl) ?_
              rw [← et]
              clear et
              refine hK.out _ _ (HKr.out _ ((hHeld3).2.2.alloc (hHeld3).2.2.size _)) (fun hHeld4 => ?_)
              clear hK K
              (try simp only [Act.put, List.setIfInBounds_toArray, List.set_cons_zero, List.set_cons_succ, List.getElem_toArray, List.getElem_cons_succ, List.getElem_cons_zero])
              refine wpAnyH_ready (rs := [9]) (by kernel_rfl) (by simp) ?_
              refine AllReadyH.cons rfl (fun K hK => ?_) AllReadyH.nil
              rw [if_pos (by rfl)]
              refine wp_store_arr 26 (.tmp 15) (.tmp 100) _ [Value.slice none 0 0] [.slice a_h0 (meetL L0 L1).length c_h0] (by rfl) (by rfl) (by rfl) hT rfl sizeSg (by simp [Value.oneCell']) ?_
              intro w20 hN7 hg7
              refine hK.out _ _ (HKr.out _ ((hHeld4).2.2.grown hg7 (hHeld4).2.2.size (fun j hj => by cases hj; exact htV))) (fun hHeld5 => ?_)
              clear hK K
              (try simp only [Act.put, List.getElem_toArray, List.getElem_cons_succ, List.getElem_cons_zero])
              refine held_take 10 _ _ rfl (by kernel_rfl) (by kernel_rfl) (by kernel_rfl) (fun _ _ _ h => h) (by rfl) hHeld5 (fun w hSw => by (try dsimp only at hSw); go_simp; try with_reducible rfl) ?_
              (try simp only [Act.put, List.setIfInBounds_toArray, List.set_cons_zero, List.set_cons_succ, List.getElem_toArray, List.getElem_cons_succ, List.getElem_cons_zero])
              refine wpAnyH_done (by kernel_rfl) ?_ _
              have hb := (hHeld5).2.2
              have R_h0 := Lib.hid (rX.grown hg7 (fun j hj => by cases hj; exact hap))
              have B_h0 := Lib.hid hN7
              have zt_h0 := hN7.lt
              have zh_h0 := R_h0.out.hi_le
              have zl_h0 : lo_h0 ≤ hi_h0 := by have := hb6.size; omega
              replace R_w0 := Lib.hid (R_w0.out.below hb)
              replace R_g0 := Lib.hid (R_g0.out.below hb)
              replace B_p0 := Lib.hid (B_p0.out.below hb)
              replace B_p1 := Lib.hid (B_p1.out.below hb)
              replace B_w0 := Lib.hid (B_w0.out.below hb)
              replace B_g0 := Lib.hid (B_g0.out.below hb)
              have z20 := hb.size
              replace hW := hW.trans (hb.mono hW.size)
              clear hb hlo2 hhi hN7 hg7 rX rX0 rX1 hT hb6 hbt0 hbt1 hS0 HKr ctf0 hlp0 ctf1 hlp1
              have c := ce_Semigroup (meetL L0 L1) (meetL L0 L1) a_h0 a_w0 c_h0 c_w0 w20 R_h0.out.slv R_w0.out.slv (by omega) (by omega)
              rw [decide_eq_true (rfl : (meetL L0 L1) = (meetL L0 L1))] at c
              have hk_p0 : w20.cell? ⟨W.heap.size, 0, none⟩ = some (.slice a0 L0.length c0) := B_p0.out.cell 0
              have hk_p1 : w20.cell? ⟨W.heap.size + 1, 0, none⟩ = some (.slice a1 L1.length c1) := B_p1.out.cell 0
              have hk_w0 : w20.cell? ⟨t_w0, 0, none⟩ = some (.slice a_w0 (meetL L0 L1).length c_w0) := B_w0.out.cell 0
              have hk_g0 : w20.cell? ⟨w8.heap.size, 0, none⟩ = some (.slice a_g0 (meetL L0 L1).length c_g0) := B_g0.out.cell 0
              have hk_h0 : w20.cell? ⟨t_h0, 0, none⟩ = some (.slice a_h0 (meetL L0 L1).length c_h0) := B_h0.out.cell 0
              go_wp2_with fail
              refine c.mono ?_
              rintro e w21 ⟨rfl, hb⟩
              clear hk_p0 hk_p1 hk_w0 hk_g0 hk_h0
              clear c
              replace R_w0 := Lib.hid (R_w0.out.below hb)
              replace R_g0 := Lib.hid (R_g0.out.below hb)
              replace R_h0 := Lib.hid (R_h0.out.below hb)
              replace B_p0 := Lib.hid (B_p0.out.below hb)
              replace B_p1 := Lib.hid (B_p1.out.below hb)
              replace B_w0 := Lib.hid (B_w0.out.below hb)
              replace B_g0 := Lib.hid (B_g0.out.below hb)
              replace B_h0 := Lib.hid (B_h0.out.below hb)
              have z21 := hb.size
              replace hW := hW.trans (hb.mono hW.size)
              clear hb
              clear R_h0
              clear B_h0
              have c := ch_Semigroup 1 ((meetL L0 L1).length) c_g0 a_g0 w21 R_g0.out.slv (by omega) (by omega) (by omega)
              have hk_p0 : w21.cell? ⟨W.heap.size, 0, none⟩ = some (.slice a0 L0.length c0) := B_p0.out.cell 0
              have hk_p1 : w21.cell? ⟨W.heap.size + 1, 0, none⟩ = some (.slice a1 L1.length c1) := B_p1.out.cell 0
              have hk_w0 : w21.cell? ⟨t_w0, 0, none⟩ = some (.slice a_w0 (meetL L0 L1).length c_w0) := B_w0.out.cell 0
              have hk_g0 : w21.cell? ⟨w8.heap.size, 0, none⟩ = some (.slice a_g0 (meetL L0 L1).length c_g0) := B_g0.out.cell 0
              go_wp2_with fail
              refine c.mono ?_
              rintro e w22 ⟨rfl, hb⟩
              clear hk_p0 hk_p1 hk_w0 hk_g0
              clear c
              replace R_w0 := Lib.hid (R_w0.out.below hb)
              replace R_g0 := Lib.hid (R_g0.out.below hb)
              replace B_p0 := Lib.hid (B_p0.out.below hb)
              replace B_p1 := Lib.hid (B_p1.out.below hb)
              replace B_w0 := Lib.hid (B_w0.out.below hb)
              replace B_g0 := Lib.hid (B_g0.out.below hb)
              have z22 := hb.size
              replace hW := hW.trans (hb.mono hW.size)
              clear hb
              have hk_p0 : w22.cell? ⟨W.heap.size, 0, none⟩ = some (.slice a0 L0.length c0) := B_p0.out.cell 0
              have hk_p1 : w22.cell? ⟨W.heap.size + 1, 0, none⟩ = some (.slice a1 L1.length c1) := B_p1.out.cell 0
              have hk_w0 : w22.cell? ⟨t_w0, 0, none⟩ = some (.slice a_w0 (meetL L0 L1).length c_w0) := B_w0.out.cell 0
              have hk_g0 : w22.cell? ⟨w8.heap.size, 0, none⟩ = some (.slice a_g0 (meetL L0 L1).length c_g0) := B_g0.out.cell 0
              go_wp2_with fail
              go_ret
              exact ⟨rfl, H00.out.trans (hW.mono H00.out.size)⟩
            · rw [if_pos (by rfl)]
              try replace rX0 := rX0.below (box_below _ (.cells [Value.slice none 0 0].toArray 26))
              try replace rX1 := rX1.below (box_below _ (.cells [Value.slice none 0 0].toArray 26))
              obtain ⟨t_h0, et, hT, htV⟩ := newSgNamed (hHeld2).2.2
              try (have hap : t_h0 < lo_h0 ∨ hi_h0 ≤ t_h0 := .inr (by have := rX.hi_le; omega))
              try replace rX := rX.below (box_below _ (.cells [Value.slice none 0 0].toArray 26))
              refine wp_alloc_arr 26 [Value.slice none 0 0] zeroSg (by rfl) ?_
              rw [← et]
              clear et
              refine hK.out _ _ (HKr.out _ ((hHeld2).2.2.alloc (hHeld2).2.2.size _)) (fun hHeld3 => ?_)
              clear hK K
              (try simp only [Act.put, List.setIfInBounds_toArray, List.set_cons_zero, List.set_cons_succ, List.getElem_toArray, List.getElem_cons_succ, List.getElem_cons_zero])
              refine wpAnyH_ready (rs := [4]) (by kernel_rfl) (by simp) ?_
              refine AllReadyH.cons rfl (fun K hK => ?_) AllReadyH.nil
              rw [if_pos (by rfl)]
              go_wp2_with (first | (go_at_call 22; (with_reducible refine (ci_MeetOf L0 a_r0 c_r0 L1 a_r1 c_r1 _ rX0.slw rX1.slw hb0 hb1).mono ?_); rintro e wf20 ⟨v, rfl, ho, hb6⟩; obtain ⟨lo_h0, hi_h0, a_h0, c_h0, rfl, hlo1, hlo2, hhi, rX⟩ := row_named (hHeld3).2.2.size ho; clear ho; try (have hap : t_h0 < lo_h0 ∨ hi_h0 ≤ t_h0 := .inl (by have := hT.lt; omega); replace hT := hT.below hb6)))
              refine hK.out _ _ (HKr.out _ ((hHeld3).2.2.trans (hb6.mono (hHeld3).2.2.size))) (fun hHeld4 => ?_)
              clear hK K
              (try simp only [Act.put, List.setIfInBounds_toArray, List.set_cons_zero, List.set_cons_succ, List.getElem_toArray, List.getElem_cons_succ, List.getElem_cons_zero])
              refine held_take 5 _ _ rfl (by kernel_rfl) (by kernel_rfl) (by kernel_rfl) (fun _ _ _ h => h) (by rfl) hHeld4 (fun w hSw => by (try dsimp only at hSw); go_simp; try with_reducible rfl) ?_
              (try simp only [Act.put, List.setIfInBounds_toArray, List.set_cons_zero, List.set_cons_succ, List.getElem_toArray, List.getElem_cons_succ, List.getElem_cons_zero])
              refine held_take 6 _ _ rfl (by kernel_rfl) (by kernel_rfl) (by kernel_rfl) (fun _ _ _ h => h) (by rfl) hHeld4 (fun w hSw => by (try dsimp only at hSw); go_simp; try with_reducible rfl) ?_
              (try simp only [Act.put, List.setIfInBounds_toArray, List.set_cons_zero, List.set_cons_succ, List.getElem_toArray, List.getElem_cons_succ, List.getElem_cons_zero])
              refine held_take 7 _ _ rfl (by kernel_rfl) (by kernel_rfl) (by kernel_rfl) (fun _ _ _ h => h) (by rfl) hHeld4 (fun w hSw => by (try dsimp only at hSw); go_simp; try with_reducible rfl) ?_
              (try simp only [Act.put, List.setIfInBounds_toArray, List.set_cons_zero, List.set_cons_succ, List.getElem_toArray, List.getElem_cons_succ, List.getElem_cons_zero])
              refine wpAnyH_ready (rs := [9]) (by kernel_rfl) (by simp) ?_
              refine AllReadyH.cons rfl (fun K hK => ?_) AllReadyH.nil
              rw [if_pos (by rfl)]
              refine wp_store_arr 26 (.tmp 15) (.tmp 100) _ [Value.slice none 0 0] [.slice a_h0 (meetL L0 L1).length c_h0] (by rfl) (by rfl) (by rfl) hT rfl sizeSg (by simp [Value.oneCell']) ?_
              intro w20 hN7 hg7
              refine hK.out _ _ (HKr.out _ ((hHeld4).2.2.grown hg7 (hHeld4).2.2.size (fun j hj => by cases hj; exact htV))) (fun hHeld5 => ?_)
              clear hK K
              (try simp only [Act.put, List.getElem_toArray, List.getElem_cons_succ, List.getElem_cons_zero])
              refine held_take 10 _ _ rfl (by kernel_rfl) (by kernel_rfl) (by kernel_rfl) (fun _ _ _ h => h) (by rfl) hHeld5 (fun w hSw => by (try dsimp only at hSw); go_simp; try with_reducible rfl) ?_
              (try simp only [Act.put, List.setIfInBounds_toArray, List.set_cons_zero, List.set_cons_succ, List.getElem_toArray, List.getElem_cons_succ, List.getElem_cons_zero])
              refine wpAnyH_done (by kernel_rfl) ?_ _
              have hb := (hHeld5).2.2
              have R_h0 := Lib.hid (rX.grown hg7 (fun j hj => by cases hj; exact hap))
              have B_h0 := Lib.hid hN7
              have zt_h0 := hN7.lt
              have zh_h0 := R_h0.out.hi_le
              have zl_h0 : lo_h0 ≤ hi_h0 := by have := hb6.size; omega
              replace R_w0 := Lib.hid (R_w0.out.below hb)
              replace R_g0 := Lib.hid (R_g0.out.below hb)
              replace B_p0 := Lib.hid (B_p0.out.below hb)
              replace B_p1 := Lib.hid (B_p1.out.below hb)
              replace B_w0 := Lib.hid (B_w0.out.below hb)
              replace B_g0 := Lib.hid (B_g0.out.below hb)
              have z20 := hb.size
              replace hW := hW.trans (hb.mono hW.size)
              clear hb hlo2 hhi hN7 hg7 rX rX0 rX1 hT hb6 hbt0 hbt1 hS0 HKr ctf0 hlp0 ctf1 hlp1
              have c := ce_Semigroup (meetL L0 L1) (meetL L0 L1) a_h0 a_w0 c_h0 c_w0 w20 R_h0.out.slv R_w0.out.slv (by omega) (by omega)
              rw [decide_eq_true (rfl : (meetL L0 L1) = (meetL L0 L1))] at c
              have hk_p0 : w20.cell? ⟨W.heap.size, 0, none⟩ = some (.slice a0 L0.length c0) := B_p0.out.cell 0
              have hk_p1 : w20.cell? ⟨W.heap.size + 1, 0, none⟩ = some (.slice a1 L1.length c1) := B_p1.out.cell 0
              have hk_w0 : w20.cell? ⟨t_w0, 0, none⟩ = some (.slice a_w0 (meetL L0 L1).length c_w0) := B_w0.out.cell 0
              have hk_g0 : w20.cell? ⟨w8.heap.size, 0, none⟩ = some (.slice a_g0 (meetL L0 L1).length c_g0) := B_g0.out.cell 0
              have hk_h0 : w20.cell? ⟨t_h0, 0, none⟩ = some (.slice a_h0 (meetL L0 L1).length c_h0) := B_h0.out.cell 0
              go_wp2_with fail
              refine c.mono ?_
              rintro e w21 ⟨rfl, hb⟩
              clear hk_p0 hk_p1 hk_w0 hk_g0 hk_h0
              clear c
              replace R_w0 := Lib.hid (R_w0.out.below hb)
              replace R_g0 := Lib.hid (R_g0.out.below hb)
              replace R_h0 := Lib.hid (R_h0.out.below hb)
              replace B_p0 := Lib.hid (B_p0.out.below hb)
              replace B_p1 := Lib.hid (B_p1.out.below hb)
              replace B_w0 := Lib.hid (B_w0.out.below hb)
              replace B_g0 := Lib.hid (B_g0.out.below hb)
              replace B_h0 := Lib.hid (B_h0.out.below hb)
              have z21 := hb.size
              replace hW := hW.trans (hb.mono hW.size)
              clear hb
              clear R_h0
              clear B_h0
              have c := ch_Semigroup 1 ((meetL L0 L1).length) c_g0 a_g0 w21 R_g0.out.slv (by omega) (by omega) (by omega)
              have hk_p0 : w21.cell? ⟨W.heap.size, 0, none⟩ = some (.slice a0 L0.length c0) := B_p0.out.cell 0
              have hk_p1 : w21.cell? ⟨W.heap.size + 1, 0, none⟩ = some (.slice a1 L1.length c1) := B_p1.out.cell 0
              have hk_w0 : w21.cell? ⟨t_w0, 0, none⟩ = some (.slice a_w0 (meetL L0 L1).length c_w0) := B_w0.out.cell 0
              have hk_g0 : w21.cell? ⟨w8.heap.size, 0, none⟩ = some (.slice a_g0 (meetL L0 L1).length c_g0) := B_g0.out.cell 0
              go_wp2_with fail
              refine c.mono ?_
              rintro e w22 ⟨rfl, hb⟩
              clear hk_p0 hk_p1 hk_w0 hk_g0
              clear c
              replace R_w0 := Lib.hid (R_w0.out.below hb)
              replace R_g0 := Lib.hid (R_g0.out.below hb)
              replace B_p0 := Lib.hid (B_p0.out.below hb)
              replace B_p1 := Lib.hid (B_p1.out.below hb)
              replace B_w0 := Lib.hid (B_w0.out.below hb)
              replace B_g0 := Lib.hid (B_g0.out.below hb)
              have z22 := hb.size
              replace hW := hW.trans (hb.mono hW.size)
              clear hb
              have hk_p0 : w22.cell? ⟨W.heap.size, 0, none⟩ = some (.slice a0 L0.length c0) := B_p0.out.cell 0
              have hk_p1 : w22.cell? ⟨W.heap.size + 1, 0, none⟩ = some (.slice a1 L1.length c1) := B_p1.out.cell 0
              have hk_w0 : w22.cell? ⟨t_w0, 0, none⟩ = some (.slice a_w0 (meetL L0 L1).length c_w0) := B_w0.out.cell 0
              have hk_g0 : w22.cell? ⟨w8.heap.size, 0, none⟩ = some (.slice a_g0 (meetL L0 L1).length c_g0) := B_g0.out.cell 0
              go_wp2_with fail
              go_ret
              exact ⟨rfl, H00.out.trans (hW.mono H00.out.size)⟩
          · rw [if_pos (by rfl)]
            try replace rX0 := rX0.below (box_below _ (.cells [Value.slice none 0 0].toArray 26))
            try replace rX1 := rX1.below (box_below _ (.cells [Value.slice none 0 0].toArray 26))
            obtain ⟨t_h0, et, hT, htV⟩ := newSgNamed (hHeld1).2.2
            try (have hap : t_h0 < lo_h0 ∨ hi_h0 ≤ t_h0 := .inr (by have := rX.hi_le; omega))
            try replace rX := rX.below (box_below _ (.cells [Value.slice none 0 0].toArray 26))
            refine wp_alloc_arr 26 [Value.slice none 0 0] zeroSg (by rfl) ?_
            rw [← et]
            clear et
            refine hK.out _ _ (HKr.out _ ((hHeld1).2.2.alloc (hHeld1).2.2.size _)) (fun hHeld2 => ?_)
            clear hK K
            (try simp only [Act.put, List.setIfInBounds_toArray, List.set_cons_zero, List.set_cons_succ, List.getElem_toArray, List.getElem_cons_succ, List.getElem_cons_zero])
            refine wpAnyH_ready (rs := [3]) (by kernel_rfl) (by simp) ?_
            refine AllReadyH.cons rfl (fun K hK => ?_) AllReadyH.nil
            rw [if_pos (by rfl)]
            go_wp2_with (first | (go_at_call 32; (with_reducible refine (ctf1 _ (by assumption)).mono ?_); rintro e wy20 ⟨v, rfl, ho, hbt1⟩; obtain ⟨a_r1, c_r1, rfl, rX1⟩ := row_open ho; clear ho; replace rX0 := rX0.below hbt1; try (replace hT := hT.below hbt1)))
            refine hK.out _ _ (HKr.out _ ((hHeld2).2.2.trans (hbt1.mono (hHeld2).2.2.size))) (fun hHeld3 => ?_)
            clear hK K
            (try simp only [Act.put, List.setIfInBounds_toArray, List.set_cons_zero, List.set_cons_succ, List.getElem_toArray, List.getElem_cons_succ, List.getElem_cons_zero])
            refine wpAnyH_ready (rs := [4]) (by kernel_rfl) (by simp) ?_
            refine AllReadyH.cons rfl (fun K hK => ?_) AllReadyH.nil
            rw [if_pos (by rfl)]
            go_wp2_with (first | (go_at_call 22; (with_reducible refine (ci_MeetOf L0 a_r0 c_r0 L1 a_r1 c_r1 _ rX0.slw rX1.slw hb0 hb1).mono ?_); rintro e wf20 ⟨v, rfl, ho, hb6⟩; obtain ⟨lo_h0, hi_h0, a_h0, c_h0, rfl, hlo1, hlo2, hhi, rX⟩ := row_named (hHeld3).2.2.size ho; clear ho; try (have hap : t_h0 < lo_h0 ∨ hi_h0 ≤ t_h0 := .inl (by have := hT.lt; omega); replace hT := hT.below hb6)))
            refine hK.out _ _ (HKr.out _ ((hHeld3).2.2.trans (hb6.mono (hHeld3).2.2.size))) (fun hHeld4 => ?_)
            clear hK K
            (try simp only [Act.put, List.setIfInBounds_toArray, List.set_cons_zero, List.set_cons_succ, List.getElem_toArray, List.getElem_cons_succ, List.getElem_cons_zero])
            refine held_take 5 _ _ rfl (by kernel_rfl) (by kernel_rfl) (by kernel_rfl) (fun _ _ _ h => h) (by rfl) hHeld4 (fun w hSw => by (try dsimp only at hSw); go_simp; try with_reducible rfl) ?_
            (try simp only [Act.put, List.setIfInBounds_toArray, List.set_cons_zero, List.set_cons_succ, List.getElem_toArray, List.getElem_cons_succ, List.getElem_cons_zero])
            refine held_take 6 _ _ rfl (by kernel_rfl) (by kernel_rfl) (by kernel_rfl) (fun _ _ _ h => h) (by rfl) hHeld4 (fun w hSw => by (try dsimp only at hSw); go_simp; try with_reducible rfl) ?_
            (try simp only [Act.put, List.setIfInBounds_toArray, List.set_cons_zero, List.set_cons_succ, List.getElem_toArray, List.getElem_cons_succ, List.getElem_cons_zero])
            refine held_take 7 _ _ rfl (by kernel_rfl) (by kernel_rfl) (by kernel_rfl) (fun _ _ _ h => h) (by rfl) hHeld4 (fun w hSw => by (try dsimp only at hSw); go_simp; try with_reducible rfl) ?_
            (try simp only [Act.put, List.setIfInBounds_toArray, List.set_cons_zero, List.set_cons_succ, List.getElem_toArray, List.getElem_cons_succ, List.getElem_cons_zero])
            refine wpAnyH_ready (rs := [9]) (by kernel_rfl) (by simp) ?_
            refine AllReadyH.cons rfl (fun K hK => ?_) AllReadyH.nil
            rw [if_pos (by rfl)]
            refine wp_store_arr 26 (.tmp 15) (.tmp 100) _ [Value.slice none 0 0] [.slice a_h0 (meetL L0 L1).length c_h0] (by rfl) (by rfl) (by rfl) hT rfl sizeSg (by simp [Value.oneCell']) ?_
            intro w20 hN7 hg7
            refine hK.out _ _ (HKr.out _ ((hHeld4).2.2.grown hg7 (hHeld4).2.2.size (fun j hj => by cases hj; exact htV))) (fun hHeld5 => ?_)
            clear hK K
            (try simp only [Act.put, List.getElem_toArray, List.getElem_cons_succ, List.getElem_cons_zero])
            refine held_take 10 _ _ rfl (by kernel_rfl) (by kernel_rfl) (by kernel_rfl) (fun _ _ _ h => h) (by rfl) hHeld5 (fun w hSw => by (try dsimp only at hSw); go_simp; try with_reducible rfl) ?_
            (try simp only [Act.put, List.setIfInBounds_toArray, List.set_cons_zero, List.set_cons_succ, List.getElem_toArray, List.getElem_cons_succ, List.getElem_cons_zero])
            refine wpAnyH_done (by kernel_rfl) ?_ _
            have hb := (hHeld5).2.2
            have R_h0 := Lib.hid (rX.grown hg7 (fun j hj => by cases hj; exact hap))
            have B_h0 := Lib.hid hN7
            have zt_h0 := hN7.lt
            have zh_h0 := R_h0.out.hi_le
            have zl_h0 : lo_h0 ≤ hi_h0 := by have := hb6.size; omega
            replace R_w0 := Lib.hid (R_w0.out.below hb)
            replace R_g0 := Lib.hid (R_g0.out.below hb)
            replace B_p0 := Lib.hid (B_p0.out.below hb)
            replace B_p1 := Lib.hid (B_p1.out.below hb)
            replace B_w0 := Lib.hid (B_w0.out.below hb)
            replace B_g0 := Lib.hid (B_g0.out.below hb)
            have z20 := hb.size
            replace hW := hW.trans (hb.mono hW.size)
            clear hb hlo2 hhi hN7 hg7 rX rX0 rX1 hT hb6 hbt0 hbt1 hS0 HKr ctf0 hlp0 ctf1 hlp1
            have c := ce_Semigroup (meetL L0 L1) (meetL L0 L1) a_h0 a_w0 c_h0 c_w0 w20 R_h0.out.slv R_w0.out.slv (by omega) (by omega)
            rw [decide_eq_true (rfl : (meetL L0 L1) = (meetL L0 L1))] at c
            have hk_p0 : w20.cell? ⟨W.heap.size, 0, none⟩ = some (.slice a0 L0.length c0) := B_p0.out.cell 0
            have hk_p1 : w20.cell? ⟨W.heap.size + 1, 0, none⟩ = some (.slice a1 L1.length c1) := B_p1.out.cell 0
            have hk_w0 : w20.cell? ⟨t_w0, 0, none⟩ = some (.slice a_w0 (meetL L0 L1).length c_w0) := B_w0.out.cell 0
            have hk_g0 : w20.cell? ⟨w8.heap.size, 0, none⟩ = some (.slice a_g0 (meetL L0 L1).length c_g0) := B_g0.out.cell 0
            have hk_h0 : w20.cell? ⟨t_h0, 0, none⟩ = some (.slice a_h0 (meetL L0 L1).length c_h0) := B_h0.out.cell 0
            go_wp2_with fail
            refine c.mono ?_
            rintro e w21 ⟨rfl, hb⟩
            clear hk_p0 hk_p1 hk_w0 hk_g0 hk_h0
            clear c
            replace R_w0 := Lib.hid (R_w0.out.below hb)
            replace R_g0 := Lib.hid (R_g0.out.below hb)
            replace R_h0 := Lib.hid (R_h0.out.below hb)
            replace B_p0 := Lib.hid (B_p0.out.below hb)
            replace B_p1 := Lib.hid (B_p1.out.below hb)
            replace B_w0 := Lib.hid (B_w0.out.below hb)
            replace B_g0 := Lib.hid (B_g0.out.below hb)
            replace B_h0 := Lib.hid (B_h0.out.below hb)
            have z21 := hb.size
            replace hW := hW.trans (hb.mono hW.size)
            clear hb
            clear R_h0
            clear B_h0
            have c := ch_Semigroup 1 ((meetL L0 L1).length) c_g0 a_g0 w21 R_g0.out.slv (by omega) (by omega) (by omega)
            have hk_p0 : w21.cell? ⟨W.heap.size, 0, none⟩ = some (.slice a0 L0.length c0) := B_p0.out.cell 0
            have hk_p1 : w21.cell? ⟨W.heap.size + 1, 0, none⟩ = some (.slice a1 L1.length c1) := B_p1.out.cell 0
            have hk_w0 : w21.cell? ⟨t_w0, 0, none⟩ = some (.slice a_w0 (meetL L0 L1).length c_w0) := B_w0.out.cell 0
            have hk_g0 : w21.cell? ⟨w8.heap.size, 0, none⟩ = some (.slice a_g0 (meetL L0 L1).length c_g0) := B_g0.out.cell 0
            go_wp2_with fail
            refine c.mono ?_
            rintro e w22 ⟨rfl, hb⟩
            clear hk_p0 hk_p1 hk_w0 hk_g0
            clear c
            replace R_w0 := Lib.hid (R_w0.out.below hb)
            replace R_g0 := Lib.hid (R_g0.out.below hb)
            replace B_p0 := Lib.hid (B_p0.out.below hb)
            replace B_p1 := Lib.hid (B_p1.out.below hb)
            replace B_w0 := Lib.hid (B_w0.out.below hb)
            replace B_g0 := Lib.hid (B_g0.out.below hb)
            have z22 := hb.size
            replace hW := hW.trans (hb.mono hW.size)
            clear hb
            have hk_p0 : w22.cell? ⟨W.heap.size, 0, none⟩ = some (.slice a0 L0.length c0) := B_p0.out.cell 0
            have hk_p1 : w22.cell? ⟨W.heap.size + 1, 0, none⟩ = some (.slice a1 L1.length c1) := B_p1.out.cell 0
            have hk_w0 : w22.cell? ⟨t_w0, 0, none⟩ = some (.slice a_w0 (meetL L0 L1).length c_w0) := B_w0.out.cell 0
            have hk_g0 : w22.cell? ⟨w8.heap.size, 0, none⟩ = some (.slice a_g0 (meetL L0 L1).length c_g0) := B_g0.out.cell 0
            go_wp2_with fail
            go_ret
            exact ⟨rfl, H00.out.trans (hW.mono H00.out.size)⟩
        · rw [if_pos (by rfl)]
          try replace rX0 := rX0.below (box_below _ (.cells [Value.slice none 0 0].toArray 26))
          try replace rX1 := rX1.below (box_below _ (.cells [Value.slice none 0 0].toArray 26))
          obtain ⟨t_h0, et, hT, htV⟩ := newSgNamed (hHeld).2.2
          try (have hap : t_h0 < lo_h0 ∨ hi_h0 ≤ t_h0 := .inr (by have := rX.hi_le; omega))
          try replace rX := rX.below (box_below _ (.cells [Value.slice none 0 0].toArray 26))
          refine wp_alloc_arr 26 [Value.slice none 0 0] zeroSg (by rfl) ?_
          rw [← et]
          clear et
          refine hK.out _ _ (HKr.out _ ((hHeld).2.2.alloc (hHeld).2.2.size _)) (fun hHeld1 => ?_)
          clear hK K
          (try simp only [Act.put, List.setIfInBounds_toArray, List.set_cons_zero, List.set_cons_succ, List.getElem_toArray, List.getElem_cons_succ, List.getElem_cons_zero])
          refine wpAnyH_ready (rs := [1]) (by kernel_rfl) (by simp) ?_
          refine AllReadyH.cons rfl (fun K hK => ?_) AllReadyH.nil
          rw [if_pos (by rfl)]
          go_wp2_with (first | (go_at_call 32; (with_reducible refine (ctf0 _ (by assumption)).mono ?_); rintro e wx20 ⟨v, rfl, ho, hbt0⟩; obtain ⟨a_r0, c_r0, rfl, rX0⟩ := row_open ho; clear ho; try (replace hT := hT.below hbt0)))
          refine hK.out _ _ (HKr.out _ ((hHeld1).2.2.trans (hbt0.mono (hHeld1).2.2.size))) (fun hHeld2 => ?_)
          clear hK K
          (try simp only [Act.put, List.setIfInBounds_toArray, List.set_cons_zero, List.set_cons_succ, List.getElem_toArray, List.getElem_cons_succ, List.getElem_cons_zero])
          refine wpAnyH_ready (rs := [3]) (by kernel_rfl) (by simp) ?_
          refine AllReadyH.cons rfl (fun K hK => ?_) AllReadyH.nil
          rw [if_pos (by rfl)]
          go_wp2_with (first | (go_at_call 32; (with_reducible refine (ctf1 _ (by assumption)).mono ?_); rintro e wy20 ⟨v, rfl, ho, hbt1⟩; obtain ⟨a_r1, c_r1, rfl, rX1⟩ := row_open ho; clear ho; replace rX0 := rX0.below hbt1; try (replace hT := hT.below hbt1)))
          refine hK.out _ _ (HKr.out _ ((hHeld2).2.2.trans (hbt1.mono (hHeld2).2.2.size))) (fun hHeld3 => ?_)
          clear hK K
          (try simp only [Act.put, List.setIfInBounds_toArray, List.set_cons_zero, List.set_cons_succ, List.getElem_toArray, List.getElem_cons_succ, List.getElem_cons_zero])
          refine wpAnyH_ready (rs := [4]) (by kernel_rfl) (by simp) ?_
          refine AllReadyH.cons rfl (fun K hK => ?_) AllReadyH.nil
          rw [if_pos (by rfl)]
          go_wp2_with (first | (go_at_call 22; (with_reducible refine (ci_MeetOf L0 a_r0 c_r0 L1 a_r1 c_r1 _ rX0.slw rX1.slw hb0 hb1).mono ?_); rintro e wf20 ⟨v, rfl, ho, hb6⟩; obtain ⟨lo_h0, hi_h0, a_h0, c_h0, rfl, hlo1, hlo2, hhi, rX⟩ := row_named (hHeld3).2.2.size ho; clear ho; try (have hap : t_h0 < lo_h0 ∨ hi_h0 ≤ t_h0 := .inl (by have := hT.lt; omega); replace hT := hT.below hb6)))
          refine hK.out _ _ (HKr.out _ ((hHeld3).2.2.trans (hb6.mono (hHeld3).2.2.size))) (fun hHeld4 => ?_)
          clear hK K
          (try simp only [Act.put, List.setIfInBounds_toArray, List.set_cons_zero, List.set_cons_succ, List.getElem_toArray, List.getElem_cons_succ, List.getElem_cons_zero])
          refine held_take 5 _ _ rfl (by kernel_rfl) (by kernel_rfl) (by kernel_rfl) (fun _ _ _ h => h) (by rfl) hHeld4 (fun w hSw => by (try dsimp only at hSw); go_simp; try with_reducible rfl) ?_
          (try simp only [Act.put, List.setIfInBounds_toArray, List.set_cons_zero, List.set_cons_succ, List.getElem_toArray, List.getElem_cons_succ, List.getElem_cons_zero])
          refine held_take 6 _ _ rfl (by kernel_rfl) (by kernel_rfl) (by kernel_rfl) (fun _ _ _ h => h) (by rfl) hHeld4 (fun w hSw => by (try dsimp only at hSw); go_simp; try with_reducible rfl) ?_
          (try simp only [Act.put, List.setIfInBounds_toArray, List.set_cons_zero, List.set_cons_succ, List.getElem_toArray, List.getElem_cons_succ, List.getElem_cons_zero])
          refine held_take 7 _ _ rfl (by kernel_rfl) (by kernel_rfl) (by kernel_rfl) (fun _ _ _ h => h) (by rfl) hHeld4 (fun w hSw => by (try dsimp only at hSw); go_simp; try with_reducible rfl) ?_
          (try simp only [Act.put, List.setIfInBounds_toArray, List.set_cons_zero, List.set_cons_succ, List.getElem_toArray, List.getElem_cons_succ, List.getElem_cons_zero])
          refine wpAnyH_ready (rs := [9]) (by kernel_rfl) (by simp) ?_
          refine AllReadyH.cons rfl (fun K hK => ?_) AllReadyH.nil
          rw [if_pos (by rfl)]
          refine wp_store_arr 26 (.tmp 15) (.tmp 100) _ [Value.slice none 0 0] [.slice a_h0 (meetL L0 L1).length c_h0] (by rfl) (by rfl) (by rfl) hT rfl sizeSg (by simp [Value.oneCell']) ?_
          intro w20 hN7 hg7
          refine hK.out _ _ (HKr.out _ ((hHeld4).2.2.grown hg7 (hHeld4).2.2.size (fun j hj => by cases hj; exact htV))) (fun hHeld5 => ?_)
          clear hK K
          (try simp only [Act.put, List.getElem_toArray, List.getElem_cons_succ, List.getElem_cons_zero])
          refine held_take 10 _ _ rfl (by kernel_rfl) (by kernel_rfl) (by kernel_rfl) (fun _ _ _ h => h) (by rfl) hHeld5 (fun w hSw => by (try dsimp only at hSw); go_simp; try with_reducible rfl) ?_
          (try simp only [Act.put, List.setIfInBounds_toArray, List.set_cons_zero, List.set_cons_succ, List.getElem_toArray, List.getElem_cons_succ, List.getElem_cons_zero])
          refine wpAnyH_done (by kernel_rfl) ?_ _
          have hb := (hHeld5).2.2
          have R_h0 := Lib.hid (rX.grown hg7 (fun j hj => by cases hj; exact hap))
          have B_h0 := Lib.hid hN7
          have zt_h0 := hN7.lt
          have zh_h0 := R_h0.out.hi_le
          have zl_h0 : lo_h0 ≤ hi_h0 := by have := hb6.size; omega
          replace R_w0 := Lib.hid (R_w0.out.below hb)
          replace R_g0 := Lib.hid (R_g0.out.below hb)
          replace B_p0 := Lib.hid (B_p0.out.below hb)
          replace B_p1 := Lib.hid (B_p1.out.below hb)
          replace B_w0 := Lib.hid (B_w0.out.below hb)
          replace B_g0 := Lib.hid (B_g0.out.below hb)
          have z20 := hb.size
          replace hW := hW.trans (hb.mono hW.size)
          clear hb hlo2 hhi hN7 hg7 rX rX0 rX1 hT hb6 hbt0 hbt1 hS0 HKr ctf0 hlp0 ctf1 hlp1
          have c := ce_Semigroup (meetL L0 L1) (meetL L0 L1) a_h0 a_w0 c_h0 c_w0 w20 R_h0.out.slv R_w0.out.slv (by omega) (by omega)
          rw [decide_eq_true (rfl : (meetL L0 L1) = (meetL L0 L1))] at c
          have hk_p0 : w20.cell? ⟨W.heap.size, 0, none⟩ = some (.slice a0 L0.length c0) := B_p0.out.cell 0
          have hk_p1 : w20.cell? ⟨W.heap.size + 1, 0, none⟩ = some (.slice a1 L1.length c1) := B_p1.out.cell 0
          have hk_w0 : w20.cell? ⟨t_w0, 0, none⟩ = some (.slice a_w0 (meetL L0 L1).length c_w0) := B_w0.out.cell 0
          have hk_g0 : w20.cell? ⟨w8.heap.size, 0, none⟩ = some (.slice a_g0 (meetL L0 L1).length c_g0) := B_g0.out.cell 0
          have hk_h0 : w20.cell? ⟨t_h0, 0, none⟩ = some (.slice a_h0 (meetL L0 L1).length c_h0) := B_h0.out.cell 0
          go_wp2_with fail
          refine c.mono ?_
          rintro e w21 ⟨rfl, hb⟩
          clear hk_p0 hk_p1 hk_w0 hk_g0 hk_h0
          clear c
          replace R_w0 := Lib.hid (R_w0.out.below hb)
          replace R_g0 := Lib.hid (R_g0.out.below hb)
          replace R_h0 := Lib.hid (R_h0.out.below hb)
          replace B_p0 := Lib.hid (B_p0.out.below hb)
          replace B_p1 := Lib.hid (B_p1.out.below hb)
          replace B_w0 := Lib.hid (B_w0.out.below hb)
          replace B_g0 := Lib.hid (B_g0.out.below hb)
          replace B_h0 := Lib.hid (B_h0.out.below hb)
          have z21 := hb.size
          replace hW := hW.trans (hb.mono hW.size)
          clear hb
          clear R_h0
          clear B_h0
          have c := ch_Semigroup 1 ((meetL L0 L1).length) c_g0 a_g0 w21 R_g0.out.slv (by omega) (by omega) (by omega)
          have hk_p0 : w21.cell? ⟨W.heap.size, 0, none⟩ = some (.slice a0 L0.length c0) := B_p0.out.cell 0
          have hk_p1 : w21.cell? ⟨W.heap.size + 1, 0, none⟩ = some (.slice a1 L1.length c1) := B_p1.out.cell 0
          have hk_w0 : w21.cell? ⟨t_w0, 0, none⟩ = some (.slice a_w0 (meetL L0 L1).length c_w0) := B_w0.out.cell 0
          have hk_g0 : w21.cell? ⟨w8.heap.size, 0, none⟩ = some (.slice a_g0 (meetL L0 L1).length c_g0) := B_g0.out.cell 0
          go_wp2_with fail
          refine c.mono ?_
          rintro e w22 ⟨rfl, hb⟩
          clear hk_p0 hk_p1 hk_w0 hk_g0
          clear c
          replace R_w0 := Lib.hid (R_w0.out.below hb)
          replace R_g0 := Lib.hid (R_g0.out.below hb)
          replace B_p0 := Lib.hid (B_p0.out.below hb)
          replace B_p1 := Lib.hid (B_p1.out.below hb)
          replace B_w0 := Lib.hid (B_w0.out.below hb)
          replace B_g0 := Lib.hid (B_g0.out.below hb)
          have z22 := hb.size
          replace hW := hW.trans (hb.mono hW.size)
          clear hb
          have hk_p0 : w22.cell? ⟨W.heap.size, 0, none⟩ = some (.slice a0 L0.length c0) := B_p0.out.cell 0
          have hk_p1 : w22.cell? ⟨W.heap.size + 1, 0, none⟩ = some (.slice a1 L1.length c1) := B_p1.out.cell 0
          have hk_w0 : w22.cell? ⟨t_w0, 0, none⟩ = some (.slice a_w0 (meetL L0 L1).length c_w0) := B_w0.out.cell 0
          have hk_g0 : w22.cell? ⟨w8.heap.size, 0, none⟩ = some (.slice a_g0 (meetL L0 L1).length c_g0) := B_g0.out.cell 0
          go_wp2_with fail
          go_ret
          exact ⟨rfl, H00.out.trans (hW.mono H00.out.size)⟩
      · rw [if_pos (by rfl)]
        try replace rX0 := rX0.below (box_below _ (.cells [Value.slice none 0 0].toArray 26))
        try replace rX1 := rX1.below (box_below _ (.cells [Value.slice none 0 0].toArray 26))
        obtain ⟨t_w0, et, hT, htV⟩ := newSgNamed (hHeld2).2.2
        try (have hap : t_w0 < lo_w0 ∨ hi_w0 ≤ t_w0 := .inr (by have := rX.hi_le; omega))
        try replace rX := rX.below (box_below _ (.cells [Value.slice none 0 0].toArray 26))
        refine wp_alloc_arr 26 [Value.slice none 0 0] zeroSg (by rfl) ?_
        rw [← et]
        clear et
        refine hK.out _ _ (HKr.out _ ((hHeld2).2.2.alloc (hHeld2).2.2.size _)) (fun hHeld3 => ?_)
        clear hK K
        (try simp only [Act.put, List.setIfInBounds_toArray, List.set_cons_zero, List.set_cons_succ, List.getElem_toArray, List.getElem_cons_succ, List.getElem_cons_zero])
        refine wpAnyH_ready (rs := [4]) (by kernel_rfl) (by simp) ?_
        refine AllReadyH.cons rfl (fun K hK => ?_) AllReadyH.nil
        rw [if_pos (by rfl)]
        go_wp2_with (first | (go_at_call 23; (with_reducible refine (cs_MeetOf L0 a_r0 c_r0 L1 a_r1 c_r1 _ rX0.slw rX1.slw hb0 hb1).mono ?_); rintro e wf3 ⟨v, rfl, ho, hb6⟩; obtain ⟨lo_w0, hi_w0, a_w0, c_w0, rfl, hlo1, hlo2, hhi, rX⟩ := row_named (hHeld3).2.2.size ho; clear ho; try (have hap : t_w0 < lo_w0 ∨ hi_w0 ≤ t_w0 := .inl (by have := hT.lt; omega); replace hT := hT.below hb6)))
        refine hK.out _ _ (HKr.out _ ((hHeld3).2.2.trans (hb6.mono (hHeld3).2.2.size))) (fun hHeld4 => ?_)
        clear hK K
        (try simp only [Act.put, List.setIfInBounds_toArray, List.set_cons_zero, List.set_cons_succ, List.getElem_toArray, List.getElem_cons_succ, List.getElem_cons_zero])
        refine held_take 5 _ _ rfl (by kernel_rfl) (by kernel_rfl) (by kernel_rfl) (fun _ _ _ h => h) (by rfl) hHeld4 (fun w hSw => by (try dsimp only at hSw); go_simp; try with_reducible rfl) ?_
        (try simp only [Act.put, List.setIfInBounds_toArray, List.set_cons_zero, List.set_cons_succ, List.getElem_toArray, List.getElem_cons_succ, List.getElem_cons_zero])
        refine held_take 6 _ _ rfl (by kernel_rfl) (by kernel_rfl) (by kernel_rfl) (fun _ _ _ h => h) (by rfl) hHeld4 (fun w hSw => by (try dsimp only at hSw); go_simp; try with_reducible rfl) ?_
        (try simp only [Act.put, List.setIfInBounds_toArray, List.set_cons_zero, List.set_cons_succ, List.getElem_toArray, List.getElem_cons_succ, List.getElem_cons_zero])
        refine held_take 7 _ _ rfl (by kernel_rfl) (by kernel_rfl) (by kernel_rfl) (fun _ _ _ h => h) (by rfl) hHeld4 (fun w hSw => by (try dsimp only at hSw); go_simp; try with_reducible rfl) ?_
        (try simp only [Act.put, List.setIfInBounds_toArray, List.set_cons_zero, List.set_cons_succ, List.getElem_toArray, List.getElem_cons_succ, List.getElem_cons_zero])
        refine wpAnyH_ready (rs := [9]) (by kernel_rfl) (by simp) ?_
        refine AllReadyH.cons rfl (fun K hK => ?_) AllReadyH.nil
        rw [if_pos (by rfl)]
        refine wp_store_arr 26 (.tmp 6) (.tmp 33) _ [Value.slice none 0 0] [.slice a_w0 (meetL L0 L1).length c_w0] (by rfl) (by rfl) (by rfl) hT rfl sizeSg (by simp [Value.oneCell']) ?_
        intro w3 hN7 hg7
        refine hK.out _ _ (HKr.out _ ((hHeld4).2.2.grown hg7 (hHeld4).2.2.size (fun j hj => by cases hj; exact htV))) (fun hHeld5 => ?_)
        clear hK K
        (try simp only [Act.put, List.getElem_toArray, List.getElem_cons_succ, List.getElem_cons_zero])
        refine held_take 10 _ _ rfl (by kernel_rfl) (by kernel_rfl) (by kernel_rfl) (fun _ _ _ h => h) (by rfl) hHeld5 (fun w hSw => by (try dsimp only at hSw); go_simp; try with_reducible rfl) ?_
        (try simp only [Act.put, List.setIfInBounds_toArray, List.set_cons_zero, List.set_cons_succ, List.getElem_toArray, List.getElem_cons_succ, List.getElem_cons_zero])
        refine wpAnyH_done (by kernel_rfl) ?_ _
        have hb := (hHeld5).2.2
        have R_w0 := Lib.hid (rX.grown hg7 (fun j hj => by cases hj; exact hap))
        have B_w0 := Lib.hid hN7
        have zt_w0 := hN7.lt
        have zh_w0 := R_w0.out.hi_le
        have zl_w0 : lo_w0 ≤ hi_w0 := by have := hb6.size; omega
        replace B_p0 := Lib.hid (B_p0.out.below hb)
        replace B_p1 := Lib.hid (B_p1.out.below hb)
        have z3 := hb.size
        replace hW := hW.trans (hb.mono hW.size)
        clear hb hlo2 hhi hN7 hg7 rX rX0 rX1 hT hb6 hbt0 hbt1 hS0 HKr ctf0 hlp0 ctf1 hlp1
        have c := ct_Semigroup L0 a0 c0 w3 (HR0.out.below hW) hb0
        have hk_p0 : w3.cell? ⟨W.heap.size, 0, none⟩ = some (.slice a0 L0.length c0) := B_p0.out.cell 0
        have hk_p1 : w3.cell? ⟨W.heap.size + 1, 0, none⟩ = some (.slice a1 L1.length c1) := B_p1.out.cell 0
        have hk_w0 : w3.cell? ⟨t_w0, 0, none⟩ = some (.slice a_w0 (meetL L0 L1).length c_w0) := B_w0.out.cell 0
        go_wp2_with fail
        refine c.mono ?_
        rintro e w4 ⟨v, rfl, ho, hb⟩
        clear hk_p0 hk_p1 hk_w0
        obtain ⟨a_x0, c_x0, rfl, rX⟩ := row_open ho
        clear c ho
        replace R_w0 := Lib.hid (R_w0.out.below hb)
        replace B_p0 := Lib.hid (B_p0.out.below hb)
        replace B_p1 := Lib.hid (B_p1.out.below hb)
        replace B_w0 := Lib.hid (B_w0.out.below hb)
        have z4 := hb.size
        replace hW := hW.trans (hb.mono hW.size)
        have R_x0 := Lib.hid rX
        clear rX hb
        obtain ⟨w5, hwb⟩ : ∃ wb, wb = w4.alloc (.cells #[.slice a_x0 L0.length c_x0] 26) := ⟨_, rfl⟩
        have hb : Below w4.heap.size w4 w5 := by rw [hwb]; exact (Below.refl _ _).alloc (Nat.le_refl _) _
        have hA : Arr w5 w4.heap.size 26 [.slice a_x0 L0.length c_x0] := by rw [hwb]; exact Arr.new _ _ _
        replace R_w0 := Lib.hid (R_w0.out.below hb)
        replace R_x0 := Lib.hid (R_x0.out.below hb)
        replace B_p0 := Lib.hid (B_p0.out.below hb)
        replace B_p1 := Lib.hid (B_p1.out.below hb)
        replace B_w0 := Lib.hid (B_w0.out.below hb)
        have z5 : w4.heap.size < w5.heap.size := hA.lt
        replace hW := hW.trans (hb.mono hW.size)
        have B_x0 := Lib.hid hA
        have H_w5 := Lib.hid hwb
        clear hwb hb hA
        have c := ct_Semigroup L1 a1 c1 w5 (HR1.out.below hW) hb1
        have hk_p0 : w5.cell? ⟨W.heap.size, 0, none⟩ = some (.slice a0 L0.length c0) := B_p0.out.cell 0
        have hk_p1 : w5.cell? ⟨W.heap.size + 1, 0, none⟩ = some (.slice a1 L1.length c1) := B_p1.out.cell 0
        have hk_w0 : w5.cell? ⟨t_w0, 0, none⟩ = some (.slice a_w0 (meetL L0 L1).length c_w0) := B_w0.out.cell 0
        have hk_x0 : w5.cell? ⟨w4.heap.size, 0, none⟩ = some (.slice a_x0 L0.length c_x0) := B_x0.out.cell 0
        rw [H_w5.out] at hk_p0 hk_p1 hk_w0 hk_x0
        go_wp2_with fail
        rw [← H_w5.out]
        refine c.mono ?_
        rintro e w6 ⟨v, rfl, ho, hb⟩
        clear hk_p0 hk_p1 hk_w0 hk_x0
        obtain ⟨a_x1, c_x1, rfl, rX⟩ := row_open ho
        clear c ho
        replace R_w0 := Lib.hid (R_w0.out.below hb)
        replace R_x0 := Lib.hid (R_x0.out.below hb)
        replace B_p0 := Lib.hid (B_p0.out.below hb)
        replace B_p1 := Lib.hid (B_p1.out.below hb)
        replace B_w0 := Lib.hid (B_w0.out.below hb)
        replace B_x0 := Lib.hid (B_x0.out.below hb)
        have z6 := hb.size
        replace hW := hW.trans (hb.mono hW.size)
        have R_x1 := Lib.hid rX
        clear rX hb
        obtain ⟨w7, hwb⟩ : ∃ wb, wb = w6.alloc (.cells #[.slice a_x1 L1.length c_x1] 26) := ⟨_, rfl⟩
        have hb : Below w6.heap.size w6 w7 := by rw [hwb]; exact (Below.refl _ _).alloc (Nat.le_refl _) _
        have hA : Arr w7 w6.heap.size 26 [.slice a_x1 L1.length c_x1] := by rw [hwb]; exact Arr.new _ _ _
        replace R_w0 := Lib.hid (R_w0.out.below hb)
        replace R_x0 := Lib.hid (R_x0.out.below hb)
        replace R_x1 := Lib.hid (R_x1.out.below hb)
        replace B_p0 := Lib.hid (B_p0.out.below hb)
        replace B_p1 := Lib.hid (B_p1.out.below hb)
        replace B_w0 := Lib.hid (B_w0.out.below hb)
        replace B_x0 := Lib.hid (B_x0.out.below hb)
        have z7 : w6.heap.size < w7.heap.size := hA.lt
        replace hW := hW.trans (hb.mono hW.size)
        have B_x1 := Lib.hid hA
        have H_w7 := Lib.hid hwb
        clear hwb hb hA
        have c := ci_MeetOf L0 a_x0 c_x0 L1 a_x1 c_x1 w7 R_x0.out.slw R_x1.out.slw hb0 hb1
        have hk_p0 : w7.cell? ⟨W.heap.size, 0, none⟩ = some (.slice a0 L0.length c0) := B_p0.out.cell 0
        have hk_p1 : w7.cell? ⟨W.heap.size + 1, 0, none⟩ = some (.slice a1 L1.length c1) := B_p1.out.cell 0
        have hk_w0 : w7.cell? ⟨t_w0, 0, none⟩ = some (.slice a_w0 (meetL L0 L1).length c_w0) := B_w0.out.cell 0
        have hk_x0 : w7.cell? ⟨w4.heap.size, 0, none⟩ = some (.slice a_x0 L0.length c_x0) := B_x0.out.cell 0
        have hk_x1 : w7.cell? ⟨w6.heap.size, 0, none⟩ = some (.slice a_x1 L1.length c_x1) := B_x1.out.cell 0
        rw [H_w7.out] at hk_p0 hk_p1 hk_w0 hk_x0 hk_x1
        go_wp2_with fail
        rw [← H_w7.out]
        refine c.mono ?_
        rintro e w8 ⟨v, rfl, ho, hb⟩
        clear hk_p0 hk_p1 hk_w0 hk_x0 hk_x1
        obtain ⟨a_g0, c_g0, rfl, rX⟩ := row_open ho
        clear c ho
        replace R_w0 := Lib.hid (R_w0.out.below hb)
        replace R_x0 := Lib.hid (R_x0.out.below hb)
        replace R_x1 := Lib.hid (R_x1.out.below hb)
        replace B_p0 := Lib.hid (B_p0.out.below hb)
        replace B_p1 := Lib.hid (B_p1.out.below hb)
        replace B_w0 := Lib.hid (B_w0.out.below hb)
        replace B_x0 := Lib.hid (B_x0.out.below hb)
        replace B_x1 := Lib.hid (B_x1.out.below hb)
        have z8 := hb.size
        replace hW := hW.trans (hb.mono hW.size)
        have R_g0 := Lib.hid rX
        clear rX hb
        obtain ⟨w9, hwb⟩ : ∃ wb, wb = w8.alloc (.cells #[.slice a_g0 (meetL L0 L1).length c_g0] 26) := ⟨_, rfl⟩
        have hb : Below w8.heap.size w8 w9 := by rw [hwb]; exact (Below.refl _ _).alloc (Nat.le_refl _) _
        have hA : Arr w9 w8.heap.size 26 [.slice a_g0 (meetL L0 L1).length c_g0] := by rw [hwb]; exact Arr.new _ _ _
        replace R_w0 := Lib.hid (R_w0.out.below hb)
        replace R_x0 := Lib.hid (R_x0.out.below hb)
        replace R_x1 := Lib.hid (R_x1.out.below hb)
        replace R_g0 := Lib.hid (R_g0.out.below hb)
        replace B_p0 := Lib.hid (B_p0.out.below hb)
        replace B_p1 := Lib.hid (B_p1.out.below hb)
        replace B_w0 := Lib.hid (B_w0.out.below hb)
        replace B_x0 := Lib.hid (B_x0.out.below hb)
        replace B_x1 := Lib.hid (B_x1.out.below hb)
        have z9 : w8.heap.size < w9.heap.size := hA.lt
        replace hW := hW.trans (hb.mono hW.size)
        have B_g0 := Lib.hid hA
        have H_w9 := Lib.hid hwb
        clear hwb hb hA
        have c := ce_Semigroup (meetL L0 L1) (meetL L0 L1) a_g0 a_w0 c_g0 c_w0 w9 R_g0.out.slv R_w0.out.slv (by omega) (by omega)
        rw [decide_eq_true (rfl : (meetL L0 L1) = (meetL L0 L1))] at c
        have hk_p0 : w9.cell? ⟨W.heap.size, 0, none⟩ = some (.slice a0 L0.length c0) := B_p0.out.cell 0
        have hk_p1 : w9.cell? ⟨W.heap.size + 1, 0, none⟩ = some (.slice a1 L1.length c1) := B_p1.out.cell 0
        have hk_w0 : w9.cell? ⟨t_w0, 0, none⟩ = some (.slice a_w0 (meetL L0 L1).length c_w0) := B_w0.out.cell 0
        have hk_x0 : w9.cell? ⟨w4.heap.size, 0, none⟩ = some (.slice a_x0 L0.length c_x0) := B_x0.out.cell 0
        have hk_x1 : w9.cell? ⟨w6.heap.size, 0, none⟩ = some (.slice a_x1 L1.length c_x1) := B_x1.out.cell 0
        have hk_g0 : w9.cell? ⟨w8.heap.size, 0, none⟩ = some (.slice a_g0 (meetL L0 L1).length c_g0) := B_g0.out.cell 0
        rw [H_w9.out] at hk_p0 hk_p1 hk_w0 hk_x0 hk_x1 hk_g0
        go_wp2_with fail
        rw [← H_w9.out]
        refine c.mono ?_
        rintro e w10 ⟨rfl, hb⟩
        clear hk_p0 hk_p1 hk_w0 hk_x0 hk_x1 hk_g0
        clear c
        replace R_w0 := Lib.hid (R_w0.out.below hb)
        replace R_x0 := Lib.hid (R_x0.out.below hb)
        replace R_x1 := Lib.hid (R_x1.out.below hb)
        replace R_g0 := Lib.hid (R_g0.out.below hb)
        replace B_p0 := Lib.hid (B_p0.out.below hb)
        replace B_p1 := Lib.hid (B_p1.out.below hb)
        replace B_w0 := Lib.hid (B_w0.out.below hb)
        replace B_x0 := Lib.hid (B_x0.out.below hb)
        replace B_x1 := Lib.hid (B_x1.out.below hb)
        replace B_g0 := Lib.hid (B_g0.out.below hb)
        have z10 := hb.size
        replace hW := hW.trans (hb.mono hW.size)
        clear hb
        have ctf : ∀ w', (w'.cell? ⟨w4.heap.size, 0, none⟩ = some (.slice a_x0 L0.length c_x0) ∧ w'.cell? ⟨W.heap.size, 0, none⟩ = some (.slice a0 L0.length c0) ∧ Below w10.heap.size w10 w') → Calls Try.prog 32 #[.agg #[.slice a0 L0.length c0]] w' fun e w2 => ∃ v, e = .returned (.agg #[v]) ∧ w2.ownsRow w'.heap.size 3 1 v L0.length (L0.map (Value.int .i64)) ∧ Below w'.heap.size w' w2 := fun w' h => ct_Semigroup L0 a0 c0 w' (HR0.out.below (hW.trans (h.2.2.mono hW.size))) hb0
        have HS := Lib.hid (show w10.drew.cell? ⟨w4.heap.size, 0, none⟩ = some (.slice a_x0 L0.length c_x0) ∧ w10.drew.cell? ⟨W.heap.size, 0, none⟩ = some (.slice a0 L0.length c0) ∧ Below w10.heap.size w10 w10.drew from ⟨B_x0.out.cell 0, B_p0.out.cell 0, (Below.refl _ _).drew⟩)
        have hlx := B_x0.out.lt
        have hlp := B_p0.out.lt
        go_wp2_with fail
        go_region_held3 (fun w' => w'.cell? ⟨w4.heap.size, 0, none⟩ = some (.slice a_x0 L0.length c_x0) ∧ w'.cell? ⟨W.heap.size, 0, none⟩ = some (.slice a0 L0.length c0) ∧ Below w10.heap.size w10 w')
          (first | exact HS.out | assumption | exact held_keep2 hlx hlp (by assumption) (by assumption))
          ((first | (go_at_call 32; (with_reducible refine (ctf _ (by assumption)).mono ?_); rintro e w11 ⟨v, rfl, ho, hb2⟩; obtain ⟨a_t, c_t, rfl, rX⟩ := row_open ho; have ce := ce_Semigroup L0 L0 a_x0 a_t c_x0 c_t w11 (R_x0.out.slv.below ((Below.refl _ _).drew.trans hb2)) rX.slv (by omega) (by omega); rw [decide_eq_true (rfl : L0 = L0)] at ce; clear ho rX)
                   | (go_at_call 33; (with_reducible refine ce.mono ?_); rintro e w12 ⟨rfl, hb3⟩)))
        have hb : Below w10.heap.size w10 w12 := ((Below.refl w10.heap.size w10).drew.trans hb2).trans (hb3.mono hb2.size)
        clear ctf HS hlx hlp ce hb2 hb3
        replace R_w0 := Lib.hid (R_w0.out.below hb)
        replace R_x0 := Lib.hid (R_x0.out.below hb)
        replace R_x1 := Lib.hid (R_x1.out.below hb)
        replace R_g0 := Lib.hid (R_g0.out.below hb)
        replace B_p0 := Lib.hid (B_p0.out.below hb)
        replace B_p1 := Lib.hid (B_p1.out.below hb)
        replace B_w0 := Lib.hid (B_w0.out.below hb)
        replace B_x0 := Lib.hid (B_x0.out.below hb)
        replace B_x1 := Lib.hid (B_x1.out.below hb)
        replace B_g0 := Lib.hid (B_g0.out.below hb)
        have z12 := hb.size
        replace hW := hW.trans (hb.mono hW.size)
        clear hb
        have ctf : ∀ w', (w'.cell? ⟨w6.heap.size, 0, none⟩ = some (.slice a_x1 L1.length c_x1) ∧ w'.cell? ⟨W.heap.size + 1, 0, none⟩ = some (.slice a1 L1.length c1) ∧ Below w12.heap.size w12 w') → Calls Try.prog 32 #[.agg #[.slice a1 L1.length c1]] w' fun e w2 => ∃ v, e = .returned (.agg #[v]) ∧ w2.ownsRow w'.heap.size 3 1 v L1.length (L1.map (Value.int .i64)) ∧ Below w'.heap.size w' w2 := fun w' h => ct_Semigroup L1 a1 c1 w' (HR1.out.below (hW.trans (h.2.2.mono hW.size))) hb1
        have HS := Lib.hid (show w12.drew.cell? ⟨w6.heap.size, 0, none⟩ = some (.slice a_x1 L1.length c_x1) ∧ w12.drew.cell? ⟨W.heap.size + 1, 0, none⟩ = some (.slice a1 L1.length c1) ∧ Below w12.heap.size w12 w12.drew from ⟨B_x1.out.cell 0, B_p1.out.cell 0, (Below.refl _ _).drew⟩)
        have hlx := B_x1.out.lt
        have hlp := B_p1.out.lt
        go_wp2_with fail
        go_region_held3 (fun w' => w'.cell? ⟨w6.heap.size, 0, none⟩ = some (.slice a_x1 L1.length c_x1) ∧ w'.cell? ⟨W.heap.size + 1, 0, none⟩ = some (.slice a1 L1.length c1) ∧ Below w12.heap.size w12 w')
          (first | exact HS.out | assumption | exact held_keep2 hlx hlp (by assumption) (by assumption))
          ((first | (go_at_call 32; (with_reducible refine (ctf _ (by assumption)).mono ?_); rintro e w13 ⟨v, rfl, ho, hb2⟩; obtain ⟨a_t, c_t, rfl, rX⟩ := row_open ho; have ce := ce_Semigroup L1 L1 a_x1 a_t c_x1 c_t w13 (R_x1.out.slv.below ((Below.refl _ _).drew.trans hb2)) rX.slv (by omega) (by omega); rw [decide_eq_true (rfl : L1 = L1)] at ce; clear ho rX)
                   | (go_at_call 33; (with_reducible refine ce.mono ?_); rintro e w14 ⟨rfl, hb3⟩)))
        have hb : Below w12.heap.size w12 w14 := ((Below.refl w12.heap.size w12).drew.trans hb2).trans (hb3.mono hb2.size)
        clear ctf HS hlx hlp ce hb2 hb3
        replace R_w0 := Lib.hid (R_w0.out.below hb)
        replace R_x0 := Lib.hid (R_x0.out.below hb)
        replace R_x1 := Lib.hid (R_x1.out.below hb)
        replace R_g0 := Lib.hid (R_g0.out.below hb)
        replace B_p0 := Lib.hid (B_p0.out.below hb)
        replace B_p1 := Lib.hid (B_p1.out.below hb)
        replace B_w0 := Lib.hid (B_w0.out.below hb)
        replace B_x0 := Lib.hid (B_x0.out.below hb)
        replace B_x1 := Lib.hid (B_x1.out.below hb)
        replace B_g0 := Lib.hid (B_g0.out.below hb)
        have z14 := hb.size
        replace hW := hW.trans (hb.mono hW.size)
        clear hb
        have rX := R_x0.out
        have c := cm_Semigroup (1) w3.heap.size L0.length _ _ w14 rX.own (by omega) (by omega) (by omega)
        have hk_p0 : w14.cell? ⟨W.heap.size, 0, none⟩ = some (.slice a0 L0.length c0) := B_p0.out.cell 0
        have hk_p1 : w14.cell? ⟨W.heap.size + 1, 0, none⟩ = some (.slice a1 L1.length c1) := B_p1.out.cell 0
        have hk_w0 : w14.cell? ⟨t_w0, 0, none⟩ = some (.slice a_w0 (meetL L0 L1).length c_w0) := B_w0.out.cell 0
        have hk_x0 : w14.cell? ⟨w4.heap.size, 0, none⟩ = some (.slice a_x0 L0.length c_x0) := B_x0.out.cell 0
        have hk_x1 : w14.cell? ⟨w6.heap.size, 0, none⟩ = some (.slice a_x1 L1.length c_x1) := B_x1.out.cell 0
        have hk_g0 : w14.cell? ⟨w8.heap.size, 0, none⟩ = some (.slice a_g0 (meetL L0 L1).length c_g0) := B_g0.out.cell 0
        go_wp2_with fail
        refine c.mono ?_
        rintro e w15 ⟨rfl, ho, hg⟩
        clear hk_p0 hk_p1 hk_w0 hk_x0 hk_x1 hk_g0
        clear c
        replace R_w0 := Lib.hid (R_w0.out.grown hg (fun j hj => by have h1 := rX.blk j hj; have h2 := (rX.own.lt j hj).1; omega))
        replace R_x1 := Lib.hid (R_x1.out.grown hg (fun j hj => by have h1 := rX.blk j hj; have h2 := (rX.own.lt j hj).1; omega))
        replace R_g0 := Lib.hid (R_g0.out.grown hg (fun j hj => by have h1 := rX.blk j hj; have h2 := (rX.own.lt j hj).1; omega))
        replace B_p0 := Lib.hid (B_p0.out.grownRow hg (fun j hj => by have h1 := rX.blk j hj; have h2 := (rX.own.lt j hj).1; omega))
        replace B_p1 := Lib.hid (B_p1.out.grownRow hg (fun j hj => by have h1 := rX.blk j hj; have h2 := (rX.own.lt j hj).1; omega))
        replace B_w0 := Lib.hid (B_w0.out.grownRow hg (fun j hj => by have h1 := rX.blk j hj; have h2 := (rX.own.lt j hj).1; omega))
        replace B_x0 := Lib.hid (B_x0.out.grownRow hg (fun j hj => by have h1 := rX.blk j hj; have h2 := (rX.own.lt j hj).1; omega))
        replace B_x1 := Lib.hid (B_x1.out.grownRow hg (fun j hj => by have h1 := rX.blk j hj; have h2 := (rX.own.lt j hj).1; omega))
        replace B_g0 := Lib.hid (B_g0.out.grownRow hg (fun j hj => by have h1 := rX.blk j hj; have h2 := (rX.own.lt j hj).1; omega))
        have z15 := hg.size
        replace hW := hW.grown hg hW.size (fun j hj => by have h1 := (rX.own.lt j hj).1; omega)
        replace R_x0 := Lib.hid (Row.remade rX ho hg)
        clear rX ho hg
        clear R_x0
        clear B_x0
        have rX := R_x1.out
        have c := cm_Semigroup (1 + L0.length) w5.heap.size L1.length _ _ w15 rX.own (by omega) (by omega) (by omega)
        have hk_p0 : w15.cell? ⟨W.heap.size, 0, none⟩ = some (.slice a0 L0.length c0) := B_p0.out.cell 0
        have hk_p1 : w15.cell? ⟨W.heap.size + 1, 0, none⟩ = some (.slice a1 L1.length c1) := B_p1.out.cell 0
        have hk_w0 : w15.cell? ⟨t_w0, 0, none⟩ = some (.slice a_w0 (meetL L0 L1).length c_w0) := B_w0.out.cell 0
        have hk_x1 : w15.cell? ⟨w6.heap.size, 0, none⟩ = some (.slice a_x1 L1.length c_x1) := B_x1.out.cell 0
        have hk_g0 : w15.cell? ⟨w8.heap.size, 0, none⟩ = some (.slice a_g0 (meetL L0 L1).length c_g0) := B_g0.out.cell 0
        go_wp2_with fail
        refine c.mono ?_
        rintro e w16 ⟨rfl, ho, hg⟩
        clear hk_p0 hk_p1 hk_w0 hk_x1 hk_g0
        clear c
        replace R_w0 := Lib.hid (R_w0.out.grown hg (fun j hj => by have h1 := rX.blk j hj; have h2 := (rX.own.lt j hj).1; omega))
        replace R_g0 := Lib.hid (R_g0.out.grown hg (fun j hj => by have h1 := rX.blk j hj; have h2 := (rX.own.lt j hj).1; omega))
        replace B_p0 := Lib.hid (B_p0.out.grownRow hg (fun j hj => by have h1 := rX.blk j hj; have h2 := (rX.own.lt j hj).1; omega))
        replace B_p1 := Lib.hid (B_p1.out.grownRow hg (fun j hj => by have h1 := rX.blk j hj; have h2 := (rX.own.lt j hj).1; omega))
        replace B_w0 := Lib.hid (B_w0.out.grownRow hg (fun j hj => by have h1 := rX.blk j hj; have h2 := (rX.own.lt j hj).1; omega))
        replace B_x1 := Lib.hid (B_x1.out.grownRow hg (fun j hj => by have h1 := rX.blk j hj; have h2 := (rX.own.lt j hj).1; omega))
        replace B_g0 := Lib.hid (B_g0.out.grownRow hg (fun j hj => by have h1 := rX.blk j hj; have h2 := (rX.own.lt j hj).1; omega))
        have z16 := hg.size
        replace hW := hW.grown hg hW.size (fun j hj => by have h1 := (rX.own.lt j hj).1; omega)
        replace R_x1 := Lib.hid (Row.remade rX ho hg)
        clear rX ho hg
        clear R_x1
        clear B_x1
        have c := ce_Semigroup (meetL L0 L1) (meetL L0 L1) a_g0 a_w0 c_g0 c_w0 w16 R_g0.out.slv R_w0.out.slv (by omega) (by omega)
        rw [decide_eq_true (rfl : (meetL L0 L1) = (meetL L0 L1))] at c
        have hk_p0 : w16.cell? ⟨W.heap.size, 0, none⟩ = some (.slice a0 L0.length c0) := B_p0.out.cell 0
        have hk_p1 : w16.cell? ⟨W.heap.size + 1, 0, none⟩ = some (.slice a1 L1.length c1) := B_p1.out.cell 0
        have hk_w0 : w16.cell? ⟨t_w0, 0, none⟩ = some (.slice a_w0 (meetL L0 L1).length c_w0) := B_w0.out.cell 0
        have hk_g0 : w16.cell? ⟨w8.heap.size, 0, none⟩ = some (.slice a_g0 (meetL L0 L1).length c_g0) := B_g0.out.cell 0
        go_wp2_with fail
        refine c.mono ?_
        rintro e w17 ⟨rfl, hb⟩
        clear hk_p0 hk_p1 hk_w0 hk_g0
        clear c
        replace R_w0 := Lib.hid (R_w0.out.below hb)
        replace R_g0 := Lib.hid (R_g0.out.below hb)
        replace B_p0 := Lib.hid (B_p0.out.below hb)
        replace B_p1 := Lib.hid (B_p1.out.below hb)
        replace B_w0 := Lib.hid (B_w0.out.below hb)
        replace B_g0 := Lib.hid (B_g0.out.below hb)
        have z17 := hb.size
        replace hW := hW.trans (hb.mono hW.size)
        clear hb
        have rX := R_g0.out
        have c := cm_Semigroup (1) w7.heap.size (meetL L0 L1).length _ _ w17 rX.own (by omega) (by omega) (by omega)
        have hk_p0 : w17.cell? ⟨W.heap.size, 0, none⟩ = some (.slice a0 L0.length c0) := B_p0.out.cell 0
        have hk_p1 : w17.cell? ⟨W.heap.size + 1, 0, none⟩ = some (.slice a1 L1.length c1) := B_p1.out.cell 0
        have hk_w0 : w17.cell? ⟨t_w0, 0, none⟩ = some (.slice a_w0 (meetL L0 L1).length c_w0) := B_w0.out.cell 0
        have hk_g0 : w17.cell? ⟨w8.heap.size, 0, none⟩ = some (.slice a_g0 (meetL L0 L1).length c_g0) := B_g0.out.cell 0
        go_wp2_with fail
        refine c.mono ?_
        rintro e w18 ⟨rfl, ho, hg⟩
        clear hk_p0 hk_p1 hk_w0 hk_g0
        clear c
        replace R_w0 := Lib.hid (R_w0.out.grown hg (fun j hj => by have h1 := rX.blk j hj; have h2 := (rX.own.lt j hj).1; omega))
        replace B_p0 := Lib.hid (B_p0.out.grownRow hg (fun j hj => by have h1 := rX.blk j hj; have h2 := (rX.own.lt j hj).1; omega))
        replace B_p1 := Lib.hid (B_p1.out.grownRow hg (fun j hj => by have h1 := rX.blk j hj; have h2 := (rX.own.lt j hj).1; omega))
        replace B_w0 := Lib.hid (B_w0.out.grownRow hg (fun j hj => by have h1 := rX.blk j hj; have h2 := (rX.own.lt j hj).1; omega))
        replace B_g0 := Lib.hid (B_g0.out.grownRow hg (fun j hj => by have h1 := rX.blk j hj; have h2 := (rX.own.lt j hj).1; omega))
        have z18 := hg.size
        replace hW := hW.grown hg hW.size (fun j hj => by have h1 := (rX.own.lt j hj).1; omega)
        replace R_g0 := Lib.hid (Row.remade rX ho hg)
        clear rX ho hg
        have c := ch_Semigroup 1 ((meetL L0 L1).length) c_g0 a_g0 w18 R_g0.out.slv (by omega) (by omega) (by omega)
        have hk_p0 : w18.cell? ⟨W.heap.size, 0, none⟩ = some (.slice a0 L0.length c0) := B_p0.out.cell 0
        have hk_p1 : w18.cell? ⟨W.heap.size + 1, 0, none⟩ = some (.slice a1 L1.length c1) := B_p1.out.cell 0
        have hk_w0 : w18.cell? ⟨t_w0, 0, none⟩ = some (.slice a_w0 (meetL L0 L1).length c_w0) := B_w0.out.cell 0
        have hk_g0 : w18.cell? ⟨w8.heap.size, 0, none⟩ = some (.slice a_g0 (meetL L0 L1).length c_g0) := B_g0.out.cell 0
        go_wp2_with fail
        refine c.mono ?_
        rintro e w19 ⟨rfl, hb⟩
        clear hk_p0 hk_p1 hk_w0 hk_g0
        clear c
        replace R_w0 := Lib.hid (R_w0.out.below hb)
        replace R_g0 := Lib.hid (R_g0.out.below hb)
        replace B_p0 := Lib.hid (B_p0.out.below hb)
        replace B_p1 := Lib.hid (B_p1.out.below hb)
        replace B_w0 := Lib.hid (B_w0.out.below hb)
        replace B_g0 := Lib.hid (B_g0.out.below hb)
        have z19 := hb.size
        replace hW := hW.trans (hb.mono hW.size)
        clear hb
        have ctf0 : ∀ w', (w'.cell? ⟨W.heap.size, 0, none⟩ = some (.slice a0 L0.length c0) ∧ w'.cell? ⟨W.heap.size + 1, 0, none⟩ = some (.slice a1 L1.length c1) ∧ Below w19.heap.size w19 w') → Calls Try.prog 32 #[.agg #[.slice a0 L0.length c0]] w' fun e w2 => ∃ v, e = .returned (.agg #[v]) ∧ w2.ownsRow w'.heap.size 3 1 v L0.length (L0.map (Value.int .i64)) ∧ Below w'.heap.size w' w2 := fun w' h => ct_Semigroup L0 a0 c0 w' (HR0.out.below (hW.trans ((h.2.2).mono hW.size))) hb0
        have ctf1 : ∀ w', (w'.cell? ⟨W.heap.size, 0, none⟩ = some (.slice a0 L0.length c0) ∧ w'.cell? ⟨W.heap.size + 1, 0, none⟩ = some (.slice a1 L1.length c1) ∧ Below w19.heap.size w19 w') → Calls Try.prog 32 #[.agg #[.slice a1 L1.length c1]] w' fun e w2 => ∃ v, e = .returned (.agg #[v]) ∧ w2.ownsRow w'.heap.size 3 1 v L1.length (L1.map (Value.int .i64)) ∧ Below w'.heap.size w' w2 := fun w' h => ct_Semigroup L1 a1 c1 w' (HR1.out.below (hW.trans ((h.2.2).mono hW.size))) hb1
        have hlp0 := B_p0.out.lt
        have hlp1 := B_p1.out.lt
        have HKr : Hid (∀ w', Below w19.heap.size w19 w' → (w'.cell? ⟨W.heap.size, 0, none⟩ = some (.slice a0 L0.length c0) ∧ w'.cell? ⟨W.heap.size + 1, 0, none⟩ = some (.slice a1 L1.length c1) ∧ Below w19.heap.size w19 w')) := Lib.hid fun w' h => ⟨(h.cell (p := ⟨W.heap.size, 0, none⟩) hlp0).trans (B_p0.out.cell 0), (h.cell (p := ⟨W.heap.size + 1, 0, none⟩) hlp1).trans (B_p1.out.cell 0), h⟩
        have hS0 := HKr.out _ (Below.refl w19.heap.size w19).drew
        go_wp2_with fail
        refine wp_region_held_drew (S := fun w' => w'.cell? ⟨W.heap.size, 0, none⟩ = some (.slice a0 L0.length c0) ∧ w'.cell? ⟨W.heap.size + 1, 0, none⟩ = some (.slice a1 L1.length c1) ∧ Below w19.heap.size w19 w') (by kernel_rfl) hS0 (fun hHeld => ?_)
        generalize w19.drew = wd at *
        refine held_take 0 _ _ rfl (by kernel_rfl) (by kernel_rfl) (by kernel_rfl) (fun _ _ _ h => h) (by rfl) hHeld (fun w hSw => by (try dsimp only at hSw); go_simp; try with_reducible rfl) ?_
        (try simp only [Act.put, List.setIfInBounds_toArray, List.set_cons_zero, List.set_cons_succ, List.getElem_toArray, List.getElem_cons_zero])
        refine held_take 2 _ _ rfl (by kernel_rfl) (by kernel_rfl) (by kernel_rfl) (fun _ _ _ h => h) (by rfl) hHeld (fun w hSw => by (try dsimp only at hSw); go_simp; try with_reducible rfl) ?_
        (try simp only [Act.put, List.setIfInBounds_toArray, List.set_cons_zero, List.set_cons_succ, List.getElem_toArray, List.getElem_cons_succ, List.getElem_cons_zero])
        refine wpAnyH_ready (rs := [1, 8]) (by kernel_rfl) (by simp) ?_
        refine AllReadyH.cons rfl (fun K hK => ?_) (AllReadyH.cons rfl (fun K hK => ?_) AllReadyH.nil)
        · rw [if_pos (by rfl)]
          go_wp2_with (first | (go_at_call 32; (with_reducible refine (ctf0 _ (by assumption)).mono ?_); rintro e wx20 ⟨v, rfl, ho, hbt0⟩; obtain ⟨a_r0, c_r0, rfl, rX0⟩ := row_open ho; clear ho; try (replace hT := hT.below hbt0)))
          refine hK.out _ _ (HKr.out _ ((hHeld).2.2.trans (hbt0.mono (hHeld).2.2.size))) (fun hHeld1 => ?_)
          clear hK K
          (try simp only [Act.put, List.setIfInBounds_toArray, List.set_cons_zero, List.set_cons_succ, List.getElem_toArray, List.getElem_cons_succ, List.getElem_cons_zero])
          refine wpAnyH_ready (rs := [3, 8]) (by kernel_rfl) (by simp) ?_
          refine AllReadyH.cons rfl (fun K hK => ?_) (AllReadyH.cons rfl (fun K hK => ?_) AllReadyH.nil)
          · rw [if_pos (by rfl)]
            go_wp2_with (first | (go_at_call 32; (with_reducible refine (ctf1 _ (by assumption)).mono ?_); rintro e wy20 ⟨v, rfl, ho, hbt1⟩; obtain ⟨a_r1, c_r1, rfl, rX1⟩ := row_open ho; clear ho; replace rX0 := rX0.below hbt1; try (replace hT := hT.below hbt1)))
            refine hK.out _ _ (HKr.out _ ((hHeld1).2.2.trans (hbt1.mono (hHeld1).2.2.size))) (fun hHeld2 => ?_)
            clear hK K
            (try simp only [Act.put, List.setIfInBounds_toArray, List.set_cons_zero, List.set_cons_succ, List.getElem_toArray, List.getElem_cons_succ, List.getElem_cons_zero])
            refine wpAnyH_ready (rs := [4, 8]) (by kernel_rfl) (by simp) ?_
            refine AllReadyH.cons rfl (fun K hK => ?_) (AllReadyH.cons rfl (fun K hK => ?_) AllReadyH.nil)
            · rw [if_pos (by rfl)]
              go_wp2_with (first | (go_at_call 22; (with_reducible refine (ci_MeetOf L0 a_r0 c_r0 L1 a_r1 c_r1 _ rX0.slw rX1.slw hb0 hb1).mono ?_); rintro e wf20 ⟨v, rfl, ho, hb6⟩; obtain ⟨lo_h0, hi_h0, a_h0, c_h0, rfl, hlo1, hlo2, hhi, rX⟩ := row_named (hHeld2).2.2.size ho; clear ho; try (have hap : t_h0 < lo_h0 ∨ hi_h0 ≤ t_h0 := .inl (by have := hT.lt; omega); replace hT := hT.below hb6)))
              refine hK.out _ _ (HKr.out _ ((hHeld2).2.2.trans (hb6.mono (hHeld2).2.2.size))) (fun hHeld3 => ?_)
              clear hK K
              (try simp only [Act.put, List.setIfInBounds_toArray, List.set_cons_zero, List.set_cons_succ, List.getElem_toArray, List.getElem_cons_succ, List.getElem_cons_zero])
              refine held_take 5 _ _ rfl (by kernel_rfl) (by kernel_rfl) (by kernel_rfl) (fun _ _ _ h => h) (by rfl) hHeld3 (fun w hSw => by (try dsimp only at hSw); go_simp; try with_reducible rfl) ?_
              (try simp only [Act.put, List.setIfInBounds_toArray, List.set_cons_zero, List.set_cons_succ, List.getElem_toArray, List.getElem_cons_succ, List.getElem_cons_zero])
              refine held_take 6 _ _ rfl (by kernel_rfl) (by kernel_rfl) (by kernel_rfl) (fun _ _ _ h => h) (by rfl) hHeld3 (fun w hSw => by (try dsimp only at hSw); go_simp; try with_reducible rfl) ?_
              (try simp only [Act.put, List.setIfInBounds_toArray, List.set_cons_zero, List.set_cons_succ, List.getElem_toArray, List.getElem_cons_succ, List.getElem_cons_zero])
              refine held_take 7 _ _ rfl (by kernel_rfl) (by kernel_rfl) (by kernel_rfl) (fun _ _ _ h => h) (by rfl) hHeld3 (fun w hSw => by (try dsimp only at hSw); go_simp; try with_reducible rfl) ?_
              (try simp only [Act.put, List.setIfInBounds_toArray, List.set_cons_zero, List.set_cons_succ, List.getElem_toArray, List.getElem_cons_succ, List.getElem_cons_zero])
              refine wpAnyH_ready (rs := [8]) (by kernel_rfl) (by simp) ?_
              refine AllReadyH.cons rfl (fun K hK => ?_) AllReadyH.nil
              rw [if_pos (by rfl)]
              try replace rX0 := rX0.below (box_below _ (.cells [Value.slice none 0 0].toArray 26))
              try replace rX1 := rX1.below (box_below _ (.cells [Value.slice none 0 0].toArray 26))
              obtain ⟨t_h0, et, hT, htV⟩ := newSgNamed (hHeld3).2.2
              try (have hap : t_h0 < lo_h0 ∨ hi_h0 ≤ t_h0 := .inr (by have := rX.hi_le; omega))
              try replace rX := rX.below (box_below _ (.cells [Value.slice none 0 0].toArray 26))
              refine wp_alloc_arr 26 [Value.slice none 0 0] zeroSg (by rfl) ?_
              rw [← et]
              clear et
              refine hK.out _ _ (HKr.out _ ((hHeld3).2.2.alloc (hHeld3).2.2.size _)) (fun hHeld4 => ?_)
              clear hK K
              (try simp only [Act.put, List.setIfInBounds_toArray, List.set_cons_zero, List.set_cons_succ, List.getElem_toArray, List.getElem_cons_succ, List.getElem_cons_zero])
              refine wpAnyH_ready (rs := [9]) (by kernel_rfl) (by simp) ?_
              refine AllReadyH.cons rfl (fun K hK => ?_) AllReadyH.nil
              rw [if_pos (by rfl)]
              refine wp_store_arr 26 (.tmp 15) (.tmp 100) _ [Value.slice none 0 0] [.slice a_h0 (meetL L0 L1).length c_h0] (by rfl) (by rfl) (by rfl) hT rfl sizeSg (by simp [Value.oneCell']) ?_
              intro w20 hN7 hg7
              refine hK.out _ _ (HKr.out _ ((hHeld4).2.2.grown hg7 (hHeld4).2.2.size (fun j hj => by cases hj; exact htV))) (fun hHeld5 => ?_)
              clear hK K
              (try simp only [Act.put, List.getElem_toArray, List.getElem_cons_succ, List.getElem_cons_zero])
              refine held_take 10 _ _ rfl (by kernel_rfl) (by kernel_rfl) (by kernel_rfl) (fun _ _ _ h => h) (by rfl) hHeld5 (fun w hSw => by (try dsimp only at hSw); go_simp; try with_reducible rfl) ?_
              (try simp only [Act.put, List.setIfInBounds_toArray, List.set_cons_zero, List.set_cons_succ, List.getElem_toArray, List.getElem_cons_succ, List.getElem_cons_zero])
              refine wpAnyH_done (by kernel_rfl) ?_ _
              have hb := (hHeld5).2.2
              have R_h0 := Lib.hid (rX.grown hg7 (fun j hj => by cases hj; exact hap))
              have B_h0 := Lib.hid hN7
              have zt_h0 := hN7.lt
              have zh_h0 := R_h0.out.hi_le
              have zl_h0 : lo_h0 ≤ hi_h0 := by have := hb6.size; omega
              replace R_w0 := Lib.hid (R_w0.out.below hb)
              replace R_g0 := Lib.hid (R_g0.out.below hb)
              replace B_p0 := Lib.hid (B_p0.out.below hb)
              replace B_p1 := Lib.hid (B_p1.out.below hb)
              replace B_w0 := Lib.hid (B_w0.out.below hb)
              replace B_g0 := Lib.hid (B_g0.out.below hb)
              have z20 := hb.size
              replace hW := hW.trans (hb.mono hW.size)
              clear hb hlo2 hhi hN7 hg7 rX rX0 rX1 hT hb6 hbt0 hbt1 hS0 HKr ctf0 hlp0 ctf1 hlp1
              have c := ce_Semigroup (meetL L0 L1) (meetL L0 L1) a_h0 a_w0 c_h0 c_w0 w20 R_h0.out.slv R_w0.out.slv (by omega) (by omega)
              rw [decide_eq_true (rfl : (meetL L0 L1) = (meetL L0 L1))] at c
              have hk_p0 : w20.cell? ⟨W.heap.size, 0, none⟩ = some (.slice a0 L0.length c0) := B_p0.out.cell 0
              have hk_p1 : w20.cell? ⟨W.heap.size + 1, 0, none⟩ = some (.slice a1 L1.length c1) := B_p1.out.cell 0
              have hk_w0 : w20.cell? ⟨t_w0, 0, none⟩ = some (.slice a_w0 (meetL L0 L1).length c_w0) := B_w0.out.cell 0
              have hk_g0 : w20.cell? ⟨w8.heap.size, 0, none⟩ = some (.slice a_g0 (meetL L0 L1).length c_g0) := B_g0.out.cell 0
              have hk_h0 : w20.cell? ⟨t_h0, 0, none⟩ = some (.slice a_h0 (meetL L0 L1).length c_h0) := B_h0.out.cell 0
              go_wp2_with fail
              refine c.mono ?_
              rintro e w21 ⟨rfl, hb⟩
              clear hk_p0 hk_p1 hk_w0 hk_g0 hk_h0
              clear c
              replace R_w0 := Lib.hid (R_w0.out.below hb)
              replace R_g0 := Lib.hid (R_g0.out.below hb)
              replace R_h0 := Lib.hid (R_h0.out.below hb)
              replace B_p0 := Lib.hid (B_p0.out.below hb)
              replace B_p1 := Lib.hid (B_p1.out.below hb)
              replace B_w0 := Lib.hid (B_w0.out.below hb)
              replace B_g0 := Lib.hid (B_g0.out.below hb)
              replace B_h0 := Lib.hid (B_h0.out.below hb)
              have z21 := hb.size
              replace hW := hW.trans (hb.mono hW.size)
              clear hb
              clear R_h0
              clear B_h0
              have c := ch_Semigroup 1 ((meetL L0 L1).length) c_g0 a_g0 w21 R_g0.out.slv (by omega) (by omega) (by omega)
              have hk_p0 : w21.cell? ⟨W.heap.size, 0, none⟩ = some (.slice a0 L0.length c0) := B_p0.out.cell 0
              have hk_p1 : w21.cell? ⟨W.heap.size + 1, 0, none⟩ = some (.slice a1 L1.length c1) := B_p1.out.cell 0
              have hk_w0 : w21.cell? ⟨t_w0, 0, none⟩ = some (.slice a_w0 (meetL L0 L1).length c_w0) := B_w0.out.cell 0
              have hk_g0 : w21.cell? ⟨w8.heap.size, 0, none⟩ = some (.slice a_g0 (meetL L0 L1).length c_g0) := B_g0.out.cell 0
              go_wp2_with fail
              refine c.mono ?_
              rintro e w22 ⟨rfl, hb⟩
              clear hk_p0 hk_p1 hk_w0 hk_g0
              clear c
              replace R_w0 := Lib.hid (R_w0.out.below hb)
              replace R_g0 := Lib.hid (R_g0.out.below hb)
              replace B_p0 := Lib.hid (B_p0.out.below hb)
              replace B_p1 := Lib.hid (B_p1.out.below hb)
              replace B_w0 := Lib.hid (B_w0.out.below hb)
              replace B_g0 := Lib.hid (B_g0.out.below hb)
              have z22 := hb.size
              replace hW := hW.trans (hb.mono hW.size)
              clear hb
              have hk_p0 : w22.cell? ⟨W.heap.size, 0, none⟩ = some (.slice a0 L0.length c0) := B_p0.out.cell 0
              have hk_p1 : w22.cell? ⟨W.heap.size + 1, 0, none⟩ = some (.slice a1 L1.length c1) := B_p1.out.cell 0
              have hk_w0 : w22.cell? ⟨t_w0, 0, none⟩ = some (.slice a_w0 (meetL L0 L1).length c_w0) := B_w0.out.cell 0
              have hk_g0 : w22.cell? ⟨w8.heap.size, 0, none⟩ = some (.slice a_g0 (meetL L0 L1).length c_g0) := B_g0.out.cell 0
              go_wp2_with fail
              go_ret
              exact ⟨rfl, H00.out.trans (hW.mono H00.out.size)⟩
            · rw [if_pos (by rfl)]
              try replace rX0 := rX0.below (box_below _ (.cells [Value.slice none 0 0].toArray 26))
              try replace rX1 := rX1.below (box_below _ (.cells [Value.slice none 0 0].toArray 26))
              obtain ⟨t_h0, et, hT, htV⟩ := newSgNamed (hHeld2).2.2
              try (have hap : t_h0 < lo_h0 ∨ hi_h0 ≤ t_h0 := .inr (by have := rX.hi_le; omega))
              try replace rX := rX.below (box_below _ (.cells [Value.slice none 0 0].toArray 26))
              refine wp_alloc_arr 26 [Value.slice none 0 0] zeroSg (by rfl) ?_
              rw [← et]
              clear et
              refine hK.out _ _ (HKr.out _ ((hHeld2).2.2.alloc (hHeld2).2.2.size _)) (fun hHeld3 => ?_)
              clear hK K
              (try simp only [Act.put, List.setIfInBounds_toArray, List.set_cons_zero, List.set_cons_succ, List.getElem_toArray, List.getElem_cons_succ, List.getElem_cons_zero])
              refine wpAnyH_ready (rs := [4]) (by kernel_rfl) (by simp) ?_
              refine AllReadyH.cons rfl (fun K hK => ?_) AllReadyH.nil
              rw [if_pos (by rfl)]
              go_wp2_with (first | (go_at_call 22; (with_reducible refine (ci_MeetOf L0 a_r0 c_r0 L1 a_r1 c_r1 _ rX0.slw rX1.slw hb0 hb1).mono ?_); rintro e wf20 ⟨v, rfl, ho, hb6⟩; obtain ⟨lo_h0, hi_h0, a_h0, c_h0, rfl, hlo1, hlo2, hhi, rX⟩ := row_named (hHeld3).2.2.size ho; clear ho; try (have hap : t_h0 < lo_h0 ∨ hi_h0 ≤ t_h0 := .inl (by have := hT.lt; omega); replace hT := hT.below hb6)))
              refine hK.out _ _ (HKr.out _ ((hHeld3).2.2.trans (hb6.mono (hHeld3).2.2.size))) (fun hHeld4 => ?_)
              clear hK K
              (try simp only [Act.put, List.setIfInBounds_toArray, List.set_cons_zero, List.set_cons_succ, List.getElem_toArray, List.getElem_cons_succ, List.getElem_cons_zero])
              refine held_take 5 _ _ rfl (by kernel_rfl) (by kernel_rfl) (by kernel_rfl) (fun _ _ _ h => h) (by rfl) hHeld4 (fun w hSw => by (try dsimp only at hSw); go_simp; try with_reducible rfl) ?_
              (try simp only [Act.put, List.setIfInBounds_toArray, List.set_cons_zero, List.set_cons_succ, List.getElem_toArray, List.getElem_cons_succ, List.getElem_cons_zero])
              refine held_take 6 _ _ rfl (by kernel_rfl) (by kernel_rfl) (by kernel_rfl) (fun _ _ _ h => h) (by rfl) hHeld4 (fun w hSw => by (try dsimp only at hSw); go_simp; try with_reducible rfl) ?_
              (try simp only [Act.put, List.setIfInBounds_toArray, List.set_cons_zero, List.set_cons_succ, List.getElem_toArray, List.getElem_cons_succ, List.getElem_cons_zero])
              refine held_take 7 _ _ rfl (by kernel_rfl) (by kernel_rfl) (by kernel_rfl) (fun _ _ _ h => h) (by rfl) hHeld4 (fun w hSw => by (try dsimp only at hSw); go_simp; try with_reducible rfl) ?_
              (try simp only [Act.put, List.setIfInBounds_toArray, List.set_cons_zero, List.set_cons_succ, List.getElem_toArray, List.getElem_cons_succ, List.getElem_cons_zero])
              refine wpAnyH_ready (rs := [9]) (by kernel_rfl) (by simp) ?_
              refine AllReadyH.cons rfl (fun K hK => ?_) AllReadyH.nil
              rw [if_pos (by rfl)]
              refine wp_store_arr 26 (.tmp 15) (.tmp 100) _ [Value.slice none 0 0] [.slice a_h0 (meetL L0 L1).length c_h0] (by rfl) (by rfl) (by rfl) hT rfl sizeSg (by simp [Value.oneCell']) ?_
              intro w20 hN7 hg7
              refine hK.out _ _ (HKr.out _ ((hHeld4).2.2.grown hg7 (hHeld4).2.2.size (fun j hj => by cases hj; exact htV))) (fun hHeld5 => ?_)
              clear hK K
              (try simp only [Act.put, List.getElem_toArray, List.getElem_cons_succ, List.getElem_cons_zero])
              refine held_take 10 _ _ rfl (by kernel_rfl) (by kernel_rfl) (by kernel_rfl) (fun _ _ _ h => h) (by rfl) hHeld5 (fun w hSw => by (try dsimp only at hSw); go_simp; try with_reducible rfl) ?_
              (try simp only [Act.put, List.setIfInBounds_toArray, List.set_cons_zero, List.set_cons_succ, List.getElem_toArray, List.getElem_cons_succ, List.getElem_cons_zero])
              refine wpAnyH_done (by kernel_rfl) ?_ _
              have hb := (hHeld5).2.2
              have R_h0 := Lib.hid (rX.grown hg7 (fun j hj => by cases hj; exact hap))
              have B_h0 := Lib.hid hN7
              have zt_h0 := hN7.lt
              have zh_h0 := R_h0.out.hi_le
              have zl_h0 : lo_h0 ≤ hi_h0 := by have := hb6.size; omega
              replace R_w0 := Lib.hid (R_w0.out.below hb)
              replace R_g0 := Lib.hid (R_g0.out.below hb)
              replace B_p0 := Lib.hid (B_p0.out.below hb)
              replace B_p1 := Lib.hid (B_p1.out.below hb)
              replace B_w0 := Lib.hid (B_w0.out.below hb)
              replace B_g0 := Lib.hid (B_g0.out.below hb)
              have z20 := hb.size
              replace hW := hW.trans (hb.mono hW.size)
              clear hb hlo2 hhi hN7 hg7 rX rX0 rX1 hT hb6 hbt0 hbt1 hS0 HKr ctf0 hlp0 ctf1 hlp1
              have c := ce_Semigroup (meetL L0 L1) (meetL L0 L1) a_h0 a_w0 c_h0 c_w0 w20 R_h0.out.slv R_w0.out.slv (by omega) (by omega)
              rw [decide_eq_true (rfl : (meetL L0 L1) = (meetL L0 L1))] at c
              have hk_p0 : w20.cell? ⟨W.heap.size, 0, none⟩ = some (.slice a0 L0.length c0) := B_p0.out.cell 0
              have hk_p1 : w20.cell? ⟨W.heap.size + 1, 0, none⟩ = some (.slice a1 L1.length c1) := B_p1.out.cell 0
              have hk_w0 : w20.cell? ⟨t_w0, 0, none⟩ = some (.slice a_w0 (meetL L0 L1).length c_w0) := B_w0.out.cell 0
              have hk_g0 : w20.cell? ⟨w8.heap.size, 0, none⟩ = some (.slice a_g0 (meetL L0 L1).length c_g0) := B_g0.out.cell 0
              have hk_h0 : w20.cell? ⟨t_h0, 0, none⟩ = some (.slice a_h0 (meetL L0 L1).length c_h0) := B_h0.out.cell 0
              go_wp2_with fail
              refine c.mono ?_
              rintro e w21 ⟨rfl, hb⟩
              clear hk_p0 hk_p1 hk_w0 hk_g0 hk_h0
              clear c
              replace R_w0 := Lib.hid (R_w0.out.below hb)
              replace R_g0 := Lib.hid (R_g0.out.below hb)
              replace R_h0 := Lib.hid (R_h0.out.below hb)
              replace B_p0 := Lib.hid (B_p0.out.below hb)
              replace B_p1 := Lib.hid (B_p1.out.below hb)
              replace B_w0 := Lib.hid (B_w0.out.below hb)
              replace B_g0 := Lib.hid (B_g0.out.below hb)
              replace B_h0 := Lib.hid (B_h0.out.below hb)
              have z21 := hb.size
              replace hW := hW.trans (hb.mono hW.size)
              clear hb
              clear R_h0
              clear B_h0
              have c := ch_Semigroup 1 ((meetL L0 L1).length) c_g0 a_g0 w21 R_g0.out.slv (by omega) (by omega) (by omega)
              have hk_p0 : w21.cell? ⟨W.heap.size, 0, none⟩ = some (.slice a0 L0.length c0) := B_p0.out.cell 0
              have hk_p1 : w21.cell? ⟨W.heap.size + 1, 0, none⟩ = some (.slice a1 L1.length c1) := B_p1.out.cell 0
              have hk_w0 : w21.cell? ⟨t_w0, 0, none⟩ = some (.slice a_w0 (meetL L0 L1).length c_w0) := B_w0.out.cell 0
              have hk_g0 : w21.cell? ⟨w8.heap.size, 0, none⟩ = some (.slice a_g0 (meetL L0 L1).length c_g0) := B_g0.out.cell 0
              go_wp2_with fail
              refine c.mono ?_
              rintro e w22 ⟨rfl, hb⟩
              clear hk_p0 hk_p1 hk_w0 hk_g0
              clear c
              replace R_w0 := Lib.hid (R_w0.out.below hb)
              replace R_g0 := Lib.hid (R_g0.out.below hb)
              replace B_p0 := Lib.hid (B_p0.out.below hb)
              replace B_p1 := Lib.hid (B_p1.out.below hb)
              replace B_w0 := Lib.hid (B_w0.out.below hb)
              replace B_g0 := Lib.hid (B_g0.out.below hb)
              have z22 := hb.size
              replace hW := hW.trans (hb.mono hW.size)
              clear hb
              have hk_p0 : w22.cell? ⟨W.heap.size, 0, none⟩ = some (.slice a0 L0.length c0) := B_p0.out.cell 0
              have hk_p1 : w22.cell? ⟨W.heap.size + 1, 0, none⟩ = some (.slice a1 L1.length c1) := B_p1.out.cell 0
              have hk_w0 : w22.cell? ⟨t_w0, 0, none⟩ = some (.slice a_w0 (meetL L0 L1).length c_w0) := B_w0.out.cell 0
              have hk_g0 : w22.cell? ⟨w8.heap.size, 0, none⟩ = some (.slice a_g0 (meetL L0 L1).length c_g0) := B_g0.out.cell 0
              go_wp2_with fail
              go_ret
              exact ⟨rfl, H00.out.trans (hW.mono H00.out.size)⟩
          · rw [if_pos (by rfl)]
            try replace rX0 := rX0.below (box_below _ (.cells [Value.slice none 0 0].toArray 26))
            try replace rX1 := rX1.below (box_below _ (.cells [Value.slice none 0 0].toArray 26))
            obtain ⟨t_h0, et, hT, htV⟩ := newSgNamed (hHeld1).2.2
            try (have hap : t_h0 < lo_h0 ∨ hi_h0 ≤ t_h0 := .inr (by have := rX.hi_le; omega))
            try replace rX := rX.below (box_below _ (.cells [Value.slice none 0 0].toArray 26))
            refine wp_alloc_arr 26 [Value.slice none 0 0] zeroSg (by rfl) ?_
            rw [← et]
            clear et
            refine hK.out _ _ (HKr.out _ ((hHeld1).2.2.alloc (hHeld1).2.2.size _)) (fun hHeld2 => ?_)
            clear hK K
            (try simp only [Act.put, List.setIfInBounds_toArray, List.set_cons_zero, List.set_cons_succ, List.getElem_toArray, List.getElem_cons_succ, List.getElem_cons_zero])
            refine wpAnyH_ready (rs := [3]) (by kernel_rfl) (by simp) ?_
            refine AllReadyH.cons rfl (fun K hK => ?_) AllReadyH.nil
            rw [if_pos (by rfl)]
            go_wp2_with (first | (go_at_call 32; (with_reducible refine (ctf1 _ (by assumption)).mono ?_); rintro e wy20 ⟨v, rfl, ho, hbt1⟩; obtain ⟨a_r1, c_r1, rfl, rX1⟩ := row_open ho; clear ho; replace rX0 := rX0.below hbt1; try (replace hT := hT.below hbt1)))
            refine hK.out _ _ (HKr.out _ ((hHeld2).2.2.trans (hbt1.mono (hHeld2).2.2.size))) (fun hHeld3 => ?_)
            clear hK K
            (try simp only [Act.put, List.setIfInBounds_toArray, List.set_cons_zero, List.set_cons_succ, List.getElem_toArray, List.getElem_cons_succ, List.getElem_cons_zero])
            refine wpAnyH_ready (rs := [4]) (by kernel_rfl) (by simp) ?_
            refine AllReadyH.cons rfl (fun K hK => ?_) AllReadyH.nil
            rw [if_pos (by rfl)]
            go_wp2_with (first | (go_at_call 22; (with_reducible refine (ci_MeetOf L0 a_r0 c_r0 L1 a_r1 c_r1 _ rX0.slw rX1.slw hb0 hb1).mono ?_); rintro e wf20 ⟨v, rfl, ho, hb6⟩; obtain ⟨lo_h0, hi_h0, a_h0, c_h0, rfl, hlo1, hlo2, hhi, rX⟩ := row_named (hHeld3).2.2.size ho; clear ho; try (have hap : t_h0 < lo_h0 ∨ hi_h0 ≤ t_h0 := .inl (by have := hT.lt; omega); replace hT := hT.below hb6)))
            refine hK.out _ _ (HKr.out _ ((hHeld3).2.2.trans (hb6.mono (hHeld3).2.2.size))) (fun hHeld4 => ?_)
            clear hK K
            (try simp only [Act.put, List.setIfInBounds_toArray, List.set_cons_zero, List.set_cons_succ, List.getElem_toArray, List.getElem_cons_succ, List.getElem_cons_zero])
            refine held_take 5 _ _ rfl (by kernel_rfl) (by kernel_rfl) (by kernel_rfl) (fun _ _ _ h => h) (by rfl) hHeld4 (fun w hSw => by (try dsimp only at hSw); go_simp; try with_reducible rfl) ?_
            (try simp only [Act.put, List.setIfInBounds_toArray, List.set_cons_zero, List.set_cons_succ, List.getElem_toArray, List.getElem_cons_succ, List.getElem_cons_zero])
            refine held_take 6 _ _ rfl (by kernel_rfl) (by kernel_rfl) (by kernel_rfl) (fun _ _ _ h => h) (by rfl) hHeld4 (fun w hSw => by (try dsimp only at hSw); go_simp; try with_reducible rfl) ?_
            (try simp only [Act.put, List.setIfInBounds_toArray, List.set_cons_zero, List.set_cons_succ, List.getElem_toArray, List.getElem_cons_succ, List.getElem_cons_zero])
            refine held_take 7 _ _ rfl (by kernel_rfl) (by kernel_rfl) (by kernel_rfl) (fun _ _ _ h => h) (by rfl) hHeld4 (fun w hSw => by (try dsimp only at hSw); go_simp; try with_reducible rfl) ?_
            (try simp only [Act.put, List.setIfInBounds_toArray, List.set_cons_zero, List.set_cons_succ, List.getElem_toArray, List.getElem_cons_succ, List.getElem_cons_zero])
            refine wpAnyH_ready (rs := [9]) (by kernel_rfl) (by simp) ?_
            refine AllReadyH.cons rfl (fun K hK => ?_) AllReadyH.nil
            rw [if_pos (by rfl)]
            refine wp_store_arr 26 (.tmp 15) (.tmp 100) _ [Value.slice none 0 0] [.slice a_h0 (meetL L0 L1).length c_h0] (by rfl) (by rfl) (by rfl) hT rfl sizeSg (by simp [Value.oneCell']) ?_
            intro w20 hN7 hg7
            refine hK.out _ _ (HKr.out _ ((hHeld4).2.2.grown hg7 (hHeld4).2.2.size (fun j hj => by cases hj; exact htV))) (fun hHeld5 => ?_)
            clear hK K
            (try simp only [Act.put, List.getElem_toArray, List.getElem_cons_succ, List.getElem_cons_zero])
            refine held_take 10 _ _ rfl (by kernel_rfl) (by kernel_rfl) (by kernel_rfl) (fun _ _ _ h => h) (by rfl) hHeld5 (fun w hSw => by (try dsimp only at hSw); go_simp; try with_reducible rfl) ?_
            (try simp only [Act.put, List.setIfInBounds_toArray, List.set_cons_zero, List.set_cons_succ, List.getElem_toArray, List.getElem_cons_succ, List.getElem_cons_zero])
            refine wpAnyH_done (by kernel_rfl) ?_ _
            have hb := (hHeld5).2.2
            have R_h0 := Lib.hid (rX.grown hg7 (fun j hj => by cases hj; exact hap))
            have B_h0 := Lib.hid hN7
            have zt_h0 := hN7.lt
            have zh_h0 := R_h0.out.hi_le
            have zl_h0 : lo_h0 ≤ hi_h0 := by have := hb6.size; omega
            replace R_w0 := Lib.hid (R_w0.out.below hb)
            replace R_g0 := Lib.hid (R_g0.out.below hb)
            replace B_p0 := Lib.hid (B_p0.out.below hb)
            replace B_p1 := Lib.hid (B_p1.out.below hb)
            replace B_w0 := Lib.hid (B_w0.out.below hb)
            replace B_g0 := Lib.hid (B_g0.out.below hb)
            have z20 := hb.size
            replace hW := hW.trans (hb.mono hW.size)
            clear hb hlo2 hhi hN7 hg7 rX rX0 rX1 hT hb6 hbt0 hbt1 hS0 HKr ctf0 hlp0 ctf1 hlp1
            have c := ce_Semigroup (meetL L0 L1) (meetL L0 L1) a_h0 a_w0 c_h0 c_w0 w20 R_h0.out.slv R_w0.out.slv (by omega) (by omega)
            rw [decide_eq_true (rfl : (meetL L0 L1) = (meetL L0 L1))] at c
            have hk_p0 : w20.cell? ⟨W.heap.size, 0, none⟩ = some (.slice a0 L0.length c0) := B_p0.out.cell 0
            have hk_p1 : w20.cell? ⟨W.heap.size + 1, 0, none⟩ = some (.slice a1 L1.length c1) := B_p1.out.cell 0
            have hk_w0 : w20.cell? ⟨t_w0, 0, none⟩ = some (.slice a_w0 (meetL L0 L1).length c_w0) := B_w0.out.cell 0
            have hk_g0 : w20.cell? ⟨w8.heap.size, 0, none⟩ = some (.slice a_g0 (meetL L0 L1).length c_g0) := B_g0.out.cell 0
            have hk_h0 : w20.cell? ⟨t_h0, 0, none⟩ = some (.slice a_h0 (meetL L0 L1).length c_h0) := B_h0.out.cell 0
            go_wp2_with fail
            refine c.mono ?_
            rintro e w21 ⟨rfl, hb⟩
            clear hk_p0 hk_p1 hk_w0 hk_g0 hk_h0
            clear c
            replace R_w0 := Lib.hid (R_w0.out.below hb)
            replace R_g0 := Lib.hid (R_g0.out.below hb)
            replace R_h0 := Lib.hid (R_h0.out.below hb)
            replace B_p0 := Lib.hid (B_p0.out.below hb)
            replace B_p1 := Lib.hid (B_p1.out.below hb)
            replace B_w0 := Lib.hid (B_w0.out.below hb)
            replace B_g0 := Lib.hid (B_g0.out.below hb)
            replace B_h0 := Lib.hid (B_h0.out.below hb)
            have z21 := hb.size
            replace hW := hW.trans (hb.mono hW.size)
            clear hb
            clear R_h0
            clear B_h0
            have c := ch_Semigroup 1 ((meetL L0 L1).length) c_g0 a_g0 w21 R_g0.out.slv (by omega) (by omega) (by omega)
            have hk_p0 : w21.cell? ⟨W.heap.size, 0, none⟩ = some (.slice a0 L0.length c0) := B_p0.out.cell 0
            have hk_p1 : w21.cell? ⟨W.heap.size + 1, 0, none⟩ = some (.slice a1 L1.length c1) := B_p1.out.cell 0
            have hk_w0 : w21.cell? ⟨t_w0, 0, none⟩ = some (.slice a_w0 (meetL L0 L1).length c_w0) := B_w0.out.cell 0
            have hk_g0 : w21.cell? ⟨w8.heap.size, 0, none⟩ = some (.slice a_g0 (meetL L0 L1).length c_g0) := B_g0.out.cell 0
            go_wp2_with fail
            refine c.mono ?_
            rintro e w22 ⟨rfl, hb⟩
            clear hk_p0 hk_p1 hk_w0 hk_g0
            clear c
            replace R_w0 := Lib.hid (R_w0.out.below hb)
            replace R_g0 := Lib.hid (R_g0.out.below hb)
            replace B_p0 := Lib.hid (B_p0.out.below hb)
            replace B_p1 := Lib.hid (B_p1.out.below hb)
            replace B_w0 := Lib.hid (B_w0.out.below hb)
            replace B_g0 := Lib.hid (B_g0.out.below hb)
            have z22 := hb.size
            replace hW := hW.trans (hb.mono hW.size)
            clear hb
            have hk_p0 : w22.cell? ⟨W.heap.size, 0, none⟩ = some (.slice a0 L0.length c0) := B_p0.out.cell 0
            have hk_p1 : w22.cell? ⟨W.heap.size + 1, 0, none⟩ = some (.slice a1 L1.length c1) := B_p1.out.cell 0
            have hk_w0 : w22.cell? ⟨t_w0, 0, none⟩ = some (.slice a_w0 (meetL L0 L1).length c_w0) := B_w0.out.cell 0
            have hk_g0 : w22.cell? ⟨w8.heap.size, 0, none⟩ = some (.slice a_g0 (meetL L0 L1).length c_g0) := B_g0.out.cell 0
            go_wp2_with fail
            go_ret
            exact ⟨rfl, H00.out.trans (hW.mono H00.out.size)⟩
        · rw [if_pos (by rfl)]
          try replace rX0 := rX0.below (box_below _ (.cells [Value.slice none 0 0].toArray 26))
          try replace rX1 := rX1.below (box_below _ (.cells [Value.slice none 0 0].toArray 26))
          obtain ⟨t_h0, et, hT, htV⟩ := newSgNamed (hHeld).2.2
          try (have hap : t_h0 < lo_h0 ∨ hi_h0 ≤ t_h0 := .inr (by have := rX.hi_le; omega))
          try replace rX := rX.below (box_below _ (.cells [Value.slice none 0 0].toArray 26))
          refine wp_alloc_arr 26 [Value.slice none 0 0] zeroSg (by rfl) ?_
          rw [← et]
          clear et
          refine hK.out _ _ (HKr.out _ ((hHeld).2.2.alloc (hHeld).2.2.size _)) (fun hHeld1 => ?_)
          clear hK K
          (try simp only [Act.put, List.setIfInBounds_toArray, List.set_cons_zero, List.set_cons_succ, List.getElem_toArray, List.getElem_cons_succ, List.getElem_cons_zero])
          refine wpAnyH_ready (rs := [1]) (by kernel_rfl) (by simp) ?_
          refine AllReadyH.cons rfl (fun K hK => ?_) AllReadyH.nil
          rw [if_pos (by rfl)]
          go_wp2_with (first | (go_at_call 32; (with_reducible refine (ctf0 _ (by assumption)).mono ?_); rintro e wx20 ⟨v, rfl, ho, hbt0⟩; obtain ⟨a_r0, c_r0, rfl, rX0⟩ := row_open ho; clear ho; try (replace hT := hT.below hbt0)))
          refine hK.out _ _ (HKr.out _ ((hHeld1).2.2.trans (hbt0.mono (hHeld1).2.2.size))) (fun hHeld2 => ?_)
          clear hK K
          (try simp only [Act.put, List.setIfInBounds_toArray, List.set_cons_zero, List.set_cons_succ, List.getElem_toArray, List.getElem_cons_succ, List.getElem_cons_zero])
          refine wpAnyH_ready (rs := [3]) (by kernel_rfl) (by simp) ?_
          refine AllReadyH.cons rfl (fun K hK => ?_) AllReadyH.nil
          rw [if_pos (by rfl)]
          go_wp2_with (first | (go_at_call 32; (with_reducible refine (ctf1 _ (by assumption)).mono ?_); rintro e wy20 ⟨v, rfl, ho, hbt1⟩; obtain ⟨a_r1, c_r1, rfl, rX1⟩ := row_open ho; clear ho; replace rX0 := rX0.below hbt1; try (replace hT := hT.below hbt1)))
          refine hK.out _ _ (HKr.out _ ((hHeld2).2.2.trans (hbt1.mono (hHeld2).2.2.size))) (fun hHeld3 => ?_)
          clear hK K
          (try simp only [Act.put, List.setIfInBounds_toArray, List.set_cons_zero, List.set_cons_succ, List.getElem_toArray, List.getElem_cons_succ, List.getElem_cons_zero])
          refine wpAnyH_ready (rs := [4]) (by kernel_rfl) (by simp) ?_
          refine AllReadyH.cons rfl (fun K hK => ?_) AllReadyH.nil
          rw [if_pos (by rfl)]
          go_wp2_with (first | (go_at_call 22; (with_reducible refine (ci_MeetOf L0 a_r0 c_r0 L1 a_r1 c_r1 _ rX0.slw rX1.slw hb0 hb1).mono ?_); rintro e wf20 ⟨v, rfl, ho, hb6⟩; obtain ⟨lo_h0, hi_h0, a_h0, c_h0, rfl, hlo1, hlo2, hhi, rX⟩ := row_named (hHeld3).2.2.size ho; clear ho; try (have hap : t_h0 < lo_h0 ∨ hi_h0 ≤ t_h0 := .inl (by have := hT.lt; omega); replace hT := hT.below hb6)))
          refine hK.out _ _ (HKr.out _ ((hHeld3).2.2.trans (hb6.mono (hHeld3).2.2.size))) (fun hHeld4 => ?_)
          clear hK K
          (try simp only [Act.put, List.setIfInBounds_toArray, List.set_cons_zero, List.set_cons_succ, List.getElem_toArray, List.getElem_cons_succ, List.getElem_cons_zero])
          refine held_take 5 _ _ rfl (by kernel_rfl) (by kernel_rfl) (by kernel_rfl) (fun _ _ _ h => h) (by rfl) hHeld4 (fun w hSw => by (try dsimp only at hSw); go_simp; try with_reducible rfl) ?_
          (try simp only [Act.put, List.setIfInBounds_toArray, List.set_cons_zero, List.set_cons_succ, List.getElem_toArray, List.getElem_cons_succ, List.getElem_cons_zero])
          refine held_take 6 _ _ rfl (by kernel_rfl) (by kernel_rfl) (by kernel_rfl) (fun _ _ _ h => h) (by rfl) hHeld4 (fun w hSw => by (try dsimp only at hSw); go_simp; try with_reducible rfl) ?_
          (try simp only [Act.put, List.setIfInBounds_toArray, List.set_cons_zero, List.set_cons_succ, List.getElem_toArray, List.getElem_cons_succ, List.getElem_cons_zero])
          refine held_take 7 _ _ rfl (by kernel_rfl) (by kernel_rfl) (by kernel_rfl) (fun _ _ _ h => h) (by rfl) hHeld4 (fun w hSw => by (try dsimp only at hSw); go_simp; try with_reducible rfl) ?_
          (try simp only [Act.put, List.setIfInBounds_toArray, List.set_cons_zero, List.set_cons_succ, List.getElem_toArray, List.getElem_cons_succ, List.getElem_cons_zero])
          refine wpAnyH_ready (rs := [9]) (by kernel_rfl) (by simp) ?_
          refine AllReadyH.cons rfl (fun K hK => ?_) AllReadyH.nil
          rw [if_pos (by rfl)]
          refine wp_store_arr 26 (.tmp 15) (.tmp 100) _ [Value.slice none 0 0] [.slice a_h0 (meetL L0 L1).length c_h0] (by rfl) (by rfl) (by rfl) hT rfl sizeSg (by simp [Value.oneCell']) ?_
          intro w20 hN7 hg7
          refine hK.out _ _ (HKr.out _ ((hHeld4).2.2.grown hg7 (hHeld4).2.2.size (fun j hj => by cases hj; exact htV))) (fun hHeld5 => ?_)
          clear hK K
          (try simp only [Act.put, List.getElem_toArray, List.getElem_cons_succ, List.getElem_cons_zero])
          refine held_take 10 _ _ rfl (by kernel_rfl) (by kernel_rfl) (by kernel_rfl) (fun _ _ _ h => h) (by rfl) hHeld5 (fun w hSw => by (try dsimp only at hSw); go_simp; try with_reducible rfl) ?_
          (try simp only [Act.put, List.setIfInBounds_toArray, List.set_cons_zero, List.set_cons_succ, List.getElem_toArray, List.getElem_cons_succ, List.getElem_cons_zero])
          refine wpAnyH_done (by kernel_rfl) ?_ _
          have hb := (hHeld5).2.2
          have R_h0 := Lib.hid (rX.grown hg7 (fun j hj => by cases hj; exact hap))
          have B_h0 := Lib.hid hN7
          have zt_h0 := hN7.lt
          have zh_h0 := R_h0.out.hi_le
          have zl_h0 : lo_h0 ≤ hi_h0 := by have := hb6.size; omega
          replace R_w0 := Lib.hid (R_w0.out.below hb)
          replace R_g0 := Lib.hid (R_g0.out.below hb)
          replace B_p0 := Lib.hid (B_p0.out.below hb)
          replace B_p1 := Lib.hid (B_p1.out.below hb)
          replace B_w0 := Lib.hid (B_w0.out.below hb)
          replace B_g0 := Lib.hid (B_g0.out.below hb)
          have z20 := hb.size
          replace hW := hW.trans (hb.mono hW.size)
          clear hb hlo2 hhi hN7 hg7 rX rX0 rX1 hT hb6 hbt0 hbt1 hS0 HKr ctf0 hlp0 ctf1 hlp1
          have c := ce_Semigroup (meetL L0 L1) (meetL L0 L1) a_h0 a_w0 c_h0 c_w0 w20 R_h0.out.slv R_w0.out.slv (by omega) (by omega)
          rw [decide_eq_true (rfl : (meetL L0 L1) = (meetL L0 L1))] at c
          have hk_p0 : w20.cell? ⟨W.heap.size, 0, none⟩ = some (.slice a0 L0.length c0) := B_p0.out.cell 0
          have hk_p1 : w20.cell? ⟨W.heap.size + 1, 0, none⟩ = some (.slice a1 L1.length c1) := B_p1.out.cell 0
          have hk_w0 : w20.cell? ⟨t_w0, 0, none⟩ = some (.slice a_w0 (meetL L0 L1).length c_w0) := B_w0.out.cell 0
          have hk_g0 : w20.cell? ⟨w8.heap.size, 0, none⟩ = some (.slice a_g0 (meetL L0 L1).length c_g0) := B_g0.out.cell 0
          have hk_h0 : w20.cell? ⟨t_h0, 0, none⟩ = some (.slice a_h0 (meetL L0 L1).length c_h0) := B_h0.out.cell 0
          go_wp2_with fail
          refine c.mono ?_
          rintro e w21 ⟨rfl, hb⟩
          clear hk_p0 hk_p1 hk_w0 hk_g0 hk_h0
          clear c
          replace R_w0 := Lib.hid (R_w0.out.below hb)
          replace R_g0 := Lib.hid (R_g0.out.below hb)
          replace R_h0 := Lib.hid (R_h0.out.below hb)
          replace B_p0 := Lib.hid (B_p0.out.below hb)
          replace B_p1 := Lib.hid (B_p1.out.below hb)
          replace B_w0 := Lib.hid (B_w0.out.below hb)
          replace B_g0 := Lib.hid (B_g0.out.below hb)
          replace B_h0 := Lib.hid (B_h0.out.below hb)
          have z21 := hb.size
          replace hW := hW.trans (hb.mono hW.size)
          clear hb
          clear R_h0
          clear B_h0
          have c := ch_Semigroup 1 ((meetL L0 L1).length) c_g0 a_g0 w21 R_g0.out.slv (by omega) (by omega) (by omega)
          have hk_p0 : w21.cell? ⟨W.heap.size, 0, none⟩ = some (.slice a0 L0.length c0) := B_p0.out.cell 0
          have hk_p1 : w21.cell? ⟨W.heap.size + 1, 0, none⟩ = some (.slice a1 L1.length c1) := B_p1.out.cell 0
          have hk_w0 : w21.cell? ⟨t_w0, 0, none⟩ = some (.slice a_w0 (meetL L0 L1).length c_w0) := B_w0.out.cell 0
          have hk_g0 : w21.cell? ⟨w8.heap.size, 0, none⟩ = some (.slice a_g0 (meetL L0 L1).length c_g0) := B_g0.out.cell 0
          go_wp2_with fail
          refine c.mono ?_
          rintro e w22 ⟨rfl, hb⟩
          clear hk_p0 hk_p1 hk_w0 hk_g0
          clear c
          replace R_w0 := Lib.hid (R_w0.out.below hb)
          replace R_g0 := Lib.hid (R_g0.out.below hb)
          replace B_p0 := Lib.hid (B_p0.out.below hb)
          replace B_p1 := Lib.hid (B_p1.out.below hb)
          replace B_w0 := Lib.hid (B_w0.out.below hb)
          replace B_g0 := Lib.hid (B_g0.out.below hb)
          have z22 := hb.size
          replace hW := hW.trans (hb.mono hW.size)
          clear hb
          have hk_p0 : w22.cell? ⟨W.heap.size, 0, none⟩ = some (.slice a0 L0.length c0) := B_p0.out.cell 0
          have hk_p1 : w22.cell? ⟨W.heap.size + 1, 0, none⟩ = some (.slice a1 L1.length c1) := B_p1.out.cell 0
          have hk_w0 : w22.cell? ⟨t_w0, 0, none⟩ = some (.slice a_w0 (meetL L0 L1).length c_w0) := B_w0.out.cell 0
          have hk_g0 : w22.cell? ⟨w8.heap.size, 0, none⟩ = some (.slice a_g0 (meetL L0 L1).length c_g0) := B_g0.out.cell 0
          go_wp2_with fail
          go_ret
          exact ⟨rfl, H00.out.trans (hW.mono H00.out.size)⟩
    · rw [if_pos (by rfl)]
      try replace rX0 := rX0.below (box_below _ (.cells [Value.slice none 0 0].toArray 26))
      try replace rX1 := rX1.below (box_below _ (.cells [Value.slice none 0 0].toArray 26))
      obtain ⟨t_w0, et, hT, htV⟩ := newSgNamed (hHeld1).2.2
      try (have hap : t_w0 < lo_w0 ∨ hi_w0 ≤ t_w0 := .inr (by have := rX.hi_le; omega))
      try replace rX := rX.below (box_below _ (.cells [Value.slice none 0 0].toArray 26))
      refine wp_alloc_arr 26 [Value.slice none 0 0] zeroSg (by rfl) ?_
      rw [← et]
      clear et
      refine hK.out _ _ (HKr.out _ ((hHeld1).2.2.alloc (hHeld1).2.2.size _)) (fun hHeld2 => ?_)
      clear hK K
      (try simp only [Act.put, List.setIfInBounds_toArray, List.set_cons_zero, List.set_cons_succ, List.getElem_toArray, List.getElem_cons_succ, List.getElem_cons_zero])
      refine wpAnyH_ready (rs := [3]) (by kernel_rfl) (by simp) ?_
      refine AllReadyH.cons rfl (fun K hK => ?_) AllReadyH.nil
      rw [if_pos (by rfl)]
      go_wp2_with (first | (go_at_call 32; (with_reducible refine (ctf1 _ (by assumption)).mono ?_); rintro e wy3 ⟨v, rfl, ho, hbt1⟩; obtain ⟨a_r1, c_r1, rfl, rX1⟩ := row_open ho; clear ho; replace rX0 := rX0.below hbt1; try (replace hT := hT.below hbt1)))
      refine hK.out _ _ (HKr.out _ ((hHeld2).2.2.trans (hbt1.mono (hHeld2).2.2.size))) (fun hHeld3 => ?_)
      clear hK K
      (try simp only [Act.put, List.setIfInBounds_toArray, List.set_cons_zero, List.set_cons_succ, List.getElem_toArray, List.getElem_cons_succ, List.getElem_cons_zero])
      refine wpAnyH_ready (rs := [4]) (by kernel_rfl) (by simp) ?_
      refine AllReadyH.cons rfl (fun K hK => ?_) AllReadyH.nil
      rw [if_pos (by rfl)]
      go_wp2_with (first | (go_at_call 23; (with_reducible refine (cs_MeetOf L0 a_r0 c_r0 L1 a_r1 c_r1 _ rX0.slw rX1.slw hb0 hb1).mono ?_); rintro e wf3 ⟨v, rfl, ho, hb6⟩; obtain ⟨lo_w0, hi_w0, a_w0, c_w0, rfl, hlo1, hlo2, hhi, rX⟩ := row_named (hHeld3).2.2.size ho; clear ho; try (have hap : t_w0 < lo_w0 ∨ hi_w0 ≤ t_w0 := .inl (by have := hT.lt; omega); replace hT := hT.below hb6)))
      refine hK.out _ _ (HKr.out _ ((hHeld3).2.2.trans (hb6.mono (hHeld3).2.2.size))) (fun hHeld4 => ?_)
      clear hK K
      (try simp only [Act.put, List.setIfInBounds_toArray, List.set_cons_zero, List.set_cons_succ, List.getElem_toArray, List.getElem_cons_succ, List.getElem_cons_zero])
      refine held_take 5 _ _ rfl (by kernel_rfl) (by kernel_rfl) (by kernel_rfl) (fun _ _ _ h => h) (by rfl) hHeld4 (fun w hSw => by (try dsimp only at hSw); go_simp; try with_reducible rfl) ?_
      (try simp only [Act.put, List.setIfInBounds_toArray, List.set_cons_zero, List.set_cons_succ, List.getElem_toArray, List.getElem_cons_succ, List.getElem_cons_zero])
      refine held_take 6 _ _ rfl (by kernel_rfl) (by kernel_rfl) (by kernel_rfl) (fun _ _ _ h => h) (by rfl) hHeld4 (fun w hSw => by (try dsimp only at hSw); go_simp; try with_reducible rfl) ?_
      (try simp only [Act.put, List.setIfInBounds_toArray, List.set_cons_zero, List.set_cons_succ, List.getElem_toArray, List.getElem_cons_succ, List.getElem_cons_zero])
      refine held_take 7 _ _ rfl (by kernel_rfl) (by kernel_rfl) (by kernel_rfl) (fun _ _ _ h => h) (by rfl) hHeld4 (fun w hSw => by (try dsimp only at hSw); go_simp; try with_reducible rfl) ?_
      (try simp only [Act.put, List.setIfInBounds_toArray, List.set_cons_zero, List.set_cons_succ, List.getElem_toArray, List.getElem_cons_succ, List.getElem_cons_zero])
      refine wpAnyH_ready (rs := [9]) (by kernel_rfl) (by simp) ?_
      refine AllReadyH.cons rfl (fun K hK => ?_) AllReadyH.nil
      rw [if_pos (by rfl)]
      refine wp_store_arr 26 (.tmp 6) (.tmp 33) _ [Value.slice none 0 0] [.slice a_w0 (meetL L0 L1).length c_w0] (by rfl) (by rfl) (by rfl) hT rfl sizeSg (by simp [Value.oneCell']) ?_
      intro w3 hN7 hg7
      refine hK.out _ _ (HKr.out _ ((hHeld4).2.2.grown hg7 (hHeld4).2.2.size (fun j hj => by cases hj; exact htV))) (fun hHeld5 => ?_)
      clear hK K
      (try simp only [Act.put, List.getElem_toArray, List.getElem_cons_succ, List.getElem_cons_zero])
      refine held_take 10 _ _ rfl (by kernel_rfl) (by kernel_rfl) (by kernel_rfl) (fun _ _ _ h => h) (by rfl) hHeld5 (fun w hSw => by (try dsimp only at hSw); go_simp; try with_reducible rfl) ?_
      (try simp only [Act.put, List.setIfInBounds_toArray, List.set_cons_zero, List.set_cons_succ, List.getElem_toArray, List.getElem_cons_succ, List.getElem_cons_zero])
      refine wpAnyH_done (by kernel_rfl) ?_ _
      have hb := (hHeld5).2.2
      have R_w0 := Lib.hid (rX.grown hg7 (fun j hj => by cases hj; exact hap))
      have B_w0 := Lib.hid hN7
      have zt_w0 := hN7.lt
      have zh_w0 := R_w0.out.hi_le
      have zl_w0 : lo_w0 ≤ hi_w0 := by have := hb6.size; omega
      replace B_p0 := Lib.hid (B_p0.out.below hb)
      replace B_p1 := Lib.hid (B_p1.out.below hb)
      have z3 := hb.size
      replace hW := hW.trans (hb.mono hW.size)
      clear hb hlo2 hhi hN7 hg7 rX rX0 rX1 hT hb6 hbt0 hbt1 hS0 HKr ctf0 hlp0 ctf1 hlp1
      have c := ct_Semigroup L0 a0 c0 w3 (HR0.out.below hW) hb0
      have hk_p0 : w3.cell? ⟨W.heap.size, 0, none⟩ = some (.slice a0 L0.length c0) := B_p0.out.cell 0
      have hk_p1 : w3.cell? ⟨W.heap.size + 1, 0, none⟩ = some (.slice a1 L1.length c1) := B_p1.out.cell 0
      have hk_w0 : w3.cell? ⟨t_w0, 0, none⟩ = some (.slice a_w0 (meetL L0 L1).length c_w0) := B_w0.out.cell 0
      go_wp2_with fail
      refine c.mono ?_
      rintro e w4 ⟨v, rfl, ho, hb⟩
      clear hk_p0 hk_p1 hk_w0
      obtain ⟨a_x0, c_x0, rfl, rX⟩ := row_open ho
      clear c ho
      replace R_w0 := Lib.hid (R_w0.out.below hb)
      replace B_p0 := Lib.hid (B_p0.out.below hb)
      replace B_p1 := Lib.hid (B_p1.out.below hb)
      replace B_w0 := Lib.hid (B_w0.out.below hb)
      have z4 := hb.size
      replace hW := hW.trans (hb.mono hW.size)
      have R_x0 := Lib.hid rX
      clear rX hb
      obtain ⟨w5, hwb⟩ : ∃ wb, wb = w4.alloc (.cells #[.slice a_x0 L0.length c_x0] 26) := ⟨_, rfl⟩
      have hb : Below w4.heap.size w4 w5 := by rw [hwb]; exact (Below.refl _ _).alloc (Nat.le_refl _) _
      have hA : Arr w5 w4.heap.size 26 [.slice a_x0 L0.length c_x0] := by rw [hwb]; exact Arr.new _ _ _
      replace R_w0 := Lib.hid (R_w0.out.below hb)
      replace R_x0 := Lib.hid (R_x0.out.below hb)
      replace B_p0 := Lib.hid (B_p0.out.below hb)
      replace B_p1 := Lib.hid (B_p1.out.below hb)
      replace B_w0 := Lib.hid (B_w0.out.below hb)
      have z5 : w4.heap.size < w5.heap.size := hA.lt
      replace hW := hW.trans (hb.mono hW.size)
      have B_x0 := Lib.hid hA
      have H_w5 := Lib.hid hwb
      clear hwb hb hA
      have c := ct_Semigroup L1 a1 c1 w5 (HR1.out.below hW) hb1
      have hk_p0 : w5.cell? ⟨W.heap.size, 0, none⟩ = some (.slice a0 L0.length c0) := B_p0.out.cell 0
      have hk_p1 : w5.cell? ⟨W.heap.size + 1, 0, none⟩ = some (.slice a1 L1.length c1) := B_p1.out.cell 0
      have hk_w0 : w5.cell? ⟨t_w0, 0, none⟩ = some (.slice a_w0 (meetL L0 L1).length c_w0) := B_w0.out.cell 0
      have hk_x0 : w5.cell? ⟨w4.heap.size, 0, none⟩ = some (.slice a_x0 L0.length c_x0) := B_x0.out.cell 0
      rw [H_w5.out] at hk_p0 hk_p1 hk_w0 hk_x0
      go_wp2_with fail
      rw [← H_w5.out]
      refine c.mono ?_
      rintro e w6 ⟨v, rfl, ho, hb⟩
      clear hk_p0 hk_p1 hk_w0 hk_x0
      obtain ⟨a_x1, c_x1, rfl, rX⟩ := row_open ho
      clear c ho
      replace R_w0 := Lib.hid (R_w0.out.below hb)
      replace R_x0 := Lib.hid (R_x0.out.below hb)
      replace B_p0 := Lib.hid (B_p0.out.below hb)
      replace B_p1 := Lib.hid (B_p1.out.below hb)
      replace B_w0 := Lib.hid (B_w0.out.below hb)
      replace B_x0 := Lib.hid (B_x0.out.below hb)
      have z6 := hb.size
      replace hW := hW.trans (hb.mono hW.size)
      have R_x1 := Lib.hid rX
      clear rX hb
      obtain ⟨w7, hwb⟩ : ∃ wb, wb = w6.alloc (.cells #[.slice a_x1 L1.length c_x1] 26) := ⟨_, rfl⟩
      have hb : Below w6.heap.size w6 w7 := by rw [hwb]; exact (Below.refl _ _).alloc (Nat.le_refl _) _
      have hA : Arr w7 w6.heap.size 26 [.slice a_x1 L1.length c_x1] := by rw [hwb]; exact Arr.new _ _ _
      replace R_w0 := Lib.hid (R_w0.out.below hb)
      replace R_x0 := Lib.hid (R_x0.out.below hb)
      replace R_x1 := Lib.hid (R_x1.out.below hb)
      replace B_p0 := Lib.hid (B_p0.out.below hb)
      replace B_p1 := Lib.hid (B_p1.out.below hb)
      replace B_w0 := Lib.hid (B_w0.out.below hb)
      replace B_x0 := Lib.hid (B_x0.out.below hb)
      have z7 : w6.heap.size < w7.heap.size := hA.lt
      replace hW := hW.trans (hb.mono hW.size)
      have B_x1 := Lib.hid hA
      have H_w7 := Lib.hid hwb
      clear hwb hb hA
      have c := ci_MeetOf L0 a_x0 c_x0 L1 a_x1 c_x1 w7 R_x0.out.slw R_x1.out.slw hb0 hb1
      have hk_p0 : w7.cell? ⟨W.heap.size, 0, none⟩ = some (.slice a0 L0.length c0) := B_p0.out.cell 0
      have hk_p1 : w7.cell? ⟨W.heap.size + 1, 0, none⟩ = some (.slice a1 L1.length c1) := B_p1.out.cell 0
      have hk_w0 : w7.cell? ⟨t_w0, 0, none⟩ = some (.slice a_w0 (meetL L0 L1).length c_w0) := B_w0.out.cell 0
      have hk_x0 : w7.cell? ⟨w4.heap.size, 0, none⟩ = some (.slice a_x0 L0.length c_x0) := B_x0.out.cell 0
      have hk_x1 : w7.cell? ⟨w6.heap.size, 0, none⟩ = some (.slice a_x1 L1.length c_x1) := B_x1.out.cell 0
      rw [H_w7.out] at hk_p0 hk_p1 hk_w0 hk_x0 hk_x1
      go_wp2_with fail
      rw [← H_w7.out]
      refine c.mono ?_
      rintro e w8 ⟨v, rfl, ho, hb⟩
      clear hk_p0 hk_p1 hk_w0 hk_x0 hk_x1
      obtain ⟨a_g0, c_g0, rfl, rX⟩ := row_open ho
      clear c ho
      replace R_w0 := Lib.hid (R_w0.out.below hb)
      replace R_x0 := Lib.hid (R_x0.out.below hb)
      replace R_x1 := Lib.hid (R_x1.out.below hb)
      replace B_p0 := Lib.hid (B_p0.out.below hb)
      replace B_p1 := Lib.hid (B_p1.out.below hb)
      replace B_w0 := Lib.hid (B_w0.out.below hb)
      replace B_x0 := Lib.hid (B_x0.out.below hb)
      replace B_x1 := Lib.hid (B_x1.out.below hb)
      have z8 := hb.size
      replace hW := hW.trans (hb.mono hW.size)
      have R_g0 := Lib.hid rX
      clear rX hb
      obtain ⟨w9, hwb⟩ : ∃ wb, wb = w8.alloc (.cells #[.slice a_g0 (meetL L0 L1).length c_g0] 26) := ⟨_, rfl⟩
      have hb : Below w8.heap.size w8 w9 := by rw [hwb]; exact (Below.refl _ _).alloc (Nat.le_refl _) _
      have hA : Arr w9 w8.heap.size 26 [.slice a_g0 (meetL L0 L1).length c_g0] := by rw [hwb]; exact Arr.new _ _ _
      replace R_w0 := Lib.hid (R_w0.out.below hb)
      replace R_x0 := Lib.hid (R_x0.out.below hb)
      replace R_x1 := Lib.hid (R_x1.out.below hb)
      replace R_g0 := Lib.hid (R_g0.out.below hb)
      replace B_p0 := Lib.hid (B_p0.out.below hb)
      replace B_p1 := Lib.hid (B_p1.out.below hb)
      replace B_w0 := Lib.hid (B_w0.out.below hb)
      replace B_x0 := Lib.hid (B_x0.out.below hb)
      replace B_x1 := Lib.hid (B_x1.out.below hb)
      have z9 : w8.heap.size < w9.heap.size := hA.lt
      replace hW := hW.trans (hb.mono hW.size)
      have B_g0 := Lib.hid hA
      have H_w9 := Lib.hid hwb
      clear hwb hb hA
      have c := ce_Semigroup (meetL L0 L1) (meetL L0 L1) a_g0 a_w0 c_g0 c_w0 w9 R_g0.out.slv R_w0.out.slv (by omega) (by omega)
      rw [decide_eq_true (rfl : (meetL L0 L1) = (meetL L0 L1))] at c
      have hk_p0 : w9.cell? ⟨W.heap.size, 0, none⟩ = some (.slice a0 L0.length c0) := B_p0.out.cell 0
      have hk_p1 : w9.cell? ⟨W.heap.size + 1, 0, none⟩ = some (.slice a1 L1.length c1) := B_p1.out.cell 0
      have hk_w0 : w9.cell? ⟨t_w0, 0, none⟩ = some (.slice a_w0 (meetL L0 L1).length c_w0) := B_w0.out.cell 0
      have hk_x0 : w9.cell? ⟨w4.heap.size, 0, none⟩ = some (.slice a_x0 L0.length c_x0) := B_x0.out.cell 0
      have hk_x1 : w9.cell? ⟨w6.heap.size, 0, none⟩ = some (.slice a_x1 L1.length c_x1) := B_x1.out.cell 0
      have hk_g0 : w9.cell? ⟨w8.heap.size, 0, none⟩ = some (.slice a_g0 (meetL L0 L1).length c_g0) := B_g0.out.cell 0
      rw [H_w9.out] at hk_p0 hk_p1 hk_w0 hk_x0 hk_x1 hk_g0
      go_wp2_with fail
      rw [← H_w9.out]
      refine c.mono ?_
      rintro e w10 ⟨rfl, hb⟩
      clear hk_p0 hk_p1 hk_w0 hk_x0 hk_x1 hk_g0
      clear c
      replace R_w0 := Lib.hid (R_w0.out.below hb)
      replace R_x0 := Lib.hid (R_x0.out.below hb)
      replace R_x1 := Lib.hid (R_x1.out.below hb)
      replace R_g0 := Lib.hid (R_g0.out.below hb)
      replace B_p0 := Lib.hid (B_p0.out.below hb)
      replace B_p1 := Lib.hid (B_p1.out.below hb)
      replace B_w0 := Lib.hid (B_w0.out.below hb)
      replace B_x0 := Lib.hid (B_x0.out.below hb)
      replace B_x1 := Lib.hid (B_x1.out.below hb)
      replace B_g0 := Lib.hid (B_g0.out.below hb)
      have z10 := hb.size
      replace hW := hW.trans (hb.mono hW.size)
      clear hb
      have ctf : ∀ w', (w'.cell? ⟨w4.heap.size, 0, none⟩ = some (.slice a_x0 L0.length c_x0) ∧ w'.cell? ⟨W.heap.size, 0, none⟩ = some (.slice a0 L0.length c0) ∧ Below w10.heap.size w10 w') → Calls Try.prog 32 #[.agg #[.slice a0 L0.length c0]] w' fun e w2 => ∃ v, e = .returned (.agg #[v]) ∧ w2.ownsRow w'.heap.size 3 1 v L0.length (L0.map (Value.int .i64)) ∧ Below w'.heap.size w' w2 := fun w' h => ct_Semigroup L0 a0 c0 w' (HR0.out.below (hW.trans (h.2.2.mono hW.size))) hb0
      have HS := Lib.hid (show w10.drew.cell? ⟨w4.heap.size, 0, none⟩ = some (.slice a_x0 L0.length c_x0) ∧ w10.drew.cell? ⟨W.heap.size, 0, none⟩ = some (.slice a0 L0.length c0) ∧ Below w10.heap.size w10 w10.drew from ⟨B_x0.out.cell 0, B_p0.out.cell 0, (Below.refl _ _).drew⟩)
      have hlx := B_x0.out.lt
      have hlp := B_p0.out.lt
      go_wp2_with fail
      go_region_held3 (fun w' => w'.cell? ⟨w4.heap.size, 0, none⟩ = some (.slice a_x0 L0.length c_x0) ∧ w'.cell? ⟨W.heap.size, 0, none⟩ = some (.slice a0 L0.length c0) ∧ Below w10.heap.size w10 w')
        (first | exact HS.out | assumption | exact held_keep2 hlx hlp (by assumption) (by assumption))
        ((first | (go_at_call 32; (with_reducible refine (ctf _ (by assumption)).mono ?_); rintro e w11 ⟨v, rfl, ho, hb2⟩; obtain ⟨a_t, c_t, rfl, rX⟩ := row_open ho; have ce := ce_Semigroup L0 L0 a_x0 a_t c_x0 c_t w11 (R_x0.out.slv.below ((Below.refl _ _).drew.trans hb2)) rX.slv (by omega) (by omega); rw [decide_eq_true (rfl : L0 = L0)] at ce; clear ho rX)
                 | (go_at_call 33; (with_reducible refine ce.mono ?_); rintro e w12 ⟨rfl, hb3⟩)))
      have hb : Below w10.heap.size w10 w12 := ((Below.refl w10.heap.size w10).drew.trans hb2).trans (hb3.mono hb2.size)
      clear ctf HS hlx hlp ce hb2 hb3
      replace R_w0 := Lib.hid (R_w0.out.below hb)
      replace R_x0 := Lib.hid (R_x0.out.below hb)
      replace R_x1 := Lib.hid (R_x1.out.below hb)
      replace R_g0 := Lib.hid (R_g0.out.below hb)
      replace B_p0 := Lib.hid (B_p0.out.below hb)
      replace B_p1 := Lib.hid (B_p1.out.below hb)
      replace B_w0 := Lib.hid (B_w0.out.below hb)
      replace B_x0 := Lib.hid (B_x0.out.below hb)
      replace B_x1 := Lib.hid (B_x1.out.below hb)
      replace B_g0 := Lib.hid (B_g0.out.below hb)
      have z12 := hb.size
      replace hW := hW.trans (hb.mono hW.size)
      clear hb
      have ctf : ∀ w', (w'.cell? ⟨w6.heap.size, 0, none⟩ = some (.slice a_x1 L1.length c_x1) ∧ w'.cell? ⟨W.heap.size + 1, 0, none⟩ = some (.slice a1 L1.length c1) ∧ Below w12.heap.size w12 w') → Calls Try.prog 32 #[.agg #[.slice a1 L1.length c1]] w' fun e w2 => ∃ v, e = .returned (.agg #[v]) ∧ w2.ownsRow w'.heap.size 3 1 v L1.length (L1.map (Value.int .i64)) ∧ Below w'.heap.size w' w2 := fun w' h => ct_Semigroup L1 a1 c1 w' (HR1.out.below (hW.trans (h.2.2.mono hW.size))) hb1
      have HS := Lib.hid (show w12.drew.cell? ⟨w6.heap.size, 0, none⟩ = some (.slice a_x1 L1.length c_x1) ∧ w12.drew.cell? ⟨W.heap.size + 1, 0, none⟩ = some (.slice a1 L1.length c1) ∧ Below w12.heap.size w12 w12.drew from ⟨B_x1.out.cell 0, B_p1.out.cell 0, (Below.refl _ _).drew⟩)
      have hlx := B_x1.out.lt
      have hlp := B_p1.out.lt
      go_wp2_with fail
      go_region_held3 (fun w' => w'.cell? ⟨w6.heap.size, 0, none⟩ = some (.slice a_x1 L1.length c_x1) ∧ w'.cell? ⟨W.heap.size + 1, 0, none⟩ = some (.slice a1 L1.length c1) ∧ Below w12.heap.size w12 w')
        (first | exact HS.out | assumption | exact held_keep2 hlx hlp (by assumption) (by assumption))
        ((first | (go_at_call 32; (with_reducible refine (ctf _ (by assumption)).mono ?_); rintro e w13 ⟨v, rfl, ho, hb2⟩; obtain ⟨a_t, c_t, rfl, rX⟩ := row_open ho; have ce := ce_Semigroup L1 L1 a_x1 a_t c_x1 c_t w13 (R_x1.out.slv.below ((Below.refl _ _).drew.trans hb2)) rX.slv (by omega) (by omega); rw [decide_eq_true (rfl : L1 = L1)] at ce; clear ho rX)
                 | (go_at_call 33; (with_reducible refine ce.mono ?_); rintro e w14 ⟨rfl, hb3⟩)))
      have hb : Below w12.heap.size w12 w14 := ((Below.refl w12.heap.size w12).drew.trans hb2).trans (hb3.mono hb2.size)
      clear ctf HS hlx hlp ce hb2 hb3
      replace R_w0 := Lib.hid (R_w0.out.below hb)
      replace R_x0 := Lib.hid (R_x0.out.below hb)
      replace R_x1 := Lib.hid (R_x1.out.below hb)
      replace R_g0 := Lib.hid (R_g0.out.below hb)
      replace B_p0 := Lib.hid (B_p0.out.below hb)
      replace B_p1 := Lib.hid (B_p1.out.below hb)
      replace B_w0 := Lib.hid (B_w0.out.below hb)
      replace B_x0 := Lib.hid (B_x0.out.below hb)
      replace B_x1 := Lib.hid (B_x1.out.below hb)
      replace B_g0 := Lib.hid (B_g0.out.below hb)
      have z14 := hb.size
      replace hW := hW.trans (hb.mono hW.size)
      clear hb
      have rX := R_x0.out
      have c := cm_Semigroup (1) w3.heap.size L0.length _ _ w14 rX.own (by omega) (by omega) (by omega)
      have hk_p0 : w14.cell? ⟨W.heap.size, 0, none⟩ = some (.slice a0 L0.length c0) := B_p0.out.cell 0
      have hk_p1 : w14.cell? ⟨W.heap.size + 1, 0, none⟩ = some (.slice a1 L1.length c1) := B_p1.out.cell 0
      have hk_w0 : w14.cell? ⟨t_w0, 0, none⟩ = some (.slice a_w0 (meetL L0 L1).length c_w0) := B_w0.out.cell 0
      have hk_x0 : w14.cell? ⟨w4.heap.size, 0, none⟩ = some (.slice a_x0 L0.length c_x0) := B_x0.out.cell 0
      have hk_x1 : w14.cell? ⟨w6.heap.size, 0, none⟩ = some (.slice a_x1 L1.length c_x1) := B_x1.out.cell 0
      have hk_g0 : w14.cell? ⟨w8.heap.size, 0, none⟩ = some (.slice a_g0 (meetL L0 L1).length c_g0) := B_g0.out.cell 0
      go_wp2_with fail
      refine c.mono ?_
      rintro e w15 ⟨rfl, ho, hg⟩
      clear hk_p0 hk_p1 hk_w0 hk_x0 hk_x1 hk_g0
      clear c
      replace R_w0 := Lib.hid (R_w0.out.grown hg (fun j hj => by have h1 := rX.blk j hj; have h2 := (rX.own.lt j hj).1; omega))
      replace R_x1 := Lib.hid (R_x1.out.grown hg (fun j hj => by have h1 := rX.blk j hj; have h2 := (rX.own.lt j hj).1; omega))
      replace R_g0 := Lib.hid (R_g0.out.grown hg (fun j hj => by have h1 := rX.blk j hj; have h2 := (rX.own.lt j hj).1; omega))
      replace B_p0 := Lib.hid (B_p0.out.grownRow hg (fun j hj => by have h1 := rX.blk j hj; have h2 := (rX.own.lt j hj).1; omega))
      replace B_p1 := Lib.hid (B_p1.out.grownRow hg (fun j hj => by have h1 := rX.blk j hj; have h2 := (rX.own.lt j hj).1; omega))
      replace B_w0 := Lib.hid (B_w0.out.grownRow hg (fun j hj => by have h1 := rX.blk j hj; have h2 := (rX.own.lt j hj).1; omega))
      replace B_x0 := Lib.hid (B_x0.out.grownRow hg (fun j hj => by have h1 := rX.blk j hj; have h2 := (rX.own.lt j hj).1; omega))
      replace B_x1 := Lib.hid (B_x1.out.grownRow hg (fun j hj => by have h1 := rX.blk j hj; have h2 := (rX.own.lt j hj).1; omega))
      replace B_g0 := Lib.hid (B_g0.out.grownRow hg (fun j hj => by have h1 := rX.blk j hj; have h2 := (rX.own.lt j hj).1; omega))
      have z15 := hg.size
      replace hW := hW.grown hg hW.size (fun j hj => by have h1 := (rX.own.lt j hj).1; omega)
      replace R_x0 := Lib.hid (Row.remade rX ho hg)
      clear rX ho hg
      clear R_x0
      clear B_x0
      have rX := R_x1.out
      have c := cm_Semigroup (1 + L0.length) w5.heap.size L1.length _ _ w15 rX.own (by omega) (by omega) (by omega)
      have hk_p0 : w15.cell? ⟨W.heap.size, 0, none⟩ = some (.slice a0 L0.length c0) := B_p0.out.cell 0
      have hk_p1 : w15.cell? ⟨W.heap.size + 1, 0, none⟩ = some (.slice a1 L1.length c1) := B_p1.out.cell 0
      have hk_w0 : w15.cell? ⟨t_w0, 0, none⟩ = some (.slice a_w0 (meetL L0 L1).length c_w0) := B_w0.out.cell 0
      have hk_x1 : w15.cell? ⟨w6.heap.size, 0, none⟩ = some (.slice a_x1 L1.length c_x1) := B_x1.out.cell 0
      have hk_g0 : w15.cell? ⟨w8.heap.size, 0, none⟩ = some (.slice a_g0 (meetL L0 L1).length c_g0) := B_g0.out.cell 0
      go_wp2_with fail
      refine c.mono ?_
      rintro e w16 ⟨rfl, ho, hg⟩
      clear hk_p0 hk_p1 hk_w0 hk_x1 hk_g0
      clear c
      replace R_w0 := Lib.hid (R_w0.out.grown hg (fun j hj => by have h1 := rX.blk j hj; have h2 := (rX.own.lt j hj).1; omega))
      replace R_g0 := Lib.hid (R_g0.out.grown hg (fun j hj => by have h1 := rX.blk j hj; have h2 := (rX.own.lt j hj).1; omega))
      replace B_p0 := Lib.hid (B_p0.out.grownRow hg (fun j hj => by have h1 := rX.blk j hj; have h2 := (rX.own.lt j hj).1; omega))
      replace B_p1 := Lib.hid (B_p1.out.grownRow hg (fun j hj => by have h1 := rX.blk j hj; have h2 := (rX.own.lt j hj).1; omega))
      replace B_w0 := Lib.hid (B_w0.out.grownRow hg (fun j hj => by have h1 := rX.blk j hj; have h2 := (rX.own.lt j hj).1; omega))
      replace B_x1 := Lib.hid (B_x1.out.grownRow hg (fun j hj => by have h1 := rX.blk j hj; have h2 := (rX.own.lt j hj).1; omega))
      replace B_g0 := Lib.hid (B_g0.out.grownRow hg (fun j hj => by have h1 := rX.blk j hj; have h2 := (rX.own.lt j hj).1; omega))
      have z16 := hg.size
      replace hW := hW.grown hg hW.size (fun j hj => by have h1 := (rX.own.lt j hj).1; omega)
      replace R_x1 := Lib.hid (Row.remade rX ho hg)
      clear rX ho hg
      clear R_x1
      clear B_x1
      have c := ce_Semigroup (meetL L0 L1) (meetL L0 L1) a_g0 a_w0 c_g0 c_w0 w16 R_g0.out.slv R_w0.out.slv (by omega) (by omega)
      rw [decide_eq_true (rfl : (meetL L0 L1) = (meetL L0 L1))] at c
      have hk_p0 : w16.cell? ⟨W.heap.size, 0, none⟩ = some (.slice a0 L0.length c0) := B_p0.out.cell 0
      have hk_p1 : w16.cell? ⟨W.heap.size + 1, 0, none⟩ = some (.slice a1 L1.length c1) := B_p1.out.cell 0
      have hk_w0 : w16.cell? ⟨t_w0, 0, none⟩ = some (.slice a_w0 (meetL L0 L1).length c_w0) := B_w0.out.cell 0
      have hk_g0 : w16.cell? ⟨w8.heap.size, 0, none⟩ = some (.slice a_g0 (meetL L0 L1).length c_g0) := B_g0.out.cell 0
      go_wp2_with fail
      refine c.mono ?_
      rintro e w17 ⟨rfl, hb⟩
      clear hk_p0 hk_p1 hk_w0 hk_g0
      clear c
      replace R_w0 := Lib.hid (R_w0.out.below hb)
      replace R_g0 := Lib.hid (R_g0.out.below hb)
      replace B_p0 := Lib.hid (B_p0.out.below hb)
      replace B_p1 := Lib.hid (B_p1.out.below hb)
      replace B_w0 := Lib.hid (B_w0.out.below hb)
      replace B_g0 := Lib.hid (B_g0.out.below hb)
      have z17 := hb.size
      replace hW := hW.trans (hb.mono hW.size)
      clear hb
      have rX := R_g0.out
      have c := cm_Semigroup (1) w7.heap.size (meetL L0 L1).length _ _ w17 rX.own (by omega) (by omega) (by omega)
      have hk_p0 : w17.cell? ⟨W.heap.size, 0, none⟩ = some (.slice a0 L0.length c0) := B_p0.out.cell 0
      have hk_p1 : w17.cell? ⟨W.heap.size + 1, 0, none⟩ = some (.slice a1 L1.length c1) := B_p1.out.cell 0
      have hk_w0 : w17.cell? ⟨t_w0, 0, none⟩ = some (.slice a_w0 (meetL L0 L1).length c_w0) := B_w0.out.cell 0
      have hk_g0 : w17.cell? ⟨w8.heap.size, 0, none⟩ = some (.slice a_g0 (meetL L0 L1).length c_g0) := B_g0.out.cell 0
      go_wp2_with fail
      refine c.mono ?_
      rintro e w18 ⟨rfl, ho, hg⟩
      clear hk_p0 hk_p1 hk_w0 hk_g0
      clear c
      replace R_w0 := Lib.hid (R_w0.out.grown hg (fun j hj => by have h1 := rX.blk j hj; have h2 := (rX.own.lt j hj).1; omega))
      replace B_p0 := Lib.hid (B_p0.out.grownRow hg (fun j hj => by have h1 := rX.blk j hj; have h2 := (rX.own.lt j hj).1; omega))
      replace B_p1 := Lib.hid (B_p1.out.grownRow hg (fun j hj => by have h1 := rX.blk j hj; have h2 := (rX.own.lt j hj).1; omega))
      replace B_w0 := Lib.hid (B_w0.out.grownRow hg (fun j hj => by have h1 := rX.blk j hj; have h2 := (rX.own.lt j hj).1; omega))
      replace B_g0 := Lib.hid (B_g0.out.grownRow hg (fun j hj => by have h1 := rX.blk j hj; have h2 := (rX.own.lt j hj).1; omega))
      have z18 := hg.size
      replace hW := hW.grown hg hW.size (fun j hj => by have h1 := (rX.own.lt j hj).1; omega)
      replace R_g0 := Lib.hid (Row.remade rX ho hg)
      clear rX ho hg
      have c := ch_Semigroup 1 ((meetL L0 L1).length) c_g0 a_g0 w18 R_g0.out.slv (by omega) (by omega) (by omega)
      have hk_p0 : w18.cell? ⟨W.heap.size, 0, none⟩ = some (.slice a0 L0.length c0) := B_p0.out.cell 0
      have hk_p1 : w18.cell? ⟨W.heap.size + 1, 0, none⟩ = some (.slice a1 L1.length c1) := B_p1.out.cell 0
      have hk_w0 : w18.cell? ⟨t_w0, 0, none⟩ = some (.slice a_w0 (meetL L0 L1).length c_w0) := B_w0.out.cell 0
      have hk_g0 : w18.cell? ⟨w8.heap.size, 0, none⟩ = some (.slice a_g0 (meetL L0 L1).length c_g0) := B_g0.out.cell 0
      go_wp2_with fail
      refine c.mono ?_
      rintro e w19 ⟨rfl, hb⟩
      clear hk_p0 hk_p1 hk_w0 hk_g0
      clear c
      replace R_w0 := Lib.hid (R_w0.out.below hb)
      replace R_g0 := Lib.hid (R_g0.out.below hb)
      replace B_p0 := Lib.hid (B_p0.out.below hb)
      replace B_p1 := Lib.hid (B_p1.out.below hb)
      replace B_w0 := Lib.hid (B_w0.out.below hb)
      replace B_g0 := Lib.hid (B_g0.out.below hb)
      have z19 := hb.size
      replace hW := hW.trans (hb.mono hW.size)
      clear hb
      have ctf0 : ∀ w', (w'.cell? ⟨W.heap.size, 0, none⟩ = some (.slice a0 L0.length c0) ∧ w'.cell? ⟨W.heap.size + 1, 0, none⟩ = some (.slice a1 L1.length c1) ∧ Below w19.heap.size w19 w') → Calls Try.prog 32 #[.agg #[.slice a0 L0.length c0]] w' fun e w2 => ∃ v, e = .returned (.agg #[v]) ∧ w2.ownsRow w'.heap.size 3 1 v L0.length (L0.map (Value.int .i64)) ∧ Below w'.heap.size w' w2 := fun w' h => ct_Semigroup L0 a0 c0 w' (HR0.out.below (hW.trans ((h.2.2).mono hW.size))) hb0
      have ctf1 : ∀ w', (w'.cell? ⟨W.heap.size, 0, none⟩ = some (.slice a0 L0.length c0) ∧ w'.cell? ⟨W.heap.size + 1, 0, none⟩ = some (.slice a1 L1.length c1) ∧ Below w19.heap.size w19 w') → Calls Try.prog 32 #[.agg #[.slice a1 L1.length c1]] w' fun e w2 => ∃ v, e = .returned (.agg #[v]) ∧ w2.ownsRow w'.heap.size 3 1 v L1.length (L1.map (Value.int .i64)) ∧ Below w'.heap.size w' w2 := fun w' h => ct_Semigroup L1 a1 c1 w' (HR1.out.below (hW.trans ((h.2.2).mono hW.size))) hb1
      have hlp0 := B_p0.out.lt
      have hlp1 := B_p1.out.lt
      have HKr : Hid (∀ w', Below w19.heap.size w19 w' → (w'.cell? ⟨W.heap.size, 0, none⟩ = some (.slice a0 L0.length c0) ∧ w'.cell? ⟨W.heap.size + 1, 0, none⟩ = some (.slice a1 L1.length c1) ∧ Below w19.heap.size w19 w')) := Lib.hid fun w' h => ⟨(h.cell (p := ⟨W.heap.size, 0, none⟩) hlp0).trans (B_p0.out.cell 0), (h.cell (p := ⟨W.heap.size + 1, 0, none⟩) hlp1).trans (B_p1.out.cell 0), h⟩
      have hS0 := HKr.out _ (Below.refl w19.heap.size w19).drew
      go_wp2_with fail
      refine wp_region_held_drew (S := fun w' => w'.cell? ⟨W.heap.size, 0, none⟩ = some (.slice a0 L0.length c0) ∧ w'.cell? ⟨W.heap.size + 1, 0, none⟩ = some (.slice a1 L1.length c1) ∧ Below w19.heap.size w19 w') (by kernel_rfl) hS0 (fun hHeld => ?_)
      generalize w19.drew = wd at *
      refine held_take 0 _ _ rfl (by kernel_rfl) (by kernel_rfl) (by kernel_rfl) (fun _ _ _ h => h) (by rfl) hHeld (fun w hSw => by (try dsimp only at hSw); go_simp; try with_reducible rfl) ?_
      (try simp only [Act.put, List.setIfInBounds_toArray, List.set_cons_zero, List.set_cons_succ, List.getElem_toArray, List.getElem_cons_zero])
      refine held_take 2 _ _ rfl (by kernel_rfl) (by kernel_rfl) (by kernel_rfl) (fun _ _ _ h => h) (by rfl) hHeld (fun w hSw => by (try dsimp only at hSw); go_simp; try with_reducible rfl) ?_
      (try simp only [Act.put, List.setIfInBounds_toArray, List.set_cons_zero, List.set_cons_succ, List.getElem_toArray, List.getElem_cons_succ, List.getElem_cons_zero])
      refine wpAnyH_ready (rs := [1, 8]) (by kernel_rfl) (by simp) ?_
      refine AllReadyH.cons rfl (fun K hK => ?_) (AllReadyH.cons rfl (fun K hK => ?_) AllReadyH.nil)
      · rw [if_pos (by rfl)]
        go_wp2_with (first | (go_at_call 32; (with_reducible refine (ctf0 _ (by assumption)).mono ?_); rintro e wx20 ⟨v, rfl, ho, hbt0⟩; obtain ⟨a_r0, c_r0, rfl, rX0⟩ := row_open ho; clear ho; try (replace hT := hT.below hbt0)))
        refine hK.out _ _ (HKr.out _ ((hHeld).2.2.trans (hbt0.mono (hHeld).2.2.size))) (fun hHeld1 => ?_)
        clear hK K
        (try simp only [Act.put, List.setIfInBounds_toArray, List.set_cons_zero, List.set_cons_succ, List.getElem_toArray, List.getElem_cons_succ, List.getElem_cons_zero])
        refine wpAnyH_ready (rs := [3, 8]) (by kernel_rfl) (by simp) ?_
        refine AllReadyH.cons rfl (fun K hK => ?_) (AllReadyH.cons rfl (fun K hK => ?_) AllReadyH.nil)
        · rw [if_pos (by rfl)]
          go_wp2_with (first | (go_at_call 32; (with_reducible refine (ctf1 _ (by assumption)).mono ?_); rintro e wy20 ⟨v, rfl, ho, hbt1⟩; obtain ⟨a_r1, c_r1, rfl, rX1⟩ := row_open ho; clear ho; replace rX0 := rX0.below hbt1; try (replace hT := hT.below hbt1)))
          refine hK.out _ _ (HKr.out _ ((hHeld1).2.2.trans (hbt1.mono (hHeld1).2.2.size))) (fun hHeld2 => ?_)
          clear hK K
          (try simp only [Act.put, List.setIfInBounds_toArray, List.set_cons_zero, List.set_cons_succ, List.getElem_toArray, List.getElem_cons_succ, List.getElem_cons_zero])
          refine wpAnyH_ready (rs := [4, 8]) (by kernel_rfl) (by simp) ?_
          refine AllReadyH.cons rfl (fun K hK => ?_) (AllReadyH.cons rfl (fun K hK => ?_) AllReadyH.nil)
          · rw [if_pos (by rfl)]
            go_wp2_with (first | (go_at_call 22; (with_reducible refine (ci_MeetOf L0 a_r0 c_r0 L1 a_r1 c_r1 _ rX0.slw rX1.slw hb0 hb1).mono ?_); rintro e wf20 ⟨v, rfl, ho, hb6⟩; obtain ⟨lo_h0, hi_h0, a_h0, c_h0, rfl, hlo1, hlo2, hhi, rX⟩ := row_named (hHeld2).2.2.size ho; clear ho; try (have hap : t_h0 < lo_h0 ∨ hi_h0 ≤ t_h0 := .inl (by have := hT.lt; omega); replace hT := hT.below hb6)))
            refine hK.out _ _ (HKr.out _ ((hHeld2).2.2.trans (hb6.mono (hHeld2).2.2.size))) (fun hHeld3 => ?_)
            clear hK K
            (try simp only [Act.put, List.setIfInBounds_toArray, List.set_cons_zero, List.set_cons_succ, List.getElem_toArray, List.getElem_cons_succ, List.getElem_cons_zero])
            refine held_take 5 _ _ rfl (by kernel_rfl) (by kernel_rfl) (by kernel_rfl) (fun _ _ _ h => h) (by rfl) hHeld3 (fun w hSw => by (try dsimp only at hSw); go_simp; try with_reducible rfl) ?_
            (try simp only [Act.put, List.setIfInBounds_toArray, List.set_cons_zero, List.set_cons_succ, List.getElem_toArray, List.getElem_cons_succ, List.getElem_cons_zero])
            refine held_take 6 _ _ rfl (by kernel_rfl) (by kernel_rfl) (by kernel_rfl) (fun _ _ _ h => h) (by rfl) hHeld3 (fun w hSw => by (try dsimp only at hSw); go_simp; try with_reducible rfl) ?_
            (try simp only [Act.put, List.setIfInBounds_toArray, List.set_cons_zero, List.set_cons_succ, List.getElem_toArray, List.getElem_cons_succ, List.getElem_cons_zero])
            refine held_take 7 _ _ rfl (by kernel_rfl) (by kernel_rfl) (by kernel_rfl) (fun _ _ _ h => h) (by rfl) hHeld3 (fun w hSw => by (try dsimp only at hSw); go_simp; try with_reducible rfl) ?_
            (try simp only [Act.put, List.setIfInBounds_toArray, List.set_cons_zero, List.set_cons_succ, List.getElem_toArray, List.getElem_cons_succ, List.getElem_cons_zero])
            refine wpAnyH_ready (rs := [8]) (by kernel_rfl) (by simp) ?_
            refine AllReadyH.cons rfl (fun K hK => ?_) AllReadyH.nil
            rw [if_pos (by rfl)]
            try replace rX0 := rX0.below (box_below _ (.cells [Value.slice none 0 0].toArray 26))
            try replace rX1 := rX1.below (box_below _ (.cells [Value.slice none 0 0].toArray 26))
            obtain ⟨t_h0, et, hT, htV⟩ := newSgNamed (hHeld3).2.2
            try (have hap : t_h0 < lo_h0 ∨ hi_h0 ≤ t_h0 := .inr (by have := rX.hi_le; omega))
            try replace rX := rX.below (box_below _ (.cells [Value.slice none 0 0].toArray 26))
            refine wp_alloc_arr 26 [Value.slice none 0 0] zeroSg (by rfl) ?_
            rw [← et]
            clear et
            refine hK.out _ _ (HKr.out _ ((hHeld3).2.2.alloc (hHeld3).2.2.size _)) (fun hHeld4 => ?_)
            clear hK K
            (try simp only [Act.put, List.setIfInBounds_toArray, List.set_cons_zero, List.set_cons_succ, List.getElem_toArray, List.getElem_cons_succ, List.getElem_cons_zero])
            refine wpAnyH_ready (rs := [9]) (by kernel_rfl) (by simp) ?_
            refine AllReadyH.cons rfl (fun K hK => ?_) AllReadyH.nil
            rw [if_pos (by rfl)]
            refine wp_store_arr 26 (.tmp 15) (.tmp 100) _ [Value.slice none 0 0] [.slice a_h0 (meetL L0 L1).length c_h0] (by rfl) (by rfl) (by rfl) hT rfl sizeSg (by simp [Value.oneCell']) ?_
            intro w20 hN7 hg7
            refine hK.out _ _ (HKr.out _ ((hHeld4).2.2.grown hg7 (hHeld4).2.2.size (fun j hj => by cases hj; exact htV))) (fun hHeld5 => ?_)
            clear hK K
            (try simp only [Act.put, List.getElem_toArray, List.getElem_cons_succ, List.getElem_cons_zero])
            refine held_take 10 _ _ rfl (by kernel_rfl) (by kernel_rfl) (by kernel_rfl) (fun _ _ _ h => h) (by rfl) hHeld5 (fun w hSw => by (try dsimp only at hSw); go_simp; try with_reducible rfl) ?_
            (try simp only [Act.put, List.setIfInBounds_toArray, List.set_cons_zero, List.set_cons_succ, List.getElem_toArray, List.getElem_cons_succ, List.getElem_cons_zero])
            refine wpAnyH_done (by kernel_rfl) ?_ _
            have hb := (hHeld5).2.2
            have R_h0 := Lib.hid (rX.grown hg7 (fun j hj => by cases hj; exact hap))
            have B_h0 := Lib.hid hN7
            have zt_h0 := hN7.lt
            have zh_h0 := R_h0.out.hi_le
            have zl_h0 : lo_h0 ≤ hi_h0 := by have := hb6.size; omega
            replace R_w0 := Lib.hid (R_w0.out.below hb)
            replace R_g0 := Lib.hid (R_g0.out.below hb)
            replace B_p0 := Lib.hid (B_p0.out.below hb)
            replace B_p1 := Lib.hid (B_p1.out.below hb)
            replace B_w0 := Lib.hid (B_w0.out.below hb)
            replace B_g0 := Lib.hid (B_g0.out.below hb)
            have z20 := hb.size
            replace hW := hW.trans (hb.mono hW.size)
            clear hb hlo2 hhi hN7 hg7 rX rX0 rX1 hT hb6 hbt0 hbt1 hS0 HKr ctf0 hlp0 ctf1 hlp1
            have c := ce_Semigroup (meetL L0 L1) (meetL L0 L1) a_h0 a_w0 c_h0 c_w0 w20 R_h0.out.slv R_w0.out.slv (by omega) (by omega)
            rw [decide_eq_true (rfl : (meetL L0 L1) = (meetL L0 L1))] at c
            have hk_p0 : w20.cell? ⟨W.heap.size, 0, none⟩ = some (.slice a0 L0.length c0) := B_p0.out.cell 0
            have hk_p1 : w20.cell? ⟨W.heap.size + 1, 0, none⟩ = some (.slice a1 L1.length c1) := B_p1.out.cell 0
            have hk_w0 : w20.cell? ⟨t_w0, 0, none⟩ = some (.slice a_w0 (meetL L0 L1).length c_w0) := B_w0.out.cell 0
            have hk_g0 : w20.cell? ⟨w8.heap.size, 0, none⟩ = some (.slice a_g0 (meetL L0 L1).length c_g0) := B_g0.out.cell 0
            have hk_h0 : w20.cell? ⟨t_h0, 0, none⟩ = some (.slice a_h0 (meetL L0 L1).length c_h0) := B_h0.out.cell 0
            go_wp2_with fail
            refine c.mono ?_
            rintro e w21 ⟨rfl, hb⟩
            clear hk_p0 hk_p1 hk_w0 hk_g0 hk_h0
            clear c
            replace R_w0 := Lib.hid (R_w0.out.below hb)
            replace R_g0 := Lib.hid (R_g0.out.below hb)
            replace R_h0 := Lib.hid (R_h0.out.below hb)
            replace B_p0 := Lib.hid (B_p0.out.below hb)
            replace B_p1 := Lib.hid (B_p1.out.below hb)
            replace B_w0 := Lib.hid (B_w0.out.below hb)
            replace B_g0 := Lib.hid (B_g0.out.below hb)
            replace B_h0 := Lib.hid (B_h0.out.below hb)
            have z21 := hb.size
            replace hW := hW.trans (hb.mono hW.size)
            clear hb
            clear R_h0
            clear B_h0
            have c := ch_Semigroup 1 ((meetL L0 L1).length) c_g0 a_g0 w21 R_g0.out.slv (by omega) (by omega) (by omega)
            have hk_p0 : w21.cell? ⟨W.heap.size, 0, none⟩ = some (.slice a0 L0.length c0) := B_p0.out.cell 0
            have hk_p1 : w21.cell? ⟨W.heap.size + 1, 0, none⟩ = some (.slice a1 L1.length c1) := B_p1.out.cell 0
            have hk_w0 : w21.cell? ⟨t_w0, 0, none⟩ = some (.slice a_w0 (meetL L0 L1).length c_w0) := B_w0.out.cell 0
            have hk_g0 : w21.cell? ⟨w8.heap.size, 0, none⟩ = some (.slice a_g0 (meetL L0 L1).length c_g0) := B_g0.out.cell 0
            go_wp2_with fail
            refine c.mono ?_
            rintro e w22 ⟨rfl, hb⟩
            clear hk_p0 hk_p1 hk_w0 hk_g0
            clear c
            replace R_w0 := Lib.hid (R_w0.out.below hb)
            replace R_g0 := Lib.hid (R_g0.out.below hb)
            replace B_p0 := Lib.hid (B_p0.out.below hb)
            replace B_p1 := Lib.hid (B_p1.out.below hb)
            replace B_w0 := Lib.hid (B_w0.out.below hb)
            replace B_g0 := Lib.hid (B_g0.out.below hb)
            have z22 := hb.size
            replace hW := hW.trans (hb.mono hW.size)
            clear hb
            have hk_p0 : w22.cell? ⟨W.heap.size, 0, none⟩ = some (.slice a0 L0.length c0) := B_p0.out.cell 0
            have hk_p1 : w22.cell? ⟨W.heap.size + 1, 0, none⟩ = some (.slice a1 L1.length c1) := B_p1.out.cell 0
            have hk_w0 : w22.cell? ⟨t_w0, 0, none⟩ = some (.slice a_w0 (meetL L0 L1).length c_w0) := B_w0.out.cell 0
            have hk_g0 : w22.cell? ⟨w8.heap.size, 0, none⟩ = some (.slice a_g0 (meetL L0 L1).length c_g0) := B_g0.out.cell 0
            go_wp2_with fail
            go_ret
            exact ⟨rfl, H00.out.trans (hW.mono H00.out.size)⟩
          · rw [if_pos (by rfl)]
            try replace rX0 := rX0.below (box_below _ (.cells [Value.slice none 0 0].toArray 26))
            try replace rX1 := rX1.below (box_below _ (.cells [Value.slice none 0 0].toArray 26))
            obtain ⟨t_h0, et, hT, htV⟩ := newSgNamed (hHeld2).2.2
            try (have hap : t_h0 < lo_h0 ∨ hi_h0 ≤ t_h0 := .inr (by have := rX.hi_le; omega))
            try replace rX := rX.below (box_below _ (.cells [Value.slice none 0 0].toArray 26))
            refine wp_alloc_arr 26 [Value.slice none 0 0] zeroSg (by rfl) ?_
            rw [← et]
            clear et
            refine hK.out _ _ (HKr.out _ ((hHeld2).2.2.alloc (hHeld2).2.2.size _)) (fun hHeld3 => ?_)
            clear hK K
            (try simp only [Act.put, List.setIfInBounds_toArray, List.set_cons_zero, List.set_cons_succ, List.getElem_toArray, List.getElem_cons_succ, List.getElem_cons_zero])
            refine wpAnyH_ready (rs := [4]) (by kernel_rfl) (by simp) ?_
            refine AllReadyH.cons rfl (fun K hK => ?_) AllReadyH.nil
            rw [if_pos (by rfl)]
            go_wp2_with (first | (go_at_call 22; (with_reducible refine (ci_MeetOf L0 a_r0 c_r0 L1 a_r1 c_r1 _ rX0.slw rX1.slw hb0 hb1).mono ?_); rintro e wf20 ⟨v, rfl, ho, hb6⟩; obtain ⟨lo_h0, hi_h0, a_h0, c_h0, rfl, hlo1, hlo2, hhi, rX⟩ := row_named (hHeld3).2.2.size ho; clear ho; try (have hap : t_h0 < lo_h0 ∨ hi_h0 ≤ t_h0 := .inl (by have := hT.lt; omega); replace hT := hT.below hb6)))
            refine hK.out _ _ (HKr.out _ ((hHeld3).2.2.trans (hb6.mono (hHeld3).2.2.size))) (fun hHeld4 => ?_)
            clear hK K
            (try simp only [Act.put, List.setIfInBounds_toArray, List.set_cons_zero, List.set_cons_succ, List.getElem_toArray, List.getElem_cons_succ, List.getElem_cons_zero])
            refine held_take 5 _ _ rfl (by kernel_rfl) (by kernel_rfl) (by kernel_rfl) (fun _ _ _ h => h) (by rfl) hHeld4 (fun w hSw => by (try dsimp only at hSw); go_simp; try with_reducible rfl) ?_
            (try simp only [Act.put, List.setIfInBounds_toArray, List.set_cons_zero, List.set_cons_succ, List.getElem_toArray, List.getElem_cons_succ, List.getElem_cons_zero])
            refine held_take 6 _ _ rfl (by kernel_rfl) (by kernel_rfl) (by kernel_rfl) (fun _ _ _ h => h) (by rfl) hHeld4 (fun w hSw => by (try dsimp only at hSw); go_simp; try with_reducible rfl) ?_
            (try simp only [Act.put, List.setIfInBounds_toArray, List.set_cons_zero, List.set_cons_succ, List.getElem_toArray, List.getElem_cons_succ, List.getElem_cons_zero])
            refine held_take 7 _ _ rfl (by kernel_rfl) (by kernel_rfl) (by kernel_rfl) (fun _ _ _ h => h) (by rfl) hHeld4 (fun w hSw => by (try dsimp only at hSw); go_simp; try with_reducible rfl) ?_
            (try simp only [Act.put, List.setIfInBounds_toArray, List.set_cons_zero, List.set_cons_succ, List.getElem_toArray, List.getElem_cons_succ, List.getElem_cons_zero])
            refine wpAnyH_ready (rs := [9]) (by kernel_rfl) (by simp) ?_
            refine AllReadyH.cons rfl (fun K hK => ?_) AllReadyH.nil
            rw [if_pos (by rfl)]
            refine wp_store_arr 26 (.tmp 15) (.tmp 100) _ [Value.slice none 0 0] [.slice a_h0 (meetL L0 L1).length c_h0] (by rfl) (by rfl) (by rfl) hT rfl sizeSg (by simp [Value.oneCell']) ?_
            intro w20 hN7 hg7
            refine hK.out _ _ (HKr.out _ ((hHeld4).2.2.grown hg7 (hHeld4).2.2.size (fun j hj => by cases hj; exact htV))) (fun hHeld5 => ?_)
            clear hK K
            (try simp only [Act.put, List.getElem_toArray, List.getElem_cons_succ, List.getElem_cons_zero])
            refine held_take 10 _ _ rfl (by kernel_rfl) (by kernel_rfl) (by kernel_rfl) (fun _ _ _ h => h) (by rfl) hHeld5 (fun w hSw => by (try dsimp only at hSw); go_simp; try with_reducible rfl) ?_
            (try simp only [Act.put, List.setIfInBounds_toArray, List.set_cons_zero, List.set_cons_succ, List.getElem_toArray, List.getElem_cons_succ, List.getElem_cons_zero])
            refine wpAnyH_done (by kernel_rfl) ?_ _
            have hb := (hHeld5).2.2
            have R_h0 := Lib.hid (rX.grown hg7 (fun j hj => by cases hj; exact hap))
            have B_h0 := Lib.hid hN7
            have zt_h0 := hN7.lt
            have zh_h0 := R_h0.out.hi_le
            have zl_h0 : lo_h0 ≤ hi_h0 := by have := hb6.size; omega
            replace R_w0 := Lib.hid (R_w0.out.below hb)
            replace R_g0 := Lib.hid (R_g0.out.below hb)
            replace B_p0 := Lib.hid (B_p0.out.below hb)
            replace B_p1 := Lib.hid (B_p1.out.below hb)
            replace B_w0 := Lib.hid (B_w0.out.below hb)
            replace B_g0 := Lib.hid (B_g0.out.below hb)
            have z20 := hb.size
            replace hW := hW.trans (hb.mono hW.size)
            clear hb hlo2 hhi hN7 hg7 rX rX0 rX1 hT hb6 hbt0 hbt1 hS0 HKr ctf0 hlp0 ctf1 hlp1
            have c := ce_Semigroup (meetL L0 L1) (meetL L0 L1) a_h0 a_w0 c_h0 c_w0 w20 R_h0.out.slv R_w0.out.slv (by omega) (by omega)
            rw [decide_eq_true (rfl : (meetL L0 L1) = (meetL L0 L1))] at c
            have hk_p0 : w20.cell? ⟨W.heap.size, 0, none⟩ = some (.slice a0 L0.length c0) := B_p0.out.cell 0
            have hk_p1 : w20.cell? ⟨W.heap.size + 1, 0, none⟩ = some (.slice a1 L1.length c1) := B_p1.out.cell 0
            have hk_w0 : w20.cell? ⟨t_w0, 0, none⟩ = some (.slice a_w0 (meetL L0 L1).length c_w0) := B_w0.out.cell 0
            have hk_g0 : w20.cell? ⟨w8.heap.size, 0, none⟩ = some (.slice a_g0 (meetL L0 L1).length c_g0) := B_g0.out.cell 0
            have hk_h0 : w20.cell? ⟨t_h0, 0, none⟩ = some (.slice a_h0 (meetL L0 L1).length c_h0) := B_h0.out.cell 0
            go_wp2_with fail
            refine c.mono ?_
            rintro e w21 ⟨rfl, hb⟩
            clear hk_p0 hk_p1 hk_w0 hk_g0 hk_h0
            clear c
            replace R_w0 := Lib.hid (R_w0.out.below hb)
            replace R_g0 := Lib.hid (R_g0.out.below hb)
            replace R_h0 := Lib.hid (R_h0.out.below hb)
            replace B_p0 := Lib.hid (B_p0.out.below hb)
            replace B_p1 := Lib.hid (B_p1.out.below hb)
            replace B_w0 := Lib.hid (B_w0.out.below hb)
            replace B_g0 := Lib.hid (B_g0.out.below hb)
            replace B_h0 := Lib.hid (B_h0.out.below hb)
            have z21 := hb.size
            replace hW := hW.trans (hb.mono hW.size)
            clear hb
            clear R_h0
            clear B_h0
            have c := ch_Semigroup 1 ((meetL L0 L1).length) c_g0 a_g0 w21 R_g0.out.slv (by omega) (by omega) (by omega)
            have hk_p0 : w21.cell? ⟨W.heap.size, 0, none⟩ = some (.slice a0 L0.length c0) := B_p0.out.cell 0
            have hk_p1 : w21.cell? ⟨W.heap.size + 1, 0, none⟩ = some (.slice a1 L1.length c1) := B_p1.out.cell 0
            have hk_w0 : w21.cell? ⟨t_w0, 0, none⟩ = some (.slice a_w0 (meetL L0 L1).length c_w0) := B_w0.out.cell 0
            have hk_g0 : w21.cell? ⟨w8.heap.size, 0, none⟩ = some (.slice a_g0 (meetL L0 L1).length c_g0) := B_g0.out.cell 0
            go_wp2_with fail
            refine c.mono ?_
            rintro e w22 ⟨rfl, hb⟩
            clear hk_p0 hk_p1 hk_w0 hk_g0
            clear c
            replace R_w0 := Lib.hid (R_w0.out.below hb)
            replace R_g0 := Lib.hid (R_g0.out.below hb)
            replace B_p0 := Lib.hid (B_p0.out.below hb)
            replace B_p1 := Lib.hid (B_p1.out.below hb)
            replace B_w0 := Lib.hid (B_w0.out.below hb)
            replace B_g0 := Lib.hid (B_g0.out.below hb)
            have z22 := hb.size
            replace hW := hW.trans (hb.mono hW.size)
            clear hb
            have hk_p0 : w22.cell? ⟨W.heap.size, 0, none⟩ = some (.slice a0 L0.length c0) := B_p0.out.cell 0
            have hk_p1 : w22.cell? ⟨W.heap.size + 1, 0, none⟩ = some (.slice a1 L1.length c1) := B_p1.out.cell 0
            have hk_w0 : w22.cell? ⟨t_w0, 0, none⟩ = some (.slice a_w0 (meetL L0 L1).length c_w0) := B_w0.out.cell 0
            have hk_g0 : w22.cell? ⟨w8.heap.size, 0, none⟩ = some (.slice a_g0 (meetL L0 L1).length c_g0) := B_g0.out.cell 0
            go_wp2_with fail
            go_ret
            exact ⟨rfl, H00.out.trans (hW.mono H00.out.size)⟩
        · rw [if_pos (by rfl)]
          try replace rX0 := rX0.below (box_below _ (.cells [Value.slice none 0 0].toArray 26))
          try replace rX1 := rX1.below (box_below _ (.cells [Value.slice none 0 0].toArray 26))
          obtain ⟨t_h0, et, hT, htV⟩ := newSgNamed (hHeld1).2.2
          try (have hap : t_h0 < lo_h0 ∨ hi_h0 ≤ t_h0 := .inr (by have := rX.hi_le; omega))
          try replace rX := rX.below (box_below _ (.cells [Value.slice none 0 0].toArray 26))
          refine wp_alloc_arr 26 [Value.slice none 0 0] zeroSg (by rfl) ?_
          rw [← et]
          clear et
          refine hK.out _ _ (HKr.out _ ((hHeld1).2.2.alloc (hHeld1).2.2.size _)) (fun hHeld2 => ?_)
          clear hK K
          (try simp only [Act.put, List.setIfInBounds_toArray, List.set_cons_zero, List.set_cons_succ, List.getElem_toArray, List.getElem_cons_succ, List.getElem_cons_zero])
          refine wpAnyH_ready (rs := [3]) (by kernel_rfl) (by simp) ?_
          refine AllReadyH.cons rfl (fun K hK => ?_) AllReadyH.nil
          rw [if_pos (by rfl)]
          go_wp2_with (first | (go_at_call 32; (with_reducible refine (ctf1 _ (by assumption)).mono ?_); rintro e wy20 ⟨v, rfl, ho, hbt1⟩; obtain ⟨a_r1, c_r1, rfl, rX1⟩ := row_open ho; clear ho; replace rX0 := rX0.below hbt1; try (replace hT := hT.below hbt1)))
          refine hK.out _ _ (HKr.out _ ((hHeld2).2.2.trans (hbt1.mono (hHeld2).2.2.size))) (fun hHeld3 => ?_)
          clear hK K
          (try simp only [Act.put, List.setIfInBounds_toArray, List.set_cons_zero, List.set_cons_succ, List.getElem_toArray, List.getElem_cons_succ, List.getElem_cons_zero])
          refine wpAnyH_ready (rs := [4]) (by kernel_rfl) (by simp) ?_
          refine AllReadyH.cons rfl (fun K hK => ?_) AllReadyH.nil
          rw [if_pos (by rfl)]
          go_wp2_with (first | (go_at_call 22; (with_reducible refine (ci_MeetOf L0 a_r0 c_r0 L1 a_r1 c_r1 _ rX0.slw rX1.slw hb0 hb1).mono ?_); rintro e wf20 ⟨v, rfl, ho, hb6⟩; obtain ⟨lo_h0, hi_h0, a_h0, c_h0, rfl, hlo1, hlo2, hhi, rX⟩ := row_named (hHeld3).2.2.size ho; clear ho; try (have hap : t_h0 < lo_h0 ∨ hi_h0 ≤ t_h0 := .inl (by have := hT.lt; omega); replace hT := hT.below hb6)))
          refine hK.out _ _ (HKr.out _ ((hHeld3).2.2.trans (hb6.mono (hHeld3).2.2.size))) (fun hHeld4 => ?_)
          clear hK K
          (try simp only [Act.put, List.setIfInBounds_toArray, List.set_cons_zero, List.set_cons_succ, List.getElem_toArray, List.getElem_cons_succ, List.getElem_cons_zero])
          refine held_take 5 _ _ rfl (by kernel_rfl) (by kernel_rfl) (by kernel_rfl) (fun _ _ _ h => h) (by rfl) hHeld4 (fun w hSw => by (try dsimp only at hSw); go_simp; try with_reducible rfl) ?_
          (try simp only [Act.put, List.setIfInBounds_toArray, List.set_cons_zero, List.set_cons_succ, List.getElem_toArray, List.getElem_cons_succ, List.getElem_cons_zero])
          refine held_take 6 _ _ rfl (by kernel_rfl) (by kernel_rfl) (by kernel_rfl) (fun _ _ _ h => h) (by rfl) hHeld4 (fun w hSw => by (try dsimp only at hSw); go_simp; try with_reducible rfl) ?_
          (try simp only [Act.put, List.setIfInBounds_toArray, List.set_cons_zero, List.set_cons_succ, List.getElem_toArray, List.getElem_cons_succ, List.getElem_cons_zero])
          refine held_take 7 _ _ rfl (by kernel_rfl) (by kernel_rfl) (by kernel_rfl) (fun _ _ _ h => h) (by rfl) hHeld4 (fun w hSw => by (try dsimp only at hSw); go_simp; try with_reducible rfl) ?_
          (try simp only [Act.put, List.setIfInBounds_toArray, List.set_cons_zero, List.set_cons_succ, List.getElem_toArray, List.getElem_cons_succ, List.getElem_cons_zero])
          refine wpAnyH_ready (rs := [9]) (by kernel_rfl) (by simp) ?_
          refine AllReadyH.cons rfl (fun K hK => ?_) AllReadyH.nil
          rw [if_pos (by rfl)]
          refine wp_store_arr 26 (.tmp 15) (.tmp 100) _ [Value.slice none 0 0] [.slice a_h0 (meetL L0 L1).length c_h0] (by rfl) (by rfl) (by rfl) hT rfl sizeSg (by simp [Value.oneCell']) ?_
          intro w20 hN7 hg7
          refine hK.out _ _ (HKr.out _ ((hHeld4).2.2.grown hg7 (hHeld4).2.2.size (fun j hj => by cases hj; exact htV))) (fun hHeld5 => ?_)
          clear hK K
          (try simp only [Act.put, List.getElem_toArray, List.getElem_cons_succ, List.getElem_cons_zero])
          refine held_take 10 _ _ rfl (by kernel_rfl) (by kernel_rfl) (by kernel_rfl) (fun _ _ _ h => h) (by rfl) hHeld5 (fun w hSw => by (try dsimp only at hSw); go_simp; try with_reducible rfl) ?_
          (try simp only [Act.put, List.setIfInBounds_toArray, List.set_cons_zero, List.set_cons_succ, List.getElem_toArray, List.getElem_cons_succ, List.getElem_cons_zero])
          refine wpAnyH_done (by kernel_rfl) ?_ _
          have hb := (hHeld5).2.2
          have R_h0 := Lib.hid (rX.grown hg7 (fun j hj => by cases hj; exact hap))
          have B_h0 := Lib.hid hN7
          have zt_h0 := hN7.lt
          have zh_h0 := R_h0.out.hi_le
          have zl_h0 : lo_h0 ≤ hi_h0 := by have := hb6.size; omega
          replace R_w0 := Lib.hid (R_w0.out.below hb)
          replace R_g0 := Lib.hid (R_g0.out.below hb)
          replace B_p0 := Lib.hid (B_p0.out.below hb)
          replace B_p1 := Lib.hid (B_p1.out.below hb)
          replace B_w0 := Lib.hid (B_w0.out.below hb)
          replace B_g0 := Lib.hid (B_g0.out.below hb)
          have z20 := hb.size
          replace hW := hW.trans (hb.mono hW.size)
          clear hb hlo2 hhi hN7 hg7 rX rX0 rX1 hT hb6 hbt0 hbt1 hS0 HKr ctf0 hlp0 ctf1 hlp1
          have c := ce_Semigroup (meetL L0 L1) (meetL L0 L1) a_h0 a_w0 c_h0 c_w0 w20 R_h0.out.slv R_w0.out.slv (by omega) (by omega)
          rw [decide_eq_true (rfl : (meetL L0 L1) = (meetL L0 L1))] at c
          have hk_p0 : w20.cell? ⟨W.heap.size, 0, none⟩ = some (.slice a0 L0.length c0) := B_p0.out.cell 0
          have hk_p1 : w20.cell? ⟨W.heap.size + 1, 0, none⟩ = some (.slice a1 L1.length c1) := B_p1.out.cell 0
          have hk_w0 : w20.cell? ⟨t_w0, 0, none⟩ = some (.slice a_w0 (meetL L0 L1).length c_w0) := B_w0.out.cell 0
          have hk_g0 : w20.cell? ⟨w8.heap.size, 0, none⟩ = some (.slice a_g0 (meetL L0 L1).length c_g0) := B_g0.out.cell 0
          have hk_h0 : w20.cell? ⟨t_h0, 0, none⟩ = some (.slice a_h0 (meetL L0 L1).length c_h0) := B_h0.out.cell 0
          go_wp2_with fail
          refine c.mono ?_
          rintro e w21 ⟨rfl, hb⟩
          clear hk_p0 hk_p1 hk_w0 hk_g0 hk_h0
          clear c
          replace R_w0 := Lib.hid (R_w0.out.below hb)
          replace R_g0 := Lib.hid (R_g0.out.below hb)
          replace R_h0 := Lib.hid (R_h0.out.below hb)
          replace B_p0 := Lib.hid (B_p0.out.below hb)
          replace B_p1 := Lib.hid (B_p1.out.below hb)
          replace B_w0 := Lib.hid (B_w0.out.below hb)
          replace B_g0 := Lib.hid (B_g0.out.below hb)
          replace B_h0 := Lib.hid (B_h0.out.below hb)
          have z21 := hb.size
          replace hW := hW.trans (hb.mono hW.size)
          clear hb
          clear R_h0
          clear B_h0
          have c := ch_Semigroup 1 ((meetL L0 L1).length) c_g0 a_g0 w21 R_g0.out.slv (by omega) (by omega) (by omega)
          have hk_p0 : w21.cell? ⟨W.heap.size, 0, none⟩ = some (.slice a0 L0.length c0) := B_p0.out.cell 0
          have hk_p1 : w21.cell? ⟨W.heap.size + 1, 0, none⟩ = some (.slice a1 L1.length c1) := B_p1.out.cell 0
          have hk_w0 : w21.cell? ⟨t_w0, 0, none⟩ = some (.slice a_w0 (meetL L0 L1).length c_w0) := B_w0.out.cell 0
          have hk_g0 : w21.cell? ⟨w8.heap.size, 0, none⟩ = some (.slice a_g0 (meetL L0 L1).length c_g0) := B_g0.out.cell 0
          go_wp2_with fail
          refine c.mono ?_
          rintro e w22 ⟨rfl, hb⟩
          clear hk_p0 hk_p1 hk_w0 hk_g0
          clear c
          replace R_w0 := Lib.hid (R_w0.out.below hb)
          replace R_g0 := Lib.hid (R_g0.out.below hb)
          replace B_p0 := Lib.hid (B_p0.out.below hb)
          replace B_p1 := Lib.hid (B_p1.out.below hb)
          replace B_w0 := Lib.hid (B_w0.out.below hb)
          replace B_g0 := Lib.hid (B_g0.out.below hb)
          have z22 := hb.size
          replace hW := hW.trans (hb.mono hW.size)
          clear hb
          have hk_p0 : w22.cell? ⟨W.heap.size, 0, none⟩ = some (.slice a0 L0.length c0) := B_p0.out.cell 0
          have hk_p1 : w22.cell? ⟨W.heap.size + 1, 0, none⟩ = some (.slice a1 L1.length c1) := B_p1.out.cell 0
          have hk_w0 : w22.cell? ⟨t_w0, 0, none⟩ = some (.slice a_w0 (meetL L0 L1).length c_w0) := B_w0.out.cell 0
          have hk_g0 : w22.cell? ⟨w8.heap.size, 0, none⟩ = some (.slice a_g0 (meetL L0 L1).length c_g0) := B_g0.out.cell 0
          go_wp2_with fail
          go_ret
          exact ⟨rfl, H00.out.trans (hW.mono H00.out.size)⟩
      · rw [if_pos (by rfl)]
        try replace rX0 := rX0.below (box_below _ (.cells [Value.slice none 0 0].toArray 26))
        try replace rX1 := rX1.below (box_below _ (.cells [Value.slice none 0 0].toArray 26))
        obtain ⟨t_h0, et, hT, htV⟩ := newSgNamed (hHeld).2.2
        try (have hap : t_h0 < lo_h0 ∨ hi_h0 ≤ t_h0 := .inr (by have := rX.hi_le; omega))
        try replace rX := rX.below (box_below _ (.cells [Value.slice none 0 0].toArray 26))
        refine wp_alloc_arr 26 [Value.slice none 0 0] zeroSg (by rfl) ?_
        rw [← et]
        clear et
        refine hK.out _ _ (HKr.out _ ((hHeld).2.2.alloc (hHeld).2.2.size _)) (fun hHeld1 => ?_)
        clear hK K
        (try simp only [Act.put, List.setIfInBounds_toArray, List.set_cons_zero, List.set_cons_succ, List.getElem_toArray, List.getElem_cons_succ, List.getElem_cons_zero])
        refine wpAnyH_ready (rs := [1]) (by kernel_rfl) (by simp) ?_
        refine AllReadyH.cons rfl (fun K hK => ?_) AllReadyH.nil
        rw [if_pos (by rfl)]
        go_wp2_with (first | (go_at_call 32; (with_reducible refine (ctf0 _ (by assumption)).mono ?_); rintro e wx20 ⟨v, rfl, ho, hbt0⟩; obtain ⟨a_r0, c_r0, rfl, rX0⟩ := row_open ho; clear ho; try (replace hT := hT.below hbt0)))
        refine hK.out _ _ (HKr.out _ ((hHeld1).2.2.trans (hbt0.mono (hHeld1).2.2.size))) (fun hHeld2 => ?_)
        clear hK K
        (try simp only [Act.put, List.setIfInBounds_toArray, List.set_cons_zero, List.set_cons_succ, List.getElem_toArray, List.getElem_cons_succ, List.getElem_cons_zero])
        refine wpAnyH_ready (rs := [3]) (by kernel_rfl) (by simp) ?_
        refine AllReadyH.cons rfl (fun K hK => ?_) AllReadyH.nil
        rw [if_pos (by rfl)]
        go_wp2_with (first | (go_at_call 32; (with_reducible refine (ctf1 _ (by assumption)).mono ?_); rintro e wy20 ⟨v, rfl, ho, hbt1⟩; obtain ⟨a_r1, c_r1, rfl, rX1⟩ := row_open ho; clear ho; replace rX0 := rX0.below hbt1; try (replace hT := hT.below hbt1)))
        refine hK.out _ _ (HKr.out _ ((hHeld2).2.2.trans (hbt1.mono (hHeld2).2.2.size))) (fun hHeld3 => ?_)
        clear hK K
        (try simp only [Act.put, List.setIfInBounds_toArray, List.set_cons_zero, List.set_cons_succ, List.getElem_toArray, List.getElem_cons_succ, List.getElem_cons_zero])
        refine wpAnyH_ready (rs := [4]) (by kernel_rfl) (by simp) ?_
        refine AllReadyH.cons rfl (fun K hK => ?_) AllReadyH.nil
        rw [if_pos (by rfl)]
        go_wp2_with (first | (go_at_call 22; (with_reducible refine (ci_MeetOf L0 a_r0 c_r0 L1 a_r1 c_r1 _ rX0.slw rX1.slw hb0 hb1).mono ?_); rintro e wf20 ⟨v, rfl, ho, hb6⟩; obtain ⟨lo_h0, hi_h0, a_h0, c_h0, rfl, hlo1, hlo2, hhi, rX⟩ := row_named (hHeld3).2.2.size ho; clear ho; try (have hap : t_h0 < lo_h0 ∨ hi_h0 ≤ t_h0 := .inl (by have := hT.lt; omega); replace hT := hT.below hb6)))
        refine hK.out _ _ (HKr.out _ ((hHeld3).2.2.trans (hb6.mono (hHeld3).2.2.size))) (fun hHeld4 => ?_)
        clear hK K
        (try simp only [Act.put, List.setIfInBounds_toArray, List.set_cons_zero, List.set_cons_succ, List.getElem_toArray, List.getElem_cons_succ, List.getElem_cons_zero])
        refine held_take 5 _ _ rfl (by kernel_rfl) (by kernel_rfl) (by kernel_rfl) (fun _ _ _ h => h) (by rfl) hHeld4 (fun w hSw => by (try dsimp only at hSw); go_simp; try with_reducible rfl) ?_
        (try simp only [Act.put, List.setIfInBounds_toArray, List.set_cons_zero, List.set_cons_succ, List.getElem_toArray, List.getElem_cons_succ, List.getElem_cons_zero])
        refine held_take 6 _ _ rfl (by kernel_rfl) (by kernel_rfl) (by kernel_rfl) (fun _ _ _ h => h) (by rfl) hHeld4 (fun w hSw => by (try dsimp only at hSw); go_simp; try with_reducible rfl) ?_
        (try simp only [Act.put, List.setIfInBounds_toArray, List.set_cons_zero, List.set_cons_succ, List.getElem_toArray, List.getElem_cons_succ, List.getElem_cons_zero])
        refine held_take 7 _ _ rfl (by kernel_rfl) (by kernel_rfl) (by kernel_rfl) (fun _ _ _ h => h) (by rfl) hHeld4 (fun w hSw => by (try dsimp only at hSw); go_simp; try with_reducible rfl) ?_
        (try simp only [Act.put, List.setIfInBounds_toArray, List.set_cons_zero, List.set_cons_succ, List.getElem_toArray, List.getElem_cons_succ, List.getElem_cons_zero])
        refine wpAnyH_ready (rs := [9]) (by kernel_rfl) (by simp) ?_
        refine AllReadyH.cons rfl (fun K hK => ?_) AllReadyH.nil
        rw [if_pos (by rfl)]
        refine wp_store_arr 26 (.tmp 15) (.tmp 100) _ [Value.slice none 0 0] [.slice a_h0 (meetL L0 L1).length c_h0] (by rfl) (by rfl) (by rfl) hT rfl sizeSg (by simp [Value.oneCell']) ?_
        intro w20 hN7 hg7
        refine hK.out _ _ (HKr.out _ ((hHeld4).2.2.grown hg7 (hHeld4).2.2.size (fun j hj => by cases hj; exact htV))) (fun hHeld5 => ?_)
        clear hK K
        (try simp only [Act.put, List.getElem_toArray, List.getElem_cons_succ, List.getElem_cons_zero])
        refine held_take 10 _ _ rfl (by kernel_rfl) (by kernel_rfl) (by kernel_rfl) (fun _ _ _ h => h) (by rfl) hHeld5 (fun w hSw => by (try dsimp only at hSw); go_simp; try with_reducible rfl) ?_
        (try simp only [Act.put, List.setIfInBounds_toArray, List.set_cons_zero, List.set_cons_succ, List.getElem_toArray, List.getElem_cons_succ, List.getElem_cons_zero])
        refine wpAnyH_done (by kernel_rfl) ?_ _
        have hb := (hHeld5).2.2
        have R_h0 := Lib.hid (rX.grown hg7 (fun j hj => by cases hj; exact hap))
        have B_h0 := Lib.hid hN7
        have zt_h0 := hN7.lt
        have zh_h0 := R_h0.out.hi_le
        have zl_h0 : lo_h0 ≤ hi_h0 := by have := hb6.size; omega
        replace R_w0 := Lib.hid (R_w0.out.below hb)
        replace R_g0 := Lib.hid (R_g0.out.below hb)
        replace B_p0 := Lib.hid (B_p0.out.below hb)
        replace B_p1 := Lib.hid (B_p1.out.below hb)
        replace B_w0 := Lib.hid (B_w0.out.below hb)
        replace B_g0 := Lib.hid (B_g0.out.below hb)
        have z20 := hb.size
        replace hW := hW.trans (hb.mono hW.size)
        clear hb hlo2 hhi hN7 hg7 rX rX0 rX1 hT hb6 hbt0 hbt1 hS0 HKr ctf0 hlp0 ctf1 hlp1
        have c := ce_Semigroup (meetL L0 L1) (meetL L0 L1) a_h0 a_w0 c_h0 c_w0 w20 R_h0.out.slv R_w0.out.slv (by omega) (by omega)
        rw [decide_eq_true (rfl : (meetL L0 L1) = (meetL L0 L1))] at c
        have hk_p0 : w20.cell? ⟨W.heap.size, 0, none⟩ = some (.slice a0 L0.length c0) := B_p0.out.cell 0
        have hk_p1 : w20.cell? ⟨W.heap.size + 1, 0, none⟩ = some (.slice a1 L1.length c1) := B_p1.out.cell 0
        have hk_w0 : w20.cell? ⟨t_w0, 0, none⟩ = some (.slice a_w0 (meetL L0 L1).length c_w0) := B_w0.out.cell 0
        have hk_g0 : w20.cell? ⟨w8.heap.size, 0, none⟩ = some (.slice a_g0 (meetL L0 L1).length c_g0) := B_g0.out.cell 0
        have hk_h0 : w20.cell? ⟨t_h0, 0, none⟩ = some (.slice a_h0 (meetL L0 L1).length c_h0) := B_h0.out.cell 0
        go_wp2_with fail
        refine c.mono ?_
        rintro e w21 ⟨rfl, hb⟩
        clear hk_p0 hk_p1 hk_w0 hk_g0 hk_h0
        clear c
        replace R_w0 := Lib.hid (R_w0.out.below hb)
        replace R_g0 := Lib.hid (R_g0.out.below hb)
        replace R_h0 := Lib.hid (R_h0.out.below hb)
        replace B_p0 := Lib.hid (B_p0.out.below hb)
        replace B_p1 := Lib.hid (B_p1.out.below hb)
        replace B_w0 := Lib.hid (B_w0.out.below hb)
        replace B_g0 := Lib.hid (B_g0.out.below hb)
        replace B_h0 := Lib.hid (B_h0.out.below hb)
        have z21 := hb.size
        replace hW := hW.trans (hb.mono hW.size)
        clear hb
        clear R_h0
        clear B_h0
        have c := ch_Semigroup 1 ((meetL L0 L1).length) c_g0 a_g0 w21 R_g0.out.slv (by omega) (by omega) (by omega)
        have hk_p0 : w21.cell? ⟨W.heap.size, 0, none⟩ = some (.slice a0 L0.length c0) := B_p0.out.cell 0
        have hk_p1 : w21.cell? ⟨W.heap.size + 1, 0, none⟩ = some (.slice a1 L1.length c1) := B_p1.out.cell 0
        have hk_w0 : w21.cell? ⟨t_w0, 0, none⟩ = some (.slice a_w0 (meetL L0 L1).length c_w0) := B_w0.out.cell 0
        have hk_g0 : w21.cell? ⟨w8.heap.size, 0, none⟩ = some (.slice a_g0 (meetL L0 L1).length c_g0) := B_g0.out.cell 0
        go_wp2_with fail
        refine c.mono ?_
        rintro e w22 ⟨rfl, hb⟩
        clear hk_p0 hk_p1 hk_w0 hk_g0
        clear c
        replace R_w0 := Lib.hid (R_w0.out.below hb)
        replace R_g0 := Lib.hid (R_g0.out.below hb)
        replace B_p0 := Lib.hid (B_p0.out.below hb)
        replace B_p1 := Lib.hid (B_p1.out.below hb)
        replace B_w0 := Lib.hid (B_w0.out.below hb)
        replace B_g0 := Lib.hid (B_g0.out.below hb)
        have z22 := hb.size
        replace hW := hW.trans (hb.mono hW.size)
        clear hb
        have hk_p0 : w22.cell? ⟨W.heap.size, 0, none⟩ = some (.slice a0 L0.length c0) := B_p0.out.cell 0
        have hk_p1 : w22.cell? ⟨W.heap.size + 1, 0, none⟩ = some (.slice a1 L1.length c1) := B_p1.out.cell 0
        have hk_w0 : w22.cell? ⟨t_w0, 0, none⟩ = some (.slice a_w0 (meetL L0 L1).length c_w0) := B_w0.out.cell 0
        have hk_g0 : w22.cell? ⟨w8.heap.size, 0, none⟩ = some (.slice a_g0 (meetL L0 L1).length c_g0) := B_g0.out.cell 0
        go_wp2_with fail
        go_ret
        exact ⟨rfl, H00.out.trans (hW.mono H00.out.size)⟩
  · rw [if_pos (by rfl)]
    try replace rX0 := rX0.below (box_below _ (.cells [Value.slice none 0 0].toArray 26))
    try replace rX1 := rX1.below (box_below _ (.cells [Value.slice none 0 0].toArray 26))
    obtain ⟨t_w0, et, hT, htV⟩ := newSgNamed (hHeld).2.2
    try (have hap : t_w0 < lo_w0 ∨ hi_w0 ≤ t_w0 := .inr (by have := rX.hi_le; omega))
    try replace rX := rX.below (box_below _ (.cells [Value.slice none 0 0].toArray 26))
    refine wp_alloc_arr 26 [Value.slice none 0 0] zeroSg (by rfl) ?_
    rw [← et]
    clear et
    refine hK.out _ _ (HKr.out _ ((hHeld).2.2.alloc (hHeld).2.2.size _)) (fun hHeld1 => ?_)
    clear hK K
    (try simp only [Act.put, List.setIfInBounds_toArray, List.set_cons_zero, List.set_cons_succ, List.getElem_toArray, List.getElem_cons_succ, List.getElem_cons_zero])
    refine wpAnyH_ready (rs := [1]) (by kernel_rfl) (by simp) ?_
    refine AllReadyH.cons rfl (fun K hK => ?_) AllReadyH.nil
    rw [if_pos (by rfl)]
    go_wp2_with (first | (go_at_call 32; (with_reducible refine (ctf0 _ (by assumption)).mono ?_); rintro e wx3 ⟨v, rfl, ho, hbt0⟩; obtain ⟨a_r0, c_r0, rfl, rX0⟩ := row_open ho; clear ho; try (replace hT := hT.below hbt0)))
    refine hK.out _ _ (HKr.out _ ((hHeld1).2.2.trans (hbt0.mono (hHeld1).2.2.size))) (fun hHeld2 => ?_)
    clear hK K
    (try simp only [Act.put, List.setIfInBounds_toArray, List.set_cons_zero, List.set_cons_succ, List.getElem_toArray, List.getElem_cons_succ, List.getElem_cons_zero])
    refine wpAnyH_ready (rs := [3]) (by kernel_rfl) (by simp) ?_
    refine AllReadyH.cons rfl (fun K hK => ?_) AllReadyH.nil
    rw [if_pos (by rfl)]
    go_wp2_with (first | (go_at_call 32; (with_reducible refine (ctf1 _ (by assumption)).mono ?_); rintro e wy3 ⟨v, rfl, ho, hbt1⟩; obtain ⟨a_r1, c_r1, rfl, rX1⟩ := row_open ho; clear ho; replace rX0 := rX0.below hbt1; try (replace hT := hT.below hbt1)))
    refine hK.out _ _ (HKr.out _ ((hHeld2).2.2.trans (hbt1.mono (hHeld2).2.2.size))) (fun hHeld3 => ?_)
    clear hK K
    (try simp only [Act.put, List.setIfInBounds_toArray, List.set_cons_zero, List.set_cons_succ, List.getElem_toArray, List.getElem_cons_succ, List.getElem_cons_zero])
    refine wpAnyH_ready (rs := [4]) (by kernel_rfl) (by simp) ?_
    refine AllReadyH.cons rfl (fun K hK => ?_) AllReadyH.nil
    rw [if_pos (by rfl)]
    go_wp2_with (first | (go_at_call 23; (with_reducible refine (cs_MeetOf L0 a_r0 c_r0 L1 a_r1 c_r1 _ rX0.slw rX1.slw hb0 hb1).mono ?_); rintro e wf3 ⟨v, rfl, ho, hb6⟩; obtain ⟨lo_w0, hi_w0, a_w0, c_w0, rfl, hlo1, hlo2, hhi, rX⟩ := row_named (hHeld3).2.2.size ho; clear ho; try (have hap : t_w0 < lo_w0 ∨ hi_w0 ≤ t_w0 := .inl (by have := hT.lt; omega); replace hT := hT.below hb6)))
    refine hK.out _ _ (HKr.out _ ((hHeld3).2.2.trans (hb6.mono (hHeld3).2.2.size))) (fun hHeld4 => ?_)
    clear hK K
    (try simp only [Act.put, List.setIfInBounds_toArray, List.set_cons_zero, List.set_cons_succ, List.getElem_toArray, List.getElem_cons_succ, List.getElem_cons_zero])
    refine held_take 5 _ _ rfl (by kernel_rfl) (by kernel_rfl) (by kernel_rfl) (fun _ _ _ h => h) (by rfl) hHeld4 (fun w hSw => by (try dsimp only at hSw); go_simp; try with_reducible rfl) ?_
    (try simp only [Act.put, List.setIfInBounds_toArray, List.set_cons_zero, List.set_cons_succ, List.getElem_toArray, List.getElem_cons_succ, List.getElem_cons_zero])
    refine held_take 6 _ _ rfl (by kernel_rfl) (by kernel_rfl) (by kernel_rfl) (fun _ _ _ h => h) (by rfl) hHeld4 (fun w hSw => by (try dsimp only at hSw); go_simp; try with_reducible rfl) ?_
    (try simp only [Act.put, List.setIfInBounds_toArray, List.set_cons_zero, List.set_cons_succ, List.getElem_toArray, List.getElem_cons_succ, List.getElem_cons_zero])
    refine held_take 7 _ _ rfl (by kernel_rfl) (by kernel_rfl) (by kernel_rfl) (fun _ _ _ h => h) (by rfl) hHeld4 (fun w hSw => by (try dsimp only at hSw); go_simp; try with_reducible rfl) ?_
    (try simp only [Act.put, List.setIfInBounds_toArray, List.set_cons_zero, List.set_cons_succ, List.getElem_toArray, List.getElem_cons_succ, List.getElem_cons_zero])
    refine wpAnyH_ready (rs := [9]) (by kernel_rfl) (by simp) ?_
    refine AllReadyH.cons rfl (fun K hK => ?_) AllReadyH.nil
    rw [if_pos (by rfl)]
    refine wp_store_arr 26 (.tmp 6) (.tmp 33) _ [Value.slice none 0 0] [.slice a_w0 (meetL L0 L1).length c_w0] (by rfl) (by rfl) (by rfl) hT rfl sizeSg (by simp [Value.oneCell']) ?_
    intro w3 hN7 hg7
    refine hK.out _ _ (HKr.out _ ((hHeld4).2.2.grown hg7 (hHeld4).2.2.size (fun j hj => by cases hj; exact htV))) (fun hHeld5 => ?_)
    clear hK K
    (try simp only [Act.put, List.getElem_toArray, List.getElem_cons_succ, List.getElem_cons_zero])
    refine held_take 10 _ _ rfl (by kernel_rfl) (by kernel_rfl) (by kernel_rfl) (fun _ _ _ h => h) (by rfl) hHeld5 (fun w hSw => by (try dsimp only at hSw); go_simp; try with_reducible rfl) ?_
    (try simp only [Act.put, List.setIfInBounds_toArray, List.set_cons_zero, List.set_cons_succ, List.getElem_toArray, List.getElem_cons_succ, List.getElem_cons_zero])
    refine wpAnyH_done (by kernel_rfl) ?_ _
    have hb := (hHeld5).2.2
    have R_w0 := Lib.hid (rX.grown hg7 (fun j hj => by cases hj; exact hap))
    have B_w0 := Lib.hid hN7
    have zt_w0 := hN7.lt
    have zh_w0 := R_w0.out.hi_le
    have zl_w0 : lo_w0 ≤ hi_w0 := by have := hb6.size; omega
    replace B_p0 := Lib.hid (B_p0.out.below hb)
    replace B_p1 := Lib.hid (B_p1.out.below hb)
    have z3 := hb.size
    replace hW := hW.trans (hb.mono hW.size)
    clear hb hlo2 hhi hN7 hg7 rX rX0 rX1 hT hb6 hbt0 hbt1 hS0 HKr ctf0 hlp0 ctf1 hlp1
    have c := ct_Semigroup L0 a0 c0 w3 (HR0.out.below hW) hb0
    have hk_p0 : w3.cell? ⟨W.heap.size, 0, none⟩ = some (.slice a0 L0.length c0) := B_p0.out.cell 0
    have hk_p1 : w3.cell? ⟨W.heap.size + 1, 0, none⟩ = some (.slice a1 L1.length c1) := B_p1.out.cell 0
    have hk_w0 : w3.cell? ⟨t_w0, 0, none⟩ = some (.slice a_w0 (meetL L0 L1).length c_w0) := B_w0.out.cell 0
    go_wp2_with fail
    refine c.mono ?_
    rintro e w4 ⟨v, rfl, ho, hb⟩
    clear hk_p0 hk_p1 hk_w0
    obtain ⟨a_x0, c_x0, rfl, rX⟩ := row_open ho
    clear c ho
    replace R_w0 := Lib.hid (R_w0.out.below hb)
    replace B_p0 := Lib.hid (B_p0.out.below hb)
    replace B_p1 := Lib.hid (B_p1.out.below hb)
    replace B_w0 := Lib.hid (B_w0.out.below hb)
    have z4 := hb.size
    replace hW := hW.trans (hb.mono hW.size)
    have R_x0 := Lib.hid rX
    clear rX hb
    obtain ⟨w5, hwb⟩ : ∃ wb, wb = w4.alloc (.cells #[.slice a_x0 L0.length c_x0] 26) := ⟨_, rfl⟩
    have hb : Below w4.heap.size w4 w5 := by rw [hwb]; exact (Below.refl _ _).alloc (Nat.le_refl _) _
    have hA : Arr w5 w4.heap.size 26 [.slice a_x0 L0.length c_x0] := by rw [hwb]; exact Arr.new _ _ _
    replace R_w0 := Lib.hid (R_w0.out.below hb)
    replace R_x0 := Lib.hid (R_x0.out.below hb)
    replace B_p0 := Lib.hid (B_p0.out.below hb)
    replace B_p1 := Lib.hid (B_p1.out.below hb)
    replace B_w0 := Lib.hid (B_w0.out.below hb)
    have z5 : w4.heap.size < w5.heap.size := hA.lt
    replace hW := hW.trans (hb.mono hW.size)
    have B_x0 := Lib.hid hA
    have H_w5 := Lib.hid hwb
    clear hwb hb hA
    have c := ct_Semigroup L1 a1 c1 w5 (HR1.out.below hW) hb1
    have hk_p0 : w5.cell? ⟨W.heap.size, 0, none⟩ = some (.slice a0 L0.length c0) := B_p0.out.cell 0
    have hk_p1 : w5.cell? ⟨W.heap.size + 1, 0, none⟩ = some (.slice a1 L1.length c1) := B_p1.out.cell 0
    have hk_w0 : w5.cell? ⟨t_w0, 0, none⟩ = some (.slice a_w0 (meetL L0 L1).length c_w0) := B_w0.out.cell 0
    have hk_x0 : w5.cell? ⟨w4.heap.size, 0, none⟩ = some (.slice a_x0 L0.length c_x0) := B_x0.out.cell 0
    rw [H_w5.out] at hk_p0 hk_p1 hk_w0 hk_x0
    go_wp2_with fail
    rw [← H_w5.out]
    refine c.mono ?_
    rintro e w6 ⟨v, rfl, ho, hb⟩
    clear hk_p0 hk_p1 hk_w0 hk_x0
    obtain ⟨a_x1, c_x1, rfl, rX⟩ := row_open ho
    clear c ho
    replace R_w0 := Lib.hid (R_w0.out.below hb)
    replace R_x0 := Lib.hid (R_x0.out.below hb)
    replace B_p0 := Lib.hid (B_p0.out.below hb)
    replace B_p1 := Lib.hid (B_p1.out.below hb)
    replace B_w0 := Lib.hid (B_w0.out.below hb)
    replace B_x0 := Lib.hid (B_x0.out.below hb)
    have z6 := hb.size
    replace hW := hW.trans (hb.mono hW.size)
    have R_x1 := Lib.hid rX
    clear rX hb
    obtain ⟨w7, hwb⟩ : ∃ wb, wb = w6.alloc (.cells #[.slice a_x1 L1.length c_x1] 26) := ⟨_, rfl⟩
    have hb : Below w6.heap.size w6 w7 := by rw [hwb]; exact (Below.refl _ _).alloc (Nat.le_refl _) _
    have hA : Arr w7 w6.heap.size 26 [.slice a_x1 L1.length c_x1] := by rw [hwb]; exact Arr.new _ _ _
    replace R_w0 := Lib.hid (R_w0.out.below hb)
    replace R_x0 := Lib.hid (R_x0.out.below hb)
    replace R_x1 := Lib.hid (R_x1.out.below hb)
    replace B_p0 := Lib.hid (B_p0.out.below hb)
    replace B_p1 := Lib.hid (B_p1.out.below hb)
    replace B_w0 := Lib.hid (B_w0.out.below hb)
    replace B_x0 := Lib.hid (B_x0.out.below hb)
    have z7 : w6.heap.size < w7.heap.size := hA.lt
    replace hW := hW.trans (hb.mono hW.size)
    have B_x1 := Lib.hid hA
    have H_w7 := Lib.hid hwb
    clear hwb hb hA
    have c := ci_MeetOf L0 a_x0 c_x0 L1 a_x1 c_x1 w7 R_x0.out.slw R_x1.out.slw hb0 hb1
    have hk_p0 : w7.cell? ⟨W.heap.size, 0, none⟩ = some (.slice a0 L0.length c0) := B_p0.out.cell 0
    have hk_p1 : w7.cell? ⟨W.heap.size + 1, 0, none⟩ = some (.slice a1 L1.length c1) := B_p1.out.cell 0
    have hk_w0 : w7.cell? ⟨t_w0, 0, none⟩ = some (.slice a_w0 (meetL L0 L1).length c_w0) := B_w0.out.cell 0
    have hk_x0 : w7.cell? ⟨w4.heap.size, 0, none⟩ = some (.slice a_x0 L0.length c_x0) := B_x0.out.cell 0
    have hk_x1 : w7.cell? ⟨w6.heap.size, 0, none⟩ = some (.slice a_x1 L1.length c_x1) := B_x1.out.cell 0
    rw [H_w7.out] at hk_p0 hk_p1 hk_w0 hk_x0 hk_x1
    go_wp2_with fail
    rw [← H_w7.out]
    refine c.mono ?_
    rintro e w8 ⟨v, rfl, ho, hb⟩
    clear hk_p0 hk_p1 hk_w0 hk_x0 hk_x1
    obtain ⟨a_g0, c_g0, rfl, rX⟩ := row_open ho
    clear c ho
    replace R_w0 := Lib.hid (R_w0.out.below hb)
    replace R_x0 := Lib.hid (R_x0.out.below hb)
    replace R_x1 := Lib.hid (R_x1.out.below hb)
    replace B_p0 := Lib.hid (B_p0.out.below hb)
    replace B_p1 := Lib.hid (B_p1.out.below hb)
    replace B_w0 := Lib.hid (B_w0.out.below hb)
    replace B_x0 := Lib.hid (B_x0.out.below hb)
    replace B_x1 := Lib.hid (B_x1.out.below hb)
    have z8 := hb.size
    replace hW := hW.trans (hb.mono hW.size)
    have R_g0 := Lib.hid rX
    clear rX hb
    obtain ⟨w9, hwb⟩ : ∃ wb, wb = w8.alloc (.cells #[.slice a_g0 (meetL L0 L1).length c_g0] 26) := ⟨_, rfl⟩
    have hb : Below w8.heap.size w8 w9 := by rw [hwb]; exact (Below.refl _ _).alloc (Nat.le_refl _) _
    have hA : Arr w9 w8.heap.size 26 [.slice a_g0 (meetL L0 L1).length c_g0] := by rw [hwb]; exact Arr.new _ _ _
    replace R_w0 := Lib.hid (R_w0.out.below hb)
    replace R_x0 := Lib.hid (R_x0.out.below hb)
    replace R_x1 := Lib.hid (R_x1.out.below hb)
    replace R_g0 := Lib.hid (R_g0.out.below hb)
    replace B_p0 := Lib.hid (B_p0.out.below hb)
    replace B_p1 := Lib.hid (B_p1.out.below hb)
    replace B_w0 := Lib.hid (B_w0.out.below hb)
    replace B_x0 := Lib.hid (B_x0.out.below hb)
    replace B_x1 := Lib.hid (B_x1.out.below hb)
    have z9 : w8.heap.size < w9.heap.size := hA.lt
    replace hW := hW.trans (hb.mono hW.size)
    have B_g0 := Lib.hid hA
    have H_w9 := Lib.hid hwb
    clear hwb hb hA
    have c := ce_Semigroup (meetL L0 L1) (meetL L0 L1) a_g0 a_w0 c_g0 c_w0 w9 R_g0.out.slv R_w0.out.slv (by omega) (by omega)
    rw [decide_eq_true (rfl : (meetL L0 L1) = (meetL L0 L1))] at c
    have hk_p0 : w9.cell? ⟨W.heap.size, 0, none⟩ = some (.slice a0 L0.length c0) := B_p0.out.cell 0
    have hk_p1 : w9.cell? ⟨W.heap.size + 1, 0, none⟩ = some (.slice a1 L1.length c1) := B_p1.out.cell 0
    have hk_w0 : w9.cell? ⟨t_w0, 0, none⟩ = some (.slice a_w0 (meetL L0 L1).length c_w0) := B_w0.out.cell 0
    have hk_x0 : w9.cell? ⟨w4.heap.size, 0, none⟩ = some (.slice a_x0 L0.length c_x0) := B_x0.out.cell 0
    have hk_x1 : w9.cell? ⟨w6.heap.size, 0, none⟩ = some (.slice a_x1 L1.length c_x1) := B_x1.out.cell 0
    have hk_g0 : w9.cell? ⟨w8.heap.size, 0, none⟩ = some (.slice a_g0 (meetL L0 L1).length c_g0) := B_g0.out.cell 0
    rw [H_w9.out] at hk_p0 hk_p1 hk_w0 hk_x0 hk_x1 hk_g0
    go_wp2_with fail
    rw [← H_w9.out]
    refine c.mono ?_
    rintro e w10 ⟨rfl, hb⟩
    clear hk_p0 hk_p1 hk_w0 hk_x0 hk_x1 hk_g0
    clear c
    replace R_w0 := Lib.hid (R_w0.out.below hb)
    replace R_x0 := Lib.hid (R_x0.out.below hb)
    replace R_x1 := Lib.hid (R_x1.out.below hb)
    replace R_g0 := Lib.hid (R_g0.out.below hb)
    replace B_p0 := Lib.hid (B_p0.out.below hb)
    replace B_p1 := Lib.hid (B_p1.out.below hb)
    replace B_w0 := Lib.hid (B_w0.out.below hb)
    replace B_x0 := Lib.hid (B_x0.out.below hb)
    replace B_x1 := Lib.hid (B_x1.out.below hb)
    replace B_g0 := Lib.hid (B_g0.out.below hb)
    have z10 := hb.size
    replace hW := hW.trans (hb.mono hW.size)
    clear hb
    have ctf : ∀ w', (w'.cell? ⟨w4.heap.size, 0, none⟩ = some (.slice a_x0 L0.length c_x0) ∧ w'.cell? ⟨W.heap.size, 0, none⟩ = some (.slice a0 L0.length c0) ∧ Below w10.heap.size w10 w') → Calls Try.prog 32 #[.agg #[.slice a0 L0.length c0]] w' fun e w2 => ∃ v, e = .returned (.agg #[v]) ∧ w2.ownsRow w'.heap.size 3 1 v L0.length (L0.map (Value.int .i64)) ∧ Below w'.heap.size w' w2 := fun w' h => ct_Semigroup L0 a0 c0 w' (HR0.out.below (hW.trans (h.2.2.mono hW.size))) hb0
    have HS := Lib.hid (show w10.drew.cell? ⟨w4.heap.size, 0, none⟩ = some (.slice a_x0 L0.length c_x0) ∧ w10.drew.cell? ⟨W.heap.size, 0, none⟩ = some (.slice a0 L0.length c0) ∧ Below w10.heap.size w10 w10.drew from ⟨B_x0.out.cell 0, B_p0.out.cell 0, (Below.refl _ _).drew⟩)
    have hlx := B_x0.out.lt
    have hlp := B_p0.out.lt
    go_wp2_with fail
    go_region_held3 (fun w' => w'.cell? ⟨w4.heap.size, 0, none⟩ = some (.slice a_x0 L0.length c_x0) ∧ w'.cell? ⟨W.heap.size, 0, none⟩ = some (.slice a0 L0.length c0) ∧ Below w10.heap.size w10 w')
      (first | exact HS.out | assumption | exact held_keep2 hlx hlp (by assumption) (by assumption))
      ((first | (go_at_call 32; (with_reducible refine (ctf _ (by assumption)).mono ?_); rintro e w11 ⟨v, rfl, ho, hb2⟩; obtain ⟨a_t, c_t, rfl, rX⟩ := row_open ho; have ce := ce_Semigroup L0 L0 a_x0 a_t c_x0 c_t w11 (R_x0.out.slv.below ((Below.refl _ _).drew.trans hb2)) rX.slv (by omega) (by omega); rw [decide_eq_true (rfl : L0 = L0)] at ce; clear ho rX)
               | (go_at_call 33; (with_reducible refine ce.mono ?_); rintro e w12 ⟨rfl, hb3⟩)))
    have hb : Below w10.heap.size w10 w12 := ((Below.refl w10.heap.size w10).drew.trans hb2).trans (hb3.mono hb2.size)
    clear ctf HS hlx hlp ce hb2 hb3
    replace R_w0 := Lib.hid (R_w0.out.below hb)
    replace R_x0 := Lib.hid (R_x0.out.below hb)
    replace R_x1 := Lib.hid (R_x1.out.below hb)
    replace R_g0 := Lib.hid (R_g0.out.below hb)
    replace B_p0 := Lib.hid (B_p0.out.below hb)
    replace B_p1 := Lib.hid (B_p1.out.below hb)
    replace B_w0 := Lib.hid (B_w0.out.below hb)
    replace B_x0 := Lib.hid (B_x0.out.below hb)
    replace B_x1 := Lib.hid (B_x1.out.below hb)
    replace B_g0 := Lib.hid (B_g0.out.below hb)
    have z12 := hb.size
    replace hW := hW.trans (hb.mono hW.size)
    clear hb
    have ctf : ∀ w', (w'.cell? ⟨w6.heap.size, 0, none⟩ = some (.slice a_x1 L1.length c_x1) ∧ w'.cell? ⟨W.heap.size + 1, 0, none⟩ = some (.slice a1 L1.length c1) ∧ Below w12.heap.size w12 w') → Calls Try.prog 32 #[.agg #[.slice a1 L1.length c1]] w' fun e w2 => ∃ v, e = .returned (.agg #[v]) ∧ w2.ownsRow w'.heap.size 3 1 v L1.length (L1.map (Value.int .i64)) ∧ Below w'.heap.size w' w2 := fun w' h => ct_Semigroup L1 a1 c1 w' (HR1.out.below (hW.trans (h.2.2.mono hW.size))) hb1
    have HS := Lib.hid (show w12.drew.cell? ⟨w6.heap.size, 0, none⟩ = some (.slice a_x1 L1.length c_x1) ∧ w12.drew.cell? ⟨W.heap.size + 1, 0, none⟩ = some (.slice a1 L1.length c1) ∧ Below w12.heap.size w12 w12.drew from ⟨B_x1.out.cell 0, B_p1.out.cell 0, (Below.refl _ _).drew⟩)
    have hlx := B_x1.out.lt
    have hlp := B_p1.out.lt
    go_wp2_with fail
    go_region_held3 (fun w' => w'.cell? ⟨w6.heap.size, 0, none⟩ = some (.slice a_x1 L1.length c_x1) ∧ w'.cell? ⟨W.heap.size + 1, 0, none⟩ = some (.slice a1 L1.length c1) ∧ Below w12.heap.size w12 w')
      (first | exact HS.out | assumption | exact held_keep2 hlx hlp (by assumption) (by assumption))
      ((first | (go_at_call 32; (with_reducible refine (ctf _ (by assumption)).mono ?_); rintro e w13 ⟨v, rfl, ho, hb2⟩; obtain ⟨a_t, c_t, rfl, rX⟩ := row_open ho; have ce := ce_Semigroup L1 L1 a_x1 a_t c_x1 c_t w13 (R_x1.out.slv.below ((Below.refl _ _).drew.trans hb2)) rX.slv (by omega) (by omega); rw [decide_eq_true (rfl : L1 = L1)] at ce; clear ho rX)
               | (go_at_call 33; (with_reducible refine ce.mono ?_); rintro e w14 ⟨rfl, hb3⟩)))
    have hb : Below w12.heap.size w12 w14 := ((Below.refl w12.heap.size w12).drew.trans hb2).trans (hb3.mono hb2.size)
    clear ctf HS hlx hlp ce hb2 hb3
    replace R_w0 := Lib.hid (R_w0.out.below hb)
    replace R_x0 := Lib.hid (R_x0.out.below hb)
    replace R_x1 := Lib.hid (R_x1.out.below hb)
    replace R_g0 := Lib.hid (R_g0.out.below hb)
    replace B_p0 := Lib.hid (B_p0.out.below hb)
    replace B_p1 := Lib.hid (B_p1.out.below hb)
    replace B_w0 := Lib.hid (B_w0.out.below hb)
    replace B_x0 := Lib.hid (B_x0.out.below hb)
    replace B_x1 := Lib.hid (B_x1.out.below hb)
    replace B_g0 := Lib.hid (B_g0.out.below hb)
    have z14 := hb.size
    replace hW := hW.trans (hb.mono hW.size)
    clear hb
    have rX := R_x0.out
    have c := cm_Semigroup (1) w3.heap.size L0.length _ _ w14 rX.own (by omega) (by omega) (by omega)
    have hk_p0 : w14.cell? ⟨W.heap.size, 0, none⟩ = some (.slice a0 L0.length c0) := B_p0.out.cell 0
    have hk_p1 : w14.cell? ⟨W.heap.size + 1, 0, none⟩ = some (.slice a1 L1.length c1) := B_p1.out.cell 0
    have hk_w0 : w14.cell? ⟨t_w0, 0, none⟩ = some (.slice a_w0 (meetL L0 L1).length c_w0) := B_w0.out.cell 0
    have hk_x0 : w14.cell? ⟨w4.heap.size, 0, none⟩ = some (.slice a_x0 L0.length c_x0) := B_x0.out.cell 0
    have hk_x1 : w14.cell? ⟨w6.heap.size, 0, none⟩ = some (.slice a_x1 L1.length c_x1) := B_x1.out.cell 0
    have hk_g0 : w14.cell? ⟨w8.heap.size, 0, none⟩ = some (.slice a_g0 (meetL L0 L1).length c_g0) := B_g0.out.cell 0
    go_wp2_with fail
    refine c.mono ?_
    rintro e w15 ⟨rfl, ho, hg⟩
    clear hk_p0 hk_p1 hk_w0 hk_x0 hk_x1 hk_g0
    clear c
    replace R_w0 := Lib.hid (R_w0.out.grown hg (fun j hj => by have h1 := rX.blk j hj; have h2 := (rX.own.lt j hj).1; omega))
    replace R_x1 := Lib.hid (R_x1.out.grown hg (fun j hj => by have h1 := rX.blk j hj; have h2 := (rX.own.lt j hj).1; omega))
    replace R_g0 := Lib.hid (R_g0.out.grown hg (fun j hj => by have h1 := rX.blk j hj; have h2 := (rX.own.lt j hj).1; omega))
    replace B_p0 := Lib.hid (B_p0.out.grownRow hg (fun j hj => by have h1 := rX.blk j hj; have h2 := (rX.own.lt j hj).1; omega))
    replace B_p1 := Lib.hid (B_p1.out.grownRow hg (fun j hj => by have h1 := rX.blk j hj; have h2 := (rX.own.lt j hj).1; omega))
    replace B_w0 := Lib.hid (B_w0.out.grownRow hg (fun j hj => by have h1 := rX.blk j hj; have h2 := (rX.own.lt j hj).1; omega))
    replace B_x0 := Lib.hid (B_x0.out.grownRow hg (fun j hj => by have h1 := rX.blk j hj; have h2 := (rX.own.lt j hj).1; omega))
    replace B_x1 := Lib.hid (B_x1.out.grownRow hg (fun j hj => by have h1 := rX.blk j hj; have h2 := (rX.own.lt j hj).1; omega))
    replace B_g0 := Lib.hid (B_g0.out.grownRow hg (fun j hj => by have h1 := rX.blk j hj; have h2 := (rX.own.lt j hj).1; omega))
    have z15 := hg.size
    replace hW := hW.grown hg hW.size (fun j hj => by have h1 := (rX.own.lt j hj).1; omega)
    replace R_x0 := Lib.hid (Row.remade rX ho hg)
    clear rX ho hg
    clear R_x0
    clear B_x0
    have rX := R_x1.out
    have c := cm_Semigroup (1 + L0.length) w5.heap.size L1.length _ _ w15 rX.own (by omega) (by omega) (by omega)
    have hk_p0 : w15.cell? ⟨W.heap.size, 0, none⟩ = some (.slice a0 L0.length c0) := B_p0.out.cell 0
    have hk_p1 : w15.cell? ⟨W.heap.size + 1, 0, none⟩ = some (.slice a1 L1.length c1) := B_p1.out.cell 0
    have hk_w0 : w15.cell? ⟨t_w0, 0, none⟩ = some (.slice a_w0 (meetL L0 L1).length c_w0) := B_w0.out.cell 0
    have hk_x1 : w15.cell? ⟨w6.heap.size, 0, none⟩ = some (.slice a_x1 L1.length c_x1) := B_x1.out.cell 0
    have hk_g0 : w15.cell? ⟨w8.heap.size, 0, none⟩ = some (.slice a_g0 (meetL L0 L1).length c_g0) := B_g0.out.cell 0
    go_wp2_with fail
    refine c.mono ?_
    rintro e w16 ⟨rfl, ho, hg⟩
    clear hk_p0 hk_p1 hk_w0 hk_x1 hk_g0
    clear c
    replace R_w0 := Lib.hid (R_w0.out.grown hg (fun j hj => by have h1 := rX.blk j hj; have h2 := (rX.own.lt j hj).1; omega))
    replace R_g0 := Lib.hid (R_g0.out.grown hg (fun j hj => by have h1 := rX.blk j hj; have h2 := (rX.own.lt j hj).1; omega))
    replace B_p0 := Lib.hid (B_p0.out.grownRow hg (fun j hj => by have h1 := rX.blk j hj; have h2 := (rX.own.lt j hj).1; omega))
    replace B_p1 := Lib.hid (B_p1.out.grownRow hg (fun j hj => by have h1 := rX.blk j hj; have h2 := (rX.own.lt j hj).1; omega))
    replace B_w0 := Lib.hid (B_w0.out.grownRow hg (fun j hj => by have h1 := rX.blk j hj; have h2 := (rX.own.lt j hj).1; omega))
    replace B_x1 := Lib.hid (B_x1.out.grownRow hg (fun j hj => by have h1 := rX.blk j hj; have h2 := (rX.own.lt j hj).1; omega))
    replace B_g0 := Lib.hid (B_g0.out.grownRow hg (fun j hj => by have h1 := rX.blk j hj; have h2 := (rX.own.lt j hj).1; omega))
    have z16 := hg.size
    replace hW := hW.grown hg hW.size (fun j hj => by have h1 := (rX.own.lt j hj).1; omega)
    replace R_x1 := Lib.hid (Row.remade rX ho hg)
    clear rX ho hg
    clear R_x1
    clear B_x1
    have c := ce_Semigroup (meetL L0 L1) (meetL L0 L1) a_g0 a_w0 c_g0 c_w0 w16 R_g0.out.slv R_w0.out.slv (by omega) (by omega)
    rw [decide_eq_true (rfl : (meetL L0 L1) = (meetL L0 L1))] at c
    have hk_p0 : w16.cell? ⟨W.heap.size, 0, none⟩ = some (.slice a0 L0.length c0) := B_p0.out.cell 0
    have hk_p1 : w16.cell? ⟨W.heap.size + 1, 0, none⟩ = some (.slice a1 L1.length c1) := B_p1.out.cell 0
    have hk_w0 : w16.cell? ⟨t_w0, 0, none⟩ = some (.slice a_w0 (meetL L0 L1).length c_w0) := B_w0.out.cell 0
    have hk_g0 : w16.cell? ⟨w8.heap.size, 0, none⟩ = some (.slice a_g0 (meetL L0 L1).length c_g0) := B_g0.out.cell 0
    go_wp2_with fail
    refine c.mono ?_
    rintro e w17 ⟨rfl, hb⟩
    clear hk_p0 hk_p1 hk_w0 hk_g0
    clear c
    replace R_w0 := Lib.hid (R_w0.out.below hb)
    replace R_g0 := Lib.hid (R_g0.out.below hb)
    replace B_p0 := Lib.hid (B_p0.out.below hb)
    replace B_p1 := Lib.hid (B_p1.out.below hb)
    replace B_w0 := Lib.hid (B_w0.out.below hb)
    replace B_g0 := Lib.hid (B_g0.out.below hb)
    have z17 := hb.size
    replace hW := hW.trans (hb.mono hW.size)
    clear hb
    have rX := R_g0.out
    have c := cm_Semigroup (1) w7.heap.size (meetL L0 L1).length _ _ w17 rX.own (by omega) (by omega) (by omega)
    have hk_p0 : w17.cell? ⟨W.heap.size, 0, none⟩ = some (.slice a0 L0.length c0) := B_p0.out.cell 0
    have hk_p1 : w17.cell? ⟨W.heap.size + 1, 0, none⟩ = some (.slice a1 L1.length c1) := B_p1.out.cell 0
    have hk_w0 : w17.cell? ⟨t_w0, 0, none⟩ = some (.slice a_w0 (meetL L0 L1).length c_w0) := B_w0.out.cell 0
    have hk_g0 : w17.cell? ⟨w8.heap.size, 0, none⟩ = some (.slice a_g0 (meetL L0 L1).length c_g0) := B_g0.out.cell 0
    go_wp2_with fail
    refine c.mono ?_
    rintro e w18 ⟨rfl, ho, hg⟩
    clear hk_p0 hk_p1 hk_w0 hk_g0
    clear c
    replace R_w0 := Lib.hid (R_w0.out.grown hg (fun j hj => by have h1 := rX.blk j hj; have h2 := (rX.own.lt j hj).1; omega))
    replace B_p0 := Lib.hid (B_p0.out.grownRow hg (fun j hj => by have h1 := rX.blk j hj; have h2 := (rX.own.lt j hj).1; omega))
    replace B_p1 := Lib.hid (B_p1.out.grownRow hg (fun j hj => by have h1 := rX.blk j hj; have h2 := (rX.own.lt j hj).1; omega))
    replace B_w0 := Lib.hid (B_w0.out.grownRow hg (fun j hj => by have h1 := rX.blk j hj; have h2 := (rX.own.lt j hj).1; omega))
    replace B_g0 := Lib.hid (B_g0.out.grownRow hg (fun j hj => by have h1 := rX.blk j hj; have h2 := (rX.own.lt j hj).1; omega))
    have z18 := hg.size
    replace hW := hW.grown hg hW.size (fun j hj => by have h1 := (rX.own.lt j hj).1; omega)
    replace R_g0 := Lib.hid (Row.remade rX ho hg)
    clear rX ho hg
    have c := ch_Semigroup 1 ((meetL L0 L1).length) c_g0 a_g0 w18 R_g0.out.slv (by omega) (by omega) (by omega)
    have hk_p0 : w18.cell? ⟨W.heap.size, 0, none⟩ = some (.slice a0 L0.length c0) := B_p0.out.cell 0
    have hk_p1 : w18.cell? ⟨W.heap.size + 1, 0, none⟩ = some (.slice a1 L1.length c1) := B_p1.out.cell 0
    have hk_w0 : w18.cell? ⟨t_w0, 0, none⟩ = some (.slice a_w0 (meetL L0 L1).length c_w0) := B_w0.out.cell 0
    have hk_g0 : w18.cell? ⟨w8.heap.size, 0, none⟩ = some (.slice a_g0 (meetL L0 L1).length c_g0) := B_g0.out.cell 0
    go_wp2_with fail
    refine c.mono ?_
    rintro e w19 ⟨rfl, hb⟩
    clear hk_p0 hk_p1 hk_w0 hk_g0
    clear c
    replace R_w0 := Lib.hid (R_w0.out.below hb)
    replace R_g0 := Lib.hid (R_g0.out.below hb)
    replace B_p0 := Lib.hid (B_p0.out.below hb)
    replace B_p1 := Lib.hid (B_p1.out.below hb)
    replace B_w0 := Lib.hid (B_w0.out.below hb)
    replace B_g0 := Lib.hid (B_g0.out.below hb)
    have z19 := hb.size
    replace hW := hW.trans (hb.mono hW.size)
    clear hb
    have ctf0 : ∀ w', (w'.cell? ⟨W.heap.size, 0, none⟩ = some (.slice a0 L0.length c0) ∧ w'.cell? ⟨W.heap.size + 1, 0, none⟩ = some (.slice a1 L1.length c1) ∧ Below w19.heap.size w19 w') → Calls Try.prog 32 #[.agg #[.slice a0 L0.length c0]] w' fun e w2 => ∃ v, e = .returned (.agg #[v]) ∧ w2.ownsRow w'.heap.size 3 1 v L0.length (L0.map (Value.int .i64)) ∧ Below w'.heap.size w' w2 := fun w' h => ct_Semigroup L0 a0 c0 w' (HR0.out.below (hW.trans ((h.2.2).mono hW.size))) hb0
    have ctf1 : ∀ w', (w'.cell? ⟨W.heap.size, 0, none⟩ = some (.slice a0 L0.length c0) ∧ w'.cell? ⟨W.heap.size + 1, 0, none⟩ = some (.slice a1 L1.length c1) ∧ Below w19.heap.size w19 w') → Calls Try.prog 32 #[.agg #[.slice a1 L1.length c1]] w' fun e w2 => ∃ v, e = .returned (.agg #[v]) ∧ w2.ownsRow w'.heap.size 3 1 v L1.length (L1.map (Value.int .i64)) ∧ Below w'.heap.size w' w2 := fun w' h => ct_Semigroup L1 a1 c1 w' (HR1.out.below (hW.trans ((h.2.2).mono hW.size))) hb1
    have hlp0 := B_p0.out.lt
    have hlp1 := B_p1.out.lt
    have HKr : Hid (∀ w', Below w19.heap.size w19 w' → (w'.cell? ⟨W.heap.size, 0, none⟩ = some (.slice a0 L0.length c0) ∧ w'.cell? ⟨W.heap.size + 1, 0, none⟩ = some (.slice a1 L1.length c1) ∧ Below w19.heap.size w19 w')) := Lib.hid fun w' h => ⟨(h.cell (p := ⟨W.heap.size, 0, none⟩) hlp0).trans (B_p0.out.cell 0), (h.cell (p := ⟨W.heap.size + 1, 0, none⟩) hlp1).trans (B_p1.out.cell 0), h⟩
    have hS0 := HKr.out _ (Below.refl w19.heap.size w19).drew
    go_wp2_with fail
    refine wp_region_held_drew (S := fun w' => w'.cell? ⟨W.heap.size, 0, none⟩ = some (.slice a0 L0.length c0) ∧ w'.cell? ⟨W.heap.size + 1, 0, none⟩ = some (.slice a1 L1.length c1) ∧ Below w19.heap.size w19 w') (by kernel_rfl) hS0 (fun hHeld => ?_)
    generalize w19.drew = wd at *
    refine held_take 0 _ _ rfl (by kernel_rfl) (by kernel_rfl) (by kernel_rfl) (fun _ _ _ h => h) (by rfl) hHeld (fun w hSw => by (try dsimp only at hSw); go_simp; try with_reducible rfl) ?_
    (try simp only [Act.put, List.setIfInBounds_toArray, List.set_cons_zero, List.set_cons_succ, List.getElem_toArray, List.getElem_cons_zero])
    refine held_take 2 _ _ rfl (by kernel_rfl) (by kernel_rfl) (by kernel_rfl) (fun _ _ _ h => h) (by rfl) hHeld (fun w hSw => by (try dsimp only at hSw); go_simp; try with_reducible rfl) ?_
    (try simp only [Act.put, List.setIfInBounds_toArray, List.set_cons_zero, List.set_cons_succ, List.getElem_toArray, List.getElem_cons_succ, List.getElem_cons_zero])
    refine wpAnyH_ready (rs := [1, 8]) (by kernel_rfl) (by simp) ?_
    refine AllReadyH.cons rfl (fun K hK => ?_) (AllReadyH.cons rfl (fun K hK => ?_) AllReadyH.nil)
    · rw [if_pos (by rfl)]
      go_wp2_with (first | (go_at_call 32; (with_reducible refine (ctf0 _ (by assumption)).mono ?_); rintro e wx20 ⟨v, rfl, ho, hbt0⟩; obtain ⟨a_r0, c_r0, rfl, rX0⟩ := row_open ho; clear ho; try (replace hT := hT.below hbt0)))
      refine hK.out _ _ (HKr.out _ ((hHeld).2.2.trans (hbt0.mono (hHeld).2.2.size))) (fun hHeld1 => ?_)
      clear hK K
      (try simp only [Act.put, List.setIfInBounds_toArray, List.set_cons_zero, List.set_cons_succ, List.getElem_toArray, List.getElem_cons_succ, List.getElem_cons_zero])
      refine wpAnyH_ready (rs := [3, 8]) (by kernel_rfl) (by simp) ?_
      refine AllReadyH.cons rfl (fun K hK => ?_) (AllReadyH.cons rfl (fun K hK => ?_) AllReadyH.nil)
      · rw [if_pos (by rfl)]
        go_wp2_with (first | (go_at_call 32; (with_reducible refine (ctf1 _ (by assumption)).mono ?_); rintro e wy20 ⟨v, rfl, ho, hbt1⟩; obtain ⟨a_r1, c_r1, rfl, rX1⟩ := row_open ho; clear ho; replace rX0 := rX0.below hbt1; try (replace hT := hT.below hbt1)))
        refine hK.out _ _ (HKr.out _ ((hHeld1).2.2.trans (hbt1.mono (hHeld1).2.2.size))) (fun hHeld2 => ?_)
        clear hK K
        (try simp only [Act.put, List.setIfInBounds_toArray, List.set_cons_zero, List.set_cons_succ, List.getElem_toArray, List.getElem_cons_succ, List.getElem_cons_zero])
        refine wpAnyH_ready (rs := [4, 8]) (by kernel_rfl) (by simp) ?_
        refine AllReadyH.cons rfl (fun K hK => ?_) (AllReadyH.cons rfl (fun K hK => ?_) AllReadyH.nil)
        · rw [if_pos (by rfl)]
          go_wp2_with (first | (go_at_call 22; (with_reducible refine (ci_MeetOf L0 a_r0 c_r0 L1 a_r1 c_r1 _ rX0.slw rX1.slw hb0 hb1).mono ?_); rintro e wf20 ⟨v, rfl, ho, hb6⟩; obtain ⟨lo_h0, hi_h0, a_h0, c_h0, rfl, hlo1, hlo2, hhi, rX⟩ := row_named (hHeld2).2.2.size ho; clear ho; try (have hap : t_h0 < lo_h0 ∨ hi_h0 ≤ t_h0 := .inl (by have := hT.lt; omega); replace hT := hT.below hb6)))
          refine hK.out _ _ (HKr.out _ ((hHeld2).2.2.trans (hb6.mono (hHeld2).2.2.size))) (fun hHeld3 => ?_)
          clear hK K
          (try simp only [Act.put, List.setIfInBounds_toArray, List.set_cons_zero, List.set_cons_succ, List.getElem_toArray, List.getElem_cons_succ, List.getElem_cons_zero])
          refine held_take 5 _ _ rfl (by kernel_rfl) (by kernel_rfl) (by kernel_rfl) (fun _ _ _ h => h) (by rfl) hHeld3 (fun w hSw => by (try dsimp only at hSw); go_simp; try with_reducible rfl) ?_
          (try simp only [Act.put, List.setIfInBounds_toArray, List.set_cons_zero, List.set_cons_succ, List.getElem_toArray, List.getElem_cons_succ, List.getElem_cons_zero])
          refine held_take 6 _ _ rfl (by kernel_rfl) (by kernel_rfl) (by kernel_rfl) (fun _ _ _ h => h) (by rfl) hHeld3 (fun w hSw => by (try dsimp only at hSw); go_simp; try with_reducible rfl) ?_
          (try simp only [Act.put, List.setIfInBounds_toArray, List.set_cons_zero, List.set_cons_succ, List.getElem_toArray, List.getElem_cons_succ, List.getElem_cons_zero])
          refine held_take 7 _ _ rfl (by kernel_rfl) (by kernel_rfl) (by kernel_rfl) (fun _ _ _ h => h) (by rfl) hHeld3 (fun w hSw => by (try dsimp only at hSw); go_simp; try with_reducible rfl) ?_
          (try simp only [Act.put, List.setIfInBounds_toArray, List.set_cons_zero, List.set_cons_succ, List.getElem_toArray, List.getElem_cons_succ, List.getElem_cons_zero])
          refine wpAnyH_ready (rs := [8]) (by kernel_rfl) (by simp) ?_
          refine AllReadyH.cons rfl (fun K hK => ?_) AllReadyH.nil
          rw [if_pos (by rfl)]
          try replace rX0 := rX0.below (box_below _ (.cells [Value.slice none 0 0].toArray 26))
          try replace rX1 := rX1.below (box_below _ (.cells [Value.slice none 0 0].toArray 26))
          obtain ⟨t_h0, et, hT, htV⟩ := newSgNamed (hHeld3).2.2
          try (have hap : t_h0 < lo_h0 ∨ hi_h0 ≤ t_h0 := .inr (by have := rX.hi_le; omega))
          try replace rX := rX.below (box_below _ (.cells [Value.slice none 0 0].toArray 26))
          refine wp_alloc_arr 26 [Value.slice none 0 0] zeroSg (by rfl) ?_
          rw [← et]
          clear et
          refine hK.out _ _ (HKr.out _ ((hHeld3).2.2.alloc (hHeld3).2.2.size _)) (fun hHeld4 => ?_)
          clear hK K
          (try simp only [Act.put, List.setIfInBounds_toArray, List.set_cons_zero, List.set_cons_succ, List.getElem_toArray, List.getElem_cons_succ, List.getElem_cons_zero])
          refine wpAnyH_ready (rs := [9]) (by kernel_rfl) (by simp) ?_
          refine AllReadyH.cons rfl (fun K hK => ?_) AllReadyH.nil
          rw [if_pos (by rfl)]
          refine wp_store_arr 26 (.tmp 15) (.tmp 100) _ [Value.slice none 0 0] [.slice a_h0 (meetL L0 L1).length c_h0] (by rfl) (by rfl) (by rfl) hT rfl sizeSg (by simp [Value.oneCell']) ?_
          intro w20 hN7 hg7
          refine hK.out _ _ (HKr.out _ ((hHeld4).2.2.grown hg7 (hHeld4).2.2.size (fun j hj => by cases hj; exact htV))) (fun hHeld5 => ?_)
          clear hK K
          (try simp only [Act.put, List.getElem_toArray, List.getElem_cons_succ, List.getElem_cons_zero])
          refine held_take 10 _ _ rfl (by kernel_rfl) (by kernel_rfl) (by kernel_rfl) (fun _ _ _ h => h) (by rfl) hHeld5 (fun w hSw => by (try dsimp only at hSw); go_simp; try with_reducible rfl) ?_
          (try simp only [Act.put, List.setIfInBounds_toArray, List.set_cons_zero, List.set_cons_succ, List.getElem_toArray, List.getElem_cons_succ, List.getElem_cons_zero])
          refine wpAnyH_done (by kernel_rfl) ?_ _
          have hb := (hHeld5).2.2
          have R_h0 := Lib.hid (rX.grown hg7 (fun j hj => by cases hj; exact hap))
          have B_h0 := Lib.hid hN7
          have zt_h0 := hN7.lt
          have zh_h0 := R_h0.out.hi_le
          have zl_h0 : lo_h0 ≤ hi_h0 := by have := hb6.size; omega
          replace R_w0 := Lib.hid (R_w0.out.below hb)
          replace R_g0 := Lib.hid (R_g0.out.below hb)
          replace B_p0 := Lib.hid (B_p0.out.below hb)
          replace B_p1 := Lib.hid (B_p1.out.below hb)
          replace B_w0 := Lib.hid (B_w0.out.below hb)
          replace B_g0 := Lib.hid (B_g0.out.below hb)
          have z20 := hb.size
          replace hW := hW.trans (hb.mono hW.size)
          clear hb hlo2 hhi hN7 hg7 rX rX0 rX1 hT hb6 hbt0 hbt1 hS0 HKr ctf0 hlp0 ctf1 hlp1
          have c := ce_Semigroup (meetL L0 L1) (meetL L0 L1) a_h0 a_w0 c_h0 c_w0 w20 R_h0.out.slv R_w0.out.slv (by omega) (by omega)
          rw [decide_eq_true (rfl : (meetL L0 L1) = (meetL L0 L1))] at c
          have hk_p0 : w20.cell? ⟨W.heap.size, 0, none⟩ = some (.slice a0 L0.length c0) := B_p0.out.cell 0
          have hk_p1 : w20.cell? ⟨W.heap.size + 1, 0, none⟩ = some (.slice a1 L1.length c1) := B_p1.out.cell 0
          have hk_w0 : w20.cell? ⟨t_w0, 0, none⟩ = some (.slice a_w0 (meetL L0 L1).length c_w0) := B_w0.out.cell 0
          have hk_g0 : w20.cell? ⟨w8.heap.size, 0, none⟩ = some (.slice a_g0 (meetL L0 L1).length c_g0) := B_g0.out.cell 0
          have hk_h0 : w20.cell? ⟨t_h0, 0, none⟩ = some (.slice a_h0 (meetL L0 L1).length c_h0) := B_h0.out.cell 0
          go_wp2_with fail
          refine c.mono ?_
          rintro e w21 ⟨rfl, hb⟩
          clear hk_p0 hk_p1 hk_w0 hk_g0 hk_h0
          clear c
          replace R_w0 := Lib.hid (R_w0.out.below hb)
          replace R_g0 := Lib.hid (R_g0.out.below hb)
          replace R_h0 := Lib.hid (R_h0.out.below hb)
          replace B_p0 := Lib.hid (B_p0.out.below hb)
          replace B_p1 := Lib.hid (B_p1.out.below hb)
          replace B_w0 := Lib.hid (B_w0.out.below hb)
          replace B_g0 := Lib.hid (B_g0.out.below hb)
          replace B_h0 := Lib.hid (B_h0.out.below hb)
          have z21 := hb.size
          replace hW := hW.trans (hb.mono hW.size)
          clear hb
          clear R_h0
          clear B_h0
          have c := ch_Semigroup 1 ((meetL L0 L1).length) c_g0 a_g0 w21 R_g0.out.slv (by omega) (by omega) (by omega)
          have hk_p0 : w21.cell? ⟨W.heap.size, 0, none⟩ = some (.slice a0 L0.length c0) := B_p0.out.cell 0
          have hk_p1 : w21.cell? ⟨W.heap.size + 1, 0, none⟩ = some (.slice a1 L1.length c1) := B_p1.out.cell 0
          have hk_w0 : w21.cell? ⟨t_w0, 0, none⟩ = some (.slice a_w0 (meetL L0 L1).length c_w0) := B_w0.out.cell 0
          have hk_g0 : w21.cell? ⟨w8.heap.size, 0, none⟩ = some (.slice a_g0 (meetL L0 L1).length c_g0) := B_g0.out.cell 0
          go_wp2_with fail
          refine c.mono ?_
          rintro e w22 ⟨rfl, hb⟩
          clear hk_p0 hk_p1 hk_w0 hk_g0
          clear c
          replace R_w0 := Lib.hid (R_w0.out.below hb)
          replace R_g0 := Lib.hid (R_g0.out.below hb)
          replace B_p0 := Lib.hid (B_p0.out.below hb)
          replace B_p1 := Lib.hid (B_p1.out.below hb)
          replace B_w0 := Lib.hid (B_w0.out.below hb)
          replace B_g0 := Lib.hid (B_g0.out.below hb)
          have z22 := hb.size
          replace hW := hW.trans (hb.mono hW.size)
          clear hb
          have hk_p0 : w22.cell? ⟨W.heap.size, 0, none⟩ = some (.slice a0 L0.length c0) := B_p0.out.cell 0
          have hk_p1 : w22.cell? ⟨W.heap.size + 1, 0, none⟩ = some (.slice a1 L1.length c1) := B_p1.out.cell 0
          have hk_w0 : w22.cell? ⟨t_w0, 0, none⟩ = some (.slice a_w0 (meetL L0 L1).length c_w0) := B_w0.out.cell 0
          have hk_g0 : w22.cell? ⟨w8.heap.size, 0, none⟩ = some (.slice a_g0 (meetL L0 L1).length c_g0) := B_g0.out.cell 0
          go_wp2_with fail
          go_ret
          exact ⟨rfl, H00.out.trans (hW.mono H00.out.size)⟩
        · rw [if_pos (by rfl)]
          try replace rX0 := rX0.below (box_below _ (.cells [Value.slice none 0 0].toArray 26))
          try replace rX1 := rX1.below (box_below _ (.cells [Value.slice none 0 0].toArray 26))
          obtain ⟨t_h0, et, hT, htV⟩ := newSgNamed (hHeld2).2.2
          try (have hap : t_h0 < lo_h0 ∨ hi_h0 ≤ t_h0 := .inr (by have := rX.hi_le; omega))
          try replace rX := rX.below (box_below _ (.cells [Value.slice none 0 0].toArray 26))
          refine wp_alloc_arr 26 [Value.slice none 0 0] zeroSg (by rfl) ?_
          rw [← et]
          clear et
          refine hK.out _ _ (HKr.out _ ((hHeld2).2.2.alloc (hHeld2).2.2.size _)) (fun hHeld3 => ?_)
          clear hK K
          (try simp only [Act.put, List.setIfInBounds_toArray, List.set_cons_zero, List.set_cons_succ, List.getElem_toArray, List.getElem_cons_succ, List.getElem_cons_zero])
          refine wpAnyH_ready (rs := [4]) (by kernel_rfl) (by simp) ?_
          refine AllReadyH.cons rfl (fun K hK => ?_) AllReadyH.nil
          rw [if_pos (by rfl)]
          go_wp2_with (first | (go_at_call 22; (with_reducible refine (ci_MeetOf L0 a_r0 c_r0 L1 a_r1 c_r1 _ rX0.slw rX1.slw hb0 hb1).mono ?_); rintro e wf20 ⟨v, rfl, ho, hb6⟩; obtain ⟨lo_h0, hi_h0, a_h0, c_h0, rfl, hlo1, hlo2, hhi, rX⟩ := row_named (hHeld3).2.2.size ho; clear ho; try (have hap : t_h0 < lo_h0 ∨ hi_h0 ≤ t_h0 := .inl (by have := hT.lt; omega); replace hT := hT.below hb6)))
          refine hK.out _ _ (HKr.out _ ((hHeld3).2.2.trans (hb6.mono (hHeld3).2.2.size))) (fun hHeld4 => ?_)
          clear hK K
          (try simp only [Act.put, List.setIfInBounds_toArray, List.set_cons_zero, List.set_cons_succ, List.getElem_toArray, List.getElem_cons_succ, List.getElem_cons_zero])
          refine held_take 5 _ _ rfl (by kernel_rfl) (by kernel_rfl) (by kernel_rfl) (fun _ _ _ h => h) (by rfl) hHeld4 (fun w hSw => by (try dsimp only at hSw); go_simp; try with_reducible rfl) ?_
          (try simp only [Act.put, List.setIfInBounds_toArray, List.set_cons_zero, List.set_cons_succ, List.getElem_toArray, List.getElem_cons_succ, List.getElem_cons_zero])
          refine held_take 6 _ _ rfl (by kernel_rfl) (by kernel_rfl) (by kernel_rfl) (fun _ _ _ h => h) (by rfl) hHeld4 (fun w hSw => by (try dsimp only at hSw); go_simp; try with_reducible rfl) ?_
          (try simp only [Act.put, List.setIfInBounds_toArray, List.set_cons_zero, List.set_cons_succ, List.getElem_toArray, List.getElem_cons_succ, List.getElem_cons_zero])
          refine held_take 7 _ _ rfl (by kernel_rfl) (by kernel_rfl) (by kernel_rfl) (fun _ _ _ h => h) (by rfl) hHeld4 (fun w hSw => by (try dsimp only at hSw); go_simp; try with_reducible rfl) ?_
          (try simp only [Act.put, List.setIfInBounds_toArray, List.set_cons_zero, List.set_cons_succ, List.getElem_toArray, List.getElem_cons_succ, List.getElem_cons_zero])
          refine wpAnyH_ready (rs := [9]) (by kernel_rfl) (by simp) ?_
          refine AllReadyH.cons rfl (fun K hK => ?_) AllReadyH.nil
          rw [if_pos (by rfl)]
          refine wp_store_arr 26 (.tmp 15) (.tmp 100) _ [Value.slice none 0 0] [.slice a_h0 (meetL L0 L1).length c_h0] (by rfl) (by rfl) (by rfl) hT rfl sizeSg (by simp [Value.oneCell']) ?_
          intro w20 hN7 hg7
          refine hK.out _ _ (HKr.out _ ((hHeld4).2.2.grown hg7 (hHeld4).2.2.size (fun j hj => by cases hj; exact htV))) (fun hHeld5 => ?_)
          clear hK K
          (try simp only [Act.put, List.getElem_toArray, List.getElem_cons_succ, List.getElem_cons_zero])
          refine held_take 10 _ _ rfl (by kernel_rfl) (by kernel_rfl) (by kernel_rfl) (fun _ _ _ h => h) (by rfl) hHeld5 (fun w hSw => by (try dsimp only at hSw); go_simp; try with_reducible rfl) ?_
          (try simp only [Act.put, List.setIfInBounds_toArray, List.set_cons_zero, List.set_cons_succ, List.getElem_toArray, List.getElem_cons_succ, List.getElem_cons_zero])
          refine wpAnyH_done (by kernel_rfl) ?_ _
          have hb := (hHeld5).2.2
          have R_h0 := Lib.hid (rX.grown hg7 (fun j hj => by cases hj; exact hap))
          have B_h0 := Lib.hid hN7
          have zt_h0 := hN7.lt
          have zh_h0 := R_h0.out.hi_le
          have zl_h0 : lo_h0 ≤ hi_h0 := by have := hb6.size; omega
          replace R_w0 := Lib.hid (R_w0.out.below hb)
          replace R_g0 := Lib.hid (R_g0.out.below hb)
          replace B_p0 := Lib.hid (B_p0.out.below hb)
          replace B_p1 := Lib.hid (B_p1.out.below hb)
          replace B_w0 := Lib.hid (B_w0.out.below hb)
          replace B_g0 := Lib.hid (B_g0.out.below hb)
          have z20 := hb.size
          replace hW := hW.trans (hb.mono hW.size)
          clear hb hlo2 hhi hN7 hg7 rX rX0 rX1 hT hb6 hbt0 hbt1 hS0 HKr ctf0 hlp0 ctf1 hlp1
          have c := ce_Semigroup (meetL L0 L1) (meetL L0 L1) a_h0 a_w0 c_h0 c_w0 w20 R_h0.out.slv R_w0.out.slv (by omega) (by omega)
          rw [decide_eq_true (rfl : (meetL L0 L1) = (meetL L0 L1))] at c
          have hk_p0 : w20.cell? ⟨W.heap.size, 0, none⟩ = some (.slice a0 L0.length c0) := B_p0.out.cell 0
          have hk_p1 : w20.cell? ⟨W.heap.size + 1, 0, none⟩ = some (.slice a1 L1.length c1) := B_p1.out.cell 0
          have hk_w0 : w20.cell? ⟨t_w0, 0, none⟩ = some (.slice a_w0 (meetL L0 L1).length c_w0) := B_w0.out.cell 0
          have hk_g0 : w20.cell? ⟨w8.heap.size, 0, none⟩ = some (.slice a_g0 (meetL L0 L1).length c_g0) := B_g0.out.cell 0
          have hk_h0 : w20.cell? ⟨t_h0, 0, none⟩ = some (.slice a_h0 (meetL L0 L1).length c_h0) := B_h0.out.cell 0
          go_wp2_with fail
          refine c.mono ?_
          rintro e w21 ⟨rfl, hb⟩
          clear hk_p0 hk_p1 hk_w0 hk_g0 hk_h0
          clear c
          replace R_w0 := Lib.hid (R_w0.out.below hb)
          replace R_g0 := Lib.hid (R_g0.out.below hb)
          replace R_h0 := Lib.hid (R_h0.out.below hb)
          replace B_p0 := Lib.hid (B_p0.out.below hb)
          replace B_p1 := Lib.hid (B_p1.out.below hb)
          replace B_w0 := Lib.hid (B_w0.out.below hb)
          replace B_g0 := Lib.hid (B_g0.out.below hb)
          replace B_h0 := Lib.hid (B_h0.out.below hb)
          have z21 := hb.size
          replace hW := hW.trans (hb.mono hW.size)
          clear hb
          clear R_h0
          clear B_h0
          have c := ch_Semigroup 1 ((meetL L0 L1).length) c_g0 a_g0 w21 R_g0.out.slv (by omega) (by omega) (by omega)
          have hk_p0 : w21.cell? ⟨W.heap.size, 0, none⟩ = some (.slice a0 L0.length c0) := B_p0.out.cell 0
          have hk_p1 : w21.cell? ⟨W.heap.size + 1, 0, none⟩ = some (.slice a1 L1.length c1) := B_p1.out.cell 0
          have hk_w0 : w21.cell? ⟨t_w0, 0, none⟩ = some (.slice a_w0 (meetL L0 L1).length c_w0) := B_w0.out.cell 0
          have hk_g0 : w21.cell? ⟨w8.heap.size, 0, none⟩ = some (.slice a_g0 (meetL L0 L1).length c_g0) := B_g0.out.cell 0
          go_wp2_with fail
          refine c.mono ?_
          rintro e w22 ⟨rfl, hb⟩
          clear hk_p0 hk_p1 hk_w0 hk_g0
          clear c
          replace R_w0 := Lib.hid (R_w0.out.below hb)
          replace R_g0 := Lib.hid (R_g0.out.below hb)
          replace B_p0 := Lib.hid (B_p0.out.below hb)
          replace B_p1 := Lib.hid (B_p1.out.below hb)
          replace B_w0 := Lib.hid (B_w0.out.below hb)
          replace B_g0 := Lib.hid (B_g0.out.below hb)
          have z22 := hb.size
          replace hW := hW.trans (hb.mono hW.size)
          clear hb
          have hk_p0 : w22.cell? ⟨W.heap.size, 0, none⟩ = some (.slice a0 L0.length c0) := B_p0.out.cell 0
          have hk_p1 : w22.cell? ⟨W.heap.size + 1, 0, none⟩ = some (.slice a1 L1.length c1) := B_p1.out.cell 0
          have hk_w0 : w22.cell? ⟨t_w0, 0, none⟩ = some (.slice a_w0 (meetL L0 L1).length c_w0) := B_w0.out.cell 0
          have hk_g0 : w22.cell? ⟨w8.heap.size, 0, none⟩ = some (.slice a_g0 (meetL L0 L1).length c_g0) := B_g0.out.cell 0
          go_wp2_with fail
          go_ret
          exact ⟨rfl, H00.out.trans (hW.mono H00.out.size)⟩
      · rw [if_pos (by rfl)]
        try replace rX0 := rX0.below (box_below _ (.cells [Value.slice none 0 0].toArray 26))
        try replace rX1 := rX1.below (box_below _ (.cells [Value.slice none 0 0].toArray 26))
        obtain ⟨t_h0, et, hT, htV⟩ := newSgNamed (hHeld1).2.2
        try (have hap : t_h0 < lo_h0 ∨ hi_h0 ≤ t_h0 := .inr (by have := rX.hi_le; omega))
        try replace rX := rX.below (box_below _ (.cells [Value.slice none 0 0].toArray 26))
        refine wp_alloc_arr 26 [Value.slice none 0 0] zeroSg (by rfl) ?_
        rw [← et]
        clear et
        refine hK.out _ _ (HKr.out _ ((hHeld1).2.2.alloc (hHeld1).2.2.size _)) (fun hHeld2 => ?_)
        clear hK K
        (try simp only [Act.put, List.setIfInBounds_toArray, List.set_cons_zero, List.set_cons_succ, List.getElem_toArray, List.getElem_cons_succ, List.getElem_cons_zero])
        refine wpAnyH_ready (rs := [3]) (by kernel_rfl) (by simp) ?_
        refine AllReadyH.cons rfl (fun K hK => ?_) AllReadyH.nil
        rw [if_pos (by rfl)]
        go_wp2_with (first | (go_at_call 32; (with_reducible refine (ctf1 _ (by assumption)).mono ?_); rintro e wy20 ⟨v, rfl, ho, hbt1⟩; obtain ⟨a_r1, c_r1, rfl, rX1⟩ := row_open ho; clear ho; replace rX0 := rX0.below hbt1; try (replace hT := hT.below hbt1)))
        refine hK.out _ _ (HKr.out _ ((hHeld2).2.2.trans (hbt1.mono (hHeld2).2.2.size))) (fun hHeld3 => ?_)
        clear hK K
        (try simp only [Act.put, List.setIfInBounds_toArray, List.set_cons_zero, List.set_cons_succ, List.getElem_toArray, List.getElem_cons_succ, List.getElem_cons_zero])
        refine wpAnyH_ready (rs := [4]) (by kernel_rfl) (by simp) ?_
        refine AllReadyH.cons rfl (fun K hK => ?_) AllReadyH.nil
        rw [if_pos (by rfl)]
        go_wp2_with (first | (go_at_call 22; (with_reducible refine (ci_MeetOf L0 a_r0 c_r0 L1 a_r1 c_r1 _ rX0.slw rX1.slw hb0 hb1).mono ?_); rintro e wf20 ⟨v, rfl, ho, hb6⟩; obtain ⟨lo_h0, hi_h0, a_h0, c_h0, rfl, hlo1, hlo2, hhi, rX⟩ := row_named (hHeld3).2.2.size ho; clear ho; try (have hap : t_h0 < lo_h0 ∨ hi_h0 ≤ t_h0 := .inl (by have := hT.lt; omega); replace hT := hT.below hb6)))
        refine hK.out _ _ (HKr.out _ ((hHeld3).2.2.trans (hb6.mono (hHeld3).2.2.size))) (fun hHeld4 => ?_)
        clear hK K
        (try simp only [Act.put, List.setIfInBounds_toArray, List.set_cons_zero, List.set_cons_succ, List.getElem_toArray, List.getElem_cons_succ, List.getElem_cons_zero])
        refine held_take 5 _ _ rfl (by kernel_rfl) (by kernel_rfl) (by kernel_rfl) (fun _ _ _ h => h) (by rfl) hHeld4 (fun w hSw => by (try dsimp only at hSw); go_simp; try with_reducible rfl) ?_
        (try simp only [Act.put, List.setIfInBounds_toArray, List.set_cons_zero, List.set_cons_succ, List.getElem_toArray, List.getElem_cons_succ, List.getElem_cons_zero])
        refine held_take 6 _ _ rfl (by kernel_rfl) (by kernel_rfl) (by kernel_rfl) (fun _ _ _ h => h) (by rfl) hHeld4 (fun w hSw => by (try dsimp only at hSw); go_simp; try with_reducible rfl) ?_
        (try simp only [Act.put, List.setIfInBounds_toArray, List.set_cons_zero, List.set_cons_succ, List.getElem_toArray, List.getElem_cons_succ, List.getElem_cons_zero])
        refine held_take 7 _ _ rfl (by kernel_rfl) (by kernel_rfl) (by kernel_rfl) (fun _ _ _ h => h) (by rfl) hHeld4 (fun w hSw => by (try dsimp only at hSw); go_simp; try with_reducible rfl) ?_
        (try simp only [Act.put, List.setIfInBounds_toArray, List.set_cons_zero, List.set_cons_succ, List.getElem_toArray, List.getElem_cons_succ, List.getElem_cons_zero])
        refine wpAnyH_ready (rs := [9]) (by kernel_rfl) (by simp) ?_
        refine AllReadyH.cons rfl (fun K hK => ?_) AllReadyH.nil
        rw [if_pos (by rfl)]
        refine wp_store_arr 26 (.tmp 15) (.tmp 100) _ [Value.slice none 0 0] [.slice a_h0 (meetL L0 L1).length c_h0] (by rfl) (by rfl) (by rfl) hT rfl sizeSg (by simp [Value.oneCell']) ?_
        intro w20 hN7 hg7
        refine hK.out _ _ (HKr.out _ ((hHeld4).2.2.grown hg7 (hHeld4).2.2.size (fun j hj => by cases hj; exact htV))) (fun hHeld5 => ?_)
        clear hK K
        (try simp only [Act.put, List.getElem_toArray, List.getElem_cons_succ, List.getElem_cons_zero])
        refine held_take 10 _ _ rfl (by kernel_rfl) (by kernel_rfl) (by kernel_rfl) (fun _ _ _ h => h) (by rfl) hHeld5 (fun w hSw => by (try dsimp only at hSw); go_simp; try with_reducible rfl) ?_
        (try simp only [Act.put, List.setIfInBounds_toArray, List.set_cons_zero, List.set_cons_succ, List.getElem_toArray, List.getElem_cons_succ, List.getElem_cons_zero])
        refine wpAnyH_done (by kernel_rfl) ?_ _
        have hb := (hHeld5).2.2
        have R_h0 := Lib.hid (rX.grown hg7 (fun j hj => by cases hj; exact hap))
        have B_h0 := Lib.hid hN7
        have zt_h0 := hN7.lt
        have zh_h0 := R_h0.out.hi_le
        have zl_h0 : lo_h0 ≤ hi_h0 := by have := hb6.size; omega
        replace R_w0 := Lib.hid (R_w0.out.below hb)
        replace R_g0 := Lib.hid (R_g0.out.below hb)
        replace B_p0 := Lib.hid (B_p0.out.below hb)
        replace B_p1 := Lib.hid (B_p1.out.below hb)
        replace B_w0 := Lib.hid (B_w0.out.below hb)
        replace B_g0 := Lib.hid (B_g0.out.below hb)
        have z20 := hb.size
        replace hW := hW.trans (hb.mono hW.size)
        clear hb hlo2 hhi hN7 hg7 rX rX0 rX1 hT hb6 hbt0 hbt1 hS0 HKr ctf0 hlp0 ctf1 hlp1
        have c := ce_Semigroup (meetL L0 L1) (meetL L0 L1) a_h0 a_w0 c_h0 c_w0 w20 R_h0.out.slv R_w0.out.slv (by omega) (by omega)
        rw [decide_eq_true (rfl : (meetL L0 L1) = (meetL L0 L1))] at c
        have hk_p0 : w20.cell? ⟨W.heap.size, 0, none⟩ = some (.slice a0 L0.length c0) := B_p0.out.cell 0
        have hk_p1 : w20.cell? ⟨W.heap.size + 1, 0, none⟩ = some (.slice a1 L1.length c1) := B_p1.out.cell 0
        have hk_w0 : w20.cell? ⟨t_w0, 0, none⟩ = some (.slice a_w0 (meetL L0 L1).length c_w0) := B_w0.out.cell 0
        have hk_g0 : w20.cell? ⟨w8.heap.size, 0, none⟩ = some (.slice a_g0 (meetL L0 L1).length c_g0) := B_g0.out.cell 0
        have hk_h0 : w20.cell? ⟨t_h0, 0, none⟩ = some (.slice a_h0 (meetL L0 L1).length c_h0) := B_h0.out.cell 0
        go_wp2_with fail
        refine c.mono ?_
        rintro e w21 ⟨rfl, hb⟩
        clear hk_p0 hk_p1 hk_w0 hk_g0 hk_h0
        clear c
        replace R_w0 := Lib.hid (R_w0.out.below hb)
        replace R_g0 := Lib.hid (R_g0.out.below hb)
        replace R_h0 := Lib.hid (R_h0.out.below hb)
        replace B_p0 := Lib.hid (B_p0.out.below hb)
        replace B_p1 := Lib.hid (B_p1.out.below hb)
        replace B_w0 := Lib.hid (B_w0.out.below hb)
        replace B_g0 := Lib.hid (B_g0.out.below hb)
        replace B_h0 := Lib.hid (B_h0.out.below hb)
        have z21 := hb.size
        replace hW := hW.trans (hb.mono hW.size)
        clear hb
        clear R_h0
        clear B_h0
        have c := ch_Semigroup 1 ((meetL L0 L1).length) c_g0 a_g0 w21 R_g0.out.slv (by omega) (by omega) (by omega)
        have hk_p0 : w21.cell? ⟨W.heap.size, 0, none⟩ = some (.slice a0 L0.length c0) := B_p0.out.cell 0
        have hk_p1 : w21.cell? ⟨W.heap.size + 1, 0, none⟩ = some (.slice a1 L1.length c1) := B_p1.out.cell 0
        have hk_w0 : w21.cell? ⟨t_w0, 0, none⟩ = some (.slice a_w0 (meetL L0 L1).length c_w0) := B_w0.out.cell 0
        have hk_g0 : w21.cell? ⟨w8.heap.size, 0, none⟩ = some (.slice a_g0 (meetL L0 L1).length c_g0) := B_g0.out.cell 0
        go_wp2_with fail
        refine c.mono ?_
        rintro e w22 ⟨rfl, hb⟩
        clear hk_p0 hk_p1 hk_w0 hk_g0
        clear c
        replace R_w0 := Lib.hid (R_w0.out.below hb)
        replace R_g0 := Lib.hid (R_g0.out.below hb)
        replace B_p0 := Lib.hid (B_p0.out.below hb)
        replace B_p1 := Lib.hid (B_p1.out.below hb)
        replace B_w0 := Lib.hid (B_w0.out.below hb)
        replace B_g0 := Lib.hid (B_g0.out.below hb)
        have z22 := hb.size
        replace hW := hW.trans (hb.mono hW.size)
        clear hb
        have hk_p0 : w22.cell? ⟨W.heap.size, 0, none⟩ = some (.slice a0 L0.length c0) := B_p0.out.cell 0
        have hk_p1 : w22.cell? ⟨W.heap.size + 1, 0, none⟩ = some (.slice a1 L1.length c1) := B_p1.out.cell 0
        have hk_w0 : w22.cell? ⟨t_w0, 0, none⟩ = some (.slice a_w0 (meetL L0 L1).length c_w0) := B_w0.out.cell 0
        have hk_g0 : w22.cell? ⟨w8.heap.size, 0, none⟩ = some (.slice a_g0 (meetL L0 L1).length c_g0) := B_g0.out.cell 0
        go_wp2_with fail
        go_ret
        exact ⟨rfl, H00.out.trans (hW.mono H00.out.size)⟩
    · rw [if_pos (by rfl)]
      try replace rX0 := rX0.below (box_below _ (.cells [Value.slice none 0 0].toArray 26))
      try replace rX1 := rX1.below (box_below _ (.cells [Value.slice none 0 0].toArray 26))
      obtain ⟨t_h0, et, hT, htV⟩ := newSgNamed (hHeld).2.2
      try (have hap : t_h0 < lo_h0 ∨ hi_h0 ≤ t_h0 := .inr (by have := rX.hi_le; omega))
      try replace rX := rX.below (box_below _ (.cells [Value.slice none 0 0].toArray 26))
      refine wp_alloc_arr 26 [Value.slice none 0 0] zeroSg (by rfl) ?_
      rw [← et]
      clear et
      refine hK.out _ _ (HKr.out _ ((hHeld).2.2.alloc (hHeld).2.2.size _)) (fun hHeld1 => ?_)
      clear hK K
      (try simp only [Act.put, List.setIfInBounds_toArray, List.set_cons_zero, List.set_cons_succ, List.getElem_toArray, List.getElem_cons_succ, List.getElem_cons_zero])
      refine wpAnyH_ready (rs := [1]) (by kernel_rfl) (by simp) ?_
      refine AllReadyH.cons rfl (fun K hK => ?_) AllReadyH.nil
      rw [if_pos (by rfl)]
      go_wp2_with (first | (go_at_call 32; (with_reducible refine (ctf0 _ (by assumption)).mono ?_); rintro e wx20 ⟨v, rfl, ho, hbt0⟩; obtain ⟨a_r0, c_r0, rfl, rX0⟩ := row_open ho; clear ho; try (replace hT := hT.below hbt0)))
      refine hK.out _ _ (HKr.out _ ((hHeld1).2.2.trans (hbt0.mono (hHeld1).2.2.size))) (fun hHeld2 => ?_)
      clear hK K
      (try simp only [Act.put, List.setIfInBounds_toArray, List.set_cons_zero, List.set_cons_succ, List.getElem_toArray, List.getElem_cons_succ, List.getElem_cons_zero])
      refine wpAnyH_ready (rs := [3]) (by kernel_rfl) (by simp) ?_
      refine AllReadyH.cons rfl (fun K hK => ?_) AllReadyH.nil
      rw [if_pos (by rfl)]
      go_wp2_with (first | (go_at_call 32; (with_reducible refine (ctf1 _ (by assumption)).mono ?_); rintro e wy20 ⟨v, rfl, ho, hbt1⟩; obtain ⟨a_r1, c_r1, rfl, rX1⟩ := row_open ho; clear ho; replace rX0 := rX0.below hbt1; try (replace hT := hT.below hbt1)))
      refine hK.out _ _ (HKr.out _ ((hHeld2).2.2.trans (hbt1.mono (hHeld2).2.2.size))) (fun hHeld3 => ?_)
      clear hK K
      (try simp only [Act.put, List.setIfInBounds_toArray, List.set_cons_zero, List.set_cons_succ, List.getElem_toArray, List.getElem_cons_succ, List.getElem_cons_zero])
      refine wpAnyH_ready (rs := [4]) (by kernel_rfl) (by simp) ?_
      refine AllReadyH.cons rfl (fun K hK => ?_) AllReadyH.nil
      rw [if_pos (by rfl)]
      go_wp2_with (first | (go_at_call 22; (with_reducible refine (ci_MeetOf L0 a_r0 c_r0 L1 a_r1 c_r1 _ rX0.slw rX1.slw hb0 hb1).mono ?_); rintro e wf20 ⟨v, rfl, ho, hb6⟩; obtain ⟨lo_h0, hi_h0, a_h0, c_h0, rfl, hlo1, hlo2, hhi, rX⟩ := row_named (hHeld3).2.2.size ho; clear ho; try (have hap : t_h0 < lo_h0 ∨ hi_h0 ≤ t_h0 := .inl (by have := hT.lt; omega); replace hT := hT.below hb6)))
      refine hK.out _ _ (HKr.out _ ((hHeld3).2.2.trans (hb6.mono (hHeld3).2.2.size))) (fun hHeld4 => ?_)
      clear hK K
      (try simp only [Act.put, List.setIfInBounds_toArray, List.set_cons_zero, List.set_cons_succ, List.getElem_toArray, List.getElem_cons_succ, List.getElem_cons_zero])
      refine held_take 5 _ _ rfl (by kernel_rfl) (by kernel_rfl) (by kernel_rfl) (fun _ _ _ h => h) (by rfl) hHeld4 (fun w hSw => by (try dsimp only at hSw); go_simp; try with_reducible rfl) ?_
      (try simp only [Act.put, List.setIfInBounds_toArray, List.set_cons_zero, List.set_cons_succ, List.getElem_toArray, List.getElem_cons_succ, List.getElem_cons_zero])
      refine held_take 6 _ _ rfl (by kernel_rfl) (by kernel_rfl) (by kernel_rfl) (fun _ _ _ h => h) (by rfl) hHeld4 (fun w hSw => by (try dsimp only at hSw); go_simp; try with_reducible rfl) ?_
      (try simp only [Act.put, List.setIfInBounds_toArray, List.set_cons_zero, List.set_cons_succ, List.getElem_toArray, List.getElem_cons_succ, List.getElem_cons_zero])
      refine held_take 7 _ _ rfl (by kernel_rfl) (by kernel_rfl) (by kernel_rfl) (fun _ _ _ h => h) (by rfl) hHeld4 (fun w hSw => by (try dsimp only at hSw); go_simp; try with_reducible rfl) ?_
      (try simp only [Act.put, List.setIfInBounds_toArray, List.set_cons_zero, List.set_cons_succ, List.getElem_toArray, List.getElem_cons_succ, List.getElem_cons_zero])
      refine wpAnyH_ready (rs := [9]) (by kernel_rfl) (by simp) ?_
      refine AllReadyH.cons rfl (fun K hK => ?_) AllReadyH.nil
      rw [if_pos (by rfl)]
      refine wp_store_arr 26 (.tmp 15) (.tmp 100) _ [Value.slice none 0 0] [.slice a_h0 (meetL L0 L1).length c_h0] (by rfl) (by rfl) (by rfl) hT rfl sizeSg (by simp [Value.oneCell']) ?_
      intro w20 hN7 hg7
      refine hK.out _ _ (HKr.out _ ((hHeld4).2.2.grown hg7 (hHeld4).2.2.size (fun j hj => by cases hj; exact htV))) (fun hHeld5 => ?_)
      clear hK K
      (try simp only [Act.put, List.getElem_toArray, List.getElem_cons_succ, List.getElem_cons_zero])
      refine held_take 10 _ _ rfl (by kernel_rfl) (by kernel_rfl) (by kernel_rfl) (fun _ _ _ h => h) (by rfl) hHeld5 (fun w hSw => by (try dsimp only at hSw); go_simp; try with_reducible rfl) ?_
      (try simp only [Act.put, List.setIfInBounds_toArray, List.set_cons_zero, List.set_cons_succ, List.getElem_toArray, List.getElem_cons_succ, List.getElem_cons_zero])
      refine wpAnyH_done (by kernel_rfl) ?_ _
      have hb := (hHeld5).2.2
      have R_h0 := Lib.hid (rX.grown hg7 (fun j hj => by cases hj; exact hap))
      have B_h0 := Lib.hid hN7
      have zt_h0 := hN7.lt
      have zh_h0 := R_h0.out.hi_le
      have zl_h0 : lo_h0 ≤ hi_h0 := by have := hb6.size; omega
      replace R_w0 := Lib.hid (R_w0.out.below hb)
      replace R_g0 := Lib.hid (R_g0.out.below hb)
      replace B_p0 := Lib.hid (B_p0.out.below hb)
      replace B_p1 := Lib.hid (B_p1.out.below hb)
      replace B_w0 := Lib.hid (B_w0.out.below hb)
      replace B_g0 := Lib.hid (B_g0.out.below hb)
      have z20 := hb.size
      replace hW := hW.trans (hb.mono hW.size)
      clear hb hlo2 hhi hN7 hg7 rX rX0 rX1 hT hb6 hbt0 hbt1 hS0 HKr ctf0 hlp0 ctf1 hlp1
      have c := ce_Semigroup (meetL L0 L1) (meetL L0 L1) a_h0 a_w0 c_h0 c_w0 w20 R_h0.out.slv R_w0.out.slv (by omega) (by omega)
      rw [decide_eq_true (rfl : (meetL L0 L1) = (meetL L0 L1))] at c
      have hk_p0 : w20.cell? ⟨W.heap.size, 0, none⟩ = some (.slice a0 L0.length c0) := B_p0.out.cell 0
      have hk_p1 : w20.cell? ⟨W.heap.size + 1, 0, none⟩ = some (.slice a1 L1.length c1) := B_p1.out.cell 0
      have hk_w0 : w20.cell? ⟨t_w0, 0, none⟩ = some (.slice a_w0 (meetL L0 L1).length c_w0) := B_w0.out.cell 0
      have hk_g0 : w20.cell? ⟨w8.heap.size, 0, none⟩ = some (.slice a_g0 (meetL L0 L1).length c_g0) := B_g0.out.cell 0
      have hk_h0 : w20.cell? ⟨t_h0, 0, none⟩ = some (.slice a_h0 (meetL L0 L1).length c_h0) := B_h0.out.cell 0
      go_wp2_with fail
      refine c.mono ?_
      rintro e w21 ⟨rfl, hb⟩
      clear hk_p0 hk_p1 hk_w0 hk_g0 hk_h0
      clear c
      replace R_w0 := Lib.hid (R_w0.out.below hb)
      replace R_g0 := Lib.hid (R_g0.out.below hb)
      replace R_h0 := Lib.hid (R_h0.out.below hb)
      replace B_p0 := Lib.hid (B_p0.out.below hb)
      replace B_p1 := Lib.hid (B_p1.out.below hb)
      replace B_w0 := Lib.hid (B_w0.out.below hb)
      replace B_g0 := Lib.hid (B_g0.out.below hb)
      replace B_h0 := Lib.hid (B_h0.out.below hb)
      have z21 := hb.size
      replace hW := hW.trans (hb.mono hW.size)
      clear hb
      clear R_h0
      clear B_h0
      have c := ch_Semigroup 1 ((meetL L0 L1).length) c_g0 a_g0 w21 R_g0.out.slv (by omega) (by omega) (by omega)
      have hk_p0 : w21.cell? ⟨W.heap.size, 0, none⟩ = some (.slice a0 L0.length c0) := B_p0.out.cell 0
      have hk_p1 : w21.cell? ⟨W.heap.size + 1, 0, none⟩ = some (.slice a1 L1.length c1) := B_p1.out.cell 0
      have hk_w0 : w21.cell? ⟨t_w0, 0, none⟩ = some (.slice a_w0 (meetL L0 L1).length c_w0) := B_w0.out.cell 0
      have hk_g0 : w21.cell? ⟨w8.heap.size, 0, none⟩ = some (.slice a_g0 (meetL L0 L1).length c_g0) := B_g0.out.cell 0
      go_wp2_with fail
      refine c.mono ?_
      rintro e w22 ⟨rfl, hb⟩
      clear hk_p0 hk_p1 hk_w0 hk_g0
      clear c
      replace R_w0 := Lib.hid (R_w0.out.below hb)
      replace R_g0 := Lib.hid (R_g0.out.below hb)
      replace B_p0 := Lib.hid (B_p0.out.below hb)
      replace B_p1 := Lib.hid (B_p1.out.below hb)
      replace B_w0 := Lib.hid (B_w0.out.below hb)
      replace B_g0 := Lib.hid (B_g0.out.below hb)
      have z22 := hb.size
      replace hW := hW.trans (hb.mono hW.size)
      clear hb
      have hk_p0 : w22.cell? ⟨W.heap.size, 0, none⟩ = some (.slice a0 L0.length c0) := B_p0.out.cell 0
      have hk_p1 : w22.cell? ⟨W.heap.size + 1, 0, none⟩ = some (.slice a1 L1.length c1) := B_p1.out.cell 0
      have hk_w0 : w22.cell? ⟨t_w0, 0, none⟩ = some (.slice a_w0 (meetL L0 L1).length c_w0) := B_w0.out.cell 0
      have hk_g0 : w22.cell? ⟨w8.heap.size, 0, none⟩ = some (.slice a_g0 (meetL L0 L1).length c_g0) := B_g0.out.cell 0
      go_wp2_with fail
      go_ret
      exact ⟨rfl, H00.out.trans (hW.mono H00.out.size)⟩
end Go.Proofs.Ytljfiiohiolbnaa
