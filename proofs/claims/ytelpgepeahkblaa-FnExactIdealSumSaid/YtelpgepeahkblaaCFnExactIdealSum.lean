/-
  THE WALK OF THE LAW FnExactIdealSum over the contracts of both sides (written by genlaw.py of the verifier's own).
-/
import Derived.Test.YtelpgepeahkblaaRows
import Derived.Test.YtelpgepeahkblaaC16
namespace Go.Proofs.Ytelpgepeahkblaa
open Go Go.RowKit

set_option maxRecDepth 100000 in
set_option maxHeartbeats 3200000 in
theorem FnExactIdealSum.core (L0 : List Int) (a0 : Option Addr) (c0 : Nat) (L1 : List Int) (a1 : Option Addr) (c1 : Nat) (L2 : List Int) (a2 : Option Addr) (c2 : Nat) (W : World) (hr0 : SlV W a0 (L0.map (Value.int .i64))) (hb0 : L0.length ≤ 1048576) (hr1 : SlV W a1 (L1.map (Value.int .i64))) (hb1 : L1.length ≤ 1048576) (hr2 : SlV W a2 (L2.map (Value.int .i64))) (hb2 : L2.length ≤ 1048576) :
    Calls Try.prog 10 #[.agg #[.slice a0 L0.length c0], .slice a1 L1.length c1, .slice a2 L2.length c2] W fun e w' => e = .returned (.bool true) ∧ Below W.heap.size W w' := by
  have hm0 := idSumL_len L0 L1 L2
  obtain ⟨W0, hW0⟩ : ∃ W0, W0 = (W.alloc (.cells #[.slice a0 L0.length c0] 24)) := ⟨_, rfl⟩
  have h00 : Below W.heap.size W W0 := by rw [hW0]; exact ((Below.refl _ _).alloc (by simp) _)
  have hsz0 : W.heap.size + 1 ≤ W0.heap.size := by rw [hW0]; simp
  have B_p0 : Hid (Arr W0 W.heap.size 24 [.slice a0 L0.length c0]) := Lib.hid (by
    rw [hW0]; exact Arr.new W 24 [.slice a0 L0.length c0])
  have HW0 := Lib.hid hW0
  have H00 := Lib.hid h00
  clear hW0
  have HR0 := Lib.hid (hr0.below h00)
  clear hr0
  have HR1 := Lib.hid (hr1.below h00)
  clear hr1
  have HR2 := Lib.hid (hr2.below h00)
  clear hr2
  clear h00
  have hW : Below W0.heap.size W0 W0 := Below.refl _ _
  go_enter Try.func10, Try.ntmps10
  have c := cz_Semigroup L0.length a0 c0 (1048576) W0 (by unfold maxLen; omega) (by omega) (by omega)
  rw [szI_in (by omega)] at c
  have hl0 : (0 : Int) ≤ 1048576 - (L0.length : Int) := by omega
  have hk_p0 : W0.cell? ⟨W.heap.size, 0, none⟩ = some (.slice a0 L0.length c0) := B_p0.out.cell 0
  rw [HW0.out] at hk_p0
  go_wp2_with fail
  rw [← HW0.out]
  refine c.mono ?_
  rintro e w1 ⟨rfl, hb⟩
  clear hk_p0
  clear c
  replace B_p0 := Lib.hid (B_p0.out.below hb)
  have z1 := hb.size
  replace hW := hW.trans (hb.mono hW.size)
  clear hb
  have c := ct_Semigroup L0 a0 c0 w1 (HR0.out.below hW) hb0
  have hk_p0 : w1.cell? ⟨W.heap.size, 0, none⟩ = some (.slice a0 L0.length c0) := B_p0.out.cell 0
  go_wp2_with fail
  refine c.mono ?_
  rintro e w2 ⟨v, rfl, ho, hb⟩
  clear hk_p0
  obtain ⟨a_t1, c_t1, rfl, rX⟩ := row_open ho
  clear c ho
  replace B_p0 := Lib.hid (B_p0.out.below hb)
  have z2 := hb.size
  replace hW := hW.trans (hb.mono hW.size)
  have R_t1 := Lib.hid rX
  clear rX hb
  have c := ct_IntS L1 a1 c1 w2 (HR1.out.below hW) hb1
  have hk_p0 : w2.cell? ⟨W.heap.size, 0, none⟩ = some (.slice a0 L0.length c0) := B_p0.out.cell 0
  go_wp2_with fail
  refine c.mono ?_
  rintro e w3 ⟨v, rfl, ho, hb⟩
  clear hk_p0
  obtain ⟨a_t2, c_t2, rfl, rX⟩ := row_open ho
  clear c ho
  replace R_t1 := Lib.hid (R_t1.out.below hb)
  replace B_p0 := Lib.hid (B_p0.out.below hb)
  have z3 := hb.size
  replace hW := hW.trans (hb.mono hW.size)
  have R_t2 := Lib.hid rX
  clear rX hb
  have c := ct_IntS L2 a2 c2 w3 (HR2.out.below hW) hb2
  have hk_p0 : w3.cell? ⟨W.heap.size, 0, none⟩ = some (.slice a0 L0.length c0) := B_p0.out.cell 0
  go_wp2_with fail
  refine c.mono ?_
  rintro e w4 ⟨v, rfl, ho, hb⟩
  clear hk_p0
  obtain ⟨a_t3, c_t3, rfl, rX⟩ := row_open ho
  clear c ho
  replace R_t1 := Lib.hid (R_t1.out.below hb)
  replace R_t2 := Lib.hid (R_t2.out.below hb)
  replace B_p0 := Lib.hid (B_p0.out.below hb)
  have z4 := hb.size
  replace hW := hW.trans (hb.mono hW.size)
  have R_t3 := Lib.hid rX
  clear rX hb
  have c := cs_IdealSum L0 a_t1 c_t1 L1 a_t2 c_t2 L2 a_t3 c_t3 w4 R_t1.out.slw R_t2.out.slw R_t3.out.slw hb0 hb1 hb2
  have hk_p0 : w4.cell? ⟨W.heap.size, 0, none⟩ = some (.slice a0 L0.length c0) := B_p0.out.cell 0
  go_wp2_with fail
  refine c.mono ?_
  rintro e w5 ⟨v, rfl, ho, hb⟩
  clear hk_p0
  obtain ⟨a_w0, c_w0, rfl, rX⟩ := row_open ho
  clear c ho
  replace R_t1 := Lib.hid (R_t1.out.below hb)
  replace R_t2 := Lib.hid (R_t2.out.below hb)
  replace R_t3 := Lib.hid (R_t3.out.below hb)
  replace B_p0 := Lib.hid (B_p0.out.below hb)
  have z5 := hb.size
  replace hW := hW.trans (hb.mono hW.size)
  have R_w0 := Lib.hid rX
  clear rX hb
  clear R_t1
  clear R_t2
  clear R_t3
  have c := ct_Semigroup L0 a0 c0 w5 (HR0.out.below hW) hb0
  have hk_p0 : w5.cell? ⟨W.heap.size, 0, none⟩ = some (.slice a0 L0.length c0) := B_p0.out.cell 0
  go_wp2_with fail
  refine c.mono ?_
  rintro e w6 ⟨v, rfl, ho, hb⟩
  clear hk_p0
  obtain ⟨a_x0, c_x0, rfl, rX⟩ := row_open ho
  clear c ho
  replace R_w0 := Lib.hid (R_w0.out.below hb)
  replace B_p0 := Lib.hid (B_p0.out.below hb)
  have z6 := hb.size
  replace hW := hW.trans (hb.mono hW.size)
  have R_x0 := Lib.hid rX
  clear rX hb
  obtain ⟨w7, hwb⟩ : ∃ wb, wb = w6.alloc (.cells #[.slice a_x0 L0.length c_x0] 28) := ⟨_, rfl⟩
  have hb : Below w6.heap.size w6 w7 := by rw [hwb]; exact (Below.refl _ _).alloc (Nat.le_refl _) _
  have hA : Arr w7 w6.heap.size 28 [.slice a_x0 L0.length c_x0] := by rw [hwb]; exact Arr.new _ _ _
  replace R_w0 := Lib.hid (R_w0.out.below hb)
  replace R_x0 := Lib.hid (R_x0.out.below hb)
  replace B_p0 := Lib.hid (B_p0.out.below hb)
  have z7 : w6.heap.size < w7.heap.size := hA.lt
  replace hW := hW.trans (hb.mono hW.size)
  have B_x0 := Lib.hid hA
  have H_w7 := Lib.hid hwb
  clear hwb hb hA
  have c := ct_IntS L1 a1 c1 w7 (HR1.out.below hW) hb1
  have hk_p0 : w7.cell? ⟨W.heap.size, 0, none⟩ = some (.slice a0 L0.length c0) := B_p0.out.cell 0
  have hk_x0 : w7.cell? ⟨w6.heap.size, 0, none⟩ = some (.slice a_x0 L0.length c_x0) := B_x0.out.cell 0
  rw [H_w7.out] at hk_p0 hk_x0
  go_wp2_with fail
  rw [← H_w7.out]
  refine c.mono ?_
  rintro e w8 ⟨v, rfl, ho, hb⟩
  clear hk_p0 hk_x0
  obtain ⟨a_x1, c_x1, rfl, rX⟩ := row_open ho
  clear c ho
  replace R_w0 := Lib.hid (R_w0.out.below hb)
  replace R_x0 := Lib.hid (R_x0.out.below hb)
  replace B_p0 := Lib.hid (B_p0.out.below hb)
  replace B_x0 := Lib.hid (B_x0.out.below hb)
  have z8 := hb.size
  replace hW := hW.trans (hb.mono hW.size)
  have R_x1 := Lib.hid rX
  clear rX hb
  have c := ct_IntS L2 a2 c2 w8 (HR2.out.below hW) hb2
  have hk_p0 : w8.cell? ⟨W.heap.size, 0, none⟩ = some (.slice a0 L0.length c0) := B_p0.out.cell 0
  have hk_x0 : w8.cell? ⟨w6.heap.size, 0, none⟩ = some (.slice a_x0 L0.length c_x0) := B_x0.out.cell 0
  go_wp2_with fail
  refine c.mono ?_
  rintro e w9 ⟨v, rfl, ho, hb⟩
  clear hk_p0 hk_x0
  obtain ⟨a_x2, c_x2, rfl, rX⟩ := row_open ho
  clear c ho
  replace R_w0 := Lib.hid (R_w0.out.below hb)
  replace R_x0 := Lib.hid (R_x0.out.below hb)
  replace R_x1 := Lib.hid (R_x1.out.below hb)
  replace B_p0 := Lib.hid (B_p0.out.below hb)
  replace B_x0 := Lib.hid (B_x0.out.below hb)
  have z9 := hb.size
  replace hW := hW.trans (hb.mono hW.size)
  have R_x2 := Lib.hid rX
  clear rX hb
  have c := ci_IdealSum L0 a_x0 c_x0 L1 a_x1 c_x1 L2 a_x2 c_x2 w9 R_x0.out.slw R_x1.out.slw R_x2.out.slw hb0 hb1 hb2
  have hk_p0 : w9.cell? ⟨W.heap.size, 0, none⟩ = some (.slice a0 L0.length c0) := B_p0.out.cell 0
  have hk_x0 : w9.cell? ⟨w6.heap.size, 0, none⟩ = some (.slice a_x0 L0.length c_x0) := B_x0.out.cell 0
  go_wp2_with fail
  refine c.mono ?_
  rintro e w10 ⟨v, rfl, ho, hb⟩
  clear hk_p0 hk_x0
  obtain ⟨a_g0, c_g0, rfl, rX⟩ := row_open ho
  clear c ho
  replace R_w0 := Lib.hid (R_w0.out.below hb)
  replace R_x0 := Lib.hid (R_x0.out.below hb)
  replace R_x1 := Lib.hid (R_x1.out.below hb)
  replace R_x2 := Lib.hid (R_x2.out.below hb)
  replace B_p0 := Lib.hid (B_p0.out.below hb)
  replace B_x0 := Lib.hid (B_x0.out.below hb)
  have z10 := hb.size
  replace hW := hW.trans (hb.mono hW.size)
  have R_g0 := Lib.hid rX
  clear rX hb
  have c := ce_IntS (idSumL L0 L1 L2) (idSumL L0 L1 L2) a_g0 a_w0 c_g0 c_w0 w10 R_g0.out.slv R_w0.out.slv (by omega) (by omega)
  rw [decide_eq_true (rfl : (idSumL L0 L1 L2) = (idSumL L0 L1 L2))] at c
  have hk_p0 : w10.cell? ⟨W.heap.size, 0, none⟩ = some (.slice a0 L0.length c0) := B_p0.out.cell 0
  have hk_x0 : w10.cell? ⟨w6.heap.size, 0, none⟩ = some (.slice a_x0 L0.length c_x0) := B_x0.out.cell 0
  go_wp2_with fail
  refine c.mono ?_
  rintro e w11 ⟨rfl, hb⟩
  clear hk_p0 hk_x0
  clear c
  replace R_w0 := Lib.hid (R_w0.out.below hb)
  replace R_x0 := Lib.hid (R_x0.out.below hb)
  replace R_x1 := Lib.hid (R_x1.out.below hb)
  replace R_x2 := Lib.hid (R_x2.out.below hb)
  replace R_g0 := Lib.hid (R_g0.out.below hb)
  replace B_p0 := Lib.hid (B_p0.out.below hb)
  replace B_x0 := Lib.hid (B_x0.out.below hb)
  have z11 := hb.size
  replace hW := hW.trans (hb.mono hW.size)
  clear hb
  have ctf : ∀ w', (w'.cell? ⟨w6.heap.size, 0, none⟩ = some (.slice a_x0 L0.length c_x0) ∧ w'.cell? ⟨W.heap.size, 0, none⟩ = some (.slice a0 L0.length c0) ∧ Below w11.heap.size w11 w') → Calls Try.prog 15 #[.agg #[.slice a0 L0.length c0]] w' fun e w2 => ∃ v, e = .returned (.agg #[v]) ∧ w2.ownsRow w'.heap.size 3 1 v L0.length (L0.map (Value.int .i64)) ∧ Below w'.heap.size w' w2 := fun w' h => ct_Semigroup L0 a0 c0 w' (HR0.out.below (hW.trans (h.2.2.mono hW.size))) hb0
  have HS := Lib.hid (show w11.drew.cell? ⟨w6.heap.size, 0, none⟩ = some (.slice a_x0 L0.length c_x0) ∧ w11.drew.cell? ⟨W.heap.size, 0, none⟩ = some (.slice a0 L0.length c0) ∧ Below w11.heap.size w11 w11.drew from ⟨B_x0.out.cell 0, B_p0.out.cell 0, (Below.refl _ _).drew⟩)
  have hlx := B_x0.out.lt
  have hlp := B_p0.out.lt
  go_wp2_with fail
  go_region_held3 (fun w' => w'.cell? ⟨w6.heap.size, 0, none⟩ = some (.slice a_x0 L0.length c_x0) ∧ w'.cell? ⟨W.heap.size, 0, none⟩ = some (.slice a0 L0.length c0) ∧ Below w11.heap.size w11 w')
    (first | exact HS.out | assumption | exact held_keep2 hlx hlp (by assumption) (by assumption))
    ((first | (go_at_call 15; (with_reducible refine (ctf _ (by assumption)).mono ?_); rintro e w12 ⟨v, rfl, ho, hb2⟩; obtain ⟨a_t, c_t, rfl, rX⟩ := row_open ho; have ce := ce_Semigroup L0 L0 a_x0 a_t c_x0 c_t w12 (R_x0.out.slv.below ((Below.refl _ _).drew.trans hb2)) rX.slv (by omega) (by omega); rw [decide_eq_true (rfl : L0 = L0)] at ce; clear ho rX)
             | (go_at_call 18; (with_reducible refine ce.mono ?_); rintro e w13 ⟨rfl, hb3⟩)))
  have hb : Below w11.heap.size w11 w13 := ((Below.refl w11.heap.size w11).drew.trans hb2).trans (hb3.mono hb2.size)
  clear ctf HS hlx hlp ce hb2 hb3
  replace R_w0 := Lib.hid (R_w0.out.below hb)
  replace R_x0 := Lib.hid (R_x0.out.below hb)
  replace R_x1 := Lib.hid (R_x1.out.below hb)
  replace R_x2 := Lib.hid (R_x2.out.below hb)
  replace R_g0 := Lib.hid (R_g0.out.below hb)
  replace B_p0 := Lib.hid (B_p0.out.below hb)
  replace B_x0 := Lib.hid (B_x0.out.below hb)
  have z13 := hb.size
  replace hW := hW.trans (hb.mono hW.size)
  clear hb
  have c := ct_IntS L1 a1 c1 w13 (HR1.out.below hW) hb1
  have hk_p0 : w13.cell? ⟨W.heap.size, 0, none⟩ = some (.slice a0 L0.length c0) := B_p0.out.cell 0
  have hk_x0 : w13.cell? ⟨w6.heap.size, 0, none⟩ = some (.slice a_x0 L0.length c_x0) := B_x0.out.cell 0
  go_wp2_with fail
  refine c.mono ?_
  rintro e w14 ⟨v, rfl, ho, hb⟩
  clear hk_p0 hk_x0
  obtain ⟨a_t4, c_t4, rfl, rX⟩ := row_open ho
  clear c ho
  replace R_w0 := Lib.hid (R_w0.out.below hb)
  replace R_x0 := Lib.hid (R_x0.out.below hb)
  replace R_x1 := Lib.hid (R_x1.out.below hb)
  replace R_x2 := Lib.hid (R_x2.out.below hb)
  replace R_g0 := Lib.hid (R_g0.out.below hb)
  replace B_p0 := Lib.hid (B_p0.out.below hb)
  replace B_x0 := Lib.hid (B_x0.out.below hb)
  have z14 := hb.size
  replace hW := hW.trans (hb.mono hW.size)
  have R_t4 := Lib.hid rX
  clear rX hb
  have c := ce_IntS (L1) (L1) a_x1 a_t4 c_x1 c_t4 w14 R_x1.out.slv R_t4.out.slv (by omega) (by omega)
  rw [decide_eq_true (rfl : (L1) = (L1))] at c
  have hk_p0 : w14.cell? ⟨W.heap.size, 0, none⟩ = some (.slice a0 L0.length c0) := B_p0.out.cell 0
  have hk_x0 : w14.cell? ⟨w6.heap.size, 0, none⟩ = some (.slice a_x0 L0.length c_x0) := B_x0.out.cell 0
  go_wp2_with fail
  refine c.mono ?_
  rintro e w15 ⟨rfl, hb⟩
  clear hk_p0 hk_x0
  clear c
  replace R_w0 := Lib.hid (R_w0.out.below hb)
  replace R_x0 := Lib.hid (R_x0.out.below hb)
  replace R_x1 := Lib.hid (R_x1.out.below hb)
  replace R_x2 := Lib.hid (R_x2.out.below hb)
  replace R_g0 := Lib.hid (R_g0.out.below hb)
  replace R_t4 := Lib.hid (R_t4.out.below hb)
  replace B_p0 := Lib.hid (B_p0.out.below hb)
  replace B_x0 := Lib.hid (B_x0.out.below hb)
  have z15 := hb.size
  replace hW := hW.trans (hb.mono hW.size)
  clear hb
  clear R_t4
  have c := ct_IntS L2 a2 c2 w15 (HR2.out.below hW) hb2
  have hk_p0 : w15.cell? ⟨W.heap.size, 0, none⟩ = some (.slice a0 L0.length c0) := B_p0.out.cell 0
  have hk_x0 : w15.cell? ⟨w6.heap.size, 0, none⟩ = some (.slice a_x0 L0.length c_x0) := B_x0.out.cell 0
  go_wp2_with fail
  refine c.mono ?_
  rintro e w16 ⟨v, rfl, ho, hb⟩
  clear hk_p0 hk_x0
  obtain ⟨a_t5, c_t5, rfl, rX⟩ := row_open ho
  clear c ho
  replace R_w0 := Lib.hid (R_w0.out.below hb)
  replace R_x0 := Lib.hid (R_x0.out.below hb)
  replace R_x1 := Lib.hid (R_x1.out.below hb)
  replace R_x2 := Lib.hid (R_x2.out.below hb)
  replace R_g0 := Lib.hid (R_g0.out.below hb)
  replace B_p0 := Lib.hid (B_p0.out.below hb)
  replace B_x0 := Lib.hid (B_x0.out.below hb)
  have z16 := hb.size
  replace hW := hW.trans (hb.mono hW.size)
  have R_t5 := Lib.hid rX
  clear rX hb
  have c := ce_IntS (L2) (L2) a_x2 a_t5 c_x2 c_t5 w16 R_x2.out.slv R_t5.out.slv (by omega) (by omega)
  rw [decide_eq_true (rfl : (L2) = (L2))] at c
  have hk_p0 : w16.cell? ⟨W.heap.size, 0, none⟩ = some (.slice a0 L0.length c0) := B_p0.out.cell 0
  have hk_x0 : w16.cell? ⟨w6.heap.size, 0, none⟩ = some (.slice a_x0 L0.length c_x0) := B_x0.out.cell 0
  go_wp2_with fail
  refine c.mono ?_
  rintro e w17 ⟨rfl, hb⟩
  clear hk_p0 hk_x0
  clear c
  replace R_w0 := Lib.hid (R_w0.out.below hb)
  replace R_x0 := Lib.hid (R_x0.out.below hb)
  replace R_x1 := Lib.hid (R_x1.out.below hb)
  replace R_x2 := Lib.hid (R_x2.out.below hb)
  replace R_g0 := Lib.hid (R_g0.out.below hb)
  replace R_t5 := Lib.hid (R_t5.out.below hb)
  replace B_p0 := Lib.hid (B_p0.out.below hb)
  replace B_x0 := Lib.hid (B_x0.out.below hb)
  have z17 := hb.size
  replace hW := hW.trans (hb.mono hW.size)
  clear hb
  clear R_t5
  have rX := R_x0.out
  have c := cm_Semigroup (1) w5.heap.size L0.length _ _ w17 rX.own (by omega) (by omega) (by omega)
  have hk_p0 : w17.cell? ⟨W.heap.size, 0, none⟩ = some (.slice a0 L0.length c0) := B_p0.out.cell 0
  have hk_x0 : w17.cell? ⟨w6.heap.size, 0, none⟩ = some (.slice a_x0 L0.length c_x0) := B_x0.out.cell 0
  go_wp2_with fail
  refine c.mono ?_
  rintro e w18 ⟨rfl, ho, hg⟩
  clear hk_p0 hk_x0
  clear c
  replace R_w0 := Lib.hid (R_w0.out.grown hg (fun j hj => by have h1 := rX.blk j hj; have h2 := (rX.own.lt j hj).1; omega))
  replace R_x1 := Lib.hid (R_x1.out.grown hg (fun j hj => by have h1 := rX.blk j hj; have h2 := (rX.own.lt j hj).1; omega))
  replace R_x2 := Lib.hid (R_x2.out.grown hg (fun j hj => by have h1 := rX.blk j hj; have h2 := (rX.own.lt j hj).1; omega))
  replace R_g0 := Lib.hid (R_g0.out.grown hg (fun j hj => by have h1 := rX.blk j hj; have h2 := (rX.own.lt j hj).1; omega))
  replace B_p0 := Lib.hid (B_p0.out.grownRow hg (fun j hj => by have h1 := rX.blk j hj; have h2 := (rX.own.lt j hj).1; omega))
  replace B_x0 := Lib.hid (B_x0.out.grownRow hg (fun j hj => by have h1 := rX.blk j hj; have h2 := (rX.own.lt j hj).1; omega))
  have z18 := hg.size
  replace hW := hW.grown hg hW.size (fun j hj => by have h1 := (rX.own.lt j hj).1; omega)
  replace R_x0 := Lib.hid (Row.remade rX ho hg)
  clear rX ho hg
  clear R_x0
  clear B_x0
  have rX := R_x1.out
  have c := cm_IntS (1 + L0.length) w7.heap.size L1.length _ _ w18 rX.own (by omega) (by omega) (by omega)
  have hk_p0 : w18.cell? ⟨W.heap.size, 0, none⟩ = some (.slice a0 L0.length c0) := B_p0.out.cell 0
  go_wp2_with fail
  refine c.mono ?_
  rintro e w19 ⟨rfl, ho, hg⟩
  clear hk_p0
  clear c
  replace R_w0 := Lib.hid (R_w0.out.grown hg (fun j hj => by have h1 := rX.blk j hj; have h2 := (rX.own.lt j hj).1; omega))
  replace R_x2 := Lib.hid (R_x2.out.grown hg (fun j hj => by have h1 := rX.blk j hj; have h2 := (rX.own.lt j hj).1; omega))
  replace R_g0 := Lib.hid (R_g0.out.grown hg (fun j hj => by have h1 := rX.blk j hj; have h2 := (rX.own.lt j hj).1; omega))
  replace B_p0 := Lib.hid (B_p0.out.grownRow hg (fun j hj => by have h1 := rX.blk j hj; have h2 := (rX.own.lt j hj).1; omega))
  have z19 := hg.size
  replace hW := hW.grown hg hW.size (fun j hj => by have h1 := (rX.own.lt j hj).1; omega)
  replace R_x1 := Lib.hid (Row.remade rX ho hg)
  clear rX ho hg
  clear R_x1
  have rX := R_x2.out
  have c := cm_IntS (1 + L0.length + L1.length) w8.heap.size L2.length _ _ w19 rX.own (by omega) (by omega) (by omega)
  have hk_p0 : w19.cell? ⟨W.heap.size, 0, none⟩ = some (.slice a0 L0.length c0) := B_p0.out.cell 0
  go_wp2_with fail
  refine c.mono ?_
  rintro e w20 ⟨rfl, ho, hg⟩
  clear hk_p0
  clear c
  replace R_w0 := Lib.hid (R_w0.out.grown hg (fun j hj => by have h1 := rX.blk j hj; have h2 := (rX.own.lt j hj).1; omega))
  replace R_g0 := Lib.hid (R_g0.out.grown hg (fun j hj => by have h1 := rX.blk j hj; have h2 := (rX.own.lt j hj).1; omega))
  replace B_p0 := Lib.hid (B_p0.out.grownRow hg (fun j hj => by have h1 := rX.blk j hj; have h2 := (rX.own.lt j hj).1; omega))
  have z20 := hg.size
  replace hW := hW.grown hg hW.size (fun j hj => by have h1 := (rX.own.lt j hj).1; omega)
  replace R_x2 := Lib.hid (Row.remade rX ho hg)
  clear rX ho hg
  clear R_x2
  have c := ce_IntS (idSumL L0 L1 L2) (idSumL L0 L1 L2) a_g0 a_w0 c_g0 c_w0 w20 R_g0.out.slv R_w0.out.slv (by omega) (by omega)
  rw [decide_eq_true (rfl : (idSumL L0 L1 L2) = (idSumL L0 L1 L2))] at c
  have hk_p0 : w20.cell? ⟨W.heap.size, 0, none⟩ = some (.slice a0 L0.length c0) := B_p0.out.cell 0
  go_wp2_with fail
  refine c.mono ?_
  rintro e w21 ⟨rfl, hb⟩
  clear hk_p0
  clear c
  replace R_w0 := Lib.hid (R_w0.out.below hb)
  replace R_g0 := Lib.hid (R_g0.out.below hb)
  replace B_p0 := Lib.hid (B_p0.out.below hb)
  have z21 := hb.size
  replace hW := hW.trans (hb.mono hW.size)
  clear hb
  have rX := R_g0.out
  have c := cm_IntS (1) w9.heap.size (idSumL L0 L1 L2).length _ _ w21 rX.own (by omega) (by omega) (by omega)
  have hk_p0 : w21.cell? ⟨W.heap.size, 0, none⟩ = some (.slice a0 L0.length c0) := B_p0.out.cell 0
  go_wp2_with fail
  refine c.mono ?_
  rintro e w22 ⟨rfl, ho, hg⟩
  clear hk_p0
  clear c
  replace R_w0 := Lib.hid (R_w0.out.grown hg (fun j hj => by have h1 := rX.blk j hj; have h2 := (rX.own.lt j hj).1; omega))
  replace B_p0 := Lib.hid (B_p0.out.grownRow hg (fun j hj => by have h1 := rX.blk j hj; have h2 := (rX.own.lt j hj).1; omega))
  have z22 := hg.size
  replace hW := hW.grown hg hW.size (fun j hj => by have h1 := (rX.own.lt j hj).1; omega)
  replace R_g0 := Lib.hid (Row.remade rX ho hg)
  clear rX ho hg
  have c := ch_IntS 1 ((idSumL L0 L1 L2).length) c_g0 a_g0 w22 R_g0.out.slv (by omega) (by omega) (by omega)
  have hk_p0 : w22.cell? ⟨W.heap.size, 0, none⟩ = some (.slice a0 L0.length c0) := B_p0.out.cell 0
  go_wp2_with fail
  refine c.mono ?_
  rintro e w23 ⟨rfl, hb⟩
  clear hk_p0
  clear c
  replace R_w0 := Lib.hid (R_w0.out.below hb)
  replace R_g0 := Lib.hid (R_g0.out.below hb)
  replace B_p0 := Lib.hid (B_p0.out.below hb)
  have z23 := hb.size
  replace hW := hW.trans (hb.mono hW.size)
  clear hb
  have c := ct_Semigroup L0 a0 c0 w23 (HR0.out.below hW) hb0
  have hk_p0 : w23.cell? ⟨W.heap.size, 0, none⟩ = some (.slice a0 L0.length c0) := B_p0.out.cell 0
  go_wp2_with fail
  refine c.mono ?_
  rintro e w24 ⟨v, rfl, ho, hb⟩
  clear hk_p0
  obtain ⟨a_t6, c_t6, rfl, rX⟩ := row_open ho
  clear c ho
  replace R_w0 := Lib.hid (R_w0.out.below hb)
  replace R_g0 := Lib.hid (R_g0.out.below hb)
  replace B_p0 := Lib.hid (B_p0.out.below hb)
  have z24 := hb.size
  replace hW := hW.trans (hb.mono hW.size)
  have R_t6 := Lib.hid rX
  clear rX hb
  have c := ct_IntS L1 a1 c1 w24 (HR1.out.below hW) hb1
  have hk_p0 : w24.cell? ⟨W.heap.size, 0, none⟩ = some (.slice a0 L0.length c0) := B_p0.out.cell 0
  go_wp2_with fail
  refine c.mono ?_
  rintro e w25 ⟨v, rfl, ho, hb⟩
  clear hk_p0
  obtain ⟨a_t7, c_t7, rfl, rX⟩ := row_open ho
  clear c ho
  replace R_w0 := Lib.hid (R_w0.out.below hb)
  replace R_g0 := Lib.hid (R_g0.out.below hb)
  replace R_t6 := Lib.hid (R_t6.out.below hb)
  replace B_p0 := Lib.hid (B_p0.out.below hb)
  have z25 := hb.size
  replace hW := hW.trans (hb.mono hW.size)
  have R_t7 := Lib.hid rX
  clear rX hb
  have c := ct_IntS L2 a2 c2 w25 (HR2.out.below hW) hb2
  have hk_p0 : w25.cell? ⟨W.heap.size, 0, none⟩ = some (.slice a0 L0.length c0) := B_p0.out.cell 0
  go_wp2_with fail
  refine c.mono ?_
  rintro e w26 ⟨v, rfl, ho, hb⟩
  clear hk_p0
  obtain ⟨a_t8, c_t8, rfl, rX⟩ := row_open ho
  clear c ho
  replace R_w0 := Lib.hid (R_w0.out.below hb)
  replace R_g0 := Lib.hid (R_g0.out.below hb)
  replace R_t6 := Lib.hid (R_t6.out.below hb)
  replace R_t7 := Lib.hid (R_t7.out.below hb)
  replace B_p0 := Lib.hid (B_p0.out.below hb)
  have z26 := hb.size
  replace hW := hW.trans (hb.mono hW.size)
  have R_t8 := Lib.hid rX
  clear rX hb
  have c := ci_IdealSum L0 a_t6 c_t6 L1 a_t7 c_t7 L2 a_t8 c_t8 w26 R_t6.out.slw R_t7.out.slw R_t8.out.slw hb0 hb1 hb2
  have hk_p0 : w26.cell? ⟨W.heap.size, 0, none⟩ = some (.slice a0 L0.length c0) := B_p0.out.cell 0
  go_wp2_with fail
  refine c.mono ?_
  rintro e w27 ⟨v, rfl, ho, hb⟩
  clear hk_p0
  obtain ⟨a_h0, c_h0, rfl, rX⟩ := row_open ho
  clear c ho
  replace R_w0 := Lib.hid (R_w0.out.below hb)
  replace R_g0 := Lib.hid (R_g0.out.below hb)
  replace R_t6 := Lib.hid (R_t6.out.below hb)
  replace R_t7 := Lib.hid (R_t7.out.below hb)
  replace R_t8 := Lib.hid (R_t8.out.below hb)
  replace B_p0 := Lib.hid (B_p0.out.below hb)
  have z27 := hb.size
  replace hW := hW.trans (hb.mono hW.size)
  have R_h0 := Lib.hid rX
  clear rX hb
  clear R_t6
  clear R_t7
  clear R_t8
  have c := ce_IntS (idSumL L0 L1 L2) (idSumL L0 L1 L2) a_h0 a_w0 c_h0 c_w0 w27 R_h0.out.slv R_w0.out.slv (by omega) (by omega)
  rw [decide_eq_true (rfl : (idSumL L0 L1 L2) = (idSumL L0 L1 L2))] at c
  have hk_p0 : w27.cell? ⟨W.heap.size, 0, none⟩ = some (.slice a0 L0.length c0) := B_p0.out.cell 0
  go_wp2_with fail
  refine c.mono ?_
  rintro e w28 ⟨rfl, hb⟩
  clear hk_p0
  clear c
  replace R_w0 := Lib.hid (R_w0.out.below hb)
  replace R_g0 := Lib.hid (R_g0.out.below hb)
  replace R_h0 := Lib.hid (R_h0.out.below hb)
  replace B_p0 := Lib.hid (B_p0.out.below hb)
  have z28 := hb.size
  replace hW := hW.trans (hb.mono hW.size)
  clear hb
  clear R_h0
  have c := ch_IntS 1 ((idSumL L0 L1 L2).length) c_g0 a_g0 w28 R_g0.out.slv (by omega) (by omega) (by omega)
  have hk_p0 : w28.cell? ⟨W.heap.size, 0, none⟩ = some (.slice a0 L0.length c0) := B_p0.out.cell 0
  go_wp2_with fail
  refine c.mono ?_
  rintro e w29 ⟨rfl, hb⟩
  clear hk_p0
  clear c
  replace R_w0 := Lib.hid (R_w0.out.below hb)
  replace R_g0 := Lib.hid (R_g0.out.below hb)
  replace B_p0 := Lib.hid (B_p0.out.below hb)
  have z29 := hb.size
  replace hW := hW.trans (hb.mono hW.size)
  clear hb
  have hk_p0 : w29.cell? ⟨W.heap.size, 0, none⟩ = some (.slice a0 L0.length c0) := B_p0.out.cell 0
  go_wp2_with fail
  go_ret
  exact ⟨rfl, H00.out.trans (hW.mono H00.out.size)⟩
end Go.Proofs.Ytelpgepeahkblaa
