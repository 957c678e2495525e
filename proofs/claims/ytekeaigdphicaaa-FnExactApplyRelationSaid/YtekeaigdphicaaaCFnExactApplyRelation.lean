/-
  THE WALK OF THE LAW FnExactApplyRelation over the contracts of both sides (written by genlaw.py of the verifier's own).
-/
import Derived.Test.YtekeaigdphicaaaRows
import Derived.Test.YtekeaigdphicaaaC14
namespace Go.Proofs.Ytekeaigdphicaaa
open Go Go.RowKit

set_option maxRecDepth 100000 in
set_option maxHeartbeats 3200000 in
theorem FnExactApplyRelation.core (L0 : List Int) (a0 : Option Addr) (c0 : Nat) (M0 : List Int) (b0 : Option Addr) (d0 : Nat) (L1 : List Int) (a1 : Option Addr) (c1 : Nat) (W : World) (hr0 : SlV W a0 (L0.map (Value.int .i64))) (hq0 : SlV W b0 (M0.map (Value.int .i64))) (hb0 : L0.length ≤ 1048576) (hd0 : M0.length ≤ 1048576) (hs0 : L0.length + M0.length ≤ 1048576) (hr1 : SlV W a1 (L1.map (Value.int .i64))) (hb1 : L1.length ≤ 1048576) :
    Calls Try.prog 3 #[.agg #[.slice a0 L0.length c0, .slice b0 M0.length d0], .slice a1 L1.length c1] W fun e w' => e = .returned (.bool true) ∧ Below W.heap.size W w' := by
  have hm0 := rl_len L0 M0 L1
  obtain ⟨W0, hW0⟩ : ∃ W0, W0 = (W.alloc (.cells #[.slice a0 L0.length c0, .slice b0 M0.length d0] 24)) := ⟨_, rfl⟩
  have h00 : Below W.heap.size W W0 := by rw [hW0]; exact ((Below.refl _ _).alloc (by simp) _)
  have hsz0 : W.heap.size + 1 ≤ W0.heap.size := by rw [hW0]; simp
  have B_p0 : Hid (Arr W0 W.heap.size 24 [.slice a0 L0.length c0, .slice b0 M0.length d0]) := Lib.hid (by
    rw [hW0]; exact Arr.new W 24 [.slice a0 L0.length c0, .slice b0 M0.length d0])
  have HW0 := Lib.hid hW0
  have H00 := Lib.hid h00
  clear hW0
  have HR0 := Lib.hid (hr0.below h00)
  clear hr0
  have HQ0 := Lib.hid (hq0.below h00)
  clear hq0
  have HR1 := Lib.hid (hr1.below h00)
  clear hr1
  clear h00
  have hW : Below W0.heap.size W0 W0 := Below.refl _ _
  go_enter Try.func3, Try.ntmps3
  have c := cz_Relation L0.length M0.length a0 b0 c0 d0 (1048576) W0 (by unfold maxLen; omega) (by unfold maxLen; omega) (by omega) (by omega)
  rw [szR_in (by omega)] at c
  have hl0 : (0 : Int) ≤ 1048576 - (L0.length : Int) - (M0.length : Int) := by omega
  have hk_p0 : W0.cell? ⟨W.heap.size, 0, none⟩ = some (.slice a0 L0.length c0) := B_p0.out.cell 0
  have hk_p01 : W0.cell? ⟨W.heap.size, 1, none⟩ = some (.slice b0 M0.length d0) := B_p0.out.cell 1
  rw [HW0.out] at hk_p0 hk_p01
  go_wp2_with fail
  rw [← HW0.out]
  refine c.mono ?_
  rintro e w1 ⟨rfl, hb⟩
  clear hk_p0 hk_p01
  clear c
  replace B_p0 := Lib.hid (B_p0.out.below hb)
  have z1 := hb.size
  replace hW := hW.trans (hb.mono hW.size)
  clear hb
  have c := ct_Relation L0 M0 a0 b0 c0 d0 w1 (HR0.out.below hW) (HQ0.out.below hW) hb0 hd0
  have hk_p0 : w1.cell? ⟨W.heap.size, 0, none⟩ = some (.slice a0 L0.length c0) := B_p0.out.cell 0
  have hk_p01 : w1.cell? ⟨W.heap.size, 1, none⟩ = some (.slice b0 M0.length d0) := B_p0.out.cell 1
  go_wp2_with fail
  refine c.mono ?_
  rintro e w2 ⟨a_t1, c_t1, a_t1b, c_t1b, mid_t1, rfl, rX, rY, hm_t1, hn_t1, hb⟩
  clear hk_p0 hk_p01
  clear c
  replace B_p0 := Lib.hid (B_p0.out.below hb)
  have z2 := hb.size
  replace hW := hW.trans (hb.mono hW.size)
  have R_t1 := Lib.hid rX
  have R_t1b := Lib.hid rY
  clear rX rY hb
  have c := ct_IntS L1 a1 c1 w2 (HR1.out.below hW) hb1
  have hk_p0 : w2.cell? ⟨W.heap.size, 0, none⟩ = some (.slice a0 L0.length c0) := B_p0.out.cell 0
  have hk_p01 : w2.cell? ⟨W.heap.size, 1, none⟩ = some (.slice b0 M0.length d0) := B_p0.out.cell 1
  go_wp2_with fail
  refine c.mono ?_
  rintro e w3 ⟨v, rfl, ho, hb⟩
  clear hk_p0 hk_p01
  obtain ⟨a_t2, c_t2, rfl, rX⟩ := row_open ho
  clear c ho
  replace R_t1 := Lib.hid (R_t1.out.below hb)
  replace R_t1b := Lib.hid (R_t1b.out.below hb)
  replace B_p0 := Lib.hid (B_p0.out.below hb)
  have z3 := hb.size
  replace hW := hW.trans (hb.mono hW.size)
  have R_t2 := Lib.hid rX
  clear rX hb
  have c := cs_ApplyRelation L0 a_t1 c_t1 M0 a_t1b c_t1b L1 a_t2 c_t2 w3 R_t1.out.slw R_t1b.out.slw R_t2.out.slw hb0 hd0 hb1
  have hk_p0 : w3.cell? ⟨W.heap.size, 0, none⟩ = some (.slice a0 L0.length c0) := B_p0.out.cell 0
  have hk_p01 : w3.cell? ⟨W.heap.size, 1, none⟩ = some (.slice b0 M0.length d0) := B_p0.out.cell 1
  go_wp2_with fail
  refine c.mono ?_
  rintro e w4 ⟨v, rfl, ho, hb⟩
  clear hk_p0 hk_p01
  obtain ⟨a_w0, c_w0, rfl, rX⟩ := row_open ho
  clear c ho
  replace R_t1 := Lib.hid (R_t1.out.below hb)
  replace R_t1b := Lib.hid (R_t1b.out.below hb)
  replace R_t2 := Lib.hid (R_t2.out.below hb)
  replace B_p0 := Lib.hid (B_p0.out.below hb)
  have z4 := hb.size
  replace hW := hW.trans (hb.mono hW.size)
  have R_w0 := Lib.hid rX
  clear rX hb
  clear R_t1b
  clear R_t1
  clear R_t2
  have c := ct_Relation L0 M0 a0 b0 c0 d0 w4 (HR0.out.below hW) (HQ0.out.below hW) hb0 hd0
  have hk_p0 : w4.cell? ⟨W.heap.size, 0, none⟩ = some (.slice a0 L0.length c0) := B_p0.out.cell 0
  have hk_p01 : w4.cell? ⟨W.heap.size, 1, none⟩ = some (.slice b0 M0.length d0) := B_p0.out.cell 1
  go_wp2_with fail
  refine c.mono ?_
  rintro e w5 ⟨a_x0, c_x0, a_x0b, c_x0b, mid_x0, rfl, rX, rY, hm_x0, hn_x0, hb⟩
  clear hk_p0 hk_p01
  clear c
  replace R_w0 := Lib.hid (R_w0.out.below hb)
  replace B_p0 := Lib.hid (B_p0.out.below hb)
  have z5 := hb.size
  replace hW := hW.trans (hb.mono hW.size)
  have R_x0 := Lib.hid rX
  have R_x0b := Lib.hid rY
  clear rX rY hb
  obtain ⟨w6, hwb⟩ : ∃ wb, wb = w5.alloc (.cells #[.slice a_x0 L0.length c_x0, .slice a_x0b M0.length c_x0b] 28) := ⟨_, rfl⟩
  have hb : Below w5.heap.size w5 w6 := by rw [hwb]; exact (Below.refl _ _).alloc (Nat.le_refl _) _
  have hA : Arr w6 w5.heap.size 28 [.slice a_x0 L0.length c_x0, .slice a_x0b M0.length c_x0b] := by rw [hwb]; exact Arr.new _ _ _
  replace R_w0 := Lib.hid (R_w0.out.below hb)
  replace R_x0 := Lib.hid (R_x0.out.below hb)
  replace R_x0b := Lib.hid (R_x0b.out.below hb)
  replace B_p0 := Lib.hid (B_p0.out.below hb)
  have z6 : w5.heap.size < w6.heap.size := hA.lt
  replace hW := hW.trans (hb.mono hW.size)
  have B_x0 := Lib.hid hA
  have H_w6 := Lib.hid hwb
  clear hwb hb hA
  have c := ct_IntS L1 a1 c1 w6 (HR1.out.below hW) hb1
  have hk_p0 : w6.cell? ⟨W.heap.size, 0, none⟩ = some (.slice a0 L0.length c0) := B_p0.out.cell 0
  have hk_p01 : w6.cell? ⟨W.heap.size, 1, none⟩ = some (.slice b0 M0.length d0) := B_p0.out.cell 1
  have hk_x0 : w6.cell? ⟨w5.heap.size, 0, none⟩ = some (.slice a_x0 L0.length c_x0) := B_x0.out.cell 0
  have hk_x01 : w6.cell? ⟨w5.heap.size, 1, none⟩ = some (.slice a_x0b M0.length c_x0b) := B_x0.out.cell 1
  rw [H_w6.out] at hk_p0 hk_p01 hk_x0 hk_x01
  go_wp2_with fail
  rw [← H_w6.out]
  refine c.mono ?_
  rintro e w7 ⟨v, rfl, ho, hb⟩
  clear hk_p0 hk_p01 hk_x0 hk_x01
  obtain ⟨a_x1, c_x1, rfl, rX⟩ := row_open ho
  clear c ho
  replace R_w0 := Lib.hid (R_w0.out.below hb)
  replace R_x0 := Lib.hid (R_x0.out.below hb)
  replace R_x0b := Lib.hid (R_x0b.out.below hb)
  replace B_p0 := Lib.hid (B_p0.out.below hb)
  replace B_x0 := Lib.hid (B_x0.out.below hb)
  have z7 := hb.size
  replace hW := hW.trans (hb.mono hW.size)
  have R_x1 := Lib.hid rX
  clear rX hb
  have c := ci_ApplyRelation L0 a_x0 c_x0 M0 a_x0b c_x0b L1 a_x1 c_x1 w7 R_x0.out.slw R_x0b.out.slw R_x1.out.slw hb0 hd0 hb1
  have hk_p0 : w7.cell? ⟨W.heap.size, 0, none⟩ = some (.slice a0 L0.length c0) := B_p0.out.cell 0
  have hk_p01 : w7.cell? ⟨W.heap.size, 1, none⟩ = some (.slice b0 M0.length d0) := B_p0.out.cell 1
  have hk_x0 : w7.cell? ⟨w5.heap.size, 0, none⟩ = some (.slice a_x0 L0.length c_x0) := B_x0.out.cell 0
  have hk_x01 : w7.cell? ⟨w5.heap.size, 1, none⟩ = some (.slice a_x0b M0.length c_x0b) := B_x0.out.cell 1
  go_wp2_with fail
  refine c.mono ?_
  rintro e w8 ⟨v, rfl, ho, hb⟩
  clear hk_p0 hk_p01 hk_x0 hk_x01
  obtain ⟨a_g0, c_g0, rfl, rX⟩ := row_open ho
  clear c ho
  replace R_w0 := Lib.hid (R_w0.out.below hb)
  replace R_x0 := Lib.hid (R_x0.out.below hb)
  replace R_x0b := Lib.hid (R_x0b.out.below hb)
  replace R_x1 := Lib.hid (R_x1.out.below hb)
  replace B_p0 := Lib.hid (B_p0.out.below hb)
  replace B_x0 := Lib.hid (B_x0.out.below hb)
  have z8 := hb.size
  replace hW := hW.trans (hb.mono hW.size)
  have R_g0 := Lib.hid rX
  clear rX hb
  have c := ce_IntS (rlL L0 M0 L1) (rlL L0 M0 L1) a_g0 a_w0 c_g0 c_w0 w8 R_g0.out.slv R_w0.out.slv (by omega) (by omega)
  rw [decide_eq_true (rfl : (rlL L0 M0 L1) = (rlL L0 M0 L1))] at c
  have hk_p0 : w8.cell? ⟨W.heap.size, 0, none⟩ = some (.slice a0 L0.length c0) := B_p0.out.cell 0
  have hk_p01 : w8.cell? ⟨W.heap.size, 1, none⟩ = some (.slice b0 M0.length d0) := B_p0.out.cell 1
  have hk_x0 : w8.cell? ⟨w5.heap.size, 0, none⟩ = some (.slice a_x0 L0.length c_x0) := B_x0.out.cell 0
  have hk_x01 : w8.cell? ⟨w5.heap.size, 1, none⟩ = some (.slice a_x0b M0.length c_x0b) := B_x0.out.cell 1
  go_wp2_with fail
  refine c.mono ?_
  rintro e w9 ⟨rfl, hb⟩
  clear hk_p0 hk_p01 hk_x0 hk_x01
  clear c
  replace R_w0 := Lib.hid (R_w0.out.below hb)
  replace R_x0 := Lib.hid (R_x0.out.below hb)
  replace R_x0b := Lib.hid (R_x0b.out.below hb)
  replace R_x1 := Lib.hid (R_x1.out.below hb)
  replace R_g0 := Lib.hid (R_g0.out.below hb)
  replace B_p0 := Lib.hid (B_p0.out.below hb)
  replace B_x0 := Lib.hid (B_x0.out.below hb)
  have z9 := hb.size
  replace hW := hW.trans (hb.mono hW.size)
  clear hb
  have ctf := fun w' (h : w'.cell? ⟨w5.heap.size, 0, none⟩ = some (.slice a_x0 L0.length c_x0) ∧ w'.cell? ⟨w5.heap.size, 1, none⟩ = some (.slice a_x0b M0.length c_x0b) ∧ w'.cell? ⟨W.heap.size, 0, none⟩ = some (.slice a0 L0.length c0) ∧ w'.cell? ⟨W.heap.size, 1, none⟩ = some (.slice b0 M0.length d0) ∧ Below w9.heap.size w9 w') => ct_Relation L0 M0 a0 b0 c0 d0 w' (HR0.out.below (hW.trans (h.2.2.2.2.mono hW.size))) (HQ0.out.below (hW.trans (h.2.2.2.2.mono hW.size))) hb0 hd0
  have HS := Lib.hid (show w9.drew.cell? ⟨w5.heap.size, 0, none⟩ = some (.slice a_x0 L0.length c_x0) ∧ w9.drew.cell? ⟨w5.heap.size, 1, none⟩ = some (.slice a_x0b M0.length c_x0b) ∧ w9.drew.cell? ⟨W.heap.size, 0, none⟩ = some (.slice a0 L0.length c0) ∧ w9.drew.cell? ⟨W.heap.size, 1, none⟩ = some (.slice b0 M0.length d0) ∧ Below w9.heap.size w9 w9.drew from ⟨B_x0.out.cell 0, B_x0.out.cell 1, B_p0.out.cell 0, B_p0.out.cell 1, (Below.refl _ _).drew⟩)
  have hlx := B_x0.out.lt
  have hlp := B_p0.out.lt
  go_wp2_with fail
  go_region_held3 (fun w' => w'.cell? ⟨w5.heap.size, 0, none⟩ = some (.slice a_x0 L0.length c_x0) ∧ w'.cell? ⟨w5.heap.size, 1, none⟩ = some (.slice a_x0b M0.length c_x0b) ∧ w'.cell? ⟨W.heap.size, 0, none⟩ = some (.slice a0 L0.length c0) ∧ w'.cell? ⟨W.heap.size, 1, none⟩ = some (.slice b0 M0.length d0) ∧ Below w9.heap.size w9 w')
    (first | exact HS.out | assumption | exact held_keep4 hlx hlx hlp hlp (by assumption) (by assumption))
    ((first | (go_at_call 7; (with_reducible refine (ctf _ (by assumption)).mono ?_); rintro e w10 ⟨a_t, c_t, a_tb, c_tb, mid_t, rfl, rX, rY, -, -, hb2⟩; have ce := ce_Relation L0 M0 a_x0 a_x0b a_t a_tb c_x0 c_x0b c_t c_tb w10 (R_x0.out.slv.below ((Below.refl _ _).drew.trans hb2)) (R_x0b.out.slv.below ((Below.refl _ _).drew.trans hb2)) rX.slv rY.slv hb0 hd0; clear rX rY)
             | (go_at_call 11; (with_reducible refine ce.mono ?_); rintro e w11 ⟨rfl, hb3⟩)))
  have hb : Below w9.heap.size w9 w11 := ((Below.refl w9.heap.size w9).drew.trans hb2).trans (hb3.mono hb2.size)
  clear ctf HS hlx hlp ce hb2 hb3
  replace R_w0 := Lib.hid (R_w0.out.below hb)
  replace R_x0 := Lib.hid (R_x0.out.below hb)
  replace R_x0b := Lib.hid (R_x0b.out.below hb)
  replace R_x1 := Lib.hid (R_x1.out.below hb)
  replace R_g0 := Lib.hid (R_g0.out.below hb)
  replace B_p0 := Lib.hid (B_p0.out.below hb)
  replace B_x0 := Lib.hid (B_x0.out.below hb)
  have z11 := hb.size
  replace hW := hW.trans (hb.mono hW.size)
  clear hb
  have c := ct_IntS L1 a1 c1 w11 (HR1.out.below hW) hb1
  have hk_p0 : w11.cell? ⟨W.heap.size, 0, none⟩ = some (.slice a0 L0.length c0) := B_p0.out.cell 0
  have hk_p01 : w11.cell? ⟨W.heap.size, 1, none⟩ = some (.slice b0 M0.length d0) := B_p0.out.cell 1
  have hk_x0 : w11.cell? ⟨w5.heap.size, 0, none⟩ = some (.slice a_x0 L0.length c_x0) := B_x0.out.cell 0
  have hk_x01 : w11.cell? ⟨w5.heap.size, 1, none⟩ = some (.slice a_x0b M0.length c_x0b) := B_x0.out.cell 1
  go_wp2_with fail
  refine c.mono ?_
  rintro e w12 ⟨v, rfl, ho, hb⟩
  clear hk_p0 hk_p01 hk_x0 hk_x01
  obtain ⟨a_t3, c_t3, rfl, rX⟩ := row_open ho
  clear c ho
  replace R_w0 := Lib.hid (R_w0.out.below hb)
  replace R_x0 := Lib.hid (R_x0.out.below hb)
  replace R_x0b := Lib.hid (R_x0b.out.below hb)
  replace R_x1 := Lib.hid (R_x1.out.below hb)
  replace R_g0 := Lib.hid (R_g0.out.below hb)
  replace B_p0 := Lib.hid (B_p0.out.below hb)
  replace B_x0 := Lib.hid (B_x0.out.below hb)
  have z12 := hb.size
  replace hW := hW.trans (hb.mono hW.size)
  have R_t3 := Lib.hid rX
  clear rX hb
  have c := ce_IntS (L1) (L1) a_x1 a_t3 c_x1 c_t3 w12 R_x1.out.slv R_t3.out.slv (by omega) (by omega)
  rw [decide_eq_true (rfl : (L1) = (L1))] at c
  have hk_p0 : w12.cell? ⟨W.heap.size, 0, none⟩ = some (.slice a0 L0.length c0) := B_p0.out.cell 0
  have hk_p01 : w12.cell? ⟨W.heap.size, 1, none⟩ = some (.slice b0 M0.length d0) := B_p0.out.cell 1
  have hk_x0 : w12.cell? ⟨w5.heap.size, 0, none⟩ = some (.slice a_x0 L0.length c_x0) := B_x0.out.cell 0
  have hk_x01 : w12.cell? ⟨w5.heap.size, 1, none⟩ = some (.slice a_x0b M0.length c_x0b) := B_x0.out.cell 1
  go_wp2_with fail
  refine c.mono ?_
  rintro e w13 ⟨rfl, hb⟩
  clear hk_p0 hk_p01 hk_x0 hk_x01
  clear c
  replace R_w0 := Lib.hid (R_w0.out.below hb)
  replace R_x0 := Lib.hid (R_x0.out.below hb)
  replace R_x0b := Lib.hid (R_x0b.out.below hb)
  replace R_x1 := Lib.hid (R_x1.out.below hb)
  replace R_g0 := Lib.hid (R_g0.out.below hb)
  replace R_t3 := Lib.hid (R_t3.out.below hb)
  replace B_p0 := Lib.hid (B_p0.out.below hb)
  replace B_x0 := Lib.hid (B_x0.out.below hb)
  have z13 := hb.size
  replace hW := hW.trans (hb.mono hW.size)
  clear hb
  clear R_t3
  have rX := R_x0.out
  have rY := R_x0b.out
  have c := cm_Relation (1) w4.heap.size L0.length mid_x0 M0.length _ _ _ _ w13 rX.own rY.own (fun j hj e => by have h1 := rX.blk j e; have h2 := (rY.own.lt j hj).1; omega) (by omega) (by omega) (by omega) (by omega)
  have hk_p0 : w13.cell? ⟨W.heap.size, 0, none⟩ = some (.slice a0 L0.length c0) := B_p0.out.cell 0
  have hk_p01 : w13.cell? ⟨W.heap.size, 1, none⟩ = some (.slice b0 M0.length d0) := B_p0.out.cell 1
  have hk_x0 : w13.cell? ⟨w5.heap.size, 0, none⟩ = some (.slice a_x0 L0.length c_x0) := B_x0.out.cell 0
  have hk_x01 : w13.cell? ⟨w5.heap.size, 1, none⟩ = some (.slice a_x0b M0.length c_x0b) := B_x0.out.cell 1
  go_wp2_with fail
  refine c.mono ?_
  rintro e w14 ⟨wm14, rfl, ho1, hg1, ho2, hg2⟩
  clear hk_p0 hk_p01 hk_x0 hk_x01
  clear c rY
  replace R_w0 := Lib.hid (R_w0.out.grown hg1 (fun j hj => by have h1 := rX.blk j hj; have h2 := (rX.own.lt j hj).1; omega))
  replace R_x0b := Lib.hid (R_x0b.out.grown hg1 (fun j hj => by have h1 := rX.blk j hj; have h2 := (rX.own.lt j hj).1; omega))
  replace R_x1 := Lib.hid (R_x1.out.grown hg1 (fun j hj => by have h1 := rX.blk j hj; have h2 := (rX.own.lt j hj).1; omega))
  replace R_g0 := Lib.hid (R_g0.out.grown hg1 (fun j hj => by have h1 := rX.blk j hj; have h2 := (rX.own.lt j hj).1; omega))
  replace B_p0 := Lib.hid (B_p0.out.grownRow hg1 (fun j hj => by have h1 := rX.blk j hj; have h2 := (rX.own.lt j hj).1; omega))
  replace B_x0 := Lib.hid (B_x0.out.grownRow hg1 (fun j hj => by have h1 := rX.blk j hj; have h2 := (rX.own.lt j hj).1; omega))
  have z14m := hg1.size
  replace hW := hW.grown hg1 hW.size (fun j hj => by have h1 := (rX.own.lt j hj).1; omega)
  replace R_x0 := Lib.hid (Row.remade rX ho1 hg1)
  clear rX ho1 hg1
  have rX := R_x0b.out
  replace R_w0 := Lib.hid (R_w0.out.grown hg2 (fun j hj => by have h1 := rX.blk j hj; have h2 := (rX.own.lt j hj).1; omega))
  replace R_x0 := Lib.hid (R_x0.out.grown hg2 (fun j hj => by have h1 := rX.blk j hj; have h2 := (rX.own.lt j hj).1; omega))
  replace R_x1 := Lib.hid (R_x1.out.grown hg2 (fun j hj => by have h1 := rX.blk j hj; have h2 := (rX.own.lt j hj).1; omega))
  replace R_g0 := Lib.hid (R_g0.out.grown hg2 (fun j hj => by have h1 := rX.blk j hj; have h2 := (rX.own.lt j hj).1; omega))
  replace B_p0 := Lib.hid (B_p0.out.grownRow hg2 (fun j hj => by have h1 := rX.blk j hj; have h2 := (rX.own.lt j hj).1; omega))
  replace B_x0 := Lib.hid (B_x0.out.grownRow hg2 (fun j hj => by have h1 := rX.blk j hj; have h2 := (rX.own.lt j hj).1; omega))
  have z14 := hg2.size
  replace hW := hW.grown hg2 hW.size (fun j hj => by have h1 := (rX.own.lt j hj).1; omega)
  replace R_x0b := Lib.hid (Row.remade rX ho2 hg2)
  clear rX ho2 hg2
  clear R_x0b
  clear R_x0
  clear B_x0
  have rX := R_x1.out
  have c := cm_IntS (1 + L0.length + M0.length) w6.heap.size L1.length _ _ w14 rX.own (by omega) (by omega) (by omega)
  have hk_p0 : w14.cell? ⟨W.heap.size, 0, none⟩ = some (.slice a0 L0.length c0) := B_p0.out.cell 0
  have hk_p01 : w14.cell? ⟨W.heap.size, 1, none⟩ = some (.slice b0 M0.length d0) := B_p0.out.cell 1
  go_wp2_with fail
  refine c.mono ?_
  rintro e w15 ⟨rfl, ho, hg⟩
  clear hk_p0 hk_p01
  clear c
  replace R_w0 := Lib.hid (R_w0.out.grown hg (fun j hj => by have h1 := rX.blk j hj; have h2 := (rX.own.lt j hj).1; omega))
  replace R_g0 := Lib.hid (R_g0.out.grown hg (fun j hj => by have h1 := rX.blk j hj; have h2 := (rX.own.lt j hj).1; omega))
  replace B_p0 := Lib.hid (B_p0.out.grownRow hg (fun j hj => by have h1 := rX.blk j hj; have h2 := (rX.own.lt j hj).1; omega))
  have z15 := hg.size
  replace hW := hW.grown hg hW.size (fun j hj => by have h1 := (rX.own.lt j hj).1; omega)
  replace R_x1 := Lib.hid (Row.remade rX ho hg)
  clear rX ho hg
  clear R_x1
  have c := ce_IntS (rlL L0 M0 L1) (rlL L0 M0 L1) a_g0 a_w0 c_g0 c_w0 w15 R_g0.out.slv R_w0.out.slv (by omega) (by omega)
  rw [decide_eq_true (rfl : (rlL L0 M0 L1) = (rlL L0 M0 L1))] at c
  have hk_p0 : w15.cell? ⟨W.heap.size, 0, none⟩ = some (.slice a0 L0.length c0) := B_p0.out.cell 0
  have hk_p01 : w15.cell? ⟨W.heap.size, 1, none⟩ = some (.slice b0 M0.length d0) := B_p0.out.cell 1
  go_wp2_with fail
  refine c.mono ?_
  rintro e w16 ⟨rfl, hb⟩
  clear hk_p0 hk_p01
  clear c
  replace R_w0 := Lib.hid (R_w0.out.below hb)
  replace R_g0 := Lib.hid (R_g0.out.below hb)
  replace B_p0 := Lib.hid (B_p0.out.below hb)
  have z16 := hb.size
  replace hW := hW.trans (hb.mono hW.size)
  clear hb
  have rX := R_g0.out
  have c := cm_IntS (1) w7.heap.size (rlL L0 M0 L1).length _ _ w16 rX.own (by omega) (by omega) (by omega)
  have hk_p0 : w16.cell? ⟨W.heap.size, 0, none⟩ = some (.slice a0 L0.length c0) := B_p0.out.cell 0
  have hk_p01 : w16.cell? ⟨W.heap.size, 1, none⟩ = some (.slice b0 M0.length d0) := B_p0.out.cell 1
  go_wp2_with fail
  refine c.mono ?_
  rintro e w17 ⟨rfl, ho, hg⟩
  clear hk_p0 hk_p01
  clear c
  replace R_w0 := Lib.hid (R_w0.out.grown hg (fun j hj => by have h1 := rX.blk j hj; have h2 := (rX.own.lt j hj).1; omega))
  replace B_p0 := Lib.hid (B_p0.out.grownRow hg (fun j hj => by have h1 := rX.blk j hj; have h2 := (rX.own.lt j hj).1; omega))
  have z17 := hg.size
  replace hW := hW.grown hg hW.size (fun j hj => by have h1 := (rX.own.lt j hj).1; omega)
  replace R_g0 := Lib.hid (Row.remade rX ho hg)
  clear rX ho hg
  have c := ch_IntS 1 ((rlL L0 M0 L1).length) c_g0 a_g0 w17 R_g0.out.slv (by omega) (by omega) (by omega)
  have hk_p0 : w17.cell? ⟨W.heap.size, 0, none⟩ = some (.slice a0 L0.length c0) := B_p0.out.cell 0
  have hk_p01 : w17.cell? ⟨W.heap.size, 1, none⟩ = some (.slice b0 M0.length d0) := B_p0.out.cell 1
  go_wp2_with fail
  refine c.mono ?_
  rintro e w18 ⟨rfl, hb⟩
  clear hk_p0 hk_p01
  clear c
  replace R_w0 := Lib.hid (R_w0.out.below hb)
  replace R_g0 := Lib.hid (R_g0.out.below hb)
  replace B_p0 := Lib.hid (B_p0.out.below hb)
  have z18 := hb.size
  replace hW := hW.trans (hb.mono hW.size)
  clear hb
  have c := ct_Relation L0 M0 a0 b0 c0 d0 w18 (HR0.out.below hW) (HQ0.out.below hW) hb0 hd0
  have hk_p0 : w18.cell? ⟨W.heap.size, 0, none⟩ = some (.slice a0 L0.length c0) := B_p0.out.cell 0
  have hk_p01 : w18.cell? ⟨W.heap.size, 1, none⟩ = some (.slice b0 M0.length d0) := B_p0.out.cell 1
  go_wp2_with fail
  refine c.mono ?_
  rintro e w19 ⟨a_t4, c_t4, a_t4b, c_t4b, mid_t4, rfl, rX, rY, hm_t4, hn_t4, hb⟩
  clear hk_p0 hk_p01
  clear c
  replace R_w0 := Lib.hid (R_w0.out.below hb)
  replace R_g0 := Lib.hid (R_g0.out.below hb)
  replace B_p0 := Lib.hid (B_p0.out.below hb)
  have z19 := hb.size
  replace hW := hW.trans (hb.mono hW.size)
  have R_t4 := Lib.hid rX
  have R_t4b := Lib.hid rY
  clear rX rY hb
  have c := ct_IntS L1 a1 c1 w19 (HR1.out.below hW) hb1
  have hk_p0 : w19.cell? ⟨W.heap.size, 0, none⟩ = some (.slice a0 L0.length c0) := B_p0.out.cell 0
  have hk_p01 : w19.cell? ⟨W.heap.size, 1, none⟩ = some (.slice b0 M0.length d0) := B_p0.out.cell 1
  go_wp2_with fail
  refine c.mono ?_
  rintro e w20 ⟨v, rfl, ho, hb⟩
  clear hk_p0 hk_p01
  obtain ⟨a_t5, c_t5, rfl, rX⟩ := row_open ho
  clear c ho
  replace R_w0 := Lib.hid (R_w0.out.below hb)
  replace R_g0 := Lib.hid (R_g0.out.below hb)
  replace R_t4 := Lib.hid (R_t4.out.below hb)
  replace R_t4b := Lib.hid (R_t4b.out.below hb)
  replace B_p0 := Lib.hid (B_p0.out.below hb)
  have z20 := hb.size
  replace hW := hW.trans (hb.mono hW.size)
  have R_t5 := Lib.hid rX
  clear rX hb
  have c := ci_ApplyRelation L0 a_t4 c_t4 M0 a_t4b c_t4b L1 a_t5 c_t5 w20 R_t4.out.slw R_t4b.out.slw R_t5.out.slw hb0 hd0 hb1
  have hk_p0 : w20.cell? ⟨W.heap.size, 0, none⟩ = some (.slice a0 L0.length c0) := B_p0.out.cell 0
  have hk_p01 : w20.cell? ⟨W.heap.size, 1, none⟩ = some (.slice b0 M0.length d0) := B_p0.out.cell 1
  go_wp2_with fail
  refine c.mono ?_
  rintro e w21 ⟨v, rfl, ho, hb⟩
  clear hk_p0 hk_p01
  obtain ⟨a_h0, c_h0, rfl, rX⟩ := row_open ho
  clear c ho
  replace R_w0 := Lib.hid (R_w0.out.below hb)
  replace R_g0 := Lib.hid (R_g0.out.below hb)
  replace R_t4 := Lib.hid (R_t4.out.below hb)
  replace R_t4b := Lib.hid (R_t4b.out.below hb)
  replace R_t5 := Lib.hid (R_t5.out.below hb)
  replace B_p0 := Lib.hid (B_p0.out.below hb)
  have z21 := hb.size
  replace hW := hW.trans (hb.mono hW.size)
  have R_h0 := Lib.hid rX
  clear rX hb
  clear R_t4b
  clear R_t4
  clear R_t5
  have c := ce_IntS (rlL L0 M0 L1) (rlL L0 M0 L1) a_h0 a_w0 c_h0 c_w0 w21 R_h0.out.slv R_w0.out.slv (by omega) (by omega)
  rw [decide_eq_true (rfl : (rlL L0 M0 L1) = (rlL L0 M0 L1))] at c
  have hk_p0 : w21.cell? ⟨W.heap.size, 0, none⟩ = some (.slice a0 L0.length c0) := B_p0.out.cell 0
  have hk_p01 : w21.cell? ⟨W.heap.size, 1, none⟩ = some (.slice b0 M0.length d0) := B_p0.out.cell 1
  go_wp2_with fail
  refine c.mono ?_
  rintro e w22 ⟨rfl, hb⟩
  clear hk_p0 hk_p01
  clear c
  replace R_w0 := Lib.hid (R_w0.out.below hb)
  replace R_g0 := Lib.hid (R_g0.out.below hb)
  replace R_h0 := Lib.hid (R_h0.out.below hb)
  replace B_p0 := Lib.hid (B_p0.out.below hb)
  have z22 := hb.size
  replace hW := hW.trans (hb.mono hW.size)
  clear hb
  clear R_h0
  have c := ch_IntS 1 ((rlL L0 M0 L1).length) c_g0 a_g0 w22 R_g0.out.slv (by omega) (by omega) (by omega)
  have hk_p0 : w22.cell? ⟨W.heap.size, 0, none⟩ = some (.slice a0 L0.length c0) := B_p0.out.cell 0
  have hk_p01 : w22.cell? ⟨W.heap.size, 1, none⟩ = some (.slice b0 M0.length d0) := B_p0.out.cell 1
  go_wp2_with fail
  refine c.mono ?_
  rintro e w23 ⟨rfl, hb⟩
  clear hk_p0 hk_p01
  clear c
  replace R_w0 := Lib.hid (R_w0.out.below hb)
  replace R_g0 := Lib.hid (R_g0.out.below hb)
  replace B_p0 := Lib.hid (B_p0.out.below hb)
  have z23 := hb.size
  replace hW := hW.trans (hb.mono hW.size)
  clear hb
  have hk_p0 : w23.cell? ⟨W.heap.size, 0, none⟩ = some (.slice a0 L0.length c0) := B_p0.out.cell 0
  have hk_p01 : w23.cell? ⟨W.heap.size, 1, none⟩ = some (.slice b0 M0.length d0) := B_p0.out.cell 1
  go_wp2_with fail
  go_ret
  exact ⟨rfl, H00.out.trans (hW.mono H00.out.size)⟩
end Go.Proofs.Ytekeaigdphicaaa
