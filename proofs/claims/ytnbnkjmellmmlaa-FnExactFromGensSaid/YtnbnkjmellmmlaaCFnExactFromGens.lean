/-
  THE WALK OF THE LAW FnExactFromGens over the contracts of both sides (written by genlaw.py of the verifier's own).
-/
import Derived.Test.YtnbnkjmellmmlaaRows
import Derived.Test.YtnbnkjmellmmlaaC3
namespace Go.Proofs.Ytnbnkjmellmmlaa
open Go Go.RowKit

set_option maxRecDepth 100000 in
set_option maxHeartbeats 3200000 in
theorem FnExactFromGens.core (L0 : List Int) (a0 : Option Addr) (c0 : Nat) (W : World) (hr0 : SlV W a0 (L0.map (Value.int .i64))) (hb0 : L0.length ≤ 1048576) :
    Calls Try.prog 6 #[.slice a0 L0.length c0] W fun e w' => e = .returned (.bool true) ∧ Below W.heap.size W w' := by
  have hm0 := fromL_length_le L0
  have HR0 := Lib.hid hr0
  clear hr0
  have hW : Below W.heap.size W W := Below.refl _ _
  go_enter Try.func6, Try.ntmps6
  have c := ct_IntS L0 a0 c0 W (HR0.out.below hW) hb0
  go_wp2_with fail
  refine c.mono ?_
  rintro e w1 ⟨v, rfl, ho, hb⟩
  obtain ⟨a_t1, c_t1, rfl, rX⟩ := row_open ho
  clear c ho
  have z1 := hb.size
  replace hW := hW.trans (hb.mono hW.size)
  have R_t1 := Lib.hid rX
  clear rX hb
  have c := cs_FromGens L0 a_t1 c_t1 w1 R_t1.out.slw hb0
  go_wp2_with fail
  refine c.mono ?_
  rintro e w2 ⟨v, rfl, ho, hb⟩
  obtain ⟨a_w0, c_w0, rfl, rX⟩ := row_open ho
  clear c ho
  replace R_t1 := Lib.hid (R_t1.out.below hb)
  have z2 := hb.size
  replace hW := hW.trans (hb.mono hW.size)
  have R_w0 := Lib.hid rX
  clear rX hb
  obtain ⟨w3, hwb⟩ : ∃ wb, wb = w2.alloc (.cells #[.slice a_w0 (fromL L0).length c_w0] 30) := ⟨_, rfl⟩
  have hb : Below w2.heap.size w2 w3 := by rw [hwb]; exact (Below.refl _ _).alloc (Nat.le_refl _) _
  have hA : Arr w3 w2.heap.size 30 [.slice a_w0 (fromL L0).length c_w0] := by rw [hwb]; exact Arr.new _ _ _
  replace R_t1 := Lib.hid (R_t1.out.below hb)
  replace R_w0 := Lib.hid (R_w0.out.below hb)
  have z3 : w2.heap.size < w3.heap.size := hA.lt
  replace hW := hW.trans (hb.mono hW.size)
  have B_w0 := Lib.hid hA
  have H_w3 := Lib.hid hwb
  clear hwb hb hA
  clear R_t1
  have c := ct_IntS L0 a0 c0 w3 (HR0.out.below hW) hb0
  have hk_w0 : w3.cell? ⟨w2.heap.size, 0, none⟩ = some (.slice a_w0 (fromL L0).length c_w0) := B_w0.out.cell 0
  rw [H_w3.out] at hk_w0
  go_wp2_with fail
  rw [← H_w3.out]
  refine c.mono ?_
  rintro e w4 ⟨v, rfl, ho, hb⟩
  clear hk_w0
  obtain ⟨a_x0, c_x0, rfl, rX⟩ := row_open ho
  clear c ho
  replace R_w0 := Lib.hid (R_w0.out.below hb)
  replace B_w0 := Lib.hid (B_w0.out.below hb)
  have z4 := hb.size
  replace hW := hW.trans (hb.mono hW.size)
  have R_x0 := Lib.hid rX
  clear rX hb
  have c := ci_FromGens L0 a_x0 c_x0 w4 R_x0.out.slw hb0
  have hk_w0 : w4.cell? ⟨w2.heap.size, 0, none⟩ = some (.slice a_w0 (fromL L0).length c_w0) := B_w0.out.cell 0
  go_wp2_with fail
  refine c.mono ?_
  rintro e w5 ⟨v, rfl, ho, hb⟩
  clear hk_w0
  obtain ⟨a_g0, c_g0, rfl, rX⟩ := row_open ho
  clear c ho
  replace R_w0 := Lib.hid (R_w0.out.below hb)
  replace R_x0 := Lib.hid (R_x0.out.below hb)
  replace B_w0 := Lib.hid (B_w0.out.below hb)
  have z5 := hb.size
  replace hW := hW.trans (hb.mono hW.size)
  have R_g0 := Lib.hid rX
  clear rX hb
  obtain ⟨w6, hwb⟩ : ∃ wb, wb = w5.alloc (.cells #[.slice a_g0 (fromL L0).length c_g0] 30) := ⟨_, rfl⟩
  have hb : Below w5.heap.size w5 w6 := by rw [hwb]; exact (Below.refl _ _).alloc (Nat.le_refl _) _
  have hA : Arr w6 w5.heap.size 30 [.slice a_g0 (fromL L0).length c_g0] := by rw [hwb]; exact Arr.new _ _ _
  replace R_w0 := Lib.hid (R_w0.out.below hb)
  replace R_x0 := Lib.hid (R_x0.out.below hb)
  replace R_g0 := Lib.hid (R_g0.out.below hb)
  replace B_w0 := Lib.hid (B_w0.out.below hb)
  have z6 : w5.heap.size < w6.heap.size := hA.lt
  replace hW := hW.trans (hb.mono hW.size)
  have B_g0 := Lib.hid hA
  have H_w6 := Lib.hid hwb
  clear hwb hb hA
  have c := ce_Semigroup (fromL L0) (fromL L0) a_g0 a_w0 c_g0 c_w0 w6 R_g0.out.slv R_w0.out.slv (by omega) (by omega)
  rw [decide_eq_true (rfl : (fromL L0) = (fromL L0))] at c
  have hk_w0 : w6.cell? ⟨w2.heap.size, 0, none⟩ = some (.slice a_w0 (fromL L0).length c_w0) := B_w0.out.cell 0
  have hk_g0 : w6.cell? ⟨w5.heap.size, 0, none⟩ = some (.slice a_g0 (fromL L0).length c_g0) := B_g0.out.cell 0
  rw [H_w6.out] at hk_w0 hk_g0
  go_wp2_with fail
  rw [← H_w6.out]
  refine c.mono ?_
  rintro e w7 ⟨rfl, hb⟩
  clear hk_w0 hk_g0
  clear c
  replace R_w0 := Lib.hid (R_w0.out.below hb)
  replace R_x0 := Lib.hid (R_x0.out.below hb)
  replace R_g0 := Lib.hid (R_g0.out.below hb)
  replace B_w0 := Lib.hid (B_w0.out.below hb)
  replace B_g0 := Lib.hid (B_g0.out.below hb)
  have z7 := hb.size
  replace hW := hW.trans (hb.mono hW.size)
  clear hb
  have c := ct_IntS L0 a0 c0 w7 (HR0.out.below hW) hb0
  have hk_w0 : w7.cell? ⟨w2.heap.size, 0, none⟩ = some (.slice a_w0 (fromL L0).length c_w0) := B_w0.out.cell 0
  have hk_g0 : w7.cell? ⟨w5.heap.size, 0, none⟩ = some (.slice a_g0 (fromL L0).length c_g0) := B_g0.out.cell 0
  go_wp2_with fail
  refine c.mono ?_
  rintro e w8 ⟨v, rfl, ho, hb⟩
  clear hk_w0 hk_g0
  obtain ⟨a_t2, c_t2, rfl, rX⟩ := row_open ho
  clear c ho
  replace R_w0 := Lib.hid (R_w0.out.below hb)
  replace R_x0 := Lib.hid (R_x0.out.below hb)
  replace R_g0 := Lib.hid (R_g0.out.below hb)
  replace B_w0 := Lib.hid (B_w0.out.below hb)
  replace B_g0 := Lib.hid (B_g0.out.below hb)
  have z8 := hb.size
  replace hW := hW.trans (hb.mono hW.size)
  have R_t2 := Lib.hid rX
  clear rX hb
  have c := ce_IntS (L0) (L0) a_x0 a_t2 c_x0 c_t2 w8 R_x0.out.slv R_t2.out.slv (by omega) (by omega)
  rw [decide_eq_true (rfl : (L0) = (L0))] at c
  have hk_w0 : w8.cell? ⟨w2.heap.size, 0, none⟩ = some (.slice a_w0 (fromL L0).length c_w0) := B_w0.out.cell 0
  have hk_g0 : w8.cell? ⟨w5.heap.size, 0, none⟩ = some (.slice a_g0 (fromL L0).length c_g0) := B_g0.out.cell 0
  go_wp2_with fail
  refine c.mono ?_
  rintro e w9 ⟨rfl, hb⟩
  clear hk_w0 hk_g0
  clear c
  replace R_w0 := Lib.hid (R_w0.out.below hb)
  replace R_x0 := Lib.hid (R_x0.out.below hb)
  replace R_g0 := Lib.hid (R_g0.out.below hb)
  replace R_t2 := Lib.hid (R_t2.out.below hb)
  replace B_w0 := Lib.hid (B_w0.out.below hb)
  replace B_g0 := Lib.hid (B_g0.out.below hb)
  have z9 := hb.size
  replace hW := hW.trans (hb.mono hW.size)
  clear hb
  clear R_t2
  have rX := R_x0.out
  have c := cm_IntS (1) w3.heap.size L0.length _ _ w9 rX.own (by omega) (by omega) (by omega)
  have hk_w0 : w9.cell? ⟨w2.heap.size, 0, none⟩ = some (.slice a_w0 (fromL L0).length c_w0) := B_w0.out.cell 0
  have hk_g0 : w9.cell? ⟨w5.heap.size, 0, none⟩ = some (.slice a_g0 (fromL L0).length c_g0) := B_g0.out.cell 0
  go_wp2_with fail
  refine c.mono ?_
  rintro e w10 ⟨rfl, ho, hg⟩
  clear hk_w0 hk_g0
  clear c
  replace R_w0 := Lib.hid (R_w0.out.grown hg (fun j hj => by have h1 := rX.blk j hj; have h2 := (rX.own.lt j hj).1; omega))
  replace R_g0 := Lib.hid (R_g0.out.grown hg (fun j hj => by have h1 := rX.blk j hj; have h2 := (rX.own.lt j hj).1; omega))
  replace B_w0 := Lib.hid (B_w0.out.grownRow hg (fun j hj => by have h1 := rX.blk j hj; have h2 := (rX.own.lt j hj).1; omega))
  replace B_g0 := Lib.hid (B_g0.out.grownRow hg (fun j hj => by have h1 := rX.blk j hj; have h2 := (rX.own.lt j hj).1; omega))
  have z10 := hg.size
  replace hW := hW.grown hg hW.size (fun j hj => by have h1 := (rX.own.lt j hj).1; omega)
  replace R_x0 := Lib.hid (Row.remade rX ho hg)
  clear rX ho hg
  clear R_x0
  have c := ce_Semigroup (fromL L0) (fromL L0) a_g0 a_w0 c_g0 c_w0 w10 R_g0.out.slv R_w0.out.slv (by omega) (by omega)
  rw [decide_eq_true (rfl : (fromL L0) = (fromL L0))] at c
  have hk_w0 : w10.cell? ⟨w2.heap.size, 0, none⟩ = some (.slice a_w0 (fromL L0).length c_w0) := B_w0.out.cell 0
  have hk_g0 : w10.cell? ⟨w5.heap.size, 0, none⟩ = some (.slice a_g0 (fromL L0).length c_g0) := B_g0.out.cell 0
  go_wp2_with fail
  refine c.mono ?_
  rintro e w11 ⟨rfl, hb⟩
  clear hk_w0 hk_g0
  clear c
  replace R_w0 := Lib.hid (R_w0.out.below hb)
  replace R_g0 := Lib.hid (R_g0.out.below hb)
  replace B_w0 := Lib.hid (B_w0.out.below hb)
  replace B_g0 := Lib.hid (B_g0.out.below hb)
  have z11 := hb.size
  replace hW := hW.trans (hb.mono hW.size)
  clear hb
  have rX := R_g0.out
  have c := cm_Semigroup (1) w4.heap.size (fromL L0).length _ _ w11 rX.own (by omega) (by omega) (by omega)
  have hk_w0 : w11.cell? ⟨w2.heap.size, 0, none⟩ = some (.slice a_w0 (fromL L0).length c_w0) := B_w0.out.cell 0
  have hk_g0 : w11.cell? ⟨w5.heap.size, 0, none⟩ = some (.slice a_g0 (fromL L0).length c_g0) := B_g0.out.cell 0
  go_wp2_with fail
  refine c.mono ?_
  rintro e w12 ⟨rfl, ho, hg⟩
  clear hk_w0 hk_g0
  clear c
  replace R_w0 := Lib.hid (R_w0.out.grown hg (fun j hj => by have h1 := rX.blk j hj; have h2 := (rX.own.lt j hj).1; omega))
  replace B_w0 := Lib.hid (B_w0.out.grownRow hg (fun j hj => by have h1 := rX.blk j hj; have h2 := (rX.own.lt j hj).1; omega))
  replace B_g0 := Lib.hid (B_g0.out.grownRow hg (fun j hj => by have h1 := rX.blk j hj; have h2 := (rX.own.lt j hj).1; omega))
  have z12 := hg.size
  replace hW := hW.grown hg hW.size (fun j hj => by have h1 := (rX.own.lt j hj).1; omega)
  replace R_g0 := Lib.hid (Row.remade rX ho hg)
  clear rX ho hg
  have c := ch_Semigroup 1 ((fromL L0).length) c_g0 a_g0 w12 R_g0.out.slv (by omega) (by omega) (by omega)
  have hk_w0 : w12.cell? ⟨w2.heap.size, 0, none⟩ = some (.slice a_w0 (fromL L0).length c_w0) := B_w0.out.cell 0
  have hk_g0 : w12.cell? ⟨w5.heap.size, 0, none⟩ = some (.slice a_g0 (fromL L0).length c_g0) := B_g0.out.cell 0
  go_wp2_with fail
  refine c.mono ?_
  rintro e w13 ⟨rfl, hb⟩
  clear hk_w0 hk_g0
  clear c
  replace R_w0 := Lib.hid (R_w0.out.below hb)
  replace R_g0 := Lib.hid (R_g0.out.below hb)
  replace B_w0 := Lib.hid (B_w0.out.below hb)
  replace B_g0 := Lib.hid (B_g0.out.below hb)
  have z13 := hb.size
  replace hW := hW.trans (hb.mono hW.size)
  clear hb
  have c := ct_IntS L0 a0 c0 w13 (HR0.out.below hW) hb0
  have hk_w0 : w13.cell? ⟨w2.heap.size, 0, none⟩ = some (.slice a_w0 (fromL L0).length c_w0) := B_w0.out.cell 0
  have hk_g0 : w13.cell? ⟨w5.heap.size, 0, none⟩ = some (.slice a_g0 (fromL L0).length c_g0) := B_g0.out.cell 0
  go_wp2_with fail
  refine c.mono ?_
  rintro e w14 ⟨v, rfl, ho, hb⟩
  clear hk_w0 hk_g0
  obtain ⟨a_t3, c_t3, rfl, rX⟩ := row_open ho
  clear c ho
  replace R_w0 := Lib.hid (R_w0.out.below hb)
  replace R_g0 := Lib.hid (R_g0.out.below hb)
  replace B_w0 := Lib.hid (B_w0.out.below hb)
  replace B_g0 := Lib.hid (B_g0.out.below hb)
  have z14 := hb.size
  replace hW := hW.trans (hb.mono hW.size)
  have R_t3 := Lib.hid rX
  clear rX hb
  have c := ci_FromGens L0 a_t3 c_t3 w14 R_t3.out.slw hb0
  have hk_w0 : w14.cell? ⟨w2.heap.size, 0, none⟩ = some (.slice a_w0 (fromL L0).length c_w0) := B_w0.out.cell 0
  have hk_g0 : w14.cell? ⟨w5.heap.size, 0, none⟩ = some (.slice a_g0 (fromL L0).length c_g0) := B_g0.out.cell 0
  go_wp2_with fail
  refine c.mono ?_
  rintro e w15 ⟨v, rfl, ho, hb⟩
  clear hk_w0 hk_g0
  obtain ⟨a_h0, c_h0, rfl, rX⟩ := row_open ho
  clear c ho
  replace R_w0 := Lib.hid (R_w0.out.below hb)
  replace R_g0 := Lib.hid (R_g0.out.below hb)
  replace R_t3 := Lib.hid (R_t3.out.below hb)
  replace B_w0 := Lib.hid (B_w0.out.below hb)
  replace B_g0 := Lib.hid (B_g0.out.below hb)
  have z15 := hb.size
  replace hW := hW.trans (hb.mono hW.size)
  have R_h0 := Lib.hid rX
  clear rX hb
  obtain ⟨w16, hwb⟩ : ∃ wb, wb = w15.alloc (.cells #[.slice a_h0 (fromL L0).length c_h0] 30) := ⟨_, rfl⟩
  have hb : Below w15.heap.size w15 w16 := by rw [hwb]; exact (Below.refl _ _).alloc (Nat.le_refl _) _
  have hA : Arr w16 w15.heap.size 30 [.slice a_h0 (fromL L0).length c_h0] := by rw [hwb]; exact Arr.new _ _ _
  replace R_w0 := Lib.hid (R_w0.out.below hb)
  replace R_g0 := Lib.hid (R_g0.out.below hb)
  replace R_t3 := Lib.hid (R_t3.out.below hb)
  replace R_h0 := Lib.hid (R_h0.out.below hb)
  replace B_w0 := Lib.hid (B_w0.out.below hb)
  replace B_g0 := Lib.hid (B_g0.out.below hb)
  have z16 : w15.heap.size < w16.heap.size := hA.lt
  replace hW := hW.trans (hb.mono hW.size)
  have B_h0 := Lib.hid hA
  have H_w16 := Lib.hid hwb
  clear hwb hb hA
  clear R_t3
  have c := ce_Semigroup (fromL L0) (fromL L0) a_h0 a_w0 c_h0 c_w0 w16 R_h0.out.slv R_w0.out.slv (by omega) (by omega)
  rw [decide_eq_true (rfl : (fromL L0) = (fromL L0))] at c
  have hk_w0 : w16.cell? ⟨w2.heap.size, 0, none⟩ = some (.slice a_w0 (fromL L0).length c_w0) := B_w0.out.cell 0
  have hk_g0 : w16.cell? ⟨w5.heap.size, 0, none⟩ = some (.slice a_g0 (fromL L0).length c_g0) := B_g0.out.cell 0
  have hk_h0 : w16.cell? ⟨w15.heap.size, 0, none⟩ = some (.slice a_h0 (fromL L0).length c_h0) := B_h0.out.cell 0
  rw [H_w16.out] at hk_w0 hk_g0 hk_h0
  go_wp2_with fail
  rw [← H_w16.out]
  refine c.mono ?_
  rintro e w17 ⟨rfl, hb⟩
  clear hk_w0 hk_g0 hk_h0
  clear c
  replace R_w0 := Lib.hid (R_w0.out.below hb)
  replace R_g0 := Lib.hid (R_g0.out.below hb)
  replace R_h0 := Lib.hid (R_h0.out.below hb)
  replace B_w0 := Lib.hid (B_w0.out.below hb)
  replace B_g0 := Lib.hid (B_g0.out.below hb)
  replace B_h0 := Lib.hid (B_h0.out.below hb)
  have z17 := hb.size
  replace hW := hW.trans (hb.mono hW.size)
  clear hb
  clear R_h0
  clear B_h0
  have c := ch_Semigroup 1 ((fromL L0).length) c_g0 a_g0 w17 R_g0.out.slv (by omega) (by omega) (by omega)
  have hk_w0 : w17.cell? ⟨w2.heap.size, 0, none⟩ = some (.slice a_w0 (fromL L0).length c_w0) := B_w0.out.cell 0
  have hk_g0 : w17.cell? ⟨w5.heap.size, 0, none⟩ = some (.slice a_g0 (fromL L0).length c_g0) := B_g0.out.cell 0
  go_wp2_with fail
  refine c.mono ?_
  rintro e w18 ⟨rfl, hb⟩
  clear hk_w0 hk_g0
  clear c
  replace R_w0 := Lib.hid (R_w0.out.below hb)
  replace R_g0 := Lib.hid (R_g0.out.below hb)
  replace B_w0 := Lib.hid (B_w0.out.below hb)
  replace B_g0 := Lib.hid (B_g0.out.below hb)
  have z18 := hb.size
  replace hW := hW.trans (hb.mono hW.size)
  clear hb
  have hk_w0 : w18.cell? ⟨w2.heap.size, 0, none⟩ = some (.slice a_w0 (fromL L0).length c_w0) := B_w0.out.cell 0
  have hk_g0 : w18.cell? ⟨w5.heap.size, 0, none⟩ = some (.slice a_g0 (fromL L0).length c_g0) := B_g0.out.cell 0
  go_wp2_with fail
  go_ret
  exact ⟨rfl, hW⟩
end Go.Proofs.Ytnbnkjmellmmlaa
