/-
  THE WALK OF THE LAW FnExactMultiplyLists over the contracts of both sides (written by genlaw.py of the verifier's own).
-/
import Derived.Test.YtikfaogopjinaaaRows
import Derived.Test.YtikfaogopjinaaaC15
namespace Go.Proofs.Ytikfaogopjinaaa
open Go Go.RowKit

set_option maxRecDepth 100000 in
set_option maxHeartbeats 3200000 in
theorem FnExactMultiplyLists.core (L0 : List Int) (a0 : Option Addr) (c0 : Nat) (L1 : List Int) (a1 : Option Addr) (c1 : Nat) (W : World) (hr0 : SlV W a0 (L0.map (Value.int .i64))) (hb0 : L0.length ≤ 1048576) (hr1 : SlV W a1 (L1.map (Value.int .i64))) (hb1 : L1.length ≤ 1048576) :
    Calls Try.prog 6 #[.slice a0 L0.length c0, .slice a1 L1.length c1] W fun e w' => e = .returned (.bool true) ∧ Below W.heap.size W w' := by
  have hm0 := mulL_len L0 L1
  have HR0 := Lib.hid hr0
  clear hr0
  have HR1 := Lib.hid hr1
  clear hr1
  have hW : Below W.heap.size W W := Below.refl _ _
  go_enter Try.func6, Try.ntmps6
  have c := ct_IntS L0 a0 c0 W (HR0.out.below hW) hb0
  go_wp2_with fail
  refine c.mono ?_
  rintro e w1 ⟨v, rfl, ho, hb⟩
  obtain ⟨a_t1, c_t1, rfl, rX⟩ := row_open ho
  clear c ho
  have z1 := hb.size
  replace hW := hW.trans (hb.mono hW.size)
  have R_t1 := Lib.hid rX
  clear rX hb
  have c := ct_IntS L1 a1 c1 w1 (HR1.out.below hW) hb1
  go_wp2_with fail
  refine c.mono ?_
  rintro e w2 ⟨v, rfl, ho, hb⟩
  obtain ⟨a_t2, c_t2, rfl, rX⟩ := row_open ho
  clear c ho
  replace R_t1 := Lib.hid (R_t1.out.below hb)
  have z2 := hb.size
  replace hW := hW.trans (hb.mono hW.size)
  have R_t2 := Lib.hid rX
  clear rX hb
  have c := cs_MultiplyLists L0 a_t1 c_t1 L1 a_t2 c_t2 w2 R_t1.out.slw R_t2.out.slw hb0 hb1
  go_wp2_with fail
  refine c.mono ?_
  rintro e w3 ⟨v, rfl, ho, hb⟩
  obtain ⟨a_w0, c_w0, rfl, rX⟩ := row_open ho
  clear c ho
  replace R_t1 := Lib.hid (R_t1.out.below hb)
  replace R_t2 := Lib.hid (R_t2.out.below hb)
  have z3 := hb.size
  replace hW := hW.trans (hb.mono hW.size)
  have R_w0 := Lib.hid rX
  clear rX hb
  clear R_t1
  clear R_t2
  have c := ct_IntS L0 a0 c0 w3 (HR0.out.below hW) hb0
  go_wp2_with fail
  refine c.mono ?_
  rintro e w4 ⟨v, rfl, ho, hb⟩
  obtain ⟨a_x0, c_x0, rfl, rX⟩ := row_open ho
  clear c ho
  replace R_w0 := Lib.hid (R_w0.out.below hb)
  have z4 := hb.size
  replace hW := hW.trans (hb.mono hW.size)
  have R_x0 := Lib.hid rX
  clear rX hb
  have c := ct_IntS L1 a1 c1 w4 (HR1.out.below hW) hb1
  go_wp2_with fail
  refine c.mono ?_
  rintro e w5 ⟨v, rfl, ho, hb⟩
  obtain ⟨a_x1, c_x1, rfl, rX⟩ := row_open ho
  clear c ho
  replace R_w0 := Lib.hid (R_w0.out.below hb)
  replace R_x0 := Lib.hid (R_x0.out.below hb)
  have z5 := hb.size
  replace hW := hW.trans (hb.mono hW.size)
  have R_x1 := Lib.hid rX
  clear rX hb
  have c := ci_MultiplyLists L0 a_x0 c_x0 L1 a_x1 c_x1 w5 R_x0.out.slw R_x1.out.slw hb0 hb1
  go_wp2_with fail
  refine c.mono ?_
  rintro e w6 ⟨v, rfl, ho, hb⟩
  obtain ⟨a_g0, c_g0, rfl, rX⟩ := row_open ho
  clear c ho
  replace R_w0 := Lib.hid (R_w0.out.below hb)
  replace R_x0 := Lib.hid (R_x0.out.below hb)
  replace R_x1 := Lib.hid (R_x1.out.below hb)
  have z6 := hb.size
  replace hW := hW.trans (hb.mono hW.size)
  have R_g0 := Lib.hid rX
  clear rX hb
  have c := ce_IntS (mulL L0 L1) (mulL L0 L1) a_g0 a_w0 c_g0 c_w0 w6 R_g0.out.slv R_w0.out.slv (by omega) (by omega)
  rw [decide_eq_true (rfl : (mulL L0 L1) = (mulL L0 L1))] at c
  go_wp2_with fail
  refine c.mono ?_
  rintro e w7 ⟨rfl, hb⟩
  clear c
  replace R_w0 := Lib.hid (R_w0.out.below hb)
  replace R_x0 := Lib.hid (R_x0.out.below hb)
  replace R_x1 := Lib.hid (R_x1.out.below hb)
  replace R_g0 := Lib.hid (R_g0.out.below hb)
  have z7 := hb.size
  replace hW := hW.trans (hb.mono hW.size)
  clear hb
  have c := ct_IntS L0 a0 c0 w7 (HR0.out.below hW) hb0
  go_wp2_with fail
  refine c.mono ?_
  rintro e w8 ⟨v, rfl, ho, hb⟩
  obtain ⟨a_t3, c_t3, rfl, rX⟩ := row_open ho
  clear c ho
  replace R_w0 := Lib.hid (R_w0.out.below hb)
  replace R_x0 := Lib.hid (R_x0.out.below hb)
  replace R_x1 := Lib.hid (R_x1.out.below hb)
  replace R_g0 := Lib.hid (R_g0.out.below hb)
  have z8 := hb.size
  replace hW := hW.trans (hb.mono hW.size)
  have R_t3 := Lib.hid rX
  clear rX hb
  have c := ce_IntS (L0) (L0) a_x0 a_t3 c_x0 c_t3 w8 R_x0.out.slv R_t3.out.slv (by omega) (by omega)
  rw [decide_eq_true (rfl : (L0) = (L0))] at c
  go_wp2_with fail
  refine c.mono ?_
  rintro e w9 ⟨rfl, hb⟩
  clear c
  replace R_w0 := Lib.hid (R_w0.out.below hb)
  replace R_x0 := Lib.hid (R_x0.out.below hb)
  replace R_x1 := Lib.hid (R_x1.out.below hb)
  replace R_g0 := Lib.hid (R_g0.out.below hb)
  replace R_t3 := Lib.hid (R_t3.out.below hb)
  have z9 := hb.size
  replace hW := hW.trans (hb.mono hW.size)
  clear hb
  clear R_t3
  have c := ct_IntS L1 a1 c1 w9 (HR1.out.below hW) hb1
  go_wp2_with fail
  refine c.mono ?_
  rintro e w10 ⟨v, rfl, ho, hb⟩
  obtain ⟨a_t4, c_t4, rfl, rX⟩ := row_open ho
  clear c ho
  replace R_w0 := Lib.hid (R_w0.out.below hb)
  replace R_x0 := Lib.hid (R_x0.out.below hb)
  replace R_x1 := Lib.hid (R_x1.out.below hb)
  replace R_g0 := Lib.hid (R_g0.out.below hb)
  have z10 := hb.size
  replace hW := hW.trans (hb.mono hW.size)
  have R_t4 := Lib.hid rX
  clear rX hb
  have c := ce_IntS (L1) (L1) a_x1 a_t4 c_x1 c_t4 w10 R_x1.out.slv R_t4.out.slv (by omega) (by omega)
  rw [decide_eq_true (rfl : (L1) = (L1))] at c
  go_wp2_with fail
  refine c.mono ?_
  rintro e w11 ⟨rfl, hb⟩
  clear c
  replace R_w0 := Lib.hid (R_w0.out.below hb)
  replace R_x0 := Lib.hid (R_x0.out.below hb)
  replace R_x1 := Lib.hid (R_x1.out.below hb)
  replace R_g0 := Lib.hid (R_g0.out.below hb)
  replace R_t4 := Lib.hid (R_t4.out.below hb)
  have z11 := hb.size
  replace hW := hW.trans (hb.mono hW.size)
  clear hb
  clear R_t4
  have rX := R_x0.out
  have c := cm_IntS (1) w3.heap.size L0.length _ _ w11 rX.own (by omega) (by omega) (by omega)
  go_wp2_with fail
  refine c.mono ?_
  rintro e w12 ⟨rfl, ho, hg⟩
  clear c
  replace R_w0 := Lib.hid (R_w0.out.grown hg (fun j hj => by have h1 := rX.blk j hj; have h2 := (rX.own.lt j hj).1; omega))
  replace R_x1 := Lib.hid (R_x1.out.grown hg (fun j hj => by have h1 := rX.blk j hj; have h2 := (rX.own.lt j hj).1; omega))
  replace R_g0 := Lib.hid (R_g0.out.grown hg (fun j hj => by have h1 := rX.blk j hj; have h2 := (rX.own.lt j hj).1; omega))
  have z12 := hg.size
  replace hW := hW.grown hg hW.size (fun j hj => by have h1 := (rX.own.lt j hj).1; omega)
  replace R_x0 := Lib.hid (Row.remade rX ho hg)
  clear rX ho hg
  clear R_x0
  have rX := R_x1.out
  have c := cm_IntS (1 + L0.length) w4.heap.size L1.length _ _ w12 rX.own (by omega) (by omega) (by omega)
  go_wp2_with fail
  refine c.mono ?_
  rintro e w13 ⟨rfl, ho, hg⟩
  clear c
  replace R_w0 := Lib.hid (R_w0.out.grown hg (fun j hj => by have h1 := rX.blk j hj; have h2 := (rX.own.lt j hj).1; omega))
  replace R_g0 := Lib.hid (R_g0.out.grown hg (fun j hj => by have h1 := rX.blk j hj; have h2 := (rX.own.lt j hj).1; omega))
  have z13 := hg.size
  replace hW := hW.grown hg hW.size (fun j hj => by have h1 := (rX.own.lt j hj).1; omega)
  replace R_x1 := Lib.hid (Row.remade rX ho hg)
  clear rX ho hg
  clear R_x1
  have c := ce_IntS (mulL L0 L1) (mulL L0 L1) a_g0 a_w0 c_g0 c_w0 w13 R_g0.out.slv R_w0.out.slv (by omega) (by omega)
  rw [decide_eq_true (rfl : (mulL L0 L1) = (mulL L0 L1))] at c
  go_wp2_with fail
  refine c.mono ?_
  rintro e w14 ⟨rfl, hb⟩
  clear c
  replace R_w0 := Lib.hid (R_w0.out.below hb)
  replace R_g0 := Lib.hid (R_g0.out.below hb)
  have z14 := hb.size
  replace hW := hW.trans (hb.mono hW.size)
  clear hb
  have rX := R_g0.out
  have c := cm_IntS (1) w5.heap.size (mulL L0 L1).length _ _ w14 rX.own (by omega) (by omega) (by omega)
  go_wp2_with fail
  refine c.mono ?_
  rintro e w15 ⟨rfl, ho, hg⟩
  clear c
  replace R_w0 := Lib.hid (R_w0.out.grown hg (fun j hj => by have h1 := rX.blk j hj; have h2 := (rX.own.lt j hj).1; omega))
  have z15 := hg.size
  replace hW := hW.grown hg hW.size (fun j hj => by have h1 := (rX.own.lt j hj).1; omega)
  replace R_g0 := Lib.hid (Row.remade rX ho hg)
  clear rX ho hg
  have c := ch_IntS 1 ((mulL L0 L1).length) c_g0 a_g0 w15 R_g0.out.slv (by omega) (by omega) (by omega)
  go_wp2_with fail
  refine c.mono ?_
  rintro e w16 ⟨rfl, hb⟩
  clear c
  replace R_w0 := Lib.hid (R_w0.out.below hb)
  replace R_g0 := Lib.hid (R_g0.out.below hb)
  have z16 := hb.size
  replace hW := hW.trans (hb.mono hW.size)
  clear hb
  have c := ct_IntS L0 a0 c0 w16 (HR0.out.below hW) hb0
  go_wp2_with fail
  refine c.mono ?_
  rintro e w17 ⟨v, rfl, ho, hb⟩
  obtain ⟨a_t5, c_t5, rfl, rX⟩ := row_open ho
  clear c ho
  replace R_w0 := Lib.hid (R_w0.out.below hb)
  replace R_g0 := Lib.hid (R_g0.out.below hb)
  have z17 := hb.size
  replace hW := hW.trans (hb.mono hW.size)
  have R_t5 := Lib.hid rX
  clear rX hb
  have c := ct_IntS L1 a1 c1 w17 (HR1.out.below hW) hb1
  go_wp2_with fail
  refine c.mono ?_
  rintro e w18 ⟨v, rfl, ho, hb⟩
  obtain ⟨a_t6, c_t6, rfl, rX⟩ := row_open ho
  clear c ho
  replace R_w0 := Lib.hid (R_w0.out.below hb)
  replace R_g0 := Lib.hid (R_g0.out.below hb)
  replace R_t5 := Lib.hid (R_t5.out.below hb)
  have z18 := hb.size
  replace hW := hW.trans (hb.mono hW.size)
  have R_t6 := Lib.hid rX
  clear rX hb
  have c := ci_MultiplyLists L0 a_t5 c_t5 L1 a_t6 c_t6 w18 R_t5.out.slw R_t6.out.slw hb0 hb1
  go_wp2_with fail
  refine c.mono ?_
  rintro e w19 ⟨v, rfl, ho, hb⟩
  obtain ⟨a_h0, c_h0, rfl, rX⟩ := row_open ho
  clear c ho
  replace R_w0 := Lib.hid (R_w0.out.below hb)
  replace R_g0 := Lib.hid (R_g0.out.below hb)
  replace R_t5 := Lib.hid (R_t5.out.below hb)
  replace R_t6 := Lib.hid (R_t6.out.below hb)
  have z19 := hb.size
  replace hW := hW.trans (hb.mono hW.size)
  have R_h0 := Lib.hid rX
  clear rX hb
  clear R_t5
  clear R_t6
  have c := ce_IntS (mulL L0 L1) (mulL L0 L1) a_h0 a_w0 c_h0 c_w0 w19 R_h0.out.slv R_w0.out.slv (by omega) (by omega)
  rw [decide_eq_true (rfl : (mulL L0 L1) = (mulL L0 L1))] at c
  go_wp2_with fail
  refine c.mono ?_
  rintro e w20 ⟨rfl, hb⟩
  clear c
  replace R_w0 := Lib.hid (R_w0.out.below hb)
  replace R_g0 := Lib.hid (R_g0.out.below hb)
  replace R_h0 := Lib.hid (R_h0.out.below hb)
  have z20 := hb.size
  replace hW := hW.trans (hb.mono hW.size)
  clear hb
  clear R_h0
  have c := ch_IntS 1 ((mulL L0 L1).length) c_g0 a_g0 w20 R_g0.out.slv (by omega) (by omega) (by omega)
  go_wp2_with fail
  refine c.mono ?_
  rintro e w21 ⟨rfl, hb⟩
  clear c
  replace R_w0 := Lib.hid (R_w0.out.below hb)
  replace R_g0 := Lib.hid (R_g0.out.below hb)
  have z21 := hb.size
  replace hW := hW.trans (hb.mono hW.size)
  clear hb
  go_wp2_with fail
  go_ret
  exact ⟨rfl, hW⟩
end Go.Proofs.Ytikfaogopjinaaa
