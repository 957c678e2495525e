/-
  THE WALK OF THE LAW FnExactSeriesFrom over the contracts of both sides (written by genlaw.py of the verifier's own).
-/
import Derived.Test.YtikfaogopjinaaaRows
import Derived.Test.YtikfaogopjinaaaC15
namespace Go.Proofs.Ytikfaogopjinaaa
open Go Go.RowKit

set_option maxRecDepth 100000 in
set_option maxHeartbeats 3200000 in
theorem FnExactSeriesFrom.core (L0 : List Int) (a0 : Option Addr) (c0 : Nat) (x1 : Int) (lo1 : -9223372036854775808 ≤ x1) (hi1 : x1 ≤ 9223372036854775807) (W : World) (hr0 : SlV W a0 (L0.map (Value.int .i64))) (hb0 : L0.length ≤ 1048576) :
    Calls Try.prog 4 #[.slice a0 L0.length c0, .int .i64 x1] W fun e w' => e = .returned (.bool true) ∧ Below W.heap.size W w' := by
  have hm0 := seriesL_len L0 x1
  have HR0 := Lib.hid hr0
  clear hr0
  have hW : Below W.heap.size W W := Below.refl _ _
  go_enter Try.func4, Try.ntmps4
  have c := ct_IntS L0 a0 c0 W (HR0.out.below hW) hb0
  go_wp2_with fail
  refine c.mono ?_
  rintro e w1 ⟨v, rfl, ho, hb⟩
  obtain ⟨a_t1, c_t1, rfl, rX⟩ := row_open ho
  clear c ho
  have z1 := hb.size
  replace hW := hW.trans (hb.mono hW.size)
  have R_t1 := Lib.hid rX
  clear rX hb
  have c := cs_SeriesFrom L0 a_t1 c_t1 x1 w1 R_t1.out.slw hb0 lo1 hi1
  go_wp2_with fail
  refine c.mono ?_
  rintro e w2 ⟨v, rfl, ho, hb⟩
  obtain ⟨a_w0, c_w0, rfl, rX⟩ := row_open ho
  clear c ho
  replace R_t1 := Lib.hid (R_t1.out.below hb)
  have z2 := hb.size
  replace hW := hW.trans (hb.mono hW.size)
  have R_w0 := Lib.hid rX
  clear rX hb
  clear R_t1
  have c := ct_IntS L0 a0 c0 w2 (HR0.out.below hW) hb0
  go_wp2_with fail
  refine c.mono ?_
  rintro e w3 ⟨v, rfl, ho, hb⟩
  obtain ⟨a_x0, c_x0, rfl, rX⟩ := row_open ho
  clear c ho
  replace R_w0 := Lib.hid (R_w0.out.below hb)
  have z3 := hb.size
  replace hW := hW.trans (hb.mono hW.size)
  have R_x0 := Lib.hid rX
  clear rX hb
  have c := ci_SeriesFrom L0 a_x0 c_x0 x1 w3 R_x0.out.slw hb0 lo1 hi1
  go_wp2_with fail
  refine c.mono ?_
  rintro e w4 ⟨v, rfl, ho, hb⟩
  obtain ⟨a_g0, c_g0, rfl, rX⟩ := row_open ho
  clear c ho
  replace R_w0 := Lib.hid (R_w0.out.below hb)
  replace R_x0 := Lib.hid (R_x0.out.below hb)
  have z4 := hb.size
  replace hW := hW.trans (hb.mono hW.size)
  have R_g0 := Lib.hid rX
  clear rX hb
  have c := ce_IntS (seriesL L0 x1) (seriesL L0 x1) a_g0 a_w0 c_g0 c_w0 w4 R_g0.out.slv R_w0.out.slv (by omega) (by omega)
  rw [decide_eq_true (rfl : (seriesL L0 x1) = (seriesL L0 x1))] at c
  go_wp2_with fail
  refine c.mono ?_
  rintro e w5 ⟨rfl, hb⟩
  clear c
  replace R_w0 := Lib.hid (R_w0.out.below hb)
  replace R_x0 := Lib.hid (R_x0.out.below hb)
  replace R_g0 := Lib.hid (R_g0.out.below hb)
  have z5 := hb.size
  replace hW := hW.trans (hb.mono hW.size)
  clear hb
  have c := ct_IntS L0 a0 c0 w5 (HR0.out.below hW) hb0
  go_wp2_with fail
  refine c.mono ?_
  rintro e w6 ⟨v, rfl, ho, hb⟩
  obtain ⟨a_t2, c_t2, rfl, rX⟩ := row_open ho
  clear c ho
  replace R_w0 := Lib.hid (R_w0.out.below hb)
  replace R_x0 := Lib.hid (R_x0.out.below hb)
  replace R_g0 := Lib.hid (R_g0.out.below hb)
  have z6 := hb.size
  replace hW := hW.trans (hb.mono hW.size)
  have R_t2 := Lib.hid rX
  clear rX hb
  have c := ce_IntS (L0) (L0) a_x0 a_t2 c_x0 c_t2 w6 R_x0.out.slv R_t2.out.slv (by omega) (by omega)
  rw [decide_eq_true (rfl : (L0) = (L0))] at c
  go_wp2_with fail
  refine c.mono ?_
  rintro e w7 ⟨rfl, hb⟩
  clear c
  replace R_w0 := Lib.hid (R_w0.out.below hb)
  replace R_x0 := Lib.hid (R_x0.out.below hb)
  replace R_g0 := Lib.hid (R_g0.out.below hb)
  replace R_t2 := Lib.hid (R_t2.out.below hb)
  have z7 := hb.size
  replace hW := hW.trans (hb.mono hW.size)
  clear hb
  clear R_t2
  have rX := R_x0.out
  have c := cm_IntS (1) w2.heap.size L0.length _ _ w7 rX.own (by omega) (by omega) (by omega)
  go_wp2_with fail
  refine c.mono ?_
  rintro e w8 ⟨rfl, ho, hg⟩
  clear c
  replace R_w0 := Lib.hid (R_w0.out.grown hg (fun j hj => by have h1 := rX.blk j hj; have h2 := (rX.own.lt j hj).1; omega))
  replace R_g0 := Lib.hid (R_g0.out.grown hg (fun j hj => by have h1 := rX.blk j hj; have h2 := (rX.own.lt j hj).1; omega))
  have z8 := hg.size
  replace hW := hW.grown hg hW.size (fun j hj => by have h1 := (rX.own.lt j hj).1; omega)
  replace R_x0 := Lib.hid (Row.remade rX ho hg)
  clear rX ho hg
  clear R_x0
  have c := ce_IntS (seriesL L0 x1) (seriesL L0 x1) a_g0 a_w0 c_g0 c_w0 w8 R_g0.out.slv R_w0.out.slv (by omega) (by omega)
  rw [decide_eq_true (rfl : (seriesL L0 x1) = (seriesL L0 x1))] at c
  go_wp2_with fail
  refine c.mono ?_
  rintro e w9 ⟨rfl, hb⟩
  clear c
  replace R_w0 := Lib.hid (R_w0.out.below hb)
  replace R_g0 := Lib.hid (R_g0.out.below hb)
  have z9 := hb.size
  replace hW := hW.trans (hb.mono hW.size)
  clear hb
  have rX := R_g0.out
  have c := cm_IntS (1) w3.heap.size (seriesL L0 x1).length _ _ w9 rX.own (by omega) (by omega) (by omega)
  go_wp2_with fail
  refine c.mono ?_
  rintro e w10 ⟨rfl, ho, hg⟩
  clear c
  replace R_w0 := Lib.hid (R_w0.out.grown hg (fun j hj => by have h1 := rX.blk j hj; have h2 := (rX.own.lt j hj).1; omega))
  have z10 := hg.size
  replace hW := hW.grown hg hW.size (fun j hj => by have h1 := (rX.own.lt j hj).1; omega)
  replace R_g0 := Lib.hid (Row.remade rX ho hg)
  clear rX ho hg
  have c := ch_IntS 1 ((seriesL L0 x1).length) c_g0 a_g0 w10 R_g0.out.slv (by omega) (by omega) (by omega)
  go_wp2_with fail
  refine c.mono ?_
  rintro e w11 ⟨rfl, hb⟩
  clear c
  replace R_w0 := Lib.hid (R_w0.out.below hb)
  replace R_g0 := Lib.hid (R_g0.out.below hb)
  have z11 := hb.size
  replace hW := hW.trans (hb.mono hW.size)
  clear hb
  have c := ct_IntS L0 a0 c0 w11 (HR0.out.below hW) hb0
  go_wp2_with fail
  refine c.mono ?_
  rintro e w12 ⟨v, rfl, ho, hb⟩
  obtain ⟨a_t3, c_t3, rfl, rX⟩ := row_open ho
  clear c ho
  replace R_w0 := Lib.hid (R_w0.out.below hb)
  replace R_g0 := Lib.hid (R_g0.out.below hb)
  have z12 := hb.size
  replace hW := hW.trans (hb.mono hW.size)
  have R_t3 := Lib.hid rX
  clear rX hb
  have c := ci_SeriesFrom L0 a_t3 c_t3 x1 w12 R_t3.out.slw hb0 lo1 hi1
  go_wp2_with fail
  refine c.mono ?_
  rintro e w13 ⟨v, rfl, ho, hb⟩
  obtain ⟨a_h0, c_h0, rfl, rX⟩ := row_open ho
  clear c ho
  replace R_w0 := Lib.hid (R_w0.out.below hb)
  replace R_g0 := Lib.hid (R_g0.out.below hb)
  replace R_t3 := Lib.hid (R_t3.out.below hb)
  have z13 := hb.size
  replace hW := hW.trans (hb.mono hW.size)
  have R_h0 := Lib.hid rX
  clear rX hb
  clear R_t3
  have c := ce_IntS (seriesL L0 x1) (seriesL L0 x1) a_h0 a_w0 c_h0 c_w0 w13 R_h0.out.slv R_w0.out.slv (by omega) (by omega)
  rw [decide_eq_true (rfl : (seriesL L0 x1) = (seriesL L0 x1))] at c
  go_wp2_with fail
  refine c.mono ?_
  rintro e w14 ⟨rfl, hb⟩
  clear c
  replace R_w0 := Lib.hid (R_w0.out.below hb)
  replace R_g0 := Lib.hid (R_g0.out.below hb)
  replace R_h0 := Lib.hid (R_h0.out.below hb)
  have z14 := hb.size
  replace hW := hW.trans (hb.mono hW.size)
  clear hb
  clear R_h0
  have c := ch_IntS 1 ((seriesL L0 x1).length) c_g0 a_g0 w14 R_g0.out.slv (by omega) (by omega) (by omega)
  go_wp2_with fail
  refine c.mono ?_
  rintro e w15 ⟨rfl, hb⟩
  clear c
  replace R_w0 := Lib.hid (R_w0.out.below hb)
  replace R_g0 := Lib.hid (R_g0.out.below hb)
  have z15 := hb.size
  replace hW := hW.trans (hb.mono hW.size)
  clear hb
  go_wp2_with fail
  go_ret
  exact ⟨rfl, hW⟩
end Go.Proofs.Ytikfaogopjinaaa
