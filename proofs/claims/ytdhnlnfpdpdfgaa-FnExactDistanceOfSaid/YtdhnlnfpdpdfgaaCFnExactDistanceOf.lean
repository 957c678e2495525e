/-
  THE WALK OF THE LAW FnExactDistanceOf over the contracts of both sides (written by genlaw.py of the verifier's own).
-/
import Derived.Test.YtdhnlnfpdpdfgaaRows
import Derived.Test.YtdhnlnfpdpdfgaaC13
namespace Go.Proofs.Ytdhnlnfpdpdfgaa
open Go Go.RowKit

set_option maxRecDepth 100000 in
set_option maxHeartbeats 3200000 in
theorem FnExactDistanceOf.core (L0 : List Int) (a0 : Option Addr) (c0 : Nat) (L1 : List Int) (a1 : Option Addr) (c1 : Nat) (W : World) (hr0 : SlV W a0 (L0.map (Value.int .i64))) (hb0 : L0.length ≤ 1048576) (hr1 : SlV W a1 (L1.map (Value.int .i64))) (hb1 : L1.length ≤ 1048576) :
    Calls Try.prog 4 #[.slice a0 L0.length c0, .slice a1 L1.length c1] W fun e w' => e = .returned (.bool true) ∧ Below W.heap.size W w' := by
  have HR0 := Lib.hid hr0
  clear hr0
  have HR1 := Lib.hid hr1
  clear hr1
  have hW : Below W.heap.size W W := Below.refl _ _
  go_enter Try.func4, Try.ntmps4
  have c := ct_IntS L0 a0 c0 W (HR0.out.below hW) hb0
  go_wp2_with fail
  refine c.mono ?_
  rintro e w1 ⟨v, rfl, ho, hb⟩
  obtain ⟨a_t1, c_t1, rfl, rX⟩ := row_open ho
  clear c ho
  have z1 := hb.size
  replace hW := hW.trans (hb.mono hW.size)
  have R_t1 := Lib.hid rX
  clear rX hb
  have c := ct_IntS L1 a1 c1 w1 (HR1.out.below hW) hb1
  go_wp2_with fail
  refine c.mono ?_
  rintro e w2 ⟨v, rfl, ho, hb⟩
  obtain ⟨a_t2, c_t2, rfl, rX⟩ := row_open ho
  clear c ho
  replace R_t1 := Lib.hid (R_t1.out.below hb)
  have z2 := hb.size
  replace hW := hW.trans (hb.mono hW.size)
  have R_t2 := Lib.hid rX
  clear rX hb
  have c := cs_DistanceOf L0 a_t1 c_t1 L1 a_t2 c_t2 w2 R_t1.out.slw R_t2.out.slw hb0 hb1
  go_wp2_with fail
  refine c.mono ?_
  rintro e w3 ⟨rfl, hb⟩
  clear c
  replace R_t1 := Lib.hid (R_t1.out.below hb)
  replace R_t2 := Lib.hid (R_t2.out.below hb)
  have z3 := hb.size
  replace hW := hW.trans (hb.mono hW.size)
  clear hb
  clear R_t1
  clear R_t2
  have c := ct_IntS L0 a0 c0 w3 (HR0.out.below hW) hb0
  go_wp2_with fail
  refine c.mono ?_
  rintro e w4 ⟨v, rfl, ho, hb⟩
  obtain ⟨a_x0, c_x0, rfl, rX⟩ := row_open ho
  clear c ho
  have z4 := hb.size
  replace hW := hW.trans (hb.mono hW.size)
  have R_x0 := Lib.hid rX
  clear rX hb
  have c := ct_IntS L1 a1 c1 w4 (HR1.out.below hW) hb1
  go_wp2_with fail
  refine c.mono ?_
  rintro e w5 ⟨v, rfl, ho, hb⟩
  obtain ⟨a_x1, c_x1, rfl, rX⟩ := row_open ho
  clear c ho
  replace R_x0 := Lib.hid (R_x0.out.below hb)
  have z5 := hb.size
  replace hW := hW.trans (hb.mono hW.size)
  have R_x1 := Lib.hid rX
  clear rX hb
  have c := ci_DistanceOf L0 a_x0 c_x0 L1 a_x1 c_x1 w5 R_x0.out.slw R_x1.out.slw hb0 hb1
  go_wp2_with fail
  refine c.mono ?_
  rintro e w6 ⟨rfl, hb⟩
  clear c
  replace R_x0 := Lib.hid (R_x0.out.below hb)
  replace R_x1 := Lib.hid (R_x1.out.below hb)
  have z6 := hb.size
  replace hW := hW.trans (hb.mono hW.size)
  clear hb
  have c := ct_IntS L0 a0 c0 w6 (HR0.out.below hW) hb0
  go_wp2_with fail
  refine c.mono ?_
  rintro e w7 ⟨v, rfl, ho, hb⟩
  obtain ⟨a_t3, c_t3, rfl, rX⟩ := row_open ho
  clear c ho
  replace R_x0 := Lib.hid (R_x0.out.below hb)
  replace R_x1 := Lib.hid (R_x1.out.below hb)
  have z7 := hb.size
  replace hW := hW.trans (hb.mono hW.size)
  have R_t3 := Lib.hid rX
  clear rX hb
  have c := ce_IntS (L0) (L0) a_x0 a_t3 c_x0 c_t3 w7 R_x0.out.slv R_t3.out.slv (by omega) (by omega)
  rw [decide_eq_true (rfl : (L0) = (L0))] at c
  go_wp2_with fail
  refine c.mono ?_
  rintro e w8 ⟨rfl, hb⟩
  clear c
  replace R_x0 := Lib.hid (R_x0.out.below hb)
  replace R_x1 := Lib.hid (R_x1.out.below hb)
  replace R_t3 := Lib.hid (R_t3.out.below hb)
  have z8 := hb.size
  replace hW := hW.trans (hb.mono hW.size)
  clear hb
  clear R_t3
  have c := ct_IntS L1 a1 c1 w8 (HR1.out.below hW) hb1
  go_wp2_with fail
  refine c.mono ?_
  rintro e w9 ⟨v, rfl, ho, hb⟩
  obtain ⟨a_t4, c_t4, rfl, rX⟩ := row_open ho
  clear c ho
  replace R_x0 := Lib.hid (R_x0.out.below hb)
  replace R_x1 := Lib.hid (R_x1.out.below hb)
  have z9 := hb.size
  replace hW := hW.trans (hb.mono hW.size)
  have R_t4 := Lib.hid rX
  clear rX hb
  have c := ce_IntS (L1) (L1) a_x1 a_t4 c_x1 c_t4 w9 R_x1.out.slv R_t4.out.slv (by omega) (by omega)
  rw [decide_eq_true (rfl : (L1) = (L1))] at c
  go_wp2_with fail
  refine c.mono ?_
  rintro e w10 ⟨rfl, hb⟩
  clear c
  replace R_x0 := Lib.hid (R_x0.out.below hb)
  replace R_x1 := Lib.hid (R_x1.out.below hb)
  replace R_t4 := Lib.hid (R_t4.out.below hb)
  have z10 := hb.size
  replace hW := hW.trans (hb.mono hW.size)
  clear hb
  clear R_t4
  go_wp2_with fail
  go_ret
  exact ⟨rfl, hW⟩
end Go.Proofs.Ytdhnlnfpdpdfgaa
