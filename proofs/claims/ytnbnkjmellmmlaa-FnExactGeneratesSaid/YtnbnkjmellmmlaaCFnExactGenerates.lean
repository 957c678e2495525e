/-
  THE WALK OF THE LAW FnExactGenerates over the contracts of both sides (written by genlaw.py of the verifier's own).
-/
import Derived.Test.YtnbnkjmellmmlaaRows
import Derived.Test.YtnbnkjmellmmlaaC3
namespace Go.Proofs.Ytnbnkjmellmmlaa
open Go Go.RowKit

set_option maxRecDepth 100000 in
set_option maxHeartbeats 3200000 in
theorem FnExactGenerates.core (L0 : List Int) (a0 : Option Addr) (c0 : Nat) (x1 : Int) (lo1 : -9223372036854775808 ≤ x1) (hi1 : x1 ≤ 9223372036854775807) (W : World) (hr0 : SlV W a0 (L0.map (Value.int .i64))) (hb0 : L0.length ≤ 1048576) :
    Calls Try.prog 3 #[.slice a0 L0.length c0, .int .i64 x1] W fun e w' => e = .returned (.bool true) ∧ Below W.heap.size W w' := by
  have HR0 := Lib.hid hr0
  clear hr0
  have hW : Below W.heap.size W W := Below.refl _ _
  go_enter Try.func3, Try.ntmps3
  have c := ct_IntS L0 a0 c0 W (HR0.out.below hW) hb0
  go_wp2_with fail
  refine c.mono ?_
  rintro e w1 ⟨v, rfl, ho, hb⟩
  obtain ⟨a_t1, c_t1, rfl, rX⟩ := row_open ho
  clear c ho
  have z1 := hb.size
  replace hW := hW.trans (hb.mono hW.size)
  have R_t1 := Lib.hid rX
  clear rX hb
  have c := cs_Generates L0 a_t1 c_t1 x1 w1 R_t1.out.slw hb0 lo1 hi1
  go_wp2_with fail
  refine c.mono ?_
  rintro e w2 ⟨rfl, hb⟩
  clear c
  replace R_t1 := Lib.hid (R_t1.out.below hb)
  have z2 := hb.size
  replace hW := hW.trans (hb.mono hW.size)
  clear hb
  clear R_t1
  have c := ct_IntS L0 a0 c0 w2 (HR0.out.below hW) hb0
  go_wp2_with fail
  refine c.mono ?_
  rintro e w3 ⟨v, rfl, ho, hb⟩
  obtain ⟨a_x0, c_x0, rfl, rX⟩ := row_open ho
  clear c ho
  have z3 := hb.size
  replace hW := hW.trans (hb.mono hW.size)
  have R_x0 := Lib.hid rX
  clear rX hb
  have c := ci_Generates L0 a_x0 c_x0 x1 w3 R_x0.out.slw hb0 lo1 hi1
  go_wp2_with fail
  refine c.mono ?_
  rintro e w4 ⟨rfl, hb⟩
  clear c
  replace R_x0 := Lib.hid (R_x0.out.below hb)
  have z4 := hb.size
  replace hW := hW.trans (hb.mono hW.size)
  clear hb
  have c := ct_IntS L0 a0 c0 w4 (HR0.out.below hW) hb0
  go_wp2_with fail
  refine c.mono ?_
  rintro e w5 ⟨v, rfl, ho, hb⟩
  obtain ⟨a_t2, c_t2, rfl, rX⟩ := row_open ho
  clear c ho
  replace R_x0 := Lib.hid (R_x0.out.below hb)
  have z5 := hb.size
  replace hW := hW.trans (hb.mono hW.size)
  have R_t2 := Lib.hid rX
  clear rX hb
  have c := ce_IntS (L0) (L0) a_x0 a_t2 c_x0 c_t2 w5 R_x0.out.slv R_t2.out.slv (by omega) (by omega)
  rw [decide_eq_true (rfl : (L0) = (L0))] at c
  go_wp2_with fail
  refine c.mono ?_
  rintro e w6 ⟨rfl, hb⟩
  clear c
  replace R_x0 := Lib.hid (R_x0.out.below hb)
  replace R_t2 := Lib.hid (R_t2.out.below hb)
  have z6 := hb.size
  replace hW := hW.trans (hb.mono hW.size)
  clear hb
  clear R_t2
  go_wp2_with fail
  go_ret
  exact ⟨rfl, hW⟩
end Go.Proofs.Ytnbnkjmellmmlaa
