/-
  THE WALK OF THE LAW FnExactParseList over the contracts of both sides (written by genlaw.py of the verifier's own).
-/
import Derived.Test.YtjahmlaocgcjpaaDoorRows
import Derived.Test.YtjahmlaocgcjpaaDoorLaw
import Derived.Test.YtjahmlaocgcjpaaDoorC2f
namespace Go.Proofs.YtjahmlaocgcjpaaDoor
open Go Go.RowKit

set_option maxRecDepth 100000 in
set_option maxHeartbeats 3200000 in
theorem FnExactParseList.core (s0 : ByteArray) (W : World) (hs0 : s0.size ≤ 1048576) (hv : EnvParse W) :
    Calls Tryd.prog 4 #[.string s0] W fun e w' => e = .returned (.bool true) ∧ Below W.heap.size W w' := by
  have hm0 := readList_length_le s0
  have HV := Lib.hid hv
  clear hv
  have hW : Below W.heap.size W W := Below.refl _ _
  go_enter Tryd.func4, Tryd.ntmps4
  have c := cs_ParseList s0 W hs0 
  go_wp2_with fail
  refine c.mono ?_
  rintro e w1 ⟨v, rfl, ho, hb⟩
  obtain ⟨a_w0, c_w0, rfl, rX⟩ := row_open ho
  clear c ho
  have z1 := hb.size
  replace hW := hW.trans (hb.mono hW.size)
  have R_w0 := Lib.hid rX
  clear rX hb
  have c := ci_ParseList s0 w1 hs0 (HV.out.below hW)
  go_wp2_with fail
  refine c.mono ?_
  rintro e w2 ⟨v, rfl, ho, hb⟩
  obtain ⟨a_g0, c_g0, rfl, rX⟩ := row_open ho
  clear c ho
  replace R_w0 := Lib.hid (R_w0.out.below hb)
  have z2 := hb.size
  replace hW := hW.trans (hb.mono hW.size)
  have R_g0 := Lib.hid rX
  clear rX hb
  have c := ce_IntS ((readList s0).getD []) ((readList s0).getD []) a_g0 a_w0 c_g0 c_w0 w2 R_g0.out.slv R_w0.out.slv (by omega) (by omega)
  rw [decide_eq_true (rfl : ((readList s0).getD []) = ((readList s0).getD []))] at c
  go_wp2_with fail
  refine c.mono ?_
  rintro e w3 ⟨rfl, hb⟩
  clear c
  replace R_w0 := Lib.hid (R_w0.out.below hb)
  replace R_g0 := Lib.hid (R_g0.out.below hb)
  have z3 := hb.size
  replace hW := hW.trans (hb.mono hW.size)
  clear hb
  have rX := R_g0.out
  have c := cm_IntS (1) w1.heap.size ((readList s0).getD []).length _ _ w3 rX.own (by omega) (by omega) (by omega)
  go_wp2_with fail
  refine c.mono ?_
  rintro e w4 ⟨rfl, ho, hg⟩
  clear c
  replace R_w0 := Lib.hid (R_w0.out.grown hg (fun j hj => by have h1 := rX.blk j hj; have h2 := (rX.own.lt j hj).1; omega))
  have z4 := hg.size
  replace hW := hW.grown hg hW.size (fun j hj => by have h1 := (rX.own.lt j hj).1; omega)
  replace R_g0 := Lib.hid (Row.remade rX ho hg)
  clear rX ho hg
  have c := ch_IntS 1 (((readList s0).getD []).length) c_g0 a_g0 w4 R_g0.out.slv (by omega) (by omega) (by omega)
  go_wp2_with fail
  refine c.mono ?_
  rintro e w5 ⟨rfl, hb⟩
  clear c
  replace R_w0 := Lib.hid (R_w0.out.below hb)
  replace R_g0 := Lib.hid (R_g0.out.below hb)
  have z5 := hb.size
  replace hW := hW.trans (hb.mono hW.size)
  clear hb
  have c := ci_ParseList s0 w5 hs0 (HV.out.below hW)
  go_wp2_with fail
  refine c.mono ?_
  rintro e w6 ⟨v, rfl, ho, hb⟩
  obtain ⟨a_h0, c_h0, rfl, rX⟩ := row_open ho
  clear c ho
  replace R_w0 := Lib.hid (R_w0.out.below hb)
  replace R_g0 := Lib.hid (R_g0.out.below hb)
  have z6 := hb.size
  replace hW := hW.trans (hb.mono hW.size)
  have R_h0 := Lib.hid rX
  clear rX hb
  have c := ce_IntS ((readList s0).getD []) ((readList s0).getD []) a_h0 a_w0 c_h0 c_w0 w6 R_h0.out.slv R_w0.out.slv (by omega) (by omega)
  rw [decide_eq_true (rfl : ((readList s0).getD []) = ((readList s0).getD []))] at c
  go_wp2_with fail
  refine c.mono ?_
  rintro e w7 ⟨rfl, hb⟩
  clear c
  replace R_w0 := Lib.hid (R_w0.out.below hb)
  replace R_g0 := Lib.hid (R_g0.out.below hb)
  replace R_h0 := Lib.hid (R_h0.out.below hb)
  have z7 := hb.size
  replace hW := hW.trans (hb.mono hW.size)
  clear hb
  clear R_h0
  have c := ch_IntS 1 (((readList s0).getD []).length) c_g0 a_g0 w7 R_g0.out.slv (by omega) (by omega) (by omega)
  go_wp2_with fail
  refine c.mono ?_
  rintro e w8 ⟨rfl, hb⟩
  clear c
  replace R_w0 := Lib.hid (R_w0.out.below hb)
  replace R_g0 := Lib.hid (R_g0.out.below hb)
  have z8 := hb.size
  replace hW := hW.trans (hb.mono hW.size)
  clear hb
  go_wp2_with fail
  go_ret
  exact ⟨rfl, hW⟩
end Go.Proofs.YtjahmlaocgcjpaaDoor
