/-
  THE WALK OF THE LAW FnExactParseSemigroup over the contracts of both sides (written by genlaw.py of the verifier's own).
-/
import Derived.Test.YtdjjagpecbflnaaGreatDoorRows
import Derived.Test.YtdjjagpecbflnaaGreatDoorC5
namespace Go.Proofs.YtdjjagpecbflnaaGreatDoor
open Go Go.RowKit

set_option maxRecDepth 100000 in
set_option maxHeartbeats 3200000 in
theorem FnExactParseSemigroup.core (s0 : ByteArray) (W : World) (hs0 : s0.size ≤ 1048576) (hv : EnvSem W) :
    Calls Tryz.prog 4 #[.string s0] W fun e w' => e = .returned (.bool true) ∧ Below W.heap.size W w' := by
  have hm0 := semRead_length_le s0
  have HV := Lib.hid hv
  clear hv
  have hW : Below W.heap.size W W := Below.refl _ _
  go_enter Tryz.func4, Tryz.ntmps4
  have c := cs_ParseSemigroup s0 W hs0 
  go_wp2_with fail
  refine c.mono ?_
  rintro e w1 ⟨v, rfl, ho, hb⟩
  obtain ⟨a_w0, c_w0, rfl, rX⟩ := row_open ho
  clear c ho
  have z1 := hb.size
  replace hW := hW.trans (hb.mono hW.size)
  have R_w0 := Lib.hid rX
  clear rX hb
  obtain ⟨w2, hwb⟩ : ∃ wb, wb = w1.alloc (.cells #[.slice a_w0 (semRead s0).length c_w0] 26) := ⟨_, rfl⟩
  have hb : Below w1.heap.size w1 w2 := by rw [hwb]; exact (Below.refl _ _).alloc (Nat.le_refl _) _
  have hA : Arr w2 w1.heap.size 26 [.slice a_w0 (semRead s0).length c_w0] := by rw [hwb]; exact Arr.new _ _ _
  replace R_w0 := Lib.hid (R_w0.out.below hb)
  have z2 : w1.heap.size < w2.heap.size := hA.lt
  replace hW := hW.trans (hb.mono hW.size)
  have B_w0 := Lib.hid hA
  have H_w2 := Lib.hid hwb
  clear hwb hb hA
  have c := ci_ParseSemigroup s0 w2 hs0 (HV.out.below hW)
  have hk_w0 : w2.cell? ⟨w1.heap.size, 0, none⟩ = some (.slice a_w0 (semRead s0).length c_w0) := B_w0.out.cell 0
  rw [H_w2.out] at hk_w0
  go_wp2_with fail
  rw [← H_w2.out]
  refine c.mono ?_
  rintro e w3 ⟨v, rfl, ho, hb⟩
  clear hk_w0
  obtain ⟨a_g0, c_g0, rfl, rX⟩ := row_open ho
  clear c ho
  replace R_w0 := Lib.hid (R_w0.out.below hb)
  replace B_w0 := Lib.hid (B_w0.out.below hb)
  have z3 := hb.size
  replace hW := hW.trans (hb.mono hW.size)
  have R_g0 := Lib.hid rX
  clear rX hb
  obtain ⟨w4, hwb⟩ : ∃ wb, wb = w3.alloc (.cells #[.slice a_g0 (semRead s0).length c_g0] 26) := ⟨_, rfl⟩
  have hb : Below w3.heap.size w3 w4 := by rw [hwb]; exact (Below.refl _ _).alloc (Nat.le_refl _) _
  have hA : Arr w4 w3.heap.size 26 [.slice a_g0 (semRead s0).length c_g0] := by rw [hwb]; exact Arr.new _ _ _
  replace R_w0 := Lib.hid (R_w0.out.below hb)
  replace R_g0 := Lib.hid (R_g0.out.below hb)
  replace B_w0 := Lib.hid (B_w0.out.below hb)
  have z4 : w3.heap.size < w4.heap.size := hA.lt
  replace hW := hW.trans (hb.mono hW.size)
  have B_g0 := Lib.hid hA
  have H_w4 := Lib.hid hwb
  clear hwb hb hA
  have c := ce_Semigroup (semRead s0) (semRead s0) a_g0 a_w0 c_g0 c_w0 w4 R_g0.out.slv R_w0.out.slv (by omega) (by omega)
  rw [decide_eq_true (rfl : (semRead s0) = (semRead s0))] at c
  have hk_w0 : w4.cell? ⟨w1.heap.size, 0, none⟩ = some (.slice a_w0 (semRead s0).length c_w0) := B_w0.out.cell 0
  have hk_g0 : w4.cell? ⟨w3.heap.size, 0, none⟩ = some (.slice a_g0 (semRead s0).length c_g0) := B_g0.out.cell 0
  rw [H_w4.out] at hk_w0 hk_g0
  go_wp2_with fail
  rw [← H_w4.out]
  refine c.mono ?_
  rintro e w5 ⟨rfl, hb⟩
  clear hk_w0 hk_g0
  clear c
  replace R_w0 := Lib.hid (R_w0.out.below hb)
  replace R_g0 := Lib.hid (R_g0.out.below hb)
  replace B_w0 := Lib.hid (B_w0.out.below hb)
  replace B_g0 := Lib.hid (B_g0.out.below hb)
  have z5 := hb.size
  replace hW := hW.trans (hb.mono hW.size)
  clear hb
  have rX := R_g0.out
  have c := cm_Semigroup (1) w2.heap.size (semRead s0).length _ _ w5 rX.own (by omega) (by omega) (by omega)
  have hk_w0 : w5.cell? ⟨w1.heap.size, 0, none⟩ = some (.slice a_w0 (semRead s0).length c_w0) := B_w0.out.cell 0
  have hk_g0 : w5.cell? ⟨w3.heap.size, 0, none⟩ = some (.slice a_g0 (semRead s0).length c_g0) := B_g0.out.cell 0
  go_wp2_with fail
  refine c.mono ?_
  rintro e w6 ⟨rfl, ho, hg⟩
  clear hk_w0 hk_g0
  clear c
  replace R_w0 := Lib.hid (R_w0.out.grown hg (fun j hj => by have h1 := rX.blk j hj; have h2 := (rX.own.lt j hj).1; omega))
  replace B_w0 := Lib.hid (B_w0.out.grownRow hg (fun j hj => by have h1 := rX.blk j hj; have h2 := (rX.own.lt j hj).1; omega))
  replace B_g0 := Lib.hid (B_g0.out.grownRow hg (fun j hj => by have h1 := rX.blk j hj; have h2 := (rX.own.lt j hj).1; omega))
  have z6 := hg.size
  replace hW := hW.grown hg hW.size (fun j hj => by have h1 := (rX.own.lt j hj).1; omega)
  replace R_g0 := Lib.hid (Row.remade rX ho hg)
  clear rX ho hg
  have c := ch_Semigroup 1 ((semRead s0).length) c_g0 a_g0 w6 R_g0.out.slv (by omega) (by omega) (by omega)
  have hk_w0 : w6.cell? ⟨w1.heap.size, 0, none⟩ = some (.slice a_w0 (semRead s0).length c_w0) := B_w0.out.cell 0
  have hk_g0 : w6.cell? ⟨w3.heap.size, 0, none⟩ = some (.slice a_g0 (semRead s0).length c_g0) := B_g0.out.cell 0
  go_wp2_with fail
  refine c.mono ?_
  rintro e w7 ⟨rfl, hb⟩
  clear hk_w0 hk_g0
  clear c
  replace R_w0 := Lib.hid (R_w0.out.below hb)
  replace R_g0 := Lib.hid (R_g0.out.below hb)
  replace B_w0 := Lib.hid (B_w0.out.below hb)
  replace B_g0 := Lib.hid (B_g0.out.below hb)
  have z7 := hb.size
  replace hW := hW.trans (hb.mono hW.size)
  clear hb
  have c := ci_ParseSemigroup s0 w7 hs0 (HV.out.below hW)
  have hk_w0 : w7.cell? ⟨w1.heap.size, 0, none⟩ = some (.slice a_w0 (semRead s0).length c_w0) := B_w0.out.cell 0
  have hk_g0 : w7.cell? ⟨w3.heap.size, 0, none⟩ = some (.slice a_g0 (semRead s0).length c_g0) := B_g0.out.cell 0
  go_wp2_with fail
  refine c.mono ?_
  rintro e w8 ⟨v, rfl, ho, hb⟩
  clear hk_w0 hk_g0
  obtain ⟨a_h0, c_h0, rfl, rX⟩ := row_open ho
  clear c ho
  replace R_w0 := Lib.hid (R_w0.out.below hb)
  replace R_g0 := Lib.hid (R_g0.out.below hb)
  replace B_w0 := Lib.hid (B_w0.out.below hb)
  replace B_g0 := Lib.hid (B_g0.out.below hb)
  have z8 := hb.size
  replace hW := hW.trans (hb.mono hW.size)
  have R_h0 := Lib.hid rX
  clear rX hb
  obtain ⟨w9, hwb⟩ : ∃ wb, wb = w8.alloc (.cells #[.slice a_h0 (semRead s0).length c_h0] 26) := ⟨_, rfl⟩
  have hb : Below w8.heap.size w8 w9 := by rw [hwb]; exact (Below.refl _ _).alloc (Nat.le_refl _) _
  have hA : Arr w9 w8.heap.size 26 [.slice a_h0 (semRead s0).length c_h0] := by rw [hwb]; exact Arr.new _ _ _
  replace R_w0 := Lib.hid (R_w0.out.below hb)
  replace R_g0 := Lib.hid (R_g0.out.below hb)
  replace R_h0 := Lib.hid (R_h0.out.below hb)
  replace B_w0 := Lib.hid (B_w0.out.below hb)
  replace B_g0 := Lib.hid (B_g0.out.below hb)
  have z9 : w8.heap.size < w9.heap.size := hA.lt
  replace hW := hW.trans (hb.mono hW.size)
  have B_h0 := Lib.hid hA
  have H_w9 := Lib.hid hwb
  clear hwb hb hA
  have c := ce_Semigroup (semRead s0) (semRead s0) a_h0 a_w0 c_h0 c_w0 w9 R_h0.out.slv R_w0.out.slv (by omega) (by omega)
  rw [decide_eq_true (rfl : (semRead s0) = (semRead s0))] at c
  have hk_w0 : w9.cell? ⟨w1.heap.size, 0, none⟩ = some (.slice a_w0 (semRead s0).length c_w0) := B_w0.out.cell 0
  have hk_g0 : w9.cell? ⟨w3.heap.size, 0, none⟩ = some (.slice a_g0 (semRead s0).length c_g0) := B_g0.out.cell 0
  have hk_h0 : w9.cell? ⟨w8.heap.size, 0, none⟩ = some (.slice a_h0 (semRead s0).length c_h0) := B_h0.out.cell 0
  rw [H_w9.out] at hk_w0 hk_g0 hk_h0
  go_wp2_with fail
  rw [← H_w9.out]
  refine c.mono ?_
  rintro e w10 ⟨rfl, hb⟩
  clear hk_w0 hk_g0 hk_h0
  clear c
  replace R_w0 := Lib.hid (R_w0.out.below hb)
  replace R_g0 := Lib.hid (R_g0.out.below hb)
  replace R_h0 := Lib.hid (R_h0.out.below hb)
  replace B_w0 := Lib.hid (B_w0.out.below hb)
  replace B_g0 := Lib.hid (B_g0.out.below hb)
  replace B_h0 := Lib.hid (B_h0.out.below hb)
  have z10 := hb.size
  replace hW := hW.trans (hb.mono hW.size)
  clear hb
  clear R_h0
  clear B_h0
  have c := ch_Semigroup 1 ((semRead s0).length) c_g0 a_g0 w10 R_g0.out.slv (by omega) (by omega) (by omega)
  have hk_w0 : w10.cell? ⟨w1.heap.size, 0, none⟩ = some (.slice a_w0 (semRead s0).length c_w0) := B_w0.out.cell 0
  have hk_g0 : w10.cell? ⟨w3.heap.size, 0, none⟩ = some (.slice a_g0 (semRead s0).length c_g0) := B_g0.out.cell 0
  go_wp2_with fail
  refine c.mono ?_
  rintro e w11 ⟨rfl, hb⟩
  clear hk_w0 hk_g0
  clear c
  replace R_w0 := Lib.hid (R_w0.out.below hb)
  replace R_g0 := Lib.hid (R_g0.out.below hb)
  replace B_w0 := Lib.hid (B_w0.out.below hb)
  replace B_g0 := Lib.hid (B_g0.out.below hb)
  have z11 := hb.size
  replace hW := hW.trans (hb.mono hW.size)
  clear hb
  have hk_w0 : w11.cell? ⟨w1.heap.size, 0, none⟩ = some (.slice a_w0 (semRead s0).length c_w0) := B_w0.out.cell 0
  have hk_g0 : w11.cell? ⟨w3.heap.size, 0, none⟩ = some (.slice a_g0 (semRead s0).length c_g0) := B_g0.out.cell 0
  go_wp2_with fail
  go_ret
  exact ⟨rfl, hW⟩
end Go.Proofs.YtdjjagpecbflnaaGreatDoor
