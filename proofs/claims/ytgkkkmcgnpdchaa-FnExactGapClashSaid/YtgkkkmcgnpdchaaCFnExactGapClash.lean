/-
  THE WALK OF THE LAW FnExactGapClash over the contracts of both sides (written by genlaw.py of the verifier's own).
-/
import Derived.Test.YtgkkkmcgnpdchaaRows
import Derived.Test.YtgkkkmcgnpdchaaC8
namespace Go.Proofs.Ytgkkkmcgnpdchaa
open Go Go.RowKit

set_option maxRecDepth 100000 in
set_option maxHeartbeats 3200000 in
theorem FnExactGapClash.core (L0 : List Int) (a0 : Option Addr) (c0 : Nat) (W : World) (hr0 : SlV W a0 (L0.map (Value.int .i64))) (hb0 : L0.length ≤ 1048576) :
    Calls Try.prog 8 #[.slice a0 L0.length c0] W fun e w' => e = .returned (.bool true) ∧ Below W.heap.size W w' := by
  have HR0 := Lib.hid hr0
  clear hr0
  have hW : Below W.heap.size W W := Below.refl _ _
  go_enter Try.func8, Try.ntmps8
  have c := ct_IntS L0 a0 c0 W (HR0.out.below hW) hb0
  go_wp2_with fail
  refine c.mono ?_
  rintro e w1 ⟨v, rfl, ho, hb⟩
  obtain ⟨a_t1, c_t1, rfl, rX⟩ := row_open ho
  clear c ho
  have z1 := hb.size
  replace hW := hW.trans (hb.mono hW.size)
  have R_t1 := Lib.hid rX
  clear rX hb
  have c := cs_GapClash L0 a_t1 c_t1 w1 R_t1.out.slw hb0
  go_wp2_with fail
  refine c.mono ?_
  rintro e w2 ⟨rfl, hb⟩
  clear c
  replace R_t1 := Lib.hid (R_t1.out.below hb)
  have z2 := hb.size
  replace hW := hW.trans (hb.mono hW.size)
  clear hb
  obtain ⟨w3, hwb⟩ : ∃ wb, wb = w2.alloc (.cells #[.int .i64 (gapA L0), .int .i64 (gapB' L0)] 33) := ⟨_, rfl⟩
  have hb : Below w2.heap.size w2 w3 := by rw [hwb]; exact (Below.refl _ _).alloc (Nat.le_refl _) _
  have hA : Arr w3 w2.heap.size 33 [.int .i64 (gapA L0), .int .i64 (gapB' L0)] := by rw [hwb]; exact Arr.new _ _ _
  replace R_t1 := Lib.hid (R_t1.out.below hb)
  have z3 : w2.heap.size < w3.heap.size := hA.lt
  replace hW := hW.trans (hb.mono hW.size)
  have B_w0 := Lib.hid hA
  have H_w3 := Lib.hid hwb
  clear hwb hb hA
  clear R_t1
  have c := ct_IntS L0 a0 c0 w3 (HR0.out.below hW) hb0
  have hk_w0 : w3.cell? ⟨w2.heap.size, 0, none⟩ = some (.int .i64 (gapA L0)) := B_w0.out.cell 0
  have hk_w01 : w3.cell? ⟨w2.heap.size, 1, none⟩ = some (.int .i64 (gapB' L0)) := B_w0.out.cell 1
  rw [H_w3.out] at hk_w0 hk_w01
  go_wp2_with fail
  rw [← H_w3.out]
  refine c.mono ?_
  rintro e w4 ⟨v, rfl, ho, hb⟩
  clear hk_w0 hk_w01
  obtain ⟨a_x0, c_x0, rfl, rX⟩ := row_open ho
  clear c ho
  replace B_w0 := Lib.hid (B_w0.out.below hb)
  have z4 := hb.size
  replace hW := hW.trans (hb.mono hW.size)
  have R_x0 := Lib.hid rX
  clear rX hb
  have c := ci_GapClash L0 a_x0 c_x0 w4 R_x0.out.slw hb0
  have hk_w0 : w4.cell? ⟨w2.heap.size, 0, none⟩ = some (.int .i64 (gapA L0)) := B_w0.out.cell 0
  have hk_w01 : w4.cell? ⟨w2.heap.size, 1, none⟩ = some (.int .i64 (gapB' L0)) := B_w0.out.cell 1
  go_wp2_with fail
  refine c.mono ?_
  rintro e w5 ⟨rfl, hb⟩
  clear hk_w0 hk_w01
  clear c
  replace R_x0 := Lib.hid (R_x0.out.below hb)
  replace B_w0 := Lib.hid (B_w0.out.below hb)
  have z5 := hb.size
  replace hW := hW.trans (hb.mono hW.size)
  clear hb
  obtain ⟨w6, hwb⟩ : ∃ wb, wb = w5.alloc (.cells #[.int .i64 (gapA L0), .int .i64 (gapB' L0)] 33) := ⟨_, rfl⟩
  have hb : Below w5.heap.size w5 w6 := by rw [hwb]; exact (Below.refl _ _).alloc (Nat.le_refl _) _
  have hA : Arr w6 w5.heap.size 33 [.int .i64 (gapA L0), .int .i64 (gapB' L0)] := by rw [hwb]; exact Arr.new _ _ _
  replace R_x0 := Lib.hid (R_x0.out.below hb)
  replace B_w0 := Lib.hid (B_w0.out.below hb)
  have z6 : w5.heap.size < w6.heap.size := hA.lt
  replace hW := hW.trans (hb.mono hW.size)
  have B_g0 := Lib.hid hA
  have H_w6 := Lib.hid hwb
  clear hwb hb hA
  have c := ce_Clash (gapA L0) (gapB' L0) w6
  have hk_w0 : w6.cell? ⟨w2.heap.size, 0, none⟩ = some (.int .i64 (gapA L0)) := B_w0.out.cell 0
  have hk_w01 : w6.cell? ⟨w2.heap.size, 1, none⟩ = some (.int .i64 (gapB' L0)) := B_w0.out.cell 1
  have hk_g0 : w6.cell? ⟨w5.heap.size, 0, none⟩ = some (.int .i64 (gapA L0)) := B_g0.out.cell 0
  have hk_g01 : w6.cell? ⟨w5.heap.size, 1, none⟩ = some (.int .i64 (gapB' L0)) := B_g0.out.cell 1
  rw [H_w6.out] at hk_w0 hk_w01 hk_g0 hk_g01
  go_wp2_with fail
  rw [← H_w6.out]
  refine c.mono ?_
  rintro e w7 ⟨rfl, hb⟩
  clear hk_w0 hk_w01 hk_g0 hk_g01
  clear c
  replace R_x0 := Lib.hid (R_x0.out.below hb)
  replace B_w0 := Lib.hid (B_w0.out.below hb)
  replace B_g0 := Lib.hid (B_g0.out.below hb)
  have z7 := hb.size
  replace hW := hW.trans (hb.mono hW.size)
  clear hb
  have c := ct_IntS L0 a0 c0 w7 (HR0.out.below hW) hb0
  have hk_w0 : w7.cell? ⟨w2.heap.size, 0, none⟩ = some (.int .i64 (gapA L0)) := B_w0.out.cell 0
  have hk_w01 : w7.cell? ⟨w2.heap.size, 1, none⟩ = some (.int .i64 (gapB' L0)) := B_w0.out.cell 1
  have hk_g0 : w7.cell? ⟨w5.heap.size, 0, none⟩ = some (.int .i64 (gapA L0)) := B_g0.out.cell 0
  have hk_g01 : w7.cell? ⟨w5.heap.size, 1, none⟩ = some (.int .i64 (gapB' L0)) := B_g0.out.cell 1
  go_wp2_with fail
  refine c.mono ?_
  rintro e w8 ⟨v, rfl, ho, hb⟩
  clear hk_w0 hk_w01 hk_g0 hk_g01
  obtain ⟨a_t2, c_t2, rfl, rX⟩ := row_open ho
  clear c ho
  replace R_x0 := Lib.hid (R_x0.out.below hb)
  replace B_w0 := Lib.hid (B_w0.out.below hb)
  replace B_g0 := Lib.hid (B_g0.out.below hb)
  have z8 := hb.size
  replace hW := hW.trans (hb.mono hW.size)
  have R_t2 := Lib.hid rX
  clear rX hb
  have c := ce_IntS (L0) (L0) a_x0 a_t2 c_x0 c_t2 w8 R_x0.out.slv R_t2.out.slv (by omega) (by omega)
  rw [decide_eq_true (rfl : (L0) = (L0))] at c
  have hk_w0 : w8.cell? ⟨w2.heap.size, 0, none⟩ = some (.int .i64 (gapA L0)) := B_w0.out.cell 0
  have hk_w01 : w8.cell? ⟨w2.heap.size, 1, none⟩ = some (.int .i64 (gapB' L0)) := B_w0.out.cell 1
  have hk_g0 : w8.cell? ⟨w5.heap.size, 0, none⟩ = some (.int .i64 (gapA L0)) := B_g0.out.cell 0
  have hk_g01 : w8.cell? ⟨w5.heap.size, 1, none⟩ = some (.int .i64 (gapB' L0)) := B_g0.out.cell 1
  go_wp2_with fail
  refine c.mono ?_
  rintro e w9 ⟨rfl, hb⟩
  clear hk_w0 hk_w01 hk_g0 hk_g01
  clear c
  replace R_x0 := Lib.hid (R_x0.out.below hb)
  replace R_t2 := Lib.hid (R_t2.out.below hb)
  replace B_w0 := Lib.hid (B_w0.out.below hb)
  replace B_g0 := Lib.hid (B_g0.out.below hb)
  have z9 := hb.size
  replace hW := hW.trans (hb.mono hW.size)
  clear hb
  clear R_t2
  have hk_w0 : w9.cell? ⟨w2.heap.size, 0, none⟩ = some (.int .i64 (gapA L0)) := B_w0.out.cell 0
  have hk_w01 : w9.cell? ⟨w2.heap.size, 1, none⟩ = some (.int .i64 (gapB' L0)) := B_w0.out.cell 1
  have hk_g0 : w9.cell? ⟨w5.heap.size, 0, none⟩ = some (.int .i64 (gapA L0)) := B_g0.out.cell 0
  have hk_g01 : w9.cell? ⟨w5.heap.size, 1, none⟩ = some (.int .i64 (gapB' L0)) := B_g0.out.cell 1
  go_wp2_with fail
  go_ret
  exact ⟨rfl, hW⟩
end Go.Proofs.Ytgkkkmcgnpdchaa
