/-
  THE WALK OF THE LAW FnFromGaps: at every drawn code both sides agree; what clashes is no list of gaps, what clashes are two numbers outside whose sum is inside, and gaps, small elements and conductor are given back (written by fn_fromgaps.py of the verifier's own).
-/
import Derived.Test.YtgkkkmcgnpdchaaRows
import Derived.Test.YtgkkkmcgnpdchaaDrw14
import Derived.Test.YtgkkkmcgnpdchaaC4
import Derived.Test.YtgkkkmcgnpdchaaC8
import Derived.Deep.DeepCutAuto
import Derived.Laws.StructEq
namespace Go.Proofs.Ytgkkkmcgnpdchaa
open Go Go.RowKit

theorem gap_law (L : List Int) (h : gapQ L = true) : ∃ a b : Nat, gapA L = (a : Int) ∧ gapB' L = (b : Int) ∧ a + b < 200 ∧ hasB L (a : Int) = false ∧ hasB L (b : Int) = false ∧ hasB L ((a : Int) + (b : Int)) = true := by
  unfold gapQ at h
  cases hr : gapR L with
  | none => rw [hr] at h; cases h
  | some p =>
    obtain ⟨a, b⟩ := p
    obtain ⟨-, -, -, h1, h2, h3, h4⟩ := gapR_some hr
    exact ⟨a, b, by unfold gapA; rw [hr], by unfold gapB'; rw [hr], h1, h2, h3, h4⟩

set_option maxRecDepth 100000 in
set_option maxHeartbeats 6400000 in
theorem fnFromGaps_small (p0 : Option Addr) (len0 cap0 : Nat) (z0 : List Int) (W : World) (r0 : IsRow .u8 W p0 len0 cap0 z0) (hl : len0 ≤ 1048576) :
    Calls Try.prog 4 #[.slice p0 len0 cap0] W fun e w' => e = .returned (.bool true) ∧ Below W.heap.size W w' := by
  have HR := Lib.hid r0
  clear r0
  have hW : Below W.heap.size W W := Below.refl _ _
  go_enter Try.func4, Try.ntmps4
  have c := big_b p0 len0 cap0 W (by unfold maxLen; omega)
  rw [decide_eq_false (show ¬ 1048576 < len0 by omega)] at c
  go_wp2_with fail
  refine c.mono ?_
  rintro e w1 ⟨rfl, hb⟩
  clear c
  have z1 := hb.size
  replace hW := hW.trans (hb.mono hW.size)
  clear hb
  have c := DrawFromGaps_any w1 p0 len0 cap0 z0 (HR.out.below hW) hl
  go_wp2_with fail
  refine c.mono ?_
  rintro e w2 ⟨Ld, v, hl_d, hB_d, rfl, ho, hb⟩
  clear c
  obtain ⟨a_d, c_d, rfl, rX⟩ := row_open ho
  clear ho
  have z2 := hb.size
  replace hW := hW.trans (hb.mono hW.size)
  have R_d := Lib.hid rX
  clear rX hb hB_d
  have HX : Hid (fromGpB Ld = true → gapsL (fromGpL Ld) = Ld) := Lib.hid fun h => (fromGp_iff.1 ⟨h, rfl⟩).2
  have hx12 := fromGpL_len Ld
  have HQB : Hid (fromGpB Ld = true → gapQ Ld = false) := Lib.hid fun h => by unfold gapQ; rw [(fromGp_clash h).2]; rfl
  have HCL : Hid (gapQ Ld = true → ∃ a b : Nat, gapA Ld = (a : Int) ∧ gapB' Ld = (b : Int) ∧ a + b < 200 ∧ hasB Ld (a : Int) = false ∧ hasB Ld (b : Int) = false ∧ hasB Ld ((a : Int) + (b : Int)) = true) := Lib.hid (gap_law Ld)
  obtain ⟨q, hq⟩ : ∃ q, q = fromGpB Ld := ⟨_, rfl⟩
  have HQ : Hid (fromGpB Ld = q) := Lib.hid hq.symm
  clear hq
  obtain ⟨qb, hq⟩ : ∃ q, q = gapQ Ld := ⟨_, rfl⟩
  have HB : Hid (gapQ Ld = qb) := Lib.hid hq.symm
  clear hq
  have c := ci_FromGaps Ld a_d c_d w2 R_d.out.slw (by omega)
  rw [HQ.out] at c
  go_wp2_with fail
  refine c.mono ?_
  rintro e w3 ⟨v, rfl, ho, hb⟩
  clear c
  obtain ⟨a_x, c_x, rfl, rX⟩ := row_open ho
  clear ho
  replace R_d := Lib.hid (R_d.out.below hb)
  have z3 := hb.size
  replace hW := hW.trans (hb.mono hW.size)
  have R_x := Lib.hid rX
  clear rX hb
  obtain ⟨w4, hwb⟩ : ∃ wb, wb = w3.alloc (.cells #[.slice a_x (fromGpL Ld).length c_x] 26) := ⟨_, rfl⟩
  have hb : Below w3.heap.size w3 w4 := by rw [hwb]; exact box_below _ _
  have hA : Arr w4 w3.heap.size 26 [.slice a_x (fromGpL Ld).length c_x] := by rw [hwb]; exact Arr.new _ _ _
  replace R_d := Lib.hid (R_d.out.below hb)
  replace R_x := Lib.hid (R_x.out.below hb)
  have z4 := hb.size
  replace hW := hW.trans (hb.mono hW.size)
  have y4 : w3.heap.size < w4.heap.size := hA.lt
  have B_bx := Lib.hid hA
  have H_w4 := Lib.hid hwb
  clear hwb hb hA
  have c := cs_FromGaps Ld a_d c_d w4 R_d.out.slw (by omega)
  rw [HQ.out] at c
  have hk_bx : w4.cell? ⟨w3.heap.size, 0, none⟩ = some (.slice a_x (fromGpL Ld).length c_x) := B_bx.out.cell 0
  rw [H_w4.out] at hk_bx
  go_wp2_with fail
  rw [← H_w4.out]
  refine c.mono ?_
  rintro e w5 ⟨v, rfl, ho, hb⟩
  clear c
  clear hk_bx
  obtain ⟨a_w, c_w, rfl, rX⟩ := row_open ho
  clear ho
  replace R_d := Lib.hid (R_d.out.below hb)
  replace R_x := Lib.hid (R_x.out.below hb)
  replace B_bx := Lib.hid (B_bx.out.below hb)
  have z5 := hb.size
  replace hW := hW.trans (hb.mono hW.size)
  have R_w := Lib.hid rX
  clear rX hb
  obtain ⟨w6, hwb⟩ : ∃ wb, wb = w5.alloc (.cells #[.slice a_w (fromGpL Ld).length c_w] 26) := ⟨_, rfl⟩
  have hb : Below w5.heap.size w5 w6 := by rw [hwb]; exact box_below _ _
  have hA : Arr w6 w5.heap.size 26 [.slice a_w (fromGpL Ld).length c_w] := by rw [hwb]; exact Arr.new _ _ _
  replace R_d := Lib.hid (R_d.out.below hb)
  replace R_x := Lib.hid (R_x.out.below hb)
  replace B_bx := Lib.hid (B_bx.out.below hb)
  replace R_w := Lib.hid (R_w.out.below hb)
  have z6 := hb.size
  replace hW := hW.trans (hb.mono hW.size)
  have y6 : w5.heap.size < w6.heap.size := hA.lt
  have B_bw := Lib.hid hA
  have H_w6 := Lib.hid hwb
  clear hwb hb hA
  have c := ci_GapClash Ld a_d c_d w6 R_d.out.slw (by omega)
  unfold ClPost at c
  rw [HB.out] at c
  have hk_bx : w6.cell? ⟨w3.heap.size, 0, none⟩ = some (.slice a_x (fromGpL Ld).length c_x) := B_bx.out.cell 0
  have hk_bw : w6.cell? ⟨w5.heap.size, 0, none⟩ = some (.slice a_w (fromGpL Ld).length c_w) := B_bw.out.cell 0
  rw [H_w6.out] at hk_bx hk_bw
  go_wp2_with fail
  rw [← H_w6.out]
  refine c.mono ?_
  rintro e w7 ⟨rfl, hb⟩
  clear c
  clear hk_bx hk_bw
  replace R_d := Lib.hid (R_d.out.below hb)
  replace R_x := Lib.hid (R_x.out.below hb)
  replace B_bx := Lib.hid (B_bx.out.below hb)
  replace R_w := Lib.hid (R_w.out.below hb)
  replace B_bw := Lib.hid (B_bw.out.below hb)
  have z7 := hb.size
  replace hW := hW.trans (hb.mono hW.size)
  clear hb
  obtain ⟨w8, hwb⟩ : ∃ wb, wb = w7.alloc (.cells #[.int .i64 (gapA Ld), .int .i64 (gapB' Ld)] 33) := ⟨_, rfl⟩
  have hb : Below w7.heap.size w7 w8 := by rw [hwb]; exact box_below _ _
  have hA : Arr w8 w7.heap.size 33 [.int .i64 (gapA Ld), .int .i64 (gapB' Ld)] := by rw [hwb]; exact Arr.new _ _ _
  replace R_d := Lib.hid (R_d.out.below hb)
  replace R_x := Lib.hid (R_x.out.below hb)
  replace B_bx := Lib.hid (B_bx.out.below hb)
  replace R_w := Lib.hid (R_w.out.below hb)
  replace B_bw := Lib.hid (B_bw.out.below hb)
  have z8 := hb.size
  replace hW := hW.trans (hb.mono hW.size)
  have y8 : w7.heap.size < w8.heap.size := hA.lt
  have B_bc := Lib.hid hA
  have H_w8 := Lib.hid hwb
  clear hwb hb hA
  have c := cs_GapClash Ld a_d c_d w8 R_d.out.slw (by omega)
  unfold ClPost at c
  rw [HB.out] at c
  have hk_bx : w8.cell? ⟨w3.heap.size, 0, none⟩ = some (.slice a_x (fromGpL Ld).length c_x) := B_bx.out.cell 0
  have hk_bw : w8.cell? ⟨w5.heap.size, 0, none⟩ = some (.slice a_w (fromGpL Ld).length c_w) := B_bw.out.cell 0
  have hk_bc : w8.cell? ⟨w7.heap.size, 0, none⟩ = some (.int .i64 (gapA Ld)) := B_bc.out.cell 0
  have hk_bc1 : w8.cell? ⟨w7.heap.size, 1, none⟩ = some (.int .i64 (gapB' Ld)) := B_bc.out.cell 1
  rw [H_w8.out] at hk_bx hk_bw hk_bc hk_bc1
  go_wp2_with fail
  rw [← H_w8.out]
  refine c.mono ?_
  rintro e w9 ⟨rfl, hb⟩
  clear c
  clear hk_bx hk_bw hk_bc hk_bc1
  replace R_d := Lib.hid (R_d.out.below hb)
  replace R_x := Lib.hid (R_x.out.below hb)
  replace B_bx := Lib.hid (B_bx.out.below hb)
  replace R_w := Lib.hid (R_w.out.below hb)
  replace B_bw := Lib.hid (B_bw.out.below hb)
  replace B_bc := Lib.hid (B_bc.out.below hb)
  have z9 := hb.size
  replace hW := hW.trans (hb.mono hW.size)
  clear hb
  obtain ⟨w10, hwb⟩ : ∃ wb, wb = w9.alloc (.cells #[.int .i64 (gapA Ld), .int .i64 (gapB' Ld)] 33) := ⟨_, rfl⟩
  have hb : Below w9.heap.size w9 w10 := by rw [hwb]; exact box_below _ _
  have hA : Arr w10 w9.heap.size 33 [.int .i64 (gapA Ld), .int .i64 (gapB' Ld)] := by rw [hwb]; exact Arr.new _ _ _
  replace R_d := Lib.hid (R_d.out.below hb)
  replace R_x := Lib.hid (R_x.out.below hb)
  replace B_bx := Lib.hid (B_bx.out.below hb)
  replace R_w := Lib.hid (R_w.out.below hb)
  replace B_bw := Lib.hid (B_bw.out.below hb)
  replace B_bc := Lib.hid (B_bc.out.below hb)
  have z10 := hb.size
  replace hW := hW.trans (hb.mono hW.size)
  have y10 : w9.heap.size < w10.heap.size := hA.lt
  have B_be := Lib.hid hA
  have H_w10 := Lib.hid hwb
  clear hwb hb hA
  have c := DrawFromElements_any w10 p0 len0 cap0 z0 (HR.out.below hW) hl
  have hk_bx : w10.cell? ⟨w3.heap.size, 0, none⟩ = some (.slice a_x (fromGpL Ld).length c_x) := B_bx.out.cell 0
  have hk_bw : w10.cell? ⟨w5.heap.size, 0, none⟩ = some (.slice a_w (fromGpL Ld).length c_w) := B_bw.out.cell 0
  have hk_bc : w10.cell? ⟨w7.heap.size, 0, none⟩ = some (.int .i64 (gapA Ld)) := B_bc.out.cell 0
  have hk_bc1 : w10.cell? ⟨w7.heap.size, 1, none⟩ = some (.int .i64 (gapB' Ld)) := B_bc.out.cell 1
  have hk_be : w10.cell? ⟨w9.heap.size, 0, none⟩ = some (.int .i64 (gapA Ld)) := B_be.out.cell 0
  have hk_be1 : w10.cell? ⟨w9.heap.size, 1, none⟩ = some (.int .i64 (gapB' Ld)) := B_be.out.cell 1
  rw [H_w10.out] at hk_bx hk_bw hk_bc hk_bc1 hk_be hk_be1
  go_wp2_with fail
  rw [← H_w10.out]
  refine c.mono ?_
  rintro e w11 ⟨Ls, v, n, hl_s, hB_s, hn64, rfl, ho, hb⟩
  clear c
  clear hk_bx hk_bw hk_bc hk_bc1 hk_be hk_be1
  obtain ⟨a_s, c_s, rfl, rX⟩ := row_open ho
  clear ho
  replace R_d := Lib.hid (R_d.out.below hb)
  replace R_x := Lib.hid (R_x.out.below hb)
  replace B_bx := Lib.hid (B_bx.out.below hb)
  replace R_w := Lib.hid (R_w.out.below hb)
  replace B_bw := Lib.hid (B_bw.out.below hb)
  replace B_bc := Lib.hid (B_bc.out.below hb)
  replace B_be := Lib.hid (B_be.out.below hb)
  have z11 := hb.size
  replace hW := hW.trans (hb.mono hW.size)
  have R_s := Lib.hid rX
  clear rX hb hB_s
  have HZ : Hid (fromElB Ls n = true → condN (fromElL Ls n) = n ∧ smallL (fromElL Ls n) = Ls) := Lib.hid fun h => (fromEl_iff.1 ⟨h, rfl⟩).2
  have hy12 := fromElL_len Ls n
  obtain ⟨r, hq⟩ : ∃ q, q = fromElB Ls n := ⟨_, rfl⟩
  have HE : Hid (fromElB Ls n = r) := Lib.hid hq.symm
  clear hq
  have c := ci_FromElements Ls a_s c_s n w11 R_s.out.slw (by omega) hn64.1 hn64.2
  rw [HE.out] at c
  have hk_bx : w11.cell? ⟨w3.heap.size, 0, none⟩ = some (.slice a_x (fromGpL Ld).length c_x) := B_bx.out.cell 0
  have hk_bw : w11.cell? ⟨w5.heap.size, 0, none⟩ = some (.slice a_w (fromGpL Ld).length c_w) := B_bw.out.cell 0
  have hk_bc : w11.cell? ⟨w7.heap.size, 0, none⟩ = some (.int .i64 (gapA Ld)) := B_bc.out.cell 0
  have hk_bc1 : w11.cell? ⟨w7.heap.size, 1, none⟩ = some (.int .i64 (gapB' Ld)) := B_bc.out.cell 1
  have hk_be : w11.cell? ⟨w9.heap.size, 0, none⟩ = some (.int .i64 (gapA Ld)) := B_be.out.cell 0
  have hk_be1 : w11.cell? ⟨w9.heap.size, 1, none⟩ = some (.int .i64 (gapB' Ld)) := B_be.out.cell 1
  go_wp2_with fail
  refine c.mono ?_
  rintro e w12 ⟨v, rfl, ho, hb⟩
  clear c
  clear hk_bx hk_bw hk_bc hk_bc1 hk_be hk_be1
  obtain ⟨a_y, c_y, rfl, rX⟩ := row_open ho
  clear ho
  replace R_d := Lib.hid (R_d.out.below hb)
  replace R_x := Lib.hid (R_x.out.below hb)
  replace B_bx := Lib.hid (B_bx.out.below hb)
  replace R_w := Lib.hid (R_w.out.below hb)
  replace B_bw := Lib.hid (B_bw.out.below hb)
  replace B_bc := Lib.hid (B_bc.out.below hb)
  replace B_be := Lib.hid (B_be.out.below hb)
  replace R_s := Lib.hid (R_s.out.below hb)
  have z12 := hb.size
  replace hW := hW.trans (hb.mono hW.size)
  have R_y := Lib.hid rX
  clear rX hb
  obtain ⟨w13, hwb⟩ : ∃ wb, wb = w12.alloc (.cells #[.slice a_y (fromElL Ls n).length c_y] 26) := ⟨_, rfl⟩
  have hb : Below w12.heap.size w12 w13 := by rw [hwb]; exact box_below _ _
  have hA : Arr w13 w12.heap.size 26 [.slice a_y (fromElL Ls n).length c_y] := by rw [hwb]; exact Arr.new _ _ _
  replace R_d := Lib.hid (R_d.out.below hb)
  replace R_x := Lib.hid (R_x.out.below hb)
  replace B_bx := Lib.hid (B_bx.out.below hb)
  replace R_w := Lib.hid (R_w.out.below hb)
  replace B_bw := Lib.hid (B_bw.out.below hb)
  replace B_bc := Lib.hid (B_bc.out.below hb)
  replace B_be := Lib.hid (B_be.out.below hb)
  replace R_s := Lib.hid (R_s.out.below hb)
  replace R_y := Lib.hid (R_y.out.below hb)
  have z13 := hb.size
  replace hW := hW.trans (hb.mono hW.size)
  have y13 : w12.heap.size < w13.heap.size := hA.lt
  have B_by := Lib.hid hA
  have H_w13 := Lib.hid hwb
  clear hwb hb hA
  have c := cs_FromElements Ls a_s c_s n w13 R_s.out.slw (by omega) hn64.1 hn64.2
  rw [HE.out] at c
  have hk_bx : w13.cell? ⟨w3.heap.size, 0, none⟩ = some (.slice a_x (fromGpL Ld).length c_x) := B_bx.out.cell 0
  have hk_bw : w13.cell? ⟨w5.heap.size, 0, none⟩ = some (.slice a_w (fromGpL Ld).length c_w) := B_bw.out.cell 0
  have hk_bc : w13.cell? ⟨w7.heap.size, 0, none⟩ = some (.int .i64 (gapA Ld)) := B_bc.out.cell 0
  have hk_bc1 : w13.cell? ⟨w7.heap.size, 1, none⟩ = some (.int .i64 (gapB' Ld)) := B_bc.out.cell 1
  have hk_be : w13.cell? ⟨w9.heap.size, 0, none⟩ = some (.int .i64 (gapA Ld)) := B_be.out.cell 0
  have hk_be1 : w13.cell? ⟨w9.heap.size, 1, none⟩ = some (.int .i64 (gapB' Ld)) := B_be.out.cell 1
  have hk_by : w13.cell? ⟨w12.heap.size, 0, none⟩ = some (.slice a_y (fromElL Ls n).length c_y) := B_by.out.cell 0
  rw [H_w13.out] at hk_bx hk_bw hk_bc hk_bc1 hk_be hk_be1 hk_by
  go_wp2_with fail
  rw [← H_w13.out]
  refine c.mono ?_
  rintro e w14 ⟨v, rfl, ho, hb⟩
  clear c
  clear hk_bx hk_bw hk_bc hk_bc1 hk_be hk_be1 hk_by
  obtain ⟨a_z, c_z, rfl, rX⟩ := row_open ho
  clear ho
  replace R_d := Lib.hid (R_d.out.below hb)
  replace R_x := Lib.hid (R_x.out.below hb)
  replace B_bx := Lib.hid (B_bx.out.below hb)
  replace R_w := Lib.hid (R_w.out.below hb)
  replace B_bw := Lib.hid (B_bw.out.below hb)
  replace B_bc := Lib.hid (B_bc.out.below hb)
  replace B_be := Lib.hid (B_be.out.below hb)
  replace R_s := Lib.hid (R_s.out.below hb)
  replace R_y := Lib.hid (R_y.out.below hb)
  replace B_by := Lib.hid (B_by.out.below hb)
  have z14 := hb.size
  replace hW := hW.trans (hb.mono hW.size)
  have R_z := Lib.hid rX
  clear rX hb
  obtain ⟨w15, hwb⟩ : ∃ wb, wb = w14.alloc (.cells #[.slice a_z (fromElL Ls n).length c_z] 26) := ⟨_, rfl⟩
  have hb : Below w14.heap.size w14 w15 := by rw [hwb]; exact box_below _ _
  have hA : Arr w15 w14.heap.size 26 [.slice a_z (fromElL Ls n).length c_z] := by rw [hwb]; exact Arr.new _ _ _
  replace R_d := Lib.hid (R_d.out.below hb)
  replace R_x := Lib.hid (R_x.out.below hb)
  replace B_bx := Lib.hid (B_bx.out.below hb)
  replace R_w := Lib.hid (R_w.out.below hb)
  replace B_bw := Lib.hid (B_bw.out.below hb)
  replace B_bc := Lib.hid (B_bc.out.below hb)
  replace B_be := Lib.hid (B_be.out.below hb)
  replace R_s := Lib.hid (R_s.out.below hb)
  replace R_y := Lib.hid (R_y.out.below hb)
  replace B_by := Lib.hid (B_by.out.below hb)
  replace R_z := Lib.hid (R_z.out.below hb)
  have z15 := hb.size
  replace hW := hW.trans (hb.mono hW.size)
  have y15 : w14.heap.size < w15.heap.size := hA.lt
  have B_bz := Lib.hid hA
  have H_w15 := Lib.hid hwb
  clear hwb hb hA
  have hB9 : Below w15.heap.size w15 w15 := Below.refl _ _
  have hk_bx : w15.cell? ⟨w3.heap.size, 0, none⟩ = some (.slice a_x (fromGpL Ld).length c_x) := B_bx.out.cell 0
  have hk_bw : w15.cell? ⟨w5.heap.size, 0, none⟩ = some (.slice a_w (fromGpL Ld).length c_w) := B_bw.out.cell 0
  have hk_bc : w15.cell? ⟨w7.heap.size, 0, none⟩ = some (.int .i64 (gapA Ld)) := B_bc.out.cell 0
  have hk_bc1 : w15.cell? ⟨w7.heap.size, 1, none⟩ = some (.int .i64 (gapB' Ld)) := B_bc.out.cell 1
  have hk_be : w15.cell? ⟨w9.heap.size, 0, none⟩ = some (.int .i64 (gapA Ld)) := B_be.out.cell 0
  have hk_be1 : w15.cell? ⟨w9.heap.size, 1, none⟩ = some (.int .i64 (gapB' Ld)) := B_be.out.cell 1
  have hk_by : w15.cell? ⟨w12.heap.size, 0, none⟩ = some (.slice a_y (fromElL Ls n).length c_y) := B_by.out.cell 0
  have hk_bz : w15.cell? ⟨w14.heap.size, 0, none⟩ = some (.slice a_z (fromElL Ls n).length c_z) := B_bz.out.cell 0
  rw [H_w15.out] at hk_bx hk_bw hk_bc hk_bc1 hk_be hk_be1 hk_by hk_bz
  go_upto_region 11 with fail
  rw [← H_w15.out]
  go_cut [104] (fun s104 wx => s104 = Value.bool false ∧ Below w15.heap.size w15 wx)
  case first =>
    clear hk_bx hk_bw hk_bc hk_bc1 hk_be hk_be1 hk_by hk_bz
    cases q
    · cases qb
      · cases r
        · skip
          have c := spec_EqualSemigroup (fromGpL Ld) (fromGpL Ld) a_x a_w c_x c_w w15 R_x.out.slv R_w.out.slv (by omega) (by omega)
          rw [decide_eq_true (rfl : fromGpL Ld = fromGpL Ld)] at c
          have hk_bx : w15.cell? ⟨w3.heap.size, 0, none⟩ = some (.slice a_x (fromGpL Ld).length c_x) := B_bx.out.cell 0
          have hk_bw : w15.cell? ⟨w5.heap.size, 0, none⟩ = some (.slice a_w (fromGpL Ld).length c_w) := B_bw.out.cell 0
          have hk_bc : w15.cell? ⟨w7.heap.size, 0, none⟩ = some (.int .i64 (gapA Ld)) := B_bc.out.cell 0
          have hk_bc1 : w15.cell? ⟨w7.heap.size, 1, none⟩ = some (.int .i64 (gapB' Ld)) := B_bc.out.cell 1
          have hk_be : w15.cell? ⟨w9.heap.size, 0, none⟩ = some (.int .i64 (gapA Ld)) := B_be.out.cell 0
          have hk_be1 : w15.cell? ⟨w9.heap.size, 1, none⟩ = some (.int .i64 (gapB' Ld)) := B_be.out.cell 1
          have hk_by : w15.cell? ⟨w12.heap.size, 0, none⟩ = some (.slice a_y (fromElL Ls n).length c_y) := B_by.out.cell 0
          have hk_bz : w15.cell? ⟨w14.heap.size, 0, none⟩ = some (.slice a_z (fromElL Ls n).length c_z) := B_bz.out.cell 0
          go_wp2_with fail
          refine c.mono ?_
          rintro e w16 ⟨rfl, hb⟩
          clear c
          clear hk_bx hk_bw hk_bc hk_bc1 hk_be hk_be1 hk_by hk_bz
          replace R_d := Lib.hid (R_d.out.below hb)
          replace R_x := Lib.hid (R_x.out.below hb)
          replace B_bx := Lib.hid (B_bx.out.below hb)
          replace R_w := Lib.hid (R_w.out.below hb)
          replace B_bw := Lib.hid (B_bw.out.below hb)
          replace B_bc := Lib.hid (B_bc.out.below hb)
          replace B_be := Lib.hid (B_be.out.below hb)
          replace R_s := Lib.hid (R_s.out.below hb)
          replace R_y := Lib.hid (R_y.out.below hb)
          replace B_by := Lib.hid (B_by.out.below hb)
          replace R_z := Lib.hid (R_z.out.below hb)
          replace B_bz := Lib.hid (B_bz.out.below hb)
          have z16 := hb.size
          replace hW := hW.trans (hb.mono hW.size)
          replace hB9 := hB9.trans (hb.mono hB9.size)
          clear hb
          have c := spec_EqualSemigroup (fromElL Ls n) (fromElL Ls n) a_y a_z c_y c_z w16 R_y.out.slv R_z.out.slv (by omega) (by omega)
          rw [decide_eq_true (rfl : fromElL Ls n = fromElL Ls n)] at c
          have hk_bx : w16.cell? ⟨w3.heap.size, 0, none⟩ = some (.slice a_x (fromGpL Ld).length c_x) := B_bx.out.cell 0
          have hk_bw : w16.cell? ⟨w5.heap.size, 0, none⟩ = some (.slice a_w (fromGpL Ld).length c_w) := B_bw.out.cell 0
          have hk_bc : w16.cell? ⟨w7.heap.size, 0, none⟩ = some (.int .i64 (gapA Ld)) := B_bc.out.cell 0
          have hk_bc1 : w16.cell? ⟨w7.heap.size, 1, none⟩ = some (.int .i64 (gapB' Ld)) := B_bc.out.cell 1
          have hk_be : w16.cell? ⟨w9.heap.size, 0, none⟩ = some (.int .i64 (gapA Ld)) := B_be.out.cell 0
          have hk_be1 : w16.cell? ⟨w9.heap.size, 1, none⟩ = some (.int .i64 (gapB' Ld)) := B_be.out.cell 1
          have hk_by : w16.cell? ⟨w12.heap.size, 0, none⟩ = some (.slice a_y (fromElL Ls n).length c_y) := B_by.out.cell 0
          have hk_bz : w16.cell? ⟨w14.heap.size, 0, none⟩ = some (.slice a_z (fromElL Ls n).length c_z) := B_bz.out.cell 0
          go_wp2_with fail
          refine c.mono ?_
          rintro e w17 ⟨rfl, hb⟩
          clear c
          clear hk_bx hk_bw hk_bc hk_bc1 hk_be hk_be1 hk_by hk_bz
          replace R_d := Lib.hid (R_d.out.below hb)
          replace R_x := Lib.hid (R_x.out.below hb)
          replace B_bx := Lib.hid (B_bx.out.below hb)
          replace R_w := Lib.hid (R_w.out.below hb)
          replace B_bw := Lib.hid (B_bw.out.below hb)
          replace B_bc := Lib.hid (B_bc.out.below hb)
          replace B_be := Lib.hid (B_be.out.below hb)
          replace R_s := Lib.hid (R_s.out.below hb)
          replace R_y := Lib.hid (R_y.out.below hb)
          replace B_by := Lib.hid (B_by.out.below hb)
          replace R_z := Lib.hid (R_z.out.below hb)
          replace B_bz := Lib.hid (B_bz.out.below hb)
          have z17 := hb.size
          replace hW := hW.trans (hb.mono hW.size)
          replace hB9 := hB9.trans (hb.mono hB9.size)
          clear hb
          have hk_bx : w17.cell? ⟨w3.heap.size, 0, none⟩ = some (.slice a_x (fromGpL Ld).length c_x) := B_bx.out.cell 0
          have hk_bw : w17.cell? ⟨w5.heap.size, 0, none⟩ = some (.slice a_w (fromGpL Ld).length c_w) := B_bw.out.cell 0
          have hk_bc : w17.cell? ⟨w7.heap.size, 0, none⟩ = some (.int .i64 (gapA Ld)) := B_bc.out.cell 0
          have hk_bc1 : w17.cell? ⟨w7.heap.size, 1, none⟩ = some (.int .i64 (gapB' Ld)) := B_bc.out.cell 1
          have hk_be : w17.cell? ⟨w9.heap.size, 0, none⟩ = some (.int .i64 (gapA Ld)) := B_be.out.cell 0
          have hk_be1 : w17.cell? ⟨w9.heap.size, 1, none⟩ = some (.int .i64 (gapB' Ld)) := B_be.out.cell 1
          have hk_by : w17.cell? ⟨w12.heap.size, 0, none⟩ = some (.slice a_y (fromElL Ls n).length c_y) := B_by.out.cell 0
          have hk_bz : w17.cell? ⟨w14.heap.size, 0, none⟩ = some (.slice a_z (fromElL Ls n).length c_z) := B_bz.out.cell 0
          go_wp2_with fail
          go_meet
          exact ⟨rfl, hB9⟩
        · skip
          have c := spec_EqualSemigroup (fromGpL Ld) (fromGpL Ld) a_x a_w c_x c_w w15 R_x.out.slv R_w.out.slv (by omega) (by omega)
          rw [decide_eq_true (rfl : fromGpL Ld = fromGpL Ld)] at c
          have hk_bx : w15.cell? ⟨w3.heap.size, 0, none⟩ = some (.slice a_x (fromGpL Ld).length c_x) := B_bx.out.cell 0
          have hk_bw : w15.cell? ⟨w5.heap.size, 0, none⟩ = some (.slice a_w (fromGpL Ld).length c_w) := B_bw.out.cell 0
          have hk_bc : w15.cell? ⟨w7.heap.size, 0, none⟩ = some (.int .i64 (gapA Ld)) := B_bc.out.cell 0
          have hk_bc1 : w15.cell? ⟨w7.heap.size, 1, none⟩ = some (.int .i64 (gapB' Ld)) := B_bc.out.cell 1
          have hk_be : w15.cell? ⟨w9.heap.size, 0, none⟩ = some (.int .i64 (gapA Ld)) := B_be.out.cell 0
          have hk_be1 : w15.cell? ⟨w9.heap.size, 1, none⟩ = some (.int .i64 (gapB' Ld)) := B_be.out.cell 1
          have hk_by : w15.cell? ⟨w12.heap.size, 0, none⟩ = some (.slice a_y (fromElL Ls n).length c_y) := B_by.out.cell 0
          have hk_bz : w15.cell? ⟨w14.heap.size, 0, none⟩ = some (.slice a_z (fromElL Ls n).length c_z) := B_bz.out.cell 0
          go_wp2_with fail
          refine c.mono ?_
          rintro e w16 ⟨rfl, hb⟩
          clear c
          clear hk_bx hk_bw hk_bc hk_bc1 hk_be hk_be1 hk_by hk_bz
          replace R_d := Lib.hid (R_d.out.below hb)
          replace R_x := Lib.hid (R_x.out.below hb)
          replace B_bx := Lib.hid (B_bx.out.below hb)
          replace R_w := Lib.hid (R_w.out.below hb)
          replace B_bw := Lib.hid (B_bw.out.below hb)
          replace B_bc := Lib.hid (B_bc.out.below hb)
          replace B_be := Lib.hid (B_be.out.below hb)
          replace R_s := Lib.hid (R_s.out.below hb)
          replace R_y := Lib.hid (R_y.out.below hb)
          replace B_by := Lib.hid (B_by.out.below hb)
          replace R_z := Lib.hid (R_z.out.below hb)
          replace B_bz := Lib.hid (B_bz.out.below hb)
          have z16 := hb.size
          replace hW := hW.trans (hb.mono hW.size)
          replace hB9 := hB9.trans (hb.mono hB9.size)
          clear hb
          have c := spec_EqualSemigroup (fromElL Ls n) (fromElL Ls n) a_y a_z c_y c_z w16 R_y.out.slv R_z.out.slv (by omega) (by omega)
          rw [decide_eq_true (rfl : fromElL Ls n = fromElL Ls n)] at c
          have hk_bx : w16.cell? ⟨w3.heap.size, 0, none⟩ = some (.slice a_x (fromGpL Ld).length c_x) := B_bx.out.cell 0
          have hk_bw : w16.cell? ⟨w5.heap.size, 0, none⟩ = some (.slice a_w (fromGpL Ld).length c_w) := B_bw.out.cell 0
          have hk_bc : w16.cell? ⟨w7.heap.size, 0, none⟩ = some (.int .i64 (gapA Ld)) := B_bc.out.cell 0
          have hk_bc1 : w16.cell? ⟨w7.heap.size, 1, none⟩ = some (.int .i64 (gapB' Ld)) := B_bc.out.cell 1
          have hk_be : w16.cell? ⟨w9.heap.size, 0, none⟩ = some (.int .i64 (gapA Ld)) := B_be.out.cell 0
          have hk_be1 : w16.cell? ⟨w9.heap.size, 1, none⟩ = some (.int .i64 (gapB' Ld)) := B_be.out.cell 1
          have hk_by : w16.cell? ⟨w12.heap.size, 0, none⟩ = some (.slice a_y (fromElL Ls n).length c_y) := B_by.out.cell 0
          have hk_bz : w16.cell? ⟨w14.heap.size, 0, none⟩ = some (.slice a_z (fromElL Ls n).length c_z) := B_bz.out.cell 0
          go_wp2_with fail
          refine c.mono ?_
          rintro e w17 ⟨rfl, hb⟩
          clear c
          clear hk_bx hk_bw hk_bc hk_bc1 hk_be hk_be1 hk_by hk_bz
          replace R_d := Lib.hid (R_d.out.below hb)
          replace R_x := Lib.hid (R_x.out.below hb)
          replace B_bx := Lib.hid (B_bx.out.below hb)
          replace R_w := Lib.hid (R_w.out.below hb)
          replace B_bw := Lib.hid (B_bw.out.below hb)
          replace B_bc := Lib.hid (B_bc.out.below hb)
          replace B_be := Lib.hid (B_be.out.below hb)
          replace R_s := Lib.hid (R_s.out.below hb)
          replace R_y := Lib.hid (R_y.out.below hb)
          replace B_by := Lib.hid (B_by.out.below hb)
          replace R_z := Lib.hid (R_z.out.below hb)
          replace B_bz := Lib.hid (B_bz.out.below hb)
          have z17 := hb.size
          replace hW := hW.trans (hb.mono hW.size)
          replace hB9 := hB9.trans (hb.mono hB9.size)
          clear hb
          have hk_bx : w17.cell? ⟨w3.heap.size, 0, none⟩ = some (.slice a_x (fromGpL Ld).length c_x) := B_bx.out.cell 0
          have hk_bw : w17.cell? ⟨w5.heap.size, 0, none⟩ = some (.slice a_w (fromGpL Ld).length c_w) := B_bw.out.cell 0
          have hk_bc : w17.cell? ⟨w7.heap.size, 0, none⟩ = some (.int .i64 (gapA Ld)) := B_bc.out.cell 0
          have hk_bc1 : w17.cell? ⟨w7.heap.size, 1, none⟩ = some (.int .i64 (gapB' Ld)) := B_bc.out.cell 1
          have hk_be : w17.cell? ⟨w9.heap.size, 0, none⟩ = some (.int .i64 (gapA Ld)) := B_be.out.cell 0
          have hk_be1 : w17.cell? ⟨w9.heap.size, 1, none⟩ = some (.int .i64 (gapB' Ld)) := B_be.out.cell 1
          have hk_by : w17.cell? ⟨w12.heap.size, 0, none⟩ = some (.slice a_y (fromElL Ls n).length c_y) := B_by.out.cell 0
          have hk_bz : w17.cell? ⟨w14.heap.size, 0, none⟩ = some (.slice a_z (fromElL Ls n).length c_z) := B_bz.out.cell 0
          go_wp2_with fail
          go_meet
          exact ⟨rfl, hB9⟩
      · cases r
        · skip
          have c := spec_EqualSemigroup (fromGpL Ld) (fromGpL Ld) a_x a_w c_x c_w w15 R_x.out.slv R_w.out.slv (by omega) (by omega)
          rw [decide_eq_true (rfl : fromGpL Ld = fromGpL Ld)] at c
          have hk_bx : w15.cell? ⟨w3.heap.size, 0, none⟩ = some (.slice a_x (fromGpL Ld).length c_x) := B_bx.out.cell 0
          have hk_bw : w15.cell? ⟨w5.heap.size, 0, none⟩ = some (.slice a_w (fromGpL Ld).length c_w) := B_bw.out.cell 0
          have hk_bc : w15.cell? ⟨w7.heap.size, 0, none⟩ = some (.int .i64 (gapA Ld)) := B_bc.out.cell 0
          have hk_bc1 : w15.cell? ⟨w7.heap.size, 1, none⟩ = some (.int .i64 (gapB' Ld)) := B_bc.out.cell 1
          have hk_be : w15.cell? ⟨w9.heap.size, 0, none⟩ = some (.int .i64 (gapA Ld)) := B_be.out.cell 0
          have hk_be1 : w15.cell? ⟨w9.heap.size, 1, none⟩ = some (.int .i64 (gapB' Ld)) := B_be.out.cell 1
          have hk_by : w15.cell? ⟨w12.heap.size, 0, none⟩ = some (.slice a_y (fromElL Ls n).length c_y) := B_by.out.cell 0
          have hk_bz : w15.cell? ⟨w14.heap.size, 0, none⟩ = some (.slice a_z (fromElL Ls n).length c_z) := B_bz.out.cell 0
          go_wp2_with fail
          refine c.mono ?_
          rintro e w16 ⟨rfl, hb⟩
          clear c
          clear hk_bx hk_bw hk_bc hk_bc1 hk_be hk_be1 hk_by hk_bz
          replace R_d := Lib.hid (R_d.out.below hb)
          replace R_x := Lib.hid (R_x.out.below hb)
          replace B_bx := Lib.hid (B_bx.out.below hb)
          replace R_w := Lib.hid (R_w.out.below hb)
          replace B_bw := Lib.hid (B_bw.out.below hb)
          replace B_bc := Lib.hid (B_bc.out.below hb)
          replace B_be := Lib.hid (B_be.out.below hb)
          replace R_s := Lib.hid (R_s.out.below hb)
          replace R_y := Lib.hid (R_y.out.below hb)
          replace B_by := Lib.hid (B_by.out.below hb)
          replace R_z := Lib.hid (R_z.out.below hb)
          replace B_bz := Lib.hid (B_bz.out.below hb)
          have z16 := hb.size
          replace hW := hW.trans (hb.mono hW.size)
          replace hB9 := hB9.trans (hb.mono hB9.size)
          clear hb
          have c := spec_EqualSemigroup (fromElL Ls n) (fromElL Ls n) a_y a_z c_y c_z w16 R_y.out.slv R_z.out.slv (by omega) (by omega)
          rw [decide_eq_true (rfl : fromElL Ls n = fromElL Ls n)] at c
          have hk_bx : w16.cell? ⟨w3.heap.size, 0, none⟩ = some (.slice a_x (fromGpL Ld).length c_x) := B_bx.out.cell 0
          have hk_bw : w16.cell? ⟨w5.heap.size, 0, none⟩ = some (.slice a_w (fromGpL Ld).length c_w) := B_bw.out.cell 0
          have hk_bc : w16.cell? ⟨w7.heap.size, 0, none⟩ = some (.int .i64 (gapA Ld)) := B_bc.out.cell 0
          have hk_bc1 : w16.cell? ⟨w7.heap.size, 1, none⟩ = some (.int .i64 (gapB' Ld)) := B_bc.out.cell 1
          have hk_be : w16.cell? ⟨w9.heap.size, 0, none⟩ = some (.int .i64 (gapA Ld)) := B_be.out.cell 0
          have hk_be1 : w16.cell? ⟨w9.heap.size, 1, none⟩ = some (.int .i64 (gapB' Ld)) := B_be.out.cell 1
          have hk_by : w16.cell? ⟨w12.heap.size, 0, none⟩ = some (.slice a_y (fromElL Ls n).length c_y) := B_by.out.cell 0
          have hk_bz : w16.cell? ⟨w14.heap.size, 0, none⟩ = some (.slice a_z (fromElL Ls n).length c_z) := B_bz.out.cell 0
          go_wp2_with fail
          refine c.mono ?_
          rintro e w17 ⟨rfl, hb⟩
          clear c
          clear hk_bx hk_bw hk_bc hk_bc1 hk_be hk_be1 hk_by hk_bz
          replace R_d := Lib.hid (R_d.out.below hb)
          replace R_x := Lib.hid (R_x.out.below hb)
          replace B_bx := Lib.hid (B_bx.out.below hb)
          replace R_w := Lib.hid (R_w.out.below hb)
          replace B_bw := Lib.hid (B_bw.out.below hb)
          replace B_bc := Lib.hid (B_bc.out.below hb)
          replace B_be := Lib.hid (B_be.out.below hb)
          replace R_s := Lib.hid (R_s.out.below hb)
          replace R_y := Lib.hid (R_y.out.below hb)
          replace B_by := Lib.hid (B_by.out.below hb)
          replace R_z := Lib.hid (R_z.out.below hb)
          replace B_bz := Lib.hid (B_bz.out.below hb)
          have z17 := hb.size
          replace hW := hW.trans (hb.mono hW.size)
          replace hB9 := hB9.trans (hb.mono hB9.size)
          clear hb
          have hk_bx : w17.cell? ⟨w3.heap.size, 0, none⟩ = some (.slice a_x (fromGpL Ld).length c_x) := B_bx.out.cell 0
          have hk_bw : w17.cell? ⟨w5.heap.size, 0, none⟩ = some (.slice a_w (fromGpL Ld).length c_w) := B_bw.out.cell 0
          have hk_bc : w17.cell? ⟨w7.heap.size, 0, none⟩ = some (.int .i64 (gapA Ld)) := B_bc.out.cell 0
          have hk_bc1 : w17.cell? ⟨w7.heap.size, 1, none⟩ = some (.int .i64 (gapB' Ld)) := B_bc.out.cell 1
          have hk_be : w17.cell? ⟨w9.heap.size, 0, none⟩ = some (.int .i64 (gapA Ld)) := B_be.out.cell 0
          have hk_be1 : w17.cell? ⟨w9.heap.size, 1, none⟩ = some (.int .i64 (gapB' Ld)) := B_be.out.cell 1
          have hk_by : w17.cell? ⟨w12.heap.size, 0, none⟩ = some (.slice a_y (fromElL Ls n).length c_y) := B_by.out.cell 0
          have hk_bz : w17.cell? ⟨w14.heap.size, 0, none⟩ = some (.slice a_z (fromElL Ls n).length c_z) := B_bz.out.cell 0
          go_wp2_with fail
          go_meet
          exact ⟨rfl, hB9⟩
        · skip
          have c := spec_EqualSemigroup (fromGpL Ld) (fromGpL Ld) a_x a_w c_x c_w w15 R_x.out.slv R_w.out.slv (by omega) (by omega)
          rw [decide_eq_true (rfl : fromGpL Ld = fromGpL Ld)] at c
          have hk_bx : w15.cell? ⟨w3.heap.size, 0, none⟩ = some (.slice a_x (fromGpL Ld).length c_x) := B_bx.out.cell 0
          have hk_bw : w15.cell? ⟨w5.heap.size, 0, none⟩ = some (.slice a_w (fromGpL Ld).length c_w) := B_bw.out.cell 0
          have hk_bc : w15.cell? ⟨w7.heap.size, 0, none⟩ = some (.int .i64 (gapA Ld)) := B_bc.out.cell 0
          have hk_bc1 : w15.cell? ⟨w7.heap.size, 1, none⟩ = some (.int .i64 (gapB' Ld)) := B_bc.out.cell 1
          have hk_be : w15.cell? ⟨w9.heap.size, 0, none⟩ = some (.int .i64 (gapA Ld)) := B_be.out.cell 0
          have hk_be1 : w15.cell? ⟨w9.heap.size, 1, none⟩ = some (.int .i64 (gapB' Ld)) := B_be.out.cell 1
          have hk_by : w15.cell? ⟨w12.heap.size, 0, none⟩ = some (.slice a_y (fromElL Ls n).length c_y) := B_by.out.cell 0
          have hk_bz : w15.cell? ⟨w14.heap.size, 0, none⟩ = some (.slice a_z (fromElL Ls n).length c_z) := B_bz.out.cell 0
          go_wp2_with fail
          refine c.mono ?_
          rintro e w16 ⟨rfl, hb⟩
          clear c
          clear hk_bx hk_bw hk_bc hk_bc1 hk_be hk_be1 hk_by hk_bz
          replace R_d := Lib.hid (R_d.out.below hb)
          replace R_x := Lib.hid (R_x.out.below hb)
          replace B_bx := Lib.hid (B_bx.out.below hb)
          replace R_w := Lib.hid (R_w.out.below hb)
          replace B_bw := Lib.hid (B_bw.out.below hb)
          replace B_bc := Lib.hid (B_bc.out.below hb)
          replace B_be := Lib.hid (B_be.out.below hb)
          replace R_s := Lib.hid (R_s.out.below hb)
          replace R_y := Lib.hid (R_y.out.below hb)
          replace B_by := Lib.hid (B_by.out.below hb)
          replace R_z := Lib.hid (R_z.out.below hb)
          replace B_bz := Lib.hid (B_bz.out.below hb)
          have z16 := hb.size
          replace hW := hW.trans (hb.mono hW.size)
          replace hB9 := hB9.trans (hb.mono hB9.size)
          clear hb
          have c := spec_EqualSemigroup (fromElL Ls n) (fromElL Ls n) a_y a_z c_y c_z w16 R_y.out.slv R_z.out.slv (by omega) (by omega)
          rw [decide_eq_true (rfl : fromElL Ls n = fromElL Ls n)] at c
          have hk_bx : w16.cell? ⟨w3.heap.size, 0, none⟩ = some (.slice a_x (fromGpL Ld).length c_x) := B_bx.out.cell 0
          have hk_bw : w16.cell? ⟨w5.heap.size, 0, none⟩ = some (.slice a_w (fromGpL Ld).length c_w) := B_bw.out.cell 0
          have hk_bc : w16.cell? ⟨w7.heap.size, 0, none⟩ = some (.int .i64 (gapA Ld)) := B_bc.out.cell 0
          have hk_bc1 : w16.cell? ⟨w7.heap.size, 1, none⟩ = some (.int .i64 (gapB' Ld)) := B_bc.out.cell 1
          have hk_be : w16.cell? ⟨w9.heap.size, 0, none⟩ = some (.int .i64 (gapA Ld)) := B_be.out.cell 0
          have hk_be1 : w16.cell? ⟨w9.heap.size, 1, none⟩ = some (.int .i64 (gapB' Ld)) := B_be.out.cell 1
          have hk_by : w16.cell? ⟨w12.heap.size, 0, none⟩ = some (.slice a_y (fromElL Ls n).length c_y) := B_by.out.cell 0
          have hk_bz : w16.cell? ⟨w14.heap.size, 0, none⟩ = some (.slice a_z (fromElL Ls n).length c_z) := B_bz.out.cell 0
          go_wp2_with fail
          refine c.mono ?_
          rintro e w17 ⟨rfl, hb⟩
          clear c
          clear hk_bx hk_bw hk_bc hk_bc1 hk_be hk_be1 hk_by hk_bz
          replace R_d := Lib.hid (R_d.out.below hb)
          replace R_x := Lib.hid (R_x.out.below hb)
          replace B_bx := Lib.hid (B_bx.out.below hb)
          replace R_w := Lib.hid (R_w.out.below hb)
          replace B_bw := Lib.hid (B_bw.out.below hb)
          replace B_bc := Lib.hid (B_bc.out.below hb)
          replace B_be := Lib.hid (B_be.out.below hb)
          replace R_s := Lib.hid (R_s.out.below hb)
          replace R_y := Lib.hid (R_y.out.below hb)
          replace B_by := Lib.hid (B_by.out.below hb)
          replace R_z := Lib.hid (R_z.out.below hb)
          replace B_bz := Lib.hid (B_bz.out.below hb)
          have z17 := hb.size
          replace hW := hW.trans (hb.mono hW.size)
          replace hB9 := hB9.trans (hb.mono hB9.size)
          clear hb
          have hk_bx : w17.cell? ⟨w3.heap.size, 0, none⟩ = some (.slice a_x (fromGpL Ld).length c_x) := B_bx.out.cell 0
          have hk_bw : w17.cell? ⟨w5.heap.size, 0, none⟩ = some (.slice a_w (fromGpL Ld).length c_w) := B_bw.out.cell 0
          have hk_bc : w17.cell? ⟨w7.heap.size, 0, none⟩ = some (.int .i64 (gapA Ld)) := B_bc.out.cell 0
          have hk_bc1 : w17.cell? ⟨w7.heap.size, 1, none⟩ = some (.int .i64 (gapB' Ld)) := B_bc.out.cell 1
          have hk_be : w17.cell? ⟨w9.heap.size, 0, none⟩ = some (.int .i64 (gapA Ld)) := B_be.out.cell 0
          have hk_be1 : w17.cell? ⟨w9.heap.size, 1, none⟩ = some (.int .i64 (gapB' Ld)) := B_be.out.cell 1
          have hk_by : w17.cell? ⟨w12.heap.size, 0, none⟩ = some (.slice a_y (fromElL Ls n).length c_y) := B_by.out.cell 0
          have hk_bz : w17.cell? ⟨w14.heap.size, 0, none⟩ = some (.slice a_z (fromElL Ls n).length c_z) := B_bz.out.cell 0
          go_wp2_with fail
          go_meet
          exact ⟨rfl, hB9⟩
    · obtain rfl : qb = false := by rw [← HB.out]; exact HQB.out HQ.out
      cases r
      · skip
        have c := spec_EqualSemigroup (fromGpL Ld) (fromGpL Ld) a_x a_w c_x c_w w15 R_x.out.slv R_w.out.slv (by omega) (by omega)
        rw [decide_eq_true (rfl : fromGpL Ld = fromGpL Ld)] at c
        have hk_bx : w15.cell? ⟨w3.heap.size, 0, none⟩ = some (.slice a_x (fromGpL Ld).length c_x) := B_bx.out.cell 0
        have hk_bw : w15.cell? ⟨w5.heap.size, 0, none⟩ = some (.slice a_w (fromGpL Ld).length c_w) := B_bw.out.cell 0
        have hk_bc : w15.cell? ⟨w7.heap.size, 0, none⟩ = some (.int .i64 (gapA Ld)) := B_bc.out.cell 0
        have hk_bc1 : w15.cell? ⟨w7.heap.size, 1, none⟩ = some (.int .i64 (gapB' Ld)) := B_bc.out.cell 1
        have hk_be : w15.cell? ⟨w9.heap.size, 0, none⟩ = some (.int .i64 (gapA Ld)) := B_be.out.cell 0
        have hk_be1 : w15.cell? ⟨w9.heap.size, 1, none⟩ = some (.int .i64 (gapB' Ld)) := B_be.out.cell 1
        have hk_by : w15.cell? ⟨w12.heap.size, 0, none⟩ = some (.slice a_y (fromElL Ls n).length c_y) := B_by.out.cell 0
        have hk_bz : w15.cell? ⟨w14.heap.size, 0, none⟩ = some (.slice a_z (fromElL Ls n).length c_z) := B_bz.out.cell 0
        go_wp2_with fail
        refine c.mono ?_
        rintro e w16 ⟨rfl, hb⟩
        clear c
        clear hk_bx hk_bw hk_bc hk_bc1 hk_be hk_be1 hk_by hk_bz
        replace R_d := Lib.hid (R_d.out.below hb)
        replace R_x := Lib.hid (R_x.out.below hb)
        replace B_bx := Lib.hid (B_bx.out.below hb)
        replace R_w := Lib.hid (R_w.out.below hb)
        replace B_bw := Lib.hid (B_bw.out.below hb)
        replace B_bc := Lib.hid (B_bc.out.below hb)
        replace B_be := Lib.hid (B_be.out.below hb)
        replace R_s := Lib.hid (R_s.out.below hb)
        replace R_y := Lib.hid (R_y.out.below hb)
        replace B_by := Lib.hid (B_by.out.below hb)
        replace R_z := Lib.hid (R_z.out.below hb)
        replace B_bz := Lib.hid (B_bz.out.below hb)
        have z16 := hb.size
        replace hW := hW.trans (hb.mono hW.size)
        replace hB9 := hB9.trans (hb.mono hB9.size)
        clear hb
        have c := spec_EqualSemigroup (fromElL Ls n) (fromElL Ls n) a_y a_z c_y c_z w16 R_y.out.slv R_z.out.slv (by omega) (by omega)
        rw [decide_eq_true (rfl : fromElL Ls n = fromElL Ls n)] at c
        have hk_bx : w16.cell? ⟨w3.heap.size, 0, none⟩ = some (.slice a_x (fromGpL Ld).length c_x) := B_bx.out.cell 0
        have hk_bw : w16.cell? ⟨w5.heap.size, 0, none⟩ = some (.slice a_w (fromGpL Ld).length c_w) := B_bw.out.cell 0
        have hk_bc : w16.cell? ⟨w7.heap.size, 0, none⟩ = some (.int .i64 (gapA Ld)) := B_bc.out.cell 0
        have hk_bc1 : w16.cell? ⟨w7.heap.size, 1, none⟩ = some (.int .i64 (gapB' Ld)) := B_bc.out.cell 1
        have hk_be : w16.cell? ⟨w9.heap.size, 0, none⟩ = some (.int .i64 (gapA Ld)) := B_be.out.cell 0
        have hk_be1 : w16.cell? ⟨w9.heap.size, 1, none⟩ = some (.int .i64 (gapB' Ld)) := B_be.out.cell 1
        have hk_by : w16.cell? ⟨w12.heap.size, 0, none⟩ = some (.slice a_y (fromElL Ls n).length c_y) := B_by.out.cell 0
        have hk_bz : w16.cell? ⟨w14.heap.size, 0, none⟩ = some (.slice a_z (fromElL Ls n).length c_z) := B_bz.out.cell 0
        go_wp2_with fail
        refine c.mono ?_
        rintro e w17 ⟨rfl, hb⟩
        clear c
        clear hk_bx hk_bw hk_bc hk_bc1 hk_be hk_be1 hk_by hk_bz
        replace R_d := Lib.hid (R_d.out.below hb)
        replace R_x := Lib.hid (R_x.out.below hb)
        replace B_bx := Lib.hid (B_bx.out.below hb)
        replace R_w := Lib.hid (R_w.out.below hb)
        replace B_bw := Lib.hid (B_bw.out.below hb)
        replace B_bc := Lib.hid (B_bc.out.below hb)
        replace B_be := Lib.hid (B_be.out.below hb)
        replace R_s := Lib.hid (R_s.out.below hb)
        replace R_y := Lib.hid (R_y.out.below hb)
        replace B_by := Lib.hid (B_by.out.below hb)
        replace R_z := Lib.hid (R_z.out.below hb)
        replace B_bz := Lib.hid (B_bz.out.below hb)
        have z17 := hb.size
        replace hW := hW.trans (hb.mono hW.size)
        replace hB9 := hB9.trans (hb.mono hB9.size)
        clear hb
        have c := ci_Gaps (fromGpL Ld) a_x c_x w17 R_x.out.slw (by omega)
        rw [HX.out HQ.out] at c
        have hk_bx : w17.cell? ⟨w3.heap.size, 0, none⟩ = some (.slice a_x (fromGpL Ld).length c_x) := B_bx.out.cell 0
        have hk_bw : w17.cell? ⟨w5.heap.size, 0, none⟩ = some (.slice a_w (fromGpL Ld).length c_w) := B_bw.out.cell 0
        have hk_bc : w17.cell? ⟨w7.heap.size, 0, none⟩ = some (.int .i64 (gapA Ld)) := B_bc.out.cell 0
        have hk_bc1 : w17.cell? ⟨w7.heap.size, 1, none⟩ = some (.int .i64 (gapB' Ld)) := B_bc.out.cell 1
        have hk_be : w17.cell? ⟨w9.heap.size, 0, none⟩ = some (.int .i64 (gapA Ld)) := B_be.out.cell 0
        have hk_be1 : w17.cell? ⟨w9.heap.size, 1, none⟩ = some (.int .i64 (gapB' Ld)) := B_be.out.cell 1
        have hk_by : w17.cell? ⟨w12.heap.size, 0, none⟩ = some (.slice a_y (fromElL Ls n).length c_y) := B_by.out.cell 0
        have hk_bz : w17.cell? ⟨w14.heap.size, 0, none⟩ = some (.slice a_z (fromElL Ls n).length c_z) := B_bz.out.cell 0
        go_wp2_with fail
        refine c.mono ?_
        rintro e w18 ⟨v, rfl, ho, hb⟩
        clear c
        clear hk_bx hk_bw hk_bc hk_bc1 hk_be hk_be1 hk_by hk_bz
        obtain ⟨a_r, c_r, rfl, rX⟩ := row_open ho
        clear ho
        replace R_d := Lib.hid (R_d.out.below hb)
        replace R_x := Lib.hid (R_x.out.below hb)
        replace B_bx := Lib.hid (B_bx.out.below hb)
        replace R_w := Lib.hid (R_w.out.below hb)
        replace B_bw := Lib.hid (B_bw.out.below hb)
        replace B_bc := Lib.hid (B_bc.out.below hb)
        replace B_be := Lib.hid (B_be.out.below hb)
        replace R_s := Lib.hid (R_s.out.below hb)
        replace R_y := Lib.hid (R_y.out.below hb)
        replace B_by := Lib.hid (B_by.out.below hb)
        replace R_z := Lib.hid (R_z.out.below hb)
        replace B_bz := Lib.hid (B_bz.out.below hb)
        have z18 := hb.size
        replace hW := hW.trans (hb.mono hW.size)
        replace hB9 := hB9.trans (hb.mono hB9.size)
        have R_r := Lib.hid rX
        clear rX
        clear hb
        have c := sameInts_any Ld Ld a_r a_d c_r c_d w18 R_r.out.slv R_d.out.slv (by omega) (by omega)
        rw [decide_eq_true (rfl : Ld = Ld)] at c
        have hk_bx : w18.cell? ⟨w3.heap.size, 0, none⟩ = some (.slice a_x (fromGpL Ld).length c_x) := B_bx.out.cell 0
        have hk_bw : w18.cell? ⟨w5.heap.size, 0, none⟩ = some (.slice a_w (fromGpL Ld).length c_w) := B_bw.out.cell 0
        have hk_bc : w18.cell? ⟨w7.heap.size, 0, none⟩ = some (.int .i64 (gapA Ld)) := B_bc.out.cell 0
        have hk_bc1 : w18.cell? ⟨w7.heap.size, 1, none⟩ = some (.int .i64 (gapB' Ld)) := B_bc.out.cell 1
        have hk_be : w18.cell? ⟨w9.heap.size, 0, none⟩ = some (.int .i64 (gapA Ld)) := B_be.out.cell 0
        have hk_be1 : w18.cell? ⟨w9.heap.size, 1, none⟩ = some (.int .i64 (gapB' Ld)) := B_be.out.cell 1
        have hk_by : w18.cell? ⟨w12.heap.size, 0, none⟩ = some (.slice a_y (fromElL Ls n).length c_y) := B_by.out.cell 0
        have hk_bz : w18.cell? ⟨w14.heap.size, 0, none⟩ = some (.slice a_z (fromElL Ls n).length c_z) := B_bz.out.cell 0
        go_wp2_with fail
        refine c.mono ?_
        rintro e w19 ⟨rfl, hb⟩
        clear c
        clear hk_bx hk_bw hk_bc hk_bc1 hk_be hk_be1 hk_by hk_bz
        replace R_d := Lib.hid (R_d.out.below hb)
        replace R_x := Lib.hid (R_x.out.below hb)
        replace B_bx := Lib.hid (B_bx.out.below hb)
        replace R_w := Lib.hid (R_w.out.below hb)
        replace B_bw := Lib.hid (B_bw.out.below hb)
        replace B_bc := Lib.hid (B_bc.out.below hb)
        replace B_be := Lib.hid (B_be.out.below hb)
        replace R_s := Lib.hid (R_s.out.below hb)
        replace R_y := Lib.hid (R_y.out.below hb)
        replace B_by := Lib.hid (B_by.out.below hb)
        replace R_z := Lib.hid (R_z.out.below hb)
        replace B_bz := Lib.hid (B_bz.out.below hb)
        replace R_r := Lib.hid (R_r.out.below hb)
        have z19 := hb.size
        replace hW := hW.trans (hb.mono hW.size)
        replace hB9 := hB9.trans (hb.mono hB9.size)
        clear hb
        have hk_bx : w19.cell? ⟨w3.heap.size, 0, none⟩ = some (.slice a_x (fromGpL Ld).length c_x) := B_bx.out.cell 0
        have hk_bw : w19.cell? ⟨w5.heap.size, 0, none⟩ = some (.slice a_w (fromGpL Ld).length c_w) := B_bw.out.cell 0
        have hk_bc : w19.cell? ⟨w7.heap.size, 0, none⟩ = some (.int .i64 (gapA Ld)) := B_bc.out.cell 0
        have hk_bc1 : w19.cell? ⟨w7.heap.size, 1, none⟩ = some (.int .i64 (gapB' Ld)) := B_bc.out.cell 1
        have hk_be : w19.cell? ⟨w9.heap.size, 0, none⟩ = some (.int .i64 (gapA Ld)) := B_be.out.cell 0
        have hk_be1 : w19.cell? ⟨w9.heap.size, 1, none⟩ = some (.int .i64 (gapB' Ld)) := B_be.out.cell 1
        have hk_by : w19.cell? ⟨w12.heap.size, 0, none⟩ = some (.slice a_y (fromElL Ls n).length c_y) := B_by.out.cell 0
        have hk_bz : w19.cell? ⟨w14.heap.size, 0, none⟩ = some (.slice a_z (fromElL Ls n).length c_z) := B_bz.out.cell 0
        go_wp2_with fail
        go_meet
        exact ⟨rfl, hB9⟩
      · skip
        have c := spec_EqualSemigroup (fromGpL Ld) (fromGpL Ld) a_x a_w c_x c_w w15 R_x.out.slv R_w.out.slv (by omega) (by omega)
        rw [decide_eq_true (rfl : fromGpL Ld = fromGpL Ld)] at c
        have hk_bx : w15.cell? ⟨w3.heap.size, 0, none⟩ = some (.slice a_x (fromGpL Ld).length c_x) := B_bx.out.cell 0
        have hk_bw : w15.cell? ⟨w5.heap.size, 0, none⟩ = some (.slice a_w (fromGpL Ld).length c_w) := B_bw.out.cell 0
        have hk_bc : w15.cell? ⟨w7.heap.size, 0, none⟩ = some (.int .i64 (gapA Ld)) := B_bc.out.cell 0
        have hk_bc1 : w15.cell? ⟨w7.heap.size, 1, none⟩ = some (.int .i64 (gapB' Ld)) := B_bc.out.cell 1
        have hk_be : w15.cell? ⟨w9.heap.size, 0, none⟩ = some (.int .i64 (gapA Ld)) := B_be.out.cell 0
        have hk_be1 : w15.cell? ⟨w9.heap.size, 1, none⟩ = some (.int .i64 (gapB' Ld)) := B_be.out.cell 1
        have hk_by : w15.cell? ⟨w12.heap.size, 0, none⟩ = some (.slice a_y (fromElL Ls n).length c_y) := B_by.out.cell 0
        have hk_bz : w15.cell? ⟨w14.heap.size, 0, none⟩ = some (.slice a_z (fromElL Ls n).length c_z) := B_bz.out.cell 0
        go_wp2_with fail
        refine c.mono ?_
        rintro e w16 ⟨rfl, hb⟩
        clear c
        clear hk_bx hk_bw hk_bc hk_bc1 hk_be hk_be1 hk_by hk_bz
        replace R_d := Lib.hid (R_d.out.below hb)
        replace R_x := Lib.hid (R_x.out.below hb)
        replace B_bx := Lib.hid (B_bx.out.below hb)
        replace R_w := Lib.hid (R_w.out.below hb)
        replace B_bw := Lib.hid (B_bw.out.below hb)
        replace B_bc := Lib.hid (B_bc.out.below hb)
        replace B_be := Lib.hid (B_be.out.below hb)
        replace R_s := Lib.hid (R_s.out.below hb)
        replace R_y := Lib.hid (R_y.out.below hb)
        replace B_by := Lib.hid (B_by.out.below hb)
        replace R_z := Lib.hid (R_z.out.below hb)
        replace B_bz := Lib.hid (B_bz.out.below hb)
        have z16 := hb.size
        replace hW := hW.trans (hb.mono hW.size)
        replace hB9 := hB9.trans (hb.mono hB9.size)
        clear hb
        have c := spec_EqualSemigroup (fromElL Ls n) (fromElL Ls n) a_y a_z c_y c_z w16 R_y.out.slv R_z.out.slv (by omega) (by omega)
        rw [decide_eq_true (rfl : fromElL Ls n = fromElL Ls n)] at c
        have hk_bx : w16.cell? ⟨w3.heap.size, 0, none⟩ = some (.slice a_x (fromGpL Ld).length c_x) := B_bx.out.cell 0
        have hk_bw : w16.cell? ⟨w5.heap.size, 0, none⟩ = some (.slice a_w (fromGpL Ld).length c_w) := B_bw.out.cell 0
        have hk_bc : w16.cell? ⟨w7.heap.size, 0, none⟩ = some (.int .i64 (gapA Ld)) := B_bc.out.cell 0
        have hk_bc1 : w16.cell? ⟨w7.heap.size, 1, none⟩ = some (.int .i64 (gapB' Ld)) := B_bc.out.cell 1
        have hk_be : w16.cell? ⟨w9.heap.size, 0, none⟩ = some (.int .i64 (gapA Ld)) := B_be.out.cell 0
        have hk_be1 : w16.cell? ⟨w9.heap.size, 1, none⟩ = some (.int .i64 (gapB' Ld)) := B_be.out.cell 1
        have hk_by : w16.cell? ⟨w12.heap.size, 0, none⟩ = some (.slice a_y (fromElL Ls n).length c_y) := B_by.out.cell 0
        have hk_bz : w16.cell? ⟨w14.heap.size, 0, none⟩ = some (.slice a_z (fromElL Ls n).length c_z) := B_bz.out.cell 0
        go_wp2_with fail
        refine c.mono ?_
        rintro e w17 ⟨rfl, hb⟩
        clear c
        clear hk_bx hk_bw hk_bc hk_bc1 hk_be hk_be1 hk_by hk_bz
        replace R_d := Lib.hid (R_d.out.below hb)
        replace R_x := Lib.hid (R_x.out.below hb)
        replace B_bx := Lib.hid (B_bx.out.below hb)
        replace R_w := Lib.hid (R_w.out.below hb)
        replace B_bw := Lib.hid (B_bw.out.below hb)
        replace B_bc := Lib.hid (B_bc.out.below hb)
        replace B_be := Lib.hid (B_be.out.below hb)
        replace R_s := Lib.hid (R_s.out.below hb)
        replace R_y := Lib.hid (R_y.out.below hb)
        replace B_by := Lib.hid (B_by.out.below hb)
        replace R_z := Lib.hid (R_z.out.below hb)
        replace B_bz := Lib.hid (B_bz.out.below hb)
        have z17 := hb.size
        replace hW := hW.trans (hb.mono hW.size)
        replace hB9 := hB9.trans (hb.mono hB9.size)
        clear hb
        have c := ci_Gaps (fromGpL Ld) a_x c_x w17 R_x.out.slw (by omega)
        rw [HX.out HQ.out] at c
        have hk_bx : w17.cell? ⟨w3.heap.size, 0, none⟩ = some (.slice a_x (fromGpL Ld).length c_x) := B_bx.out.cell 0
        have hk_bw : w17.cell? ⟨w5.heap.size, 0, none⟩ = some (.slice a_w (fromGpL Ld).length c_w) := B_bw.out.cell 0
        have hk_bc : w17.cell? ⟨w7.heap.size, 0, none⟩ = some (.int .i64 (gapA Ld)) := B_bc.out.cell 0
        have hk_bc1 : w17.cell? ⟨w7.heap.size, 1, none⟩ = some (.int .i64 (gapB' Ld)) := B_bc.out.cell 1
        have hk_be : w17.cell? ⟨w9.heap.size, 0, none⟩ = some (.int .i64 (gapA Ld)) := B_be.out.cell 0
        have hk_be1 : w17.cell? ⟨w9.heap.size, 1, none⟩ = some (.int .i64 (gapB' Ld)) := B_be.out.cell 1
        have hk_by : w17.cell? ⟨w12.heap.size, 0, none⟩ = some (.slice a_y (fromElL Ls n).length c_y) := B_by.out.cell 0
        have hk_bz : w17.cell? ⟨w14.heap.size, 0, none⟩ = some (.slice a_z (fromElL Ls n).length c_z) := B_bz.out.cell 0
        go_wp2_with fail
        refine c.mono ?_
        rintro e w18 ⟨v, rfl, ho, hb⟩
        clear c
        clear hk_bx hk_bw hk_bc hk_bc1 hk_be hk_be1 hk_by hk_bz
        obtain ⟨a_r, c_r, rfl, rX⟩ := row_open ho
        clear ho
        replace R_d := Lib.hid (R_d.out.below hb)
        replace R_x := Lib.hid (R_x.out.below hb)
        replace B_bx := Lib.hid (B_bx.out.below hb)
        replace R_w := Lib.hid (R_w.out.below hb)
        replace B_bw := Lib.hid (B_bw.out.below hb)
        replace B_bc := Lib.hid (B_bc.out.below hb)
        replace B_be := Lib.hid (B_be.out.below hb)
        replace R_s := Lib.hid (R_s.out.below hb)
        replace R_y := Lib.hid (R_y.out.below hb)
        replace B_by := Lib.hid (B_by.out.below hb)
        replace R_z := Lib.hid (R_z.out.below hb)
        replace B_bz := Lib.hid (B_bz.out.below hb)
        have z18 := hb.size
        replace hW := hW.trans (hb.mono hW.size)
        replace hB9 := hB9.trans (hb.mono hB9.size)
        have R_r := Lib.hid rX
        clear rX
        clear hb
        have c := sameInts_any Ld Ld a_r a_d c_r c_d w18 R_r.out.slv R_d.out.slv (by omega) (by omega)
        rw [decide_eq_true (rfl : Ld = Ld)] at c
        have hk_bx : w18.cell? ⟨w3.heap.size, 0, none⟩ = some (.slice a_x (fromGpL Ld).length c_x) := B_bx.out.cell 0
        have hk_bw : w18.cell? ⟨w5.heap.size, 0, none⟩ = some (.slice a_w (fromGpL Ld).length c_w) := B_bw.out.cell 0
        have hk_bc : w18.cell? ⟨w7.heap.size, 0, none⟩ = some (.int .i64 (gapA Ld)) := B_bc.out.cell 0
        have hk_bc1 : w18.cell? ⟨w7.heap.size, 1, none⟩ = some (.int .i64 (gapB' Ld)) := B_bc.out.cell 1
        have hk_be : w18.cell? ⟨w9.heap.size, 0, none⟩ = some (.int .i64 (gapA Ld)) := B_be.out.cell 0
        have hk_be1 : w18.cell? ⟨w9.heap.size, 1, none⟩ = some (.int .i64 (gapB' Ld)) := B_be.out.cell 1
        have hk_by : w18.cell? ⟨w12.heap.size, 0, none⟩ = some (.slice a_y (fromElL Ls n).length c_y) := B_by.out.cell 0
        have hk_bz : w18.cell? ⟨w14.heap.size, 0, none⟩ = some (.slice a_z (fromElL Ls n).length c_z) := B_bz.out.cell 0
        go_wp2_with fail
        refine c.mono ?_
        rintro e w19 ⟨rfl, hb⟩
        clear c
        clear hk_bx hk_bw hk_bc hk_bc1 hk_be hk_be1 hk_by hk_bz
        replace R_d := Lib.hid (R_d.out.below hb)
        replace R_x := Lib.hid (R_x.out.below hb)
        replace B_bx := Lib.hid (B_bx.out.below hb)
        replace R_w := Lib.hid (R_w.out.below hb)
        replace B_bw := Lib.hid (B_bw.out.below hb)
        replace B_bc := Lib.hid (B_bc.out.below hb)
        replace B_be := Lib.hid (B_be.out.below hb)
        replace R_s := Lib.hid (R_s.out.below hb)
        replace R_y := Lib.hid (R_y.out.below hb)
        replace B_by := Lib.hid (B_by.out.below hb)
        replace R_z := Lib.hid (R_z.out.below hb)
        replace B_bz := Lib.hid (B_bz.out.below hb)
        replace R_r := Lib.hid (R_r.out.below hb)
        have z19 := hb.size
        replace hW := hW.trans (hb.mono hW.size)
        replace hB9 := hB9.trans (hb.mono hB9.size)
        clear hb
        have hk_bx : w19.cell? ⟨w3.heap.size, 0, none⟩ = some (.slice a_x (fromGpL Ld).length c_x) := B_bx.out.cell 0
        have hk_bw : w19.cell? ⟨w5.heap.size, 0, none⟩ = some (.slice a_w (fromGpL Ld).length c_w) := B_bw.out.cell 0
        have hk_bc : w19.cell? ⟨w7.heap.size, 0, none⟩ = some (.int .i64 (gapA Ld)) := B_bc.out.cell 0
        have hk_bc1 : w19.cell? ⟨w7.heap.size, 1, none⟩ = some (.int .i64 (gapB' Ld)) := B_bc.out.cell 1
        have hk_be : w19.cell? ⟨w9.heap.size, 0, none⟩ = some (.int .i64 (gapA Ld)) := B_be.out.cell 0
        have hk_be1 : w19.cell? ⟨w9.heap.size, 1, none⟩ = some (.int .i64 (gapB' Ld)) := B_be.out.cell 1
        have hk_by : w19.cell? ⟨w12.heap.size, 0, none⟩ = some (.slice a_y (fromElL Ls n).length c_y) := B_by.out.cell 0
        have hk_bz : w19.cell? ⟨w14.heap.size, 0, none⟩ = some (.slice a_z (fromElL Ls n).length c_z) := B_bz.out.cell 0
        go_wp2_with fail
        go_meet
        exact ⟨rfl, hB9⟩
  case rest =>
    rename World => wq
    obtain ⟨rfl, hb⟩ := hcut
    clear hB9 HX HQ HQB
    clear hk_bx hk_bw hk_bc hk_bc1 hk_be hk_be1 hk_by hk_bz
    replace R_d := Lib.hid (R_d.out.below hb)
    replace R_x := Lib.hid (R_x.out.below hb)
    replace B_bx := Lib.hid (B_bx.out.below hb)
    replace R_w := Lib.hid (R_w.out.below hb)
    replace B_bw := Lib.hid (B_bw.out.below hb)
    replace B_bc := Lib.hid (B_bc.out.below hb)
    replace B_be := Lib.hid (B_be.out.below hb)
    replace R_s := Lib.hid (R_s.out.below hb)
    replace R_y := Lib.hid (R_y.out.below hb)
    replace B_by := Lib.hid (B_by.out.below hb)
    replace R_z := Lib.hid (R_z.out.below hb)
    replace B_bz := Lib.hid (B_bz.out.below hb)
    have z16 := hb.size
    replace hW := hW.trans (hb.mono hW.size)
    clear hb HR hl
    clear R_x
    clear R_w
    clear B_bx
    clear B_bw
    clear B_be
    clear R_z
    clear B_bz
    cases qb
    · skip
      clear HCL HB B_bc
      cases r
      · skip
        have hk_by : wq.cell? ⟨w12.heap.size, 0, none⟩ = some (.slice a_y (fromElL Ls n).length c_y) := B_by.out.cell 0
        go_wp2_with fail
        go_ret
        exact ⟨rfl, hW⟩
      · obtain ⟨hz1, hz2⟩ := HZ.out HE.out
        have c := ci_SmallElements (fromElL Ls n) a_y c_y wq R_y.out.slw (by omega)
        rw [hz2] at c
        have hk_by : wq.cell? ⟨w12.heap.size, 0, none⟩ = some (.slice a_y (fromElL Ls n).length c_y) := B_by.out.cell 0
        go_wp2_with fail
        refine c.mono ?_
        rintro e w17 ⟨v, rfl, ho, hb⟩
        clear c
        clear hk_by
        obtain ⟨a_m, c_m, rfl, rX⟩ := row_open ho
        clear ho
        replace R_d := Lib.hid (R_d.out.below hb)
        replace R_s := Lib.hid (R_s.out.below hb)
        replace R_y := Lib.hid (R_y.out.below hb)
        replace B_by := Lib.hid (B_by.out.below hb)
        have z17 := hb.size
        replace hW := hW.trans (hb.mono hW.size)
        have R_m := Lib.hid rX
        clear rX
        clear hb
        have c := sameInts_any Ls Ls a_m a_s c_m c_s w17 R_m.out.slv R_s.out.slv (by omega) (by omega)
        rw [decide_eq_true (rfl : Ls = Ls)] at c
        have hk_by : w17.cell? ⟨w12.heap.size, 0, none⟩ = some (.slice a_y (fromElL Ls n).length c_y) := B_by.out.cell 0
        go_wp2_with fail
        refine c.mono ?_
        rintro e w18 ⟨rfl, hb⟩
        clear c
        clear hk_by
        replace R_d := Lib.hid (R_d.out.below hb)
        replace R_s := Lib.hid (R_s.out.below hb)
        replace R_y := Lib.hid (R_y.out.below hb)
        replace B_by := Lib.hid (B_by.out.below hb)
        replace R_m := Lib.hid (R_m.out.below hb)
        have z18 := hb.size
        replace hW := hW.trans (hb.mono hW.size)
        clear hb
        have c := ci_ConductorOf (fromElL Ls n) a_y c_y w18 R_y.out.slw (by omega)
        rw [hz1] at c
        have hk_by : w18.cell? ⟨w12.heap.size, 0, none⟩ = some (.slice a_y (fromElL Ls n).length c_y) := B_by.out.cell 0
        go_wp2_with fail
        refine c.mono ?_
        rintro e w19 ⟨rfl, hb⟩
        clear c
        clear hk_by
        replace R_d := Lib.hid (R_d.out.below hb)
        replace R_s := Lib.hid (R_s.out.below hb)
        replace R_y := Lib.hid (R_y.out.below hb)
        replace B_by := Lib.hid (B_by.out.below hb)
        replace R_m := Lib.hid (R_m.out.below hb)
        have z19 := hb.size
        replace hW := hW.trans (hb.mono hW.size)
        clear hb
        have hk_by : w19.cell? ⟨w12.heap.size, 0, none⟩ = some (.slice a_y (fromElL Ls n).length c_y) := B_by.out.cell 0
        go_wp2_with fail
        go_ret
        exact ⟨rfl, hW⟩
    · obtain ⟨ga, gb, hga, hgb, hab, h1, h2, h3⟩ := HCL.out HB.out
      rw [hga, hgb] at B_bc
      clear hga hgb HCL HB
      have c := spec_HasNumber Ld (ga : Int) a_d c_d wq R_d.out.slv (by unfold maxLen; omega)
      rw [h1] at c
      have hk_by : wq.cell? ⟨w12.heap.size, 0, none⟩ = some (.slice a_y (fromElL Ls n).length c_y) := B_by.out.cell 0
      have hk_bc : wq.cell? ⟨w7.heap.size, 0, none⟩ = some (.int .i64 (ga : Int)) := B_bc.out.cell 0
      have hk_bc1 : wq.cell? ⟨w7.heap.size, 1, none⟩ = some (.int .i64 (gb : Int)) := B_bc.out.cell 1
      go_wp2_with fail
      refine c.mono ?_
      rintro e w17 ⟨rfl, hww⟩
      clear c
      clear hk_by hk_bc hk_bc1
      have hb : Below wq.heap.size wq w17 := by rw [hww]; exact Below.refl _ _
      clear hww
      replace R_d := Lib.hid (R_d.out.below hb)
      replace R_s := Lib.hid (R_s.out.below hb)
      replace R_y := Lib.hid (R_y.out.below hb)
      replace B_by := Lib.hid (B_by.out.below hb)
      replace B_bc := Lib.hid (B_bc.out.below hb)
      have z17 := hb.size
      replace hW := hW.trans (hb.mono hW.size)
      clear hb
      have c := spec_HasNumber Ld (gb : Int) a_d c_d w17 R_d.out.slv (by unfold maxLen; omega)
      rw [h2] at c
      have hk_by : w17.cell? ⟨w12.heap.size, 0, none⟩ = some (.slice a_y (fromElL Ls n).length c_y) := B_by.out.cell 0
      have hk_bc : w17.cell? ⟨w7.heap.size, 0, none⟩ = some (.int .i64 (ga : Int)) := B_bc.out.cell 0
      have hk_bc1 : w17.cell? ⟨w7.heap.size, 1, none⟩ = some (.int .i64 (gb : Int)) := B_bc.out.cell 1
      go_wp2_with fail
      refine c.mono ?_
      rintro e w18 ⟨rfl, hww⟩
      clear c
      clear hk_by hk_bc hk_bc1
      have hb : Below w17.heap.size w17 w18 := by rw [hww]; exact Below.refl _ _
      clear hww
      replace R_d := Lib.hid (R_d.out.below hb)
      replace R_s := Lib.hid (R_s.out.below hb)
      replace R_y := Lib.hid (R_y.out.below hb)
      replace B_by := Lib.hid (B_by.out.below hb)
      replace B_bc := Lib.hid (B_bc.out.below hb)
      have z18 := hb.size
      replace hW := hW.trans (hb.mono hW.size)
      clear hb
      have c := spec_HasNumber Ld ((ga : Int) + (gb : Int)) a_d c_d w18 R_d.out.slv (by unfold maxLen; omega)
      rw [h3] at c
      have hk_by : w18.cell? ⟨w12.heap.size, 0, none⟩ = some (.slice a_y (fromElL Ls n).length c_y) := B_by.out.cell 0
      have hk_bc : w18.cell? ⟨w7.heap.size, 0, none⟩ = some (.int .i64 (ga : Int)) := B_bc.out.cell 0
      have hk_bc1 : w18.cell? ⟨w7.heap.size, 1, none⟩ = some (.int .i64 (gb : Int)) := B_bc.out.cell 1
      go_wp2_with fail
      refine c.mono ?_
      rintro e w19 ⟨rfl, hww⟩
      clear c
      clear hk_by hk_bc hk_bc1
      have hb : Below w18.heap.size w18 w19 := by rw [hww]; exact Below.refl _ _
      clear hww
      replace R_d := Lib.hid (R_d.out.below hb)
      replace R_s := Lib.hid (R_s.out.below hb)
      replace R_y := Lib.hid (R_y.out.below hb)
      replace B_by := Lib.hid (B_by.out.below hb)
      replace B_bc := Lib.hid (B_bc.out.below hb)
      have z19 := hb.size
      replace hW := hW.trans (hb.mono hW.size)
      clear hb
      cases r
      · skip
        have hk_by : w19.cell? ⟨w12.heap.size, 0, none⟩ = some (.slice a_y (fromElL Ls n).length c_y) := B_by.out.cell 0
        go_wp2_with fail
        go_ret
        exact ⟨rfl, hW⟩
      · obtain ⟨hz1, hz2⟩ := HZ.out HE.out
        have c := ci_SmallElements (fromElL Ls n) a_y c_y w19 R_y.out.slw (by omega)
        rw [hz2] at c
        have hk_by : w19.cell? ⟨w12.heap.size, 0, none⟩ = some (.slice a_y (fromElL Ls n).length c_y) := B_by.out.cell 0
        go_wp2_with fail
        refine c.mono ?_
        rintro e w20 ⟨v, rfl, ho, hb⟩
        clear c
        clear hk_by
        obtain ⟨a_m, c_m, rfl, rX⟩ := row_open ho
        clear ho
        replace R_d := Lib.hid (R_d.out.below hb)
        replace R_s := Lib.hid (R_s.out.below hb)
        replace R_y := Lib.hid (R_y.out.below hb)
        replace B_by := Lib.hid (B_by.out.below hb)
        have z20 := hb.size
        replace hW := hW.trans (hb.mono hW.size)
        have R_m := Lib.hid rX
        clear rX
        clear hb
        have c := sameInts_any Ls Ls a_m a_s c_m c_s w20 R_m.out.slv R_s.out.slv (by omega) (by omega)
        rw [decide_eq_true (rfl : Ls = Ls)] at c
        have hk_by : w20.cell? ⟨w12.heap.size, 0, none⟩ = some (.slice a_y (fromElL Ls n).length c_y) := B_by.out.cell 0
        go_wp2_with fail
        refine c.mono ?_
        rintro e w21 ⟨rfl, hb⟩
        clear c
        clear hk_by
        replace R_d := Lib.hid (R_d.out.below hb)
        replace R_s := Lib.hid (R_s.out.below hb)
        replace R_y := Lib.hid (R_y.out.below hb)
        replace B_by := Lib.hid (B_by.out.below hb)
        replace R_m := Lib.hid (R_m.out.below hb)
        have z21 := hb.size
        replace hW := hW.trans (hb.mono hW.size)
        clear hb
        have c := ci_ConductorOf (fromElL Ls n) a_y c_y w21 R_y.out.slw (by omega)
        rw [hz1] at c
        have hk_by : w21.cell? ⟨w12.heap.size, 0, none⟩ = some (.slice a_y (fromElL Ls n).length c_y) := B_by.out.cell 0
        go_wp2_with fail
        refine c.mono ?_
        rintro e w22 ⟨rfl, hb⟩
        clear c
        clear hk_by
        replace R_d := Lib.hid (R_d.out.below hb)
        replace R_s := Lib.hid (R_s.out.below hb)
        replace R_y := Lib.hid (R_y.out.below hb)
        replace B_by := Lib.hid (B_by.out.below hb)
        replace R_m := Lib.hid (R_m.out.below hb)
        have z22 := hb.size
        replace hW := hW.trans (hb.mono hW.size)
        clear hb
        have hk_by : w22.cell? ⟨w12.heap.size, 0, none⟩ = some (.slice a_y (fromElL Ls n).length c_y) := B_by.out.cell 0
        go_wp2_with fail
        go_ret
        exact ⟨rfl, hW⟩

set_option maxRecDepth 100000 in
set_option maxHeartbeats 800000 in
theorem FnFromGaps.walk (p0 : Option Addr) (len0 cap0 : Nat) (z0 : List Int) (W : World) (r0 : IsRow .u8 W p0 len0 cap0 z0) (_ : W.ShapedOpen Try.prog) :
    Calls Try.prog 4 #[.slice p0 len0 cap0] W fun e w' => e = .returned (.bool true) ∧ Below W.heap.size W w' := by
  by_cases hl : len0 ≤ 1048576
  · exact fnFromGaps_small p0 len0 cap0 z0 W r0 hl
  · have cb := big_any p0 len0 cap0 W (row_maxLen r0)
    rw [decide_eq_true (show 1048576 < len0 by omega)] at cb
    go_enter Try.func4, Try.ntmps4
    go_wp2_with fail
    refine cb.mono ?_
    rintro e w0 ⟨rfl, rfl⟩
    go_wp2_with fail
    go_ret
    exact ⟨rfl, Below.refl _ _⟩
end Go.Proofs.Ytgkkkmcgnpdchaa
