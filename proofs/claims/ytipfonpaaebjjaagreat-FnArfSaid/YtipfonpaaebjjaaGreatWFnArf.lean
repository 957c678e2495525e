/-
  THE WALK OF THE LAW FnArf: the closure is the least Arf semigroup around, and the elements of an Arf semigroup are the partial sums of its multiplicities (written by fn_arf.py of the verifier's own).
-/
import Derived.Test.YtipfonpaaebjjaaGreatRows
import Derived.Test.YtipfonpaaebjjaaGreatDrw24
import Derived.Test.YtipfonpaaebjjaaGreatC24
import Derived.Test.YtipfonpaaebjjaaGreatC24b
import Derived.Test.YtipfonpaaebjjaaGreatC24c
import Derived.Test.YtipfonpaaebjjaaGreatI58
import Derived.Test.YtipfonpaaebjjaaGreatCh4I
import Derived.Deep.DeepCutAuto
namespace Go.Proofs.YtipfonpaaebjjaaGreat
open Go Go.RowKit

set_option maxRecDepth 100000 in
set_option maxHeartbeats 25600000 in
theorem fnArf_small (p0 : Option Addr) (len0 cap0 : Nat) (z0 : List Int) (W : World) (r0 : IsRow .u8 W p0 len0 cap0 z0) (hl : len0 ≤ 1048576) :
    Calls Tryz.prog 4 #[.slice p0 len0 cap0] W fun e w' => e = .returned (.bool true) ∧ Below W.heap.size W w' := by
  have HR := Lib.hid r0
  clear r0
  have hW : Below W.heap.size W W := Below.refl _ _
  go_enter Tryz.func4, Tryz.ntmps4
  have c := big_b p0 len0 cap0 W (by unfold maxLen; omega)
  rw [decide_eq_false (show ¬ 1048576 < len0 by omega)] at c
  go_wp2_with fail
  refine c.mono ?_
  rintro e w1 ⟨rfl, hb⟩
  clear c
  have z1 := hb.size
  replace hW := hW.trans (hb.mono hW.size)
  clear hb
  have c := DrawArfClosure_any w1 p0 len0 cap0 z0 (HR.out.below hW) hl
  go_wp2_with fail
  refine c.mono ?_
  rintro e w2 ⟨Ls, a_s, c_s, hl_s, hB_s, rfl, hs, hb⟩
  clear c
  have z2 := hb.size
  replace hW := hW.trans (hb.mono hW.size)
  have S_s := Lib.hid hs
  clear hs hb hB_s
  obtain ⟨w3, hwb⟩ : ∃ wb, wb = w2.alloc (.cells #[.slice a_s Ls.length c_s] 26) := ⟨_, rfl⟩
  have hb : Below w2.heap.size w2 w3 := by rw [hwb]; exact box_below _ _
  have hA : Arr w3 w2.heap.size 26 [.slice a_s Ls.length c_s] := by rw [hwb]; exact Arr.new _ _ _
  replace S_s := Lib.hid (S_s.out.below hb)
  have z3 := hb.size
  replace hW := hW.trans (hb.mono hW.size)
  have y3 : w2.heap.size < w3.heap.size := hA.lt
  have B_bs := Lib.hid hA
  have H_w3 := Lib.hid hwb
  clear hwb hb hA
  have hx12 := cloL_len Ls
  have HLAW := Lib.hid (fun (h : cloB Ls = true) => clo_facts h)
  obtain ⟨q, hq⟩ : ∃ t, t = cloB Ls := ⟨_, rfl⟩
  have HQ : Hid (cloB Ls = q) := Lib.hid hq.symm
  clear hq
  have c := ci_ArfClosure Ls a_s c_s w3 S_s.out (by omega)
  rw [HQ.out] at c
  have hk_bs : w3.cell? ⟨w2.heap.size, 0, none⟩ = some (.slice a_s Ls.length c_s) := B_bs.out.cell 0
  rw [H_w3.out] at hk_bs
  go_wp2_with fail
  rw [← H_w3.out]
  refine c.mono ?_
  rintro e w4 ⟨v, rfl, ho, hb⟩
  clear c
  clear hk_bs
  obtain ⟨a_x, c_x, rfl, rX⟩ := row_open ho
  clear ho
  replace S_s := Lib.hid (S_s.out.below hb)
  replace B_bs := Lib.hid (B_bs.out.below hb)
  have z4 := hb.size
  replace hW := hW.trans (hb.mono hW.size)
  have R_x := Lib.hid rX
  clear rX hb
  obtain ⟨w5, hwb⟩ : ∃ wb, wb = w4.alloc (.cells #[.slice a_x (cloL Ls).length c_x] 26) := ⟨_, rfl⟩
  have hb : Below w4.heap.size w4 w5 := by rw [hwb]; exact box_below _ _
  have hA : Arr w5 w4.heap.size 26 [.slice a_x (cloL Ls).length c_x] := by rw [hwb]; exact Arr.new _ _ _
  replace S_s := Lib.hid (S_s.out.below hb)
  replace B_bs := Lib.hid (B_bs.out.below hb)
  replace R_x := Lib.hid (R_x.out.below hb)
  have z5 := hb.size
  replace hW := hW.trans (hb.mono hW.size)
  have y5 : w4.heap.size < w5.heap.size := hA.lt
  have B_bx := Lib.hid hA
  have H_w5 := Lib.hid hwb
  clear hwb hb hA
  have c := cs_ArfClosure Ls a_s c_s w5 S_s.out (by omega)
  rw [HQ.out] at c
  have hk_bs : w5.cell? ⟨w2.heap.size, 0, none⟩ = some (.slice a_s Ls.length c_s) := B_bs.out.cell 0
  have hk_bx : w5.cell? ⟨w4.heap.size, 0, none⟩ = some (.slice a_x (cloL Ls).length c_x) := B_bx.out.cell 0
  rw [H_w5.out] at hk_bs hk_bx
  go_wp2_with fail
  rw [← H_w5.out]
  refine c.mono ?_
  rintro e w6 ⟨v, rfl, ho, hb⟩
  clear c
  clear hk_bs hk_bx
  obtain ⟨a_w, c_w, rfl, rX⟩ := row_open ho
  clear ho
  replace S_s := Lib.hid (S_s.out.below hb)
  replace B_bs := Lib.hid (B_bs.out.below hb)
  replace R_x := Lib.hid (R_x.out.below hb)
  replace B_bx := Lib.hid (B_bx.out.below hb)
  have z6 := hb.size
  replace hW := hW.trans (hb.mono hW.size)
  have R_w := Lib.hid rX
  clear rX hb
  obtain ⟨w7, hwb⟩ : ∃ wb, wb = w6.alloc (.cells #[.slice a_w (cloL Ls).length c_w] 26) := ⟨_, rfl⟩
  have hb : Below w6.heap.size w6 w7 := by rw [hwb]; exact box_below _ _
  have hA : Arr w7 w6.heap.size 26 [.slice a_w (cloL Ls).length c_w] := by rw [hwb]; exact Arr.new _ _ _
  replace S_s := Lib.hid (S_s.out.below hb)
  replace B_bs := Lib.hid (B_bs.out.below hb)
  replace R_x := Lib.hid (R_x.out.below hb)
  replace B_bx := Lib.hid (B_bx.out.below hb)
  replace R_w := Lib.hid (R_w.out.below hb)
  have z7 := hb.size
  replace hW := hW.trans (hb.mono hW.size)
  have y7 : w6.heap.size < w7.heap.size := hA.lt
  have B_bw := Lib.hid hA
  have H_w7 := Lib.hid hwb
  clear hwb hb hA
  have c := DrawIsArf_any w7 p0 len0 cap0 z0 (HR.out.below hW) hl
  have hk_bs : w7.cell? ⟨w2.heap.size, 0, none⟩ = some (.slice a_s Ls.length c_s) := B_bs.out.cell 0
  have hk_bx : w7.cell? ⟨w4.heap.size, 0, none⟩ = some (.slice a_x (cloL Ls).length c_x) := B_bx.out.cell 0
  have hk_bw : w7.cell? ⟨w6.heap.size, 0, none⟩ = some (.slice a_w (cloL Ls).length c_w) := B_bw.out.cell 0
  rw [H_w7.out] at hk_bs hk_bx hk_bw
  go_wp2_with fail
  rw [← H_w7.out]
  refine c.mono ?_
  rintro e w8 ⟨La, a_a, c_a, hl_a, hB_a, rfl, hs, hb⟩
  clear c
  clear hk_bs hk_bx hk_bw
  replace S_s := Lib.hid (S_s.out.below hb)
  replace B_bs := Lib.hid (B_bs.out.below hb)
  replace R_x := Lib.hid (R_x.out.below hb)
  replace B_bx := Lib.hid (B_bx.out.below hb)
  replace R_w := Lib.hid (R_w.out.below hb)
  replace B_bw := Lib.hid (B_bw.out.below hb)
  have z8 := hb.size
  replace hW := hW.trans (hb.mono hW.size)
  have S_a := Lib.hid hs
  clear hs hb hB_a
  obtain ⟨w9, hwb⟩ : ∃ wb, wb = w8.alloc (.cells #[.slice a_a La.length c_a] 26) := ⟨_, rfl⟩
  have hb : Below w8.heap.size w8 w9 := by rw [hwb]; exact box_below _ _
  have hA : Arr w9 w8.heap.size 26 [.slice a_a La.length c_a] := by rw [hwb]; exact Arr.new _ _ _
  replace S_s := Lib.hid (S_s.out.below hb)
  replace B_bs := Lib.hid (B_bs.out.below hb)
  replace R_x := Lib.hid (R_x.out.below hb)
  replace B_bx := Lib.hid (B_bx.out.below hb)
  replace R_w := Lib.hid (R_w.out.below hb)
  replace B_bw := Lib.hid (B_bw.out.below hb)
  replace S_a := Lib.hid (S_a.out.below hb)
  have z9 := hb.size
  replace hW := hW.trans (hb.mono hW.size)
  have y9 : w8.heap.size < w9.heap.size := hA.lt
  have B_ba := Lib.hid hA
  have H_w9 := Lib.hid hwb
  clear hwb hb hA
  have hy12 := blowL_len La
  have hm201 : ((seqF 201 La).getD []).length ≤ 201 := seqL_len La
  obtain ⟨hbx, hby, hbz⟩ := arf_bndA La (hasN La)
  have HAL := Lib.hid (fun (h : arfQ (smallL La) (hasN La) = true) => arf_lawA h)
  have HEL := Lib.hid (fun (h : arfB La = true) (i : Nat) (hi : i < ((seqF 201 La).getD []).length) => arf_elem h hi)
  have HSB := Lib.hid (take_sumA (seq_bnd (G := La)))
  obtain ⟨r, hq⟩ : ∃ t, t = arfB La := ⟨_, rfl⟩
  have HRB : Hid (arfB La = r) := Lib.hid hq.symm
  clear hq
  obtain ⟨fx, hq⟩ : ∃ t, t = arfX (smallL La) (hasN La) := ⟨_, rfl⟩
  have HFX : Hid (arfX (smallL La) (hasN La) = fx) := Lib.hid hq.symm
  clear hq
  obtain ⟨fy, hq⟩ : ∃ t, t = arfY (smallL La) (hasN La) := ⟨_, rfl⟩
  have HFY : Hid (arfY (smallL La) (hasN La) = fy) := Lib.hid hq.symm
  clear hq
  obtain ⟨fz, hq⟩ : ∃ t, t = arfZ (smallL La) (hasN La) := ⟨_, rfl⟩
  have HFZ : Hid (arfZ (smallL La) (hasN La) = fz) := Lib.hid hq.symm
  clear hq
  obtain ⟨fb, hq⟩ : ∃ t, t = arfQ (smallL La) (hasN La) := ⟨_, rfl⟩
  have HFQ : Hid (arfQ (smallL La) (hasN La) = fb) := Lib.hid hq.symm
  clear hq
  rw [HFX.out] at hbx
  rw [HFY.out] at hby
  rw [HFZ.out] at hbz
  obtain ⟨t, hq⟩ : ∃ t, t = blowB La := ⟨_, rfl⟩
  have HT : Hid (blowB La = t) := Lib.hid hq.symm
  clear hq
  obtain ⟨u, hq⟩ : ∃ t, t = (seqF 201 La).isSome := ⟨_, rfl⟩
  have HU : Hid ((seqF 201 La).isSome = u) := Lib.hid hq.symm
  clear hq
  have c := ci_IsArf La a_a c_a w9 S_a.out (by omega)
  rw [HRB.out] at c
  have hk_bs : w9.cell? ⟨w2.heap.size, 0, none⟩ = some (.slice a_s Ls.length c_s) := B_bs.out.cell 0
  have hk_bx : w9.cell? ⟨w4.heap.size, 0, none⟩ = some (.slice a_x (cloL Ls).length c_x) := B_bx.out.cell 0
  have hk_bw : w9.cell? ⟨w6.heap.size, 0, none⟩ = some (.slice a_w (cloL Ls).length c_w) := B_bw.out.cell 0
  have hk_ba : w9.cell? ⟨w8.heap.size, 0, none⟩ = some (.slice a_a La.length c_a) := B_ba.out.cell 0
  rw [H_w9.out] at hk_bs hk_bx hk_bw hk_ba
  go_wp2_with fail
  rw [← H_w9.out]
  refine c.mono ?_
  rintro e w10 ⟨rfl, hb⟩
  clear c
  clear hk_bs hk_bx hk_bw hk_ba
  replace S_s := Lib.hid (S_s.out.below hb)
  replace B_bs := Lib.hid (B_bs.out.below hb)
  replace R_x := Lib.hid (R_x.out.below hb)
  replace B_bx := Lib.hid (B_bx.out.below hb)
  replace R_w := Lib.hid (R_w.out.below hb)
  replace B_bw := Lib.hid (B_bw.out.below hb)
  replace S_a := Lib.hid (S_a.out.below hb)
  replace B_ba := Lib.hid (B_ba.out.below hb)
  have z10 := hb.size
  replace hW := hW.trans (hb.mono hW.size)
  clear hb
  have c := ci_ArfFailure La a_a c_a w10 S_a.out (by omega)
  rw [HFX.out, HFY.out, HFZ.out, HFQ.out] at c
  have hk_bs : w10.cell? ⟨w2.heap.size, 0, none⟩ = some (.slice a_s Ls.length c_s) := B_bs.out.cell 0
  have hk_bx : w10.cell? ⟨w4.heap.size, 0, none⟩ = some (.slice a_x (cloL Ls).length c_x) := B_bx.out.cell 0
  have hk_bw : w10.cell? ⟨w6.heap.size, 0, none⟩ = some (.slice a_w (cloL Ls).length c_w) := B_bw.out.cell 0
  have hk_ba : w10.cell? ⟨w8.heap.size, 0, none⟩ = some (.slice a_a La.length c_a) := B_ba.out.cell 0
  go_wp2_with fail
  refine c.mono ?_
  rintro e w11 ⟨rfl, hb⟩
  clear c
  clear hk_bs hk_bx hk_bw hk_ba
  replace S_s := Lib.hid (S_s.out.below hb)
  replace B_bs := Lib.hid (B_bs.out.below hb)
  replace R_x := Lib.hid (R_x.out.below hb)
  replace B_bx := Lib.hid (B_bx.out.below hb)
  replace R_w := Lib.hid (R_w.out.below hb)
  replace B_bw := Lib.hid (B_bw.out.below hb)
  replace S_a := Lib.hid (S_a.out.below hb)
  replace B_ba := Lib.hid (B_ba.out.below hb)
  have z11 := hb.size
  replace hW := hW.trans (hb.mono hW.size)
  clear hb
  have c := cs_ArfFailure La a_a c_a w11 S_a.out (by omega)
  rw [HFX.out, HFY.out, HFZ.out, HFQ.out] at c
  have hk_bs : w11.cell? ⟨w2.heap.size, 0, none⟩ = some (.slice a_s Ls.length c_s) := B_bs.out.cell 0
  have hk_bx : w11.cell? ⟨w4.heap.size, 0, none⟩ = some (.slice a_x (cloL Ls).length c_x) := B_bx.out.cell 0
  have hk_bw : w11.cell? ⟨w6.heap.size, 0, none⟩ = some (.slice a_w (cloL Ls).length c_w) := B_bw.out.cell 0
  have hk_ba : w11.cell? ⟨w8.heap.size, 0, none⟩ = some (.slice a_a La.length c_a) := B_ba.out.cell 0
  go_wp2_with fail
  refine c.mono ?_
  rintro e w12 ⟨rfl, hb⟩
  clear c
  clear hk_bs hk_bx hk_bw hk_ba
  replace S_s := Lib.hid (S_s.out.below hb)
  replace B_bs := Lib.hid (B_bs.out.below hb)
  replace R_x := Lib.hid (R_x.out.below hb)
  replace B_bx := Lib.hid (B_bx.out.below hb)
  replace R_w := Lib.hid (R_w.out.below hb)
  replace B_bw := Lib.hid (B_bw.out.below hb)
  replace S_a := Lib.hid (S_a.out.below hb)
  replace B_ba := Lib.hid (B_ba.out.below hb)
  have z12 := hb.size
  replace hW := hW.trans (hb.mono hW.size)
  clear hb
  have c := ci_BlowUp La a_a c_a w12 S_a.out (by omega)
  rw [HT.out] at c
  have hk_bs : w12.cell? ⟨w2.heap.size, 0, none⟩ = some (.slice a_s Ls.length c_s) := B_bs.out.cell 0
  have hk_bx : w12.cell? ⟨w4.heap.size, 0, none⟩ = some (.slice a_x (cloL Ls).length c_x) := B_bx.out.cell 0
  have hk_bw : w12.cell? ⟨w6.heap.size, 0, none⟩ = some (.slice a_w (cloL Ls).length c_w) := B_bw.out.cell 0
  have hk_ba : w12.cell? ⟨w8.heap.size, 0, none⟩ = some (.slice a_a La.length c_a) := B_ba.out.cell 0
  go_wp2_with fail
  refine c.mono ?_
  rintro e w13 ⟨v, rfl, ho, hb⟩
  clear c
  clear hk_bs hk_bx hk_bw hk_ba
  obtain ⟨a_b, c_b, rfl, rX⟩ := row_open ho
  clear ho
  replace S_s := Lib.hid (S_s.out.below hb)
  replace B_bs := Lib.hid (B_bs.out.below hb)
  replace R_x := Lib.hid (R_x.out.below hb)
  replace B_bx := Lib.hid (B_bx.out.below hb)
  replace R_w := Lib.hid (R_w.out.below hb)
  replace B_bw := Lib.hid (B_bw.out.below hb)
  replace S_a := Lib.hid (S_a.out.below hb)
  replace B_ba := Lib.hid (B_ba.out.below hb)
  have z13 := hb.size
  replace hW := hW.trans (hb.mono hW.size)
  have R_b := Lib.hid rX
  clear rX hb
  obtain ⟨w14, hwb⟩ : ∃ wb, wb = w13.alloc (.cells #[.slice a_b (blowL La).length c_b] 26) := ⟨_, rfl⟩
  have hb : Below w13.heap.size w13 w14 := by rw [hwb]; exact box_below _ _
  have hA : Arr w14 w13.heap.size 26 [.slice a_b (blowL La).length c_b] := by rw [hwb]; exact Arr.new _ _ _
  replace S_s := Lib.hid (S_s.out.below hb)
  replace B_bs := Lib.hid (B_bs.out.below hb)
  replace R_x := Lib.hid (R_x.out.below hb)
  replace B_bx := Lib.hid (B_bx.out.below hb)
  replace R_w := Lib.hid (R_w.out.below hb)
  replace B_bw := Lib.hid (B_bw.out.below hb)
  replace S_a := Lib.hid (S_a.out.below hb)
  replace B_ba := Lib.hid (B_ba.out.below hb)
  replace R_b := Lib.hid (R_b.out.below hb)
  have z14 := hb.size
  replace hW := hW.trans (hb.mono hW.size)
  have y14 : w13.heap.size < w14.heap.size := hA.lt
  have B_bb := Lib.hid hA
  have H_w14 := Lib.hid hwb
  clear hwb hb hA
  have c := cs_BlowUp La a_a c_a w14 S_a.out (by omega)
  rw [HT.out] at c
  have hk_bs : w14.cell? ⟨w2.heap.size, 0, none⟩ = some (.slice a_s Ls.length c_s) := B_bs.out.cell 0
  have hk_bx : w14.cell? ⟨w4.heap.size, 0, none⟩ = some (.slice a_x (cloL Ls).length c_x) := B_bx.out.cell 0
  have hk_bw : w14.cell? ⟨w6.heap.size, 0, none⟩ = some (.slice a_w (cloL Ls).length c_w) := B_bw.out.cell 0
  have hk_ba : w14.cell? ⟨w8.heap.size, 0, none⟩ = some (.slice a_a La.length c_a) := B_ba.out.cell 0
  have hk_bb : w14.cell? ⟨w13.heap.size, 0, none⟩ = some (.slice a_b (blowL La).length c_b) := B_bb.out.cell 0
  rw [H_w14.out] at hk_bs hk_bx hk_bw hk_ba hk_bb
  go_wp2_with fail
  rw [← H_w14.out]
  refine c.mono ?_
  rintro e w15 ⟨v, rfl, ho, hb⟩
  clear c
  clear hk_bs hk_bx hk_bw hk_ba hk_bb
  obtain ⟨a_d, c_d, rfl, rX⟩ := row_open ho
  clear ho
  replace S_s := Lib.hid (S_s.out.below hb)
  replace B_bs := Lib.hid (B_bs.out.below hb)
  replace R_x := Lib.hid (R_x.out.below hb)
  replace B_bx := Lib.hid (B_bx.out.below hb)
  replace R_w := Lib.hid (R_w.out.below hb)
  replace B_bw := Lib.hid (B_bw.out.below hb)
  replace S_a := Lib.hid (S_a.out.below hb)
  replace B_ba := Lib.hid (B_ba.out.below hb)
  replace R_b := Lib.hid (R_b.out.below hb)
  replace B_bb := Lib.hid (B_bb.out.below hb)
  have z15 := hb.size
  replace hW := hW.trans (hb.mono hW.size)
  have R_d := Lib.hid rX
  clear rX hb
  obtain ⟨w16, hwb⟩ : ∃ wb, wb = w15.alloc (.cells #[.slice a_d (blowL La).length c_d] 26) := ⟨_, rfl⟩
  have hb : Below w15.heap.size w15 w16 := by rw [hwb]; exact box_below _ _
  have hA : Arr w16 w15.heap.size 26 [.slice a_d (blowL La).length c_d] := by rw [hwb]; exact Arr.new _ _ _
  replace S_s := Lib.hid (S_s.out.below hb)
  replace B_bs := Lib.hid (B_bs.out.below hb)
  replace R_x := Lib.hid (R_x.out.below hb)
  replace B_bx := Lib.hid (B_bx.out.below hb)
  replace R_w := Lib.hid (R_w.out.below hb)
  replace B_bw := Lib.hid (B_bw.out.below hb)
  replace S_a := Lib.hid (S_a.out.below hb)
  replace B_ba := Lib.hid (B_ba.out.below hb)
  replace R_b := Lib.hid (R_b.out.below hb)
  replace B_bb := Lib.hid (B_bb.out.below hb)
  replace R_d := Lib.hid (R_d.out.below hb)
  have z16 := hb.size
  replace hW := hW.trans (hb.mono hW.size)
  have y16 : w15.heap.size < w16.heap.size := hA.lt
  have B_bd := Lib.hid hA
  have H_w16 := Lib.hid hwb
  clear hwb hb hA
  have c := ci_MultiplicitySequence La a_a c_a w16 S_a.out (by omega)
  rw [show ReadPost (seqF 201 La) w16 = fun e w' => ∃ v, e = .returned (.tuple #[v, .bool u]) ∧ w'.ownsRow w16.heap.size 3 1 v ((seqF 201 La).getD []).length (((seqF 201 La).getD []).map (Value.int .i64)) ∧ Below w16.heap.size w16 w' from by unfold ReadPost; rw [HU.out]] at c
  have hk_bs : w16.cell? ⟨w2.heap.size, 0, none⟩ = some (.slice a_s Ls.length c_s) := B_bs.out.cell 0
  have hk_bx : w16.cell? ⟨w4.heap.size, 0, none⟩ = some (.slice a_x (cloL Ls).length c_x) := B_bx.out.cell 0
  have hk_bw : w16.cell? ⟨w6.heap.size, 0, none⟩ = some (.slice a_w (cloL Ls).length c_w) := B_bw.out.cell 0
  have hk_ba : w16.cell? ⟨w8.heap.size, 0, none⟩ = some (.slice a_a La.length c_a) := B_ba.out.cell 0
  have hk_bb : w16.cell? ⟨w13.heap.size, 0, none⟩ = some (.slice a_b (blowL La).length c_b) := B_bb.out.cell 0
  have hk_bd : w16.cell? ⟨w15.heap.size, 0, none⟩ = some (.slice a_d (blowL La).length c_d) := B_bd.out.cell 0
  rw [H_w16.out] at hk_bs hk_bx hk_bw hk_ba hk_bb hk_bd
  go_wp2_with fail
  rw [← H_w16.out]
  refine c.mono ?_
  rintro e w17 ⟨v, rfl, ho, hb⟩
  clear c
  clear hk_bs hk_bx hk_bw hk_ba hk_bb hk_bd
  obtain ⟨a_m, c_m, rfl, rX⟩ := row_open ho
  clear ho
  replace S_s := Lib.hid (S_s.out.below hb)
  replace B_bs := Lib.hid (B_bs.out.below hb)
  replace R_x := Lib.hid (R_x.out.below hb)
  replace B_bx := Lib.hid (B_bx.out.below hb)
  replace R_w := Lib.hid (R_w.out.below hb)
  replace B_bw := Lib.hid (B_bw.out.below hb)
  replace S_a := Lib.hid (S_a.out.below hb)
  replace B_ba := Lib.hid (B_ba.out.below hb)
  replace R_b := Lib.hid (R_b.out.below hb)
  replace B_bb := Lib.hid (B_bb.out.below hb)
  replace R_d := Lib.hid (R_d.out.below hb)
  replace B_bd := Lib.hid (B_bd.out.below hb)
  have z17 := hb.size
  replace hW := hW.trans (hb.mono hW.size)
  have R_m := Lib.hid rX
  clear rX hb
  have c := cs_MultiplicitySequence La a_a c_a w17 S_a.out (by omega)
  rw [show ReadPost (seqF 201 La) w17 = fun e w' => ∃ v, e = .returned (.tuple #[v, .bool u]) ∧ w'.ownsRow w17.heap.size 3 1 v ((seqF 201 La).getD []).length (((seqF 201 La).getD []).map (Value.int .i64)) ∧ Below w17.heap.size w17 w' from by unfold ReadPost; rw [HU.out]] at c
  have hk_bs : w17.cell? ⟨w2.heap.size, 0, none⟩ = some (.slice a_s Ls.length c_s) := B_bs.out.cell 0
  have hk_bx : w17.cell? ⟨w4.heap.size, 0, none⟩ = some (.slice a_x (cloL Ls).length c_x) := B_bx.out.cell 0
  have hk_bw : w17.cell? ⟨w6.heap.size, 0, none⟩ = some (.slice a_w (cloL Ls).length c_w) := B_bw.out.cell 0
  have hk_ba : w17.cell? ⟨w8.heap.size, 0, none⟩ = some (.slice a_a La.length c_a) := B_ba.out.cell 0
  have hk_bb : w17.cell? ⟨w13.heap.size, 0, none⟩ = some (.slice a_b (blowL La).length c_b) := B_bb.out.cell 0
  have hk_bd : w17.cell? ⟨w15.heap.size, 0, none⟩ = some (.slice a_d (blowL La).length c_d) := B_bd.out.cell 0
  go_wp2_with fail
  refine c.mono ?_
  rintro e w18 ⟨v, rfl, ho, hb⟩
  clear c
  clear hk_bs hk_bx hk_bw hk_ba hk_bb hk_bd
  obtain ⟨a_n, c_n, rfl, rX⟩ := row_open ho
  clear ho
  replace S_s := Lib.hid (S_s.out.below hb)
  replace B_bs := Lib.hid (B_bs.out.below hb)
  replace R_x := Lib.hid (R_x.out.below hb)
  replace B_bx := Lib.hid (B_bx.out.below hb)
  replace R_w := Lib.hid (R_w.out.below hb)
  replace B_bw := Lib.hid (B_bw.out.below hb)
  replace S_a := Lib.hid (S_a.out.below hb)
  replace B_ba := Lib.hid (B_ba.out.below hb)
  replace R_b := Lib.hid (R_b.out.below hb)
  replace B_bb := Lib.hid (B_bb.out.below hb)
  replace R_d := Lib.hid (R_d.out.below hb)
  replace B_bd := Lib.hid (B_bd.out.below hb)
  replace R_m := Lib.hid (R_m.out.below hb)
  have z18 := hb.size
  replace hW := hW.trans (hb.mono hW.size)
  have R_n := Lib.hid rX
  clear rX hb
  have hqq : (q != q) = false := by cases q <;> rfl
  have hrr : (r != r) = false := by cases r <;> rfl
  have htt : (t != t) = false := by cases t <;> rfl
  have huu : (u != u) = false := by cases u <;> rfl
  have hfb : (fb != fb) = false := by cases fb <;> rfl
  have hnfx : (fx != fx) = false := by simp
  have hnfy : (fy != fy) = false := by simp
  have hnfz : (fz != fz) = false := by simp
  have c := spec_EqualSemigroup (cloL Ls) (cloL Ls) a_x a_w c_x c_w w18 R_x.out.slv R_w.out.slv (by omega) (by omega)
  rw [decide_eq_true (rfl : cloL Ls = cloL Ls)] at c
  have hk_bs : w18.cell? ⟨w2.heap.size, 0, none⟩ = some (.slice a_s Ls.length c_s) := B_bs.out.cell 0
  have hk_bx : w18.cell? ⟨w4.heap.size, 0, none⟩ = some (.slice a_x (cloL Ls).length c_x) := B_bx.out.cell 0
  have hk_bw : w18.cell? ⟨w6.heap.size, 0, none⟩ = some (.slice a_w (cloL Ls).length c_w) := B_bw.out.cell 0
  have hk_ba : w18.cell? ⟨w8.heap.size, 0, none⟩ = some (.slice a_a La.length c_a) := B_ba.out.cell 0
  have hk_bb : w18.cell? ⟨w13.heap.size, 0, none⟩ = some (.slice a_b (blowL La).length c_b) := B_bb.out.cell 0
  have hk_bd : w18.cell? ⟨w15.heap.size, 0, none⟩ = some (.slice a_d (blowL La).length c_d) := B_bd.out.cell 0
  go_wp2_with fail
  refine c.mono ?_
  rintro e w19 ⟨rfl, hb⟩
  clear c
  clear hk_bs hk_bx hk_bw hk_ba hk_bb hk_bd
  replace S_s := Lib.hid (S_s.out.below hb)
  replace B_bs := Lib.hid (B_bs.out.below hb)
  replace R_x := Lib.hid (R_x.out.below hb)
  replace B_bx := Lib.hid (B_bx.out.below hb)
  replace R_w := Lib.hid (R_w.out.below hb)
  replace B_bw := Lib.hid (B_bw.out.below hb)
  replace S_a := Lib.hid (S_a.out.below hb)
  replace B_ba := Lib.hid (B_ba.out.below hb)
  replace R_b := Lib.hid (R_b.out.below hb)
  replace B_bb := Lib.hid (B_bb.out.below hb)
  replace R_d := Lib.hid (R_d.out.below hb)
  replace B_bd := Lib.hid (B_bd.out.below hb)
  replace R_m := Lib.hid (R_m.out.below hb)
  replace R_n := Lib.hid (R_n.out.below hb)
  have z19 := hb.size
  replace hW := hW.trans (hb.mono hW.size)
  clear hb
  clear R_w
  clear B_bw
  have c := cs_IsArf La a_a c_a w19 S_a.out (by omega)
  rw [HRB.out] at c
  have hk_bs : w19.cell? ⟨w2.heap.size, 0, none⟩ = some (.slice a_s Ls.length c_s) := B_bs.out.cell 0
  have hk_bx : w19.cell? ⟨w4.heap.size, 0, none⟩ = some (.slice a_x (cloL Ls).length c_x) := B_bx.out.cell 0
  have hk_ba : w19.cell? ⟨w8.heap.size, 0, none⟩ = some (.slice a_a La.length c_a) := B_ba.out.cell 0
  have hk_bb : w19.cell? ⟨w13.heap.size, 0, none⟩ = some (.slice a_b (blowL La).length c_b) := B_bb.out.cell 0
  have hk_bd : w19.cell? ⟨w15.heap.size, 0, none⟩ = some (.slice a_d (blowL La).length c_d) := B_bd.out.cell 0
  go_wp2_with fail
  refine c.mono ?_
  rintro e w20 ⟨rfl, hb⟩
  clear c
  clear hk_bs hk_bx hk_ba hk_bb hk_bd
  replace S_s := Lib.hid (S_s.out.below hb)
  replace B_bs := Lib.hid (B_bs.out.below hb)
  replace R_x := Lib.hid (R_x.out.below hb)
  replace B_bx := Lib.hid (B_bx.out.below hb)
  replace S_a := Lib.hid (S_a.out.below hb)
  replace B_ba := Lib.hid (B_ba.out.below hb)
  replace R_b := Lib.hid (R_b.out.below hb)
  replace B_bb := Lib.hid (B_bb.out.below hb)
  replace R_d := Lib.hid (R_d.out.below hb)
  replace B_bd := Lib.hid (B_bd.out.below hb)
  replace R_m := Lib.hid (R_m.out.below hb)
  replace R_n := Lib.hid (R_n.out.below hb)
  have z20 := hb.size
  replace hW := hW.trans (hb.mono hW.size)
  clear hb
  have c := spec_EqualSemigroup (blowL La) (blowL La) a_b a_d c_b c_d w20 R_b.out.slv R_d.out.slv (by omega) (by omega)
  rw [decide_eq_true (rfl : blowL La = blowL La)] at c
  have hk_bs : w20.cell? ⟨w2.heap.size, 0, none⟩ = some (.slice a_s Ls.length c_s) := B_bs.out.cell 0
  have hk_bx : w20.cell? ⟨w4.heap.size, 0, none⟩ = some (.slice a_x (cloL Ls).length c_x) := B_bx.out.cell 0
  have hk_ba : w20.cell? ⟨w8.heap.size, 0, none⟩ = some (.slice a_a La.length c_a) := B_ba.out.cell 0
  have hk_bb : w20.cell? ⟨w13.heap.size, 0, none⟩ = some (.slice a_b (blowL La).length c_b) := B_bb.out.cell 0
  have hk_bd : w20.cell? ⟨w15.heap.size, 0, none⟩ = some (.slice a_d (blowL La).length c_d) := B_bd.out.cell 0
  go_wp2_with fail
  refine c.mono ?_
  rintro e w21 ⟨rfl, hb⟩
  clear c
  clear hk_bs hk_bx hk_ba hk_bb hk_bd
  replace S_s := Lib.hid (S_s.out.below hb)
  replace B_bs := Lib.hid (B_bs.out.below hb)
  replace R_x := Lib.hid (R_x.out.below hb)
  replace B_bx := Lib.hid (B_bx.out.below hb)
  replace S_a := Lib.hid (S_a.out.below hb)
  replace B_ba := Lib.hid (B_ba.out.below hb)
  replace R_b := Lib.hid (R_b.out.below hb)
  replace B_bb := Lib.hid (B_bb.out.below hb)
  replace R_d := Lib.hid (R_d.out.below hb)
  replace B_bd := Lib.hid (B_bd.out.below hb)
  replace R_m := Lib.hid (R_m.out.below hb)
  replace R_n := Lib.hid (R_n.out.below hb)
  have z21 := hb.size
  replace hW := hW.trans (hb.mono hW.size)
  clear hb
  clear R_b
  clear R_d
  clear B_bb
  clear B_bd
  have c := sameInts_any ((seqF 201 La).getD []) ((seqF 201 La).getD []) a_m a_n c_m c_n w21 R_m.out.slv R_n.out.slv (by omega) (by omega)
  rw [decide_eq_true (rfl : ((seqF 201 La).getD []) = ((seqF 201 La).getD []))] at c
  have hk_bs : w21.cell? ⟨w2.heap.size, 0, none⟩ = some (.slice a_s Ls.length c_s) := B_bs.out.cell 0
  have hk_bx : w21.cell? ⟨w4.heap.size, 0, none⟩ = some (.slice a_x (cloL Ls).length c_x) := B_bx.out.cell 0
  have hk_ba : w21.cell? ⟨w8.heap.size, 0, none⟩ = some (.slice a_a La.length c_a) := B_ba.out.cell 0
  go_wp2_with fail
  refine c.mono ?_
  rintro e w22 ⟨rfl, hb⟩
  clear c
  clear hk_bs hk_bx hk_ba
  replace S_s := Lib.hid (S_s.out.below hb)
  replace B_bs := Lib.hid (B_bs.out.below hb)
  replace R_x := Lib.hid (R_x.out.below hb)
  replace B_bx := Lib.hid (B_bx.out.below hb)
  replace S_a := Lib.hid (S_a.out.below hb)
  replace B_ba := Lib.hid (B_ba.out.below hb)
  replace R_m := Lib.hid (R_m.out.below hb)
  replace R_n := Lib.hid (R_n.out.below hb)
  have z22 := hb.size
  replace hW := hW.trans (hb.mono hW.size)
  clear hb
  clear R_n
  clear hrr htt huu hfb hnfx hnfy hnfz HT hl HR
  rename World => wq
  have hl_bs : w2.heap.size < wq.heap.size := B_bs.out.lt
  have HC_bs := Lib.hid (B_bs.out.cell 0)
  have hl_bx : w4.heap.size < wq.heap.size := B_bx.out.lt
  have HC_bx := Lib.hid (B_bx.out.cell 0)
  have hl_ba : w8.heap.size < wq.heap.size := B_ba.out.lt
  have HC_ba := Lib.hid (B_ba.out.cell 0)
  have hWz := hW.size
  clear B_bs B_bx B_ba
  have hca := HC_ba.out
  go_upto_region 16 with fail
  go_cut [151] (fun s151 wx => s151 = Value.bool false ∧ Below wq.heap.size wq wx)
  case first =>
    cases fb
    · go_wp2_with fail
      go_meet
      exact ⟨rfl, Below.refl _ _⟩
    · obtain ⟨hr0, hout⟩ := HAL.out HFQ.out
      rw [HRB.out] at hr0
      rw [HFX.out, HFY.out, HFZ.out] at hout
      subst hr0
      have hw1 : IntKind.i64.wrap (fx + fy) = fx + fy := IntWalk.i64_in _ (by omega)
      have hw2 : IntKind.i64.wrap (fx + fy - fz) = fx + fy - fz := IntWalk.i64_in _ (by omega)
      have c := spec_Contains La (fx + fy - fz) a_a c_a wq S_a.out.sl (by omega)
      rw [hout] at c
      go_wp2_with fail
      refine c.mono ?_
      rintro e wk ⟨rfl, hbk⟩
      go_wp2_with fail
      go_meet
      exact ⟨rfl, hbk⟩
  case rest =>
    rename World => wz
    obtain ⟨rfl, hbz⟩ := hcut
    have hzz := hbz.size
    clear hca HAL hbx hby HFX HFY HFZ HFQ
    have HSA := Lib.hid (S_a.out.below hbz)
    have HSS := Lib.hid (S_s.out.below hbz)
    have HRX := Lib.hid (R_x.out.below hbz)
    have HRM := Lib.hid (R_m.out.slv.below hbz)
    have HKA : Hid (∀ w', Below wz.heap.size wz w' → w'.cell? ⟨w8.heap.size, 0, none⟩ = some (.slice a_a La.length c_a)) := Lib.hid fun w' h => ((hbz.trans (h.mono hzz)).cell (p := ⟨w8.heap.size, 0, none⟩) hl_ba).trans HC_ba.out
    have HKS : Hid (∀ w', Below wz.heap.size wz w' → w'.cell? ⟨w2.heap.size, 0, none⟩ = some (.slice a_s Ls.length c_s)) := Lib.hid fun w' h => ((hbz.trans (h.mono hzz)).cell (p := ⟨w2.heap.size, 0, none⟩) hl_bs).trans HC_bs.out
    have HKX : Hid (∀ w', Below wz.heap.size wz w' → w'.cell? ⟨w4.heap.size, 0, none⟩ = some (.slice a_x (cloL Ls).length c_x)) := Lib.hid fun w' h => ((hbz.trans (h.mono hzz)).cell (p := ⟨w4.heap.size, 0, none⟩) hl_bx).trans HC_bx.out
    replace hW := hW.trans (hbz.mono hWz)
    clear S_a S_s R_x R_m HC_ba HC_bs HC_bx hl_ba hl_bs hl_bx hbz hWz
    have hWz := hW.size
    have hb0 := Below.refl wz.heap.size wz
    generalize hMM : ((seqF 201 La).getD []) = mm at *
    clear hMM
    cases q
    · clear HLAW HQ
      go_wp2_with fail
      go_loopw [28, 29] (fun s i wr => ∃ k : Nat, k ≤ mm.length ∧ i = .int .i64 (k : Int) ∧ s = .int .i64 (mm.take k).sum ∧ Below wz.heap.size wz wr) (fun _ i _ => mm.length - (intOf i).toNat)
      case atStart => exact ⟨0, Nat.zero_le _, rfl, by simp, hb0⟩
      case round =>
        rename World => wr
        obtain ⟨k, hk, rfl, rfl, hbel⟩ := hrel
        have hbz := hbel.size
        have hWF := hW.trans (hbel.mono hWz)
        by_cases hlt : k < mm.length
        · have hlti : (k : Int) < (mm.length : Int) := by omega
          have hld := decide_eq_true hlti
          cases r
          · go_wp2_with fail
            go_ret
            exact ⟨rfl, hWF⟩
          · cases u
            · go_wp2_with fail
              go_ret
              exact ⟨rfl, hWF⟩
            · obtain ⟨b, off, hau, hbs, hcl⟩ := (HRM.out.below hbel).open (by intro h; rw [List.map_eq_nil_iff] at h; rw [h] at hlt; simp at hlt)
              subst hau
              have hcm : wr.cell? ⟨b, off + k, none⟩ = some (.int .i64 mm[k]) := hcl k _ (by simp [hlt])
              have hca := HKA.out _ hbel
              have hk0 : (0 : Int) ≤ (k : Int) := by omega
              have hs1 := HSB.out k
              have hs2 := HSB.out (k + 1)
              have he := HEL.out HRB.out k hlt
              have hnx := take_nextA hlt
              clear hcl hld
              have c := impl_ElementAt La ((k : Int) + 1) a_a c_a wr (HSA.out.below hbel).sl (by omega) (by omega) (by omega)
              rw [he] at c
              have HNX := Lib.hid hnx
              rw [hnx] at c hs2
              clear he hnx
              generalize hsk : (mm.take k).sum = sk at *
              generalize mm[k] = y at *
              have hw1 : IntKind.i64.wrap (sk + y) = sk + y := IntWalk.i64_in _ (by omega)
              have hw2 : IntKind.i64.wrap ((k : Int) + 1) = (k : Int) + 1 := IntWalk.i64_in _ (by omega)
              have hne : ((sk + y) != (sk + y)) = false := by simp
              go_wp2_with fail
              refine c.mono ?_
              rintro e wk ⟨rfl, hbk⟩
              have hbF := hbel.trans (hbk.mono hbz)
              clear c hca hcm
              go_wp2_with fail
              go_roundw
              case rel => exact ⟨k + 1, by omega, by go_num, by rw [HNX.out], hbF⟩
              case measure => simp [intOf]; omega
        · have hlti : ¬ (k : Int) < (mm.length : Int) := by omega
          have hld := decide_eq_false hlti
          go_wp2_with fail
          go_ret
          exact ⟨rfl, hWF⟩
    · obtain ⟨ha1, ha2, ha3, ha4⟩ := HLAW.out HQ.out
      have hcx := HKX.out _ hb0
      have c := ci_ArfClosure (cloL Ls) a_x c_x wz HRX.out.slw (by omega)
      rw [ha3, ha4] at c
      clear HLAW
      generalize cloL Ls = K at *
      go_wp2_with fail
      refine c.mono ?_
      rintro e we ⟨v, rfl, ho, hbe⟩
      obtain ⟨a_e, c_e, rfl, rE⟩ := row_open ho
      clear c ho hcx
      go_wp2_with (first | (refine wpList_alloc_arr 26 [Value.slice none 0 0] zeroSg rfl rfl ?_) | (refine wpList_store_arr 26 (.tmp 26) (.tmp 156) we.heap.size [Value.slice none 0 0] [Value.slice a_e K.length c_e] rfl rfl rfl rfl (Arr.new we 26 [Value.slice none 0 0]) rfl sizeSg (by simp [Value.oneCell']) ?_; intro wg hNg hgg hzg; clear hzg; have hbg := (box_below we (.cells [Value.slice none 0 0].toArray 26)).grown hgg (by simp) (fun k hk => by cases hk; exact Nat.le_refl _); have hbF := hbe.trans (hbg.mono hbe.size); have hcx := HKX.out _ hbF; have rG := rE.below hbg; clear rE))
      have c1 := ci_IsArf K a_x c_x wg (HRX.out.slw.below hbF) (by omega)
      rw [ha1] at c1
      refine c1.mono ?_
      rintro e wh ⟨rfl, hbh⟩
      have hbH := hbF.trans (hbh.mono hbF.size)
      have hcs := HKS.out _ hbH
      have hcx2 := HKX.out _ hbH
      clear c1 hcx
      have c2 := impl_IsWithin Ls K a_s c_s a_x c_x wh (HSS.out.below hbH).sl (HRX.out.slw.below hbH).sl (by omega) (by omega)
      rw [ha2] at c2
      go_wp2_with fail
      refine c2.mono ?_
      rintro e wi ⟨rfl, hbi⟩
      have hbI := hbH.trans (hbi.mono hbH.size)
      have hcx3 := HKX.out _ hbI
      have hNi := (hNg.below hbh).below hbi
      have hce := hNi.cell 0
      clear c2 hcs hcx2
      have c3 := spec_EqualSemigroup K K a_e a_x c_e c_x wi ((rG.below hbh).below hbi).slv (HRX.out.slv.below hbI) (by omega) (by omega)
      rw [decide_eq_true (rfl : K = K)] at c3
      go_wp2_with fail
      refine c3.mono ?_
      rintro e wj ⟨rfl, hbj⟩
      have hbJ := hbI.trans (hbj.mono hbI.size)
      clear c3 hce hcx3 hNg hNi rG hgg hbe hbg hbF hbh hbH hbi hbI hbj
      go_wp2_with fail
      go_loopw [28, 29] (fun s i wr => ∃ k : Nat, k ≤ mm.length ∧ i = .int .i64 (k : Int) ∧ s = .int .i64 (mm.take k).sum ∧ Below wz.heap.size wz wr) (fun _ i _ => mm.length - (intOf i).toNat)
      case atStart => exact ⟨0, Nat.zero_le _, rfl, by simp, hbJ⟩
      case round =>
        rename World => wr
        obtain ⟨k, hk, rfl, rfl, hbel⟩ := hrel
        have hbz := hbel.size
        have hWF := hW.trans (hbel.mono hWz)
        by_cases hlt : k < mm.length
        · have hlti : (k : Int) < (mm.length : Int) := by omega
          have hld := decide_eq_true hlti
          cases r
          · go_wp2_with fail
            go_ret
            exact ⟨rfl, hWF⟩
          · cases u
            · go_wp2_with fail
              go_ret
              exact ⟨rfl, hWF⟩
            · obtain ⟨b, off, hau, hbs, hcl⟩ := (HRM.out.below hbel).open (by intro h; rw [List.map_eq_nil_iff] at h; rw [h] at hlt; simp at hlt)
              subst hau
              have hcm : wr.cell? ⟨b, off + k, none⟩ = some (.int .i64 mm[k]) := hcl k _ (by simp [hlt])
              have hca := HKA.out _ hbel
              have hk0 : (0 : Int) ≤ (k : Int) := by omega
              have hs1 := HSB.out k
              have hs2 := HSB.out (k + 1)
              have he := HEL.out HRB.out k hlt
              have hnx := take_nextA hlt
              clear hcl hld
              have c := impl_ElementAt La ((k : Int) + 1) a_a c_a wr (HSA.out.below hbel).sl (by omega) (by omega) (by omega)
              rw [he] at c
              have HNX := Lib.hid hnx
              rw [hnx] at c hs2
              clear he hnx
              generalize hsk : (mm.take k).sum = sk at *
              generalize mm[k] = y at *
              have hw1 : IntKind.i64.wrap (sk + y) = sk + y := IntWalk.i64_in _ (by omega)
              have hw2 : IntKind.i64.wrap ((k : Int) + 1) = (k : Int) + 1 := IntWalk.i64_in _ (by omega)
              have hne : ((sk + y) != (sk + y)) = false := by simp
              go_wp2_with fail
              refine c.mono ?_
              rintro e wk ⟨rfl, hbk⟩
              have hbF := hbel.trans (hbk.mono hbz)
              clear c hca hcm
              go_wp2_with fail
              go_roundw
              case rel => exact ⟨k + 1, by omega, by go_num, by rw [HNX.out], hbF⟩
              case measure => simp [intOf]; omega
        · have hlti : ¬ (k : Int) < (mm.length : Int) := by omega
          have hld := decide_eq_false hlti
          go_wp2_with fail
          go_ret
          exact ⟨rfl, hWF⟩

set_option maxRecDepth 100000 in
set_option maxHeartbeats 800000 in
theorem FnArf.walk (p0 : Option Addr) (len0 cap0 : Nat) (z0 : List Int) (W : World) (r0 : IsRow .u8 W p0 len0 cap0 z0) (_ : W.ShapedOpen Tryz.prog) :
    Calls Tryz.prog 4 #[.slice p0 len0 cap0] W fun e w' => e = .returned (.bool true) ∧ Below W.heap.size W w' := by
  by_cases hl : len0 ≤ 1048576
  · exact fnArf_small p0 len0 cap0 z0 W r0 hl
  · have cb := big_any p0 len0 cap0 W (row_maxLen r0)
    rw [decide_eq_true (show 1048576 < len0 by omega)] at cb
    go_enter Tryz.func4, Tryz.ntmps4
    go_wp2_with fail
    refine cb.mono ?_
    rintro e w0 ⟨rfl, rfl⟩
    go_wp2_with fail
    go_ret
    exact ⟨rfl, Below.refl _ _⟩
end Go.Proofs.YtipfonpaaebjjaaGreat
