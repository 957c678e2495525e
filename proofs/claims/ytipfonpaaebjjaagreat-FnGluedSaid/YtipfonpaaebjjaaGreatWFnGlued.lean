/-
  THE WALK OF THE LAW FnGlued: the greatest gap of a gluing follows from those of its parts, and it is symmetric exactly if both are (written by fn_glued.py of the verifier's own).
-/
import Derived.Test.YtipfonpaaebjjaaGreatRows
import Derived.Test.YtipfonpaaebjjaaGreatDrw25
import Derived.Test.YtipfonpaaebjjaaGreatSgGl
import Derived.Test.YtipfonpaaebjjaaGreatI77d
import Derived.Test.YtipfonpaaebjjaaGreatL77b
import Derived.Test.YtipfonpaaebjjaaGreatI74
import Derived.Test.YtipfonpaaebjjaaGreatL75
import Derived.Test.YtipfonpaaebjjaaGreatL28
import Derived.Deep.DeepCutAuto
namespace Go.Proofs.YtipfonpaaebjjaaGreat
open Go Go.RowKit

set_option maxRecDepth 100000 in
set_option maxHeartbeats 25600000 in
theorem fnGlued_small (p0 : Option Addr) (len0 cap0 : Nat) (z0 : List Int) (W : World) (r0 : IsRow .u8 W p0 len0 cap0 z0) (hl : len0 ≤ 1048576) :
    Calls Tryz.prog 3 #[.slice p0 len0 cap0] W fun e w' => e = .returned (.bool true) ∧ Below W.heap.size W w' := by
  have HR := Lib.hid r0
  clear r0
  have hW : Below W.heap.size W W := Below.refl _ _
  go_enter Tryz.func3, Tryz.ntmps3
  have c := big_b p0 len0 cap0 W (by unfold maxLen; omega)
  rw [decide_eq_false (show ¬ 1048576 < len0 by omega)] at c
  go_wp2_with fail
  refine c.mono ?_
  rintro e w1 ⟨rfl, hb⟩
  clear c
  have z1 := hb.size
  replace hW := hW.trans (hb.mono hW.size)
  clear hb
  have c := DrawGlueOf_any w1 p0 len0 cap0 z0 (HR.out.below hW) hl
  go_wp2_with fail
  refine c.mono ?_
  rintro e w2 ⟨La, a_a, c_a, Lb, a_b, c_b, x, y, hl_a, hB_a, hl_b, hB_b, hX, hY, rfl, hs, hs2, hg1, hg2, hb⟩
  clear c
  have z2 := hb.size
  replace hW := hW.trans (hb.mono hW.size)
  have S_a := Lib.hid hs
  have S_b := Lib.hid hs2
  clear hs hs2 hb hB_a hB_b hg1 hg2
  obtain ⟨w3, hwb⟩ : ∃ wb, wb = w2.alloc (.cells #[.slice a_a La.length c_a] 26) := ⟨_, rfl⟩
  have hb : Below w2.heap.size w2 w3 := by rw [hwb]; exact box_below _ _
  have hA : Arr w3 w2.heap.size 26 [.slice a_a La.length c_a] := by rw [hwb]; exact Arr.new _ _ _
  replace S_a := Lib.hid (S_a.out.below hb)
  replace S_b := Lib.hid (S_b.out.below hb)
  have z3 := hb.size
  replace hW := hW.trans (hb.mono hW.size)
  have y3 : w2.heap.size < w3.heap.size := hA.lt
  have B_ba := Lib.hid hA
  have H_w3 := Lib.hid hwb
  clear hwb hb hA
  obtain ⟨w4, hwb⟩ : ∃ wb, wb = w3.alloc (.cells #[.slice a_b Lb.length c_b] 26) := ⟨_, rfl⟩
  have hb : Below w3.heap.size w3 w4 := by rw [hwb]; exact box_below _ _
  have hA : Arr w4 w3.heap.size 26 [.slice a_b Lb.length c_b] := by rw [hwb]; exact Arr.new _ _ _
  replace S_a := Lib.hid (S_a.out.below hb)
  replace S_b := Lib.hid (S_b.out.below hb)
  replace B_ba := Lib.hid (B_ba.out.below hb)
  have z4 := hb.size
  replace hW := hW.trans (hb.mono hW.size)
  have y4 : w3.heap.size < w4.heap.size := hA.lt
  have B_bb : Hid (Arr w4 (w2.heap.size + 1) 26 [.slice a_b Lb.length c_b]) := Lib.hid (by have h := hA; rw [show w3.heap.size = w2.heap.size + 1 by rw [H_w3.out]; simp] at h; exact h)
  have H_w4 := Lib.hid hwb
  clear hwb hb hA
  have hx12 := gluL_len La Lb x y
  have HLAW := Lib.hid (fun (h : gluB La Lb x y = true) => glu_law h)
  obtain ⟨q, hq⟩ : ∃ t, t = gluB La Lb x y := ⟨_, rfl⟩
  have HQ : Hid (gluB La Lb x y = q) := Lib.hid hq.symm
  clear hq
  obtain ⟨f, hq⟩ : ∃ t, t = gluN La Lb x y := ⟨_, rfl⟩
  have HF : Hid (gluN La Lb x y = f) := Lib.hid hq.symm
  clear hq
  have c := impl_GlueOf La Lb x y a_a c_a a_b c_b w4 S_a.out.sl S_b.out.sl (by omega) (by omega)
  rw [HQ.out] at c
  have hk_ba : w4.cell? ⟨w2.heap.size, 0, none⟩ = some (.slice a_a La.length c_a) := B_ba.out.cell 0
  have hk_bb : w4.cell? ⟨w2.heap.size + 1, 0, none⟩ = some (.slice a_b Lb.length c_b) := B_bb.out.cell 0
  rw [H_w4.out] at hk_ba hk_bb
  rw [H_w3.out] at hk_ba hk_bb
  go_wp2_with fail
  rw [← H_w3.out]
  rw [← H_w4.out]
  refine c.mono ?_
  rintro e w5 ⟨v, rfl, ho, hb⟩
  clear c
  clear hk_ba hk_bb
  obtain ⟨a_s, c_s, rfl, rX⟩ := row_open ho
  clear ho
  replace S_a := Lib.hid (S_a.out.below hb)
  replace S_b := Lib.hid (S_b.out.below hb)
  replace B_ba := Lib.hid (B_ba.out.below hb)
  replace B_bb := Lib.hid (B_bb.out.below hb)
  have z5 := hb.size
  replace hW := hW.trans (hb.mono hW.size)
  have R_s := Lib.hid rX
  clear rX hb
  obtain ⟨w6, hwb⟩ : ∃ wb, wb = w5.alloc (.cells #[.slice a_s (gluL La Lb x y).length c_s] 26) := ⟨_, rfl⟩
  have hb : Below w5.heap.size w5 w6 := by rw [hwb]; exact box_below _ _
  have hA : Arr w6 w5.heap.size 26 [.slice a_s (gluL La Lb x y).length c_s] := by rw [hwb]; exact Arr.new _ _ _
  replace S_a := Lib.hid (S_a.out.below hb)
  replace S_b := Lib.hid (S_b.out.below hb)
  replace B_ba := Lib.hid (B_ba.out.below hb)
  replace B_bb := Lib.hid (B_bb.out.below hb)
  replace R_s := Lib.hid (R_s.out.below hb)
  have z6 := hb.size
  replace hW := hW.trans (hb.mono hW.size)
  have y6 : w5.heap.size < w6.heap.size := hA.lt
  have B_bs := Lib.hid hA
  have H_w6 := Lib.hid hwb
  clear hwb hb hA
  have c := spec_GlueOf La Lb x y a_a c_a a_b c_b w6 S_a.out.sl S_b.out.sl (by omega) (by omega)
  rw [HQ.out] at c
  have hk_ba : w6.cell? ⟨w2.heap.size, 0, none⟩ = some (.slice a_a La.length c_a) := B_ba.out.cell 0
  have hk_bb : w6.cell? ⟨w2.heap.size + 1, 0, none⟩ = some (.slice a_b Lb.length c_b) := B_bb.out.cell 0
  have hk_bs : w6.cell? ⟨w5.heap.size, 0, none⟩ = some (.slice a_s (gluL La Lb x y).length c_s) := B_bs.out.cell 0
  rw [H_w6.out] at hk_ba hk_bb hk_bs
  go_wp2_with fail
  rw [← H_w6.out]
  refine c.mono ?_
  rintro e w7 ⟨v, rfl, ho, hb⟩
  clear c
  clear hk_ba hk_bb hk_bs
  obtain ⟨a_w, c_w, rfl, rX⟩ := row_open ho
  clear ho
  replace S_a := Lib.hid (S_a.out.below hb)
  replace S_b := Lib.hid (S_b.out.below hb)
  replace B_ba := Lib.hid (B_ba.out.below hb)
  replace B_bb := Lib.hid (B_bb.out.below hb)
  replace R_s := Lib.hid (R_s.out.below hb)
  replace B_bs := Lib.hid (B_bs.out.below hb)
  have z7 := hb.size
  replace hW := hW.trans (hb.mono hW.size)
  have R_w := Lib.hid rX
  clear rX hb
  obtain ⟨w8, hwb⟩ : ∃ wb, wb = w7.alloc (.cells #[.slice a_w (gluL La Lb x y).length c_w] 26) := ⟨_, rfl⟩
  have hb : Below w7.heap.size w7 w8 := by rw [hwb]; exact box_below _ _
  have hA : Arr w8 w7.heap.size 26 [.slice a_w (gluL La Lb x y).length c_w] := by rw [hwb]; exact Arr.new _ _ _
  replace S_a := Lib.hid (S_a.out.below hb)
  replace S_b := Lib.hid (S_b.out.below hb)
  replace B_ba := Lib.hid (B_ba.out.below hb)
  replace B_bb := Lib.hid (B_bb.out.below hb)
  replace R_s := Lib.hid (R_s.out.below hb)
  replace B_bs := Lib.hid (B_bs.out.below hb)
  replace R_w := Lib.hid (R_w.out.below hb)
  have z8 := hb.size
  replace hW := hW.trans (hb.mono hW.size)
  have y8 : w7.heap.size < w8.heap.size := hA.lt
  have B_bw := Lib.hid hA
  have H_w8 := Lib.hid hwb
  clear hwb hb hA
  have c := impl_GlueFrobenius La Lb x y a_a c_a a_b c_b w8 S_a.out.sl S_b.out.sl (by omega) (by omega)
  rw [HF.out] at c
  have hk_ba : w8.cell? ⟨w2.heap.size, 0, none⟩ = some (.slice a_a La.length c_a) := B_ba.out.cell 0
  have hk_bb : w8.cell? ⟨w2.heap.size + 1, 0, none⟩ = some (.slice a_b Lb.length c_b) := B_bb.out.cell 0
  have hk_bs : w8.cell? ⟨w5.heap.size, 0, none⟩ = some (.slice a_s (gluL La Lb x y).length c_s) := B_bs.out.cell 0
  have hk_bw : w8.cell? ⟨w7.heap.size, 0, none⟩ = some (.slice a_w (gluL La Lb x y).length c_w) := B_bw.out.cell 0
  rw [H_w8.out] at hk_ba hk_bb hk_bs hk_bw
  go_wp2_with fail
  rw [← H_w8.out]
  refine c.mono ?_
  rintro e w9 ⟨rfl, hb⟩
  clear c
  clear hk_ba hk_bb hk_bs hk_bw
  replace S_a := Lib.hid (S_a.out.below hb)
  replace S_b := Lib.hid (S_b.out.below hb)
  replace B_ba := Lib.hid (B_ba.out.below hb)
  replace B_bb := Lib.hid (B_bb.out.below hb)
  replace R_s := Lib.hid (R_s.out.below hb)
  replace B_bs := Lib.hid (B_bs.out.below hb)
  replace R_w := Lib.hid (R_w.out.below hb)
  replace B_bw := Lib.hid (B_bw.out.below hb)
  have z9 := hb.size
  replace hW := hW.trans (hb.mono hW.size)
  clear hb
  have c := DrawIsTelescopic_any w9 p0 len0 cap0 z0 (HR.out.below hW) hl
  have hk_ba : w9.cell? ⟨w2.heap.size, 0, none⟩ = some (.slice a_a La.length c_a) := B_ba.out.cell 0
  have hk_bb : w9.cell? ⟨w2.heap.size + 1, 0, none⟩ = some (.slice a_b Lb.length c_b) := B_bb.out.cell 0
  have hk_bs : w9.cell? ⟨w5.heap.size, 0, none⟩ = some (.slice a_s (gluL La Lb x y).length c_s) := B_bs.out.cell 0
  have hk_bw : w9.cell? ⟨w7.heap.size, 0, none⟩ = some (.slice a_w (gluL La Lb x y).length c_w) := B_bw.out.cell 0
  go_wp2_with fail
  refine c.mono ?_
  rintro e w10 ⟨Lt, a_t, c_t, hl_t, hB_t, rfl, hs, hb⟩
  clear c
  clear hk_ba hk_bb hk_bs hk_bw
  replace S_a := Lib.hid (S_a.out.below hb)
  replace S_b := Lib.hid (S_b.out.below hb)
  replace B_ba := Lib.hid (B_ba.out.below hb)
  replace B_bb := Lib.hid (B_bb.out.below hb)
  replace R_s := Lib.hid (R_s.out.below hb)
  replace B_bs := Lib.hid (B_bs.out.below hb)
  replace R_w := Lib.hid (R_w.out.below hb)
  replace B_bw := Lib.hid (B_bw.out.below hb)
  have z10 := hb.size
  replace hW := hW.trans (hb.mono hW.size)
  have S_t := Lib.hid hs
  have hct : Lt.length ≤ c_t := by have := hs.le; rw [List.length_map] at this; exact this
  clear hs hb hB_t
  have HTLAW := Lib.hid (fun (h : teleB Lt = true) (h2 : fromB Lt = true) => tele_law h h2)
  have hu12 := fromL_length_le Lt
  obtain ⟨t, hq⟩ : ∃ t, t = teleB Lt := ⟨_, rfl⟩
  have HT : Hid (teleB Lt = t) := Lib.hid hq.symm
  clear hq
  obtain ⟨n, hq⟩ : ∃ t, t = teleN Lt := ⟨_, rfl⟩
  have HN : Hid (teleN Lt = n) := Lib.hid hq.symm
  clear hq
  obtain ⟨u, hq⟩ : ∃ t, t = fromB Lt := ⟨_, rfl⟩
  have HU : Hid (fromB Lt = u) := Lib.hid hq.symm
  clear hq
  have c := impl_IsTelescopic Lt a_t c_t w10 S_t.out.sl (by omega) hct
  rw [HT.out] at c
  have hk_ba : w10.cell? ⟨w2.heap.size, 0, none⟩ = some (.slice a_a La.length c_a) := B_ba.out.cell 0
  have hk_bb : w10.cell? ⟨w2.heap.size + 1, 0, none⟩ = some (.slice a_b Lb.length c_b) := B_bb.out.cell 0
  have hk_bs : w10.cell? ⟨w5.heap.size, 0, none⟩ = some (.slice a_s (gluL La Lb x y).length c_s) := B_bs.out.cell 0
  have hk_bw : w10.cell? ⟨w7.heap.size, 0, none⟩ = some (.slice a_w (gluL La Lb x y).length c_w) := B_bw.out.cell 0
  go_wp2_with fail
  refine c.mono ?_
  rintro e w11 ⟨rfl, hb⟩
  clear c
  clear hk_ba hk_bb hk_bs hk_bw
  replace S_a := Lib.hid (S_a.out.below hb)
  replace S_b := Lib.hid (S_b.out.below hb)
  replace B_ba := Lib.hid (B_ba.out.below hb)
  replace B_bb := Lib.hid (B_bb.out.below hb)
  replace R_s := Lib.hid (R_s.out.below hb)
  replace B_bs := Lib.hid (B_bs.out.below hb)
  replace R_w := Lib.hid (R_w.out.below hb)
  replace B_bw := Lib.hid (B_bw.out.below hb)
  replace S_t := Lib.hid (S_t.out.below hb)
  have z11 := hb.size
  replace hW := hW.trans (hb.mono hW.size)
  clear hb
  have c := impl_TelescopicFrobenius Lt a_t c_t w11 S_t.out.sl (by omega) hct
  rw [HN.out] at c
  have hk_ba : w11.cell? ⟨w2.heap.size, 0, none⟩ = some (.slice a_a La.length c_a) := B_ba.out.cell 0
  have hk_bb : w11.cell? ⟨w2.heap.size + 1, 0, none⟩ = some (.slice a_b Lb.length c_b) := B_bb.out.cell 0
  have hk_bs : w11.cell? ⟨w5.heap.size, 0, none⟩ = some (.slice a_s (gluL La Lb x y).length c_s) := B_bs.out.cell 0
  have hk_bw : w11.cell? ⟨w7.heap.size, 0, none⟩ = some (.slice a_w (gluL La Lb x y).length c_w) := B_bw.out.cell 0
  go_wp2_with fail
  refine c.mono ?_
  rintro e w12 ⟨rfl, hb⟩
  clear c
  clear hk_ba hk_bb hk_bs hk_bw
  replace S_a := Lib.hid (S_a.out.below hb)
  replace S_b := Lib.hid (S_b.out.below hb)
  replace B_ba := Lib.hid (B_ba.out.below hb)
  replace B_bb := Lib.hid (B_bb.out.below hb)
  replace R_s := Lib.hid (R_s.out.below hb)
  replace B_bs := Lib.hid (B_bs.out.below hb)
  replace R_w := Lib.hid (R_w.out.below hb)
  replace B_bw := Lib.hid (B_bw.out.below hb)
  replace S_t := Lib.hid (S_t.out.below hb)
  have z12 := hb.size
  replace hW := hW.trans (hb.mono hW.size)
  clear hb
  have hqq : (q != q) = false := by cases q <;> rfl
  have htt : (t != t) = false := by cases t <;> rfl
  have hff : (f != f) = false := by simp
  have hnn : (n != n) = false := by simp
  have c := spec_EqualSemigroup (gluL La Lb x y) (gluL La Lb x y) a_s a_w c_s c_w w12 R_s.out.slv R_w.out.slv (by omega) (by omega)
  rw [decide_eq_true (rfl : gluL La Lb x y = gluL La Lb x y)] at c
  have hk_ba : w12.cell? ⟨w2.heap.size, 0, none⟩ = some (.slice a_a La.length c_a) := B_ba.out.cell 0
  have hk_bb : w12.cell? ⟨w2.heap.size + 1, 0, none⟩ = some (.slice a_b Lb.length c_b) := B_bb.out.cell 0
  have hk_bs : w12.cell? ⟨w5.heap.size, 0, none⟩ = some (.slice a_s (gluL La Lb x y).length c_s) := B_bs.out.cell 0
  have hk_bw : w12.cell? ⟨w7.heap.size, 0, none⟩ = some (.slice a_w (gluL La Lb x y).length c_w) := B_bw.out.cell 0
  go_wp2_with fail
  refine c.mono ?_
  rintro e w13 ⟨rfl, hb⟩
  clear c
  clear hk_ba hk_bb hk_bs hk_bw
  replace S_a := Lib.hid (S_a.out.below hb)
  replace S_b := Lib.hid (S_b.out.below hb)
  replace B_ba := Lib.hid (B_ba.out.below hb)
  replace B_bb := Lib.hid (B_bb.out.below hb)
  replace R_s := Lib.hid (R_s.out.below hb)
  replace B_bs := Lib.hid (B_bs.out.below hb)
  replace R_w := Lib.hid (R_w.out.below hb)
  replace B_bw := Lib.hid (B_bw.out.below hb)
  replace S_t := Lib.hid (S_t.out.below hb)
  have z13 := hb.size
  replace hW := hW.trans (hb.mono hW.size)
  clear hb
  clear R_w
  clear B_bw
  have c := spec_GlueFrobenius La Lb x y a_a c_a a_b c_b w13 S_a.out.sl S_b.out.sl (by omega) (by omega)
  rw [HF.out] at c
  have hk_ba : w13.cell? ⟨w2.heap.size, 0, none⟩ = some (.slice a_a La.length c_a) := B_ba.out.cell 0
  have hk_bb : w13.cell? ⟨w2.heap.size + 1, 0, none⟩ = some (.slice a_b Lb.length c_b) := B_bb.out.cell 0
  have hk_bs : w13.cell? ⟨w5.heap.size, 0, none⟩ = some (.slice a_s (gluL La Lb x y).length c_s) := B_bs.out.cell 0
  go_wp2_with fail
  refine c.mono ?_
  rintro e w14 ⟨rfl, hb⟩
  clear c
  clear hk_ba hk_bb hk_bs
  replace S_a := Lib.hid (S_a.out.below hb)
  replace S_b := Lib.hid (S_b.out.below hb)
  replace B_ba := Lib.hid (B_ba.out.below hb)
  replace B_bb := Lib.hid (B_bb.out.below hb)
  replace R_s := Lib.hid (R_s.out.below hb)
  replace B_bs := Lib.hid (B_bs.out.below hb)
  replace S_t := Lib.hid (S_t.out.below hb)
  have z14 := hb.size
  replace hW := hW.trans (hb.mono hW.size)
  clear hb
  have c := spec_IsTelescopic Lt a_t c_t w14 S_t.out.sl (by omega) hct
  rw [HT.out] at c
  have hk_ba : w14.cell? ⟨w2.heap.size, 0, none⟩ = some (.slice a_a La.length c_a) := B_ba.out.cell 0
  have hk_bb : w14.cell? ⟨w2.heap.size + 1, 0, none⟩ = some (.slice a_b Lb.length c_b) := B_bb.out.cell 0
  have hk_bs : w14.cell? ⟨w5.heap.size, 0, none⟩ = some (.slice a_s (gluL La Lb x y).length c_s) := B_bs.out.cell 0
  go_wp2_with fail
  refine c.mono ?_
  rintro e w15 ⟨rfl, hb⟩
  clear c
  clear hk_ba hk_bb hk_bs
  replace S_a := Lib.hid (S_a.out.below hb)
  replace S_b := Lib.hid (S_b.out.below hb)
  replace B_ba := Lib.hid (B_ba.out.below hb)
  replace B_bb := Lib.hid (B_bb.out.below hb)
  replace R_s := Lib.hid (R_s.out.below hb)
  replace B_bs := Lib.hid (B_bs.out.below hb)
  replace S_t := Lib.hid (S_t.out.below hb)
  have z15 := hb.size
  replace hW := hW.trans (hb.mono hW.size)
  clear hb
  have c := spec_TelescopicFrobenius Lt a_t c_t w15 S_t.out.sl (by omega) hct
  rw [HN.out] at c
  have hk_ba : w15.cell? ⟨w2.heap.size, 0, none⟩ = some (.slice a_a La.length c_a) := B_ba.out.cell 0
  have hk_bb : w15.cell? ⟨w2.heap.size + 1, 0, none⟩ = some (.slice a_b Lb.length c_b) := B_bb.out.cell 0
  have hk_bs : w15.cell? ⟨w5.heap.size, 0, none⟩ = some (.slice a_s (gluL La Lb x y).length c_s) := B_bs.out.cell 0
  go_wp2_with fail
  refine c.mono ?_
  rintro e w16 ⟨rfl, hb⟩
  clear c
  clear hk_ba hk_bb hk_bs
  replace S_a := Lib.hid (S_a.out.below hb)
  replace S_b := Lib.hid (S_b.out.below hb)
  replace B_ba := Lib.hid (B_ba.out.below hb)
  replace B_bb := Lib.hid (B_bb.out.below hb)
  replace R_s := Lib.hid (R_s.out.below hb)
  replace B_bs := Lib.hid (B_bs.out.below hb)
  replace S_t := Lib.hid (S_t.out.below hb)
  have z16 := hb.size
  replace hW := hW.trans (hb.mono hW.size)
  clear hb
  clear hqq htt hnn HR hl
  have hl_bs : w5.heap.size < w16.heap.size := B_bs.out.lt
  have hl_ba : w2.heap.size < w16.heap.size := B_ba.out.lt
  have hl_bb : w2.heap.size + 1 < w16.heap.size := B_bb.out.lt
  have HK : Hid (∀ w', Below w16.heap.size w16 w' → w'.cell? ⟨w5.heap.size, 0, none⟩ = some (.slice a_s (gluL La Lb x y).length c_s) ∧ w'.cell? ⟨w2.heap.size, 0, none⟩ = some (.slice a_a La.length c_a) ∧ w'.cell? ⟨w2.heap.size + 1, 0, none⟩ = some (.slice a_b Lb.length c_b) ∧ Below w16.heap.size w16 w') := Lib.hid fun w' h => ⟨(h.cell (p := ⟨w5.heap.size, 0, none⟩) hl_bs).trans (B_bs.out.cell 0), (h.cell (p := ⟨w2.heap.size, 0, none⟩) hl_ba).trans (B_ba.out.cell 0), (h.cell (p := ⟨w2.heap.size + 1, 0, none⟩) hl_bb).trans (B_bb.out.cell 0), h⟩
  have hS0 := HK.out _ (Below.refl w16.heap.size w16).drew
  clear B_bs B_ba B_bb hl_bs hl_ba hl_bb
  go_upto_region 12 with fail
  go_cut [100] (fun s100 wx => s100 = Value.bool false ∧ Below w16.heap.size w16 wx)
  case first =>
    cases q
    · go_wp2_with fail
      refine wp_region_held_drew (S := fun w' => w'.cell? ⟨w5.heap.size, 0, none⟩ = some (.slice a_s (gluL La Lb x y).length c_s) ∧ w'.cell? ⟨w2.heap.size, 0, none⟩ = some (.slice a_a La.length c_a) ∧ w'.cell? ⟨w2.heap.size + 1, 0, none⟩ = some (.slice a_b Lb.length c_b) ∧ Below w16.heap.size w16 w') (by kernel_rfl) hS0 (fun hHeld => ?_)
      refine held_take 0 _ _ rfl (by kernel_rfl) (by kernel_rfl) (by kernel_rfl) (fun _ _ _ h => h) (by rfl) hHeld (fun w hSw => by (try dsimp only at hSw); go_simp; try with_reducible rfl) ?_
      (try simp only [Act.put, List.setIfInBounds_toArray, List.set_cons_zero, List.set_cons_succ, List.getElem_toArray, List.getElem_cons_zero])
      refine held_take 1 _ _ rfl (by kernel_rfl) (by kernel_rfl) (by kernel_rfl) (fun _ _ _ h => h) (by rfl) hHeld (fun w hSw => by (try dsimp only at hSw); go_simp; try with_reducible rfl) ?_
      (try simp only [Act.put, List.setIfInBounds_toArray, List.set_cons_zero, List.set_cons_succ, List.getElem_toArray, List.getElem_cons_succ, List.getElem_cons_zero])
      refine held_skip 2 _ rfl (by kernel_rfl) (by kernel_rfl) (by kernel_rfl) (fun _ _ _ h => h) (by rfl) hHeld ?_
      (try simp only [Act.put, List.setIfInBounds_toArray, List.set_cons_zero, List.set_cons_succ, List.getElem_toArray, List.getElem_cons_succ, List.getElem_cons_zero])
      refine held_skip 3 _ rfl (by kernel_rfl) (by kernel_rfl) (by kernel_rfl) (fun _ _ _ h => h) (by rfl) hHeld ?_
      (try simp only [Act.put, List.setIfInBounds_toArray, List.set_cons_zero, List.set_cons_succ, List.getElem_toArray, List.getElem_cons_succ, List.getElem_cons_zero])
      refine held_skip 4 _ rfl (by kernel_rfl) (by kernel_rfl) (by kernel_rfl) (fun _ _ _ h => h) (by rfl) hHeld ?_
      (try simp only [Act.put, List.setIfInBounds_toArray, List.set_cons_zero, List.set_cons_succ, List.getElem_toArray, List.getElem_cons_succ, List.getElem_cons_zero])
      refine held_skip 5 _ rfl (by kernel_rfl) (by kernel_rfl) (by kernel_rfl) (fun _ _ _ h => h) (by rfl) hHeld ?_
      (try simp only [Act.put, List.setIfInBounds_toArray, List.set_cons_zero, List.set_cons_succ, List.getElem_toArray, List.getElem_cons_succ, List.getElem_cons_zero])
      refine held_skip 6 _ rfl (by kernel_rfl) (by kernel_rfl) (by kernel_rfl) (fun _ _ _ h => h) (by rfl) hHeld ?_
      (try simp only [Act.put, List.setIfInBounds_toArray, List.set_cons_zero, List.set_cons_succ, List.getElem_toArray, List.getElem_cons_succ, List.getElem_cons_zero])
      refine held_skip 7 _ rfl (by kernel_rfl) (by kernel_rfl) (by kernel_rfl) (fun _ _ _ h => h) (by rfl) hHeld ?_
      (try simp only [Act.put, List.setIfInBounds_toArray, List.set_cons_zero, List.set_cons_succ, List.getElem_toArray, List.getElem_cons_succ, List.getElem_cons_zero])
      refine held_skip 8 _ rfl (by kernel_rfl) (by kernel_rfl) (by kernel_rfl) (fun _ _ _ h => h) (by rfl) hHeld ?_
      (try simp only [Act.put, List.setIfInBounds_toArray, List.set_cons_zero, List.set_cons_succ, List.getElem_toArray, List.getElem_cons_succ, List.getElem_cons_zero])
      refine held_skip 9 _ rfl (by kernel_rfl) (by kernel_rfl) (by kernel_rfl) (fun _ _ _ h => h) (by rfl) hHeld ?_
      (try simp only [Act.put, List.setIfInBounds_toArray, List.set_cons_zero, List.set_cons_succ, List.getElem_toArray, List.getElem_cons_succ, List.getElem_cons_zero])
      refine held_skip 10 _ rfl (by kernel_rfl) (by kernel_rfl) (by kernel_rfl) (fun _ _ _ h => h) (by rfl) hHeld ?_
      (try simp only [Act.put, List.setIfInBounds_toArray, List.set_cons_zero, List.set_cons_succ, List.getElem_toArray, List.getElem_cons_succ, List.getElem_cons_zero])
      refine held_skip 11 _ rfl (by kernel_rfl) (by kernel_rfl) (by kernel_rfl) (fun _ _ _ h => h) (by rfl) hHeld ?_
      (try simp only [Act.put, List.setIfInBounds_toArray, List.set_cons_zero, List.set_cons_succ, List.getElem_toArray, List.getElem_cons_succ, List.getElem_cons_zero])
      refine held_skip 12 _ rfl (by kernel_rfl) (by kernel_rfl) (by kernel_rfl) (fun _ _ _ h => h) (by rfl) hHeld ?_
      (try simp only [Act.put, List.setIfInBounds_toArray, List.set_cons_zero, List.set_cons_succ, List.getElem_toArray, List.getElem_cons_succ, List.getElem_cons_zero])
      refine held_skip 13 _ rfl (by kernel_rfl) (by kernel_rfl) (by kernel_rfl) (fun _ _ _ h => h) (by rfl) hHeld ?_
      (try simp only [Act.put, List.setIfInBounds_toArray, List.set_cons_zero, List.set_cons_succ, List.getElem_toArray, List.getElem_cons_succ, List.getElem_cons_zero])
      refine held_skip 14 _ rfl (by kernel_rfl) (by kernel_rfl) (by kernel_rfl) (fun _ _ _ h => h) (by rfl) hHeld ?_
      (try simp only [Act.put, List.setIfInBounds_toArray, List.set_cons_zero, List.set_cons_succ, List.getElem_toArray, List.getElem_cons_succ, List.getElem_cons_zero])
      refine held_skip 15 _ rfl (by kernel_rfl) (by kernel_rfl) (by kernel_rfl) (fun _ _ _ h => h) (by rfl) hHeld ?_
      (try simp only [Act.put, List.setIfInBounds_toArray, List.set_cons_zero, List.set_cons_succ, List.getElem_toArray, List.getElem_cons_succ, List.getElem_cons_zero])
      refine held_skip 16 _ rfl (by kernel_rfl) (by kernel_rfl) (by kernel_rfl) (fun _ _ _ h => h) (by rfl) hHeld ?_
      (try simp only [Act.put, List.setIfInBounds_toArray, List.set_cons_zero, List.set_cons_succ, List.getElem_toArray, List.getElem_cons_succ, List.getElem_cons_zero])
      refine held_take 17 _ _ rfl (by kernel_rfl) (by kernel_rfl) (by kernel_rfl) (fun _ _ _ h => h) (by rfl) hHeld (fun w hSw => by (try dsimp only at hSw); go_simp; try with_reducible rfl) ?_
      (try simp only [Act.put, List.setIfInBounds_toArray, List.set_cons_zero, List.set_cons_succ, List.getElem_toArray, List.getElem_cons_succ, List.getElem_cons_zero])
      refine wpAnyH_done (by kernel_rfl) ?_ _
      have hbF := (hHeld).2.2.2
      clear hS0 hHeld HK
      go_wp2_with fail
      go_meet
      exact ⟨rfl, hbF⟩
    · obtain ⟨hf, hsy⟩ := HLAW.out HQ.out
      rw [HF.out] at hf
      have c1 := fun w' (h : Below w16.heap.size w16 w') => spec_FrobeniusOf (gluL La Lb x y) a_s c_s w' ((R_s.out.slv).below h) (by omega)
      rw [← hf] at c1
      have c2 := fun w' (h : Below w16.heap.size w16 w') => spec_IsSymmetric (gluL La Lb x y) a_s c_s w' ((R_s.out.slv).below h) (by omega)
      rw [hsy] at c2
      have c3 := fun w' (h : Below w16.heap.size w16 w') => spec_IsSymmetric (La) a_a c_a w' ((S_a.out.sl).below h) (by omega)
      have c4 := fun w' (h : Below w16.heap.size w16 w') => spec_IsSymmetric (Lb) a_b c_b w' ((S_b.out.sl).below h) (by omega)
      clear hf hsy HLAW HF HQ
      generalize symB La = sa at *
      generalize symB Lb = sb at *
      have hbb : (sb != sb) = false := by cases sb <;> rfl
      cases sa
      · simp only [Bool.false_and] at c2
        go_wp2_with fail
        refine wp_region_held_drew (S := fun w' => w'.cell? ⟨w5.heap.size, 0, none⟩ = some (.slice a_s (gluL La Lb x y).length c_s) ∧ w'.cell? ⟨w2.heap.size, 0, none⟩ = some (.slice a_a La.length c_a) ∧ w'.cell? ⟨w2.heap.size + 1, 0, none⟩ = some (.slice a_b Lb.length c_b) ∧ Below w16.heap.size w16 w') (by kernel_rfl) hS0 (fun hHeld => ?_)
        refine held_take 0 _ _ rfl (by kernel_rfl) (by kernel_rfl) (by kernel_rfl) (fun _ _ _ h => h) (by rfl) hHeld (fun w hSw => by (try dsimp only at hSw); go_simp; try with_reducible rfl) ?_
        (try simp only [Act.put, List.setIfInBounds_toArray, List.set_cons_zero, List.set_cons_succ, List.getElem_toArray, List.getElem_cons_zero])
        refine held_take 1 _ _ rfl (by kernel_rfl) (by kernel_rfl) (by kernel_rfl) (fun _ _ _ h => h) (by rfl) hHeld (fun w hSw => by (try dsimp only at hSw); go_simp; try with_reducible rfl) ?_
        (try simp only [Act.put, List.setIfInBounds_toArray, List.set_cons_zero, List.set_cons_succ, List.getElem_toArray, List.getElem_cons_succ, List.getElem_cons_zero])
        refine held_take 2 _ _ rfl (by kernel_rfl) (by kernel_rfl) (by kernel_rfl) (fun _ _ _ h => h) (by rfl) hHeld (fun w hSw => by (try dsimp only at hSw); go_simp; try with_reducible rfl) ?_
        (try simp only [Act.put, List.setIfInBounds_toArray, List.set_cons_zero, List.set_cons_succ, List.getElem_toArray, List.getElem_cons_succ, List.getElem_cons_zero])
        refine held_take 3 _ _ rfl (by kernel_rfl) (by kernel_rfl) (by kernel_rfl) (fun _ _ _ h => h) (by rfl) hHeld (fun w hSw => by (try dsimp only at hSw); go_simp; try with_reducible rfl) ?_
        (try simp only [Act.put, List.setIfInBounds_toArray, List.set_cons_zero, List.set_cons_succ, List.getElem_toArray, List.getElem_cons_succ, List.getElem_cons_zero])
        refine wpAnyH_ready (rs := [4]) (by kernel_rfl) (by simp) ?_
        refine AllReadyH.cons rfl (fun K hK => ?_) AllReadyH.nil
        rw [if_pos (by rfl)]
        go_wp2_with (first | (go_at_call 17; (with_reducible refine (c1 _ (hHeld).2.2.2).mono ?_); rintro e wk ⟨rfl, hbk⟩))
        refine hK.out _ _ (HK.out _ ((hHeld).2.2.2.trans (hbk.mono (hHeld).2.2.2.size))) (fun hHeld1 => ?_)
        clear hK K
        (try simp only [Act.put, List.setIfInBounds_toArray, List.set_cons_zero, List.set_cons_succ, List.getElem_toArray, List.getElem_cons_succ, List.getElem_cons_zero])
        refine held_take 5 _ _ rfl (by kernel_rfl) (by kernel_rfl) (by kernel_rfl) (fun _ _ _ h => h) (by rfl) hHeld1 (fun w hSw => by (try dsimp only at hSw); go_simp; try with_reducible rfl) ?_
        (try simp only [Act.put, List.setIfInBounds_toArray, List.set_cons_zero, List.set_cons_succ, List.getElem_toArray, List.getElem_cons_succ, List.getElem_cons_zero])
        refine held_take 6 _ _ rfl (by kernel_rfl) (by kernel_rfl) (by kernel_rfl) (fun _ _ _ h => h) (by rfl) hHeld1 (fun w hSw => by (try dsimp only at hSw); go_simp; try with_reducible rfl) ?_
        (try simp only [Act.put, List.setIfInBounds_toArray, List.set_cons_zero, List.set_cons_succ, List.getElem_toArray, List.getElem_cons_succ, List.getElem_cons_zero])
        refine held_take 7 _ _ rfl (by kernel_rfl) (by kernel_rfl) (by kernel_rfl) (fun _ _ _ h => h) (by rfl) hHeld1 (fun w hSw => by (try dsimp only at hSw); go_simp; try with_reducible rfl) ?_
        (try simp only [Act.put, List.setIfInBounds_toArray, List.set_cons_zero, List.set_cons_succ, List.getElem_toArray, List.getElem_cons_succ, List.getElem_cons_zero])
        refine held_take 9 _ _ rfl (by kernel_rfl) (by kernel_rfl) (by kernel_rfl) (fun _ _ _ h => h) (by rfl) hHeld1 (fun w hSw => by (try dsimp only at hSw); go_simp; try with_reducible rfl) ?_
        (try simp only [Act.put, List.setIfInBounds_toArray, List.set_cons_zero, List.set_cons_succ, List.getElem_toArray, List.getElem_cons_succ, List.getElem_cons_zero])
        refine wpAnyH_ready (rs := [8]) (by kernel_rfl) (by simp) ?_
        refine AllReadyH.cons rfl (fun K hK => ?_) AllReadyH.nil
        rw [if_pos (by rfl)]
        go_wp2_with (first | (go_at_call 18; (with_reducible refine (c2 _ (hHeld1).2.2.2).mono ?_); rintro e wk ⟨rfl, hbk⟩))
        refine hK.out _ _ (HK.out _ ((hHeld1).2.2.2.trans (hbk.mono (hHeld1).2.2.2.size))) (fun hHeld2 => ?_)
        clear hK K
        (try simp only [Act.put, List.setIfInBounds_toArray, List.set_cons_zero, List.set_cons_succ, List.getElem_toArray, List.getElem_cons_succ, List.getElem_cons_zero])
        refine wpAnyH_ready (rs := [10]) (by kernel_rfl) (by simp) ?_
        refine AllReadyH.cons rfl (fun K hK => ?_) AllReadyH.nil
        rw [if_pos (by rfl)]
        go_wp2_with (first | (go_at_call 18; (with_reducible refine (c3 _ (hHeld2).2.2.2).mono ?_); rintro e wk ⟨rfl, hbk⟩))
        refine hK.out _ _ (HK.out _ ((hHeld2).2.2.2.trans (hbk.mono (hHeld2).2.2.2.size))) (fun hHeld3 => ?_)
        clear hK K
        (try simp only [Act.put, List.setIfInBounds_toArray, List.set_cons_zero, List.set_cons_succ, List.getElem_toArray, List.getElem_cons_succ, List.getElem_cons_zero])
        refine held_take 11 _ _ rfl (by kernel_rfl) (by kernel_rfl) (by kernel_rfl) (fun _ _ _ h => h) (by rfl) hHeld3 (fun w hSw => by (try dsimp only at hSw); go_simp; try with_reducible rfl) ?_
        (try simp only [Act.put, List.setIfInBounds_toArray, List.set_cons_zero, List.set_cons_succ, List.getElem_toArray, List.getElem_cons_succ, List.getElem_cons_zero])
        refine held_skip 12 _ rfl (by kernel_rfl) (by kernel_rfl) (by kernel_rfl) (fun _ _ _ h => h) (by rfl) hHeld3 ?_
        (try simp only [Act.put, List.setIfInBounds_toArray, List.set_cons_zero, List.set_cons_succ, List.getElem_toArray, List.getElem_cons_succ, List.getElem_cons_zero])
        refine held_skip 13 _ rfl (by kernel_rfl) (by kernel_rfl) (by kernel_rfl) (fun _ _ _ h => h) (by rfl) hHeld3 ?_
        (try simp only [Act.put, List.setIfInBounds_toArray, List.set_cons_zero, List.set_cons_succ, List.getElem_toArray, List.getElem_cons_succ, List.getElem_cons_zero])
        refine held_take 14 _ _ rfl (by kernel_rfl) (by kernel_rfl) (by kernel_rfl) (fun _ _ _ h => h) (by rfl) hHeld3 (fun w hSw => by (try dsimp only at hSw); go_simp; try with_reducible rfl) ?_
        (try simp only [Act.put, List.setIfInBounds_toArray, List.set_cons_zero, List.set_cons_succ, List.getElem_toArray, List.getElem_cons_succ, List.getElem_cons_zero])
        refine held_take 15 _ _ rfl (by kernel_rfl) (by kernel_rfl) (by kernel_rfl) (fun _ _ _ h => h) (by rfl) hHeld3 (fun w hSw => by (try dsimp only at hSw); go_simp; try with_reducible rfl) ?_
        (try simp only [Act.put, List.setIfInBounds_toArray, List.set_cons_zero, List.set_cons_succ, List.getElem_toArray, List.getElem_cons_succ, List.getElem_cons_zero])
        refine held_take 16 _ _ rfl (by kernel_rfl) (by kernel_rfl) (by kernel_rfl) (fun _ _ _ h => h) (by rfl) hHeld3 (fun w hSw => by (try dsimp only at hSw); go_simp; try with_reducible rfl) ?_
        (try simp only [Act.put, List.setIfInBounds_toArray, List.set_cons_zero, List.set_cons_succ, List.getElem_toArray, List.getElem_cons_succ, List.getElem_cons_zero])
        refine held_take 17 _ _ rfl (by kernel_rfl) (by kernel_rfl) (by kernel_rfl) (fun _ _ _ h => h) (by rfl) hHeld3 (fun w hSw => by (try dsimp only at hSw); go_simp; try with_reducible rfl) ?_
        (try simp only [Act.put, List.setIfInBounds_toArray, List.set_cons_zero, List.set_cons_succ, List.getElem_toArray, List.getElem_cons_succ, List.getElem_cons_zero])
        refine wpAnyH_done (by kernel_rfl) ?_ _
        have hbF := (hHeld3).2.2.2
        clear hS0 hHeld3 HK
        go_wp2_with fail
        go_meet
        exact ⟨rfl, hbF⟩
      · simp only [Bool.true_and] at c2
        go_wp2_with fail
        refine wp_region_held_drew (S := fun w' => w'.cell? ⟨w5.heap.size, 0, none⟩ = some (.slice a_s (gluL La Lb x y).length c_s) ∧ w'.cell? ⟨w2.heap.size, 0, none⟩ = some (.slice a_a La.length c_a) ∧ w'.cell? ⟨w2.heap.size + 1, 0, none⟩ = some (.slice a_b Lb.length c_b) ∧ Below w16.heap.size w16 w') (by kernel_rfl) hS0 (fun hHeld => ?_)
        refine held_take 0 _ _ rfl (by kernel_rfl) (by kernel_rfl) (by kernel_rfl) (fun _ _ _ h => h) (by rfl) hHeld (fun w hSw => by (try dsimp only at hSw); go_simp; try with_reducible rfl) ?_
        (try simp only [Act.put, List.setIfInBounds_toArray, List.set_cons_zero, List.set_cons_succ, List.getElem_toArray, List.getElem_cons_zero])
        refine held_take 1 _ _ rfl (by kernel_rfl) (by kernel_rfl) (by kernel_rfl) (fun _ _ _ h => h) (by rfl) hHeld (fun w hSw => by (try dsimp only at hSw); go_simp; try with_reducible rfl) ?_
        (try simp only [Act.put, List.setIfInBounds_toArray, List.set_cons_zero, List.set_cons_succ, List.getElem_toArray, List.getElem_cons_succ, List.getElem_cons_zero])
        refine held_take 2 _ _ rfl (by kernel_rfl) (by kernel_rfl) (by kernel_rfl) (fun _ _ _ h => h) (by rfl) hHeld (fun w hSw => by (try dsimp only at hSw); go_simp; try with_reducible rfl) ?_
        (try simp only [Act.put, List.setIfInBounds_toArray, List.set_cons_zero, List.set_cons_succ, List.getElem_toArray, List.getElem_cons_succ, List.getElem_cons_zero])
        refine held_take 3 _ _ rfl (by kernel_rfl) (by kernel_rfl) (by kernel_rfl) (fun _ _ _ h => h) (by rfl) hHeld (fun w hSw => by (try dsimp only at hSw); go_simp; try with_reducible rfl) ?_
        (try simp only [Act.put, List.setIfInBounds_toArray, List.set_cons_zero, List.set_cons_succ, List.getElem_toArray, List.getElem_cons_succ, List.getElem_cons_zero])
        refine wpAnyH_ready (rs := [4]) (by kernel_rfl) (by simp) ?_
        refine AllReadyH.cons rfl (fun K hK => ?_) AllReadyH.nil
        rw [if_pos (by rfl)]
        go_wp2_with (first | (go_at_call 17; (with_reducible refine (c1 _ (hHeld).2.2.2).mono ?_); rintro e wk ⟨rfl, hbk⟩))
        refine hK.out _ _ (HK.out _ ((hHeld).2.2.2.trans (hbk.mono (hHeld).2.2.2.size))) (fun hHeld1 => ?_)
        clear hK K
        (try simp only [Act.put, List.setIfInBounds_toArray, List.set_cons_zero, List.set_cons_succ, List.getElem_toArray, List.getElem_cons_succ, List.getElem_cons_zero])
        refine held_take 5 _ _ rfl (by kernel_rfl) (by kernel_rfl) (by kernel_rfl) (fun _ _ _ h => h) (by rfl) hHeld1 (fun w hSw => by (try dsimp only at hSw); go_simp; try with_reducible rfl) ?_
        (try simp only [Act.put, List.setIfInBounds_toArray, List.set_cons_zero, List.set_cons_succ, List.getElem_toArray, List.getElem_cons_succ, List.getElem_cons_zero])
        refine held_take 6 _ _ rfl (by kernel_rfl) (by kernel_rfl) (by kernel_rfl) (fun _ _ _ h => h) (by rfl) hHeld1 (fun w hSw => by (try dsimp only at hSw); go_simp; try with_reducible rfl) ?_
        (try simp only [Act.put, List.setIfInBounds_toArray, List.set_cons_zero, List.set_cons_succ, List.getElem_toArray, List.getElem_cons_succ, List.getElem_cons_zero])
        refine held_take 7 _ _ rfl (by kernel_rfl) (by kernel_rfl) (by kernel_rfl) (fun _ _ _ h => h) (by rfl) hHeld1 (fun w hSw => by (try dsimp only at hSw); go_simp; try with_reducible rfl) ?_
        (try simp only [Act.put, List.setIfInBounds_toArray, List.set_cons_zero, List.set_cons_succ, List.getElem_toArray, List.getElem_cons_succ, List.getElem_cons_zero])
        refine held_take 9 _ _ rfl (by kernel_rfl) (by kernel_rfl) (by kernel_rfl) (fun _ _ _ h => h) (by rfl) hHeld1 (fun w hSw => by (try dsimp only at hSw); go_simp; try with_reducible rfl) ?_
        (try simp only [Act.put, List.setIfInBounds_toArray, List.set_cons_zero, List.set_cons_succ, List.getElem_toArray, List.getElem_cons_succ, List.getElem_cons_zero])
        refine wpAnyH_ready (rs := [8]) (by kernel_rfl) (by simp) ?_
        refine AllReadyH.cons rfl (fun K hK => ?_) AllReadyH.nil
        rw [if_pos (by rfl)]
        go_wp2_with (first | (go_at_call 18; (with_reducible refine (c2 _ (hHeld1).2.2.2).mono ?_); rintro e wk ⟨rfl, hbk⟩))
        refine hK.out _ _ (HK.out _ ((hHeld1).2.2.2.trans (hbk.mono (hHeld1).2.2.2.size))) (fun hHeld2 => ?_)
        clear hK K
        (try simp only [Act.put, List.setIfInBounds_toArray, List.set_cons_zero, List.set_cons_succ, List.getElem_toArray, List.getElem_cons_succ, List.getElem_cons_zero])
        refine wpAnyH_ready (rs := [10]) (by kernel_rfl) (by simp) ?_
        refine AllReadyH.cons rfl (fun K hK => ?_) AllReadyH.nil
        rw [if_pos (by rfl)]
        go_wp2_with (first | (go_at_call 18; (with_reducible refine (c3 _ (hHeld2).2.2.2).mono ?_); rintro e wk ⟨rfl, hbk⟩))
        refine hK.out _ _ (HK.out _ ((hHeld2).2.2.2.trans (hbk.mono (hHeld2).2.2.2.size))) (fun hHeld3 => ?_)
        clear hK K
        (try simp only [Act.put, List.setIfInBounds_toArray, List.set_cons_zero, List.set_cons_succ, List.getElem_toArray, List.getElem_cons_succ, List.getElem_cons_zero])
        refine held_take 11 _ _ rfl (by kernel_rfl) (by kernel_rfl) (by kernel_rfl) (fun _ _ _ h => h) (by rfl) hHeld3 (fun w hSw => by (try dsimp only at hSw); go_simp; try with_reducible rfl) ?_
        (try simp only [Act.put, List.setIfInBounds_toArray, List.set_cons_zero, List.set_cons_succ, List.getElem_toArray, List.getElem_cons_succ, List.getElem_cons_zero])
        refine held_take 12 _ _ rfl (by kernel_rfl) (by kernel_rfl) (by kernel_rfl) (fun _ _ _ h => h) (by rfl) hHeld3 (fun w hSw => by (try dsimp only at hSw); go_simp; try with_reducible rfl) ?_
        (try simp only [Act.put, List.setIfInBounds_toArray, List.set_cons_zero, List.set_cons_succ, List.getElem_toArray, List.getElem_cons_succ, List.getElem_cons_zero])
        refine wpAnyH_ready (rs := [13]) (by kernel_rfl) (by simp) ?_
        refine AllReadyH.cons rfl (fun K hK => ?_) AllReadyH.nil
        rw [if_pos (by rfl)]
        go_wp2_with (first | (go_at_call 18; (with_reducible refine (c4 _ (hHeld3).2.2.2).mono ?_); rintro e wk ⟨rfl, hbk⟩))
        refine hK.out _ _ (HK.out _ ((hHeld3).2.2.2.trans (hbk.mono (hHeld3).2.2.2.size))) (fun hHeld4 => ?_)
        clear hK K
        (try simp only [Act.put, List.setIfInBounds_toArray, List.set_cons_zero, List.set_cons_succ, List.getElem_toArray, List.getElem_cons_succ, List.getElem_cons_zero])
        refine held_take 14 _ _ rfl (by kernel_rfl) (by kernel_rfl) (by kernel_rfl) (fun _ _ _ h => h) (by rfl) hHeld4 (fun w hSw => by (try dsimp only at hSw); go_simp; try with_reducible rfl) ?_
        (try simp only [Act.put, List.setIfInBounds_toArray, List.set_cons_zero, List.set_cons_succ, List.getElem_toArray, List.getElem_cons_succ, List.getElem_cons_zero])
        refine held_take 15 _ _ rfl (by kernel_rfl) (by kernel_rfl) (by kernel_rfl) (fun _ _ _ h => h) (by rfl) hHeld4 (fun w hSw => by (try dsimp only at hSw); go_simp; try with_reducible rfl) ?_
        (try simp only [Act.put, List.setIfInBounds_toArray, List.set_cons_zero, List.set_cons_succ, List.getElem_toArray, List.getElem_cons_succ, List.getElem_cons_zero])
        refine held_take 16 _ _ rfl (by kernel_rfl) (by kernel_rfl) (by kernel_rfl) (fun _ _ _ h => h) (by rfl) hHeld4 (fun w hSw => by (try dsimp only at hSw); go_simp; try with_reducible rfl) ?_
        (try simp only [Act.put, List.setIfInBounds_toArray, List.set_cons_zero, List.set_cons_succ, List.getElem_toArray, List.getElem_cons_succ, List.getElem_cons_zero])
        refine held_take 17 _ _ rfl (by kernel_rfl) (by kernel_rfl) (by kernel_rfl) (fun _ _ _ h => h) (by rfl) hHeld4 (fun w hSw => by (try dsimp only at hSw); go_simp; try with_reducible rfl) ?_
        (try simp only [Act.put, List.setIfInBounds_toArray, List.set_cons_zero, List.set_cons_succ, List.getElem_toArray, List.getElem_cons_succ, List.getElem_cons_zero])
        refine wpAnyH_done (by kernel_rfl) ?_ _
        have hbF := (hHeld4).2.2.2
        clear hS0 hHeld4 HK
        go_wp2_with fail
        go_meet
        exact ⟨rfl, hbF⟩
  case rest =>
    rename World => wz
    obtain ⟨rfl, hbz⟩ := hcut
    have hWc := hW.size
    replace hW := hW.trans (hbz.mono hWc)
    have HST := Lib.hid (S_t.out.sl.below hbz)
    clear HK hS0 HLAW HF HQ hff S_a S_b S_t R_s hbz hWc hct
    have hWz := hW.size
    have c := spec_FromGens Lt a_t c_t wz HST.out (by omega)
    rw [HU.out] at c
    clear HST
    generalize hMM : fromL Lt = M at *
    have HM := Lib.hid hMM
    clear hMM
    go_wp2_with fail
    refine c.mono ?_
    rintro e we ⟨v, rfl, ho, hbe⟩
    obtain ⟨a_e, c_e, rfl, rE⟩ := row_open ho
    clear c ho
    cases t
    · go_wp2_with (first | (refine wpList_alloc_arr 26 [Value.slice none 0 0] zeroSg rfl rfl ?_) | (refine wpList_store_arr 26 (.tmp 15) (.tmp 104) we.heap.size [Value.slice none 0 0] [Value.slice a_e M.length c_e] rfl rfl rfl rfl (Arr.new we 26 [Value.slice none 0 0]) rfl sizeSg (by simp [Value.oneCell']) ?_; intro wg hNg hgg hzg; clear hzg; have hbg := (box_below we (.cells [Value.slice none 0 0].toArray 26)).grown hgg (by simp) (fun k hk => by cases hk; exact Nat.le_refl _); have hbF := hbe.trans (hbg.mono hbe.size); have rG := rE.slv.below hbg; clear rE hgg; replace hW := hW.trans (hbF.mono hWz); have hWg := hW.size; have hce := hNg.cell 0))
      go_ret
      exact ⟨rfl, hW⟩
    · cases u
      · go_wp2_with (first | (refine wpList_alloc_arr 26 [Value.slice none 0 0] zeroSg rfl rfl ?_) | (refine wpList_store_arr 26 (.tmp 15) (.tmp 104) we.heap.size [Value.slice none 0 0] [Value.slice a_e M.length c_e] rfl rfl rfl rfl (Arr.new we 26 [Value.slice none 0 0]) rfl sizeSg (by simp [Value.oneCell']) ?_; intro wg hNg hgg hzg; clear hzg; have hbg := (box_below we (.cells [Value.slice none 0 0].toArray 26)).grown hgg (by simp) (fun k hk => by cases hk; exact Nat.le_refl _); have hbF := hbe.trans (hbg.mono hbe.size); have rG := rE.slv.below hbg; clear rE hgg; replace hW := hW.trans (hbF.mono hWz); have hWg := hW.size; have hce := hNg.cell 0))
        go_ret
        exact ⟨rfl, hW⟩
      · obtain ⟨hn, hsy⟩ := HTLAW.out HT.out HU.out
        rw [HN.out] at hn
        have c1 := fun w' (h : SlV w' a_e (M.map (Value.int .i64))) => spec_FrobeniusOf M a_e c_e w' h (by omega)
        rw [← hn] at c1
        have hn1 : (n == n) = true := by simp
        have HSY := Lib.hid hsy
        clear hn hsy HTLAW HT HU HN HM
        go_wp2_with (first | (refine wpList_alloc_arr 26 [Value.slice none 0 0] zeroSg rfl rfl ?_) | (refine wpList_store_arr 26 (.tmp 15) (.tmp 104) we.heap.size [Value.slice none 0 0] [Value.slice a_e M.length c_e] rfl rfl rfl rfl (Arr.new we 26 [Value.slice none 0 0]) rfl sizeSg (by simp [Value.oneCell']) ?_; intro wg hNg hgg hzg; clear hzg; have hbg := (box_below we (.cells [Value.slice none 0 0].toArray 26)).grown hgg (by simp) (fun k hk => by cases hk; exact Nat.le_refl _); have hbF := hbe.trans (hbg.mono hbe.size); have rG := rE.slv.below hbg; clear rE hgg; replace hW := hW.trans (hbF.mono hWz); have hWg := hW.size; have hce := hNg.cell 0))
        refine (c1 _ rG).mono ?_
        rintro e wh ⟨rfl, hbh⟩
        replace hW := hW.trans (hbh.mono hWg)
        have hch := (hNg.below hbh).cell 0
        have c2 := spec_IsSymmetric M a_e c_e wh (rG.below hbh) (by omega)
        rw [HSY.out] at c2
        have hWh := hW.size
        clear c1 hce HSY hNg rG hbh hWg hbF hbg hbe
        go_wp2_with fail
        refine c2.mono ?_
        rintro e wi ⟨rfl, hbi⟩
        replace hW := hW.trans (hbi.mono hWh)
        clear c2 hch hbi
        go_wp2_with fail
        go_ret
        exact ⟨rfl, hW⟩

set_option maxRecDepth 100000 in
set_option maxHeartbeats 800000 in
theorem FnGlued.walk (p0 : Option Addr) (len0 cap0 : Nat) (z0 : List Int) (W : World) (r0 : IsRow .u8 W p0 len0 cap0 z0) (_ : W.ShapedOpen Tryz.prog) :
    Calls Tryz.prog 3 #[.slice p0 len0 cap0] W fun e w' => e = .returned (.bool true) ∧ Below W.heap.size W w' := by
  by_cases hl : len0 ≤ 1048576
  · exact fnGlued_small p0 len0 cap0 z0 W r0 hl
  · have cb := big_any p0 len0 cap0 W (row_maxLen r0)
    rw [decide_eq_true (show 1048576 < len0 by omega)] at cb
    go_enter Tryz.func3, Tryz.ntmps3
    go_wp2_with fail
    refine cb.mono ?_
    rintro e w0 ⟨rfl, rfl⟩
    go_wp2_with fail
    go_ret
    exact ⟨rfl, Below.refl _ _⟩
end Go.Proofs.YtipfonpaaebjjaaGreat
