/-
  THE WALK OF THE LAW FnExactMeetOfAll over the contracts of both sides (written by genlaw.py of the verifier's own).
-/
import Derived.Test.YtfbfkaphcmngkaaRows
import Derived.Test.YtfbfkaphcmngkaaC21
namespace Go.Proofs.Ytfbfkaphcmngkaa
open Go Go.RowKit

set_option maxRecDepth 100000 in
set_option maxHeartbeats 3200000 in
theorem FnExactMeetOfAll.core (L0 : List (List Int)) (a0 : Option Addr) (c0 : Nat) (W : World) (hr0 : Sl2 W a0 L0) (hb0 : L0.length ≤ 1048576) (hw0 : ∀ L ∈ L0, L.length ≤ 1048576) (hs0 : totS L0 ≤ 1048576) :
    Calls Try.prog 3 #[.slice a0 L0.length c0] W fun e w' => e = .returned (.bool true) ∧ Below W.heap.size W w' := by
  have hm0 := mAll_len L0
  have hsum0 := totS_sum L0
  have HR0 := Lib.hid hr0
  clear hr0
  have hW : Below W.heap.size W W := Below.refl _ _
  go_enter Try.func3, Try.ntmps3
  have c := cz_SemigroupS L0 a0 c0 (1048576) W (HR0.out.below hW) (by unfold maxLen; omega) (fun L hL => by have := hw0 L hL; unfold maxLen; omega) (by omega) (by omega)
  rw [szS_in (by omega)] at c
  have hl0 : (0 : Int) ≤ 1048576 - (totS L0 : Int) := by omega
  go_wp2_with fail
  refine c.mono ?_
  rintro e w1 ⟨rfl, hb⟩
  clear c
  have z1 := hb.size
  replace hW := hW.trans (hb.mono hW.size)
  clear hb
  have c := cto_SemigroupS L0 a0 c0 w1 (HR0.out.below hW) hb0 hw0
  go_wp2_with fail
  refine c.mono ?_
  rintro e w2 ⟨a_t1, c_t1, vs_t1, rfl, rX, hb⟩
  clear c
  have z2 := hb.size
  replace hW := hW.trans (hb.mono hW.size)
  have R_t1 := Lib.hid rX
  clear rX hb
  have c := cs_MeetOfAll L0 a_t1 c_t1 w2 R_t1.out.sl2w hb0 hw0
  go_wp2_with fail
  refine c.mono ?_
  rintro e w3 ⟨v, rfl, ho, hb⟩
  obtain ⟨a_w0, c_w0, rfl, rX⟩ := row_open ho
  clear c ho
  replace R_t1 := Lib.hid (R_t1.out.below hb)
  have z3 := hb.size
  replace hW := hW.trans (hb.mono hW.size)
  have R_w0 := Lib.hid rX
  clear rX hb
  obtain ⟨w4, hwb⟩ : ∃ wb, wb = w3.alloc (.cells #[.slice a_w0 (mAllL L0).length c_w0] 26) := ⟨_, rfl⟩
  have hb : Below w3.heap.size w3 w4 := by rw [hwb]; exact (Below.refl _ _).alloc (Nat.le_refl _) _
  have hA : Arr w4 w3.heap.size 26 [.slice a_w0 (mAllL L0).length c_w0] := by rw [hwb]; exact Arr.new _ _ _
  replace R_t1 := Lib.hid (R_t1.out.below hb)
  replace R_w0 := Lib.hid (R_w0.out.below hb)
  have z4 : w3.heap.size < w4.heap.size := hA.lt
  replace hW := hW.trans (hb.mono hW.size)
  have B_w0 := Lib.hid hA
  have H_w4 := Lib.hid hwb
  clear hwb hb hA
  clear R_t1
  have c := cto_SemigroupS L0 a0 c0 w4 (HR0.out.below hW) hb0 hw0
  have hk_w0 : w4.cell? ⟨w3.heap.size, 0, none⟩ = some (.slice a_w0 (mAllL L0).length c_w0) := B_w0.out.cell 0
  rw [H_w4.out] at hk_w0
  go_wp2_with fail
  rw [← H_w4.out]
  refine c.mono ?_
  rintro e w5 ⟨a_x0, c_x0, vs_x0, rfl, rX, hb⟩
  clear hk_w0
  clear c
  replace R_w0 := Lib.hid (R_w0.out.below hb)
  replace B_w0 := Lib.hid (B_w0.out.below hb)
  have z5 := hb.size
  replace hW := hW.trans (hb.mono hW.size)
  have R_x0 := Lib.hid rX
  clear rX hb
  have c := ci_MeetOfAll L0 a_x0 c_x0 w5 R_x0.out.sl2w hb0 hw0
  have hk_w0 : w5.cell? ⟨w3.heap.size, 0, none⟩ = some (.slice a_w0 (mAllL L0).length c_w0) := B_w0.out.cell 0
  go_wp2_with fail
  refine c.mono ?_
  rintro e w6 ⟨v, rfl, ho, hb⟩
  clear hk_w0
  obtain ⟨a_g0, c_g0, rfl, rX⟩ := row_open ho
  clear c ho
  replace R_w0 := Lib.hid (R_w0.out.below hb)
  replace R_x0 := Lib.hid (R_x0.out.below hb)
  replace B_w0 := Lib.hid (B_w0.out.below hb)
  have z6 := hb.size
  replace hW := hW.trans (hb.mono hW.size)
  have R_g0 := Lib.hid rX
  clear rX hb
  obtain ⟨w7, hwb⟩ : ∃ wb, wb = w6.alloc (.cells #[.slice a_g0 (mAllL L0).length c_g0] 26) := ⟨_, rfl⟩
  have hb : Below w6.heap.size w6 w7 := by rw [hwb]; exact (Below.refl _ _).alloc (Nat.le_refl _) _
  have hA : Arr w7 w6.heap.size 26 [.slice a_g0 (mAllL L0).length c_g0] := by rw [hwb]; exact Arr.new _ _ _
  replace R_w0 := Lib.hid (R_w0.out.below hb)
  replace R_x0 := Lib.hid (R_x0.out.below hb)
  replace R_g0 := Lib.hid (R_g0.out.below hb)
  replace B_w0 := Lib.hid (B_w0.out.below hb)
  have z7 : w6.heap.size < w7.heap.size := hA.lt
  replace hW := hW.trans (hb.mono hW.size)
  have B_g0 := Lib.hid hA
  have H_w7 := Lib.hid hwb
  clear hwb hb hA
  have c := ce_Semigroup (mAllL L0) (mAllL L0) a_g0 a_w0 c_g0 c_w0 w7 R_g0.out.slv R_w0.out.slv (by omega) (by omega)
  rw [decide_eq_true (rfl : (mAllL L0) = (mAllL L0))] at c
  have hk_w0 : w7.cell? ⟨w3.heap.size, 0, none⟩ = some (.slice a_w0 (mAllL L0).length c_w0) := B_w0.out.cell 0
  have hk_g0 : w7.cell? ⟨w6.heap.size, 0, none⟩ = some (.slice a_g0 (mAllL L0).length c_g0) := B_g0.out.cell 0
  rw [H_w7.out] at hk_w0 hk_g0
  go_wp2_with fail
  rw [← H_w7.out]
  refine c.mono ?_
  rintro e w8 ⟨rfl, hb⟩
  clear hk_w0 hk_g0
  clear c
  replace R_w0 := Lib.hid (R_w0.out.below hb)
  replace R_x0 := Lib.hid (R_x0.out.below hb)
  replace R_g0 := Lib.hid (R_g0.out.below hb)
  replace B_w0 := Lib.hid (B_w0.out.below hb)
  replace B_g0 := Lib.hid (B_g0.out.below hb)
  have z8 := hb.size
  replace hW := hW.trans (hb.mono hW.size)
  clear hb
  have c := cto_SemigroupS L0 a0 c0 w8 (HR0.out.below hW) hb0 hw0
  have hk_w0 : w8.cell? ⟨w3.heap.size, 0, none⟩ = some (.slice a_w0 (mAllL L0).length c_w0) := B_w0.out.cell 0
  have hk_g0 : w8.cell? ⟨w6.heap.size, 0, none⟩ = some (.slice a_g0 (mAllL L0).length c_g0) := B_g0.out.cell 0
  go_wp2_with fail
  refine c.mono ?_
  rintro e w9 ⟨a_t2, c_t2, vs_t2, rfl, rX, hb⟩
  clear hk_w0 hk_g0
  clear c
  replace R_w0 := Lib.hid (R_w0.out.below hb)
  replace R_x0 := Lib.hid (R_x0.out.below hb)
  replace R_g0 := Lib.hid (R_g0.out.below hb)
  replace B_w0 := Lib.hid (B_w0.out.below hb)
  replace B_g0 := Lib.hid (B_g0.out.below hb)
  have z9 := hb.size
  replace hW := hW.trans (hb.mono hW.size)
  have R_t2 := Lib.hid rX
  clear rX hb
  have c := ce_SemigroupS (L0) a_x0 a_t2 c_x0 c_t2 w9 R_x0.out.sl2n R_t2.out.sl2n (by omega) hw0
  have hk_w0 : w9.cell? ⟨w3.heap.size, 0, none⟩ = some (.slice a_w0 (mAllL L0).length c_w0) := B_w0.out.cell 0
  have hk_g0 : w9.cell? ⟨w6.heap.size, 0, none⟩ = some (.slice a_g0 (mAllL L0).length c_g0) := B_g0.out.cell 0
  go_wp2_with fail
  refine c.mono ?_
  rintro e w10 ⟨rfl, hb⟩
  clear hk_w0 hk_g0
  clear c
  replace R_w0 := Lib.hid (R_w0.out.below hb)
  replace R_x0 := Lib.hid (R_x0.out.below hb)
  replace R_g0 := Lib.hid (R_g0.out.below hb)
  replace R_t2 := Lib.hid (R_t2.out.below hb)
  replace B_w0 := Lib.hid (B_w0.out.below hb)
  replace B_g0 := Lib.hid (B_g0.out.below hb)
  have z10 := hb.size
  replace hW := hW.trans (hb.mono hW.size)
  clear hb
  clear R_t2
  have c := cmr_SemigroupS (1) _ _ a_x0 (L0).length c_x0 vs_x0 _ w10 R_x0.out (by omega) (by omega) (by omega)
  have hk_w0 : w10.cell? ⟨w3.heap.size, 0, none⟩ = some (.slice a_w0 (mAllL L0).length c_w0) := B_w0.out.cell 0
  have hk_g0 : w10.cell? ⟨w6.heap.size, 0, none⟩ = some (.slice a_g0 (mAllL L0).length c_g0) := B_g0.out.cell 0
  go_wp2_with fail
  refine c.mono ?_
  rintro e w11 ⟨rfl, ho, hg⟩
  clear hk_w0 hk_g0
  clear c
  replace R_w0 := Lib.hid (R_w0.out.apart hg (by omega))
  replace R_g0 := Lib.hid (R_g0.out.apart hg (by omega))
  have hbl := B_w0.out.lt
  replace B_w0 := Lib.hid (B_w0.out.apart hg (by omega))
  clear hbl
  have hbl := B_g0.out.lt
  replace B_g0 := Lib.hid (B_g0.out.apart hg (by omega))
  clear hbl
  have z11 := hg.size
  replace hW := hg.below hW hW.size (by omega)
  replace R_x0 := Lib.hid ho
  clear ho hg
  clear R_x0
  have c := ce_Semigroup (mAllL L0) (mAllL L0) a_g0 a_w0 c_g0 c_w0 w11 R_g0.out.slv R_w0.out.slv (by omega) (by omega)
  rw [decide_eq_true (rfl : (mAllL L0) = (mAllL L0))] at c
  have hk_w0 : w11.cell? ⟨w3.heap.size, 0, none⟩ = some (.slice a_w0 (mAllL L0).length c_w0) := B_w0.out.cell 0
  have hk_g0 : w11.cell? ⟨w6.heap.size, 0, none⟩ = some (.slice a_g0 (mAllL L0).length c_g0) := B_g0.out.cell 0
  go_wp2_with fail
  refine c.mono ?_
  rintro e w12 ⟨rfl, hb⟩
  clear hk_w0 hk_g0
  clear c
  replace R_w0 := Lib.hid (R_w0.out.below hb)
  replace R_g0 := Lib.hid (R_g0.out.below hb)
  replace B_w0 := Lib.hid (B_w0.out.below hb)
  replace B_g0 := Lib.hid (B_g0.out.below hb)
  have z12 := hb.size
  replace hW := hW.trans (hb.mono hW.size)
  clear hb
  have rX := R_g0.out
  have c := cm_Semigroup (1) w5.heap.size (mAllL L0).length _ _ w12 rX.own (by omega) (by omega) (by omega)
  have hk_w0 : w12.cell? ⟨w3.heap.size, 0, none⟩ = some (.slice a_w0 (mAllL L0).length c_w0) := B_w0.out.cell 0
  have hk_g0 : w12.cell? ⟨w6.heap.size, 0, none⟩ = some (.slice a_g0 (mAllL L0).length c_g0) := B_g0.out.cell 0
  go_wp2_with fail
  refine c.mono ?_
  rintro e w13 ⟨rfl, ho, hg⟩
  clear hk_w0 hk_g0
  clear c
  replace R_w0 := Lib.hid (R_w0.out.grown hg (fun j hj => by have h1 := rX.blk j hj; have h2 := (rX.own.lt j hj).1; omega))
  replace B_w0 := Lib.hid (B_w0.out.grownRow hg (fun j hj => by have h1 := rX.blk j hj; have h2 := (rX.own.lt j hj).1; omega))
  replace B_g0 := Lib.hid (B_g0.out.grownRow hg (fun j hj => by have h1 := rX.blk j hj; have h2 := (rX.own.lt j hj).1; omega))
  have z13 := hg.size
  replace hW := hW.grown hg hW.size (fun j hj => by have h1 := (rX.own.lt j hj).1; omega)
  replace R_g0 := Lib.hid (Row.remade rX ho hg)
  clear rX ho hg
  have c := ch_Semigroup 1 ((mAllL L0).length) c_g0 a_g0 w13 R_g0.out.slv (by omega) (by omega) (by omega)
  have hk_w0 : w13.cell? ⟨w3.heap.size, 0, none⟩ = some (.slice a_w0 (mAllL L0).length c_w0) := B_w0.out.cell 0
  have hk_g0 : w13.cell? ⟨w6.heap.size, 0, none⟩ = some (.slice a_g0 (mAllL L0).length c_g0) := B_g0.out.cell 0
  go_wp2_with fail
  refine c.mono ?_
  rintro e w14 ⟨rfl, hb⟩
  clear hk_w0 hk_g0
  clear c
  replace R_w0 := Lib.hid (R_w0.out.below hb)
  replace R_g0 := Lib.hid (R_g0.out.below hb)
  replace B_w0 := Lib.hid (B_w0.out.below hb)
  replace B_g0 := Lib.hid (B_g0.out.below hb)
  have z14 := hb.size
  replace hW := hW.trans (hb.mono hW.size)
  clear hb
  have c := cto_SemigroupS L0 a0 c0 w14 (HR0.out.below hW) hb0 hw0
  have hk_w0 : w14.cell? ⟨w3.heap.size, 0, none⟩ = some (.slice a_w0 (mAllL L0).length c_w0) := B_w0.out.cell 0
  have hk_g0 : w14.cell? ⟨w6.heap.size, 0, none⟩ = some (.slice a_g0 (mAllL L0).length c_g0) := B_g0.out.cell 0
  go_wp2_with fail
  refine c.mono ?_
  rintro e w15 ⟨a_t3, c_t3, vs_t3, rfl, rX, hb⟩
  clear hk_w0 hk_g0
  clear c
  replace R_w0 := Lib.hid (R_w0.out.below hb)
  replace R_g0 := Lib.hid (R_g0.out.below hb)
  replace B_w0 := Lib.hid (B_w0.out.below hb)
  replace B_g0 := Lib.hid (B_g0.out.below hb)
  have z15 := hb.size
  replace hW := hW.trans (hb.mono hW.size)
  have R_t3 := Lib.hid rX
  clear rX hb
  have c := ci_MeetOfAll L0 a_t3 c_t3 w15 R_t3.out.sl2w hb0 hw0
  have hk_w0 : w15.cell? ⟨w3.heap.size, 0, none⟩ = some (.slice a_w0 (mAllL L0).length c_w0) := B_w0.out.cell 0
  have hk_g0 : w15.cell? ⟨w6.heap.size, 0, none⟩ = some (.slice a_g0 (mAllL L0).length c_g0) := B_g0.out.cell 0
  go_wp2_with fail
  refine c.mono ?_
  rintro e w16 ⟨v, rfl, ho, hb⟩
  clear hk_w0 hk_g0
  obtain ⟨a_h0, c_h0, rfl, rX⟩ := row_open ho
  clear c ho
  replace R_w0 := Lib.hid (R_w0.out.below hb)
  replace R_g0 := Lib.hid (R_g0.out.below hb)
  replace R_t3 := Lib.hid (R_t3.out.below hb)
  replace B_w0 := Lib.hid (B_w0.out.below hb)
  replace B_g0 := Lib.hid (B_g0.out.below hb)
  have z16 := hb.size
  replace hW := hW.trans (hb.mono hW.size)
  have R_h0 := Lib.hid rX
  clear rX hb
  obtain ⟨w17, hwb⟩ : ∃ wb, wb = w16.alloc (.cells #[.slice a_h0 (mAllL L0).length c_h0] 26) := ⟨_, rfl⟩
  have hb : Below w16.heap.size w16 w17 := by rw [hwb]; exact (Below.refl _ _).alloc (Nat.le_refl _) _
  have hA : Arr w17 w16.heap.size 26 [.slice a_h0 (mAllL L0).length c_h0] := by rw [hwb]; exact Arr.new _ _ _
  replace R_w0 := Lib.hid (R_w0.out.below hb)
  replace R_g0 := Lib.hid (R_g0.out.below hb)
  replace R_t3 := Lib.hid (R_t3.out.below hb)
  replace R_h0 := Lib.hid (R_h0.out.below hb)
  replace B_w0 := Lib.hid (B_w0.out.below hb)
  replace B_g0 := Lib.hid (B_g0.out.below hb)
  have z17 : w16.heap.size < w17.heap.size := hA.lt
  replace hW := hW.trans (hb.mono hW.size)
  have B_h0 := Lib.hid hA
  have H_w17 := Lib.hid hwb
  clear hwb hb hA
  clear R_t3
  have c := ce_Semigroup (mAllL L0) (mAllL L0) a_h0 a_w0 c_h0 c_w0 w17 R_h0.out.slv R_w0.out.slv (by omega) (by omega)
  rw [decide_eq_true (rfl : (mAllL L0) = (mAllL L0))] at c
  have hk_w0 : w17.cell? ⟨w3.heap.size, 0, none⟩ = some (.slice a_w0 (mAllL L0).length c_w0) := B_w0.out.cell 0
  have hk_g0 : w17.cell? ⟨w6.heap.size, 0, none⟩ = some (.slice a_g0 (mAllL L0).length c_g0) := B_g0.out.cell 0
  have hk_h0 : w17.cell? ⟨w16.heap.size, 0, none⟩ = some (.slice a_h0 (mAllL L0).length c_h0) := B_h0.out.cell 0
  rw [H_w17.out] at hk_w0 hk_g0 hk_h0
  go_wp2_with fail
  rw [← H_w17.out]
  refine c.mono ?_
  rintro e w18 ⟨rfl, hb⟩
  clear hk_w0 hk_g0 hk_h0
  clear c
  replace R_w0 := Lib.hid (R_w0.out.below hb)
  replace R_g0 := Lib.hid (R_g0.out.below hb)
  replace R_h0 := Lib.hid (R_h0.out.below hb)
  replace B_w0 := Lib.hid (B_w0.out.below hb)
  replace B_g0 := Lib.hid (B_g0.out.below hb)
  replace B_h0 := Lib.hid (B_h0.out.below hb)
  have z18 := hb.size
  replace hW := hW.trans (hb.mono hW.size)
  clear hb
  clear R_h0
  clear B_h0
  have c := ch_Semigroup 1 ((mAllL L0).length) c_g0 a_g0 w18 R_g0.out.slv (by omega) (by omega) (by omega)
  have hk_w0 : w18.cell? ⟨w3.heap.size, 0, none⟩ = some (.slice a_w0 (mAllL L0).length c_w0) := B_w0.out.cell 0
  have hk_g0 : w18.cell? ⟨w6.heap.size, 0, none⟩ = some (.slice a_g0 (mAllL L0).length c_g0) := B_g0.out.cell 0
  go_wp2_with fail
  refine c.mono ?_
  rintro e w19 ⟨rfl, hb⟩
  clear hk_w0 hk_g0
  clear c
  replace R_w0 := Lib.hid (R_w0.out.below hb)
  replace R_g0 := Lib.hid (R_g0.out.below hb)
  replace B_w0 := Lib.hid (B_w0.out.below hb)
  replace B_g0 := Lib.hid (B_g0.out.below hb)
  have z19 := hb.size
  replace hW := hW.trans (hb.mono hW.size)
  clear hb
  have hk_w0 : w19.cell? ⟨w3.heap.size, 0, none⟩ = some (.slice a_w0 (mAllL L0).length c_w0) := B_w0.out.cell 0
  have hk_g0 : w19.cell? ⟨w6.heap.size, 0, none⟩ = some (.slice a_g0 (mAllL L0).length c_g0) := B_g0.out.cell 0
  go_wp2_with fail
  go_ret
  exact ⟨rfl, hW⟩
end Go.Proofs.Ytfbfkaphcmngkaa
