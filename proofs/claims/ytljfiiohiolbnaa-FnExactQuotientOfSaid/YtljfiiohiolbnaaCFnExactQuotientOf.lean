/-
  THE WALK OF THE LAW FnExactQuotientOf over the contracts of both sides (written by genlaw.py of the verifier's own).
-/
import Derived.Test.YtljfiiohiolbnaaRows
import Derived.Test.YtljfiiohiolbnaaC17
namespace Go.Proofs.Ytljfiiohiolbnaa
open Go Go.RowKit

set_option maxRecDepth 100000 in
set_option maxHeartbeats 3200000 in
theorem FnExactQuotientOf.core (L0 : List Int) (a0 : Option Addr) (c0 : Nat) (x1 : Int) (lo1 : -9223372036854775808 ≤ x1) (hi1 : x1 ≤ 9223372036854775807) (W : World) (hr0 : SlV W a0 (L0.map (Value.int .i64))) (hb0 : L0.length ≤ 1048576) :
    Calls Try.prog 5 #[.agg #[.slice a0 L0.length c0], .int .i64 x1] W fun e w' => e = .returned (.bool true) ∧ Below W.heap.size W w' := by
  have hm0 := quotL_len L0 x1
  obtain ⟨W0, hW0⟩ : ∃ W0, W0 = (W.alloc (.cells #[.slice a0 L0.length c0] 41)) := ⟨_, rfl⟩
  have h00 : Below W.heap.size W W0 := by rw [hW0]; exact ((Below.refl _ _).alloc (by simp) _)
  have hsz0 : W.heap.size + 1 ≤ W0.heap.size := by rw [hW0]; simp
  have B_p0 : Hid (Arr W0 W.heap.size 41 [.slice a0 L0.length c0]) := Lib.hid (by
    rw [hW0]; exact Arr.new W 41 [.slice a0 L0.length c0])
  have HW0 := Lib.hid hW0
  have H00 := Lib.hid h00
  clear hW0
  have HR0 := Lib.hid (hr0.below h00)
  clear hr0
  clear h00
  have hW : Below W0.heap.size W0 W0 := Below.refl _ _
  go_enter Try.func5, Try.ntmps5
  have c := cz_Semigroup L0.length a0 c0 (1048576) W0 (by unfold maxLen; omega) (by omega) (by omega)
  rw [szI_in (by omega)] at c
  have hl0 : (0 : Int) ≤ 1048576 - (L0.length : Int) := by omega
  have hk_p0 : W0.cell? ⟨W.heap.size, 0, none⟩ = some (.slice a0 L0.length c0) := B_p0.out.cell 0
  rw [HW0.out] at hk_p0
  go_wp2_with fail
  rw [← HW0.out]
  refine c.mono ?_
  rintro e w1 ⟨rfl, hb⟩
  clear hk_p0
  clear c
  replace B_p0 := Lib.hid (B_p0.out.below hb)
  have z1 := hb.size
  replace hW := hW.trans (hb.mono hW.size)
  clear hb
  have c := ct_Semigroup L0 a0 c0 w1 (HR0.out.below hW) hb0
  have hk_p0 : w1.cell? ⟨W.heap.size, 0, none⟩ = some (.slice a0 L0.length c0) := B_p0.out.cell 0
  go_wp2_with fail
  refine c.mono ?_
  rintro e w2 ⟨v, rfl, ho, hb⟩
  clear hk_p0
  obtain ⟨a_t1, c_t1, rfl, rX⟩ := row_open ho
  clear c ho
  replace B_p0 := Lib.hid (B_p0.out.below hb)
  have z2 := hb.size
  replace hW := hW.trans (hb.mono hW.size)
  have R_t1 := Lib.hid rX
  clear rX hb
  have c := cs_QuotientOf L0 a_t1 c_t1 x1 w2 R_t1.out.slw hb0 lo1 hi1
  have hk_p0 : w2.cell? ⟨W.heap.size, 0, none⟩ = some (.slice a0 L0.length c0) := B_p0.out.cell 0
  go_wp2_with fail
  refine c.mono ?_
  rintro e w3 ⟨v, rfl, ho, hb⟩
  clear hk_p0
  obtain ⟨a_w0, c_w0, rfl, rX⟩ := row_open ho
  clear c ho
  replace R_t1 := Lib.hid (R_t1.out.below hb)
  replace B_p0 := Lib.hid (B_p0.out.below hb)
  have z3 := hb.size
  replace hW := hW.trans (hb.mono hW.size)
  have R_w0 := Lib.hid rX
  clear rX hb
  obtain ⟨w4, hwb⟩ : ∃ wb, wb = w3.alloc (.cells #[.slice a_w0 (quotL L0 x1).length c_w0] 26) := ⟨_, rfl⟩
  have hb : Below w3.heap.size w3 w4 := by rw [hwb]; exact (Below.refl _ _).alloc (Nat.le_refl _) _
  have hA : Arr w4 w3.heap.size 26 [.slice a_w0 (quotL L0 x1).length c_w0] := by rw [hwb]; exact Arr.new _ _ _
  replace R_t1 := Lib.hid (R_t1.out.below hb)
  replace R_w0 := Lib.hid (R_w0.out.below hb)
  replace B_p0 := Lib.hid (B_p0.out.below hb)
  have z4 : w3.heap.size < w4.heap.size := hA.lt
  replace hW := hW.trans (hb.mono hW.size)
  have B_w0 := Lib.hid hA
  have H_w4 := Lib.hid hwb
  clear hwb hb hA
  clear R_t1
  have c := ct_Semigroup L0 a0 c0 w4 (HR0.out.below hW) hb0
  have hk_p0 : w4.cell? ⟨W.heap.size, 0, none⟩ = some (.slice a0 L0.length c0) := B_p0.out.cell 0
  have hk_w0 : w4.cell? ⟨w3.heap.size, 0, none⟩ = some (.slice a_w0 (quotL L0 x1).length c_w0) := B_w0.out.cell 0
  rw [H_w4.out] at hk_p0 hk_w0
  go_wp2_with fail
  rw [← H_w4.out]
  refine c.mono ?_
  rintro e w5 ⟨v, rfl, ho, hb⟩
  clear hk_p0 hk_w0
  obtain ⟨a_x0, c_x0, rfl, rX⟩ := row_open ho
  clear c ho
  replace R_w0 := Lib.hid (R_w0.out.below hb)
  replace B_p0 := Lib.hid (B_p0.out.below hb)
  replace B_w0 := Lib.hid (B_w0.out.below hb)
  have z5 := hb.size
  replace hW := hW.trans (hb.mono hW.size)
  have R_x0 := Lib.hid rX
  clear rX hb
  obtain ⟨w6, hwb⟩ : ∃ wb, wb = w5.alloc (.cells #[.slice a_x0 L0.length c_x0] 26) := ⟨_, rfl⟩
  have hb : Below w5.heap.size w5 w6 := by rw [hwb]; exact (Below.refl _ _).alloc (Nat.le_refl _) _
  have hA : Arr w6 w5.heap.size 26 [.slice a_x0 L0.length c_x0] := by rw [hwb]; exact Arr.new _ _ _
  replace R_w0 := Lib.hid (R_w0.out.below hb)
  replace R_x0 := Lib.hid (R_x0.out.below hb)
  replace B_p0 := Lib.hid (B_p0.out.below hb)
  replace B_w0 := Lib.hid (B_w0.out.below hb)
  have z6 : w5.heap.size < w6.heap.size := hA.lt
  replace hW := hW.trans (hb.mono hW.size)
  have B_x0 := Lib.hid hA
  have H_w6 := Lib.hid hwb
  clear hwb hb hA
  have c := ci_QuotientOf L0 a_x0 c_x0 x1 w6 R_x0.out.slw hb0 lo1 hi1
  have hk_p0 : w6.cell? ⟨W.heap.size, 0, none⟩ = some (.slice a0 L0.length c0) := B_p0.out.cell 0
  have hk_w0 : w6.cell? ⟨w3.heap.size, 0, none⟩ = some (.slice a_w0 (quotL L0 x1).length c_w0) := B_w0.out.cell 0
  have hk_x0 : w6.cell? ⟨w5.heap.size, 0, none⟩ = some (.slice a_x0 L0.length c_x0) := B_x0.out.cell 0
  rw [H_w6.out] at hk_p0 hk_w0 hk_x0
  go_wp2_with fail
  rw [← H_w6.out]
  refine c.mono ?_
  rintro e w7 ⟨v, rfl, ho, hb⟩
  clear hk_p0 hk_w0 hk_x0
  obtain ⟨a_g0, c_g0, rfl, rX⟩ := row_open ho
  clear c ho
  replace R_w0 := Lib.hid (R_w0.out.below hb)
  replace R_x0 := Lib.hid (R_x0.out.below hb)
  replace B_p0 := Lib.hid (B_p0.out.below hb)
  replace B_w0 := Lib.hid (B_w0.out.below hb)
  replace B_x0 := Lib.hid (B_x0.out.below hb)
  have z7 := hb.size
  replace hW := hW.trans (hb.mono hW.size)
  have R_g0 := Lib.hid rX
  clear rX hb
  obtain ⟨w8, hwb⟩ : ∃ wb, wb = w7.alloc (.cells #[.slice a_g0 (quotL L0 x1).length c_g0] 26) := ⟨_, rfl⟩
  have hb : Below w7.heap.size w7 w8 := by rw [hwb]; exact (Below.refl _ _).alloc (Nat.le_refl _) _
  have hA : Arr w8 w7.heap.size 26 [.slice a_g0 (quotL L0 x1).length c_g0] := by rw [hwb]; exact Arr.new _ _ _
  replace R_w0 := Lib.hid (R_w0.out.below hb)
  replace R_x0 := Lib.hid (R_x0.out.below hb)
  replace R_g0 := Lib.hid (R_g0.out.below hb)
  replace B_p0 := Lib.hid (B_p0.out.below hb)
  replace B_w0 := Lib.hid (B_w0.out.below hb)
  replace B_x0 := Lib.hid (B_x0.out.below hb)
  have z8 : w7.heap.size < w8.heap.size := hA.lt
  replace hW := hW.trans (hb.mono hW.size)
  have B_g0 := Lib.hid hA
  have H_w8 := Lib.hid hwb
  clear hwb hb hA
  have c := ce_Semigroup (quotL L0 x1) (quotL L0 x1) a_g0 a_w0 c_g0 c_w0 w8 R_g0.out.slv R_w0.out.slv (by omega) (by omega)
  rw [decide_eq_true (rfl : (quotL L0 x1) = (quotL L0 x1))] at c
  have hk_p0 : w8.cell? ⟨W.heap.size, 0, none⟩ = some (.slice a0 L0.length c0) := B_p0.out.cell 0
  have hk_w0 : w8.cell? ⟨w3.heap.size, 0, none⟩ = some (.slice a_w0 (quotL L0 x1).length c_w0) := B_w0.out.cell 0
  have hk_x0 : w8.cell? ⟨w5.heap.size, 0, none⟩ = some (.slice a_x0 L0.length c_x0) := B_x0.out.cell 0
  have hk_g0 : w8.cell? ⟨w7.heap.size, 0, none⟩ = some (.slice a_g0 (quotL L0 x1).length c_g0) := B_g0.out.cell 0
  rw [H_w8.out] at hk_p0 hk_w0 hk_x0 hk_g0
  go_wp2_with fail
  rw [← H_w8.out]
  refine c.mono ?_
  rintro e w9 ⟨rfl, hb⟩
  clear hk_p0 hk_w0 hk_x0 hk_g0
  clear c
  replace R_w0 := Lib.hid (R_w0.out.below hb)
  replace R_x0 := Lib.hid (R_x0.out.below hb)
  replace R_g0 := Lib.hid (R_g0.out.below hb)
  replace B_p0 := Lib.hid (B_p0.out.below hb)
  replace B_w0 := Lib.hid (B_w0.out.below hb)
  replace B_x0 := Lib.hid (B_x0.out.below hb)
  replace B_g0 := Lib.hid (B_g0.out.below hb)
  have z9 := hb.size
  replace hW := hW.trans (hb.mono hW.size)
  clear hb
  have ctf : ∀ w', (w'.cell? ⟨w5.heap.size, 0, none⟩ = some (.slice a_x0 L0.length c_x0) ∧ w'.cell? ⟨W.heap.size, 0, none⟩ = some (.slice a0 L0.length c0) ∧ Below w9.heap.size w9 w') → Calls Try.prog 32 #[.agg #[.slice a0 L0.length c0]] w' fun e w2 => ∃ v, e = .returned (.agg #[v]) ∧ w2.ownsRow w'.heap.size 3 1 v L0.length (L0.map (Value.int .i64)) ∧ Below w'.heap.size w' w2 := fun w' h => ct_Semigroup L0 a0 c0 w' (HR0.out.below (hW.trans (h.2.2.mono hW.size))) hb0
  have HS := Lib.hid (show w9.drew.cell? ⟨w5.heap.size, 0, none⟩ = some (.slice a_x0 L0.length c_x0) ∧ w9.drew.cell? ⟨W.heap.size, 0, none⟩ = some (.slice a0 L0.length c0) ∧ Below w9.heap.size w9 w9.drew from ⟨B_x0.out.cell 0, B_p0.out.cell 0, (Below.refl _ _).drew⟩)
  have hlx := B_x0.out.lt
  have hlp := B_p0.out.lt
  go_wp2_with fail
  go_region_held3 (fun w' => w'.cell? ⟨w5.heap.size, 0, none⟩ = some (.slice a_x0 L0.length c_x0) ∧ w'.cell? ⟨W.heap.size, 0, none⟩ = some (.slice a0 L0.length c0) ∧ Below w9.heap.size w9 w')
    (first | exact HS.out | assumption | exact held_keep2 hlx hlp (by assumption) (by assumption))
    ((first | (go_at_call 32; (with_reducible refine (ctf _ (by assumption)).mono ?_); rintro e w10 ⟨v, rfl, ho, hb2⟩; obtain ⟨a_t, c_t, rfl, rX⟩ := row_open ho; have ce := ce_Semigroup L0 L0 a_x0 a_t c_x0 c_t w10 (R_x0.out.slv.below ((Below.refl _ _).drew.trans hb2)) rX.slv (by omega) (by omega); rw [decide_eq_true (rfl : L0 = L0)] at ce; clear ho rX)
             | (go_at_call 33; (with_reducible refine ce.mono ?_); rintro e w11 ⟨rfl, hb3⟩)))
  have hb : Below w9.heap.size w9 w11 := ((Below.refl w9.heap.size w9).drew.trans hb2).trans (hb3.mono hb2.size)
  clear ctf HS hlx hlp ce hb2 hb3
  replace R_w0 := Lib.hid (R_w0.out.below hb)
  replace R_x0 := Lib.hid (R_x0.out.below hb)
  replace R_g0 := Lib.hid (R_g0.out.below hb)
  replace B_p0 := Lib.hid (B_p0.out.below hb)
  replace B_w0 := Lib.hid (B_w0.out.below hb)
  replace B_x0 := Lib.hid (B_x0.out.below hb)
  replace B_g0 := Lib.hid (B_g0.out.below hb)
  have z11 := hb.size
  replace hW := hW.trans (hb.mono hW.size)
  clear hb
  have rX := R_x0.out
  have c := cm_Semigroup (1) w4.heap.size L0.length _ _ w11 rX.own (by omega) (by omega) (by omega)
  have hk_p0 : w11.cell? ⟨W.heap.size, 0, none⟩ = some (.slice a0 L0.length c0) := B_p0.out.cell 0
  have hk_w0 : w11.cell? ⟨w3.heap.size, 0, none⟩ = some (.slice a_w0 (quotL L0 x1).length c_w0) := B_w0.out.cell 0
  have hk_x0 : w11.cell? ⟨w5.heap.size, 0, none⟩ = some (.slice a_x0 L0.length c_x0) := B_x0.out.cell 0
  have hk_g0 : w11.cell? ⟨w7.heap.size, 0, none⟩ = some (.slice a_g0 (quotL L0 x1).length c_g0) := B_g0.out.cell 0
  go_wp2_with fail
  refine c.mono ?_
  rintro e w12 ⟨rfl, ho, hg⟩
  clear hk_p0 hk_w0 hk_x0 hk_g0
  clear c
  replace R_w0 := Lib.hid (R_w0.out.grown hg (fun j hj => by have h1 := rX.blk j hj; have h2 := (rX.own.lt j hj).1; omega))
  replace R_g0 := Lib.hid (R_g0.out.grown hg (fun j hj => by have h1 := rX.blk j hj; have h2 := (rX.own.lt j hj).1; omega))
  replace B_p0 := Lib.hid (B_p0.out.grownRow hg (fun j hj => by have h1 := rX.blk j hj; have h2 := (rX.own.lt j hj).1; omega))
  replace B_w0 := Lib.hid (B_w0.out.grownRow hg (fun j hj => by have h1 := rX.blk j hj; have h2 := (rX.own.lt j hj).1; omega))
  replace B_x0 := Lib.hid (B_x0.out.grownRow hg (fun j hj => by have h1 := rX.blk j hj; have h2 := (rX.own.lt j hj).1; omega))
  replace B_g0 := Lib.hid (B_g0.out.grownRow hg (fun j hj => by have h1 := rX.blk j hj; have h2 := (rX.own.lt j hj).1; omega))
  have z12 := hg.size
  replace hW := hW.grown hg hW.size (fun j hj => by have h1 := (rX.own.lt j hj).1; omega)
  replace R_x0 := Lib.hid (Row.remade rX ho hg)
  clear rX ho hg
  clear R_x0
  clear B_x0
  have c := ce_Semigroup (quotL L0 x1) (quotL L0 x1) a_g0 a_w0 c_g0 c_w0 w12 R_g0.out.slv R_w0.out.slv (by omega) (by omega)
  rw [decide_eq_true (rfl : (quotL L0 x1) = (quotL L0 x1))] at c
  have hk_p0 : w12.cell? ⟨W.heap.size, 0, none⟩ = some (.slice a0 L0.length c0) := B_p0.out.cell 0
  have hk_w0 : w12.cell? ⟨w3.heap.size, 0, none⟩ = some (.slice a_w0 (quotL L0 x1).length c_w0) := B_w0.out.cell 0
  have hk_g0 : w12.cell? ⟨w7.heap.size, 0, none⟩ = some (.slice a_g0 (quotL L0 x1).length c_g0) := B_g0.out.cell 0
  go_wp2_with fail
  refine c.mono ?_
  rintro e w13 ⟨rfl, hb⟩
  clear hk_p0 hk_w0 hk_g0
  clear c
  replace R_w0 := Lib.hid (R_w0.out.below hb)
  replace R_g0 := Lib.hid (R_g0.out.below hb)
  replace B_p0 := Lib.hid (B_p0.out.below hb)
  replace B_w0 := Lib.hid (B_w0.out.below hb)
  replace B_g0 := Lib.hid (B_g0.out.below hb)
  have z13 := hb.size
  replace hW := hW.trans (hb.mono hW.size)
  clear hb
  have rX := R_g0.out
  have c := cm_Semigroup (1) w6.heap.size (quotL L0 x1).length _ _ w13 rX.own (by omega) (by omega) (by omega)
  have hk_p0 : w13.cell? ⟨W.heap.size, 0, none⟩ = some (.slice a0 L0.length c0) := B_p0.out.cell 0
  have hk_w0 : w13.cell? ⟨w3.heap.size, 0, none⟩ = some (.slice a_w0 (quotL L0 x1).length c_w0) := B_w0.out.cell 0
  have hk_g0 : w13.cell? ⟨w7.heap.size, 0, none⟩ = some (.slice a_g0 (quotL L0 x1).length c_g0) := B_g0.out.cell 0
  go_wp2_with fail
  refine c.mono ?_
  rintro e w14 ⟨rfl, ho, hg⟩
  clear hk_p0 hk_w0 hk_g0
  clear c
  replace R_w0 := Lib.hid (R_w0.out.grown hg (fun j hj => by have h1 := rX.blk j hj; have h2 := (rX.own.lt j hj).1; omega))
  replace B_p0 := Lib.hid (B_p0.out.grownRow hg (fun j hj => by have h1 := rX.blk j hj; have h2 := (rX.own.lt j hj).1; omega))
  replace B_w0 := Lib.hid (B_w0.out.grownRow hg (fun j hj => by have h1 := rX.blk j hj; have h2 := (rX.own.lt j hj).1; omega))
  replace B_g0 := Lib.hid (B_g0.out.grownRow hg (fun j hj => by have h1 := rX.blk j hj; have h2 := (rX.own.lt j hj).1; omega))
  have z14 := hg.size
  replace hW := hW.grown hg hW.size (fun j hj => by have h1 := (rX.own.lt j hj).1; omega)
  replace R_g0 := Lib.hid (Row.remade rX ho hg)
  clear rX ho hg
  have c := ch_Semigroup 1 ((quotL L0 x1).length) c_g0 a_g0 w14 R_g0.out.slv (by omega) (by omega) (by omega)
  have hk_p0 : w14.cell? ⟨W.heap.size, 0, none⟩ = some (.slice a0 L0.length c0) := B_p0.out.cell 0
  have hk_w0 : w14.cell? ⟨w3.heap.size, 0, none⟩ = some (.slice a_w0 (quotL L0 x1).length c_w0) := B_w0.out.cell 0
  have hk_g0 : w14.cell? ⟨w7.heap.size, 0, none⟩ = some (.slice a_g0 (quotL L0 x1).length c_g0) := B_g0.out.cell 0
  go_wp2_with fail
  refine c.mono ?_
  rintro e w15 ⟨rfl, hb⟩
  clear hk_p0 hk_w0 hk_g0
  clear c
  replace R_w0 := Lib.hid (R_w0.out.below hb)
  replace R_g0 := Lib.hid (R_g0.out.below hb)
  replace B_p0 := Lib.hid (B_p0.out.below hb)
  replace B_w0 := Lib.hid (B_w0.out.below hb)
  replace B_g0 := Lib.hid (B_g0.out.below hb)
  have z15 := hb.size
  replace hW := hW.trans (hb.mono hW.size)
  clear hb
  have c := ct_Semigroup L0 a0 c0 w15 (HR0.out.below hW) hb0
  have hk_p0 : w15.cell? ⟨W.heap.size, 0, none⟩ = some (.slice a0 L0.length c0) := B_p0.out.cell 0
  have hk_w0 : w15.cell? ⟨w3.heap.size, 0, none⟩ = some (.slice a_w0 (quotL L0 x1).length c_w0) := B_w0.out.cell 0
  have hk_g0 : w15.cell? ⟨w7.heap.size, 0, none⟩ = some (.slice a_g0 (quotL L0 x1).length c_g0) := B_g0.out.cell 0
  go_wp2_with fail
  refine c.mono ?_
  rintro e w16 ⟨v, rfl, ho, hb⟩
  clear hk_p0 hk_w0 hk_g0
  obtain ⟨a_t2, c_t2, rfl, rX⟩ := row_open ho
  clear c ho
  replace R_w0 := Lib.hid (R_w0.out.below hb)
  replace R_g0 := Lib.hid (R_g0.out.below hb)
  replace B_p0 := Lib.hid (B_p0.out.below hb)
  replace B_w0 := Lib.hid (B_w0.out.below hb)
  replace B_g0 := Lib.hid (B_g0.out.below hb)
  have z16 := hb.size
  replace hW := hW.trans (hb.mono hW.size)
  have R_t2 := Lib.hid rX
  clear rX hb
  have c := ci_QuotientOf L0 a_t2 c_t2 x1 w16 R_t2.out.slw hb0 lo1 hi1
  have hk_p0 : w16.cell? ⟨W.heap.size, 0, none⟩ = some (.slice a0 L0.length c0) := B_p0.out.cell 0
  have hk_w0 : w16.cell? ⟨w3.heap.size, 0, none⟩ = some (.slice a_w0 (quotL L0 x1).length c_w0) := B_w0.out.cell 0
  have hk_g0 : w16.cell? ⟨w7.heap.size, 0, none⟩ = some (.slice a_g0 (quotL L0 x1).length c_g0) := B_g0.out.cell 0
  go_wp2_with fail
  refine c.mono ?_
  rintro e w17 ⟨v, rfl, ho, hb⟩
  clear hk_p0 hk_w0 hk_g0
  obtain ⟨a_h0, c_h0, rfl, rX⟩ := row_open ho
  clear c ho
  replace R_w0 := Lib.hid (R_w0.out.below hb)
  replace R_g0 := Lib.hid (R_g0.out.below hb)
  replace R_t2 := Lib.hid (R_t2.out.below hb)
  replace B_p0 := Lib.hid (B_p0.out.below hb)
  replace B_w0 := Lib.hid (B_w0.out.below hb)
  replace B_g0 := Lib.hid (B_g0.out.below hb)
  have z17 := hb.size
  replace hW := hW.trans (hb.mono hW.size)
  have R_h0 := Lib.hid rX
  clear rX hb
  obtain ⟨w18, hwb⟩ : ∃ wb, wb = w17.alloc (.cells #[.slice a_h0 (quotL L0 x1).length c_h0] 26) := ⟨_, rfl⟩
  have hb : Below w17.heap.size w17 w18 := by rw [hwb]; exact (Below.refl _ _).alloc (Nat.le_refl _) _
  have hA : Arr w18 w17.heap.size 26 [.slice a_h0 (quotL L0 x1).length c_h0] := by rw [hwb]; exact Arr.new _ _ _
  replace R_w0 := Lib.hid (R_w0.out.below hb)
  replace R_g0 := Lib.hid (R_g0.out.below hb)
  replace R_t2 := Lib.hid (R_t2.out.below hb)
  replace R_h0 := Lib.hid (R_h0.out.below hb)
  replace B_p0 := Lib.hid (B_p0.out.below hb)
  replace B_w0 := Lib.hid (B_w0.out.below hb)
  replace B_g0 := Lib.hid (B_g0.out.below hb)
  have z18 : w17.heap.size < w18.heap.size := hA.lt
  replace hW := hW.trans (hb.mono hW.size)
  have B_h0 := Lib.hid hA
  have H_w18 := Lib.hid hwb
  clear hwb hb hA
  clear R_t2
  have c := ce_Semigroup (quotL L0 x1) (quotL L0 x1) a_h0 a_w0 c_h0 c_w0 w18 R_h0.out.slv R_w0.out.slv (by omega) (by omega)
  rw [decide_eq_true (rfl : (quotL L0 x1) = (quotL L0 x1))] at c
  have hk_p0 : w18.cell? ⟨W.heap.size, 0, none⟩ = some (.slice a0 L0.length c0) := B_p0.out.cell 0
  have hk_w0 : w18.cell? ⟨w3.heap.size, 0, none⟩ = some (.slice a_w0 (quotL L0 x1).length c_w0) := B_w0.out.cell 0
  have hk_g0 : w18.cell? ⟨w7.heap.size, 0, none⟩ = some (.slice a_g0 (quotL L0 x1).length c_g0) := B_g0.out.cell 0
  have hk_h0 : w18.cell? ⟨w17.heap.size, 0, none⟩ = some (.slice a_h0 (quotL L0 x1).length c_h0) := B_h0.out.cell 0
  rw [H_w18.out] at hk_p0 hk_w0 hk_g0 hk_h0
  go_wp2_with fail
  rw [← H_w18.out]
  refine c.mono ?_
  rintro e w19 ⟨rfl, hb⟩
  clear hk_p0 hk_w0 hk_g0 hk_h0
  clear c
  replace R_w0 := Lib.hid (R_w0.out.below hb)
  replace R_g0 := Lib.hid (R_g0.out.below hb)
  replace R_h0 := Lib.hid (R_h0.out.below hb)
  replace B_p0 := Lib.hid (B_p0.out.below hb)
  replace B_w0 := Lib.hid (B_w0.out.below hb)
  replace B_g0 := Lib.hid (B_g0.out.below hb)
  replace B_h0 := Lib.hid (B_h0.out.below hb)
  have z19 := hb.size
  replace hW := hW.trans (hb.mono hW.size)
  clear hb
  clear R_h0
  clear B_h0
  have c := ch_Semigroup 1 ((quotL L0 x1).length) c_g0 a_g0 w19 R_g0.out.slv (by omega) (by omega) (by omega)
  have hk_p0 : w19.cell? ⟨W.heap.size, 0, none⟩ = some (.slice a0 L0.length c0) := B_p0.out.cell 0
  have hk_w0 : w19.cell? ⟨w3.heap.size, 0, none⟩ = some (.slice a_w0 (quotL L0 x1).length c_w0) := B_w0.out.cell 0
  have hk_g0 : w19.cell? ⟨w7.heap.size, 0, none⟩ = some (.slice a_g0 (quotL L0 x1).length c_g0) := B_g0.out.cell 0
  go_wp2_with fail
  refine c.mono ?_
  rintro e w20 ⟨rfl, hb⟩
  clear hk_p0 hk_w0 hk_g0
  clear c
  replace R_w0 := Lib.hid (R_w0.out.below hb)
  replace R_g0 := Lib.hid (R_g0.out.below hb)
  replace B_p0 := Lib.hid (B_p0.out.below hb)
  replace B_w0 := Lib.hid (B_w0.out.below hb)
  replace B_g0 := Lib.hid (B_g0.out.below hb)
  have z20 := hb.size
  replace hW := hW.trans (hb.mono hW.size)
  clear hb
  have hk_p0 : w20.cell? ⟨W.heap.size, 0, none⟩ = some (.slice a0 L0.length c0) := B_p0.out.cell 0
  have hk_w0 : w20.cell? ⟨w3.heap.size, 0, none⟩ = some (.slice a_w0 (quotL L0 x1).length c_w0) := B_w0.out.cell 0
  have hk_g0 : w20.cell? ⟨w7.heap.size, 0, none⟩ = some (.slice a_g0 (quotL L0 x1).length c_g0) := B_g0.out.cell 0
  go_wp2_with fail
  go_ret
  exact ⟨rfl, H00.out.trans (hW.mono H00.out.size)⟩
end Go.Proofs.Ytljfiiohiolbnaa
