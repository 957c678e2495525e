/-
  THE WALK OF THE LAW FnExactDimensionOf over the contracts of both sides (written by genlaw.py of the verifier's own).
-/
import Derived.Test.YtnbnkjmellmmlaaRows
import Derived.Test.YtnbnkjmellmmlaaC3
namespace Go.Proofs.Ytnbnkjmellmmlaa
open Go Go.RowKit

set_option maxRecDepth 100000 in
set_option maxHeartbeats 3200000 in
theorem FnExactDimensionOf.core (L0 : List Int) (a0 : Option Addr) (c0 : Nat) (W : World) (hr0 : SlV W a0 (L0.map (Value.int .i64))) (hb0 : L0.length ≤ 1048576) :
    Calls Try.prog 8 #[.agg #[.slice a0 L0.length c0]] W fun e w' => e = .returned (.bool true) ∧ Below W.heap.size W w' := by
  obtain ⟨W0, hW0⟩ : ∃ W0, W0 = (W.alloc (.cells #[.slice a0 L0.length c0] 27)) := ⟨_, rfl⟩
  have h00 : Below W.heap.size W W0 := by rw [hW0]; exact ((Below.refl _ _).alloc (by simp) _)
  have hsz0 : W.heap.size + 1 ≤ W0.heap.size := by rw [hW0]; simp
  have B_p0 : Hid (Arr W0 W.heap.size 27 [.slice a0 L0.length c0]) := Lib.hid (by
    rw [hW0]; exact Arr.new W 27 [.slice a0 L0.length c0])
  have HW0 := Lib.hid hW0
  have H00 := Lib.hid h00
  clear hW0
  have HR0 := Lib.hid (hr0.below h00)
  clear hr0
  clear h00
  have hW : Below W0.heap.size W0 W0 := Below.refl _ _
  go_enter Try.func8, Try.ntmps8
  have c := cz_Semigroup L0.length a0 c0 (1048576) W0 (by unfold maxLen; omega) (by omega) (by omega)
  rw [szI_in (by omega)] at c
  have hl0 : (0 : Int) ≤ 1048576 - (L0.length : Int) := by omega
  have hk_p0 : W0.cell? ⟨W.heap.size, 0, none⟩ = some (.slice a0 L0.length c0) := B_p0.out.cell 0
  rw [HW0.out] at hk_p0
  go_wp2_with fail
  rw [← HW0.out]
  refine c.mono ?_
  rintro e w1 ⟨rfl, hb⟩
  clear hk_p0
  clear c
  replace B_p0 := Lib.hid (B_p0.out.below hb)
  have z1 := hb.size
  replace hW := hW.trans (hb.mono hW.size)
  clear hb
  have c := ct_Semigroup L0 a0 c0 w1 (HR0.out.below hW) hb0
  have hk_p0 : w1.cell? ⟨W.heap.size, 0, none⟩ = some (.slice a0 L0.length c0) := B_p0.out.cell 0
  go_wp2_with fail
  refine c.mono ?_
  rintro e w2 ⟨v, rfl, ho, hb⟩
  clear hk_p0
  obtain ⟨a_t1, c_t1, rfl, rX⟩ := row_open ho
  clear c ho
  replace B_p0 := Lib.hid (B_p0.out.below hb)
  have z2 := hb.size
  replace hW := hW.trans (hb.mono hW.size)
  have R_t1 := Lib.hid rX
  clear rX hb
  have c := cs_DimensionOf L0 a_t1 c_t1 w2 R_t1.out.slw hb0
  have hk_p0 : w2.cell? ⟨W.heap.size, 0, none⟩ = some (.slice a0 L0.length c0) := B_p0.out.cell 0
  go_wp2_with fail
  refine c.mono ?_
  rintro e w3 ⟨rfl, hb⟩
  clear hk_p0
  clear c
  replace R_t1 := Lib.hid (R_t1.out.below hb)
  replace B_p0 := Lib.hid (B_p0.out.below hb)
  have z3 := hb.size
  replace hW := hW.trans (hb.mono hW.size)
  clear hb
  clear R_t1
  have c := ct_Semigroup L0 a0 c0 w3 (HR0.out.below hW) hb0
  have hk_p0 : w3.cell? ⟨W.heap.size, 0, none⟩ = some (.slice a0 L0.length c0) := B_p0.out.cell 0
  go_wp2_with fail
  refine c.mono ?_
  rintro e w4 ⟨v, rfl, ho, hb⟩
  clear hk_p0
  obtain ⟨a_x0, c_x0, rfl, rX⟩ := row_open ho
  clear c ho
  replace B_p0 := Lib.hid (B_p0.out.below hb)
  have z4 := hb.size
  replace hW := hW.trans (hb.mono hW.size)
  have R_x0 := Lib.hid rX
  clear rX hb
  obtain ⟨w5, hwb⟩ : ∃ wb, wb = w4.alloc (.cells #[.slice a_x0 L0.length c_x0] 30) := ⟨_, rfl⟩
  have hb : Below w4.heap.size w4 w5 := by rw [hwb]; exact (Below.refl _ _).alloc (Nat.le_refl _) _
  have hA : Arr w5 w4.heap.size 30 [.slice a_x0 L0.length c_x0] := by rw [hwb]; exact Arr.new _ _ _
  replace R_x0 := Lib.hid (R_x0.out.below hb)
  replace B_p0 := Lib.hid (B_p0.out.below hb)
  have z5 : w4.heap.size < w5.heap.size := hA.lt
  replace hW := hW.trans (hb.mono hW.size)
  have B_x0 := Lib.hid hA
  have H_w5 := Lib.hid hwb
  clear hwb hb hA
  have c := ci_DimensionOf L0 a_x0 c_x0 w5 R_x0.out.slw hb0
  have hk_p0 : w5.cell? ⟨W.heap.size, 0, none⟩ = some (.slice a0 L0.length c0) := B_p0.out.cell 0
  have hk_x0 : w5.cell? ⟨w4.heap.size, 0, none⟩ = some (.slice a_x0 L0.length c_x0) := B_x0.out.cell 0
  rw [H_w5.out] at hk_p0 hk_x0
  go_wp2_with fail
  rw [← H_w5.out]
  refine c.mono ?_
  rintro e w6 ⟨rfl, hb⟩
  clear hk_p0 hk_x0
  clear c
  replace R_x0 := Lib.hid (R_x0.out.below hb)
  replace B_p0 := Lib.hid (B_p0.out.below hb)
  replace B_x0 := Lib.hid (B_x0.out.below hb)
  have z6 := hb.size
  replace hW := hW.trans (hb.mono hW.size)
  clear hb
  have ctf : ∀ w', (w'.cell? ⟨w4.heap.size, 0, none⟩ = some (.slice a_x0 L0.length c_x0) ∧ w'.cell? ⟨W.heap.size, 0, none⟩ = some (.slice a0 L0.length c0) ∧ Below w6.heap.size w6 w') → Calls Try.prog 21 #[.agg #[.slice a0 L0.length c0]] w' fun e w2 => ∃ v, e = .returned (.agg #[v]) ∧ w2.ownsRow w'.heap.size 3 1 v L0.length (L0.map (Value.int .i64)) ∧ Below w'.heap.size w' w2 := fun w' h => ct_Semigroup L0 a0 c0 w' (HR0.out.below (hW.trans (h.2.2.mono hW.size))) hb0
  have HS := Lib.hid (show w6.drew.cell? ⟨w4.heap.size, 0, none⟩ = some (.slice a_x0 L0.length c_x0) ∧ w6.drew.cell? ⟨W.heap.size, 0, none⟩ = some (.slice a0 L0.length c0) ∧ Below w6.heap.size w6 w6.drew from ⟨B_x0.out.cell 0, B_p0.out.cell 0, (Below.refl _ _).drew⟩)
  have hlx := B_x0.out.lt
  have hlp := B_p0.out.lt
  go_wp2_with fail
  go_region_held3 (fun w' => w'.cell? ⟨w4.heap.size, 0, none⟩ = some (.slice a_x0 L0.length c_x0) ∧ w'.cell? ⟨W.heap.size, 0, none⟩ = some (.slice a0 L0.length c0) ∧ Below w6.heap.size w6 w')
    (first | exact HS.out | assumption | exact held_keep2 hlx hlp (by assumption) (by assumption))
    ((first | (go_at_call 21; (with_reducible refine (ctf _ (by assumption)).mono ?_); rintro e w7 ⟨v, rfl, ho, hb2⟩; obtain ⟨a_t, c_t, rfl, rX⟩ := row_open ho; have ce := ce_Semigroup L0 L0 a_x0 a_t c_x0 c_t w7 (R_x0.out.slv.below ((Below.refl _ _).drew.trans hb2)) rX.slv (by omega) (by omega); rw [decide_eq_true (rfl : L0 = L0)] at ce; clear ho rX)
             | (go_at_call 23; (with_reducible refine ce.mono ?_); rintro e w8 ⟨rfl, hb3⟩)))
  have hb : Below w6.heap.size w6 w8 := ((Below.refl w6.heap.size w6).drew.trans hb2).trans (hb3.mono hb2.size)
  clear ctf HS hlx hlp ce hb2 hb3
  replace R_x0 := Lib.hid (R_x0.out.below hb)
  replace B_p0 := Lib.hid (B_p0.out.below hb)
  replace B_x0 := Lib.hid (B_x0.out.below hb)
  have z8 := hb.size
  replace hW := hW.trans (hb.mono hW.size)
  clear hb
  have hk_p0 : w8.cell? ⟨W.heap.size, 0, none⟩ = some (.slice a0 L0.length c0) := B_p0.out.cell 0
  have hk_x0 : w8.cell? ⟨w4.heap.size, 0, none⟩ = some (.slice a_x0 L0.length c_x0) := B_x0.out.cell 0
  go_wp2_with fail
  go_ret
  exact ⟨rfl, H00.out.trans (hW.mono H00.out.size)⟩
end Go.Proofs.Ytnbnkjmellmmlaa
