/-
  THE WALK OF THE LAW FnExactIsWithin over the contracts of both sides (written by genlaw.py of the verifier's own).
-/
import Derived.Test.YtljfiiohiolbnaaRows
import Derived.Test.YtljfiiohiolbnaaC18
namespace Go.Proofs.Ytljfiiohiolbnaa
open Go Go.RowKit

set_option maxRecDepth 100000 in
set_option maxHeartbeats 3200000 in
theorem FnExactIsWithin.core (L0 : List Int) (a0 : Option Addr) (c0 : Nat) (L1 : List Int) (a1 : Option Addr) (c1 : Nat) (W : World) (hr0 : SlV W a0 (L0.map (Value.int .i64))) (hb0 : L0.length ≤ 1048576) (hr1 : SlV W a1 (L1.map (Value.int .i64))) (hb1 : L1.length ≤ 1048576) (hsum : L0.length + L1.length ≤ 1048576) :
    Calls Try.prog 7 #[.agg #[.slice a0 L0.length c0], .agg #[.slice a1 L1.length c1]] W fun e w' => e = .returned (.bool true) ∧ Below W.heap.size W w' := by
  obtain ⟨W0, hW0⟩ : ∃ W0, W0 = ((W.alloc (.cells #[.slice a0 L0.length c0] 41)).alloc (.cells #[.slice a1 L1.length c1] 41)) := ⟨_, rfl⟩
  have h00 : Below W.heap.size W W0 := by rw [hW0]; exact (((Below.refl _ _).alloc (by simp) _).alloc (by simp; try omega) _)
  have hsz0 : W.heap.size + 2 ≤ W0.heap.size := by rw [hW0]; simp
  have B_p0 : Hid (Arr W0 W.heap.size 41 [.slice a0 L0.length c0]) := Lib.hid (by
    rw [hW0]; exact (Arr.new W 41 [.slice a0 L0.length c0]).alloc (.cells #[.slice a1 L1.length c1] 41))
  have B_p1 : Hid (Arr W0 (W.heap.size + 1) 41 [.slice a1 L1.length c1]) := Lib.hid (by
    rw [hW0]; have h := Arr.new (W.alloc (.cells #[.slice a0 L0.length c0] 41)) 41 [.slice a1 L1.length c1]
    rw [show ((W.alloc (.cells #[.slice a0 L0.length c0] 41))).heap.size = W.heap.size + 1 by simp] at h; exact h)
  have HW0 := Lib.hid hW0
  have H00 := Lib.hid h00
  clear hW0
  have HR0 := Lib.hid (hr0.below h00)
  clear hr0
  have HR1 := Lib.hid (hr1.below h00)
  clear hr1
  clear h00
  have hW : Below W0.heap.size W0 W0 := Below.refl _ _
  go_enter Try.func7, Try.ntmps7
  have c := cz_Semigroup L0.length a0 c0 (1048576) W0 (by unfold maxLen; omega) (by omega) (by omega)
  rw [szI_in (by omega)] at c
  have hl0 : (0 : Int) ≤ 1048576 - (L0.length : Int) := by omega
  have hk_p0 : W0.cell? ⟨W.heap.size, 0, none⟩ = some (.slice a0 L0.length c0) := B_p0.out.cell 0
  have hk_p1 : W0.cell? ⟨W.heap.size + 1, 0, none⟩ = some (.slice a1 L1.length c1) := B_p1.out.cell 0
  rw [HW0.out] at hk_p0 hk_p1
  go_wp2_with fail
  rw [← HW0.out]
  refine c.mono ?_
  rintro e w1 ⟨rfl, hb⟩
  clear hk_p0 hk_p1
  clear c
  replace B_p0 := Lib.hid (B_p0.out.below hb)
  replace B_p1 := Lib.hid (B_p1.out.below hb)
  have z1 := hb.size
  replace hW := hW.trans (hb.mono hW.size)
  clear hb
  have c := cz_Semigroup L1.length a1 c1 (1048576 - (L0.length : Int)) w1 (by unfold maxLen; omega) (by omega) (by omega)
  rw [szI_in (by omega)] at c
  have hl1 : (0 : Int) ≤ 1048576 - (L0.length : Int) - (L1.length : Int) := by omega
  have hk_p0 : w1.cell? ⟨W.heap.size, 0, none⟩ = some (.slice a0 L0.length c0) := B_p0.out.cell 0
  have hk_p1 : w1.cell? ⟨W.heap.size + 1, 0, none⟩ = some (.slice a1 L1.length c1) := B_p1.out.cell 0
  go_wp2_with fail
  refine c.mono ?_
  rintro e w2 ⟨rfl, hb⟩
  clear hk_p0 hk_p1
  clear c
  replace B_p0 := Lib.hid (B_p0.out.below hb)
  replace B_p1 := Lib.hid (B_p1.out.below hb)
  have z2 := hb.size
  replace hW := hW.trans (hb.mono hW.size)
  clear hb
  have ctf0 : ∀ w', (w'.cell? ⟨W.heap.size, 0, none⟩ = some (.slice a0 L0.length c0) ∧ w'.cell? ⟨W.heap.size + 1, 0, none⟩ = some (.slice a1 L1.length c1) ∧ Below w2.heap.size w2 w') → Calls Try.prog 32 #[.agg #[.slice a0 L0.length c0]] w' fun e w2 => ∃ v, e = .returned (.agg #[v]) ∧ w2.ownsRow w'.heap.size 3 1 v L0.length (L0.map (Value.int .i64)) ∧ Below w'.heap.size w' w2 := fun w' h => ct_Semigroup L0 a0 c0 w' (HR0.out.below (hW.trans ((h.2.2).mono hW.size))) hb0
  have ctf1 : ∀ w', (w'.cell? ⟨W.heap.size, 0, none⟩ = some (.slice a0 L0.length c0) ∧ w'.cell? ⟨W.heap.size + 1, 0, none⟩ = some (.slice a1 L1.length c1) ∧ Below w2.heap.size w2 w') → Calls Try.prog 32 #[.agg #[.slice a1 L1.length c1]] w' fun e w2 => ∃ v, e = .returned (.agg #[v]) ∧ w2.ownsRow w'.heap.size 3 1 v L1.length (L1.map (Value.int .i64)) ∧ Below w'.heap.size w' w2 := fun w' h => ct_Semigroup L1 a1 c1 w' (HR1.out.below (hW.trans ((h.2.2).mono hW.size))) hb1
  have HS := Lib.hid (show w2.drew.cell? ⟨W.heap.size, 0, none⟩ = some (.slice a0 L0.length c0) ∧ w2.drew.cell? ⟨W.heap.size + 1, 0, none⟩ = some (.slice a1 L1.length c1) ∧ Below w2.heap.size w2 w2.drew from ⟨B_p0.out.cell 0, B_p1.out.cell 0, (Below.refl _ _).drew⟩)
  have hlp0 := B_p0.out.lt
  have hlp1 := B_p1.out.lt
  go_wp2_with fail
  go_region_held3 (fun w' => w'.cell? ⟨W.heap.size, 0, none⟩ = some (.slice a0 L0.length c0) ∧ w'.cell? ⟨W.heap.size + 1, 0, none⟩ = some (.slice a1 L1.length c1) ∧ Below w2.heap.size w2 w')
    (first | exact HS.out | assumption | exact held_keep2 hlp0 hlp1 (by assumption) (by assumption))
    ((first | (go_at_call 32; (with_reducible refine (ctf0 _ (by assumption)).mono ?_); rintro e w3 ⟨v, rfl, ho, hbw3⟩; obtain ⟨a_r0, c_r0, rfl, rX⟩ := row_open ho; have R_r0 := rX; clear ho rX)
             | (go_at_call 32; (with_reducible refine (ctf1 _ (by assumption)).mono ?_); rintro e w4 ⟨v, rfl, ho, hbw4⟩; obtain ⟨a_r1, c_r1, rfl, rX⟩ := row_open ho; have R_r1 := rX; clear ho rX; replace R_r0 := R_r0.below hbw4; have ce := cs_IsWithin L0 a_r0 c_r0 L1 a_r1 c_r1 w4 R_r0.slw R_r1.slw hb0 hb1)
             | (go_at_call 29; (with_reducible refine ce.mono ?_); rintro e w5 ⟨rfl, hbw5⟩)))
  have hb : Below w2.heap.size w2 w3 := (Below.refl w2.heap.size w2).drew.trans hbw3
  replace hb := hb.trans (hbw4.mono hb.size)
  replace hb := hb.trans (hbw5.mono hb.size)
  clear HS ce ctf0 ctf1 hlp0 hlp1 hbw3 hbw4 hbw5 R_r0 R_r1
  replace B_p0 := Lib.hid (B_p0.out.below hb)
  replace B_p1 := Lib.hid (B_p1.out.below hb)
  have z5 := hb.size
  replace hW := hW.trans (hb.mono hW.size)
  clear hb
  have c := ct_Semigroup L0 a0 c0 w5 (HR0.out.below hW) hb0
  have hk_p0 : w5.cell? ⟨W.heap.size, 0, none⟩ = some (.slice a0 L0.length c0) := B_p0.out.cell 0
  have hk_p1 : w5.cell? ⟨W.heap.size + 1, 0, none⟩ = some (.slice a1 L1.length c1) := B_p1.out.cell 0
  go_wp2_with fail
  refine c.mono ?_
  rintro e w6 ⟨v, rfl, ho, hb⟩
  clear hk_p0 hk_p1
  obtain ⟨a_x0, c_x0, rfl, rX⟩ := row_open ho
  clear c ho
  replace B_p0 := Lib.hid (B_p0.out.below hb)
  replace B_p1 := Lib.hid (B_p1.out.below hb)
  have z6 := hb.size
  replace hW := hW.trans (hb.mono hW.size)
  have R_x0 := Lib.hid rX
  clear rX hb
  obtain ⟨w7, hwb⟩ : ∃ wb, wb = w6.alloc (.cells #[.slice a_x0 L0.length c_x0] 26) := ⟨_, rfl⟩
  have hb : Below w6.heap.size w6 w7 := by rw [hwb]; exact (Below.refl _ _).alloc (Nat.le_refl _) _
  have hA : Arr w7 w6.heap.size 26 [.slice a_x0 L0.length c_x0] := by rw [hwb]; exact Arr.new _ _ _
  replace R_x0 := Lib.hid (R_x0.out.below hb)
  replace B_p0 := Lib.hid (B_p0.out.below hb)
  replace B_p1 := Lib.hid (B_p1.out.below hb)
  have z7 : w6.heap.size < w7.heap.size := hA.lt
  replace hW := hW.trans (hb.mono hW.size)
  have B_x0 := Lib.hid hA
  have H_w7 := Lib.hid hwb
  clear hwb hb hA
  have c := ct_Semigroup L1 a1 c1 w7 (HR1.out.below hW) hb1
  have hk_p0 : w7.cell? ⟨W.heap.size, 0, none⟩ = some (.slice a0 L0.length c0) := B_p0.out.cell 0
  have hk_p1 : w7.cell? ⟨W.heap.size + 1, 0, none⟩ = some (.slice a1 L1.length c1) := B_p1.out.cell 0
  have hk_x0 : w7.cell? ⟨w6.heap.size, 0, none⟩ = some (.slice a_x0 L0.length c_x0) := B_x0.out.cell 0
  rw [H_w7.out] at hk_p0 hk_p1 hk_x0
  go_wp2_with fail
  rw [← H_w7.out]
  refine c.mono ?_
  rintro e w8 ⟨v, rfl, ho, hb⟩
  clear hk_p0 hk_p1 hk_x0
  obtain ⟨a_x1, c_x1, rfl, rX⟩ := row_open ho
  clear c ho
  replace R_x0 := Lib.hid (R_x0.out.below hb)
  replace B_p0 := Lib.hid (B_p0.out.below hb)
  replace B_p1 := Lib.hid (B_p1.out.below hb)
  replace B_x0 := Lib.hid (B_x0.out.below hb)
  have z8 := hb.size
  replace hW := hW.trans (hb.mono hW.size)
  have R_x1 := Lib.hid rX
  clear rX hb
  obtain ⟨w9, hwb⟩ : ∃ wb, wb = w8.alloc (.cells #[.slice a_x1 L1.length c_x1] 26) := ⟨_, rfl⟩
  have hb : Below w8.heap.size w8 w9 := by rw [hwb]; exact (Below.refl _ _).alloc (Nat.le_refl _) _
  have hA : Arr w9 w8.heap.size 26 [.slice a_x1 L1.length c_x1] := by rw [hwb]; exact Arr.new _ _ _
  replace R_x0 := Lib.hid (R_x0.out.below hb)
  replace R_x1 := Lib.hid (R_x1.out.below hb)
  replace B_p0 := Lib.hid (B_p0.out.below hb)
  replace B_p1 := Lib.hid (B_p1.out.below hb)
  replace B_x0 := Lib.hid (B_x0.out.below hb)
  have z9 : w8.heap.size < w9.heap.size := hA.lt
  replace hW := hW.trans (hb.mono hW.size)
  have B_x1 := Lib.hid hA
  have H_w9 := Lib.hid hwb
  clear hwb hb hA
  have c := ci_IsWithin L0 a_x0 c_x0 L1 a_x1 c_x1 w9 R_x0.out.slw R_x1.out.slw hb0 hb1
  have hk_p0 : w9.cell? ⟨W.heap.size, 0, none⟩ = some (.slice a0 L0.length c0) := B_p0.out.cell 0
  have hk_p1 : w9.cell? ⟨W.heap.size + 1, 0, none⟩ = some (.slice a1 L1.length c1) := B_p1.out.cell 0
  have hk_x0 : w9.cell? ⟨w6.heap.size, 0, none⟩ = some (.slice a_x0 L0.length c_x0) := B_x0.out.cell 0
  have hk_x1 : w9.cell? ⟨w8.heap.size, 0, none⟩ = some (.slice a_x1 L1.length c_x1) := B_x1.out.cell 0
  rw [H_w9.out] at hk_p0 hk_p1 hk_x0 hk_x1
  go_wp2_with fail
  rw [← H_w9.out]
  refine c.mono ?_
  rintro e w10 ⟨rfl, hb⟩
  clear hk_p0 hk_p1 hk_x0 hk_x1
  clear c
  replace R_x0 := Lib.hid (R_x0.out.below hb)
  replace R_x1 := Lib.hid (R_x1.out.below hb)
  replace B_p0 := Lib.hid (B_p0.out.below hb)
  replace B_p1 := Lib.hid (B_p1.out.below hb)
  replace B_x0 := Lib.hid (B_x0.out.below hb)
  replace B_x1 := Lib.hid (B_x1.out.below hb)
  have z10 := hb.size
  replace hW := hW.trans (hb.mono hW.size)
  clear hb
  have ctf : ∀ w', (w'.cell? ⟨w6.heap.size, 0, none⟩ = some (.slice a_x0 L0.length c_x0) ∧ w'.cell? ⟨W.heap.size, 0, none⟩ = some (.slice a0 L0.length c0) ∧ Below w10.heap.size w10 w') → Calls Try.prog 32 #[.agg #[.slice a0 L0.length c0]] w' fun e w2 => ∃ v, e = .returned (.agg #[v]) ∧ w2.ownsRow w'.heap.size 3 1 v L0.length (L0.map (Value.int .i64)) ∧ Below w'.heap.size w' w2 := fun w' h => ct_Semigroup L0 a0 c0 w' (HR0.out.below (hW.trans (h.2.2.mono hW.size))) hb0
  have HS := Lib.hid (show w10.drew.cell? ⟨w6.heap.size, 0, none⟩ = some (.slice a_x0 L0.length c_x0) ∧ w10.drew.cell? ⟨W.heap.size, 0, none⟩ = some (.slice a0 L0.length c0) ∧ Below w10.heap.size w10 w10.drew from ⟨B_x0.out.cell 0, B_p0.out.cell 0, (Below.refl _ _).drew⟩)
  have hlx := B_x0.out.lt
  have hlp := B_p0.out.lt
  go_wp2_with fail
  go_region_held3 (fun w' => w'.cell? ⟨w6.heap.size, 0, none⟩ = some (.slice a_x0 L0.length c_x0) ∧ w'.cell? ⟨W.heap.size, 0, none⟩ = some (.slice a0 L0.length c0) ∧ Below w10.heap.size w10 w')
    (first | exact HS.out | assumption | exact held_keep2 hlx hlp (by assumption) (by assumption))
    ((first | (go_at_call 32; (with_reducible refine (ctf _ (by assumption)).mono ?_); rintro e w11 ⟨v, rfl, ho, hb2⟩; obtain ⟨a_t, c_t, rfl, rX⟩ := row_open ho; have ce := ce_Semigroup L0 L0 a_x0 a_t c_x0 c_t w11 (R_x0.out.slv.below ((Below.refl _ _).drew.trans hb2)) rX.slv (by omega) (by omega); rw [decide_eq_true (rfl : L0 = L0)] at ce; clear ho rX)
             | (go_at_call 33; (with_reducible refine ce.mono ?_); rintro e w12 ⟨rfl, hb3⟩)))
  have hb : Below w10.heap.size w10 w12 := ((Below.refl w10.heap.size w10).drew.trans hb2).trans (hb3.mono hb2.size)
  clear ctf HS hlx hlp ce hb2 hb3
  replace R_x0 := Lib.hid (R_x0.out.below hb)
  replace R_x1 := Lib.hid (R_x1.out.below hb)
  replace B_p0 := Lib.hid (B_p0.out.below hb)
  replace B_p1 := Lib.hid (B_p1.out.below hb)
  replace B_x0 := Lib.hid (B_x0.out.below hb)
  replace B_x1 := Lib.hid (B_x1.out.below hb)
  have z12 := hb.size
  replace hW := hW.trans (hb.mono hW.size)
  clear hb
  have ctf : ∀ w', (w'.cell? ⟨w8.heap.size, 0, none⟩ = some (.slice a_x1 L1.length c_x1) ∧ w'.cell? ⟨W.heap.size + 1, 0, none⟩ = some (.slice a1 L1.length c1) ∧ Below w12.heap.size w12 w') → Calls Try.prog 32 #[.agg #[.slice a1 L1.length c1]] w' fun e w2 => ∃ v, e = .returned (.agg #[v]) ∧ w2.ownsRow w'.heap.size 3 1 v L1.length (L1.map (Value.int .i64)) ∧ Below w'.heap.size w' w2 := fun w' h => ct_Semigroup L1 a1 c1 w' (HR1.out.below (hW.trans (h.2.2.mono hW.size))) hb1
  have HS := Lib.hid (show w12.drew.cell? ⟨w8.heap.size, 0, none⟩ = some (.slice a_x1 L1.length c_x1) ∧ w12.drew.cell? ⟨W.heap.size + 1, 0, none⟩ = some (.slice a1 L1.length c1) ∧ Below w12.heap.size w12 w12.drew from ⟨B_x1.out.cell 0, B_p1.out.cell 0, (Below.refl _ _).drew⟩)
  have hlx := B_x1.out.lt
  have hlp := B_p1.out.lt
  go_wp2_with fail
  go_region_held3 (fun w' => w'.cell? ⟨w8.heap.size, 0, none⟩ = some (.slice a_x1 L1.length c_x1) ∧ w'.cell? ⟨W.heap.size + 1, 0, none⟩ = some (.slice a1 L1.length c1) ∧ Below w12.heap.size w12 w')
    (first | exact HS.out | assumption | exact held_keep2 hlx hlp (by assumption) (by assumption))
    ((first | (go_at_call 32; (with_reducible refine (ctf _ (by assumption)).mono ?_); rintro e w13 ⟨v, rfl, ho, hb2⟩; obtain ⟨a_t, c_t, rfl, rX⟩ := row_open ho; have ce := ce_Semigroup L1 L1 a_x1 a_t c_x1 c_t w13 (R_x1.out.slv.below ((Below.refl _ _).drew.trans hb2)) rX.slv (by omega) (by omega); rw [decide_eq_true (rfl : L1 = L1)] at ce; clear ho rX)
             | (go_at_call 33; (with_reducible refine ce.mono ?_); rintro e w14 ⟨rfl, hb3⟩)))
  have hb : Below w12.heap.size w12 w14 := ((Below.refl w12.heap.size w12).drew.trans hb2).trans (hb3.mono hb2.size)
  clear ctf HS hlx hlp ce hb2 hb3
  replace R_x0 := Lib.hid (R_x0.out.below hb)
  replace R_x1 := Lib.hid (R_x1.out.below hb)
  replace B_p0 := Lib.hid (B_p0.out.below hb)
  replace B_p1 := Lib.hid (B_p1.out.below hb)
  replace B_x0 := Lib.hid (B_x0.out.below hb)
  replace B_x1 := Lib.hid (B_x1.out.below hb)
  have z14 := hb.size
  replace hW := hW.trans (hb.mono hW.size)
  clear hb
  have hk_p0 : w14.cell? ⟨W.heap.size, 0, none⟩ = some (.slice a0 L0.length c0) := B_p0.out.cell 0
  have hk_p1 : w14.cell? ⟨W.heap.size + 1, 0, none⟩ = some (.slice a1 L1.length c1) := B_p1.out.cell 0
  have hk_x0 : w14.cell? ⟨w6.heap.size, 0, none⟩ = some (.slice a_x0 L0.length c_x0) := B_x0.out.cell 0
  have hk_x1 : w14.cell? ⟨w8.heap.size, 0, none⟩ = some (.slice a_x1 L1.length c_x1) := B_x1.out.cell 0
  go_wp2_with fail
  go_ret
  exact ⟨rfl, H00.out.trans (hW.mono H00.out.size)⟩
end Go.Proofs.Ytljfiiohiolbnaa
