/-
  THE WALK OF THE LAW FnFactorizations: at every drawn code both sides agree; every list found is a factorization, of the number's value, no two neighbours alike; as many as are counted, and one at all exactly if the number is an element (written by fn_factor.py of the verifier's own).
-/
import Derived.Test.YtlinlmmcgifloaaDoorRows
import Derived.Test.YtlinlmmcgifloaaDoorDrw18
import Derived.Test.YtlinlmmcgifloaaDoorC11
import Derived.Test.YtlinlmmcgifloaaDoorC11b
import Derived.Test.YtlinlmmcgifloaaDoorC11c
import Derived.Test.YtlinlmmcgifloaaDoorC11d
import Derived.Test.YtlinlmmcgifloaaDoorC3
import Derived.Test.YtlinlmmcgifloaaDoorLw11
import Derived.Test.YtlinlmmcgifloaaDoorCh11M
namespace Go.Proofs.YtlinlmmcgifloaaDoor
open Go Go.RowKit

theorem keepF {W wr w1 : World} {b1 b2 b3 b4 : Nat} {v1 v2 v3 v4 : Value} (h1 : b1 < W.heap.size) (h2 : b2 < W.heap.size) (h3 : b3 < W.heap.size) (h4 : b4 < W.heap.size)
    (h : wr.cell? ⟨b1, 0, none⟩ = some v1 ∧ wr.cell? ⟨b2, 0, none⟩ = some v2 ∧ wr.cell? ⟨b3, 0, none⟩ = some v3 ∧ wr.cell? ⟨b4, 0, none⟩ = some v4 ∧ Below W.heap.size W wr) (hb : Below wr.heap.size wr w1) :
    w1.cell? ⟨b1, 0, none⟩ = some v1 ∧ w1.cell? ⟨b2, 0, none⟩ = some v2 ∧ w1.cell? ⟨b3, 0, none⟩ = some v3 ∧ w1.cell? ⟨b4, 0, none⟩ = some v4 ∧ Below W.heap.size W w1 := by
  obtain ⟨e1, e2, e3, e4, hB⟩ := h
  have hs := hB.size
  exact ⟨(hb.cell (p := ⟨b1, 0, none⟩) (Nat.lt_of_lt_of_le h1 hs)).trans e1, (hb.cell (p := ⟨b2, 0, none⟩) (Nat.lt_of_lt_of_le h2 hs)).trans e2, (hb.cell (p := ⟨b3, 0, none⟩) (Nat.lt_of_lt_of_le h3 hs)).trans e3, (hb.cell (p := ⟨b4, 0, none⟩) (Nat.lt_of_lt_of_le h4 hs)).trans e4, hB.trans (hb.mono hs)⟩
theorem keep93 {W wr w1 : World} {b1 b2 b3 o2 o3 : Nat} {v1 v2 v3 : Value} (h1 : b1 < W.heap.size) (h2 : b2 < W.heap.size) (h3 : b3 < W.heap.size)
    (h : wr.cell? ⟨b1, 0, none⟩ = some v1 ∧ wr.cell? ⟨b2, o2, none⟩ = some v2 ∧ wr.cell? ⟨b3, o3, none⟩ = some v3 ∧ Below W.heap.size W wr) (hb : Below wr.heap.size wr w1) : w1.cell? ⟨b1, 0, none⟩ = some v1 ∧ w1.cell? ⟨b2, o2, none⟩ = some v2 ∧ w1.cell? ⟨b3, o3, none⟩ = some v3 ∧ Below W.heap.size W w1 := by
  obtain ⟨e1, e2, e3, hB⟩ := h
  have hs := hB.size
  exact ⟨(hb.cell (p := ⟨b1, 0, none⟩) (Nat.lt_of_lt_of_le h1 hs)).trans e1, (hb.cell (p := ⟨b2, o2, none⟩) (Nat.lt_of_lt_of_le h2 hs)).trans e2, (hb.cell (p := ⟨b3, o3, none⟩) (Nat.lt_of_lt_of_le h3 hs)).trans e3, hB.trans (hb.mono hs)⟩
set_option maxRecDepth 100000 in
set_option maxHeartbeats 12800000 in
theorem fnFactorizations_small (p0 : Option Addr) (len0 cap0 : Nat) (z0 : List Int) (W : World) (r0 : IsRow .u8 W p0 len0 cap0 z0) (hl : len0 ≤ 1048576) (hv : EnvFmt W) :
    Calls Tryd.prog 3 #[.slice p0 len0 cap0] W fun e w' => e = .returned (.bool true) ∧ Below W.heap.size W w' := by
  have HR := Lib.hid r0
  have HV := Lib.hid hv
  clear r0 hv
  have hW : Below W.heap.size W W := Below.refl _ _
  go_enter Tryd.func3, Tryd.ntmps3
  have c := big_b p0 len0 cap0 W (by unfold maxLen; omega)
  rw [decide_eq_false (show ¬ 1048576 < len0 by omega)] at c
  go_wp2_with fail
  refine c.mono ?_
  rintro e w1 ⟨rfl, hb⟩
  clear c
  have z1 := hb.size
  replace hW := hW.trans (hb.mono hW.size)
  clear hb
  have c := DrawFactorizations_any w1 p0 len0 cap0 z0 (HR.out.below hW) hl
  go_wp2_with fail
  refine c.mono ?_
  rintro e w2 ⟨Ls, a_s, c_s, n, hl_s, hB_s, hn64, rfl, hs, hb⟩
  clear c
  have z2 := hb.size
  replace hW := hW.trans (hb.mono hW.size)
  have S_s := Lib.hid hs
  clear hs hb hB_s
  obtain ⟨w3, hwb⟩ : ∃ wb, wb = w2.alloc (.cells #[.slice a_s Ls.length c_s] 26) := ⟨_, rfl⟩
  have hb : Below w2.heap.size w2 w3 := by rw [hwb]; exact box_below _ _
  have hA : Arr w3 w2.heap.size 26 [.slice a_s Ls.length c_s] := by rw [hwb]; exact Arr.new _ _ _
  replace S_s := Lib.hid (S_s.out.below hb)
  have z3 := hb.size
  replace hW := hW.trans (hb.mono hW.size)
  have y3 : w2.heap.size < w3.heap.size := hA.lt
  have B_bs := Lib.hid hA
  have H_w3 := Lib.hid hwb
  clear hwb hb hA
  have hfl := factL_len Ls n
  have HFW := Lib.hid (factL_width20 Ls n)
  have c := ci_Factorizations Ls a_s c_s n w3 S_s.out (by omega) hn64.1 hn64.2
  have hk_bs : w3.cell? ⟨w2.heap.size, 0, none⟩ = some (.slice a_s Ls.length c_s) := B_bs.out.cell 0
  rw [H_w3.out] at hk_bs
  go_wp2_with fail
  rw [← H_w3.out]
  refine c.mono ?_
  intro e w4 hp
  obtain ⟨a_r, c_r, vs_r, rfl, -, rX, hb⟩ := hp.opened
  clear c hp
  clear hk_bs
  replace S_s := Lib.hid (S_s.out.below hb)
  replace B_bs := Lib.hid (B_bs.out.below hb)
  have z4 := hb.size
  replace hW := hW.trans (hb.mono hW.size)
  have R_r := Lib.hid rX
  clear rX hb
  have c := DrawCountFactorizations_any w4 p0 len0 cap0 z0 (HR.out.below hW) hl
  have hk_bs : w4.cell? ⟨w2.heap.size, 0, none⟩ = some (.slice a_s Ls.length c_s) := B_bs.out.cell 0
  go_wp2_with fail
  refine c.mono ?_
  rintro e w5 ⟨La, a_a, c_a, k0, hl_a, hB_a, hk64, rfl, hs, hb⟩
  clear c
  clear hk_bs
  replace S_s := Lib.hid (S_s.out.below hb)
  replace B_bs := Lib.hid (B_bs.out.below hb)
  replace R_r := Lib.hid (R_r.out.below hb)
  have z5 := hb.size
  replace hW := hW.trans (hb.mono hW.size)
  have S_a := Lib.hid hs
  clear hs hb hB_a
  obtain ⟨w6, hwb⟩ : ∃ wb, wb = w5.alloc (.cells #[.slice a_a La.length c_a] 26) := ⟨_, rfl⟩
  have hb : Below w5.heap.size w5 w6 := by rw [hwb]; exact box_below _ _
  have hA : Arr w6 w5.heap.size 26 [.slice a_a La.length c_a] := by rw [hwb]; exact Arr.new _ _ _
  replace S_s := Lib.hid (S_s.out.below hb)
  replace B_bs := Lib.hid (B_bs.out.below hb)
  replace R_r := Lib.hid (R_r.out.below hb)
  replace S_a := Lib.hid (S_a.out.below hb)
  have z6 := hb.size
  replace hW := hW.trans (hb.mono hW.size)
  have y6 : w5.heap.size < w6.heap.size := hA.lt
  have B_ba := Lib.hid hA
  have H_w6 := Lib.hid hwb
  clear hwb hb hA
  have c := DrawIsFactorization_any w6 p0 len0 cap0 z0 (HR.out.below hW) hl
  have hk_bs : w6.cell? ⟨w2.heap.size, 0, none⟩ = some (.slice a_s Ls.length c_s) := B_bs.out.cell 0
  have hk_ba : w6.cell? ⟨w5.heap.size, 0, none⟩ = some (.slice a_a La.length c_a) := B_ba.out.cell 0
  rw [H_w6.out] at hk_bs hk_ba
  go_wp2_with fail
  rw [← H_w6.out]
  refine c.mono ?_
  rintro e w7 ⟨Lb, a_b, c_b, m, Ll, v, hl_b, hB_b, hm64, hl_l, hB_l, rfl, hs, -, ho, hb⟩
  clear c
  clear hk_bs hk_ba
  obtain ⟨a_l, c_l, rfl, rX⟩ := row_open ho
  clear ho
  replace S_s := Lib.hid (S_s.out.below hb)
  replace B_bs := Lib.hid (B_bs.out.below hb)
  replace R_r := Lib.hid (R_r.out.below hb)
  replace S_a := Lib.hid (S_a.out.below hb)
  replace B_ba := Lib.hid (B_ba.out.below hb)
  have z7 := hb.size
  replace hW := hW.trans (hb.mono hW.size)
  have S_b := Lib.hid hs
  have R_l := Lib.hid rX
  clear hs hb hB_b hB_l rX
  obtain ⟨w8, hwb⟩ : ∃ wb, wb = w7.alloc (.cells #[.slice a_b Lb.length c_b] 26) := ⟨_, rfl⟩
  have hb : Below w7.heap.size w7 w8 := by rw [hwb]; exact box_below _ _
  have hA : Arr w8 w7.heap.size 26 [.slice a_b Lb.length c_b] := by rw [hwb]; exact Arr.new _ _ _
  replace S_s := Lib.hid (S_s.out.below hb)
  replace B_bs := Lib.hid (B_bs.out.below hb)
  replace R_r := Lib.hid (R_r.out.below hb)
  replace S_a := Lib.hid (S_a.out.below hb)
  replace B_ba := Lib.hid (B_ba.out.below hb)
  replace S_b := Lib.hid (S_b.out.below hb)
  replace R_l := Lib.hid (R_l.out.below hb)
  have z8 := hb.size
  replace hW := hW.trans (hb.mono hW.size)
  have y8 : w7.heap.size < w8.heap.size := hA.lt
  have B_bb := Lib.hid hA
  have H_w8 := Lib.hid hwb
  clear hwb hb hA
  have c := DrawValueOf_any w8 p0 len0 cap0 z0 (HR.out.below hW) hl
  have hk_bs : w8.cell? ⟨w2.heap.size, 0, none⟩ = some (.slice a_s Ls.length c_s) := B_bs.out.cell 0
  have hk_ba : w8.cell? ⟨w5.heap.size, 0, none⟩ = some (.slice a_a La.length c_a) := B_ba.out.cell 0
  have hk_bb : w8.cell? ⟨w7.heap.size, 0, none⟩ = some (.slice a_b Lb.length c_b) := B_bb.out.cell 0
  rw [H_w8.out] at hk_bs hk_ba hk_bb
  go_wp2_with fail
  rw [← H_w8.out]
  refine c.mono ?_
  rintro e w9 ⟨Lc, a_c, c_c, Lw, v, hl_c, hB_c, hl_w, hB_w, rfl, hs, ho, hb⟩
  clear c
  clear hk_bs hk_ba hk_bb
  obtain ⟨a_w, c_w, rfl, rX⟩ := row_open ho
  clear ho
  replace S_s := Lib.hid (S_s.out.below hb)
  replace B_bs := Lib.hid (B_bs.out.below hb)
  replace R_r := Lib.hid (R_r.out.below hb)
  replace S_a := Lib.hid (S_a.out.below hb)
  replace B_ba := Lib.hid (B_ba.out.below hb)
  replace S_b := Lib.hid (S_b.out.below hb)
  replace R_l := Lib.hid (R_l.out.below hb)
  replace B_bb := Lib.hid (B_bb.out.below hb)
  have z9 := hb.size
  replace hW := hW.trans (hb.mono hW.size)
  have S_c := Lib.hid hs
  have R_w := Lib.hid rX
  clear hs hb hB_c hB_w rX HR hl
  obtain ⟨w10, hwb⟩ : ∃ wb, wb = w9.alloc (.cells #[.slice a_c Lc.length c_c] 26) := ⟨_, rfl⟩
  have hb : Below w9.heap.size w9 w10 := by rw [hwb]; exact box_below _ _
  have hA : Arr w10 w9.heap.size 26 [.slice a_c Lc.length c_c] := by rw [hwb]; exact Arr.new _ _ _
  replace S_s := Lib.hid (S_s.out.below hb)
  replace B_bs := Lib.hid (B_bs.out.below hb)
  replace R_r := Lib.hid (R_r.out.below hb)
  replace S_a := Lib.hid (S_a.out.below hb)
  replace B_ba := Lib.hid (B_ba.out.below hb)
  replace S_b := Lib.hid (S_b.out.below hb)
  replace R_l := Lib.hid (R_l.out.below hb)
  replace B_bb := Lib.hid (B_bb.out.below hb)
  replace S_c := Lib.hid (S_c.out.below hb)
  replace R_w := Lib.hid (R_w.out.below hb)
  have z10 := hb.size
  replace hW := hW.trans (hb.mono hW.size)
  have y10 : w9.heap.size < w10.heap.size := hA.lt
  have B_bc := Lib.hid hA
  have H_w10 := Lib.hid hwb
  clear hwb hb hA
  have hl_bs : w2.heap.size < w10.heap.size := B_bs.out.lt
  have hl_ba : w5.heap.size < w10.heap.size := B_ba.out.lt
  have hl_bb : w7.heap.size < w10.heap.size := B_bb.out.lt
  have hl_bc : w9.heap.size < w10.heap.size := B_bc.out.lt
  have hS0 : Hid (w10.drew.cell? ⟨w2.heap.size, 0, none⟩ = some (.slice a_s Ls.length c_s) ∧ w10.drew.cell? ⟨w5.heap.size, 0, none⟩ = some (.slice a_a La.length c_a) ∧ w10.drew.cell? ⟨w7.heap.size, 0, none⟩ = some (.slice a_b Lb.length c_b) ∧ w10.drew.cell? ⟨w9.heap.size, 0, none⟩ = some (.slice a_c Lc.length c_c) ∧ Below w10.heap.size w10 w10.drew) := Lib.hid ⟨B_bs.out.cell 0, B_ba.out.cell 0, B_bb.out.cell 0, B_bc.out.cell 0, (Below.refl _ _).drew⟩
  have fr : ∀ w', (w'.cell? ⟨w2.heap.size, 0, none⟩ = some (.slice a_s Ls.length c_s) ∧ w'.cell? ⟨w5.heap.size, 0, none⟩ = some (.slice a_a La.length c_a) ∧ w'.cell? ⟨w7.heap.size, 0, none⟩ = some (.slice a_b Lb.length c_b) ∧ w'.cell? ⟨w9.heap.size, 0, none⟩ = some (.slice a_c Lc.length c_c) ∧ Below w10.heap.size w10 w') → Below w10.heap.size w10 w' := fun w' h => h.2.2.2.2
  have k1ci : ∀ w', (w'.cell? ⟨w2.heap.size, 0, none⟩ = some (.slice a_s Ls.length c_s) ∧ w'.cell? ⟨w5.heap.size, 0, none⟩ = some (.slice a_a La.length c_a) ∧ w'.cell? ⟨w7.heap.size, 0, none⟩ = some (.slice a_b Lb.length c_b) ∧ w'.cell? ⟨w9.heap.size, 0, none⟩ = some (.slice a_c Lc.length c_c) ∧ Below w10.heap.size w10 w') → Calls Tryd.prog 12 #[.agg #[.slice a_a La.length c_a], .int .i64 k0] w' fun e w2 => e = .returned (.int .i64 (countN La k0)) ∧ Below w'.heap.size w' w2 := fun w' h => ci_CountFactorizations La a_a c_a k0 w' (S_a.out.below (fr w' h)) (by omega) hk64.1 hk64.2
  have k1cs : ∀ w', (w'.cell? ⟨w2.heap.size, 0, none⟩ = some (.slice a_s Ls.length c_s) ∧ w'.cell? ⟨w5.heap.size, 0, none⟩ = some (.slice a_a La.length c_a) ∧ w'.cell? ⟨w7.heap.size, 0, none⟩ = some (.slice a_b Lb.length c_b) ∧ w'.cell? ⟨w9.heap.size, 0, none⟩ = some (.slice a_c Lc.length c_c) ∧ Below w10.heap.size w10 w') → Calls Tryd.prog 13 #[.agg #[.slice a_a La.length c_a], .int .i64 k0] w' fun e w2 => e = .returned (.int .i64 (countN La k0)) ∧ Below w'.heap.size w' w2 := fun w' h => cs_CountFactorizations La a_a c_a k0 w' (S_a.out.below (fr w' h)) (by omega) hk64.1 hk64.2
  have k2ci : ∀ w', (w'.cell? ⟨w2.heap.size, 0, none⟩ = some (.slice a_s Ls.length c_s) ∧ w'.cell? ⟨w5.heap.size, 0, none⟩ = some (.slice a_a La.length c_a) ∧ w'.cell? ⟨w7.heap.size, 0, none⟩ = some (.slice a_b Lb.length c_b) ∧ w'.cell? ⟨w9.heap.size, 0, none⟩ = some (.slice a_c Lc.length c_c) ∧ Below w10.heap.size w10 w') → Calls Tryd.prog 14 #[.agg #[.slice a_b Lb.length c_b], .int .i64 m, .slice a_l Ll.length c_l] w' fun e w2 => e = .returned (.bool (isFacB Lb m Ll)) ∧ Below w'.heap.size w' w2 := fun w' h => ci_IsFactorization Lb a_b c_b m Ll a_l c_l w' (S_b.out.below (fr w' h)) (R_l.out.slw.below (fr w' h)) (by omega) (by omega) hm64.1 hm64.2
  have k2cs : ∀ w', (w'.cell? ⟨w2.heap.size, 0, none⟩ = some (.slice a_s Ls.length c_s) ∧ w'.cell? ⟨w5.heap.size, 0, none⟩ = some (.slice a_a La.length c_a) ∧ w'.cell? ⟨w7.heap.size, 0, none⟩ = some (.slice a_b Lb.length c_b) ∧ w'.cell? ⟨w9.heap.size, 0, none⟩ = some (.slice a_c Lc.length c_c) ∧ Below w10.heap.size w10 w') → Calls Tryd.prog 15 #[.agg #[.slice a_b Lb.length c_b], .int .i64 m, .slice a_l Ll.length c_l] w' fun e w2 => e = .returned (.bool (isFacB Lb m Ll)) ∧ Below w'.heap.size w' w2 := fun w' h => cs_IsFactorization Lb a_b c_b m Ll a_l c_l w' (S_b.out.below (fr w' h)) (R_l.out.slw.below (fr w' h)) (by omega) (by omega) hm64.1 hm64.2
  have k3ci : ∀ w', (w'.cell? ⟨w2.heap.size, 0, none⟩ = some (.slice a_s Ls.length c_s) ∧ w'.cell? ⟨w5.heap.size, 0, none⟩ = some (.slice a_a La.length c_a) ∧ w'.cell? ⟨w7.heap.size, 0, none⟩ = some (.slice a_b Lb.length c_b) ∧ w'.cell? ⟨w9.heap.size, 0, none⟩ = some (.slice a_c Lc.length c_c) ∧ Below w10.heap.size w10 w') → Calls Tryd.prog 16 #[.agg #[.slice a_c Lc.length c_c], .slice a_w Lw.length c_w] w' fun e w2 => e = .returned (.int .i64 (valueN Lc Lw)) ∧ Below w'.heap.size w' w2 := fun w' h => ci_ValueOf Lc a_c c_c Lw a_w c_w w' (S_c.out.below (fr w' h)) (R_w.out.slw.below (fr w' h)) (by omega) (by omega)
  have k3cs : ∀ w', (w'.cell? ⟨w2.heap.size, 0, none⟩ = some (.slice a_s Ls.length c_s) ∧ w'.cell? ⟨w5.heap.size, 0, none⟩ = some (.slice a_a La.length c_a) ∧ w'.cell? ⟨w7.heap.size, 0, none⟩ = some (.slice a_b Lb.length c_b) ∧ w'.cell? ⟨w9.heap.size, 0, none⟩ = some (.slice a_c Lc.length c_c) ∧ Below w10.heap.size w10 w') → Calls Tryd.prog 17 #[.agg #[.slice a_c Lc.length c_c], .slice a_w Lw.length c_w] w' fun e w2 => e = .returned (.int .i64 (valueN Lc Lw)) ∧ Below w'.heap.size w' w2 := fun w' h => cs_ValueOf Lc a_c c_c Lw a_w c_w w' (S_c.out.below (fr w' h)) (R_w.out.slw.below (fr w' h)) (by omega) (by omega)
  have k4ci : ∀ w', (w'.cell? ⟨w2.heap.size, 0, none⟩ = some (.slice a_s Ls.length c_s) ∧ w'.cell? ⟨w5.heap.size, 0, none⟩ = some (.slice a_a La.length c_a) ∧ w'.cell? ⟨w7.heap.size, 0, none⟩ = some (.slice a_b Lb.length c_b) ∧ w'.cell? ⟨w9.heap.size, 0, none⟩ = some (.slice a_c Lc.length c_c) ∧ Below w10.heap.size w10 w') → Calls Tryd.prog 18 #[.agg #[.slice a_c Lc.length c_c], .slice a_w Lw.length c_w] w' fun e w2 => e = .returned (.string (factText Lc Lw)) ∧ Below w'.heap.size w' w2 := fun w' h => ci_FactorText Lc a_c c_c Lw a_w c_w w' (S_c.out.below (fr w' h)) (R_w.out.slw.below (fr w' h)) (by omega) (by omega) (HV.out.below (hW.trans ((fr w' h).mono hW.size)))
  have k4cs : ∀ w', (w'.cell? ⟨w2.heap.size, 0, none⟩ = some (.slice a_s Ls.length c_s) ∧ w'.cell? ⟨w5.heap.size, 0, none⟩ = some (.slice a_a La.length c_a) ∧ w'.cell? ⟨w7.heap.size, 0, none⟩ = some (.slice a_b Lb.length c_b) ∧ w'.cell? ⟨w9.heap.size, 0, none⟩ = some (.slice a_c Lc.length c_c) ∧ Below w10.heap.size w10 w') → Calls Tryd.prog 19 #[.agg #[.slice a_c Lc.length c_c], .slice a_w Lw.length c_w] w' fun e w2 => e = .returned (.string (factText Lc Lw)) ∧ Below w'.heap.size w' w2 := fun w' h => cs_FactorText Lc a_c c_c Lw a_w c_w w' (S_c.out.below (fr w' h)) (R_w.out.slw.below (fr w' h)) (by omega) (by omega)
  generalize countN La k0 = q1 at *
  generalize isFacB Lb m Ll = q2 at *
  generalize valueN Lc Lw = q3 at *
  generalize factText Lc Lw = q4 at *
  have hdq1 : (q1 != q1) = false := by simp
  have hdq2 : (q2 != q2) = false := by simp
  have hdq3 : (q3 != q3) = false := by simp
  have hdq4 : (q4.toList == q4.toList) = true := by simp
  have hdq5 : (!(q4.toList == q4.toList)) = false := by simp
  have hk_bs : w10.cell? ⟨w2.heap.size, 0, none⟩ = some (.slice a_s Ls.length c_s) := B_bs.out.cell 0
  have hk_ba : w10.cell? ⟨w5.heap.size, 0, none⟩ = some (.slice a_a La.length c_a) := B_ba.out.cell 0
  have hk_bb : w10.cell? ⟨w7.heap.size, 0, none⟩ = some (.slice a_b Lb.length c_b) := B_bb.out.cell 0
  have hk_bc : w10.cell? ⟨w9.heap.size, 0, none⟩ = some (.slice a_c Lc.length c_c) := B_bc.out.cell 0
  rw [H_w10.out] at hk_bs hk_ba hk_bb hk_bc
  go_wp2_with fail
  rw [← H_w10.out]
  clear hk_bs hk_ba hk_bb hk_bc
  refine wp_region_held_drew (S := fun w' => w'.cell? ⟨w2.heap.size, 0, none⟩ = some (.slice a_s Ls.length c_s) ∧ w'.cell? ⟨w5.heap.size, 0, none⟩ = some (.slice a_a La.length c_a) ∧ w'.cell? ⟨w7.heap.size, 0, none⟩ = some (.slice a_b Lb.length c_b) ∧ w'.cell? ⟨w9.heap.size, 0, none⟩ = some (.slice a_c Lc.length c_c) ∧ Below w10.heap.size w10 w') (by kernel_rfl) hS0.out (fun hHeld => ?_)
  refine held_take 0 _ _ rfl (by kernel_rfl) (by kernel_rfl) (by kernel_rfl) (fun _ _ _ h => h) (by rfl) hHeld (fun w hSw => by (try dsimp only at hSw); go_simp; try with_reducible rfl) ?_
  (try simp only [Act.put, List.setIfInBounds_toArray, List.set_cons_zero, List.set_cons_succ, List.getElem_toArray, List.getElem_cons_zero])
  refine held_take 1 _ _ rfl (by kernel_rfl) (by kernel_rfl) (by kernel_rfl) (fun _ _ _ h => h) (by rfl) hHeld (fun w hSw => by (try dsimp only at hSw); go_simp; try with_reducible rfl) ?_
  (try simp only [Act.put, List.setIfInBounds_toArray, List.set_cons_zero, List.set_cons_succ, List.getElem_toArray, List.getElem_cons_succ, List.getElem_cons_zero])
  refine held_take 2 _ _ rfl (by kernel_rfl) (by kernel_rfl) (by kernel_rfl) (fun _ _ _ h => h) (by rfl) hHeld (fun w hSw => by (try dsimp only at hSw); go_simp; try with_reducible rfl) ?_
  (try simp only [Act.put, List.setIfInBounds_toArray, List.set_cons_zero, List.set_cons_succ, List.getElem_toArray, List.getElem_cons_succ, List.getElem_cons_zero])
  refine wpAnyH_ready (rs := [3]) (by kernel_rfl) (by simp) ?_
  refine AllReadyH.cons rfl (fun K hK => ?_) AllReadyH.nil
  rw [if_pos (by rfl)]
  go_wp2_with (first | (go_at_call 11; have c := cs_Factorizations Ls a_s c_s n _ (S_s.out.below (fr _ hHeld)) (by omega) hn64.1 hn64.2; (with_reducible refine c.mono ?_); intro e wk hp; obtain ⟨a_q, c_q, vs_q, rfl, -, rX, hbk⟩ := hp.opened; have Q := rX.sl2n; clear rX c hp))
  refine hK.out _ _ (keepF hl_bs hl_ba hl_bb hl_bc hHeld hbk) (fun hHeld1 => ?_)
  clear hK K
  (try simp only [Act.put, List.setIfInBounds_toArray, List.set_cons_zero, List.set_cons_succ, List.getElem_toArray, List.getElem_cons_succ, List.getElem_cons_zero])
  refine wpAnyH_ready (rs := [4]) (by kernel_rfl) (by simp) ?_
  refine AllReadyH.cons rfl (fun K hK => ?_) AllReadyH.nil
  rw [if_pos (by rfl)]
  go_wp2_with (first | (go_at_call 10; have c := sameLists_any (factL Ls n) a_r a_q c_r c_q _ (R_r.out.sl2n.below (fr _ hHeld1)) Q (by omega) HFW.out; (with_reducible refine c.mono ?_); rintro e wk ⟨rfl, hbk⟩; clear c))
  refine hK.out _ _ (keepF hl_bs hl_ba hl_bb hl_bc hHeld1 hbk) (fun hHeld2 => ?_)
  clear hK K
  (try simp only [Act.put, List.setIfInBounds_toArray, List.set_cons_zero, List.set_cons_succ, List.getElem_toArray, List.getElem_cons_succ, List.getElem_cons_zero])
  refine held_take 5 _ _ rfl (by kernel_rfl) (by kernel_rfl) (by kernel_rfl) (fun _ _ _ h => h) (by rfl) hHeld2 (fun w hSw => by (try dsimp only at hSw); go_simp; try with_reducible rfl) ?_
  (try simp only [Act.put, List.setIfInBounds_toArray, List.set_cons_zero, List.set_cons_succ, List.getElem_toArray, List.getElem_cons_succ, List.getElem_cons_zero])
  refine held_take 6 _ _ rfl (by kernel_rfl) (by kernel_rfl) (by kernel_rfl) (fun _ _ _ h => h) (by rfl) hHeld2 (fun w hSw => by (try dsimp only at hSw); go_simp; try with_reducible rfl) ?_
  (try simp only [Act.put, List.setIfInBounds_toArray, List.set_cons_zero, List.set_cons_succ, List.getElem_toArray, List.getElem_cons_succ, List.getElem_cons_zero])
  refine held_take 7 _ _ rfl (by kernel_rfl) (by kernel_rfl) (by kernel_rfl) (fun _ _ _ h => h) (by rfl) hHeld2 (fun w hSw => by (try dsimp only at hSw); go_simp; try with_reducible rfl) ?_
  (try simp only [Act.put, List.setIfInBounds_toArray, List.set_cons_zero, List.set_cons_succ, List.getElem_toArray, List.getElem_cons_succ, List.getElem_cons_zero])
  refine held_take 8 _ _ rfl (by kernel_rfl) (by kernel_rfl) (by kernel_rfl) (fun _ _ _ h => h) (by rfl) hHeld2 (fun w hSw => by (try dsimp only at hSw); go_simp; try with_reducible rfl) ?_
  (try simp only [Act.put, List.setIfInBounds_toArray, List.set_cons_zero, List.set_cons_succ, List.getElem_toArray, List.getElem_cons_succ, List.getElem_cons_zero])
  refine held_take 10 _ _ rfl (by kernel_rfl) (by kernel_rfl) (by kernel_rfl) (fun _ _ _ h => h) (by rfl) hHeld2 (fun w hSw => by (try dsimp only at hSw); go_simp; try with_reducible rfl) ?_
  (try simp only [Act.put, List.setIfInBounds_toArray, List.set_cons_zero, List.set_cons_succ, List.getElem_toArray, List.getElem_cons_succ, List.getElem_cons_zero])
  refine held_take 11 _ _ rfl (by kernel_rfl) (by kernel_rfl) (by kernel_rfl) (fun _ _ _ h => h) (by rfl) hHeld2 (fun w hSw => by (try dsimp only at hSw); go_simp; try with_reducible rfl) ?_
  (try simp only [Act.put, List.setIfInBounds_toArray, List.set_cons_zero, List.set_cons_succ, List.getElem_toArray, List.getElem_cons_succ, List.getElem_cons_zero])
  refine wpAnyH_ready (rs := [9]) (by kernel_rfl) (by simp) ?_
  refine AllReadyH.cons rfl (fun K hK => ?_) AllReadyH.nil
  rw [if_pos (by rfl)]
  go_wp2_with (first | (go_at_call 12; (with_reducible refine (k1ci _ hHeld2).mono ?_); rintro e wk ⟨rfl, hbk⟩))
  refine hK.out _ _ (keepF hl_bs hl_ba hl_bb hl_bc hHeld2 hbk) (fun hHeld3 => ?_)
  clear hK K
  (try simp only [Act.put, List.setIfInBounds_toArray, List.set_cons_zero, List.set_cons_succ, List.getElem_toArray, List.getElem_cons_succ, List.getElem_cons_zero])
  refine wpAnyH_ready (rs := [12]) (by kernel_rfl) (by simp) ?_
  refine AllReadyH.cons rfl (fun K hK => ?_) AllReadyH.nil
  rw [if_pos (by rfl)]
  go_wp2_with (first | (go_at_call 13; (with_reducible refine (k1cs _ hHeld3).mono ?_); rintro e wk ⟨rfl, hbk⟩))
  refine hK.out _ _ (keepF hl_bs hl_ba hl_bb hl_bc hHeld3 hbk) (fun hHeld4 => ?_)
  clear hK K
  (try simp only [Act.put, List.setIfInBounds_toArray, List.set_cons_zero, List.set_cons_succ, List.getElem_toArray, List.getElem_cons_succ, List.getElem_cons_zero])
  refine held_take 13 _ _ rfl (by kernel_rfl) (by kernel_rfl) (by kernel_rfl) (fun _ _ _ h => h) (by rfl) hHeld4 (fun w hSw => by (try dsimp only at hSw); go_simp; try with_reducible rfl) ?_
  (try simp only [Act.put, List.setIfInBounds_toArray, List.set_cons_zero, List.set_cons_succ, List.getElem_toArray, List.getElem_cons_succ, List.getElem_cons_zero])
  refine held_take 14 _ _ rfl (by kernel_rfl) (by kernel_rfl) (by kernel_rfl) (fun _ _ _ h => h) (by rfl) hHeld4 (fun w hSw => by (try dsimp only at hSw); go_simp; try with_reducible rfl) ?_
  (try simp only [Act.put, List.setIfInBounds_toArray, List.set_cons_zero, List.set_cons_succ, List.getElem_toArray, List.getElem_cons_succ, List.getElem_cons_zero])
  refine held_take 15 _ _ rfl (by kernel_rfl) (by kernel_rfl) (by kernel_rfl) (fun _ _ _ h => h) (by rfl) hHeld4 (fun w hSw => by (try dsimp only at hSw); go_simp; try with_reducible rfl) ?_
  (try simp only [Act.put, List.setIfInBounds_toArray, List.set_cons_zero, List.set_cons_succ, List.getElem_toArray, List.getElem_cons_succ, List.getElem_cons_zero])
  refine held_take 16 _ _ rfl (by kernel_rfl) (by kernel_rfl) (by kernel_rfl) (fun _ _ _ h => h) (by rfl) hHeld4 (fun w hSw => by (try dsimp only at hSw); go_simp; try with_reducible rfl) ?_
  (try simp only [Act.put, List.setIfInBounds_toArray, List.set_cons_zero, List.set_cons_succ, List.getElem_toArray, List.getElem_cons_succ, List.getElem_cons_zero])
  refine held_take 17 _ _ rfl (by kernel_rfl) (by kernel_rfl) (by kernel_rfl) (fun _ _ _ h => h) (by rfl) hHeld4 (fun w hSw => by (try dsimp only at hSw); go_simp; try with_reducible rfl) ?_
  (try simp only [Act.put, List.setIfInBounds_toArray, List.set_cons_zero, List.set_cons_succ, List.getElem_toArray, List.getElem_cons_succ, List.getElem_cons_zero])
  refine held_take 18 _ _ rfl (by kernel_rfl) (by kernel_rfl) (by kernel_rfl) (fun _ _ _ h => h) (by rfl) hHeld4 (fun w hSw => by (try dsimp only at hSw); go_simp; try with_reducible rfl) ?_
  (try simp only [Act.put, List.setIfInBounds_toArray, List.set_cons_zero, List.set_cons_succ, List.getElem_toArray, List.getElem_cons_succ, List.getElem_cons_zero])
  refine held_take 20 _ _ rfl (by kernel_rfl) (by kernel_rfl) (by kernel_rfl) (fun _ _ _ h => h) (by rfl) hHeld4 (fun w hSw => by (try dsimp only at hSw); go_simp; try with_reducible rfl) ?_
  (try simp only [Act.put, List.setIfInBounds_toArray, List.set_cons_zero, List.set_cons_succ, List.getElem_toArray, List.getElem_cons_succ, List.getElem_cons_zero])
  refine held_take 21 _ _ rfl (by kernel_rfl) (by kernel_rfl) (by kernel_rfl) (fun _ _ _ h => h) (by rfl) hHeld4 (fun w hSw => by (try dsimp only at hSw); go_simp; try with_reducible rfl) ?_
  (try simp only [Act.put, List.setIfInBounds_toArray, List.set_cons_zero, List.set_cons_succ, List.getElem_toArray, List.getElem_cons_succ, List.getElem_cons_zero])
  refine held_take 22 _ _ rfl (by kernel_rfl) (by kernel_rfl) (by kernel_rfl) (fun _ _ _ h => h) (by rfl) hHeld4 (fun w hSw => by (try dsimp only at hSw); go_simp; try with_reducible rfl) ?_
  (try simp only [Act.put, List.setIfInBounds_toArray, List.set_cons_zero, List.set_cons_succ, List.getElem_toArray, List.getElem_cons_succ, List.getElem_cons_zero])
  refine wpAnyH_ready (rs := [19]) (by kernel_rfl) (by simp) ?_
  refine AllReadyH.cons rfl (fun K hK => ?_) AllReadyH.nil
  rw [if_pos (by rfl)]
  go_wp2_with (first | (go_at_call 14; (with_reducible refine (k2ci _ hHeld4).mono ?_); rintro e wk ⟨rfl, hbk⟩))
  refine hK.out _ _ (keepF hl_bs hl_ba hl_bb hl_bc hHeld4 hbk) (fun hHeld5 => ?_)
  clear hK K
  (try simp only [Act.put, List.setIfInBounds_toArray, List.set_cons_zero, List.set_cons_succ, List.getElem_toArray, List.getElem_cons_succ, List.getElem_cons_zero])
  refine wpAnyH_ready (rs := [23]) (by kernel_rfl) (by simp) ?_
  refine AllReadyH.cons rfl (fun K hK => ?_) AllReadyH.nil
  rw [if_pos (by rfl)]
  go_wp2_with (first | (go_at_call 15; (with_reducible refine (k2cs _ hHeld5).mono ?_); rintro e wk ⟨rfl, hbk⟩))
  refine hK.out _ _ (keepF hl_bs hl_ba hl_bb hl_bc hHeld5 hbk) (fun hHeld6 => ?_)
  clear hK K
  (try simp only [Act.put, List.setIfInBounds_toArray, List.set_cons_zero, List.set_cons_succ, List.getElem_toArray, List.getElem_cons_succ, List.getElem_cons_zero])
  refine held_take 24 _ _ rfl (by kernel_rfl) (by kernel_rfl) (by kernel_rfl) (fun _ _ _ h => h) (by rfl) hHeld6 (fun w hSw => by (try dsimp only at hSw); go_simp; try with_reducible rfl) ?_
  (try simp only [Act.put, List.setIfInBounds_toArray, List.set_cons_zero, List.set_cons_succ, List.getElem_toArray, List.getElem_cons_succ, List.getElem_cons_zero])
  refine held_take 25 _ _ rfl (by kernel_rfl) (by kernel_rfl) (by kernel_rfl) (fun _ _ _ h => h) (by rfl) hHeld6 (fun w hSw => by (try dsimp only at hSw); go_simp; try with_reducible rfl) ?_
  (try simp only [Act.put, List.setIfInBounds_toArray, List.set_cons_zero, List.set_cons_succ, List.getElem_toArray, List.getElem_cons_succ, List.getElem_cons_zero])
  refine held_take 26 _ _ rfl (by kernel_rfl) (by kernel_rfl) (by kernel_rfl) (fun _ _ _ h => h) (by rfl) hHeld6 (fun w hSw => by (try dsimp only at hSw); go_simp; try with_reducible rfl) ?_
  (try simp only [Act.put, List.setIfInBounds_toArray, List.set_cons_zero, List.set_cons_succ, List.getElem_toArray, List.getElem_cons_succ, List.getElem_cons_zero])
  refine held_take 27 _ _ rfl (by kernel_rfl) (by kernel_rfl) (by kernel_rfl) (fun _ _ _ h => h) (by rfl) hHeld6 (fun w hSw => by (try dsimp only at hSw); go_simp; try with_reducible rfl) ?_
  (try simp only [Act.put, List.setIfInBounds_toArray, List.set_cons_zero, List.set_cons_succ, List.getElem_toArray, List.getElem_cons_succ, List.getElem_cons_zero])
  refine held_take 28 _ _ rfl (by kernel_rfl) (by kernel_rfl) (by kernel_rfl) (fun _ _ _ h => h) (by rfl) hHeld6 (fun w hSw => by (try dsimp only at hSw); go_simp; try with_reducible rfl) ?_
  (try simp only [Act.put, List.setIfInBounds_toArray, List.set_cons_zero, List.set_cons_succ, List.getElem_toArray, List.getElem_cons_succ, List.getElem_cons_zero])
  refine held_take 30 _ _ rfl (by kernel_rfl) (by kernel_rfl) (by kernel_rfl) (fun _ _ _ h => h) (by rfl) hHeld6 (fun w hSw => by (try dsimp only at hSw); go_simp; try with_reducible rfl) ?_
  (try simp only [Act.put, List.setIfInBounds_toArray, List.set_cons_zero, List.set_cons_succ, List.getElem_toArray, List.getElem_cons_succ, List.getElem_cons_zero])
  refine held_take 31 _ _ rfl (by kernel_rfl) (by kernel_rfl) (by kernel_rfl) (fun _ _ _ h => h) (by rfl) hHeld6 (fun w hSw => by (try dsimp only at hSw); go_simp; try with_reducible rfl) ?_
  (try simp only [Act.put, List.setIfInBounds_toArray, List.set_cons_zero, List.set_cons_succ, List.getElem_toArray, List.getElem_cons_succ, List.getElem_cons_zero])
  refine wpAnyH_ready (rs := [29]) (by kernel_rfl) (by simp) ?_
  refine AllReadyH.cons rfl (fun K hK => ?_) AllReadyH.nil
  rw [if_pos (by rfl)]
  go_wp2_with (first | (go_at_call 16; (with_reducible refine (k3ci _ hHeld6).mono ?_); rintro e wk ⟨rfl, hbk⟩))
  refine hK.out _ _ (keepF hl_bs hl_ba hl_bb hl_bc hHeld6 hbk) (fun hHeld7 => ?_)
  clear hK K
  (try simp only [Act.put, List.setIfInBounds_toArray, List.set_cons_zero, List.set_cons_succ, List.getElem_toArray, List.getElem_cons_succ, List.getElem_cons_zero])
  refine wpAnyH_ready (rs := [32]) (by kernel_rfl) (by simp) ?_
  refine AllReadyH.cons rfl (fun K hK => ?_) AllReadyH.nil
  rw [if_pos (by rfl)]
  go_wp2_with (first | (go_at_call 17; (with_reducible refine (k3cs _ hHeld7).mono ?_); rintro e wk ⟨rfl, hbk⟩))
  refine hK.out _ _ (keepF hl_bs hl_ba hl_bb hl_bc hHeld7 hbk) (fun hHeld8 => ?_)
  clear hK K
  (try simp only [Act.put, List.setIfInBounds_toArray, List.set_cons_zero, List.set_cons_succ, List.getElem_toArray, List.getElem_cons_succ, List.getElem_cons_zero])
  refine held_take 33 _ _ rfl (by kernel_rfl) (by kernel_rfl) (by kernel_rfl) (fun _ _ _ h => h) (by rfl) hHeld8 (fun w hSw => by (try dsimp only at hSw); go_simp; try with_reducible rfl) ?_
  (try simp only [Act.put, List.setIfInBounds_toArray, List.set_cons_zero, List.set_cons_succ, List.getElem_toArray, List.getElem_cons_succ, List.getElem_cons_zero])
  refine held_take 34 _ _ rfl (by kernel_rfl) (by kernel_rfl) (by kernel_rfl) (fun _ _ _ h => h) (by rfl) hHeld8 (fun w hSw => by (try dsimp only at hSw); go_simp; try with_reducible rfl) ?_
  (try simp only [Act.put, List.setIfInBounds_toArray, List.set_cons_zero, List.set_cons_succ, List.getElem_toArray, List.getElem_cons_succ, List.getElem_cons_zero])
  refine held_take 35 _ _ rfl (by kernel_rfl) (by kernel_rfl) (by kernel_rfl) (fun _ _ _ h => h) (by rfl) hHeld8 (fun w hSw => by (try dsimp only at hSw); go_simp; try with_reducible rfl) ?_
  (try simp only [Act.put, List.setIfInBounds_toArray, List.set_cons_zero, List.set_cons_succ, List.getElem_toArray, List.getElem_cons_succ, List.getElem_cons_zero])
  refine held_take 36 _ _ rfl (by kernel_rfl) (by kernel_rfl) (by kernel_rfl) (fun _ _ _ h => h) (by rfl) hHeld8 (fun w hSw => by (try dsimp only at hSw); go_simp; try with_reducible rfl) ?_
  (try simp only [Act.put, List.setIfInBounds_toArray, List.set_cons_zero, List.set_cons_succ, List.getElem_toArray, List.getElem_cons_succ, List.getElem_cons_zero])
  refine held_take 37 _ _ rfl (by kernel_rfl) (by kernel_rfl) (by kernel_rfl) (fun _ _ _ h => h) (by rfl) hHeld8 (fun w hSw => by (try dsimp only at hSw); go_simp; try with_reducible rfl) ?_
  (try simp only [Act.put, List.setIfInBounds_toArray, List.set_cons_zero, List.set_cons_succ, List.getElem_toArray, List.getElem_cons_succ, List.getElem_cons_zero])
  refine held_take 39 _ _ rfl (by kernel_rfl) (by kernel_rfl) (by kernel_rfl) (fun _ _ _ h => h) (by rfl) hHeld8 (fun w hSw => by (try dsimp only at hSw); go_simp; try with_reducible rfl) ?_
  (try simp only [Act.put, List.setIfInBounds_toArray, List.set_cons_zero, List.set_cons_succ, List.getElem_toArray, List.getElem_cons_succ, List.getElem_cons_zero])
  refine held_take 40 _ _ rfl (by kernel_rfl) (by kernel_rfl) (by kernel_rfl) (fun _ _ _ h => h) (by rfl) hHeld8 (fun w hSw => by (try dsimp only at hSw); go_simp; try with_reducible rfl) ?_
  (try simp only [Act.put, List.setIfInBounds_toArray, List.set_cons_zero, List.set_cons_succ, List.getElem_toArray, List.getElem_cons_succ, List.getElem_cons_zero])
  refine wpAnyH_ready (rs := [38]) (by kernel_rfl) (by simp) ?_
  refine AllReadyH.cons rfl (fun K hK => ?_) AllReadyH.nil
  rw [if_pos (by rfl)]
  go_wp2_with (first | (go_at_call 18; (with_reducible refine (k4ci _ hHeld8).mono ?_); rintro e wk ⟨rfl, hbk⟩))
  refine hK.out _ _ (keepF hl_bs hl_ba hl_bb hl_bc hHeld8 hbk) (fun hHeld9 => ?_)
  clear hK K
  (try simp only [Act.put, List.setIfInBounds_toArray, List.set_cons_zero, List.set_cons_succ, List.getElem_toArray, List.getElem_cons_succ, List.getElem_cons_zero])
  refine wpAnyH_ready (rs := [41]) (by kernel_rfl) (by simp) ?_
  refine AllReadyH.cons rfl (fun K hK => ?_) AllReadyH.nil
  rw [if_pos (by rfl)]
  go_wp2_with (first | (go_at_call 19; (with_reducible refine (k4cs _ hHeld9).mono ?_); rintro e wk ⟨rfl, hbk⟩))
  refine hK.out _ _ (keepF hl_bs hl_ba hl_bb hl_bc hHeld9 hbk) (fun hHeld10 => ?_)
  clear hK K
  (try simp only [Act.put, List.setIfInBounds_toArray, List.set_cons_zero, List.set_cons_succ, List.getElem_toArray, List.getElem_cons_succ, List.getElem_cons_zero])
  refine held_take 42 _ _ rfl (by kernel_rfl) (by kernel_rfl) (by kernel_rfl) (fun _ _ _ h => h) (by rfl) hHeld10 (fun w hSw => by (try dsimp only at hSw); go_simp; try with_reducible rfl) ?_
  (try simp only [Act.put, List.setIfInBounds_toArray, List.set_cons_zero, List.set_cons_succ, List.getElem_toArray, List.getElem_cons_succ, List.getElem_cons_zero])
  refine held_take 43 _ _ rfl (by kernel_rfl) (by kernel_rfl) (by kernel_rfl) (fun _ _ _ h => h) (by rfl) hHeld10 (fun w hSw => by (try dsimp only at hSw); go_simp; try with_reducible rfl) ?_
  (try simp only [Act.put, List.setIfInBounds_toArray, List.set_cons_zero, List.set_cons_succ, List.getElem_toArray, List.getElem_cons_succ, List.getElem_cons_zero])
  refine wpAnyH_done (by kernel_rfl) ?_ _
  have hB9 := hHeld10.2.2.2.2
  clear hS0 fr hHeld10 Q k1ci k1cs k2ci k2cs k3ci k3cs k4ci k4cs hdq1 hdq2 hdq3 hdq4 hdq5
  rename World => wq
  have hb := hB9
  replace S_s := Lib.hid (S_s.out.below hb)
  replace B_bs := Lib.hid (B_bs.out.below hb)
  replace R_r := Lib.hid (R_r.out.below hb)
  replace S_a := Lib.hid (S_a.out.below hb)
  replace B_ba := Lib.hid (B_ba.out.below hb)
  replace S_b := Lib.hid (S_b.out.below hb)
  replace R_l := Lib.hid (R_l.out.below hb)
  replace B_bb := Lib.hid (B_bb.out.below hb)
  replace S_c := Lib.hid (S_c.out.below hb)
  replace R_w := Lib.hid (R_w.out.below hb)
  replace B_bc := Lib.hid (B_bc.out.below hb)
  have z11 := hb.size
  replace hW := hW.trans (hb.mono hW.size)
  clear hb hB9 S_a S_b S_c R_l R_w
  clear B_ba B_bb B_bc hl_bs hl_ba hl_bb hl_bc HV
  have hWz := hW.size
  have hlbs : w2.heap.size < wq.heap.size := B_bs.out.lt
  have HFA := Lib.hid (fun (L : List Int) (h : L ∈ factL Ls n) => And.intro (fac_law h) (And.intro (fact_dot h) (And.intro (factL_sg h).1 (fact_ent h))))
  have HNE : Hid (∀ (i : Nat) (h1 : i < (factL Ls n).length) (h2 : i + 1 < (factL Ls n).length), (factL Ls n)[i] ≠ (factL Ls n)[i + 1]) := Lib.hid (fun i h1 h2 => near_law h2)
  have HF12 := Lib.hid (factL_width Ls n)
  have HCN := Lib.hid (fun (hs : isSgB Ls = true) (h0 : 0 ≤ n) (h1 : n ≤ 100) => count_law hs h0 h1)
  have HSM := Lib.hid (fun (hs : isSgB Ls = true) (h0 : 0 ≤ n) (h1 : n ≤ 100) => some_law hs h0 h1)
  generalize factL Ls n = F at *
  have HRR := R_r
  clear R_r
  go_wp2_with fail
  go_loopw [13] (fun i wr => ∃ k : Nat, k ≤ F.length ∧ i = .int .i64 (k : Int) ∧ Below wq.heap.size wq wr) (fun i _ => F.length - (intOf i).toNat)
  case atStart => exact ⟨0, Nat.zero_le _, rfl, Below.refl _ _⟩
  case round =>
    obtain ⟨k, hk, rfl, hbel⟩ := hrel
    have hbz := hbel.size
    have hcb : wr.cell? ⟨w2.heap.size, 0, none⟩ = some (.slice a_s Ls.length c_s) := (hbel.cell (p := ⟨w2.heap.size, 0, none⟩) hlbs).trans (B_bs.out.cell 0)
    have hl1 : w2.heap.size < wr.heap.size := Nat.lt_of_lt_of_le hlbs hbz
    have SS := Lib.hid (S_s.out.below hbel)
    by_cases hlt : k < F.length
    · have hlti : (k : Int) < (F.length : Int) := by omega
      have hk0 : (0 : Int) ≤ (k : Int) := by omega
      have hS2 := (HRR.out.below hbel).sl2n
      obtain ⟨bf, of, pf, cf, rfl, hbf, hcf, hsf⟩ := hS2.at hlt
      obtain ⟨hfac, ⟨hdot, hlen⟩, hsg, hent⟩ := HFA.out F[k] (List.getElem_mem hlt)
      have hf12 := HF12.out F[k] (List.getElem_mem hlt)
      have cI := fun w' (h : Below wr.heap.size wr w') => impl_IsFactorization Ls F[k] n a_s c_s pf cf w' (SS.out.below h).sl (hsf.below h) (by omega) (by omega)
      simp only [hfac] at cI
      have cW := fun w' (h : Below wr.heap.size wr w') => worth_any F[k] Ls pf a_s cf c_s w' (hsf.below h) (SS.out.below h).sl hlen hf12 hent (isSgB_iff.1 hsg).bounds
      simp only [hdot] at cW
      have hdn : (n != n) = false := by simp
      have HSF := Lib.hid hsf
      clear hfac hdot hent hsg hS2 hsf hlen
      by_cases hkz : k = 0
      · subst hkz
        rw [Nat.add_zero] at hcf
        generalize F[0].length = mm at *
        have hS0 : wr.drew.cell? ⟨w2.heap.size, 0, none⟩ = some (.slice a_s Ls.length c_s) ∧ wr.drew.cell? ⟨bf, of, none⟩ = some (.slice pf mm cf) ∧ Below wr.heap.size wr wr.drew := ⟨hcb, hcf, (Below.refl _ _).drew⟩
        have hkd : decide ((0 : Int) < ((0 : Nat) : Int)) = false := by decide
        go_wp2_with fail
        refine wp_region_held_drew (S := fun w' => w'.cell? ⟨w2.heap.size, 0, none⟩ = some (.slice a_s Ls.length c_s) ∧ w'.cell? ⟨bf, of, none⟩ = some (.slice pf mm cf) ∧ Below wr.heap.size wr w') (by kernel_rfl) hS0 (fun hHeld => ?_)
        refine held_take 0 _ _ rfl (by kernel_rfl) (by kernel_rfl) (by kernel_rfl) (fun _ _ _ h => h) (by rfl) hHeld (fun w hSw => by (try dsimp only at hSw); go_simp; try with_reducible rfl) ?_
        (try simp only [Act.put, List.setIfInBounds_toArray, List.set_cons_zero, List.set_cons_succ, List.getElem_toArray, List.getElem_cons_zero])
        refine held_take 1 _ _ rfl (by kernel_rfl) (by kernel_rfl) (by kernel_rfl) (fun _ _ _ h => h) (by rfl) hHeld (fun w hSw => by (try dsimp only at hSw); go_simp; try with_reducible rfl) ?_
        (try simp only [Act.put, List.setIfInBounds_toArray, List.set_cons_zero, List.set_cons_succ, List.getElem_toArray, List.getElem_cons_succ, List.getElem_cons_zero])
        refine held_take 2 _ _ rfl (by kernel_rfl) (by kernel_rfl) (by kernel_rfl) (fun _ _ _ h => h) (by rfl) hHeld (fun w hSw => by (try dsimp only at hSw); go_simp; try with_reducible rfl) ?_
        (try simp only [Act.put, List.setIfInBounds_toArray, List.set_cons_zero, List.set_cons_succ, List.getElem_toArray, List.getElem_cons_succ, List.getElem_cons_zero])
        refine held_take 3 _ _ rfl (by kernel_rfl) (by kernel_rfl) (by kernel_rfl) (fun _ _ _ h => h) (by rfl) hHeld (fun w hSw => by (try dsimp only at hSw); go_simp; try with_reducible rfl) ?_
        (try simp only [Act.put, List.setIfInBounds_toArray, List.set_cons_zero, List.set_cons_succ, List.getElem_toArray, List.getElem_cons_succ, List.getElem_cons_zero])
        refine held_take 4 _ _ rfl (by kernel_rfl) (by kernel_rfl) (by kernel_rfl) (fun _ _ _ h => h) (by rfl) hHeld (fun w hSw => by (try dsimp only at hSw); go_simp; try with_reducible rfl) ?_
        (try simp only [Act.put, List.setIfInBounds_toArray, List.set_cons_zero, List.set_cons_succ, List.getElem_toArray, List.getElem_cons_succ, List.getElem_cons_zero])
        refine held_take 5 _ _ rfl (by kernel_rfl) (by kernel_rfl) (by kernel_rfl) (fun _ _ _ h => h) (by rfl) hHeld (fun w hSw => by (try dsimp only at hSw); go_simp; try with_reducible rfl) ?_
        (try simp only [Act.put, List.setIfInBounds_toArray, List.set_cons_zero, List.set_cons_succ, List.getElem_toArray, List.getElem_cons_succ, List.getElem_cons_zero])
        refine wpAnyH_ready (rs := [6]) (by kernel_rfl) (by simp) ?_
        refine AllReadyH.cons rfl (fun K hK => ?_) AllReadyH.nil
        rw [if_pos (by rfl)]
        go_wp2_with (first | (go_at_call 14; (with_reducible refine (cI _ hHeld.2.2).mono ?_); rintro e wk ⟨rfl, hbk⟩))
        refine hK.out _ _ (keep2b hl1 hbf hHeld hbk) (fun hHeld1 => ?_)
        clear hK K
        (try simp only [Act.put, List.setIfInBounds_toArray, List.set_cons_zero, List.set_cons_succ, List.getElem_toArray, List.getElem_cons_succ, List.getElem_cons_zero])
        refine held_take 7 _ _ rfl (by kernel_rfl) (by kernel_rfl) (by kernel_rfl) (fun _ _ _ h => h) (by rfl) hHeld1 (fun w hSw => by (try dsimp only at hSw); go_simp; try with_reducible rfl) ?_
        (try simp only [Act.put, List.setIfInBounds_toArray, List.set_cons_zero, List.set_cons_succ, List.getElem_toArray, List.getElem_cons_succ, List.getElem_cons_zero])
        refine held_take 8 _ _ rfl (by kernel_rfl) (by kernel_rfl) (by kernel_rfl) (fun _ _ _ h => h) (by rfl) hHeld1 (fun w hSw => by (try dsimp only at hSw); go_simp; try with_reducible rfl) ?_
        (try simp only [Act.put, List.setIfInBounds_toArray, List.set_cons_zero, List.set_cons_succ, List.getElem_toArray, List.getElem_cons_succ, List.getElem_cons_zero])
        refine held_take 9 _ _ rfl (by kernel_rfl) (by kernel_rfl) (by kernel_rfl) (fun _ _ _ h => h) (by rfl) hHeld1 (fun w hSw => by (try dsimp only at hSw); go_simp; try with_reducible rfl) ?_
        (try simp only [Act.put, List.setIfInBounds_toArray, List.set_cons_zero, List.set_cons_succ, List.getElem_toArray, List.getElem_cons_succ, List.getElem_cons_zero])
        refine held_take 10 _ _ rfl (by kernel_rfl) (by kernel_rfl) (by kernel_rfl) (fun _ _ _ h => h) (by rfl) hHeld1 (fun w hSw => by (try dsimp only at hSw); go_simp; try with_reducible rfl) ?_
        (try simp only [Act.put, List.setIfInBounds_toArray, List.set_cons_zero, List.set_cons_succ, List.getElem_toArray, List.getElem_cons_succ, List.getElem_cons_zero])
        refine held_take 11 _ _ rfl (by kernel_rfl) (by kernel_rfl) (by kernel_rfl) (fun _ _ _ h => h) (by rfl) hHeld1 (fun w hSw => by (try dsimp only at hSw); go_simp; try with_reducible rfl) ?_
        (try simp only [Act.put, List.setIfInBounds_toArray, List.set_cons_zero, List.set_cons_succ, List.getElem_toArray, List.getElem_cons_succ, List.getElem_cons_zero])
        refine held_take 12 _ _ rfl (by kernel_rfl) (by kernel_rfl) (by kernel_rfl) (fun _ _ _ h => h) (by rfl) hHeld1 (fun w hSw => by (try dsimp only at hSw); go_simp; try with_reducible rfl) ?_
        (try simp only [Act.put, List.setIfInBounds_toArray, List.set_cons_zero, List.set_cons_succ, List.getElem_toArray, List.getElem_cons_succ, List.getElem_cons_zero])
        refine held_take 13 _ _ rfl (by kernel_rfl) (by kernel_rfl) (by kernel_rfl) (fun _ _ _ h => h) (by rfl) hHeld1 (fun w hSw => by (try dsimp only at hSw); go_simp; try with_reducible rfl) ?_
        (try simp only [Act.put, List.setIfInBounds_toArray, List.set_cons_zero, List.set_cons_succ, List.getElem_toArray, List.getElem_cons_succ, List.getElem_cons_zero])
        refine held_take 14 _ _ rfl (by kernel_rfl) (by kernel_rfl) (by kernel_rfl) (fun _ _ _ h => h) (by rfl) hHeld1 (fun w hSw => by (try dsimp only at hSw); go_simp; try with_reducible rfl) ?_
        (try simp only [Act.put, List.setIfInBounds_toArray, List.set_cons_zero, List.set_cons_succ, List.getElem_toArray, List.getElem_cons_succ, List.getElem_cons_zero])
        refine held_take 16 _ _ rfl (by kernel_rfl) (by kernel_rfl) (by kernel_rfl) (fun _ _ _ h => h) (by rfl) hHeld1 (fun w hSw => by (try dsimp only at hSw); go_simp; try with_reducible rfl) ?_
        (try simp only [Act.put, List.setIfInBounds_toArray, List.set_cons_zero, List.set_cons_succ, List.getElem_toArray, List.getElem_cons_succ, List.getElem_cons_zero])
        refine wpAnyH_ready (rs := [15]) (by kernel_rfl) (by simp) ?_
        refine AllReadyH.cons rfl (fun K hK => ?_) AllReadyH.nil
        rw [if_pos (by rfl)]
        go_wp2_with (first | (go_at_call 20; (with_reducible refine (cW _ hHeld1.2.2).mono ?_); rintro e wk ⟨rfl, hbk⟩))
        refine hK.out _ _ (keep2b hl1 hbf hHeld1 hbk) (fun hHeld2 => ?_)
        clear hK K
        (try simp only [Act.put, List.setIfInBounds_toArray, List.set_cons_zero, List.set_cons_succ, List.getElem_toArray, List.getElem_cons_succ, List.getElem_cons_zero])
        refine held_take 17 _ _ rfl (by kernel_rfl) (by kernel_rfl) (by kernel_rfl) (fun _ _ _ h => h) (by rfl) hHeld2 (fun w hSw => by (try dsimp only at hSw); go_simp; try with_reducible rfl) ?_
        (try simp only [Act.put, List.setIfInBounds_toArray, List.set_cons_zero, List.set_cons_succ, List.getElem_toArray, List.getElem_cons_succ, List.getElem_cons_zero])
        refine held_take 18 _ _ rfl (by kernel_rfl) (by kernel_rfl) (by kernel_rfl) (fun _ _ _ h => h) (by rfl) hHeld2 (fun w hSw => by (try dsimp only at hSw); go_simp; try with_reducible rfl) ?_
        (try simp only [Act.put, List.setIfInBounds_toArray, List.set_cons_zero, List.set_cons_succ, List.getElem_toArray, List.getElem_cons_succ, List.getElem_cons_zero])
        refine held_take 19 _ _ rfl (by kernel_rfl) (by kernel_rfl) (by kernel_rfl) (fun _ _ _ h => h) (by rfl) hHeld2 (fun w hSw => by (try dsimp only at hSw); go_simp; try with_reducible rfl) ?_
        (try simp only [Act.put, List.setIfInBounds_toArray, List.set_cons_zero, List.set_cons_succ, List.getElem_toArray, List.getElem_cons_succ, List.getElem_cons_zero])
        refine held_take 20 _ _ rfl (by kernel_rfl) (by kernel_rfl) (by kernel_rfl) (fun _ _ _ h => h) (by rfl) hHeld2 (fun w hSw => by (try dsimp only at hSw); go_simp; try with_reducible rfl) ?_
        (try simp only [Act.put, List.setIfInBounds_toArray, List.set_cons_zero, List.set_cons_succ, List.getElem_toArray, List.getElem_cons_succ, List.getElem_cons_zero])
        refine held_take 21 _ _ rfl (by kernel_rfl) (by kernel_rfl) (by kernel_rfl) (fun _ _ _ h => h) (by rfl) hHeld2 (fun w hSw => by (try dsimp only at hSw); go_simp; try with_reducible rfl) ?_
        (try simp only [Act.put, List.setIfInBounds_toArray, List.set_cons_zero, List.set_cons_succ, List.getElem_toArray, List.getElem_cons_succ, List.getElem_cons_zero])
        refine held_take 22 _ _ rfl (by kernel_rfl) (by kernel_rfl) (by kernel_rfl) (fun _ _ _ h => h) (by rfl) hHeld2 (fun w hSw => by (try dsimp only at hSw); go_simp; try with_reducible rfl) ?_
        (try simp only [Act.put, List.setIfInBounds_toArray, List.set_cons_zero, List.set_cons_succ, List.getElem_toArray, List.getElem_cons_succ, List.getElem_cons_zero])
        refine held_skip 23 _ rfl (by kernel_rfl) (by kernel_rfl) (by kernel_rfl) (fun _ _ _ h => h) (by rfl) hHeld2 ?_
        (try simp only [Act.put, List.setIfInBounds_toArray, List.set_cons_zero, List.set_cons_succ, List.getElem_toArray, List.getElem_cons_succ, List.getElem_cons_zero])
        refine held_skip 24 _ rfl (by kernel_rfl) (by kernel_rfl) (by kernel_rfl) (fun _ _ _ h => h) (by rfl) hHeld2 ?_
        (try simp only [Act.put, List.setIfInBounds_toArray, List.set_cons_zero, List.set_cons_succ, List.getElem_toArray, List.getElem_cons_succ, List.getElem_cons_zero])
        refine held_skip 25 _ rfl (by kernel_rfl) (by kernel_rfl) (by kernel_rfl) (fun _ _ _ h => h) (by rfl) hHeld2 ?_
        (try simp only [Act.put, List.setIfInBounds_toArray, List.set_cons_zero, List.set_cons_succ, List.getElem_toArray, List.getElem_cons_succ, List.getElem_cons_zero])
        refine held_skip 26 _ rfl (by kernel_rfl) (by kernel_rfl) (by kernel_rfl) (fun _ _ _ h => h) (by rfl) hHeld2 ?_
        (try simp only [Act.put, List.setIfInBounds_toArray, List.set_cons_zero, List.set_cons_succ, List.getElem_toArray, List.getElem_cons_succ, List.getElem_cons_zero])
        refine held_skip 27 _ rfl (by kernel_rfl) (by kernel_rfl) (by kernel_rfl) (fun _ _ _ h => h) (by rfl) hHeld2 ?_
        (try simp only [Act.put, List.setIfInBounds_toArray, List.set_cons_zero, List.set_cons_succ, List.getElem_toArray, List.getElem_cons_succ, List.getElem_cons_zero])
        refine held_skip 28 _ rfl (by kernel_rfl) (by kernel_rfl) (by kernel_rfl) (fun _ _ _ h => h) (by rfl) hHeld2 ?_
        (try simp only [Act.put, List.setIfInBounds_toArray, List.set_cons_zero, List.set_cons_succ, List.getElem_toArray, List.getElem_cons_succ, List.getElem_cons_zero])
        refine held_skip 29 _ rfl (by kernel_rfl) (by kernel_rfl) (by kernel_rfl) (fun _ _ _ h => h) (by rfl) hHeld2 ?_
        (try simp only [Act.put, List.setIfInBounds_toArray, List.set_cons_zero, List.set_cons_succ, List.getElem_toArray, List.getElem_cons_succ, List.getElem_cons_zero])
        refine held_skip 30 _ rfl (by kernel_rfl) (by kernel_rfl) (by kernel_rfl) (fun _ _ _ h => h) (by rfl) hHeld2 ?_
        (try simp only [Act.put, List.setIfInBounds_toArray, List.set_cons_zero, List.set_cons_succ, List.getElem_toArray, List.getElem_cons_succ, List.getElem_cons_zero])
        refine held_skip 31 _ rfl (by kernel_rfl) (by kernel_rfl) (by kernel_rfl) (fun _ _ _ h => h) (by rfl) hHeld2 ?_
        (try simp only [Act.put, List.setIfInBounds_toArray, List.set_cons_zero, List.set_cons_succ, List.getElem_toArray, List.getElem_cons_succ, List.getElem_cons_zero])
        refine held_skip 32 _ rfl (by kernel_rfl) (by kernel_rfl) (by kernel_rfl) (fun _ _ _ h => h) (by rfl) hHeld2 ?_
        (try simp only [Act.put, List.setIfInBounds_toArray, List.set_cons_zero, List.set_cons_succ, List.getElem_toArray, List.getElem_cons_succ, List.getElem_cons_zero])
        refine held_take 33 _ _ rfl (by kernel_rfl) (by kernel_rfl) (by kernel_rfl) (fun _ _ _ h => h) (by rfl) hHeld2 (fun w hSw => by (try dsimp only at hSw); go_simp; try with_reducible rfl) ?_
        (try simp only [Act.put, List.setIfInBounds_toArray, List.set_cons_zero, List.set_cons_succ, List.getElem_toArray, List.getElem_cons_succ, List.getElem_cons_zero])
        refine held_take 34 _ _ rfl (by kernel_rfl) (by kernel_rfl) (by kernel_rfl) (fun _ _ _ h => h) (by rfl) hHeld2 (fun w hSw => by (try dsimp only at hSw); go_simp; try with_reducible rfl) ?_
        (try simp only [Act.put, List.setIfInBounds_toArray, List.set_cons_zero, List.set_cons_succ, List.getElem_toArray, List.getElem_cons_succ, List.getElem_cons_zero])
        refine wpAnyH_done (by kernel_rfl) ?_ _
        have hb3 := hbel.trans ((hHeld2).2.2.mono hbz)
        clear hS0 hHeld2 cI cW hcb hcf
        go_wp2_with fail
        go_roundw
        case rel => exact ⟨0 + 1, by omega, by go_num, hb3⟩
        case measure => (simp [intOf]; try omega)
      · have hk1 : 0 < k := by omega
        have hk' : k - 1 < F.length := by omega
        obtain ⟨bf', of', pg, cg, e1, -, hcg, hsg⟩ := ((HRR.out.below hbel).sl2n).at hk'
        injection e1 with e1
        injection e1 with e1 e2
        subst e1 e2
        have hne : F[k - 1] ≠ F[k] := by have := HNE.out (k - 1) (by omega) (by omega); simp only [show k - 1 + 1 = k by omega] at this; exact this
        have hg12 := HF12.out F[k - 1] (List.getElem_mem hk')
        have cS := fun w' (h : Below wr.heap.size wr w') => sameInts_any F[k - 1] F[k] pg pf cg cf w' (hsg.below h) (HSF.out.below h) (by omega) (by omega)
        simp only [decide_eq_false hne] at cS
        clear hne hsg
        have hx1 : (0 : Int) < (k : Int) := by omega
        have hx2 : (0 : Int) ≤ (k : Int) - 1 := by omega
        have hx4 : (1 : Int) ≤ (k : Int) := by omega
        have hx3 : (k : Int) - 1 < (F.length : Int) := by omega
        have hw1 : IntKind.i64.wrap ((k : Int) - 1) = (k : Int) - 1 := IntWalk.i64_in _ (by omega)
        have ht1 : ((k : Int) - 1).toNat = k - 1 := by omega
        have hkd : decide ((0 : Int) < (k : Int)) = true := decide_eq_true hx1
        generalize F[k].length = mm at *
        generalize F[k - 1].length = mg at *
        have hS0 : wr.drew.cell? ⟨w2.heap.size, 0, none⟩ = some (.slice a_s Ls.length c_s) ∧ wr.drew.cell? ⟨bf, of + k, none⟩ = some (.slice pf mm cf) ∧ wr.drew.cell? ⟨bf, of + (k - 1), none⟩ = some (.slice pg mg cg) ∧ Below wr.heap.size wr wr.drew := ⟨hcb, hcf, hcg, (Below.refl _ _).drew⟩
        go_wp2_with fail
        refine wp_region_held_drew (S := fun w' => w'.cell? ⟨w2.heap.size, 0, none⟩ = some (.slice a_s Ls.length c_s) ∧ w'.cell? ⟨bf, of + k, none⟩ = some (.slice pf mm cf) ∧ w'.cell? ⟨bf, of + (k - 1), none⟩ = some (.slice pg mg cg) ∧ Below wr.heap.size wr w') (by kernel_rfl) hS0 (fun hHeld => ?_)
        refine held_take 0 _ _ rfl (by kernel_rfl) (by kernel_rfl) (by kernel_rfl) (fun _ _ _ h => h) (by rfl) hHeld (fun w hSw => by (try dsimp only at hSw); go_simp; try with_reducible rfl) ?_
        (try simp only [Act.put, List.setIfInBounds_toArray, List.set_cons_zero, List.set_cons_succ, List.getElem_toArray, List.getElem_cons_zero])
        refine held_take 1 _ _ rfl (by kernel_rfl) (by kernel_rfl) (by kernel_rfl) (fun _ _ _ h => h) (by rfl) hHeld (fun w hSw => by (try dsimp only at hSw); go_simp; try with_reducible rfl) ?_
        (try simp only [Act.put, List.setIfInBounds_toArray, List.set_cons_zero, List.set_cons_succ, List.getElem_toArray, List.getElem_cons_succ, List.getElem_cons_zero])
        refine held_take 2 _ _ rfl (by kernel_rfl) (by kernel_rfl) (by kernel_rfl) (fun _ _ _ h => h) (by rfl) hHeld (fun w hSw => by (try dsimp only at hSw); go_simp; try with_reducible rfl) ?_
        (try simp only [Act.put, List.setIfInBounds_toArray, List.set_cons_zero, List.set_cons_succ, List.getElem_toArray, List.getElem_cons_succ, List.getElem_cons_zero])
        refine held_take 3 _ _ rfl (by kernel_rfl) (by kernel_rfl) (by kernel_rfl) (fun _ _ _ h => h) (by rfl) hHeld (fun w hSw => by (try dsimp only at hSw); go_simp; try with_reducible rfl) ?_
        (try simp only [Act.put, List.setIfInBounds_toArray, List.set_cons_zero, List.set_cons_succ, List.getElem_toArray, List.getElem_cons_succ, List.getElem_cons_zero])
        refine held_take 4 _ _ rfl (by kernel_rfl) (by kernel_rfl) (by kernel_rfl) (fun _ _ _ h => h) (by rfl) hHeld (fun w hSw => by (try dsimp only at hSw); go_simp; try with_reducible rfl) ?_
        (try simp only [Act.put, List.setIfInBounds_toArray, List.set_cons_zero, List.set_cons_succ, List.getElem_toArray, List.getElem_cons_succ, List.getElem_cons_zero])
        refine held_take 5 _ _ rfl (by kernel_rfl) (by kernel_rfl) (by kernel_rfl) (fun _ _ _ h => h) (by rfl) hHeld (fun w hSw => by (try dsimp only at hSw); go_simp; try with_reducible rfl) ?_
        (try simp only [Act.put, List.setIfInBounds_toArray, List.set_cons_zero, List.set_cons_succ, List.getElem_toArray, List.getElem_cons_succ, List.getElem_cons_zero])
        refine wpAnyH_ready (rs := [6]) (by kernel_rfl) (by simp) ?_
        refine AllReadyH.cons rfl (fun K hK => ?_) AllReadyH.nil
        rw [if_pos (by rfl)]
        go_wp2_with (first | (go_at_call 14; go_loud ((with_reducible refine (cI _ hHeld.2.2.2).mono ?_); rintro e wk ⟨rfl, hbk⟩)))
        refine hK.out _ _ (keep93 hl1 hbf hbf hHeld hbk) (fun hHeld1 => ?_)
        clear hK K
        (try simp only [Act.put, List.setIfInBounds_toArray, List.set_cons_zero, List.set_cons_succ, List.getElem_toArray, List.getElem_cons_succ, List.getElem_cons_zero])
        refine held_take 7 _ _ rfl (by kernel_rfl) (by kernel_rfl) (by kernel_rfl) (fun _ _ _ h => h) (by rfl) hHeld1 (fun w hSw => by (try dsimp only at hSw); go_simp; try with_reducible rfl) ?_
        (try simp only [Act.put, List.setIfInBounds_toArray, List.set_cons_zero, List.set_cons_succ, List.getElem_toArray, List.getElem_cons_succ, List.getElem_cons_zero])
        refine held_take 8 _ _ rfl (by kernel_rfl) (by kernel_rfl) (by kernel_rfl) (fun _ _ _ h => h) (by rfl) hHeld1 (fun w hSw => by (try dsimp only at hSw); go_simp; try with_reducible rfl) ?_
        (try simp only [Act.put, List.setIfInBounds_toArray, List.set_cons_zero, List.set_cons_succ, List.getElem_toArray, List.getElem_cons_succ, List.getElem_cons_zero])
        refine held_take 9 _ _ rfl (by kernel_rfl) (by kernel_rfl) (by kernel_rfl) (fun _ _ _ h => h) (by rfl) hHeld1 (fun w hSw => by (try dsimp only at hSw); go_simp; try with_reducible rfl) ?_
        (try simp only [Act.put, List.setIfInBounds_toArray, List.set_cons_zero, List.set_cons_succ, List.getElem_toArray, List.getElem_cons_succ, List.getElem_cons_zero])
        refine held_take 10 _ _ rfl (by kernel_rfl) (by kernel_rfl) (by kernel_rfl) (fun _ _ _ h => h) (by rfl) hHeld1 (fun w hSw => by (try dsimp only at hSw); go_simp; try with_reducible rfl) ?_
        (try simp only [Act.put, List.setIfInBounds_toArray, List.set_cons_zero, List.set_cons_succ, List.getElem_toArray, List.getElem_cons_succ, List.getElem_cons_zero])
        refine held_take 11 _ _ rfl (by kernel_rfl) (by kernel_rfl) (by kernel_rfl) (fun _ _ _ h => h) (by rfl) hHeld1 (fun w hSw => by (try dsimp only at hSw); go_simp; try with_reducible rfl) ?_
        (try simp only [Act.put, List.setIfInBounds_toArray, List.set_cons_zero, List.set_cons_succ, List.getElem_toArray, List.getElem_cons_succ, List.getElem_cons_zero])
        refine held_take 12 _ _ rfl (by kernel_rfl) (by kernel_rfl) (by kernel_rfl) (fun _ _ _ h => h) (by rfl) hHeld1 (fun w hSw => by (try dsimp only at hSw); go_simp; try with_reducible rfl) ?_
        (try simp only [Act.put, List.setIfInBounds_toArray, List.set_cons_zero, List.set_cons_succ, List.getElem_toArray, List.getElem_cons_succ, List.getElem_cons_zero])
        refine held_take 13 _ _ rfl (by kernel_rfl) (by kernel_rfl) (by kernel_rfl) (fun _ _ _ h => h) (by rfl) hHeld1 (fun w hSw => by (try dsimp only at hSw); go_simp; try with_reducible rfl) ?_
        (try simp only [Act.put, List.setIfInBounds_toArray, List.set_cons_zero, List.set_cons_succ, List.getElem_toArray, List.getElem_cons_succ, List.getElem_cons_zero])
        refine held_take 14 _ _ rfl (by kernel_rfl) (by kernel_rfl) (by kernel_rfl) (fun _ _ _ h => h) (by rfl) hHeld1 (fun w hSw => by (try dsimp only at hSw); go_simp; try with_reducible rfl) ?_
        (try simp only [Act.put, List.setIfInBounds_toArray, List.set_cons_zero, List.set_cons_succ, List.getElem_toArray, List.getElem_cons_succ, List.getElem_cons_zero])
        refine held_take 16 _ _ rfl (by kernel_rfl) (by kernel_rfl) (by kernel_rfl) (fun _ _ _ h => h) (by rfl) hHeld1 (fun w hSw => by (try dsimp only at hSw); go_simp; try with_reducible rfl) ?_
        (try simp only [Act.put, List.setIfInBounds_toArray, List.set_cons_zero, List.set_cons_succ, List.getElem_toArray, List.getElem_cons_succ, List.getElem_cons_zero])
        refine wpAnyH_ready (rs := [15]) (by kernel_rfl) (by simp) ?_
        refine AllReadyH.cons rfl (fun K hK => ?_) AllReadyH.nil
        rw [if_pos (by rfl)]
        go_wp2_with (first | (go_at_call 20; (with_reducible refine (cW _ hHeld1.2.2.2).mono ?_); rintro e wk ⟨rfl, hbk⟩))
        refine hK.out _ _ (keep93 hl1 hbf hbf hHeld1 hbk) (fun hHeld2 => ?_)
        clear hK K
        (try simp only [Act.put, List.setIfInBounds_toArray, List.set_cons_zero, List.set_cons_succ, List.getElem_toArray, List.getElem_cons_succ, List.getElem_cons_zero])
        refine held_take 17 _ _ rfl (by kernel_rfl) (by kernel_rfl) (by kernel_rfl) (fun _ _ _ h => h) (by rfl) hHeld2 (fun w hSw => by (try dsimp only at hSw); go_simp; try with_reducible rfl) ?_
        (try simp only [Act.put, List.setIfInBounds_toArray, List.set_cons_zero, List.set_cons_succ, List.getElem_toArray, List.getElem_cons_succ, List.getElem_cons_zero])
        refine held_take 18 _ _ rfl (by kernel_rfl) (by kernel_rfl) (by kernel_rfl) (fun _ _ _ h => h) (by rfl) hHeld2 (fun w hSw => by (try dsimp only at hSw); go_simp; try with_reducible rfl) ?_
        (try simp only [Act.put, List.setIfInBounds_toArray, List.set_cons_zero, List.set_cons_succ, List.getElem_toArray, List.getElem_cons_succ, List.getElem_cons_zero])
        refine held_take 19 _ _ rfl (by kernel_rfl) (by kernel_rfl) (by kernel_rfl) (fun _ _ _ h => h) (by rfl) hHeld2 (fun w hSw => by (try dsimp only at hSw); go_simp; try with_reducible rfl) ?_
        (try simp only [Act.put, List.setIfInBounds_toArray, List.set_cons_zero, List.set_cons_succ, List.getElem_toArray, List.getElem_cons_succ, List.getElem_cons_zero])
        refine held_take 20 _ _ rfl (by kernel_rfl) (by kernel_rfl) (by kernel_rfl) (fun _ _ _ h => h) (by rfl) hHeld2 (fun w hSw => by (try dsimp only at hSw); go_simp; try with_reducible rfl) ?_
        (try simp only [Act.put, List.setIfInBounds_toArray, List.set_cons_zero, List.set_cons_succ, List.getElem_toArray, List.getElem_cons_succ, List.getElem_cons_zero])
        refine held_take 21 _ _ rfl (by kernel_rfl) (by kernel_rfl) (by kernel_rfl) (fun _ _ _ h => h) (by rfl) hHeld2 (fun w hSw => by (try dsimp only at hSw); go_simp; try with_reducible rfl) ?_
        (try simp only [Act.put, List.setIfInBounds_toArray, List.set_cons_zero, List.set_cons_succ, List.getElem_toArray, List.getElem_cons_succ, List.getElem_cons_zero])
        refine held_take 22 _ _ rfl (by kernel_rfl) (by kernel_rfl) (by kernel_rfl) (fun _ _ _ h => h) (by rfl) hHeld2 (fun w hSw => by (try dsimp only at hSw); go_simp; try with_reducible rfl) ?_
        (try simp only [Act.put, List.setIfInBounds_toArray, List.set_cons_zero, List.set_cons_succ, List.getElem_toArray, List.getElem_cons_succ, List.getElem_cons_zero])
        refine held_take 23 _ _ rfl (by kernel_rfl) (by kernel_rfl) (by kernel_rfl) (fun _ _ _ h => h) (by rfl) hHeld2 (fun w hSw => by (try dsimp only at hSw); go_simp; try with_reducible rfl) ?_
        (try simp only [Act.put, List.setIfInBounds_toArray, List.set_cons_zero, List.set_cons_succ, List.getElem_toArray, List.getElem_cons_succ, List.getElem_cons_zero])
        refine held_take 24 _ _ rfl (by kernel_rfl) (by kernel_rfl) (by kernel_rfl) (fun _ _ _ h => h) (by rfl) hHeld2 (fun w hSw => by (try dsimp only at hSw); go_simp; try with_reducible rfl) ?_
        (try simp only [Act.put, List.setIfInBounds_toArray, List.set_cons_zero, List.set_cons_succ, List.getElem_toArray, List.getElem_cons_succ, List.getElem_cons_zero])
        refine held_take 25 _ _ rfl (by kernel_rfl) (by kernel_rfl) (by kernel_rfl) (fun _ _ _ h => h) (by rfl) hHeld2 (fun w hSw => by (try dsimp only at hSw); go_simp; try with_reducible rfl) ?_
        (try simp only [Act.put, List.setIfInBounds_toArray, List.set_cons_zero, List.set_cons_succ, List.getElem_toArray, List.getElem_cons_succ, List.getElem_cons_zero])
        refine held_take 26 _ _ rfl (by kernel_rfl) (by kernel_rfl) (by kernel_rfl) (fun _ _ _ h => h) (by rfl) hHeld2 (fun w hSw => by (try dsimp only at hSw); go_simp; try with_reducible rfl) ?_
        (try simp only [Act.put, List.setIfInBounds_toArray, List.set_cons_zero, List.set_cons_succ, List.getElem_toArray, List.getElem_cons_succ, List.getElem_cons_zero])
        refine held_take 27 _ _ rfl (by kernel_rfl) (by kernel_rfl) (by kernel_rfl) (fun _ _ _ h => h) (by rfl) hHeld2 (fun w hSw => by (try dsimp only at hSw); go_simp; try with_reducible rfl) ?_
        (try simp only [Act.put, List.setIfInBounds_toArray, List.set_cons_zero, List.set_cons_succ, List.getElem_toArray, List.getElem_cons_succ, List.getElem_cons_zero])
        refine held_take 28 _ _ rfl (by kernel_rfl) (by kernel_rfl) (by kernel_rfl) (fun _ _ _ h => h) (by rfl) hHeld2 (fun w hSw => by (try dsimp only at hSw); go_simp; try with_reducible rfl) ?_
        (try simp only [Act.put, List.setIfInBounds_toArray, List.set_cons_zero, List.set_cons_succ, List.getElem_toArray, List.getElem_cons_succ, List.getElem_cons_zero])
        refine held_take 29 _ _ rfl (by kernel_rfl) (by kernel_rfl) (by kernel_rfl) (fun _ _ _ h => h) (by rfl) hHeld2 (fun w hSw => by (try dsimp only at hSw); go_simp; try with_reducible rfl) ?_
        (try simp only [Act.put, List.setIfInBounds_toArray, List.set_cons_zero, List.set_cons_succ, List.getElem_toArray, List.getElem_cons_succ, List.getElem_cons_zero])
        refine held_take 30 _ _ rfl (by kernel_rfl) (by kernel_rfl) (by kernel_rfl) (fun _ _ _ h => h) (by rfl) hHeld2 (fun w hSw => by (try dsimp only at hSw); go_simp; try with_reducible rfl) ?_
        (try simp only [Act.put, List.setIfInBounds_toArray, List.set_cons_zero, List.set_cons_succ, List.getElem_toArray, List.getElem_cons_succ, List.getElem_cons_zero])
        refine held_take 31 _ _ rfl (by kernel_rfl) (by kernel_rfl) (by kernel_rfl) (fun _ _ _ h => h) (by rfl) hHeld2 (fun w hSw => by (try dsimp only at hSw); go_simp; try with_reducible rfl) ?_
        (try simp only [Act.put, List.setIfInBounds_toArray, List.set_cons_zero, List.set_cons_succ, List.getElem_toArray, List.getElem_cons_succ, List.getElem_cons_zero])
        refine wpAnyH_ready (rs := [32]) (by kernel_rfl) (by simp) ?_
        refine AllReadyH.cons rfl (fun K hK => ?_) AllReadyH.nil
        rw [if_pos (by rfl)]
        go_wp2_with (first | (go_at_call 21; (with_reducible refine (cS _ hHeld2.2.2.2).mono ?_); rintro e wk ⟨rfl, hbk⟩))
        refine hK.out _ _ (keep93 hl1 hbf hbf hHeld2 hbk) (fun hHeld3 => ?_)
        clear hK K
        (try simp only [Act.put, List.setIfInBounds_toArray, List.set_cons_zero, List.set_cons_succ, List.getElem_toArray, List.getElem_cons_succ, List.getElem_cons_zero])
        refine held_take 33 _ _ rfl (by kernel_rfl) (by kernel_rfl) (by kernel_rfl) (fun _ _ _ h => h) (by rfl) hHeld3 (fun w hSw => by (try dsimp only at hSw); go_simp; try with_reducible rfl) ?_
        (try simp only [Act.put, List.setIfInBounds_toArray, List.set_cons_zero, List.set_cons_succ, List.getElem_toArray, List.getElem_cons_succ, List.getElem_cons_zero])
        refine held_take 34 _ _ rfl (by kernel_rfl) (by kernel_rfl) (by kernel_rfl) (fun _ _ _ h => h) (by rfl) hHeld3 (fun w hSw => by (try dsimp only at hSw); go_simp; try with_reducible rfl) ?_
        (try simp only [Act.put, List.setIfInBounds_toArray, List.set_cons_zero, List.set_cons_succ, List.getElem_toArray, List.getElem_cons_succ, List.getElem_cons_zero])
        refine wpAnyH_done (by kernel_rfl) ?_ _
        have hb3 := hbel.trans ((hHeld3).2.2.2.mono hbz)
        clear hS0 hHeld3 cI cW cS hcb hcf hcg hx2 hx3 hx4 hw1 ht1
        go_wp2_with fail
        go_roundw
        case rel => exact ⟨k + 1, by omega, by go_num, hb3⟩
        case measure => simp [intOf]; omega
    · obtain rfl : k = F.length := by omega
      have hlti : ¬ ((F.length : Nat) : Int) < (F.length : Int) := by omega
      have hWr := hW.trans (hbel.mono hWz)
      clear HFA HNE HF12 HRR hW hbel S_s B_bs hlbs HFW
      by_cases hn0 : n < 0
      · have hd0 := decide_eq_true hn0
        clear HCN HSM hcb SS
        go_wp2_with fail
        go_ret
        exact ⟨rfl, hWr⟩
      · have hd0 := decide_eq_false hn0
        by_cases hn1 : 100 < n
        · have hd1 := decide_eq_true hn1
          clear HCN HSM hcb SS
          go_wp2_with fail
          go_ret
          exact ⟨rfl, hWr⟩
        · have hd1 := decide_eq_false hn1
          have ci := cs_IsSemigroup Ls a_s c_s wr SS.out (by omega)
          cases hsg : isSgB Ls
          · rw [hsg] at ci
            clear HCN HSM
            go_wp2_with fail
            refine ci.mono ?_
            rintro e u2 ⟨rfl, hb2⟩
            have hW2 := hWr.trans (hb2.mono hWr.size)
            clear ci hcb SS hsg
            go_wp2_with fail
            go_ret
            exact ⟨rfl, hW2⟩
          · rw [hsg] at ci
            have hcn := HCN.out hsg (by omega) (by omega)
            have hsm := HSM.out hsg (by omega) (by omega)
            have hh0 : n = 0 → hasN Ls n = true := fun h => by subst h; unfold hasN; rw [hsg, sumB_iff.2 (show IsSum Ls (0 : Int).toNat from .zero)]; rfl
            have HH := Lib.hid hh0
            have HS2 := Lib.hid hsm
            clear HCN HSM hsg hh0 hsm
            go_wp2_with fail
            refine ci.mono ?_
            rintro e u2 ⟨rfl, hb2⟩
            have hW2 := hWr.trans (hb2.mono hWr.size)
            have SS2 := Lib.hid (SS.out.below hb2)
            have hcb2 := (hb2.cell (p := ⟨w2.heap.size, 0, none⟩) hl1).trans hcb
            have hl2 := Nat.lt_of_lt_of_le hl1 hb2.size
            have cc := ci_CountFactorizations Ls a_s c_s n u2 SS2.out (by omega) hn64.1 hn64.2
            rw [hcn] at cc
            have hff : ((F.length : Int) == (F.length : Int)) = true := by simp
            clear ci hcb SS hb2 hcn
            go_wp2_with fail
            refine cc.mono ?_
            rintro e u3 ⟨rfl, hb3⟩
            have hW3 := hW2.trans (hb3.mono hW2.size)
            have hcb3 := (hb3.cell (p := ⟨w2.heap.size, 0, none⟩) hl2).trans hcb2
            have cn := cs_Contains Ls a_s c_s n u3 (SS2.out.below hb3) (by omega) hn64.1 hn64.2
            clear cc hcb2 SS2 hb3
            by_cases hz : n = 0
            · subst hz
              have hq := HH.out rfl
              have hpos : 0 < F.length := of_decide_eq_true (HS2.out.trans hq)
              have hposi : (0 : Int) < (F.length : Int) := by omega
              have hpd : decide (0 < F.length) = true := decide_eq_true hpos
              have hnz : ((0 : Int) == 0) = true := rfl
              clear cn hcb3 hq
              go_wp2_with fail
              go_ret
              exact ⟨rfl, hW3⟩
            · have hnz : (n == 0) = false := by rw [beq_eq_false_iff_ne]; exact hz
              cases hq : hasN Ls n
              · rw [hq] at cn
                have hpd : decide (0 < F.length) = false := HS2.out.trans hq
                have hpos : ¬ 0 < F.length := of_decide_eq_false hpd
                have hposi : ¬ (0 : Int) < (F.length : Int) := by omega
                clear hq hz
                go_wp2_with fail
                refine cn.mono ?_
                rintro e u4 ⟨rfl, hb4⟩
                have hW4 := hW3.trans (hb4.mono hW3.size)
                clear cn hcb3
                go_wp2_with fail
                go_ret
                exact ⟨rfl, hW4⟩
              · rw [hq] at cn
                have hpd : decide (0 < F.length) = true := HS2.out.trans hq
                have hpos : 0 < F.length := of_decide_eq_true hpd
                have hposi : (0 : Int) < (F.length : Int) := by omega
                clear hq hz
                go_wp2_with fail
                refine cn.mono ?_
                rintro e u4 ⟨rfl, hb4⟩
                have hW4 := hW3.trans (hb4.mono hW3.size)
                clear cn hcb3
                go_wp2_with fail
                go_ret
                exact ⟨rfl, hW4⟩

set_option maxRecDepth 100000 in
set_option maxHeartbeats 800000 in
theorem FnFactorizations.walk (p0 : Option Addr) (len0 cap0 : Nat) (z0 : List Int) (W : World) (r0 : IsRow .u8 W p0 len0 cap0 z0) (hL : laidMetH Tryd.prog Rows.fnFactorizationsRow.laid W) (_ : W.ShapedOpen Tryd.prog) :
    Calls Tryd.prog 3 #[.slice p0 len0 cap0] W fun e w' => e = .returned (.bool true) ∧ Below W.heap.size W w' := by
  by_cases hl : len0 ≤ 1048576
  · exact fnFactorizations_small p0 len0 cap0 z0 W r0 hl (powIs (by kernel_rfl) hL)
  · have cb := big_any p0 len0 cap0 W (row_maxLen r0)
    rw [decide_eq_true (show 1048576 < len0 by omega)] at cb
    clear hL
    go_enter Tryd.func3, Tryd.ntmps3
    go_wp2_with fail
    refine cb.mono ?_
    rintro e w0 ⟨rfl, rfl⟩
    go_wp2_with fail
    go_ret
    exact ⟨rfl, Below.refl _ _⟩
end Go.Proofs.YtlinlmmcgifloaaDoor
