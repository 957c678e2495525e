/-
  THE WALK OF THE LAW FnSeries: the series of the numerator lists the semigroup, and the numerator reads the same backwards exactly if it is symmetric (written by fn_series.py of the verifier's own).
-/
import Derived.Test.YtlinlmmcgifloaaRows
import Derived.Test.YtlinlmmcgifloaaDrw22
import Derived.Test.YtlinlmmcgifloaaC15
import Derived.Test.YtlinlmmcgifloaaC15b
import Derived.Test.YtlinlmmcgifloaaC3
import Derived.Test.YtlinlmmcgifloaaL28
import Derived.Test.YtlinlmmcgifloaaSgSy
namespace Go.Proofs.Ytlinlmmcgifloaa
open Go Go.RowKit

set_option maxRecDepth 100000 in
set_option maxHeartbeats 12800000 in
theorem fnSeries_small (p0 : Option Addr) (len0 cap0 : Nat) (z0 : List Int) (W : World) (r0 : IsRow .u8 W p0 len0 cap0 z0) (hl : len0 ≤ 1048576) :
    Calls Try.prog 4 #[.slice p0 len0 cap0] W fun e w' => e = .returned (.bool true) ∧ Below W.heap.size W w' := by
  have HR := Lib.hid r0
  clear r0
  have hW : Below W.heap.size W W := Below.refl _ _
  go_enter Try.func4, Try.ntmps4
  have c := big_b p0 len0 cap0 W (by unfold maxLen; omega)
  rw [decide_eq_false (show ¬ 1048576 < len0 by omega)] at c
  go_wp2_with fail
  refine c.mono ?_
  rintro e w1 ⟨rfl, hb⟩
  clear c
  have z1 := hb.size
  replace hW := hW.trans (hb.mono hW.size)
  clear hb
  have c := DrawNumeratorOf_any w1 p0 len0 cap0 z0 (HR.out.below hW) hl
  go_wp2_with fail
  refine c.mono ?_
  rintro e w2 ⟨Ls, a_s, c_s, hl_s, hB_s, rfl, hs, hb⟩
  clear c
  have z2 := hb.size
  replace hW := hW.trans (hb.mono hW.size)
  have S_s := Lib.hid hs
  clear hs hb hB_s
  obtain ⟨w3, hwb⟩ : ∃ wb, wb = w2.alloc (.cells #[.slice a_s Ls.length c_s] 26) := ⟨_, rfl⟩
  have hb : Below w2.heap.size w2 w3 := by rw [hwb]; exact box_below _ _
  have hA : Arr w3 w2.heap.size 26 [.slice a_s Ls.length c_s] := by rw [hwb]; exact Arr.new _ _ _
  replace S_s := Lib.hid (S_s.out.below hb)
  have z3 := hb.size
  replace hW := hW.trans (hb.mono hW.size)
  have y3 : w2.heap.size < w3.heap.size := hA.lt
  have B_bs := Lib.hid hA
  have H_w3 := Lib.hid hwb
  clear hwb hb hA
  have hpl := numL_len Ls
  have c := ci_NumeratorOf Ls a_s c_s w3 S_s.out (by omega)
  have hk_bs : w3.cell? ⟨w2.heap.size, 0, none⟩ = some (.slice a_s Ls.length c_s) := B_bs.out.cell 0
  rw [H_w3.out] at hk_bs
  go_wp2_with fail
  rw [← H_w3.out]
  refine c.mono ?_
  rintro e w4 ⟨v, rfl, ho, hb⟩
  clear c
  clear hk_bs
  obtain ⟨a_p, c_p, rfl, rX⟩ := row_open ho
  clear ho
  replace S_s := Lib.hid (S_s.out.below hb)
  replace B_bs := Lib.hid (B_bs.out.below hb)
  have z4 := hb.size
  replace hW := hW.trans (hb.mono hW.size)
  have R_p := Lib.hid rX
  clear rX hb
  have c := DrawSeriesFrom_any w4 p0 len0 cap0 z0 (HR.out.below hW) hl
  have hk_bs : w4.cell? ⟨w2.heap.size, 0, none⟩ = some (.slice a_s Ls.length c_s) := B_bs.out.cell 0
  go_wp2_with fail
  refine c.mono ?_
  rintro e w5 ⟨La, v, n, hl_a, hB_a, hn64, rfl, ho, hb⟩
  clear c
  clear hk_bs
  obtain ⟨a_a, c_a, rfl, r_a⟩ := row_open ho
  clear ho
  replace S_s := Lib.hid (S_s.out.below hb)
  replace B_bs := Lib.hid (B_bs.out.below hb)
  replace R_p := Lib.hid (R_p.out.below hb)
  have z5 := hb.size
  replace hW := hW.trans (hb.mono hW.size)
  have R_a := Lib.hid r_a
  clear r_a hb hB_a
  have c := DrawIsPalindrome_any w5 p0 len0 cap0 z0 (HR.out.below hW) hl
  have hk_bs : w5.cell? ⟨w2.heap.size, 0, none⟩ = some (.slice a_s Ls.length c_s) := B_bs.out.cell 0
  go_wp2_with fail
  refine c.mono ?_
  rintro e w6 ⟨Lb, v, hl_b, hB_b, rfl, ho, hb⟩
  clear c
  clear hk_bs
  obtain ⟨a_b, c_b, rfl, r_b⟩ := row_open ho
  clear ho
  replace S_s := Lib.hid (S_s.out.below hb)
  replace B_bs := Lib.hid (B_bs.out.below hb)
  replace R_p := Lib.hid (R_p.out.below hb)
  replace R_a := Lib.hid (R_a.out.below hb)
  have z6 := hb.size
  replace hW := hW.trans (hb.mono hW.size)
  have R_b := Lib.hid r_b
  clear r_b hb hB_b
  have c := DrawMultiplyLists_any w6 p0 len0 cap0 z0 (HR.out.below hW) hl
  have hk_bs : w6.cell? ⟨w2.heap.size, 0, none⟩ = some (.slice a_s Ls.length c_s) := B_bs.out.cell 0
  go_wp2_with fail
  refine c.mono ?_
  rintro e w7 ⟨Lc, Ld, v, u, hl_c, hl_d, hB_c, hB_d, rfl, ho, ho2, hb⟩
  clear c
  clear hk_bs
  obtain ⟨a_c, c_c, rfl, r_c⟩ := row_open ho
  clear ho
  obtain ⟨a_d, c_d, rfl, r_d⟩ := row_open ho2
  clear ho2
  replace S_s := Lib.hid (S_s.out.below hb)
  replace B_bs := Lib.hid (B_bs.out.below hb)
  replace R_p := Lib.hid (R_p.out.below hb)
  replace R_a := Lib.hid (R_a.out.below hb)
  replace R_b := Lib.hid (R_b.out.below hb)
  have z7 := hb.size
  replace hW := hW.trans (hb.mono hW.size)
  have R_c := Lib.hid r_c
  have R_d := Lib.hid r_d
  clear r_c r_d hb hB_c hB_d
  have c := DrawEulerAt_any w7 p0 len0 cap0 z0 (HR.out.below hW) hl
  have hk_bs : w7.cell? ⟨w2.heap.size, 0, none⟩ = some (.slice a_s Ls.length c_s) := B_bs.out.cell 0
  go_wp2_with fail
  refine c.mono ?_
  rintro e w8 ⟨Le, a_e, c_e, k, hl_e, hB_e, hk64, rfl, hs, hb⟩
  clear c
  clear hk_bs
  replace S_s := Lib.hid (S_s.out.below hb)
  replace B_bs := Lib.hid (B_bs.out.below hb)
  replace R_p := Lib.hid (R_p.out.below hb)
  replace R_a := Lib.hid (R_a.out.below hb)
  replace R_b := Lib.hid (R_b.out.below hb)
  replace R_c := Lib.hid (R_c.out.below hb)
  replace R_d := Lib.hid (R_d.out.below hb)
  have z8 := hb.size
  replace hW := hW.trans (hb.mono hW.size)
  have S_e := Lib.hid hs
  clear hs hb hB_e
  obtain ⟨w9, hwb⟩ : ∃ wb, wb = w8.alloc (.cells #[.slice a_e Le.length c_e] 26) := ⟨_, rfl⟩
  have hb : Below w8.heap.size w8 w9 := by rw [hwb]; exact box_below _ _
  have hA : Arr w9 w8.heap.size 26 [.slice a_e Le.length c_e] := by rw [hwb]; exact Arr.new _ _ _
  replace S_s := Lib.hid (S_s.out.below hb)
  replace B_bs := Lib.hid (B_bs.out.below hb)
  replace R_p := Lib.hid (R_p.out.below hb)
  replace R_a := Lib.hid (R_a.out.below hb)
  replace R_b := Lib.hid (R_b.out.below hb)
  replace R_c := Lib.hid (R_c.out.below hb)
  replace R_d := Lib.hid (R_d.out.below hb)
  replace S_e := Lib.hid (S_e.out.below hb)
  have z9 := hb.size
  replace hW := hW.trans (hb.mono hW.size)
  have y9 : w8.heap.size < w9.heap.size := hA.lt
  have B_be := Lib.hid hA
  have H_w9 := Lib.hid hwb
  clear hwb hb hA
  have c := DrawEulerList_any w9 p0 len0 cap0 z0 (HR.out.below hW) hl
  have hk_bs : w9.cell? ⟨w2.heap.size, 0, none⟩ = some (.slice a_s Ls.length c_s) := B_bs.out.cell 0
  have hk_be : w9.cell? ⟨w8.heap.size, 0, none⟩ = some (.slice a_e Le.length c_e) := B_be.out.cell 0
  rw [H_w9.out] at hk_bs hk_be
  go_wp2_with fail
  rw [← H_w9.out]
  refine c.mono ?_
  rintro e w10 ⟨Lt, a_t, c_t, hl_t, hB_t, rfl, hs, hb⟩
  clear c
  clear hk_bs hk_be
  replace S_s := Lib.hid (S_s.out.below hb)
  replace B_bs := Lib.hid (B_bs.out.below hb)
  replace R_p := Lib.hid (R_p.out.below hb)
  replace R_a := Lib.hid (R_a.out.below hb)
  replace R_b := Lib.hid (R_b.out.below hb)
  replace R_c := Lib.hid (R_c.out.below hb)
  replace R_d := Lib.hid (R_d.out.below hb)
  replace S_e := Lib.hid (S_e.out.below hb)
  replace B_be := Lib.hid (B_be.out.below hb)
  have z10 := hb.size
  replace hW := hW.trans (hb.mono hW.size)
  have S_t := Lib.hid hs
  clear hs hb hB_t
  obtain ⟨w11, hwb⟩ : ∃ wb, wb = w10.alloc (.cells #[.slice a_t Lt.length c_t] 26) := ⟨_, rfl⟩
  have hb : Below w10.heap.size w10 w11 := by rw [hwb]; exact box_below _ _
  have hA : Arr w11 w10.heap.size 26 [.slice a_t Lt.length c_t] := by rw [hwb]; exact Arr.new _ _ _
  replace S_s := Lib.hid (S_s.out.below hb)
  replace B_bs := Lib.hid (B_bs.out.below hb)
  replace R_p := Lib.hid (R_p.out.below hb)
  replace R_a := Lib.hid (R_a.out.below hb)
  replace R_b := Lib.hid (R_b.out.below hb)
  replace R_c := Lib.hid (R_c.out.below hb)
  replace R_d := Lib.hid (R_d.out.below hb)
  replace S_e := Lib.hid (S_e.out.below hb)
  replace B_be := Lib.hid (B_be.out.below hb)
  replace S_t := Lib.hid (S_t.out.below hb)
  have z11 := hb.size
  replace hW := hW.trans (hb.mono hW.size)
  have y11 : w10.heap.size < w11.heap.size := hA.lt
  have B_bt := Lib.hid hA
  have H_w11 := Lib.hid hwb
  clear hwb hb hA
  have hql := eulL_len Lt
  have c := ci_EulerList Lt a_t c_t w11 S_t.out (by omega)
  have hk_bs : w11.cell? ⟨w2.heap.size, 0, none⟩ = some (.slice a_s Ls.length c_s) := B_bs.out.cell 0
  have hk_be : w11.cell? ⟨w8.heap.size, 0, none⟩ = some (.slice a_e Le.length c_e) := B_be.out.cell 0
  have hk_bt : w11.cell? ⟨w10.heap.size, 0, none⟩ = some (.slice a_t Lt.length c_t) := B_bt.out.cell 0
  rw [H_w11.out] at hk_bs hk_be hk_bt
  go_wp2_with fail
  rw [← H_w11.out]
  refine c.mono ?_
  rintro e w12 ⟨v, rfl, ho, hb⟩
  clear c
  clear hk_bs hk_be hk_bt
  obtain ⟨a_q, c_q, rfl, rX⟩ := row_open ho
  clear ho
  replace S_s := Lib.hid (S_s.out.below hb)
  replace B_bs := Lib.hid (B_bs.out.below hb)
  replace R_p := Lib.hid (R_p.out.below hb)
  replace R_a := Lib.hid (R_a.out.below hb)
  replace R_b := Lib.hid (R_b.out.below hb)
  replace R_c := Lib.hid (R_c.out.below hb)
  replace R_d := Lib.hid (R_d.out.below hb)
  replace S_e := Lib.hid (S_e.out.below hb)
  replace B_be := Lib.hid (B_be.out.below hb)
  replace S_t := Lib.hid (S_t.out.below hb)
  replace B_bt := Lib.hid (B_bt.out.below hb)
  have z12 := hb.size
  replace hW := hW.trans (hb.mono hW.size)
  have R_q := Lib.hid rX
  clear rX hb
  obtain ⟨pb, hq⟩ : ∃ t, t = palB Lb := ⟨_, rfl⟩
  have HPB : Hid (palB Lb = pb) := Lib.hid hq.symm
  clear hq
  obtain ⟨ev, hq⟩ : ∃ t, t = eulN Le k := ⟨_, rfl⟩
  have HEV : Hid (eulN Le k = ev) := Lib.hid hq.symm
  clear hq
  have hpp : (pb != pb) = false := by cases pb <;> rfl
  have hee : (ev != ev) = false := by simp
  have hsl := seriesL_len La n
  have hml := mulL_len Lc Ld
  have hl_bs : w2.heap.size < w12.heap.size := B_bs.out.lt
  have hl_be : w8.heap.size < w12.heap.size := B_be.out.lt
  have hl_bt : w10.heap.size < w12.heap.size := B_bt.out.lt
  have HK : Hid (∀ w', Below w12.heap.size w12 w' → w'.cell? ⟨w2.heap.size, 0, none⟩ = some (.slice a_s Ls.length c_s) ∧ w'.cell? ⟨w8.heap.size, 0, none⟩ = some (.slice a_e Le.length c_e) ∧ w'.cell? ⟨w10.heap.size, 0, none⟩ = some (.slice a_t Lt.length c_t) ∧ Below w12.heap.size w12 w') := Lib.hid fun w' h => ⟨(h.cell (p := ⟨w2.heap.size, 0, none⟩) hl_bs).trans (B_bs.out.cell 0), (h.cell (p := ⟨w8.heap.size, 0, none⟩) hl_be).trans (B_be.out.cell 0), (h.cell (p := ⟨w10.heap.size, 0, none⟩) hl_bt).trans (B_bt.out.cell 0), h⟩
  have hS0 : Hid (w12.drew.cell? ⟨w2.heap.size, 0, none⟩ = some (.slice a_s Ls.length c_s) ∧ w12.drew.cell? ⟨w8.heap.size, 0, none⟩ = some (.slice a_e Le.length c_e) ∧ w12.drew.cell? ⟨w10.heap.size, 0, none⟩ = some (.slice a_t Lt.length c_t) ∧ Below w12.heap.size w12 w12.drew) := Lib.hid (HK.out _ (Below.refl w12.heap.size w12).drew)
  have hk_bs : w12.cell? ⟨w2.heap.size, 0, none⟩ = some (.slice a_s Ls.length c_s) := B_bs.out.cell 0
  have hk_be : w12.cell? ⟨w8.heap.size, 0, none⟩ = some (.slice a_e Le.length c_e) := B_be.out.cell 0
  have hk_bt : w12.cell? ⟨w10.heap.size, 0, none⟩ = some (.slice a_t Lt.length c_t) := B_bt.out.cell 0
  go_wp2_with fail
  clear hk_bs hk_be hk_bt
  refine wp_region_held_drew (S := fun w' => w'.cell? ⟨w2.heap.size, 0, none⟩ = some (.slice a_s Ls.length c_s) ∧ w'.cell? ⟨w8.heap.size, 0, none⟩ = some (.slice a_e Le.length c_e) ∧ w'.cell? ⟨w10.heap.size, 0, none⟩ = some (.slice a_t Lt.length c_t) ∧ Below w12.heap.size w12 w') (by kernel_rfl) hS0.out (fun hHeld => ?_)
  refine held_take 0 _ _ rfl (by kernel_rfl) (by kernel_rfl) (by kernel_rfl) (fun _ _ _ h => h) (by rfl) hHeld (fun w hSw => by (try dsimp only at hSw); go_simp; try with_reducible rfl) ?_
  (try simp only [Act.put, List.setIfInBounds_toArray, List.set_cons_zero, List.set_cons_succ, List.getElem_toArray, List.getElem_cons_zero])
  refine held_take 1 _ _ rfl (by kernel_rfl) (by kernel_rfl) (by kernel_rfl) (fun _ _ _ h => h) (by rfl) hHeld (fun w hSw => by (try dsimp only at hSw); go_simp; try with_reducible rfl) ?_
  (try simp only [Act.put, List.setIfInBounds_toArray, List.set_cons_zero, List.set_cons_succ, List.getElem_toArray, List.getElem_cons_succ, List.getElem_cons_zero])
  refine wpAnyH_ready (rs := [2]) (by kernel_rfl) (by simp) ?_
  refine AllReadyH.cons rfl (fun K hK => ?_) AllReadyH.nil
  rw [if_pos (by rfl)]
  go_wp2_with (first | (go_at_call 31; have c := cs_NumeratorOf Ls a_s c_s _ (S_s.out.below (hHeld).2.2.2) (by omega); (with_reducible refine c.mono ?_); rintro e wk ⟨v, rfl, ho, hbk⟩; obtain ⟨a_q1, c_q1, rfl, rX⟩ := row_open ho; have Q_q1 := rX.slv; clear ho rX c))
  refine hK.out _ _ (HK.out _ ((hHeld).2.2.2.trans (hbk.mono (hHeld).2.2.2.size))) (fun hHeld1 => ?_)
  clear hK K
  (try simp only [Act.put, List.setIfInBounds_toArray, List.set_cons_zero, List.set_cons_succ, List.getElem_toArray, List.getElem_cons_succ, List.getElem_cons_zero])
  refine wpAnyH_ready (rs := [3]) (by kernel_rfl) (by simp) ?_
  refine AllReadyH.cons rfl (fun K hK => ?_) AllReadyH.nil
  rw [if_pos (by rfl)]
  go_wp2_with (first | (go_at_call 17; have c := sameInts_any (numL Ls) (numL Ls) a_p a_q1 c_p c_q1 _ (R_p.out.slv.below (hHeld1).2.2.2) Q_q1 (by omega) (by omega); rw [decide_eq_true (rfl : numL Ls = numL Ls)] at c; (with_reducible refine c.mono ?_); rintro e wk ⟨rfl, hbk⟩; clear c))
  refine hK.out _ _ (HK.out _ ((hHeld1).2.2.2.trans (hbk.mono (hHeld1).2.2.2.size))) (fun hHeld2 => ?_)
  clear hK K
  (try simp only [Act.put, List.setIfInBounds_toArray, List.set_cons_zero, List.set_cons_succ, List.getElem_toArray, List.getElem_cons_succ, List.getElem_cons_zero])
  refine held_take 4 _ _ rfl (by kernel_rfl) (by kernel_rfl) (by kernel_rfl) (fun _ _ _ h => h) (by rfl) hHeld2 (fun w hSw => by (try dsimp only at hSw); go_simp; try with_reducible rfl) ?_
  (try simp only [Act.put, List.setIfInBounds_toArray, List.set_cons_zero, List.set_cons_succ, List.getElem_toArray, List.getElem_cons_succ, List.getElem_cons_zero])
  refine held_take 5 _ _ rfl (by kernel_rfl) (by kernel_rfl) (by kernel_rfl) (fun _ _ _ h => h) (by rfl) hHeld2 (fun w hSw => by (try dsimp only at hSw); go_simp; try with_reducible rfl) ?_
  (try simp only [Act.put, List.setIfInBounds_toArray, List.set_cons_zero, List.set_cons_succ, List.getElem_toArray, List.getElem_cons_succ, List.getElem_cons_zero])
  refine held_take 6 _ _ rfl (by kernel_rfl) (by kernel_rfl) (by kernel_rfl) (fun _ _ _ h => h) (by rfl) hHeld2 (fun w hSw => by (try dsimp only at hSw); go_simp; try with_reducible rfl) ?_
  (try simp only [Act.put, List.setIfInBounds_toArray, List.set_cons_zero, List.set_cons_succ, List.getElem_toArray, List.getElem_cons_succ, List.getElem_cons_zero])
  refine held_take 7 _ _ rfl (by kernel_rfl) (by kernel_rfl) (by kernel_rfl) (fun _ _ _ h => h) (by rfl) hHeld2 (fun w hSw => by (try dsimp only at hSw); go_simp; try with_reducible rfl) ?_
  (try simp only [Act.put, List.setIfInBounds_toArray, List.set_cons_zero, List.set_cons_succ, List.getElem_toArray, List.getElem_cons_succ, List.getElem_cons_zero])
  refine held_take 9 _ _ rfl (by kernel_rfl) (by kernel_rfl) (by kernel_rfl) (fun _ _ _ h => h) (by rfl) hHeld2 (fun w hSw => by (try dsimp only at hSw); go_simp; try with_reducible rfl) ?_
  (try simp only [Act.put, List.setIfInBounds_toArray, List.set_cons_zero, List.set_cons_succ, List.getElem_toArray, List.getElem_cons_succ, List.getElem_cons_zero])
  refine held_take 10 _ _ rfl (by kernel_rfl) (by kernel_rfl) (by kernel_rfl) (fun _ _ _ h => h) (by rfl) hHeld2 (fun w hSw => by (try dsimp only at hSw); go_simp; try with_reducible rfl) ?_
  (try simp only [Act.put, List.setIfInBounds_toArray, List.set_cons_zero, List.set_cons_succ, List.getElem_toArray, List.getElem_cons_succ, List.getElem_cons_zero])
  refine wpAnyH_ready (rs := [8]) (by kernel_rfl) (by simp) ?_
  refine AllReadyH.cons rfl (fun K hK => ?_) AllReadyH.nil
  rw [if_pos (by rfl)]
  go_wp2_with (first | (go_at_call 32; have c := ci_SeriesFrom La a_a c_a n _ (R_a.out.slw.below (hHeld2).2.2.2) (by omega) hn64.1 hn64.2; (with_reducible refine c.mono ?_); rintro e wk ⟨v, rfl, ho, hbk⟩; obtain ⟨a_q2, c_q2, rfl, rX⟩ := row_open ho; have Q_q2 := rX.slv; clear ho rX c))
  refine hK.out _ _ (HK.out _ ((hHeld2).2.2.2.trans (hbk.mono (hHeld2).2.2.2.size))) (fun hHeld3 => ?_)
  clear hK K
  (try simp only [Act.put, List.setIfInBounds_toArray, List.set_cons_zero, List.set_cons_succ, List.getElem_toArray, List.getElem_cons_succ, List.getElem_cons_zero])
  refine wpAnyH_ready (rs := [11]) (by kernel_rfl) (by simp) ?_
  refine AllReadyH.cons rfl (fun K hK => ?_) AllReadyH.nil
  rw [if_pos (by rfl)]
  go_wp2_with (first | (go_at_call 33; have c := cs_SeriesFrom La a_a c_a n _ (R_a.out.slw.below (hHeld3).2.2.2) (by omega) hn64.1 hn64.2; (with_reducible refine c.mono ?_); rintro e wk ⟨v, rfl, ho, hbk⟩; obtain ⟨a_q3, c_q3, rfl, rX⟩ := row_open ho; have Q_q3 := rX.slv; have Q_q2' := Q_q2.below hbk; clear ho rX c))
  refine hK.out _ _ (HK.out _ ((hHeld3).2.2.2.trans (hbk.mono (hHeld3).2.2.2.size))) (fun hHeld4 => ?_)
  clear hK K
  (try simp only [Act.put, List.setIfInBounds_toArray, List.set_cons_zero, List.set_cons_succ, List.getElem_toArray, List.getElem_cons_succ, List.getElem_cons_zero])
  refine wpAnyH_ready (rs := [12]) (by kernel_rfl) (by simp) ?_
  refine AllReadyH.cons rfl (fun K hK => ?_) AllReadyH.nil
  rw [if_pos (by rfl)]
  go_wp2_with (first | (go_at_call 17; have c := sameInts_any (seriesL La n) (seriesL La n) a_q2 a_q3 c_q2 c_q3 _ Q_q2' Q_q3 (by omega) (by omega); rw [decide_eq_true (rfl : seriesL La n = seriesL La n)] at c; (with_reducible refine c.mono ?_); rintro e wk ⟨rfl, hbk⟩; clear c))
  refine hK.out _ _ (HK.out _ ((hHeld4).2.2.2.trans (hbk.mono (hHeld4).2.2.2.size))) (fun hHeld5 => ?_)
  clear hK K
  (try simp only [Act.put, List.setIfInBounds_toArray, List.set_cons_zero, List.set_cons_succ, List.getElem_toArray, List.getElem_cons_succ, List.getElem_cons_zero])
  refine held_take 13 _ _ rfl (by kernel_rfl) (by kernel_rfl) (by kernel_rfl) (fun _ _ _ h => h) (by rfl) hHeld5 (fun w hSw => by (try dsimp only at hSw); go_simp; try with_reducible rfl) ?_
  (try simp only [Act.put, List.setIfInBounds_toArray, List.set_cons_zero, List.set_cons_succ, List.getElem_toArray, List.getElem_cons_succ, List.getElem_cons_zero])
  refine held_take 14 _ _ rfl (by kernel_rfl) (by kernel_rfl) (by kernel_rfl) (fun _ _ _ h => h) (by rfl) hHeld5 (fun w hSw => by (try dsimp only at hSw); go_simp; try with_reducible rfl) ?_
  (try simp only [Act.put, List.setIfInBounds_toArray, List.set_cons_zero, List.set_cons_succ, List.getElem_toArray, List.getElem_cons_succ, List.getElem_cons_zero])
  refine held_take 15 _ _ rfl (by kernel_rfl) (by kernel_rfl) (by kernel_rfl) (fun _ _ _ h => h) (by rfl) hHeld5 (fun w hSw => by (try dsimp only at hSw); go_simp; try with_reducible rfl) ?_
  (try simp only [Act.put, List.setIfInBounds_toArray, List.set_cons_zero, List.set_cons_succ, List.getElem_toArray, List.getElem_cons_succ, List.getElem_cons_zero])
  refine held_take 16 _ _ rfl (by kernel_rfl) (by kernel_rfl) (by kernel_rfl) (fun _ _ _ h => h) (by rfl) hHeld5 (fun w hSw => by (try dsimp only at hSw); go_simp; try with_reducible rfl) ?_
  (try simp only [Act.put, List.setIfInBounds_toArray, List.set_cons_zero, List.set_cons_succ, List.getElem_toArray, List.getElem_cons_succ, List.getElem_cons_zero])
  refine held_take 18 _ _ rfl (by kernel_rfl) (by kernel_rfl) (by kernel_rfl) (fun _ _ _ h => h) (by rfl) hHeld5 (fun w hSw => by (try dsimp only at hSw); go_simp; try with_reducible rfl) ?_
  (try simp only [Act.put, List.setIfInBounds_toArray, List.set_cons_zero, List.set_cons_succ, List.getElem_toArray, List.getElem_cons_succ, List.getElem_cons_zero])
  refine wpAnyH_ready (rs := [17]) (by kernel_rfl) (by simp) ?_
  refine AllReadyH.cons rfl (fun K hK => ?_) AllReadyH.nil
  rw [if_pos (by rfl)]
  go_wp2_with (first | (go_at_call 34; have c := ci_IsPalindrome Lb a_b c_b _ (R_b.out.slw.below (hHeld5).2.2.2) (by omega); rw [HPB.out] at c; (with_reducible refine c.mono ?_); rintro e wk ⟨rfl, hbk⟩; clear c))
  refine hK.out _ _ (HK.out _ ((hHeld5).2.2.2.trans (hbk.mono (hHeld5).2.2.2.size))) (fun hHeld6 => ?_)
  clear hK K
  (try simp only [Act.put, List.setIfInBounds_toArray, List.set_cons_zero, List.set_cons_succ, List.getElem_toArray, List.getElem_cons_succ, List.getElem_cons_zero])
  refine wpAnyH_ready (rs := [19]) (by kernel_rfl) (by simp) ?_
  refine AllReadyH.cons rfl (fun K hK => ?_) AllReadyH.nil
  rw [if_pos (by rfl)]
  go_wp2_with (first | (go_at_call 35; have c := cs_IsPalindrome Lb a_b c_b _ (R_b.out.slw.below (hHeld6).2.2.2) (by omega); rw [HPB.out] at c; (with_reducible refine c.mono ?_); rintro e wk ⟨rfl, hbk⟩; clear c))
  refine hK.out _ _ (HK.out _ ((hHeld6).2.2.2.trans (hbk.mono (hHeld6).2.2.2.size))) (fun hHeld7 => ?_)
  clear hK K
  (try simp only [Act.put, List.setIfInBounds_toArray, List.set_cons_zero, List.set_cons_succ, List.getElem_toArray, List.getElem_cons_succ, List.getElem_cons_zero])
  refine held_take 20 _ _ rfl (by kernel_rfl) (by kernel_rfl) (by kernel_rfl) (fun _ _ _ h => h) (by rfl) hHeld7 (fun w hSw => by (try dsimp only at hSw); go_simp; try with_reducible rfl) ?_
  (try simp only [Act.put, List.setIfInBounds_toArray, List.set_cons_zero, List.set_cons_succ, List.getElem_toArray, List.getElem_cons_succ, List.getElem_cons_zero])
  refine held_take 21 _ _ rfl (by kernel_rfl) (by kernel_rfl) (by kernel_rfl) (fun _ _ _ h => h) (by rfl) hHeld7 (fun w hSw => by (try dsimp only at hSw); go_simp; try with_reducible rfl) ?_
  (try simp only [Act.put, List.setIfInBounds_toArray, List.set_cons_zero, List.set_cons_succ, List.getElem_toArray, List.getElem_cons_succ, List.getElem_cons_zero])
  refine held_take 22 _ _ rfl (by kernel_rfl) (by kernel_rfl) (by kernel_rfl) (fun _ _ _ h => h) (by rfl) hHeld7 (fun w hSw => by (try dsimp only at hSw); go_simp; try with_reducible rfl) ?_
  (try simp only [Act.put, List.setIfInBounds_toArray, List.set_cons_zero, List.set_cons_succ, List.getElem_toArray, List.getElem_cons_succ, List.getElem_cons_zero])
  refine held_take 23 _ _ rfl (by kernel_rfl) (by kernel_rfl) (by kernel_rfl) (fun _ _ _ h => h) (by rfl) hHeld7 (fun w hSw => by (try dsimp only at hSw); go_simp; try with_reducible rfl) ?_
  (try simp only [Act.put, List.setIfInBounds_toArray, List.set_cons_zero, List.set_cons_succ, List.getElem_toArray, List.getElem_cons_succ, List.getElem_cons_zero])
  refine held_take 24 _ _ rfl (by kernel_rfl) (by kernel_rfl) (by kernel_rfl) (fun _ _ _ h => h) (by rfl) hHeld7 (fun w hSw => by (try dsimp only at hSw); go_simp; try with_reducible rfl) ?_
  (try simp only [Act.put, List.setIfInBounds_toArray, List.set_cons_zero, List.set_cons_succ, List.getElem_toArray, List.getElem_cons_succ, List.getElem_cons_zero])
  refine held_take 26 _ _ rfl (by kernel_rfl) (by kernel_rfl) (by kernel_rfl) (fun _ _ _ h => h) (by rfl) hHeld7 (fun w hSw => by (try dsimp only at hSw); go_simp; try with_reducible rfl) ?_
  (try simp only [Act.put, List.setIfInBounds_toArray, List.set_cons_zero, List.set_cons_succ, List.getElem_toArray, List.getElem_cons_succ, List.getElem_cons_zero])
  refine held_take 27 _ _ rfl (by kernel_rfl) (by kernel_rfl) (by kernel_rfl) (fun _ _ _ h => h) (by rfl) hHeld7 (fun w hSw => by (try dsimp only at hSw); go_simp; try with_reducible rfl) ?_
  (try simp only [Act.put, List.setIfInBounds_toArray, List.set_cons_zero, List.set_cons_succ, List.getElem_toArray, List.getElem_cons_succ, List.getElem_cons_zero])
  refine wpAnyH_ready (rs := [25]) (by kernel_rfl) (by simp) ?_
  refine AllReadyH.cons rfl (fun K hK => ?_) AllReadyH.nil
  rw [if_pos (by rfl)]
  go_wp2_with (first | (go_at_call 36; have c := ci_MultiplyLists Lc a_c c_c Ld a_d c_d _ (R_c.out.slw.below (hHeld7).2.2.2) (R_d.out.slw.below (hHeld7).2.2.2) (by omega) (by omega); (with_reducible refine c.mono ?_); rintro e wk ⟨v, rfl, ho, hbk⟩; obtain ⟨a_q4, c_q4, rfl, rX⟩ := row_open ho; have Q_q4 := rX.slv; clear ho rX c))
  refine hK.out _ _ (HK.out _ ((hHeld7).2.2.2.trans (hbk.mono (hHeld7).2.2.2.size))) (fun hHeld8 => ?_)
  clear hK K
  (try simp only [Act.put, List.setIfInBounds_toArray, List.set_cons_zero, List.set_cons_succ, List.getElem_toArray, List.getElem_cons_succ, List.getElem_cons_zero])
  refine wpAnyH_ready (rs := [28]) (by kernel_rfl) (by simp) ?_
  refine AllReadyH.cons rfl (fun K hK => ?_) AllReadyH.nil
  rw [if_pos (by rfl)]
  go_wp2_with (first | (go_at_call 37; have c := cs_MultiplyLists Lc a_c c_c Ld a_d c_d _ (R_c.out.slw.below (hHeld8).2.2.2) (R_d.out.slw.below (hHeld8).2.2.2) (by omega) (by omega); (with_reducible refine c.mono ?_); rintro e wk ⟨v, rfl, ho, hbk⟩; obtain ⟨a_q5, c_q5, rfl, rX⟩ := row_open ho; have Q_q5 := rX.slv; have Q_q4' := Q_q4.below hbk; clear ho rX c))
  refine hK.out _ _ (HK.out _ ((hHeld8).2.2.2.trans (hbk.mono (hHeld8).2.2.2.size))) (fun hHeld9 => ?_)
  clear hK K
  (try simp only [Act.put, List.setIfInBounds_toArray, List.set_cons_zero, List.set_cons_succ, List.getElem_toArray, List.getElem_cons_succ, List.getElem_cons_zero])
  refine wpAnyH_ready (rs := [29]) (by kernel_rfl) (by simp) ?_
  refine AllReadyH.cons rfl (fun K hK => ?_) AllReadyH.nil
  rw [if_pos (by rfl)]
  go_wp2_with (first | (go_at_call 17; have c := sameInts_any (mulL Lc Ld) (mulL Lc Ld) a_q4 a_q5 c_q4 c_q5 _ Q_q4' Q_q5 (by omega) (by omega); rw [decide_eq_true (rfl : mulL Lc Ld = mulL Lc Ld)] at c; (with_reducible refine c.mono ?_); rintro e wk ⟨rfl, hbk⟩; clear c))
  refine hK.out _ _ (HK.out _ ((hHeld9).2.2.2.trans (hbk.mono (hHeld9).2.2.2.size))) (fun hHeld10 => ?_)
  clear hK K
  (try simp only [Act.put, List.setIfInBounds_toArray, List.set_cons_zero, List.set_cons_succ, List.getElem_toArray, List.getElem_cons_succ, List.getElem_cons_zero])
  refine held_take 30 _ _ rfl (by kernel_rfl) (by kernel_rfl) (by kernel_rfl) (fun _ _ _ h => h) (by rfl) hHeld10 (fun w hSw => by (try dsimp only at hSw); go_simp; try with_reducible rfl) ?_
  (try simp only [Act.put, List.setIfInBounds_toArray, List.set_cons_zero, List.set_cons_succ, List.getElem_toArray, List.getElem_cons_succ, List.getElem_cons_zero])
  refine held_take 31 _ _ rfl (by kernel_rfl) (by kernel_rfl) (by kernel_rfl) (fun _ _ _ h => h) (by rfl) hHeld10 (fun w hSw => by (try dsimp only at hSw); go_simp; try with_reducible rfl) ?_
  (try simp only [Act.put, List.setIfInBounds_toArray, List.set_cons_zero, List.set_cons_succ, List.getElem_toArray, List.getElem_cons_succ, List.getElem_cons_zero])
  refine held_take 32 _ _ rfl (by kernel_rfl) (by kernel_rfl) (by kernel_rfl) (fun _ _ _ h => h) (by rfl) hHeld10 (fun w hSw => by (try dsimp only at hSw); go_simp; try with_reducible rfl) ?_
  (try simp only [Act.put, List.setIfInBounds_toArray, List.set_cons_zero, List.set_cons_succ, List.getElem_toArray, List.getElem_cons_succ, List.getElem_cons_zero])
  refine held_take 33 _ _ rfl (by kernel_rfl) (by kernel_rfl) (by kernel_rfl) (fun _ _ _ h => h) (by rfl) hHeld10 (fun w hSw => by (try dsimp only at hSw); go_simp; try with_reducible rfl) ?_
  (try simp only [Act.put, List.setIfInBounds_toArray, List.set_cons_zero, List.set_cons_succ, List.getElem_toArray, List.getElem_cons_succ, List.getElem_cons_zero])
  refine held_take 34 _ _ rfl (by kernel_rfl) (by kernel_rfl) (by kernel_rfl) (fun _ _ _ h => h) (by rfl) hHeld10 (fun w hSw => by (try dsimp only at hSw); go_simp; try with_reducible rfl) ?_
  (try simp only [Act.put, List.setIfInBounds_toArray, List.set_cons_zero, List.set_cons_succ, List.getElem_toArray, List.getElem_cons_succ, List.getElem_cons_zero])
  refine held_take 36 _ _ rfl (by kernel_rfl) (by kernel_rfl) (by kernel_rfl) (fun _ _ _ h => h) (by rfl) hHeld10 (fun w hSw => by (try dsimp only at hSw); go_simp; try with_reducible rfl) ?_
  (try simp only [Act.put, List.setIfInBounds_toArray, List.set_cons_zero, List.set_cons_succ, List.getElem_toArray, List.getElem_cons_succ, List.getElem_cons_zero])
  refine held_take 37 _ _ rfl (by kernel_rfl) (by kernel_rfl) (by kernel_rfl) (fun _ _ _ h => h) (by rfl) hHeld10 (fun w hSw => by (try dsimp only at hSw); go_simp; try with_reducible rfl) ?_
  (try simp only [Act.put, List.setIfInBounds_toArray, List.set_cons_zero, List.set_cons_succ, List.getElem_toArray, List.getElem_cons_succ, List.getElem_cons_zero])
  refine wpAnyH_ready (rs := [35]) (by kernel_rfl) (by simp) ?_
  refine AllReadyH.cons rfl (fun K hK => ?_) AllReadyH.nil
  rw [if_pos (by rfl)]
  go_wp2_with (first | (go_at_call 38; have c := ci_EulerAt Le a_e c_e k _ (S_e.out.below (hHeld10).2.2.2) (by omega) hk64.1 hk64.2; rw [HEV.out] at c; (with_reducible refine c.mono ?_); rintro e wk ⟨rfl, hbk⟩; clear c))
  refine hK.out _ _ (HK.out _ ((hHeld10).2.2.2.trans (hbk.mono (hHeld10).2.2.2.size))) (fun hHeld11 => ?_)
  clear hK K
  (try simp only [Act.put, List.setIfInBounds_toArray, List.set_cons_zero, List.set_cons_succ, List.getElem_toArray, List.getElem_cons_succ, List.getElem_cons_zero])
  refine wpAnyH_ready (rs := [38]) (by kernel_rfl) (by simp) ?_
  refine AllReadyH.cons rfl (fun K hK => ?_) AllReadyH.nil
  rw [if_pos (by rfl)]
  go_wp2_with (first | (go_at_call 39; have c := cs_EulerAt Le a_e c_e k _ (S_e.out.below (hHeld11).2.2.2) (by omega) hk64.1 hk64.2; rw [HEV.out] at c; (with_reducible refine c.mono ?_); rintro e wk ⟨rfl, hbk⟩; clear c))
  refine hK.out _ _ (HK.out _ ((hHeld11).2.2.2.trans (hbk.mono (hHeld11).2.2.2.size))) (fun hHeld12 => ?_)
  clear hK K
  (try simp only [Act.put, List.setIfInBounds_toArray, List.set_cons_zero, List.set_cons_succ, List.getElem_toArray, List.getElem_cons_succ, List.getElem_cons_zero])
  refine held_take 39 _ _ rfl (by kernel_rfl) (by kernel_rfl) (by kernel_rfl) (fun _ _ _ h => h) (by rfl) hHeld12 (fun w hSw => by (try dsimp only at hSw); go_simp; try with_reducible rfl) ?_
  (try simp only [Act.put, List.setIfInBounds_toArray, List.set_cons_zero, List.set_cons_succ, List.getElem_toArray, List.getElem_cons_succ, List.getElem_cons_zero])
  refine held_take 40 _ _ rfl (by kernel_rfl) (by kernel_rfl) (by kernel_rfl) (fun _ _ _ h => h) (by rfl) hHeld12 (fun w hSw => by (try dsimp only at hSw); go_simp; try with_reducible rfl) ?_
  (try simp only [Act.put, List.setIfInBounds_toArray, List.set_cons_zero, List.set_cons_succ, List.getElem_toArray, List.getElem_cons_succ, List.getElem_cons_zero])
  refine held_take 41 _ _ rfl (by kernel_rfl) (by kernel_rfl) (by kernel_rfl) (fun _ _ _ h => h) (by rfl) hHeld12 (fun w hSw => by (try dsimp only at hSw); go_simp; try with_reducible rfl) ?_
  (try simp only [Act.put, List.setIfInBounds_toArray, List.set_cons_zero, List.set_cons_succ, List.getElem_toArray, List.getElem_cons_succ, List.getElem_cons_zero])
  refine held_take 42 _ _ rfl (by kernel_rfl) (by kernel_rfl) (by kernel_rfl) (fun _ _ _ h => h) (by rfl) hHeld12 (fun w hSw => by (try dsimp only at hSw); go_simp; try with_reducible rfl) ?_
  (try simp only [Act.put, List.setIfInBounds_toArray, List.set_cons_zero, List.set_cons_succ, List.getElem_toArray, List.getElem_cons_succ, List.getElem_cons_zero])
  refine held_take 43 _ _ rfl (by kernel_rfl) (by kernel_rfl) (by kernel_rfl) (fun _ _ _ h => h) (by rfl) hHeld12 (fun w hSw => by (try dsimp only at hSw); go_simp; try with_reducible rfl) ?_
  (try simp only [Act.put, List.setIfInBounds_toArray, List.set_cons_zero, List.set_cons_succ, List.getElem_toArray, List.getElem_cons_succ, List.getElem_cons_zero])
  refine wpAnyH_ready (rs := [44]) (by kernel_rfl) (by simp) ?_
  refine AllReadyH.cons rfl (fun K hK => ?_) AllReadyH.nil
  rw [if_pos (by rfl)]
  go_wp2_with (first | (go_at_call 40; have c := cs_EulerList Lt a_t c_t _ (S_t.out.below (hHeld12).2.2.2) (by omega); (with_reducible refine c.mono ?_); rintro e wk ⟨v, rfl, ho, hbk⟩; obtain ⟨a_q6, c_q6, rfl, rX⟩ := row_open ho; have Q_q6 := rX.slv; clear ho rX c))
  refine hK.out _ _ (HK.out _ ((hHeld12).2.2.2.trans (hbk.mono (hHeld12).2.2.2.size))) (fun hHeld13 => ?_)
  clear hK K
  (try simp only [Act.put, List.setIfInBounds_toArray, List.set_cons_zero, List.set_cons_succ, List.getElem_toArray, List.getElem_cons_succ, List.getElem_cons_zero])
  refine wpAnyH_ready (rs := [45]) (by kernel_rfl) (by simp) ?_
  refine AllReadyH.cons rfl (fun K hK => ?_) AllReadyH.nil
  rw [if_pos (by rfl)]
  go_wp2_with (first | (go_at_call 17; have c := sameInts_any (eulL Lt) (eulL Lt) a_q a_q6 c_q c_q6 _ (R_q.out.slv.below (hHeld13).2.2.2) Q_q6 (by omega) (by omega); rw [decide_eq_true (rfl : eulL Lt = eulL Lt)] at c; (with_reducible refine c.mono ?_); rintro e wk ⟨rfl, hbk⟩; clear c))
  refine hK.out _ _ (HK.out _ ((hHeld13).2.2.2.trans (hbk.mono (hHeld13).2.2.2.size))) (fun hHeld14 => ?_)
  clear hK K
  (try simp only [Act.put, List.setIfInBounds_toArray, List.set_cons_zero, List.set_cons_succ, List.getElem_toArray, List.getElem_cons_succ, List.getElem_cons_zero])
  refine held_take 46 _ _ rfl (by kernel_rfl) (by kernel_rfl) (by kernel_rfl) (fun _ _ _ h => h) (by rfl) hHeld14 (fun w hSw => by (try dsimp only at hSw); go_simp; try with_reducible rfl) ?_
  (try simp only [Act.put, List.setIfInBounds_toArray, List.set_cons_zero, List.set_cons_succ, List.getElem_toArray, List.getElem_cons_succ, List.getElem_cons_zero])
  refine held_take 47 _ _ rfl (by kernel_rfl) (by kernel_rfl) (by kernel_rfl) (fun _ _ _ h => h) (by rfl) hHeld14 (fun w hSw => by (try dsimp only at hSw); go_simp; try with_reducible rfl) ?_
  (try simp only [Act.put, List.setIfInBounds_toArray, List.set_cons_zero, List.set_cons_succ, List.getElem_toArray, List.getElem_cons_succ, List.getElem_cons_zero])
  refine wpAnyH_done (by kernel_rfl) ?_ _
  have hB9 := (hHeld14).2.2.2
  clear hS0 HK hHeld14 hpp hee HPB HEV hn64 hk64 hsl hml
  rename World => wq
  have hb := hB9
  replace S_s := Lib.hid (S_s.out.below hb)
  replace B_bs := Lib.hid (B_bs.out.below hb)
  replace R_p := Lib.hid (R_p.out.below hb)
  replace R_a := Lib.hid (R_a.out.below hb)
  replace R_b := Lib.hid (R_b.out.below hb)
  replace R_c := Lib.hid (R_c.out.below hb)
  replace R_d := Lib.hid (R_d.out.below hb)
  replace S_e := Lib.hid (S_e.out.below hb)
  replace B_be := Lib.hid (B_be.out.below hb)
  replace S_t := Lib.hid (S_t.out.below hb)
  replace B_bt := Lib.hid (B_bt.out.below hb)
  replace R_q := Lib.hid (R_q.out.below hb)
  have z13 := hb.size
  replace hW := hW.trans (hb.mono hW.size)
  clear hb hB9 HR hl hl_bs hl_be hl_bt
  clear R_a
  clear R_b
  clear R_c
  clear R_d
  clear S_e
  clear B_be
  have hl_bs : w2.heap.size < wq.heap.size := B_bs.out.lt
  have HC_bs := Lib.hid (B_bs.out.cell 0)
  have hl_bt : w10.heap.size < wq.heap.size := B_bt.out.lt
  have HC_bt := Lib.hid (B_bt.out.cell 0)
  have hWz := hW.size
  clear B_bs B_bt
  go_wp2_with fail
  go_loopw [14] (fun z wr => ∃ i : Nat, i ≤ (eulL Lt).length + 6 ∧ z = .int .i64 (i : Int) ∧ Below wq.heap.size wq wr) (fun z _ => (eulL Lt).length + 7 - (intOf z).toNat)
  case atStart => exact ⟨0, by omega, rfl, Below.refl _ _⟩
  case round =>
    rename World => wr
    obtain ⟨i, hi, rfl, hbel⟩ := hrel
    have hbz := hbel.size
    by_cases hlt : i < (eulL Lt).length
    · have hlti : (i : Int) < ((eulL Lt).length : Int) := by omega
      have hltd := decide_eq_true hlti
      have hi0 : (0 : Int) ≤ (i : Int) := by omega
      have hsg : isSgB Lt = true := by
        cases h : isSgB Lt
        · rw [eulL_no h] at hlt; simp at hlt
        · rfl
      obtain ⟨b, off, haq, hbs, hcl⟩ := R_q.out.slv.open (by intro h; rw [List.map_eq_nil_iff] at h; rw [h] at hlt; simp at hlt)
      have HCL := Lib.hid hcl
      have hev := eulL_get hsg i hlt
      have HX : Hid (((eulL Lt).map (Value.int .i64))[i]? = some (.int .i64 (eulN Lt (i : Int)))) := Lib.hid (by rw [← hev]; simp [hlt])
      subst haq
      clear hcl hev hsg
      obtain ⟨y, hy⟩ : ∃ y, y = eulN Lt (i : Int) := ⟨_, rfl⟩
      have HK : Hid (∀ w', Below wr.heap.size wr w' → w'.cell? ⟨w10.heap.size, 0, none⟩ = some (.slice a_t Lt.length c_t) ∧ w'.cell? ⟨b, off + i, none⟩ = some (.int .i64 y) ∧ Below wr.heap.size wr w') := Lib.hid fun w' h => ⟨((hbel.trans (h.mono hbz)).cell (p := ⟨w10.heap.size, 0, none⟩) hl_bt).trans HC_bt.out, ((hbel.trans (h.mono hbz)).cell (p := ⟨b, off + i, none⟩) hbs).trans ((HCL.out i _ HX.out).trans (by rw [hy])), h⟩
      have hS0 := HK.out _ (Below.refl wr.heap.size wr).drew
      have c1 := fun w' (h : Below wr.heap.size wr w') => ci_EulerAt Lt a_t c_t (i : Int) w' (S_t.out.below (hbel.trans (h.mono hbz))) (by omega) (by omega) (by omega)
      rw [← hy] at c1
      clear hy HX
      have hyy : (y != y) = false := by simp
      go_wp2_with fail
      refine wp_region_held_drew (S := fun w' => w'.cell? ⟨w10.heap.size, 0, none⟩ = some (.slice a_t Lt.length c_t) ∧ w'.cell? ⟨b, off + i, none⟩ = some (.int .i64 y) ∧ Below wr.heap.size wr w') (by kernel_rfl) hS0 (fun hHeld => ?_)
      refine held_take 0 _ _ rfl (by kernel_rfl) (by kernel_rfl) (by kernel_rfl) (fun _ _ _ h => h) (by rfl) hHeld (fun w hSw => by (try dsimp only at hSw); go_simp; try with_reducible rfl) ?_
      (try simp only [Act.put, List.setIfInBounds_toArray, List.set_cons_zero, List.set_cons_succ, List.getElem_toArray, List.getElem_cons_zero])
      refine held_take 1 _ _ rfl (by kernel_rfl) (by kernel_rfl) (by kernel_rfl) (fun _ _ _ h => h) (by rfl) hHeld (fun w hSw => by (try dsimp only at hSw); go_simp; try with_reducible rfl) ?_
      (try simp only [Act.put, List.setIfInBounds_toArray, List.set_cons_zero, List.set_cons_succ, List.getElem_toArray, List.getElem_cons_succ, List.getElem_cons_zero])
      refine held_take 2 _ _ rfl (by kernel_rfl) (by kernel_rfl) (by kernel_rfl) (fun _ _ _ h => h) (by rfl) hHeld (fun w hSw => by (try dsimp only at hSw); go_simp; try with_reducible rfl) ?_
      (try simp only [Act.put, List.setIfInBounds_toArray, List.set_cons_zero, List.set_cons_succ, List.getElem_toArray, List.getElem_cons_succ, List.getElem_cons_zero])
      refine held_take 3 _ _ rfl (by kernel_rfl) (by kernel_rfl) (by kernel_rfl) (fun _ _ _ h => h) (by rfl) hHeld (fun w hSw => by (try dsimp only at hSw); go_simp; try with_reducible rfl) ?_
      (try simp only [Act.put, List.setIfInBounds_toArray, List.set_cons_zero, List.set_cons_succ, List.getElem_toArray, List.getElem_cons_succ, List.getElem_cons_zero])
      refine held_take 4 _ _ rfl (by kernel_rfl) (by kernel_rfl) (by kernel_rfl) (fun _ _ _ h => h) (by rfl) hHeld (fun w hSw => by (try dsimp only at hSw); go_simp; try with_reducible rfl) ?_
      (try simp only [Act.put, List.setIfInBounds_toArray, List.set_cons_zero, List.set_cons_succ, List.getElem_toArray, List.getElem_cons_succ, List.getElem_cons_zero])
      refine held_take 5 _ _ rfl (by kernel_rfl) (by kernel_rfl) (by kernel_rfl) (fun _ _ _ h => h) (by rfl) hHeld (fun w hSw => by (try dsimp only at hSw); go_simp; try with_reducible rfl) ?_
      (try simp only [Act.put, List.setIfInBounds_toArray, List.set_cons_zero, List.set_cons_succ, List.getElem_toArray, List.getElem_cons_succ, List.getElem_cons_zero])
      refine wpAnyH_ready (rs := [6]) (by kernel_rfl) (by simp) ?_
      refine AllReadyH.cons rfl (fun K hK => ?_) AllReadyH.nil
      rw [if_pos (by rfl)]
      go_wp2_with (first | (go_at_call 38; (with_reducible refine (c1 _ hHeld.2.2).mono ?_); rintro e wk ⟨rfl, hbk⟩))
      refine hK.out _ _ (HK.out _ ((hHeld).2.2.trans (hbk.mono (hHeld).2.2.size))) (fun hHeld1 => ?_)
      clear hK K
      (try simp only [Act.put, List.setIfInBounds_toArray, List.set_cons_zero, List.set_cons_succ, List.getElem_toArray, List.getElem_cons_succ, List.getElem_cons_zero])
      refine held_take 7 _ _ rfl (by kernel_rfl) (by kernel_rfl) (by kernel_rfl) (fun _ _ _ h => h) (by rfl) hHeld1 (fun w hSw => by (try dsimp only at hSw); go_simp; try with_reducible rfl) ?_
      (try simp only [Act.put, List.setIfInBounds_toArray, List.set_cons_zero, List.set_cons_succ, List.getElem_toArray, List.getElem_cons_succ, List.getElem_cons_zero])
      refine wpAnyH_done (by kernel_rfl) ?_ _
      have hbF := hbel.trans ((hHeld1).2.2.mono hbz)
      clear hS0 hHeld1 c1 HK hyy
      go_wp2_with fail
      go_roundw
      case rel => exact ⟨i + 7, by omega, by go_num, hbF⟩
      case measure => simp [intOf]; omega
    · have hlti : ¬ (i : Int) < ((eulL Lt).length : Int) := by omega
      have hltd := decide_eq_false hlti
      have hcs := ((hbel).cell (p := ⟨w2.heap.size, 0, none⟩) hl_bs).trans HC_bs.out
      have c1 := cs_IsSemigroup Ls a_s c_s wr (S_s.out.below hbel) (by omega)
      cases hsg : isSgB Ls
      · rw [hsg] at c1
        have e0 := numL_no hsg
        have hp0 : (numL Ls).length = 0 := by rw [e0]; rfl
        have HP0 := Lib.hid hp0
        have hpz : (((numL Ls).length : Int) == 0) = true := by rw [hp0]; rfl
        clear e0 hp0 hsg
        go_wp2_with fail
        refine c1.mono ?_
        rintro e wx ⟨rfl, hb8⟩
        have hF := hW.trans ((hbel.trans (hb8.mono hbz)).mono hWz)
        clear c1
        go_wp2_with fail
        go_ret
        exact ⟨by first | rfl | simp [HP0.out], hF⟩
      · rw [hsg] at c1
        have HSG := Lib.hid hsg
        clear hsg
        go_wp2_with fail
        refine c1.mono ?_
        rintro e wx ⟨rfl, hb8⟩
        have hb3 := hbel.trans (hb8.mono hbz)
        clear c1 hcs hb8 hltd hlti hlt
        have c1 := ci_SeriesFrom (numL Ls) a_p c_p 60 wx (R_p.out.slw.below hb3) (by omega) (by decide) (by decide)
        go_wp2_with fail
        refine c1.mono ?_
        rintro e wy ⟨v, rfl, ho, hb9⟩
        obtain ⟨a_u, c_u, rfl, rX⟩ := row_open ho
        have R_u := Lib.hid rX
        have hb4 := hb3.trans (hb9.mono hb3.size)
        have hz4 := hb4.size
        have hul := (series_num HSG.out).1
        have hul' : (seriesL (numL Ls) 60).length ≤ 60 := by omega
        have HUG := Lib.hid (series_num HSG.out).2
        clear ho rX c1 hb3 hb9 hul
        go_wp2_with fail
        go_loopw [16] (fun z wr => ∃ j : Nat, j ≤ (seriesL (numL Ls) 60).length ∧ z = .int .i64 (j : Int) ∧ Below wy.heap.size wy wr) (fun z _ => (seriesL (numL Ls) 60).length - (intOf z).toNat)
        case atStart => exact ⟨0, Nat.zero_le _, rfl, Below.refl _ _⟩
        case round =>
          rename World => wv
          obtain ⟨j, hj, rfl, hb5⟩ := hrel
          have hbz5 := hb5.size
          have hb6 := hb4.trans (hb5.mono hz4)
          have hbz6 := hb6.size
          by_cases hjl : j < (seriesL (numL Ls) 60).length
          · have hjli : (j : Int) < ((seriesL (numL Ls) 60).length : Int) := by omega
            have hjld := decide_eq_true hjli
            have hj0 : (0 : Int) ≤ (j : Int) := by omega
            obtain ⟨b, off, hau, hbs, hcl⟩ := R_u.out.slv.open (by intro h; rw [List.map_eq_nil_iff] at h; rw [h] at hjl; simp at hjl)
            have hev := HUG.out j hjl
            have HX : Hid (((seriesL (numL Ls) 60).map (Value.int .i64))[j]? = some (.int .i64 (bitI (hasN Ls (j : Int))))) := Lib.hid (by rw [← hev]; simp [hjl])
            have HCL := Lib.hid hcl
            have h00 : j = 0 → hasN Ls (j : Int) = true := fun e => by rw [e, hasN_in HSG.out]; exact sumB_iff.2 .zero
            subst hau
            clear hcl hev
            by_cases h0 : j = 0
            · have HR2 := Lib.hid (h00 h0)
              have hq1 : ((j : Int) == 0) = true := by rw [h0]; rfl
              clear h0 h00
              have HK : Hid (∀ w', Below wv.heap.size wv w' → w'.cell? ⟨w2.heap.size, 0, none⟩ = some (.slice a_s Ls.length c_s) ∧ w'.cell? ⟨b, off + j, none⟩ = some (.int .i64 1) ∧ Below wv.heap.size wv w') := Lib.hid fun w' h => ⟨((hb6.trans (h.mono hbz6)).cell (p := ⟨w2.heap.size, 0, none⟩) hl_bs).trans HC_bs.out, ((hb5.trans (h.mono hbz5)).cell (p := ⟨b, off + j, none⟩) hbs).trans ((HCL.out j _ HX.out).trans (by rw [HR2.out]; rfl)), h⟩
              have hS0 := HK.out _ (Below.refl wv.heap.size wv).drew
              have c1 := fun w' (h : Below wv.heap.size wv w') => spec_Contains Ls (j : Int) a_s c_s w' (S_s.out.sl.below (hb6.trans (h.mono hbz6))) (by omega)
              rw [HR2.out] at c1
              go_wp2_with fail
              refine wp_region_held_drew (S := fun w' => w'.cell? ⟨w2.heap.size, 0, none⟩ = some (.slice a_s Ls.length c_s) ∧ w'.cell? ⟨b, off + j, none⟩ = some (.int .i64 1) ∧ Below wv.heap.size wv w') (by kernel_rfl) hS0 (fun hHeld => ?_)
              refine held_take 0 _ _ rfl (by kernel_rfl) (by kernel_rfl) (by kernel_rfl) (fun _ _ _ h => h) (by rfl) hHeld (fun w hSw => by (try dsimp only at hSw); go_simp; try with_reducible rfl) ?_
              (try simp only [Act.put, List.setIfInBounds_toArray, List.set_cons_zero, List.set_cons_succ, List.getElem_toArray, List.getElem_cons_zero])
              refine held_take 1 _ _ rfl (by kernel_rfl) (by kernel_rfl) (by kernel_rfl) (fun _ _ _ h => h) (by rfl) hHeld (fun w hSw => by (try dsimp only at hSw); go_simp; try with_reducible rfl) ?_
              (try simp only [Act.put, List.setIfInBounds_toArray, List.set_cons_zero, List.set_cons_succ, List.getElem_toArray, List.getElem_cons_succ, List.getElem_cons_zero])
              refine held_take 2 _ _ rfl (by kernel_rfl) (by kernel_rfl) (by kernel_rfl) (fun _ _ _ h => h) (by rfl) hHeld (fun w hSw => by (try dsimp only at hSw); go_simp; try with_reducible rfl) ?_
              (try simp only [Act.put, List.setIfInBounds_toArray, List.set_cons_zero, List.set_cons_succ, List.getElem_toArray, List.getElem_cons_succ, List.getElem_cons_zero])
              refine held_take 3 _ _ rfl (by kernel_rfl) (by kernel_rfl) (by kernel_rfl) (fun _ _ _ h => h) (by rfl) hHeld (fun w hSw => by (try dsimp only at hSw); go_simp; try with_reducible rfl) ?_
              (try simp only [Act.put, List.setIfInBounds_toArray, List.set_cons_zero, List.set_cons_succ, List.getElem_toArray, List.getElem_cons_succ, List.getElem_cons_zero])
              refine held_take 4 _ _ rfl (by kernel_rfl) (by kernel_rfl) (by kernel_rfl) (fun _ _ _ h => h) (by rfl) hHeld (fun w hSw => by (try dsimp only at hSw); go_simp; try with_reducible rfl) ?_
              (try simp only [Act.put, List.setIfInBounds_toArray, List.set_cons_zero, List.set_cons_succ, List.getElem_toArray, List.getElem_cons_succ, List.getElem_cons_zero])
              refine held_take 5 _ _ rfl (by kernel_rfl) (by kernel_rfl) (by kernel_rfl) (fun _ _ _ h => h) (by rfl) hHeld (fun w hSw => by (try dsimp only at hSw); go_simp; try with_reducible rfl) ?_
              (try simp only [Act.put, List.setIfInBounds_toArray, List.set_cons_zero, List.set_cons_succ, List.getElem_toArray, List.getElem_cons_succ, List.getElem_cons_zero])
              refine held_take 6 _ _ rfl (by kernel_rfl) (by kernel_rfl) (by kernel_rfl) (fun _ _ _ h => h) (by rfl) hHeld (fun w hSw => by (try dsimp only at hSw); go_simp; try with_reducible rfl) ?_
              (try simp only [Act.put, List.setIfInBounds_toArray, List.set_cons_zero, List.set_cons_succ, List.getElem_toArray, List.getElem_cons_succ, List.getElem_cons_zero])
              refine held_take 7 _ _ rfl (by kernel_rfl) (by kernel_rfl) (by kernel_rfl) (fun _ _ _ h => h) (by rfl) hHeld (fun w hSw => by (try dsimp only at hSw); go_simp; try with_reducible rfl) ?_
              (try simp only [Act.put, List.setIfInBounds_toArray, List.set_cons_zero, List.set_cons_succ, List.getElem_toArray, List.getElem_cons_succ, List.getElem_cons_zero])
              refine held_skip 8 _ rfl (by kernel_rfl) (by kernel_rfl) (by kernel_rfl) (fun _ _ _ h => h) (by rfl) hHeld ?_
              (try simp only [Act.put, List.setIfInBounds_toArray, List.set_cons_zero, List.set_cons_succ, List.getElem_toArray, List.getElem_cons_succ, List.getElem_cons_zero])
              refine held_skip 9 _ rfl (by kernel_rfl) (by kernel_rfl) (by kernel_rfl) (fun _ _ _ h => h) (by rfl) hHeld ?_
              (try simp only [Act.put, List.setIfInBounds_toArray, List.set_cons_zero, List.set_cons_succ, List.getElem_toArray, List.getElem_cons_succ, List.getElem_cons_zero])
              refine held_skip 10 _ rfl (by kernel_rfl) (by kernel_rfl) (by kernel_rfl) (fun _ _ _ h => h) (by rfl) hHeld ?_
              (try simp only [Act.put, List.setIfInBounds_toArray, List.set_cons_zero, List.set_cons_succ, List.getElem_toArray, List.getElem_cons_succ, List.getElem_cons_zero])
              refine held_take 11 _ _ rfl (by kernel_rfl) (by kernel_rfl) (by kernel_rfl) (fun _ _ _ h => h) (by rfl) hHeld (fun w hSw => by (try dsimp only at hSw); go_simp; try with_reducible rfl) ?_
              (try simp only [Act.put, List.setIfInBounds_toArray, List.set_cons_zero, List.set_cons_succ, List.getElem_toArray, List.getElem_cons_succ, List.getElem_cons_zero])
              refine held_take 12 _ _ rfl (by kernel_rfl) (by kernel_rfl) (by kernel_rfl) (fun _ _ _ h => h) (by rfl) hHeld (fun w hSw => by (try dsimp only at hSw); go_simp; try with_reducible rfl) ?_
              (try simp only [Act.put, List.setIfInBounds_toArray, List.set_cons_zero, List.set_cons_succ, List.getElem_toArray, List.getElem_cons_succ, List.getElem_cons_zero])
              refine held_take 13 _ _ rfl (by kernel_rfl) (by kernel_rfl) (by kernel_rfl) (fun _ _ _ h => h) (by rfl) hHeld (fun w hSw => by (try dsimp only at hSw); go_simp; try with_reducible rfl) ?_
              (try simp only [Act.put, List.setIfInBounds_toArray, List.set_cons_zero, List.set_cons_succ, List.getElem_toArray, List.getElem_cons_succ, List.getElem_cons_zero])
              refine held_take 14 _ _ rfl (by kernel_rfl) (by kernel_rfl) (by kernel_rfl) (fun _ _ _ h => h) (by rfl) hHeld (fun w hSw => by (try dsimp only at hSw); go_simp; try with_reducible rfl) ?_
              (try simp only [Act.put, List.setIfInBounds_toArray, List.set_cons_zero, List.set_cons_succ, List.getElem_toArray, List.getElem_cons_succ, List.getElem_cons_zero])
              refine held_take 15 _ _ rfl (by kernel_rfl) (by kernel_rfl) (by kernel_rfl) (fun _ _ _ h => h) (by rfl) hHeld (fun w hSw => by (try dsimp only at hSw); go_simp; try with_reducible rfl) ?_
              (try simp only [Act.put, List.setIfInBounds_toArray, List.set_cons_zero, List.set_cons_succ, List.getElem_toArray, List.getElem_cons_succ, List.getElem_cons_zero])
              refine held_take 16 _ _ rfl (by kernel_rfl) (by kernel_rfl) (by kernel_rfl) (fun _ _ _ h => h) (by rfl) hHeld (fun w hSw => by (try dsimp only at hSw); go_simp; try with_reducible rfl) ?_
              (try simp only [Act.put, List.setIfInBounds_toArray, List.set_cons_zero, List.set_cons_succ, List.getElem_toArray, List.getElem_cons_succ, List.getElem_cons_zero])
              refine held_take 17 _ _ rfl (by kernel_rfl) (by kernel_rfl) (by kernel_rfl) (fun _ _ _ h => h) (by rfl) hHeld (fun w hSw => by (try dsimp only at hSw); go_simp; try with_reducible rfl) ?_
              (try simp only [Act.put, List.setIfInBounds_toArray, List.set_cons_zero, List.set_cons_succ, List.getElem_toArray, List.getElem_cons_succ, List.getElem_cons_zero])
              refine held_take 18 _ _ rfl (by kernel_rfl) (by kernel_rfl) (by kernel_rfl) (fun _ _ _ h => h) (by rfl) hHeld (fun w hSw => by (try dsimp only at hSw); go_simp; try with_reducible rfl) ?_
              (try simp only [Act.put, List.setIfInBounds_toArray, List.set_cons_zero, List.set_cons_succ, List.getElem_toArray, List.getElem_cons_succ, List.getElem_cons_zero])
              refine held_take 19 _ _ rfl (by kernel_rfl) (by kernel_rfl) (by kernel_rfl) (fun _ _ _ h => h) (by rfl) hHeld (fun w hSw => by (try dsimp only at hSw); go_simp; try with_reducible rfl) ?_
              (try simp only [Act.put, List.setIfInBounds_toArray, List.set_cons_zero, List.set_cons_succ, List.getElem_toArray, List.getElem_cons_succ, List.getElem_cons_zero])
              refine held_take 20 _ _ rfl (by kernel_rfl) (by kernel_rfl) (by kernel_rfl) (fun _ _ _ h => h) (by rfl) hHeld (fun w hSw => by (try dsimp only at hSw); go_simp; try with_reducible rfl) ?_
              (try simp only [Act.put, List.setIfInBounds_toArray, List.set_cons_zero, List.set_cons_succ, List.getElem_toArray, List.getElem_cons_succ, List.getElem_cons_zero])
              refine held_take 21 _ _ rfl (by kernel_rfl) (by kernel_rfl) (by kernel_rfl) (fun _ _ _ h => h) (by rfl) hHeld (fun w hSw => by (try dsimp only at hSw); go_simp; try with_reducible rfl) ?_
              (try simp only [Act.put, List.setIfInBounds_toArray, List.set_cons_zero, List.set_cons_succ, List.getElem_toArray, List.getElem_cons_succ, List.getElem_cons_zero])
              refine held_take 22 _ _ rfl (by kernel_rfl) (by kernel_rfl) (by kernel_rfl) (fun _ _ _ h => h) (by rfl) hHeld (fun w hSw => by (try dsimp only at hSw); go_simp; try with_reducible rfl) ?_
              (try simp only [Act.put, List.setIfInBounds_toArray, List.set_cons_zero, List.set_cons_succ, List.getElem_toArray, List.getElem_cons_succ, List.getElem_cons_zero])
              refine held_take 23 _ _ rfl (by kernel_rfl) (by kernel_rfl) (by kernel_rfl) (fun _ _ _ h => h) (by rfl) hHeld (fun w hSw => by (try dsimp only at hSw); go_simp; try with_reducible rfl) ?_
              (try simp only [Act.put, List.setIfInBounds_toArray, List.set_cons_zero, List.set_cons_succ, List.getElem_toArray, List.getElem_cons_succ, List.getElem_cons_zero])
              refine held_take 24 _ _ rfl (by kernel_rfl) (by kernel_rfl) (by kernel_rfl) (fun _ _ _ h => h) (by rfl) hHeld (fun w hSw => by (try dsimp only at hSw); go_simp; try with_reducible rfl) ?_
              (try simp only [Act.put, List.setIfInBounds_toArray, List.set_cons_zero, List.set_cons_succ, List.getElem_toArray, List.getElem_cons_succ, List.getElem_cons_zero])
              refine held_take 25 _ _ rfl (by kernel_rfl) (by kernel_rfl) (by kernel_rfl) (fun _ _ _ h => h) (by rfl) hHeld (fun w hSw => by (try dsimp only at hSw); go_simp; try with_reducible rfl) ?_
              (try simp only [Act.put, List.setIfInBounds_toArray, List.set_cons_zero, List.set_cons_succ, List.getElem_toArray, List.getElem_cons_succ, List.getElem_cons_zero])
              refine held_take 26 _ _ rfl (by kernel_rfl) (by kernel_rfl) (by kernel_rfl) (fun _ _ _ h => h) (by rfl) hHeld (fun w hSw => by (try dsimp only at hSw); go_simp; try with_reducible rfl) ?_
              (try simp only [Act.put, List.setIfInBounds_toArray, List.set_cons_zero, List.set_cons_succ, List.getElem_toArray, List.getElem_cons_succ, List.getElem_cons_zero])
              refine wpAnyH_done (by kernel_rfl) ?_ _
              have hbF := hb5.trans ((hHeld).2.2.mono hbz5)
              clear hS0 hHeld c1 HK
              go_wp2_with fail
              go_roundw
              case rel => exact ⟨j + 1, by omega, by go_num, hbF⟩
              case measure => simp [intOf]; omega
            · have hq1 : ((j : Int) == 0) = false := by rw [beq_eq_false_iff_ne]; omega
              clear h00
              cases hr : hasN Ls (j : Int)
              · have HR2 := Lib.hid hr
                clear hr
                have HK : Hid (∀ w', Below wv.heap.size wv w' → w'.cell? ⟨w2.heap.size, 0, none⟩ = some (.slice a_s Ls.length c_s) ∧ w'.cell? ⟨b, off + j, none⟩ = some (.int .i64 0) ∧ Below wv.heap.size wv w') := Lib.hid fun w' h => ⟨((hb6.trans (h.mono hbz6)).cell (p := ⟨w2.heap.size, 0, none⟩) hl_bs).trans HC_bs.out, ((hb5.trans (h.mono hbz5)).cell (p := ⟨b, off + j, none⟩) hbs).trans ((HCL.out j _ HX.out).trans (by rw [HR2.out]; rfl)), h⟩
                have hS0 := HK.out _ (Below.refl wv.heap.size wv).drew
                have c1 := fun w' (h : Below wv.heap.size wv w') => spec_Contains Ls (j : Int) a_s c_s w' (S_s.out.sl.below (hb6.trans (h.mono hbz6))) (by omega)
                rw [HR2.out] at c1
                go_wp2_with fail
                refine wp_region_held_drew (S := fun w' => w'.cell? ⟨w2.heap.size, 0, none⟩ = some (.slice a_s Ls.length c_s) ∧ w'.cell? ⟨b, off + j, none⟩ = some (.int .i64 0) ∧ Below wv.heap.size wv w') (by kernel_rfl) hS0 (fun hHeld => ?_)
                refine held_take 0 _ _ rfl (by kernel_rfl) (by kernel_rfl) (by kernel_rfl) (fun _ _ _ h => h) (by rfl) hHeld (fun w hSw => by (try dsimp only at hSw); go_simp; try with_reducible rfl) ?_
                (try simp only [Act.put, List.setIfInBounds_toArray, List.set_cons_zero, List.set_cons_succ, List.getElem_toArray, List.getElem_cons_zero])
                refine held_take 1 _ _ rfl (by kernel_rfl) (by kernel_rfl) (by kernel_rfl) (fun _ _ _ h => h) (by rfl) hHeld (fun w hSw => by (try dsimp only at hSw); go_simp; try with_reducible rfl) ?_
                (try simp only [Act.put, List.setIfInBounds_toArray, List.set_cons_zero, List.set_cons_succ, List.getElem_toArray, List.getElem_cons_succ, List.getElem_cons_zero])
                refine held_take 2 _ _ rfl (by kernel_rfl) (by kernel_rfl) (by kernel_rfl) (fun _ _ _ h => h) (by rfl) hHeld (fun w hSw => by (try dsimp only at hSw); go_simp; try with_reducible rfl) ?_
                (try simp only [Act.put, List.setIfInBounds_toArray, List.set_cons_zero, List.set_cons_succ, List.getElem_toArray, List.getElem_cons_succ, List.getElem_cons_zero])
                refine held_take 3 _ _ rfl (by kernel_rfl) (by kernel_rfl) (by kernel_rfl) (fun _ _ _ h => h) (by rfl) hHeld (fun w hSw => by (try dsimp only at hSw); go_simp; try with_reducible rfl) ?_
                (try simp only [Act.put, List.setIfInBounds_toArray, List.set_cons_zero, List.set_cons_succ, List.getElem_toArray, List.getElem_cons_succ, List.getElem_cons_zero])
                refine held_take 4 _ _ rfl (by kernel_rfl) (by kernel_rfl) (by kernel_rfl) (fun _ _ _ h => h) (by rfl) hHeld (fun w hSw => by (try dsimp only at hSw); go_simp; try with_reducible rfl) ?_
                (try simp only [Act.put, List.setIfInBounds_toArray, List.set_cons_zero, List.set_cons_succ, List.getElem_toArray, List.getElem_cons_succ, List.getElem_cons_zero])
                refine held_take 5 _ _ rfl (by kernel_rfl) (by kernel_rfl) (by kernel_rfl) (fun _ _ _ h => h) (by rfl) hHeld (fun w hSw => by (try dsimp only at hSw); go_simp; try with_reducible rfl) ?_
                (try simp only [Act.put, List.setIfInBounds_toArray, List.set_cons_zero, List.set_cons_succ, List.getElem_toArray, List.getElem_cons_succ, List.getElem_cons_zero])
                refine held_take 6 _ _ rfl (by kernel_rfl) (by kernel_rfl) (by kernel_rfl) (fun _ _ _ h => h) (by rfl) hHeld (fun w hSw => by (try dsimp only at hSw); go_simp; try with_reducible rfl) ?_
                (try simp only [Act.put, List.setIfInBounds_toArray, List.set_cons_zero, List.set_cons_succ, List.getElem_toArray, List.getElem_cons_succ, List.getElem_cons_zero])
                refine held_take 7 _ _ rfl (by kernel_rfl) (by kernel_rfl) (by kernel_rfl) (fun _ _ _ h => h) (by rfl) hHeld (fun w hSw => by (try dsimp only at hSw); go_simp; try with_reducible rfl) ?_
                (try simp only [Act.put, List.setIfInBounds_toArray, List.set_cons_zero, List.set_cons_succ, List.getElem_toArray, List.getElem_cons_succ, List.getElem_cons_zero])
                refine held_take 8 _ _ rfl (by kernel_rfl) (by kernel_rfl) (by kernel_rfl) (fun _ _ _ h => h) (by rfl) hHeld (fun w hSw => by (try dsimp only at hSw); go_simp; try with_reducible rfl) ?_
                (try simp only [Act.put, List.setIfInBounds_toArray, List.set_cons_zero, List.set_cons_succ, List.getElem_toArray, List.getElem_cons_succ, List.getElem_cons_zero])
                refine held_take 9 _ _ rfl (by kernel_rfl) (by kernel_rfl) (by kernel_rfl) (fun _ _ _ h => h) (by rfl) hHeld (fun w hSw => by (try dsimp only at hSw); go_simp; try with_reducible rfl) ?_
                (try simp only [Act.put, List.setIfInBounds_toArray, List.set_cons_zero, List.set_cons_succ, List.getElem_toArray, List.getElem_cons_succ, List.getElem_cons_zero])
                refine wpAnyH_ready (rs := [10]) (by kernel_rfl) (by simp) ?_
                refine AllReadyH.cons rfl (fun K hK => ?_) AllReadyH.nil
                rw [if_pos (by rfl)]
                go_wp2_with (first | (go_at_call 42; (with_reducible refine (c1 _ hHeld.2.2).mono ?_); rintro e wk ⟨rfl, hbk⟩))
                refine hK.out _ _ (HK.out _ ((hHeld).2.2.trans (hbk.mono (hHeld).2.2.size))) (fun hHeld1 => ?_)
                clear hK K
                (try simp only [Act.put, List.setIfInBounds_toArray, List.set_cons_zero, List.set_cons_succ, List.getElem_toArray, List.getElem_cons_succ, List.getElem_cons_zero])
                refine held_take 11 _ _ rfl (by kernel_rfl) (by kernel_rfl) (by kernel_rfl) (fun _ _ _ h => h) (by rfl) hHeld1 (fun w hSw => by (try dsimp only at hSw); go_simp; try with_reducible rfl) ?_
                (try simp only [Act.put, List.setIfInBounds_toArray, List.set_cons_zero, List.set_cons_succ, List.getElem_toArray, List.getElem_cons_succ, List.getElem_cons_zero])
                refine held_take 12 _ _ rfl (by kernel_rfl) (by kernel_rfl) (by kernel_rfl) (fun _ _ _ h => h) (by rfl) hHeld1 (fun w hSw => by (try dsimp only at hSw); go_simp; try with_reducible rfl) ?_
                (try simp only [Act.put, List.setIfInBounds_toArray, List.set_cons_zero, List.set_cons_succ, List.getElem_toArray, List.getElem_cons_succ, List.getElem_cons_zero])
                refine held_take 13 _ _ rfl (by kernel_rfl) (by kernel_rfl) (by kernel_rfl) (fun _ _ _ h => h) (by rfl) hHeld1 (fun w hSw => by (try dsimp only at hSw); go_simp; try with_reducible rfl) ?_
                (try simp only [Act.put, List.setIfInBounds_toArray, List.set_cons_zero, List.set_cons_succ, List.getElem_toArray, List.getElem_cons_succ, List.getElem_cons_zero])
                refine held_take 14 _ _ rfl (by kernel_rfl) (by kernel_rfl) (by kernel_rfl) (fun _ _ _ h => h) (by rfl) hHeld1 (fun w hSw => by (try dsimp only at hSw); go_simp; try with_reducible rfl) ?_
                (try simp only [Act.put, List.setIfInBounds_toArray, List.set_cons_zero, List.set_cons_succ, List.getElem_toArray, List.getElem_cons_succ, List.getElem_cons_zero])
                refine held_take 15 _ _ rfl (by kernel_rfl) (by kernel_rfl) (by kernel_rfl) (fun _ _ _ h => h) (by rfl) hHeld1 (fun w hSw => by (try dsimp only at hSw); go_simp; try with_reducible rfl) ?_
                (try simp only [Act.put, List.setIfInBounds_toArray, List.set_cons_zero, List.set_cons_succ, List.getElem_toArray, List.getElem_cons_succ, List.getElem_cons_zero])
                refine held_take 16 _ _ rfl (by kernel_rfl) (by kernel_rfl) (by kernel_rfl) (fun _ _ _ h => h) (by rfl) hHeld1 (fun w hSw => by (try dsimp only at hSw); go_simp; try with_reducible rfl) ?_
                (try simp only [Act.put, List.setIfInBounds_toArray, List.set_cons_zero, List.set_cons_succ, List.getElem_toArray, List.getElem_cons_succ, List.getElem_cons_zero])
                refine held_take 17 _ _ rfl (by kernel_rfl) (by kernel_rfl) (by kernel_rfl) (fun _ _ _ h => h) (by rfl) hHeld1 (fun w hSw => by (try dsimp only at hSw); go_simp; try with_reducible rfl) ?_
                (try simp only [Act.put, List.setIfInBounds_toArray, List.set_cons_zero, List.set_cons_succ, List.getElem_toArray, List.getElem_cons_succ, List.getElem_cons_zero])
                refine held_take 18 _ _ rfl (by kernel_rfl) (by kernel_rfl) (by kernel_rfl) (fun _ _ _ h => h) (by rfl) hHeld1 (fun w hSw => by (try dsimp only at hSw); go_simp; try with_reducible rfl) ?_
                (try simp only [Act.put, List.setIfInBounds_toArray, List.set_cons_zero, List.set_cons_succ, List.getElem_toArray, List.getElem_cons_succ, List.getElem_cons_zero])
                refine held_take 19 _ _ rfl (by kernel_rfl) (by kernel_rfl) (by kernel_rfl) (fun _ _ _ h => h) (by rfl) hHeld1 (fun w hSw => by (try dsimp only at hSw); go_simp; try with_reducible rfl) ?_
                (try simp only [Act.put, List.setIfInBounds_toArray, List.set_cons_zero, List.set_cons_succ, List.getElem_toArray, List.getElem_cons_succ, List.getElem_cons_zero])
                refine held_skip 20 _ rfl (by kernel_rfl) (by kernel_rfl) (by kernel_rfl) (fun _ _ _ h => h) (by rfl) hHeld1 ?_
                (try simp only [Act.put, List.setIfInBounds_toArray, List.set_cons_zero, List.set_cons_succ, List.getElem_toArray, List.getElem_cons_succ, List.getElem_cons_zero])
                refine held_skip 21 _ rfl (by kernel_rfl) (by kernel_rfl) (by kernel_rfl) (fun _ _ _ h => h) (by rfl) hHeld1 ?_
                (try simp only [Act.put, List.setIfInBounds_toArray, List.set_cons_zero, List.set_cons_succ, List.getElem_toArray, List.getElem_cons_succ, List.getElem_cons_zero])
                refine held_skip 22 _ rfl (by kernel_rfl) (by kernel_rfl) (by kernel_rfl) (fun _ _ _ h => h) (by rfl) hHeld1 ?_
                (try simp only [Act.put, List.setIfInBounds_toArray, List.set_cons_zero, List.set_cons_succ, List.getElem_toArray, List.getElem_cons_succ, List.getElem_cons_zero])
                refine held_skip 23 _ rfl (by kernel_rfl) (by kernel_rfl) (by kernel_rfl) (fun _ _ _ h => h) (by rfl) hHeld1 ?_
                (try simp only [Act.put, List.setIfInBounds_toArray, List.set_cons_zero, List.set_cons_succ, List.getElem_toArray, List.getElem_cons_succ, List.getElem_cons_zero])
                refine held_skip 24 _ rfl (by kernel_rfl) (by kernel_rfl) (by kernel_rfl) (fun _ _ _ h => h) (by rfl) hHeld1 ?_
                (try simp only [Act.put, List.setIfInBounds_toArray, List.set_cons_zero, List.set_cons_succ, List.getElem_toArray, List.getElem_cons_succ, List.getElem_cons_zero])
                refine held_take 25 _ _ rfl (by kernel_rfl) (by kernel_rfl) (by kernel_rfl) (fun _ _ _ h => h) (by rfl) hHeld1 (fun w hSw => by (try dsimp only at hSw); go_simp; try with_reducible rfl) ?_
                (try simp only [Act.put, List.setIfInBounds_toArray, List.set_cons_zero, List.set_cons_succ, List.getElem_toArray, List.getElem_cons_succ, List.getElem_cons_zero])
                refine held_take 26 _ _ rfl (by kernel_rfl) (by kernel_rfl) (by kernel_rfl) (fun _ _ _ h => h) (by rfl) hHeld1 (fun w hSw => by (try dsimp only at hSw); go_simp; try with_reducible rfl) ?_
                (try simp only [Act.put, List.setIfInBounds_toArray, List.set_cons_zero, List.set_cons_succ, List.getElem_toArray, List.getElem_cons_succ, List.getElem_cons_zero])
                refine wpAnyH_done (by kernel_rfl) ?_ _
                have hbF := hb5.trans ((hHeld1).2.2.mono hbz5)
                clear hS0 hHeld1 c1 HK
                go_wp2_with fail
                go_roundw
                case rel => exact ⟨j + 1, by omega, by go_num, hbF⟩
                case measure => simp [intOf]; omega
              · have HR2 := Lib.hid hr
                clear hr
                have HK : Hid (∀ w', Below wv.heap.size wv w' → w'.cell? ⟨w2.heap.size, 0, none⟩ = some (.slice a_s Ls.length c_s) ∧ w'.cell? ⟨b, off + j, none⟩ = some (.int .i64 1) ∧ Below wv.heap.size wv w') := Lib.hid fun w' h => ⟨((hb6.trans (h.mono hbz6)).cell (p := ⟨w2.heap.size, 0, none⟩) hl_bs).trans HC_bs.out, ((hb5.trans (h.mono hbz5)).cell (p := ⟨b, off + j, none⟩) hbs).trans ((HCL.out j _ HX.out).trans (by rw [HR2.out]; rfl)), h⟩
                have hS0 := HK.out _ (Below.refl wv.heap.size wv).drew
                have c1 := fun w' (h : Below wv.heap.size wv w') => spec_Contains Ls (j : Int) a_s c_s w' (S_s.out.sl.below (hb6.trans (h.mono hbz6))) (by omega)
                rw [HR2.out] at c1
                go_wp2_with fail
                refine wp_region_held_drew (S := fun w' => w'.cell? ⟨w2.heap.size, 0, none⟩ = some (.slice a_s Ls.length c_s) ∧ w'.cell? ⟨b, off + j, none⟩ = some (.int .i64 1) ∧ Below wv.heap.size wv w') (by kernel_rfl) hS0 (fun hHeld => ?_)
                refine held_take 0 _ _ rfl (by kernel_rfl) (by kernel_rfl) (by kernel_rfl) (fun _ _ _ h => h) (by rfl) hHeld (fun w hSw => by (try dsimp only at hSw); go_simp; try with_reducible rfl) ?_
                (try simp only [Act.put, List.setIfInBounds_toArray, List.set_cons_zero, List.set_cons_succ, List.getElem_toArray, List.getElem_cons_zero])
                refine held_take 1 _ _ rfl (by kernel_rfl) (by kernel_rfl) (by kernel_rfl) (fun _ _ _ h => h) (by rfl) hHeld (fun w hSw => by (try dsimp only at hSw); go_simp; try with_reducible rfl) ?_
                (try simp only [Act.put, List.setIfInBounds_toArray, List.set_cons_zero, List.set_cons_succ, List.getElem_toArray, List.getElem_cons_succ, List.getElem_cons_zero])
                refine held_take 2 _ _ rfl (by kernel_rfl) (by kernel_rfl) (by kernel_rfl) (fun _ _ _ h => h) (by rfl) hHeld (fun w hSw => by (try dsimp only at hSw); go_simp; try with_reducible rfl) ?_
                (try simp only [Act.put, List.setIfInBounds_toArray, List.set_cons_zero, List.set_cons_succ, List.getElem_toArray, List.getElem_cons_succ, List.getElem_cons_zero])
                refine held_take 3 _ _ rfl (by kernel_rfl) (by kernel_rfl) (by kernel_rfl) (fun _ _ _ h => h) (by rfl) hHeld (fun w hSw => by (try dsimp only at hSw); go_simp; try with_reducible rfl) ?_
                (try simp only [Act.put, List.setIfInBounds_toArray, List.set_cons_zero, List.set_cons_succ, List.getElem_toArray, List.getElem_cons_succ, List.getElem_cons_zero])
                refine held_take 4 _ _ rfl (by kernel_rfl) (by kernel_rfl) (by kernel_rfl) (fun _ _ _ h => h) (by rfl) hHeld (fun w hSw => by (try dsimp only at hSw); go_simp; try with_reducible rfl) ?_
                (try simp only [Act.put, List.setIfInBounds_toArray, List.set_cons_zero, List.set_cons_succ, List.getElem_toArray, List.getElem_cons_succ, List.getElem_cons_zero])
                refine held_take 5 _ _ rfl (by kernel_rfl) (by kernel_rfl) (by kernel_rfl) (fun _ _ _ h => h) (by rfl) hHeld (fun w hSw => by (try dsimp only at hSw); go_simp; try with_reducible rfl) ?_
                (try simp only [Act.put, List.setIfInBounds_toArray, List.set_cons_zero, List.set_cons_succ, List.getElem_toArray, List.getElem_cons_succ, List.getElem_cons_zero])
                refine held_take 6 _ _ rfl (by kernel_rfl) (by kernel_rfl) (by kernel_rfl) (fun _ _ _ h => h) (by rfl) hHeld (fun w hSw => by (try dsimp only at hSw); go_simp; try with_reducible rfl) ?_
                (try simp only [Act.put, List.setIfInBounds_toArray, List.set_cons_zero, List.set_cons_succ, List.getElem_toArray, List.getElem_cons_succ, List.getElem_cons_zero])
                refine held_take 7 _ _ rfl (by kernel_rfl) (by kernel_rfl) (by kernel_rfl) (fun _ _ _ h => h) (by rfl) hHeld (fun w hSw => by (try dsimp only at hSw); go_simp; try with_reducible rfl) ?_
                (try simp only [Act.put, List.setIfInBounds_toArray, List.set_cons_zero, List.set_cons_succ, List.getElem_toArray, List.getElem_cons_succ, List.getElem_cons_zero])
                refine held_take 8 _ _ rfl (by kernel_rfl) (by kernel_rfl) (by kernel_rfl) (fun _ _ _ h => h) (by rfl) hHeld (fun w hSw => by (try dsimp only at hSw); go_simp; try with_reducible rfl) ?_
                (try simp only [Act.put, List.setIfInBounds_toArray, List.set_cons_zero, List.set_cons_succ, List.getElem_toArray, List.getElem_cons_succ, List.getElem_cons_zero])
                refine held_take 9 _ _ rfl (by kernel_rfl) (by kernel_rfl) (by kernel_rfl) (fun _ _ _ h => h) (by rfl) hHeld (fun w hSw => by (try dsimp only at hSw); go_simp; try with_reducible rfl) ?_
                (try simp only [Act.put, List.setIfInBounds_toArray, List.set_cons_zero, List.set_cons_succ, List.getElem_toArray, List.getElem_cons_succ, List.getElem_cons_zero])
                refine wpAnyH_ready (rs := [10]) (by kernel_rfl) (by simp) ?_
                refine AllReadyH.cons rfl (fun K hK => ?_) AllReadyH.nil
                rw [if_pos (by rfl)]
                go_wp2_with (first | (go_at_call 42; (with_reducible refine (c1 _ hHeld.2.2).mono ?_); rintro e wk ⟨rfl, hbk⟩))
                refine hK.out _ _ (HK.out _ ((hHeld).2.2.trans (hbk.mono (hHeld).2.2.size))) (fun hHeld1 => ?_)
                clear hK K
                (try simp only [Act.put, List.setIfInBounds_toArray, List.set_cons_zero, List.set_cons_succ, List.getElem_toArray, List.getElem_cons_succ, List.getElem_cons_zero])
                refine held_take 11 _ _ rfl (by kernel_rfl) (by kernel_rfl) (by kernel_rfl) (fun _ _ _ h => h) (by rfl) hHeld1 (fun w hSw => by (try dsimp only at hSw); go_simp; try with_reducible rfl) ?_
                (try simp only [Act.put, List.setIfInBounds_toArray, List.set_cons_zero, List.set_cons_succ, List.getElem_toArray, List.getElem_cons_succ, List.getElem_cons_zero])
                refine held_take 12 _ _ rfl (by kernel_rfl) (by kernel_rfl) (by kernel_rfl) (fun _ _ _ h => h) (by rfl) hHeld1 (fun w hSw => by (try dsimp only at hSw); go_simp; try with_reducible rfl) ?_
                (try simp only [Act.put, List.setIfInBounds_toArray, List.set_cons_zero, List.set_cons_succ, List.getElem_toArray, List.getElem_cons_succ, List.getElem_cons_zero])
                refine held_take 13 _ _ rfl (by kernel_rfl) (by kernel_rfl) (by kernel_rfl) (fun _ _ _ h => h) (by rfl) hHeld1 (fun w hSw => by (try dsimp only at hSw); go_simp; try with_reducible rfl) ?_
                (try simp only [Act.put, List.setIfInBounds_toArray, List.set_cons_zero, List.set_cons_succ, List.getElem_toArray, List.getElem_cons_succ, List.getElem_cons_zero])
                refine held_take 14 _ _ rfl (by kernel_rfl) (by kernel_rfl) (by kernel_rfl) (fun _ _ _ h => h) (by rfl) hHeld1 (fun w hSw => by (try dsimp only at hSw); go_simp; try with_reducible rfl) ?_
                (try simp only [Act.put, List.setIfInBounds_toArray, List.set_cons_zero, List.set_cons_succ, List.getElem_toArray, List.getElem_cons_succ, List.getElem_cons_zero])
                refine held_take 15 _ _ rfl (by kernel_rfl) (by kernel_rfl) (by kernel_rfl) (fun _ _ _ h => h) (by rfl) hHeld1 (fun w hSw => by (try dsimp only at hSw); go_simp; try with_reducible rfl) ?_
                (try simp only [Act.put, List.setIfInBounds_toArray, List.set_cons_zero, List.set_cons_succ, List.getElem_toArray, List.getElem_cons_succ, List.getElem_cons_zero])
                refine held_take 16 _ _ rfl (by kernel_rfl) (by kernel_rfl) (by kernel_rfl) (fun _ _ _ h => h) (by rfl) hHeld1 (fun w hSw => by (try dsimp only at hSw); go_simp; try with_reducible rfl) ?_
                (try simp only [Act.put, List.setIfInBounds_toArray, List.set_cons_zero, List.set_cons_succ, List.getElem_toArray, List.getElem_cons_succ, List.getElem_cons_zero])
                refine held_take 17 _ _ rfl (by kernel_rfl) (by kernel_rfl) (by kernel_rfl) (fun _ _ _ h => h) (by rfl) hHeld1 (fun w hSw => by (try dsimp only at hSw); go_simp; try with_reducible rfl) ?_
                (try simp only [Act.put, List.setIfInBounds_toArray, List.set_cons_zero, List.set_cons_succ, List.getElem_toArray, List.getElem_cons_succ, List.getElem_cons_zero])
                refine held_take 18 _ _ rfl (by kernel_rfl) (by kernel_rfl) (by kernel_rfl) (fun _ _ _ h => h) (by rfl) hHeld1 (fun w hSw => by (try dsimp only at hSw); go_simp; try with_reducible rfl) ?_
                (try simp only [Act.put, List.setIfInBounds_toArray, List.set_cons_zero, List.set_cons_succ, List.getElem_toArray, List.getElem_cons_succ, List.getElem_cons_zero])
                refine held_take 19 _ _ rfl (by kernel_rfl) (by kernel_rfl) (by kernel_rfl) (fun _ _ _ h => h) (by rfl) hHeld1 (fun w hSw => by (try dsimp only at hSw); go_simp; try with_reducible rfl) ?_
                (try simp only [Act.put, List.setIfInBounds_toArray, List.set_cons_zero, List.set_cons_succ, List.getElem_toArray, List.getElem_cons_succ, List.getElem_cons_zero])
                refine held_take 20 _ _ rfl (by kernel_rfl) (by kernel_rfl) (by kernel_rfl) (fun _ _ _ h => h) (by rfl) hHeld1 (fun w hSw => by (try dsimp only at hSw); go_simp; try with_reducible rfl) ?_
                (try simp only [Act.put, List.setIfInBounds_toArray, List.set_cons_zero, List.set_cons_succ, List.getElem_toArray, List.getElem_cons_succ, List.getElem_cons_zero])
                refine held_take 21 _ _ rfl (by kernel_rfl) (by kernel_rfl) (by kernel_rfl) (fun _ _ _ h => h) (by rfl) hHeld1 (fun w hSw => by (try dsimp only at hSw); go_simp; try with_reducible rfl) ?_
                (try simp only [Act.put, List.setIfInBounds_toArray, List.set_cons_zero, List.set_cons_succ, List.getElem_toArray, List.getElem_cons_succ, List.getElem_cons_zero])
                refine held_take 22 _ _ rfl (by kernel_rfl) (by kernel_rfl) (by kernel_rfl) (fun _ _ _ h => h) (by rfl) hHeld1 (fun w hSw => by (try dsimp only at hSw); go_simp; try with_reducible rfl) ?_
                (try simp only [Act.put, List.setIfInBounds_toArray, List.set_cons_zero, List.set_cons_succ, List.getElem_toArray, List.getElem_cons_succ, List.getElem_cons_zero])
                refine held_take 23 _ _ rfl (by kernel_rfl) (by kernel_rfl) (by kernel_rfl) (fun _ _ _ h => h) (by rfl) hHeld1 (fun w hSw => by (try dsimp only at hSw); go_simp; try with_reducible rfl) ?_
                (try simp only [Act.put, List.setIfInBounds_toArray, List.set_cons_zero, List.set_cons_succ, List.getElem_toArray, List.getElem_cons_succ, List.getElem_cons_zero])
                refine held_take 24 _ _ rfl (by kernel_rfl) (by kernel_rfl) (by kernel_rfl) (fun _ _ _ h => h) (by rfl) hHeld1 (fun w hSw => by (try dsimp only at hSw); go_simp; try with_reducible rfl) ?_
                (try simp only [Act.put, List.setIfInBounds_toArray, List.set_cons_zero, List.set_cons_succ, List.getElem_toArray, List.getElem_cons_succ, List.getElem_cons_zero])
                refine held_take 25 _ _ rfl (by kernel_rfl) (by kernel_rfl) (by kernel_rfl) (fun _ _ _ h => h) (by rfl) hHeld1 (fun w hSw => by (try dsimp only at hSw); go_simp; try with_reducible rfl) ?_
                (try simp only [Act.put, List.setIfInBounds_toArray, List.set_cons_zero, List.set_cons_succ, List.getElem_toArray, List.getElem_cons_succ, List.getElem_cons_zero])
                refine held_take 26 _ _ rfl (by kernel_rfl) (by kernel_rfl) (by kernel_rfl) (fun _ _ _ h => h) (by rfl) hHeld1 (fun w hSw => by (try dsimp only at hSw); go_simp; try with_reducible rfl) ?_
                (try simp only [Act.put, List.setIfInBounds_toArray, List.set_cons_zero, List.set_cons_succ, List.getElem_toArray, List.getElem_cons_succ, List.getElem_cons_zero])
                refine wpAnyH_done (by kernel_rfl) ?_ _
                have hbF := hb5.trans ((hHeld1).2.2.mono hbz5)
                clear hS0 hHeld1 c1 HK
                go_wp2_with fail
                go_roundw
                case rel => exact ⟨j + 1, by omega, by go_num, hbF⟩
                case measure => simp [intOf]; omega
          · have hjli : ¬ (j : Int) < ((seriesL (numL Ls) 60).length : Int) := by omega
            have hjld := decide_eq_false hjli
            have HK : Hid (∀ w', Below wv.heap.size wv w' → w'.cell? ⟨w2.heap.size, 0, none⟩ = some (.slice a_s Ls.length c_s) ∧ Below wv.heap.size wv w') := Lib.hid fun w' h => ⟨((hb6.trans (h.mono hbz6)).cell (p := ⟨w2.heap.size, 0, none⟩) hl_bs).trans HC_bs.out, h⟩
            have hS0 := HK.out _ (Below.refl wv.heap.size wv).drew
            have c1 := fun w' (h : Below wv.heap.size wv w') => ci_IsPalindrome (numL Ls) a_p c_p w' (R_p.out.slw.below (hb6.trans (h.mono hbz6))) (by omega)
            have c2 := fun w' (h : Below wv.heap.size wv w') => spec_IsSymmetric Ls a_s c_s w' (S_s.out.sl.below (hb6.trans (h.mono hbz6))) (by omega)
            rw [pal_sym HSG.out] at c1
            generalize symB Ls = sy at *
            have hyy : (sy == sy) = true := by cases sy <;> rfl
            go_wp2_with fail
            refine wp_region_held_drew (S := fun w' => w'.cell? ⟨w2.heap.size, 0, none⟩ = some (.slice a_s Ls.length c_s) ∧ Below wv.heap.size wv w') (by kernel_rfl) hS0 (fun hHeld => ?_)
            refine held_take 0 _ _ rfl (by kernel_rfl) (by kernel_rfl) (by kernel_rfl) (fun _ _ _ h => h) (by rfl) hHeld (fun w hSw => by (try dsimp only at hSw); go_simp; try with_reducible rfl) ?_
            (try simp only [Act.put, List.setIfInBounds_toArray, List.set_cons_zero, List.set_cons_succ, List.getElem_toArray, List.getElem_cons_zero])
            refine held_take 2 _ _ rfl (by kernel_rfl) (by kernel_rfl) (by kernel_rfl) (fun _ _ _ h => h) (by rfl) hHeld (fun w hSw => by (try dsimp only at hSw); go_simp; try with_reducible rfl) ?_
            (try simp only [Act.put, List.setIfInBounds_toArray, List.set_cons_zero, List.set_cons_succ, List.getElem_toArray, List.getElem_cons_succ, List.getElem_cons_zero])
            refine wpAnyH_ready (rs := [1]) (by kernel_rfl) (by simp) ?_
            refine AllReadyH.cons rfl (fun K hK => ?_) AllReadyH.nil
            rw [if_pos (by rfl)]
            go_wp2_with (first | (go_at_call 34; (with_reducible refine (c1 _ hHeld.2).mono ?_); rintro e wk ⟨rfl, hbk⟩))
            refine hK.out _ _ (HK.out _ ((hHeld).2.trans (hbk.mono (hHeld).2.size))) (fun hHeld1 => ?_)
            clear hK K
            (try simp only [Act.put, List.setIfInBounds_toArray, List.set_cons_zero, List.set_cons_succ, List.getElem_toArray, List.getElem_cons_succ, List.getElem_cons_zero])
            refine wpAnyH_ready (rs := [3]) (by kernel_rfl) (by simp) ?_
            refine AllReadyH.cons rfl (fun K hK => ?_) AllReadyH.nil
            rw [if_pos (by rfl)]
            go_wp2_with (first | (go_at_call 43; (with_reducible refine (c2 _ hHeld1.2).mono ?_); rintro e wk ⟨rfl, hbk⟩))
            refine hK.out _ _ (HK.out _ ((hHeld1).2.trans (hbk.mono (hHeld1).2.size))) (fun hHeld2 => ?_)
            clear hK K
            (try simp only [Act.put, List.setIfInBounds_toArray, List.set_cons_zero, List.set_cons_succ, List.getElem_toArray, List.getElem_cons_succ, List.getElem_cons_zero])
            refine held_take 4 _ _ rfl (by kernel_rfl) (by kernel_rfl) (by kernel_rfl) (fun _ _ _ h => h) (by rfl) hHeld2 (fun w hSw => by (try dsimp only at hSw); go_simp; try with_reducible rfl) ?_
            (try simp only [Act.put, List.setIfInBounds_toArray, List.set_cons_zero, List.set_cons_succ, List.getElem_toArray, List.getElem_cons_succ, List.getElem_cons_zero])
            refine held_take 5 _ _ rfl (by kernel_rfl) (by kernel_rfl) (by kernel_rfl) (fun _ _ _ h => h) (by rfl) hHeld2 (fun w hSw => by (try dsimp only at hSw); go_simp; try with_reducible rfl) ?_
            (try simp only [Act.put, List.setIfInBounds_toArray, List.set_cons_zero, List.set_cons_succ, List.getElem_toArray, List.getElem_cons_succ, List.getElem_cons_zero])
            refine wpAnyH_done (by kernel_rfl) ?_ _
            have hF := hW.trans ((hb6.trans ((hHeld2).2.mono hbz6)).mono hWz)
            clear hS0 hHeld2
            go_wp2_with fail
            go_ret
            exact ⟨rfl, hF⟩

set_option maxRecDepth 100000 in
set_option maxHeartbeats 800000 in
theorem FnSeries.walk (p0 : Option Addr) (len0 cap0 : Nat) (z0 : List Int) (W : World) (r0 : IsRow .u8 W p0 len0 cap0 z0) (_ : W.ShapedOpen Try.prog) :
    Calls Try.prog 4 #[.slice p0 len0 cap0] W fun e w' => e = .returned (.bool true) ∧ Below W.heap.size W w' := by
  by_cases hl : len0 ≤ 1048576
  · exact fnSeries_small p0 len0 cap0 z0 W r0 hl
  · have cb := big_any p0 len0 cap0 W (row_maxLen r0)
    rw [decide_eq_true (show 1048576 < len0 by omega)] at cb
    go_enter Try.func4, Try.ntmps4
    go_wp2_with fail
    refine cb.mono ?_
    rintro e w0 ⟨rfl, rfl⟩
    go_wp2_with fail
    go_ret
    exact ⟨rfl, Below.refl _ _⟩
end Go.Proofs.Ytlinlmmcgifloaa
