/-
  THE WALK OF THE LAW FnLengths: at every drawn code both sides agree; differences of lengths are multiples of the common divisor of the generators' differences; no elasticity is greater than the greatest one (written by fn_lengths.py of the verifier's own).
-/
import Derived.Test.YtlinlmmcgifloaaRows
import Derived.Test.YtlinlmmcgifloaaDrw17
import Derived.Test.YtlinlmmcgifloaaC12
import Derived.Test.YtlinlmmcgifloaaC12b
import Derived.Test.YtlinlmmcgifloaaCh11M
namespace Go.Proofs.Ytlinlmmcgifloaa
open Go Go.RowKit

set_option maxRecDepth 100000 in
set_option maxHeartbeats 12800000 in
theorem fnLengths_small (p0 : Option Addr) (len0 cap0 : Nat) (z0 : List Int) (W : World) (r0 : IsRow .u8 W p0 len0 cap0 z0) (hl : len0 ≤ 1048576) :
    Calls Try.prog 3 #[.slice p0 len0 cap0] W fun e w' => e = .returned (.bool true) ∧ Below W.heap.size W w' := by
  have HR := Lib.hid r0
  clear r0
  have hW : Below W.heap.size W W := Below.refl _ _
  go_enter Try.func3, Try.ntmps3
  have c := big_b p0 len0 cap0 W (by unfold maxLen; omega)
  rw [decide_eq_false (show ¬ 1048576 < len0 by omega)] at c
  go_wp2_with fail
  refine c.mono ?_
  rintro e w1 ⟨rfl, hb⟩
  clear c
  have z1 := hb.size
  replace hW := hW.trans (hb.mono hW.size)
  clear hb
  have c := DrawLengthsOf_any w1 p0 len0 cap0 z0 (HR.out.below hW) hl
  go_wp2_with fail
  refine c.mono ?_
  rintro e w2 ⟨Ls, a_s, c_s, n, hl_s, hB_s, hn64, rfl, hs, hb⟩
  clear c
  have z2 := hb.size
  replace hW := hW.trans (hb.mono hW.size)
  have S_s := Lib.hid hs
  clear hs hb hB_s
  obtain ⟨w3, hwb⟩ : ∃ wb, wb = w2.alloc (.cells #[.slice a_s Ls.length c_s] 26) := ⟨_, rfl⟩
  have hb : Below w2.heap.size w2 w3 := by rw [hwb]; exact box_below _ _
  have hA : Arr w3 w2.heap.size 26 [.slice a_s Ls.length c_s] := by rw [hwb]; exact Arr.new _ _ _
  replace S_s := Lib.hid (S_s.out.below hb)
  have z3 := hb.size
  replace hW := hW.trans (hb.mono hW.size)
  have y3 : w2.heap.size < w3.heap.size := hA.lt
  have B_bs := Lib.hid hA
  have H_w3 := Lib.hid hwb
  clear hwb hb hA
  have hrl := lenL_len Ls n
  have hdl := deltaL_len Ls n
  have c := ci_LengthsOf Ls a_s c_s n w3 S_s.out (by omega) hn64.1 hn64.2
  have hk_bs : w3.cell? ⟨w2.heap.size, 0, none⟩ = some (.slice a_s Ls.length c_s) := B_bs.out.cell 0
  rw [H_w3.out] at hk_bs
  go_wp2_with fail
  rw [← H_w3.out]
  refine c.mono ?_
  rintro e w4 ⟨v, rfl, ho, hb⟩
  clear c
  clear hk_bs
  obtain ⟨a_r, c_r, rfl, rX⟩ := row_open ho
  clear ho
  replace S_s := Lib.hid (S_s.out.below hb)
  replace B_bs := Lib.hid (B_bs.out.below hb)
  have z4 := hb.size
  replace hW := hW.trans (hb.mono hW.size)
  have R_r := Lib.hid rX
  clear rX
  clear hb
  have c := ci_DeltaOf Ls a_s c_s n w4 S_s.out (by omega) hn64.1 hn64.2
  have hk_bs : w4.cell? ⟨w2.heap.size, 0, none⟩ = some (.slice a_s Ls.length c_s) := B_bs.out.cell 0
  go_wp2_with fail
  refine c.mono ?_
  rintro e w5 ⟨v, rfl, ho, hb⟩
  clear c
  clear hk_bs
  obtain ⟨a_d, c_d, rfl, rX⟩ := row_open ho
  clear ho
  replace S_s := Lib.hid (S_s.out.below hb)
  replace B_bs := Lib.hid (B_bs.out.below hb)
  replace R_r := Lib.hid (R_r.out.below hb)
  have z5 := hb.size
  replace hW := hW.trans (hb.mono hW.size)
  have R_d := Lib.hid rX
  clear rX
  clear hb
  have c := ci_ElasticityOf Ls a_s c_s n w5 S_s.out (by omega) hn64.1 hn64.2
  have hk_bs : w5.cell? ⟨w2.heap.size, 0, none⟩ = some (.slice a_s Ls.length c_s) := B_bs.out.cell 0
  go_wp2_with fail
  refine c.mono ?_
  rintro e w6 ⟨rfl, hb⟩
  clear c
  clear hk_bs
  replace S_s := Lib.hid (S_s.out.below hb)
  replace B_bs := Lib.hid (B_bs.out.below hb)
  replace R_r := Lib.hid (R_r.out.below hb)
  replace R_d := Lib.hid (R_d.out.below hb)
  have z6 := hb.size
  replace hW := hW.trans (hb.mono hW.size)
  clear hb
  have c := cs_ElasticityOf Ls a_s c_s n w6 S_s.out (by omega) hn64.1 hn64.2
  have hk_bs : w6.cell? ⟨w2.heap.size, 0, none⟩ = some (.slice a_s Ls.length c_s) := B_bs.out.cell 0
  go_wp2_with fail
  refine c.mono ?_
  rintro e w7 ⟨rfl, hb⟩
  clear c
  clear hk_bs
  replace S_s := Lib.hid (S_s.out.below hb)
  replace B_bs := Lib.hid (B_bs.out.below hb)
  replace R_r := Lib.hid (R_r.out.below hb)
  replace R_d := Lib.hid (R_d.out.below hb)
  have z7 := hb.size
  replace hW := hW.trans (hb.mono hW.size)
  clear hb
  have c := ci_GreatestElasticity Ls a_s c_s w7 S_s.out (by omega)
  have hk_bs : w7.cell? ⟨w2.heap.size, 0, none⟩ = some (.slice a_s Ls.length c_s) := B_bs.out.cell 0
  go_wp2_with fail
  refine c.mono ?_
  rintro e w8 ⟨rfl, hb⟩
  clear c
  clear hk_bs
  replace S_s := Lib.hid (S_s.out.below hb)
  replace B_bs := Lib.hid (B_bs.out.below hb)
  replace R_r := Lib.hid (R_r.out.below hb)
  replace R_d := Lib.hid (R_d.out.below hb)
  have z8 := hb.size
  replace hW := hW.trans (hb.mono hW.size)
  clear hb
  have c := cs_GreatestElasticity Ls a_s c_s w8 S_s.out (by omega)
  have hk_bs : w8.cell? ⟨w2.heap.size, 0, none⟩ = some (.slice a_s Ls.length c_s) := B_bs.out.cell 0
  go_wp2_with fail
  refine c.mono ?_
  rintro e w9 ⟨rfl, hb⟩
  clear c
  clear hk_bs
  replace S_s := Lib.hid (S_s.out.below hb)
  replace B_bs := Lib.hid (B_bs.out.below hb)
  replace R_r := Lib.hid (R_r.out.below hb)
  replace R_d := Lib.hid (R_d.out.below hb)
  have z9 := hb.size
  replace hW := hW.trans (hb.mono hW.size)
  clear hb
  have c := DrawDeltaSet_any w9 p0 len0 cap0 z0 (HR.out.below hW) hl
  have hk_bs : w9.cell? ⟨w2.heap.size, 0, none⟩ = some (.slice a_s Ls.length c_s) := B_bs.out.cell 0
  go_wp2_with fail
  refine c.mono ?_
  rintro e w10 ⟨Lt, a_t, c_t, m, hl_t, hB_t, hm64, rfl, hs, hb⟩
  clear c
  clear hk_bs
  replace S_s := Lib.hid (S_s.out.below hb)
  replace B_bs := Lib.hid (B_bs.out.below hb)
  replace R_r := Lib.hid (R_r.out.below hb)
  replace R_d := Lib.hid (R_d.out.below hb)
  have z10 := hb.size
  replace hW := hW.trans (hb.mono hW.size)
  have S_t := Lib.hid hs
  clear hs hb hB_t HR hl
  obtain ⟨w11, hwb⟩ : ∃ wb, wb = w10.alloc (.cells #[.slice a_t Lt.length c_t] 26) := ⟨_, rfl⟩
  have hb : Below w10.heap.size w10 w11 := by rw [hwb]; exact box_below _ _
  have hA : Arr w11 w10.heap.size 26 [.slice a_t Lt.length c_t] := by rw [hwb]; exact Arr.new _ _ _
  replace S_s := Lib.hid (S_s.out.below hb)
  replace B_bs := Lib.hid (B_bs.out.below hb)
  replace R_r := Lib.hid (R_r.out.below hb)
  replace R_d := Lib.hid (R_d.out.below hb)
  replace S_t := Lib.hid (S_t.out.below hb)
  have z11 := hb.size
  replace hW := hW.trans (hb.mono hW.size)
  have y11 : w10.heap.size < w11.heap.size := hA.lt
  have B_bt := Lib.hid hA
  have H_w11 := Lib.hid hwb
  clear hwb hb hA
  have htl := deltasL_len Lt m
  have HELA := Lib.hid (fun (h : (lenL Ls n).length ≠ 0) (hn : n ≠ 0) => ela_law h hn)
  have HDEL := Lib.hid (fun (x : Int) (h : x ∈ deltaL Ls n) => And.intro (delta_law h) (deltaL_bnd h))
  have hEB := ela_bnd Ls n
  have hGB := great_bnd Ls
  have HSG : Hid ((lenL Ls n).length ≠ 0 → isSgB Ls = true) := Lib.hid (fun h => by rcases hq : lenL Ls n with _ | ⟨a, r⟩; (rw [hq] at h; exact absurd rfl h); (obtain ⟨L, hL, -⟩ := mem_lenL.1 (show a ∈ lenL Ls n by rw [hq]; simp); exact (factL_sg hL).1))
  have HDZ : Hid ((lenL Ls n).length = 0 → deltaL Ls n = []) := Lib.hid (fun h => by unfold deltaL; rw [List.length_eq_zero_iff.1 h]; rfl)
  generalize elaA Ls n = eA at *
  generalize elaB Ls n = eB at *
  generalize greatA Ls = gA at *
  generalize greatB Ls = gB at *
  have hd1 : (eA != eA) = false := by simp
  have hd2 : (eB != eB) = false := by simp
  have hl_bs : w2.heap.size < w11.heap.size := B_bs.out.lt
  have hl_bt : w10.heap.size < w11.heap.size := B_bt.out.lt
  have hS0 : Hid (w11.drew.cell? ⟨w2.heap.size, 0, none⟩ = some (.slice a_s Ls.length c_s) ∧ w11.drew.cell? ⟨w10.heap.size, 0, none⟩ = some (.slice a_t Lt.length c_t) ∧ Below w11.heap.size w11 w11.drew) := Lib.hid ⟨B_bs.out.cell 0, B_bt.out.cell 0, (Below.refl _ _).drew⟩
  have hk_bs : w11.cell? ⟨w2.heap.size, 0, none⟩ = some (.slice a_s Ls.length c_s) := B_bs.out.cell 0
  have hk_bt : w11.cell? ⟨w10.heap.size, 0, none⟩ = some (.slice a_t Lt.length c_t) := B_bt.out.cell 0
  rw [H_w11.out] at hk_bs hk_bt
  go_wp2_with fail
  rw [← H_w11.out]
  clear hk_bs hk_bt
  have fr : ∀ w', (w'.cell? ⟨w2.heap.size, 0, none⟩ = some (.slice a_s Ls.length c_s) ∧ w'.cell? ⟨w10.heap.size, 0, none⟩ = some (.slice a_t Lt.length c_t) ∧ Below w11.heap.size w11 w') → Below w11.heap.size w11 w' := fun w' h => h.2.2
  refine wp_region_held_drew (S := fun w' => w'.cell? ⟨w2.heap.size, 0, none⟩ = some (.slice a_s Ls.length c_s) ∧ w'.cell? ⟨w10.heap.size, 0, none⟩ = some (.slice a_t Lt.length c_t) ∧ Below w11.heap.size w11 w') (by kernel_rfl) hS0.out (fun hHeld => ?_)
  refine held_take 0 _ _ rfl (by kernel_rfl) (by kernel_rfl) (by kernel_rfl) (fun _ _ _ h => h) (by rfl) hHeld (fun w hSw => by (try dsimp only at hSw); go_simp; try with_reducible rfl) ?_
  (try simp only [Act.put, List.setIfInBounds_toArray, List.set_cons_zero, List.set_cons_succ, List.getElem_toArray, List.getElem_cons_zero])
  refine held_take 1 _ _ rfl (by kernel_rfl) (by kernel_rfl) (by kernel_rfl) (fun _ _ _ h => h) (by rfl) hHeld (fun w hSw => by (try dsimp only at hSw); go_simp; try with_reducible rfl) ?_
  (try simp only [Act.put, List.setIfInBounds_toArray, List.set_cons_zero, List.set_cons_succ, List.getElem_toArray, List.getElem_cons_succ, List.getElem_cons_zero])
  refine held_take 2 _ _ rfl (by kernel_rfl) (by kernel_rfl) (by kernel_rfl) (fun _ _ _ h => h) (by rfl) hHeld (fun w hSw => by (try dsimp only at hSw); go_simp; try with_reducible rfl) ?_
  (try simp only [Act.put, List.setIfInBounds_toArray, List.set_cons_zero, List.set_cons_succ, List.getElem_toArray, List.getElem_cons_succ, List.getElem_cons_zero])
  refine wpAnyH_ready (rs := [3]) (by kernel_rfl) (by simp) ?_
  refine AllReadyH.cons rfl (fun K hK => ?_) AllReadyH.nil
  rw [if_pos (by rfl)]
  go_wp2_with (first | (go_at_call 18; have c := cs_LengthsOf Ls a_s c_s n _ (S_s.out.below (fr _ hHeld)) (by omega) hn64.1 hn64.2; (with_reducible refine c.mono ?_); rintro e wk ⟨v, rfl, ho, hbk⟩; obtain ⟨a_q1, c_q1, rfl, rX⟩ := row_open ho; have Q_q1 := rX.slv; clear ho rX c))
  refine hK.out _ _ (held_keep2 hl_bs hl_bt hHeld hbk) (fun hHeld1 => ?_)
  clear hK K
  (try simp only [Act.put, List.setIfInBounds_toArray, List.set_cons_zero, List.set_cons_succ, List.getElem_toArray, List.getElem_cons_succ, List.getElem_cons_zero])
  refine wpAnyH_ready (rs := [4]) (by kernel_rfl) (by simp) ?_
  refine AllReadyH.cons rfl (fun K hK => ?_) AllReadyH.nil
  rw [if_pos (by rfl)]
  go_wp2_with (first | (go_at_call 17; have c := sameInts_any (lenL Ls n) (lenL Ls n) a_r a_q1 c_r c_q1 _ (R_r.out.slv.below (fr _ hHeld1)) Q_q1 (by omega) (by omega); rw [decide_eq_true (rfl : (lenL Ls n) = (lenL Ls n))] at c; (with_reducible refine c.mono ?_); rintro e wk ⟨rfl, hbk⟩; clear c))
  refine hK.out _ _ (held_keep2 hl_bs hl_bt hHeld1 hbk) (fun hHeld2 => ?_)
  clear hK K
  (try simp only [Act.put, List.setIfInBounds_toArray, List.set_cons_zero, List.set_cons_succ, List.getElem_toArray, List.getElem_cons_succ, List.getElem_cons_zero])
  refine held_take 5 _ _ rfl (by kernel_rfl) (by kernel_rfl) (by kernel_rfl) (fun _ _ _ h => h) (by rfl) hHeld2 (fun w hSw => by (try dsimp only at hSw); go_simp; try with_reducible rfl) ?_
  (try simp only [Act.put, List.setIfInBounds_toArray, List.set_cons_zero, List.set_cons_succ, List.getElem_toArray, List.getElem_cons_succ, List.getElem_cons_zero])
  refine held_take 6 _ _ rfl (by kernel_rfl) (by kernel_rfl) (by kernel_rfl) (fun _ _ _ h => h) (by rfl) hHeld2 (fun w hSw => by (try dsimp only at hSw); go_simp; try with_reducible rfl) ?_
  (try simp only [Act.put, List.setIfInBounds_toArray, List.set_cons_zero, List.set_cons_succ, List.getElem_toArray, List.getElem_cons_succ, List.getElem_cons_zero])
  refine held_take 7 _ _ rfl (by kernel_rfl) (by kernel_rfl) (by kernel_rfl) (fun _ _ _ h => h) (by rfl) hHeld2 (fun w hSw => by (try dsimp only at hSw); go_simp; try with_reducible rfl) ?_
  (try simp only [Act.put, List.setIfInBounds_toArray, List.set_cons_zero, List.set_cons_succ, List.getElem_toArray, List.getElem_cons_succ, List.getElem_cons_zero])
  refine held_take 8 _ _ rfl (by kernel_rfl) (by kernel_rfl) (by kernel_rfl) (fun _ _ _ h => h) (by rfl) hHeld2 (fun w hSw => by (try dsimp only at hSw); go_simp; try with_reducible rfl) ?_
  (try simp only [Act.put, List.setIfInBounds_toArray, List.set_cons_zero, List.set_cons_succ, List.getElem_toArray, List.getElem_cons_succ, List.getElem_cons_zero])
  refine held_take 9 _ _ rfl (by kernel_rfl) (by kernel_rfl) (by kernel_rfl) (fun _ _ _ h => h) (by rfl) hHeld2 (fun w hSw => by (try dsimp only at hSw); go_simp; try with_reducible rfl) ?_
  (try simp only [Act.put, List.setIfInBounds_toArray, List.set_cons_zero, List.set_cons_succ, List.getElem_toArray, List.getElem_cons_succ, List.getElem_cons_zero])
  refine wpAnyH_ready (rs := [10]) (by kernel_rfl) (by simp) ?_
  refine AllReadyH.cons rfl (fun K hK => ?_) AllReadyH.nil
  rw [if_pos (by rfl)]
  go_wp2_with (first | (go_at_call 19; have c := cs_DeltaOf Ls a_s c_s n _ (S_s.out.below (fr _ hHeld2)) (by omega) hn64.1 hn64.2; (with_reducible refine c.mono ?_); rintro e wk ⟨v, rfl, ho, hbk⟩; obtain ⟨a_q2, c_q2, rfl, rX⟩ := row_open ho; have Q_q2 := rX.slv; clear ho rX c))
  refine hK.out _ _ (held_keep2 hl_bs hl_bt hHeld2 hbk) (fun hHeld3 => ?_)
  clear hK K
  (try simp only [Act.put, List.setIfInBounds_toArray, List.set_cons_zero, List.set_cons_succ, List.getElem_toArray, List.getElem_cons_succ, List.getElem_cons_zero])
  refine wpAnyH_ready (rs := [11]) (by kernel_rfl) (by simp) ?_
  refine AllReadyH.cons rfl (fun K hK => ?_) AllReadyH.nil
  rw [if_pos (by rfl)]
  go_wp2_with (first | (go_at_call 17; have c := sameInts_any (deltaL Ls n) (deltaL Ls n) a_d a_q2 c_d c_q2 _ (R_d.out.slv.below (fr _ hHeld3)) Q_q2 (by omega) (by omega); rw [decide_eq_true (rfl : (deltaL Ls n) = (deltaL Ls n))] at c; (with_reducible refine c.mono ?_); rintro e wk ⟨rfl, hbk⟩; clear c))
  refine hK.out _ _ (held_keep2 hl_bs hl_bt hHeld3 hbk) (fun hHeld4 => ?_)
  clear hK K
  (try simp only [Act.put, List.setIfInBounds_toArray, List.set_cons_zero, List.set_cons_succ, List.getElem_toArray, List.getElem_cons_succ, List.getElem_cons_zero])
  refine held_take 12 _ _ rfl (by kernel_rfl) (by kernel_rfl) (by kernel_rfl) (fun _ _ _ h => h) (by rfl) hHeld4 (fun w hSw => by (try dsimp only at hSw); go_simp; try with_reducible rfl) ?_
  (try simp only [Act.put, List.setIfInBounds_toArray, List.set_cons_zero, List.set_cons_succ, List.getElem_toArray, List.getElem_cons_succ, List.getElem_cons_zero])
  refine held_take 13 _ _ rfl (by kernel_rfl) (by kernel_rfl) (by kernel_rfl) (fun _ _ _ h => h) (by rfl) hHeld4 (fun w hSw => by (try dsimp only at hSw); go_simp; try with_reducible rfl) ?_
  (try simp only [Act.put, List.setIfInBounds_toArray, List.set_cons_zero, List.set_cons_succ, List.getElem_toArray, List.getElem_cons_succ, List.getElem_cons_zero])
  refine held_take 14 _ _ rfl (by kernel_rfl) (by kernel_rfl) (by kernel_rfl) (fun _ _ _ h => h) (by rfl) hHeld4 (fun w hSw => by (try dsimp only at hSw); go_simp; try with_reducible rfl) ?_
  (try simp only [Act.put, List.setIfInBounds_toArray, List.set_cons_zero, List.set_cons_succ, List.getElem_toArray, List.getElem_cons_succ, List.getElem_cons_zero])
  refine held_take 15 _ _ rfl (by kernel_rfl) (by kernel_rfl) (by kernel_rfl) (fun _ _ _ h => h) (by rfl) hHeld4 (fun w hSw => by (try dsimp only at hSw); go_simp; try with_reducible rfl) ?_
  (try simp only [Act.put, List.setIfInBounds_toArray, List.set_cons_zero, List.set_cons_succ, List.getElem_toArray, List.getElem_cons_succ, List.getElem_cons_zero])
  refine held_take 16 _ _ rfl (by kernel_rfl) (by kernel_rfl) (by kernel_rfl) (fun _ _ _ h => h) (by rfl) hHeld4 (fun w hSw => by (try dsimp only at hSw); go_simp; try with_reducible rfl) ?_
  (try simp only [Act.put, List.setIfInBounds_toArray, List.set_cons_zero, List.set_cons_succ, List.getElem_toArray, List.getElem_cons_succ, List.getElem_cons_zero])
  refine held_take 17 _ _ rfl (by kernel_rfl) (by kernel_rfl) (by kernel_rfl) (fun _ _ _ h => h) (by rfl) hHeld4 (fun w hSw => by (try dsimp only at hSw); go_simp; try with_reducible rfl) ?_
  (try simp only [Act.put, List.setIfInBounds_toArray, List.set_cons_zero, List.set_cons_succ, List.getElem_toArray, List.getElem_cons_succ, List.getElem_cons_zero])
  refine held_take 18 _ _ rfl (by kernel_rfl) (by kernel_rfl) (by kernel_rfl) (fun _ _ _ h => h) (by rfl) hHeld4 (fun w hSw => by (try dsimp only at hSw); go_simp; try with_reducible rfl) ?_
  (try simp only [Act.put, List.setIfInBounds_toArray, List.set_cons_zero, List.set_cons_succ, List.getElem_toArray, List.getElem_cons_succ, List.getElem_cons_zero])
  refine held_take 19 _ _ rfl (by kernel_rfl) (by kernel_rfl) (by kernel_rfl) (fun _ _ _ h => h) (by rfl) hHeld4 (fun w hSw => by (try dsimp only at hSw); go_simp; try with_reducible rfl) ?_
  (try simp only [Act.put, List.setIfInBounds_toArray, List.set_cons_zero, List.set_cons_succ, List.getElem_toArray, List.getElem_cons_succ, List.getElem_cons_zero])
  refine held_take 20 _ _ rfl (by kernel_rfl) (by kernel_rfl) (by kernel_rfl) (fun _ _ _ h => h) (by rfl) hHeld4 (fun w hSw => by (try dsimp only at hSw); go_simp; try with_reducible rfl) ?_
  (try simp only [Act.put, List.setIfInBounds_toArray, List.set_cons_zero, List.set_cons_succ, List.getElem_toArray, List.getElem_cons_succ, List.getElem_cons_zero])
  refine held_take 21 _ _ rfl (by kernel_rfl) (by kernel_rfl) (by kernel_rfl) (fun _ _ _ h => h) (by rfl) hHeld4 (fun w hSw => by (try dsimp only at hSw); go_simp; try with_reducible rfl) ?_
  (try simp only [Act.put, List.setIfInBounds_toArray, List.set_cons_zero, List.set_cons_succ, List.getElem_toArray, List.getElem_cons_succ, List.getElem_cons_zero])
  refine held_take 22 _ _ rfl (by kernel_rfl) (by kernel_rfl) (by kernel_rfl) (fun _ _ _ h => h) (by rfl) hHeld4 (fun w hSw => by (try dsimp only at hSw); go_simp; try with_reducible rfl) ?_
  (try simp only [Act.put, List.setIfInBounds_toArray, List.set_cons_zero, List.set_cons_succ, List.getElem_toArray, List.getElem_cons_succ, List.getElem_cons_zero])
  refine held_take 23 _ _ rfl (by kernel_rfl) (by kernel_rfl) (by kernel_rfl) (fun _ _ _ h => h) (by rfl) hHeld4 (fun w hSw => by (try dsimp only at hSw); go_simp; try with_reducible rfl) ?_
  (try simp only [Act.put, List.setIfInBounds_toArray, List.set_cons_zero, List.set_cons_succ, List.getElem_toArray, List.getElem_cons_succ, List.getElem_cons_zero])
  refine held_take 24 _ _ rfl (by kernel_rfl) (by kernel_rfl) (by kernel_rfl) (fun _ _ _ h => h) (by rfl) hHeld4 (fun w hSw => by (try dsimp only at hSw); go_simp; try with_reducible rfl) ?_
  (try simp only [Act.put, List.setIfInBounds_toArray, List.set_cons_zero, List.set_cons_succ, List.getElem_toArray, List.getElem_cons_succ, List.getElem_cons_zero])
  refine held_take 25 _ _ rfl (by kernel_rfl) (by kernel_rfl) (by kernel_rfl) (fun _ _ _ h => h) (by rfl) hHeld4 (fun w hSw => by (try dsimp only at hSw); go_simp; try with_reducible rfl) ?_
  (try simp only [Act.put, List.setIfInBounds_toArray, List.set_cons_zero, List.set_cons_succ, List.getElem_toArray, List.getElem_cons_succ, List.getElem_cons_zero])
  refine held_take 26 _ _ rfl (by kernel_rfl) (by kernel_rfl) (by kernel_rfl) (fun _ _ _ h => h) (by rfl) hHeld4 (fun w hSw => by (try dsimp only at hSw); go_simp; try with_reducible rfl) ?_
  (try simp only [Act.put, List.setIfInBounds_toArray, List.set_cons_zero, List.set_cons_succ, List.getElem_toArray, List.getElem_cons_succ, List.getElem_cons_zero])
  refine held_take 27 _ _ rfl (by kernel_rfl) (by kernel_rfl) (by kernel_rfl) (fun _ _ _ h => h) (by rfl) hHeld4 (fun w hSw => by (try dsimp only at hSw); go_simp; try with_reducible rfl) ?_
  (try simp only [Act.put, List.setIfInBounds_toArray, List.set_cons_zero, List.set_cons_succ, List.getElem_toArray, List.getElem_cons_succ, List.getElem_cons_zero])
  refine held_take 28 _ _ rfl (by kernel_rfl) (by kernel_rfl) (by kernel_rfl) (fun _ _ _ h => h) (by rfl) hHeld4 (fun w hSw => by (try dsimp only at hSw); go_simp; try with_reducible rfl) ?_
  (try simp only [Act.put, List.setIfInBounds_toArray, List.set_cons_zero, List.set_cons_succ, List.getElem_toArray, List.getElem_cons_succ, List.getElem_cons_zero])
  refine held_take 29 _ _ rfl (by kernel_rfl) (by kernel_rfl) (by kernel_rfl) (fun _ _ _ h => h) (by rfl) hHeld4 (fun w hSw => by (try dsimp only at hSw); go_simp; try with_reducible rfl) ?_
  (try simp only [Act.put, List.setIfInBounds_toArray, List.set_cons_zero, List.set_cons_succ, List.getElem_toArray, List.getElem_cons_succ, List.getElem_cons_zero])
  refine held_take 30 _ _ rfl (by kernel_rfl) (by kernel_rfl) (by kernel_rfl) (fun _ _ _ h => h) (by rfl) hHeld4 (fun w hSw => by (try dsimp only at hSw); go_simp; try with_reducible rfl) ?_
  (try simp only [Act.put, List.setIfInBounds_toArray, List.set_cons_zero, List.set_cons_succ, List.getElem_toArray, List.getElem_cons_succ, List.getElem_cons_zero])
  refine held_take 31 _ _ rfl (by kernel_rfl) (by kernel_rfl) (by kernel_rfl) (fun _ _ _ h => h) (by rfl) hHeld4 (fun w hSw => by (try dsimp only at hSw); go_simp; try with_reducible rfl) ?_
  (try simp only [Act.put, List.setIfInBounds_toArray, List.set_cons_zero, List.set_cons_succ, List.getElem_toArray, List.getElem_cons_succ, List.getElem_cons_zero])
  refine held_take 32 _ _ rfl (by kernel_rfl) (by kernel_rfl) (by kernel_rfl) (fun _ _ _ h => h) (by rfl) hHeld4 (fun w hSw => by (try dsimp only at hSw); go_simp; try with_reducible rfl) ?_
  (try simp only [Act.put, List.setIfInBounds_toArray, List.set_cons_zero, List.set_cons_succ, List.getElem_toArray, List.getElem_cons_succ, List.getElem_cons_zero])
  refine held_take 33 _ _ rfl (by kernel_rfl) (by kernel_rfl) (by kernel_rfl) (fun _ _ _ h => h) (by rfl) hHeld4 (fun w hSw => by (try dsimp only at hSw); go_simp; try with_reducible rfl) ?_
  (try simp only [Act.put, List.setIfInBounds_toArray, List.set_cons_zero, List.set_cons_succ, List.getElem_toArray, List.getElem_cons_succ, List.getElem_cons_zero])
  refine held_take 34 _ _ rfl (by kernel_rfl) (by kernel_rfl) (by kernel_rfl) (fun _ _ _ h => h) (by rfl) hHeld4 (fun w hSw => by (try dsimp only at hSw); go_simp; try with_reducible rfl) ?_
  (try simp only [Act.put, List.setIfInBounds_toArray, List.set_cons_zero, List.set_cons_succ, List.getElem_toArray, List.getElem_cons_succ, List.getElem_cons_zero])
  refine held_take 35 _ _ rfl (by kernel_rfl) (by kernel_rfl) (by kernel_rfl) (fun _ _ _ h => h) (by rfl) hHeld4 (fun w hSw => by (try dsimp only at hSw); go_simp; try with_reducible rfl) ?_
  (try simp only [Act.put, List.setIfInBounds_toArray, List.set_cons_zero, List.set_cons_succ, List.getElem_toArray, List.getElem_cons_succ, List.getElem_cons_zero])
  refine held_take 36 _ _ rfl (by kernel_rfl) (by kernel_rfl) (by kernel_rfl) (fun _ _ _ h => h) (by rfl) hHeld4 (fun w hSw => by (try dsimp only at hSw); go_simp; try with_reducible rfl) ?_
  (try simp only [Act.put, List.setIfInBounds_toArray, List.set_cons_zero, List.set_cons_succ, List.getElem_toArray, List.getElem_cons_succ, List.getElem_cons_zero])
  refine held_take 38 _ _ rfl (by kernel_rfl) (by kernel_rfl) (by kernel_rfl) (fun _ _ _ h => h) (by rfl) hHeld4 (fun w hSw => by (try dsimp only at hSw); go_simp; try with_reducible rfl) ?_
  (try simp only [Act.put, List.setIfInBounds_toArray, List.set_cons_zero, List.set_cons_succ, List.getElem_toArray, List.getElem_cons_succ, List.getElem_cons_zero])
  refine held_take 39 _ _ rfl (by kernel_rfl) (by kernel_rfl) (by kernel_rfl) (fun _ _ _ h => h) (by rfl) hHeld4 (fun w hSw => by (try dsimp only at hSw); go_simp; try with_reducible rfl) ?_
  (try simp only [Act.put, List.setIfInBounds_toArray, List.set_cons_zero, List.set_cons_succ, List.getElem_toArray, List.getElem_cons_succ, List.getElem_cons_zero])
  refine wpAnyH_ready (rs := [37]) (by kernel_rfl) (by simp) ?_
  refine AllReadyH.cons rfl (fun K hK => ?_) AllReadyH.nil
  rw [if_pos (by rfl)]
  go_wp2_with (first | (go_at_call 20; have c := ci_DeltaSet Lt a_t c_t m _ (S_t.out.below (fr _ hHeld4)) (by omega) hm64.1 hm64.2; (with_reducible refine c.mono ?_); rintro e wk ⟨v, rfl, ho, hbk⟩; obtain ⟨a_q3, c_q3, rfl, rX⟩ := row_open ho; have Q_q3 := rX.slv; clear ho rX c))
  refine hK.out _ _ (held_keep2 hl_bs hl_bt hHeld4 hbk) (fun hHeld5 => ?_)
  clear hK K
  (try simp only [Act.put, List.setIfInBounds_toArray, List.set_cons_zero, List.set_cons_succ, List.getElem_toArray, List.getElem_cons_succ, List.getElem_cons_zero])
  refine wpAnyH_ready (rs := [40]) (by kernel_rfl) (by simp) ?_
  refine AllReadyH.cons rfl (fun K hK => ?_) AllReadyH.nil
  rw [if_pos (by rfl)]
  go_wp2_with (first | (go_at_call 21; have c := cs_DeltaSet Lt a_t c_t m _ (S_t.out.below (fr _ hHeld5)) (by omega) hm64.1 hm64.2; (with_reducible refine c.mono ?_); rintro e wk ⟨v, rfl, ho, hbk⟩; obtain ⟨a_q4, c_q4, rfl, rX⟩ := row_open ho; have Q_q4 := rX.slv; have Q_q3' := Q_q3.below hbk; clear ho rX c))
  refine hK.out _ _ (held_keep2 hl_bs hl_bt hHeld5 hbk) (fun hHeld6 => ?_)
  clear hK K
  (try simp only [Act.put, List.setIfInBounds_toArray, List.set_cons_zero, List.set_cons_succ, List.getElem_toArray, List.getElem_cons_succ, List.getElem_cons_zero])
  refine wpAnyH_ready (rs := [41]) (by kernel_rfl) (by simp) ?_
  refine AllReadyH.cons rfl (fun K hK => ?_) AllReadyH.nil
  rw [if_pos (by rfl)]
  go_wp2_with (first | (go_at_call 17; have c := sameInts_any (deltasL Lt m) (deltasL Lt m) a_q3 a_q4 c_q3 c_q4 _ Q_q3' Q_q4 (by omega) (by omega); rw [decide_eq_true (rfl : (deltasL Lt m) = (deltasL Lt m))] at c; (with_reducible refine c.mono ?_); rintro e wk ⟨rfl, hbk⟩; clear c))
  refine hK.out _ _ (held_keep2 hl_bs hl_bt hHeld6 hbk) (fun hHeld7 => ?_)
  clear hK K
  (try simp only [Act.put, List.setIfInBounds_toArray, List.set_cons_zero, List.set_cons_succ, List.getElem_toArray, List.getElem_cons_succ, List.getElem_cons_zero])
  refine held_take 42 _ _ rfl (by kernel_rfl) (by kernel_rfl) (by kernel_rfl) (fun _ _ _ h => h) (by rfl) hHeld7 (fun w hSw => by (try dsimp only at hSw); go_simp; try with_reducible rfl) ?_
  (try simp only [Act.put, List.setIfInBounds_toArray, List.set_cons_zero, List.set_cons_succ, List.getElem_toArray, List.getElem_cons_succ, List.getElem_cons_zero])
  refine held_take 43 _ _ rfl (by kernel_rfl) (by kernel_rfl) (by kernel_rfl) (fun _ _ _ h => h) (by rfl) hHeld7 (fun w hSw => by (try dsimp only at hSw); go_simp; try with_reducible rfl) ?_
  (try simp only [Act.put, List.setIfInBounds_toArray, List.set_cons_zero, List.set_cons_succ, List.getElem_toArray, List.getElem_cons_succ, List.getElem_cons_zero])
  refine wpAnyH_done (by kernel_rfl) ?_ _
  have hB9 := hHeld7.2.2
  clear hS0 fr hHeld7 Q_q1 Q_q2 Q_q3 Q_q3' Q_q4
  rename World => wq
  have hb := hB9
  replace S_s := Lib.hid (S_s.out.below hb)
  replace B_bs := Lib.hid (B_bs.out.below hb)
  replace R_r := Lib.hid (R_r.out.below hb)
  replace R_d := Lib.hid (R_d.out.below hb)
  replace S_t := Lib.hid (S_t.out.below hb)
  replace B_bt := Lib.hid (B_bt.out.below hb)
  have z12 := hb.size
  replace hW := hW.trans (hb.mono hW.size)
  clear hb hB9 S_t
  clear B_bt hl_bt hl_bs
  by_cases hz : (lenL Ls n).length = 0
  · have hzi : (((lenL Ls n).length : Int) == 0) = true := by rw [beq_iff_eq]; omega
    rw [HDZ.out hz]
    have hz2 : ((([] : List Int).length : Int) == 0) = true := rfl
    clear hz HELA HDEL HSG HDZ R_r R_d S_s B_bs
    generalize (lenL Ls n).length = q at *
    go_wp2_with fail
    go_ret
    exact ⟨rfl, hW⟩
  · have hs := HSG.out hz
    have hzi : (((lenL Ls n).length : Int) == 0) = false := by rw [beq_eq_false_iff_ne]; omega
    have hS := isSgB_iff.1 hs
    have h0 : 0 < Ls.length := (okG_iff.1 hS.ok).2.1
    have HBD := Lib.hid hS.bounds
    have HEL : Hid (n ≠ 0 → eA * gB ≤ eB * gA) := Lib.hid (fun hn => HELA.out hz hn)
    clear hz HELA HSG HDZ hs hS R_r
    generalize (lenL Ls n).length = q at *
    obtain ⟨b, off, rfl, hbs, hcl⟩ := S_s.out.sl.open (by intro h; rw [List.map_eq_nil_iff] at h; subst h; simp at h0)
    have hWz := hW.size
    have hlbs : w2.heap.size < wq.heap.size := B_bs.out.lt
    have HCB := Lib.hid (B_bs.out.cell 0)
    have HCL := Lib.hid hcl
    clear hcl S_s B_bs
    go_wp2_with fail
    go_loopw [17, 18] (fun g i wr => ∃ k : Nat, 1 ≤ k ∧ k ≤ Ls.length ∧ i = .int .i64 (k : Int) ∧ g = .int .i64 (gch Ls (k - 1)) ∧ Below wq.heap.size wq wr) (fun _ i _ => Ls.length - (intOf i).toNat)
    case atStart => exact ⟨1, Nat.le_refl _, by omega, rfl, by simp [gch, diffsK], Below.refl _ _⟩
    case round =>
      obtain ⟨k, hk1, hk, rfl, rfl, hbel⟩ := hrel
      have hbz := hbel.size
      have hcb : wr.cell? ⟨w2.heap.size, 0, none⟩ = some (.slice (some ⟨b, off, none⟩) Ls.length c_s) := (hbel.cell (p := ⟨w2.heap.size, 0, none⟩) hlbs).trans HCB.out
      by_cases hlt : k < Ls.length
      · have hlti : (k : Int) < (Ls.length : Int) := by omega
        have hk' : k - 1 < Ls.length := by omega
        have hx0 : (0 : Int) ≤ (k : Int) := by omega
        have hx2 : (0 : Int) ≤ (k : Int) - 1 := by omega
        have hx4 : (1 : Int) ≤ (k : Int) := by omega
        have hx3 : (k : Int) - 1 < (Ls.length : Int) := by omega
        have hw1 : IntKind.i64.wrap ((k : Int) - 1) = (k : Int) - 1 := IntWalk.i64_in _ (by omega)
        have ht1 : ((k : Int) - 1).toNat = k - 1 := by omega
        have hc1 : wr.cell? ⟨b, off + k, none⟩ = some (.int .i64 Ls[k]) := (hbel.cell (p := ⟨b, off + k, none⟩) hbs).trans (HCL.out k _ (by simp [hlt]))
        have hc2 : wr.cell? ⟨b, off + (k - 1), none⟩ = some (.int .i64 Ls[k - 1]) := (hbel.cell (p := ⟨b, off + (k - 1), none⟩) hbs).trans (HCL.out (k - 1) _ (by simp [hk']))
        have hX := HBD.out Ls[k] (List.getElem_mem hlt)
        have hY := HBD.out Ls[k - 1] (List.getElem_mem hk')
        have HT : Hid (gch Ls (k + 1 - 1) = gcdOf (gch Ls (k - 1)) (Ls[k] - Ls[k - 1])) := Lib.hid (by obtain ⟨j, rfl⟩ : ∃ j, k = j + 1 := ⟨k - 1, by omega⟩; exact gch_succ (G := Ls) (k := j) hlt)
        generalize Ls[k] = x at *
        generalize Ls[k - 1] = y at *
        generalize gch Ls (k - 1) = gk at *
        have hw2 : IntKind.i64.wrap (x - y) = x - y := IntWalk.i64_in _ (by omega)
        have hS0 : wr.drew.cell? ⟨w2.heap.size, 0, none⟩ = some (.slice (some ⟨b, off, none⟩) Ls.length c_s) ∧ wr.drew.cell? ⟨b, off + k, none⟩ = some (.int .i64 x) ∧ wr.drew.cell? ⟨b, off + (k - 1), none⟩ = some (.int .i64 y) ∧ Below wq.heap.size wq wr.drew := ⟨hcb, hc1, hc2, hbel.drew⟩
        have cG := fun w => spec_GcdOf gk (x - y) w
        generalize gcdOf gk (x - y) = gn at *
        go_wp2_with fail
        clear hcb hc1 hc2
        refine wp_region_held_drew (S := fun w' => w'.cell? ⟨w2.heap.size, 0, none⟩ = some (.slice (some ⟨b, off, none⟩) Ls.length c_s) ∧ w'.cell? ⟨b, off + k, none⟩ = some (.int .i64 x) ∧ w'.cell? ⟨b, off + (k - 1), none⟩ = some (.int .i64 y) ∧ Below wq.heap.size wq w') (by kernel_rfl) hS0 (fun hHeld => ?_)
        refine held_take 0 _ _ rfl (by kernel_rfl) (by kernel_rfl) (by kernel_rfl) (fun _ _ _ h => h) (by rfl) hHeld (fun w hSw => by (try dsimp only at hSw); go_simp; try with_reducible rfl) ?_
        (try simp only [Act.put, List.setIfInBounds_toArray, List.set_cons_zero, List.set_cons_succ, List.getElem_toArray, List.getElem_cons_zero])
        refine held_take 1 _ _ rfl (by kernel_rfl) (by kernel_rfl) (by kernel_rfl) (fun _ _ _ h => h) (by rfl) hHeld (fun w hSw => by (try dsimp only at hSw); go_simp; try with_reducible rfl) ?_
        (try simp only [Act.put, List.setIfInBounds_toArray, List.set_cons_zero, List.set_cons_succ, List.getElem_toArray, List.getElem_cons_succ, List.getElem_cons_zero])
        refine held_take 2 _ _ rfl (by kernel_rfl) (by kernel_rfl) (by kernel_rfl) (fun _ _ _ h => h) (by rfl) hHeld (fun w hSw => by (try dsimp only at hSw); go_simp; try with_reducible rfl) ?_
        (try simp only [Act.put, List.setIfInBounds_toArray, List.set_cons_zero, List.set_cons_succ, List.getElem_toArray, List.getElem_cons_succ, List.getElem_cons_zero])
        refine held_take 3 _ _ rfl (by kernel_rfl) (by kernel_rfl) (by kernel_rfl) (fun _ _ _ h => h) (by rfl) hHeld (fun w hSw => by (try dsimp only at hSw); go_simp; try with_reducible rfl) ?_
        (try simp only [Act.put, List.setIfInBounds_toArray, List.set_cons_zero, List.set_cons_succ, List.getElem_toArray, List.getElem_cons_succ, List.getElem_cons_zero])
        refine held_take 4 _ _ rfl (by kernel_rfl) (by kernel_rfl) (by kernel_rfl) (fun _ _ _ h => h) (by rfl) hHeld (fun w hSw => by (try dsimp only at hSw); go_simp; try with_reducible rfl) ?_
        (try simp only [Act.put, List.setIfInBounds_toArray, List.set_cons_zero, List.set_cons_succ, List.getElem_toArray, List.getElem_cons_succ, List.getElem_cons_zero])
        refine held_take 5 _ _ rfl (by kernel_rfl) (by kernel_rfl) (by kernel_rfl) (fun _ _ _ h => h) (by rfl) hHeld (fun w hSw => by (try dsimp only at hSw); go_simp; try with_reducible rfl) ?_
        (try simp only [Act.put, List.setIfInBounds_toArray, List.set_cons_zero, List.set_cons_succ, List.getElem_toArray, List.getElem_cons_succ, List.getElem_cons_zero])
        refine held_take 6 _ _ rfl (by kernel_rfl) (by kernel_rfl) (by kernel_rfl) (fun _ _ _ h => h) (by rfl) hHeld (fun w hSw => by (try dsimp only at hSw); go_simp; try with_reducible rfl) ?_
        (try simp only [Act.put, List.setIfInBounds_toArray, List.set_cons_zero, List.set_cons_succ, List.getElem_toArray, List.getElem_cons_succ, List.getElem_cons_zero])
        refine held_take 7 _ _ rfl (by kernel_rfl) (by kernel_rfl) (by kernel_rfl) (fun _ _ _ h => h) (by rfl) hHeld (fun w hSw => by (try dsimp only at hSw); go_simp; try with_reducible rfl) ?_
        (try simp only [Act.put, List.setIfInBounds_toArray, List.set_cons_zero, List.set_cons_succ, List.getElem_toArray, List.getElem_cons_succ, List.getElem_cons_zero])
        refine held_take 8 _ _ rfl (by kernel_rfl) (by kernel_rfl) (by kernel_rfl) (fun _ _ _ h => h) (by rfl) hHeld (fun w hSw => by (try dsimp only at hSw); go_simp; try with_reducible rfl) ?_
        (try simp only [Act.put, List.setIfInBounds_toArray, List.set_cons_zero, List.set_cons_succ, List.getElem_toArray, List.getElem_cons_succ, List.getElem_cons_zero])
        refine held_take 9 _ _ rfl (by kernel_rfl) (by kernel_rfl) (by kernel_rfl) (fun _ _ _ h => h) (by rfl) hHeld (fun w hSw => by (try dsimp only at hSw); go_simp; try with_reducible rfl) ?_
        (try simp only [Act.put, List.setIfInBounds_toArray, List.set_cons_zero, List.set_cons_succ, List.getElem_toArray, List.getElem_cons_succ, List.getElem_cons_zero])
        refine held_take 10 _ _ rfl (by kernel_rfl) (by kernel_rfl) (by kernel_rfl) (fun _ _ _ h => h) (by rfl) hHeld (fun w hSw => by (try dsimp only at hSw); go_simp; try with_reducible rfl) ?_
        (try simp only [Act.put, List.setIfInBounds_toArray, List.set_cons_zero, List.set_cons_succ, List.getElem_toArray, List.getElem_cons_succ, List.getElem_cons_zero])
        refine held_take 11 _ _ rfl (by kernel_rfl) (by kernel_rfl) (by kernel_rfl) (fun _ _ _ h => h) (by rfl) hHeld (fun w hSw => by (try dsimp only at hSw); go_simp; try with_reducible rfl) ?_
        (try simp only [Act.put, List.setIfInBounds_toArray, List.set_cons_zero, List.set_cons_succ, List.getElem_toArray, List.getElem_cons_succ, List.getElem_cons_zero])
        refine held_take 12 _ _ rfl (by kernel_rfl) (by kernel_rfl) (by kernel_rfl) (fun _ _ _ h => h) (by rfl) hHeld (fun w hSw => by (try dsimp only at hSw); go_simp; try with_reducible rfl) ?_
        (try simp only [Act.put, List.setIfInBounds_toArray, List.set_cons_zero, List.set_cons_succ, List.getElem_toArray, List.getElem_cons_succ, List.getElem_cons_zero])
        refine wpAnyH_ready (rs := [13]) (by kernel_rfl) (by simp) ?_
        refine AllReadyH.cons rfl (fun K hK => ?_) AllReadyH.nil
        rw [if_pos (by rfl)]
        go_wp2_with (first | (go_at_call 22; (with_reducible refine (cG _).mono ?_); rintro e wk ⟨rfl, hwk⟩; subst hwk))
        refine hK.out _ _ (hHeld) (fun hHeld1 => ?_)
        clear hK K
        (try simp only [Act.put, List.setIfInBounds_toArray, List.set_cons_zero, List.set_cons_succ, List.getElem_toArray, List.getElem_cons_succ, List.getElem_cons_zero])
        refine held_take 14 _ _ rfl (by kernel_rfl) (by kernel_rfl) (by kernel_rfl) (fun _ _ _ h => h) (by rfl) hHeld1 (fun w hSw => by (try dsimp only at hSw); go_simp; try with_reducible rfl) ?_
        (try simp only [Act.put, List.setIfInBounds_toArray, List.set_cons_zero, List.set_cons_succ, List.getElem_toArray, List.getElem_cons_succ, List.getElem_cons_zero])
        refine wpAnyH_done (by kernel_rfl) ?_ _
        have hbF := (hHeld1).2.2.2
        clear hS0 hHeld1 cG hx2 hx3 hx4 hw1 ht1 hw2
        go_wp2_with fail
        go_roundw
        case rel => exact ⟨k + 1, by omega, by omega, by go_num, by rw [HT.out], hbF⟩
        case measure => simp [intOf]; omega
      · obtain rfl : k = Ls.length := by omega
        have hlti : ¬ ((Ls.length : Nat) : Int) < (Ls.length : Int) := by omega
        have RD := Lib.hid (R_d.out.slv.below hbel)
        have hW2 := hW.trans (hbel.mono hWz)
        have HD2 := Lib.hid HDEL.out
        have hgb := gch_bnd Ls (Ls.length - 1)
        clear R_d HDEL hW hbel HCB HCL HBD hlbs
        generalize gch Ls (Ls.length - 1) = D at *
        generalize deltaL Ls n = dd at *
        go_wp2_with fail
        go_loopw [19] (fun i w2 => ∃ j : Nat, j ≤ dd.length ∧ i = .int .i64 (j : Int) ∧ Below wr.heap.size wr w2) (fun i _ => dd.length - (intOf i).toNat)
        case atStart => exact ⟨0, Nat.zero_le _, rfl, Below.refl _ _⟩
        case round =>
          rename World => w2
          obtain ⟨j, hj, rfl, hb2⟩ := hrel
          have hW3 := hW2.trans (hb2.mono hW2.size)
          by_cases hjl : j < dd.length
          · have hjli : (j : Int) < (dd.length : Int) := by omega
            have hj0 : (0 : Int) ≤ (j : Int) := by omega
            obtain ⟨bd, od, rfl, hbd, hcd⟩ := RD.out.open (by intro h; rw [List.map_eq_nil_iff] at h; subst h; simp at hjl)
            have hc3 : w2.cell? ⟨bd, od + j, none⟩ = some (.int .i64 dd[j]) := (hb2.cell (p := ⟨bd, od + j, none⟩) hbd).trans (hcd j _ (by simp [hjl]))
            obtain ⟨⟨hD0, hDm⟩, hx1, hx2⟩ := HD2.out dd[j] (List.getElem_mem hjl)
            have hDz : (D == 0) = false := by rw [beq_eq_false_iff_ne]; exact hD0
            have hD1 : 1 ≤ D := by omega
            have hm1 : dd[j] % D = 0 := by rw [← hDm, Int.tmod_eq_emod_of_nonneg (by omega)]
            have HM := Lib.hid hm1
            clear hcd hDm hm1 hD0
            generalize dd[j] = x at *
            have hmz : (x % D == 0) = true := by rw [beq_iff_eq]; exact HM.out
            have hmn : (x % D != 0) = false := by rw [bne, hmz]; rfl
            go_wp2_with fail
            go_roundw
            case rel => exact ⟨j + 1, by omega, by go_num, hb2⟩
            case measure => simp [intOf]; omega
          · have hjli : ¬ (j : Int) < (dd.length : Int) := by omega
            have hp1 : 0 ≤ eA * gB := Int.mul_nonneg hEB.1 hGB.2.2.1
            have hp2 : 0 ≤ eB * gA := Int.mul_nonneg hEB.2.2.1 hGB.1
            have hp3 : eA * gB ≤ 1200 * 1200 := Int.mul_le_mul hEB.2.1 hGB.2.2.2 hGB.2.2.1 (by omega)
            have hp4 : eB * gA ≤ 1200 * 1200 := Int.mul_le_mul hEB.2.2.2 hGB.2.1 hGB.1 (by omega)
            have hwp : IntKind.i64.wrap (eA * gB) = eA * gB := IntWalk.i64_in _ (by omega)
            have hwq : IntKind.i64.wrap (eB * gA) = eB * gA := IntWalk.i64_in _ (by omega)
            by_cases hn : n = 0
            · subst hn
              have hnz : ((0 : Int) == 0) = true := rfl
              by_cases hle : eA * gB ≤ eB * gA
              · have hled : decide (eA * gB ≤ eB * gA) = true := decide_eq_true hle
                go_wp2_with fail
                go_ret
                exact ⟨rfl, hW3⟩
              · have hled : decide (eA * gB ≤ eB * gA) = false := decide_eq_false hle
                go_wp2_with fail
                go_ret
                exact ⟨rfl, hW3⟩
            · have hle := HEL.out hn
              have hled : decide (eA * gB ≤ eB * gA) = true := decide_eq_true hle
              have hnz : (n == 0) = false := by rw [beq_eq_false_iff_ne]; exact hn
              clear hn
              go_wp2_with fail
              go_ret
              exact ⟨rfl, hW3⟩

set_option maxRecDepth 100000 in
set_option maxHeartbeats 800000 in
theorem FnLengths.walk (p0 : Option Addr) (len0 cap0 : Nat) (z0 : List Int) (W : World) (r0 : IsRow .u8 W p0 len0 cap0 z0) (_ : W.ShapedOpen Try.prog) :
    Calls Try.prog 3 #[.slice p0 len0 cap0] W fun e w' => e = .returned (.bool true) ∧ Below W.heap.size W w' := by
  by_cases hl : len0 ≤ 1048576
  · exact fnLengths_small p0 len0 cap0 z0 W r0 hl
  · have cb := big_any p0 len0 cap0 W (row_maxLen r0)
    rw [decide_eq_true (show 1048576 < len0 by omega)] at cb
    go_enter Try.func3, Try.ntmps3
    go_wp2_with fail
    refine cb.mono ?_
    rintro e w0 ⟨rfl, rfl⟩
    go_wp2_with fail
    go_ret
    exact ⟨rfl, Below.refl _ _⟩
end Go.Proofs.Ytlinlmmcgifloaa
