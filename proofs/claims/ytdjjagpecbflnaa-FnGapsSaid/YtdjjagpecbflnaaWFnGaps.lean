/-
  THE WALK OF THE LAW FnGaps: at every drawn code both sides agree; an element stands at its index; gaps and small elements make up the numbers below the conductor (written by fn_gaps.py of the verifier's own).
-/
import Derived.Test.YtdjjagpecbflnaaRows
import Derived.Test.YtdjjagpecbflnaaDrw8
import Derived.Test.YtdjjagpecbflnaaC3
import Derived.Test.YtdjjagpecbflnaaC4
import Derived.Deep.DeepCutAuto
namespace Go.Proofs.Ytdjjagpecbflnaa
open Go Go.RowKit

theorem keep3 {W wr w1 : World} {b1 b2 b3 : Nat} {v1 v2 v3 : Value} (h1 : b1 < W.heap.size) (h2 : b2 < W.heap.size) (h3 : b3 < W.heap.size)
    (h : wr.cell? ⟨b1, 0, none⟩ = some v1 ∧ wr.cell? ⟨b2, 0, none⟩ = some v2 ∧ wr.cell? ⟨b3, 0, none⟩ = some v3 ∧ Below W.heap.size W wr) (hb : Below wr.heap.size wr w1) :
    w1.cell? ⟨b1, 0, none⟩ = some v1 ∧ w1.cell? ⟨b2, 0, none⟩ = some v2 ∧ w1.cell? ⟨b3, 0, none⟩ = some v3 ∧ Below W.heap.size W w1 := by
  obtain ⟨e1, e2, e3, hB⟩ := h
  have hs := hB.size
  exact ⟨(hb.cell (p := ⟨b1, 0, none⟩) (Nat.lt_of_lt_of_le h1 hs)).trans e1, (hb.cell (p := ⟨b2, 0, none⟩) (Nat.lt_of_lt_of_le h2 hs)).trans e2, (hb.cell (p := ⟨b3, 0, none⟩) (Nat.lt_of_lt_of_le h3 hs)).trans e3, hB.trans (hb.mono hs)⟩

theorem keep1 {W wr w1 : World} {b1 : Nat} {v1 : Value} (h1 : b1 < W.heap.size)
    (h : wr.cell? ⟨b1, 0, none⟩ = some v1 ∧ Below W.heap.size W wr) (hb : Below wr.heap.size wr w1) : w1.cell? ⟨b1, 0, none⟩ = some v1 ∧ Below W.heap.size W w1 :=
  ⟨(hb.cell (p := ⟨b1, 0, none⟩) (Nat.lt_of_lt_of_le h1 h.2.size)).trans h.1, h.2.trans (hb.mono h.2.size)⟩

theorem shared_apart (G : List Int) : shared (gapsL G) (smallL G) = [] := by
  have e : (gapsL G).filter (hasB (smallL G)) = [] := by
    rw [List.filter_eq_nil_iff]
    intro x hx hh
    exact gaps_apart x hx (of_decide_eq_true hh)
  unfold shared
  rw [e]; rfl

set_option maxRecDepth 100000 in
set_option maxHeartbeats 12800000 in
theorem fnGaps_small (p0 : Option Addr) (len0 cap0 : Nat) (z0 : List Int) (W : World) (r0 : IsRow .u8 W p0 len0 cap0 z0) (hl : len0 ≤ 1048576) :
    Calls Try.prog 3 #[.slice p0 len0 cap0] W fun e w' => e = .returned (.bool true) ∧ Below W.heap.size W w' := by
  have HR := Lib.hid r0
  clear r0
  have hW : Below W.heap.size W W := Below.refl _ _
  go_enter Try.func3, Try.ntmps3
  have c := big_b p0 len0 cap0 W (by unfold maxLen; omega)
  rw [decide_eq_false (show ¬ 1048576 < len0 by omega)] at c
  go_wp2_with fail
  refine c.mono ?_
  rintro e w1 ⟨rfl, hb⟩
  clear c
  have z1 := hb.size
  replace hW := hW.trans (hb.mono hW.size)
  clear hb
  have c := DrawGaps_any w1 p0 len0 cap0 z0 (HR.out.below hW) hl
  go_wp2_with fail
  refine c.mono ?_
  rintro e w2 ⟨Ls, a_s, c_s, hl_s, hB_s, rfl, hs, hb⟩
  clear c
  have z2 := hb.size
  replace hW := hW.trans (hb.mono hW.size)
  have S_s := Lib.hid hs
  clear hs hb hB_s
  obtain ⟨w3, hwb⟩ : ∃ wb, wb = w2.alloc (.cells #[.slice a_s Ls.length c_s] 26) := ⟨_, rfl⟩
  have hb : Below w2.heap.size w2 w3 := by rw [hwb]; exact box_below _ _
  have hA : Arr w3 w2.heap.size 26 [.slice a_s Ls.length c_s] := by rw [hwb]; exact Arr.new _ _ _
  replace S_s := Lib.hid (S_s.out.below hb)
  have z3 := hb.size
  replace hW := hW.trans (hb.mono hW.size)
  have y3 : w2.heap.size < w3.heap.size := hA.lt
  have B_bs := Lib.hid hA
  have H_w3 := Lib.hid hwb
  clear hwb hb hA
  have hg200 := gapsL_length_le Ls
  have hm200 := smallL_length_le Ls
  have c := ci_Gaps Ls a_s c_s w3 S_s.out (by omega)
  have hk_bs : w3.cell? ⟨w2.heap.size, 0, none⟩ = some (.slice a_s Ls.length c_s) := B_bs.out.cell 0
  rw [H_w3.out] at hk_bs
  go_wp2_with fail
  rw [← H_w3.out]
  refine c.mono ?_
  rintro e w4 ⟨v, rfl, ho, hb⟩
  clear c
  clear hk_bs
  obtain ⟨a_g, c_g, rfl, rX⟩ := row_open ho
  clear ho
  replace S_s := Lib.hid (S_s.out.below hb)
  replace B_bs := Lib.hid (B_bs.out.below hb)
  have z4 := hb.size
  replace hW := hW.trans (hb.mono hW.size)
  have R_g := Lib.hid rX
  clear rX hb
  have c := ci_SmallElements Ls a_s c_s w4 S_s.out (by omega)
  have hk_bs : w4.cell? ⟨w2.heap.size, 0, none⟩ = some (.slice a_s Ls.length c_s) := B_bs.out.cell 0
  go_wp2_with fail
  refine c.mono ?_
  rintro e w5 ⟨v, rfl, ho, hb⟩
  clear c
  clear hk_bs
  obtain ⟨a_m, c_m, rfl, rX⟩ := row_open ho
  clear ho
  replace S_s := Lib.hid (S_s.out.below hb)
  replace B_bs := Lib.hid (B_bs.out.below hb)
  replace R_g := Lib.hid (R_g.out.below hb)
  have z5 := hb.size
  replace hW := hW.trans (hb.mono hW.size)
  have R_m := Lib.hid rX
  clear rX hb
  have c := DrawElementAt_any w5 p0 len0 cap0 z0 (HR.out.below hW) hl
  have hk_bs : w5.cell? ⟨w2.heap.size, 0, none⟩ = some (.slice a_s Ls.length c_s) := B_bs.out.cell 0
  go_wp2_with fail
  refine c.mono ?_
  rintro e w6 ⟨La, a_a, c_a, k, hl_a, hB_a, hk64, rfl, hs, hb⟩
  clear c
  clear hk_bs
  replace S_s := Lib.hid (S_s.out.below hb)
  replace B_bs := Lib.hid (B_bs.out.below hb)
  replace R_g := Lib.hid (R_g.out.below hb)
  replace R_m := Lib.hid (R_m.out.below hb)
  have z6 := hb.size
  replace hW := hW.trans (hb.mono hW.size)
  have S_a := Lib.hid hs
  clear hs hb hB_a
  obtain ⟨w7, hwb⟩ : ∃ wb, wb = w6.alloc (.cells #[.slice a_a La.length c_a] 26) := ⟨_, rfl⟩
  have hb : Below w6.heap.size w6 w7 := by rw [hwb]; exact box_below _ _
  have hA : Arr w7 w6.heap.size 26 [.slice a_a La.length c_a] := by rw [hwb]; exact Arr.new _ _ _
  replace S_s := Lib.hid (S_s.out.below hb)
  replace B_bs := Lib.hid (B_bs.out.below hb)
  replace R_g := Lib.hid (R_g.out.below hb)
  replace R_m := Lib.hid (R_m.out.below hb)
  replace S_a := Lib.hid (S_a.out.below hb)
  have z7 := hb.size
  replace hW := hW.trans (hb.mono hW.size)
  have y7 : w6.heap.size < w7.heap.size := hA.lt
  have B_ba := Lib.hid hA
  have H_w7 := Lib.hid hwb
  clear hwb hb hA
  have c := ci_ElementAt La a_a c_a k w7 S_a.out (by omega) hk64.1 hk64.2
  have hk_bs : w7.cell? ⟨w2.heap.size, 0, none⟩ = some (.slice a_s Ls.length c_s) := B_bs.out.cell 0
  have hk_ba : w7.cell? ⟨w6.heap.size, 0, none⟩ = some (.slice a_a La.length c_a) := B_ba.out.cell 0
  rw [H_w7.out] at hk_bs hk_ba
  go_wp2_with fail
  rw [← H_w7.out]
  refine c.mono ?_
  rintro e w8 ⟨rfl, hb⟩
  clear c
  clear hk_bs hk_ba
  replace S_s := Lib.hid (S_s.out.below hb)
  replace B_bs := Lib.hid (B_bs.out.below hb)
  replace R_g := Lib.hid (R_g.out.below hb)
  replace R_m := Lib.hid (R_m.out.below hb)
  replace S_a := Lib.hid (S_a.out.below hb)
  replace B_ba := Lib.hid (B_ba.out.below hb)
  have z8 := hb.size
  replace hW := hW.trans (hb.mono hW.size)
  clear hb
  have c := DrawIndexOfElement_any w8 p0 len0 cap0 z0 (HR.out.below hW) hl
  have hk_bs : w8.cell? ⟨w2.heap.size, 0, none⟩ = some (.slice a_s Ls.length c_s) := B_bs.out.cell 0
  have hk_ba : w8.cell? ⟨w6.heap.size, 0, none⟩ = some (.slice a_a La.length c_a) := B_ba.out.cell 0
  go_wp2_with fail
  refine c.mono ?_
  rintro e w9 ⟨Lb, a_b, c_b, n, hl_b, hB_b, hn64, rfl, hs, hb⟩
  clear c
  clear hk_bs hk_ba
  replace S_s := Lib.hid (S_s.out.below hb)
  replace B_bs := Lib.hid (B_bs.out.below hb)
  replace R_g := Lib.hid (R_g.out.below hb)
  replace R_m := Lib.hid (R_m.out.below hb)
  replace S_a := Lib.hid (S_a.out.below hb)
  replace B_ba := Lib.hid (B_ba.out.below hb)
  have z9 := hb.size
  replace hW := hW.trans (hb.mono hW.size)
  have S_b := Lib.hid hs
  clear hs hb hB_b
  obtain ⟨w10, hwb⟩ : ∃ wb, wb = w9.alloc (.cells #[.slice a_b Lb.length c_b] 26) := ⟨_, rfl⟩
  have hb : Below w9.heap.size w9 w10 := by rw [hwb]; exact box_below _ _
  have hA : Arr w10 w9.heap.size 26 [.slice a_b Lb.length c_b] := by rw [hwb]; exact Arr.new _ _ _
  replace S_s := Lib.hid (S_s.out.below hb)
  replace B_bs := Lib.hid (B_bs.out.below hb)
  replace R_g := Lib.hid (R_g.out.below hb)
  replace R_m := Lib.hid (R_m.out.below hb)
  replace S_a := Lib.hid (S_a.out.below hb)
  replace B_ba := Lib.hid (B_ba.out.below hb)
  replace S_b := Lib.hid (S_b.out.below hb)
  have z10 := hb.size
  replace hW := hW.trans (hb.mono hW.size)
  have y10 : w9.heap.size < w10.heap.size := hA.lt
  have B_bb := Lib.hid hA
  have H_w10 := Lib.hid hwb
  clear hwb hb hA
  have c := ci_IndexOfElement Lb a_b c_b n w10 S_b.out (by omega) hn64.1 hn64.2
  have hk_bs : w10.cell? ⟨w2.heap.size, 0, none⟩ = some (.slice a_s Ls.length c_s) := B_bs.out.cell 0
  have hk_ba : w10.cell? ⟨w6.heap.size, 0, none⟩ = some (.slice a_a La.length c_a) := B_ba.out.cell 0
  have hk_bb : w10.cell? ⟨w9.heap.size, 0, none⟩ = some (.slice a_b Lb.length c_b) := B_bb.out.cell 0
  rw [H_w10.out] at hk_bs hk_ba hk_bb
  go_wp2_with fail
  rw [← H_w10.out]
  refine c.mono ?_
  rintro e w11 ⟨rfl, hb⟩
  clear c
  clear hk_bs hk_ba hk_bb
  replace S_s := Lib.hid (S_s.out.below hb)
  replace B_bs := Lib.hid (B_bs.out.below hb)
  replace R_g := Lib.hid (R_g.out.below hb)
  replace R_m := Lib.hid (R_m.out.below hb)
  replace S_a := Lib.hid (S_a.out.below hb)
  replace B_ba := Lib.hid (B_ba.out.below hb)
  replace S_b := Lib.hid (S_b.out.below hb)
  replace B_bb := Lib.hid (B_bb.out.below hb)
  have z11 := hb.size
  replace hW := hW.trans (hb.mono hW.size)
  clear hb
  have hl_bs := B_bs.out.lt
  have hl_ba := B_ba.out.lt
  have hl_bb := B_bb.out.lt
  have HS0 := Lib.hid (show w11.drew.cell? ⟨w2.heap.size, 0, none⟩ = some (.slice a_s Ls.length c_s) ∧ w11.drew.cell? ⟨w6.heap.size, 0, none⟩ = some (.slice a_a La.length c_a) ∧ w11.drew.cell? ⟨w9.heap.size, 0, none⟩ = some (.slice a_b Lb.length c_b) ∧ Below w11.heap.size w11 w11.drew from ⟨B_bs.out.cell 0, B_ba.out.cell 0, B_bb.out.cell 0, (Below.refl _ _).drew⟩)
  have fr := fun w' (h : w'.cell? ⟨w2.heap.size, 0, none⟩ = some (.slice a_s Ls.length c_s) ∧ w'.cell? ⟨w6.heap.size, 0, none⟩ = some (.slice a_a La.length c_a) ∧ w'.cell? ⟨w9.heap.size, 0, none⟩ = some (.slice a_b Lb.length c_b) ∧ Below w11.heap.size w11 w') => h.2.2.2
  have hk_bs : w11.cell? ⟨w2.heap.size, 0, none⟩ = some (.slice a_s Ls.length c_s) := B_bs.out.cell 0
  have hk_ba : w11.cell? ⟨w6.heap.size, 0, none⟩ = some (.slice a_a La.length c_a) := B_ba.out.cell 0
  have hk_bb : w11.cell? ⟨w9.heap.size, 0, none⟩ = some (.slice a_b Lb.length c_b) := B_bb.out.cell 0
  go_upto_region 10 with fail
  go_cut [82] (fun s82 wx => s82 = Value.bool false ∧ Below w11.heap.size w11 wx)
  case first =>
    clear hk_bs hk_ba hk_bb
    refine wp_region_held_drew (S := fun w' => w'.cell? ⟨w2.heap.size, 0, none⟩ = some (.slice a_s Ls.length c_s) ∧ w'.cell? ⟨w6.heap.size, 0, none⟩ = some (.slice a_a La.length c_a) ∧ w'.cell? ⟨w9.heap.size, 0, none⟩ = some (.slice a_b Lb.length c_b) ∧ Below w11.heap.size w11 w') (by kernel_rfl) HS0.out (fun hHeld => ?_)
    refine held_take 0 _ _ rfl (by kernel_rfl) (by kernel_rfl) (by kernel_rfl) (fun _ _ _ h => h) (by rfl) hHeld (fun w hSw => by (try dsimp only at hSw); go_simp; try with_reducible rfl) ?_
    (try simp only [Act.put, List.setIfInBounds_toArray, List.set_cons_zero, List.set_cons_succ, List.getElem_toArray, List.getElem_cons_zero])
    refine held_take 1 _ _ rfl (by kernel_rfl) (by kernel_rfl) (by kernel_rfl) (fun _ _ _ h => h) (by rfl) hHeld (fun w hSw => by (try dsimp only at hSw); go_simp; try with_reducible rfl) ?_
    (try simp only [Act.put, List.setIfInBounds_toArray, List.set_cons_zero, List.set_cons_succ, List.getElem_toArray, List.getElem_cons_succ, List.getElem_cons_zero])
    refine wpAnyH_ready (rs := [2]) (by kernel_rfl) (by simp) ?_
    refine AllReadyH.cons rfl (fun K hK => ?_) AllReadyH.nil
    rw [if_pos (by rfl)]
    go_wp2_with (first | (go_at_call 20; have c := cs_Gaps Ls a_s c_s _ (S_s.out.below (fr _ hHeld)) (by omega); (with_reducible refine c.mono ?_); rintro e wk ⟨v, rfl, ho, hbk⟩; clear c; obtain ⟨a_q, c_q, rfl, rX⟩ := row_open ho; clear ho; have R_q := Lib.hid rX; clear rX))
    refine hK.out _ _ (keep3 hl_bs hl_ba hl_bb hHeld hbk) (fun hHeld1 => ?_)
    clear hK K
    (try simp only [Act.put, List.setIfInBounds_toArray, List.set_cons_zero, List.set_cons_succ, List.getElem_toArray, List.getElem_cons_succ, List.getElem_cons_zero])
    refine wpAnyH_ready (rs := [3]) (by kernel_rfl) (by simp) ?_
    refine AllReadyH.cons rfl (fun K hK => ?_) AllReadyH.nil
    rw [if_pos (by rfl)]
    go_wp2_with (first | (go_at_call 19; have c := sameInts_any (gapsL Ls) (gapsL Ls) a_g a_q c_g c_q _ (R_g.out.slv.below (fr _ hHeld1)) R_q.out.slv (by omega) (by omega); rw [decide_eq_true (rfl : gapsL Ls = gapsL Ls)] at c; (with_reducible refine c.mono ?_); rintro e wk ⟨rfl, hbk⟩; clear c))
    refine hK.out _ _ (keep3 hl_bs hl_ba hl_bb hHeld1 hbk) (fun hHeld2 => ?_)
    clear hK K
    (try simp only [Act.put, List.setIfInBounds_toArray, List.set_cons_zero, List.set_cons_succ, List.getElem_toArray, List.getElem_cons_succ, List.getElem_cons_zero])
    refine held_take 4 _ _ rfl (by kernel_rfl) (by kernel_rfl) (by kernel_rfl) (fun _ _ _ h => h) (by rfl) hHeld2 (fun w hSw => by (try dsimp only at hSw); go_simp; try with_reducible rfl) ?_
    (try simp only [Act.put, List.setIfInBounds_toArray, List.set_cons_zero, List.set_cons_succ, List.getElem_toArray, List.getElem_cons_succ, List.getElem_cons_zero])
    refine held_take 5 _ _ rfl (by kernel_rfl) (by kernel_rfl) (by kernel_rfl) (fun _ _ _ h => h) (by rfl) hHeld2 (fun w hSw => by (try dsimp only at hSw); go_simp; try with_reducible rfl) ?_
    (try simp only [Act.put, List.setIfInBounds_toArray, List.set_cons_zero, List.set_cons_succ, List.getElem_toArray, List.getElem_cons_succ, List.getElem_cons_zero])
    refine held_take 6 _ _ rfl (by kernel_rfl) (by kernel_rfl) (by kernel_rfl) (fun _ _ _ h => h) (by rfl) hHeld2 (fun w hSw => by (try dsimp only at hSw); go_simp; try with_reducible rfl) ?_
    (try simp only [Act.put, List.setIfInBounds_toArray, List.set_cons_zero, List.set_cons_succ, List.getElem_toArray, List.getElem_cons_succ, List.getElem_cons_zero])
    refine held_take 7 _ _ rfl (by kernel_rfl) (by kernel_rfl) (by kernel_rfl) (fun _ _ _ h => h) (by rfl) hHeld2 (fun w hSw => by (try dsimp only at hSw); go_simp; try with_reducible rfl) ?_
    (try simp only [Act.put, List.setIfInBounds_toArray, List.set_cons_zero, List.set_cons_succ, List.getElem_toArray, List.getElem_cons_succ, List.getElem_cons_zero])
    refine wpAnyH_ready (rs := [8]) (by kernel_rfl) (by simp) ?_
    refine AllReadyH.cons rfl (fun K hK => ?_) AllReadyH.nil
    rw [if_pos (by rfl)]
    go_wp2_with (first | (go_at_call 21; have c := cs_SmallElements Ls a_s c_s _ (S_s.out.below (fr _ hHeld2)) (by omega); (with_reducible refine c.mono ?_); rintro e wk ⟨v, rfl, ho, hbk⟩; clear c; obtain ⟨a_q, c_q, rfl, rX⟩ := row_open ho; clear ho; have R_q := Lib.hid rX; clear rX))
    refine hK.out _ _ (keep3 hl_bs hl_ba hl_bb hHeld2 hbk) (fun hHeld3 => ?_)
    clear hK K
    (try simp only [Act.put, List.setIfInBounds_toArray, List.set_cons_zero, List.set_cons_succ, List.getElem_toArray, List.getElem_cons_succ, List.getElem_cons_zero])
    refine wpAnyH_ready (rs := [9]) (by kernel_rfl) (by simp) ?_
    refine AllReadyH.cons rfl (fun K hK => ?_) AllReadyH.nil
    rw [if_pos (by rfl)]
    go_wp2_with (first | (go_at_call 19; have c := sameInts_any (smallL Ls) (smallL Ls) a_m a_q c_m c_q _ (R_m.out.slv.below (fr _ hHeld3)) R_q.out.slv (by omega) (by omega); rw [decide_eq_true (rfl : smallL Ls = smallL Ls)] at c; (with_reducible refine c.mono ?_); rintro e wk ⟨rfl, hbk⟩; clear c))
    refine hK.out _ _ (keep3 hl_bs hl_ba hl_bb hHeld3 hbk) (fun hHeld4 => ?_)
    clear hK K
    (try simp only [Act.put, List.setIfInBounds_toArray, List.set_cons_zero, List.set_cons_succ, List.getElem_toArray, List.getElem_cons_succ, List.getElem_cons_zero])
    refine held_take 10 _ _ rfl (by kernel_rfl) (by kernel_rfl) (by kernel_rfl) (fun _ _ _ h => h) (by rfl) hHeld4 (fun w hSw => by (try dsimp only at hSw); go_simp; try with_reducible rfl) ?_
    (try simp only [Act.put, List.setIfInBounds_toArray, List.set_cons_zero, List.set_cons_succ, List.getElem_toArray, List.getElem_cons_succ, List.getElem_cons_zero])
    refine held_take 11 _ _ rfl (by kernel_rfl) (by kernel_rfl) (by kernel_rfl) (fun _ _ _ h => h) (by rfl) hHeld4 (fun w hSw => by (try dsimp only at hSw); go_simp; try with_reducible rfl) ?_
    (try simp only [Act.put, List.setIfInBounds_toArray, List.set_cons_zero, List.set_cons_succ, List.getElem_toArray, List.getElem_cons_succ, List.getElem_cons_zero])
    refine held_take 12 _ _ rfl (by kernel_rfl) (by kernel_rfl) (by kernel_rfl) (fun _ _ _ h => h) (by rfl) hHeld4 (fun w hSw => by (try dsimp only at hSw); go_simp; try with_reducible rfl) ?_
    (try simp only [Act.put, List.setIfInBounds_toArray, List.set_cons_zero, List.set_cons_succ, List.getElem_toArray, List.getElem_cons_succ, List.getElem_cons_zero])
    refine held_take 13 _ _ rfl (by kernel_rfl) (by kernel_rfl) (by kernel_rfl) (fun _ _ _ h => h) (by rfl) hHeld4 (fun w hSw => by (try dsimp only at hSw); go_simp; try with_reducible rfl) ?_
    (try simp only [Act.put, List.setIfInBounds_toArray, List.set_cons_zero, List.set_cons_succ, List.getElem_toArray, List.getElem_cons_succ, List.getElem_cons_zero])
    refine held_take 14 _ _ rfl (by kernel_rfl) (by kernel_rfl) (by kernel_rfl) (fun _ _ _ h => h) (by rfl) hHeld4 (fun w hSw => by (try dsimp only at hSw); go_simp; try with_reducible rfl) ?_
    (try simp only [Act.put, List.setIfInBounds_toArray, List.set_cons_zero, List.set_cons_succ, List.getElem_toArray, List.getElem_cons_succ, List.getElem_cons_zero])
    refine held_take 15 _ _ rfl (by kernel_rfl) (by kernel_rfl) (by kernel_rfl) (fun _ _ _ h => h) (by rfl) hHeld4 (fun w hSw => by (try dsimp only at hSw); go_simp; try with_reducible rfl) ?_
    (try simp only [Act.put, List.setIfInBounds_toArray, List.set_cons_zero, List.set_cons_succ, List.getElem_toArray, List.getElem_cons_succ, List.getElem_cons_zero])
    refine wpAnyH_ready (rs := [16]) (by kernel_rfl) (by simp) ?_
    refine AllReadyH.cons rfl (fun K hK => ?_) AllReadyH.nil
    rw [if_pos (by rfl)]
    go_wp2_with (first | (go_at_call 22; have c := cs_ElementAt La a_a c_a k _ (S_a.out.below (fr _ hHeld4)) (by omega) hk64.1 hk64.2; (with_reducible refine c.mono ?_); rintro e wk ⟨rfl, hbk⟩; clear c))
    refine hK.out _ _ (keep3 hl_bs hl_ba hl_bb hHeld4 hbk) (fun hHeld5 => ?_)
    clear hK K
    (try simp only [Act.put, List.setIfInBounds_toArray, List.set_cons_zero, List.set_cons_succ, List.getElem_toArray, List.getElem_cons_succ, List.getElem_cons_zero])
    refine held_take 17 _ _ rfl (by kernel_rfl) (by kernel_rfl) (by kernel_rfl) (fun _ _ _ h => h) (by rfl) hHeld5 (fun w hSw => by (try dsimp only at hSw); go_simp; try with_reducible rfl) ?_
    (try simp only [Act.put, List.setIfInBounds_toArray, List.set_cons_zero, List.set_cons_succ, List.getElem_toArray, List.getElem_cons_succ, List.getElem_cons_zero])
    refine held_take 18 _ _ rfl (by kernel_rfl) (by kernel_rfl) (by kernel_rfl) (fun _ _ _ h => h) (by rfl) hHeld5 (fun w hSw => by (try dsimp only at hSw); go_simp; try with_reducible rfl) ?_
    (try simp only [Act.put, List.setIfInBounds_toArray, List.set_cons_zero, List.set_cons_succ, List.getElem_toArray, List.getElem_cons_succ, List.getElem_cons_zero])
    refine held_take 19 _ _ rfl (by kernel_rfl) (by kernel_rfl) (by kernel_rfl) (fun _ _ _ h => h) (by rfl) hHeld5 (fun w hSw => by (try dsimp only at hSw); go_simp; try with_reducible rfl) ?_
    (try simp only [Act.put, List.setIfInBounds_toArray, List.set_cons_zero, List.set_cons_succ, List.getElem_toArray, List.getElem_cons_succ, List.getElem_cons_zero])
    refine held_take 20 _ _ rfl (by kernel_rfl) (by kernel_rfl) (by kernel_rfl) (fun _ _ _ h => h) (by rfl) hHeld5 (fun w hSw => by (try dsimp only at hSw); go_simp; try with_reducible rfl) ?_
    (try simp only [Act.put, List.setIfInBounds_toArray, List.set_cons_zero, List.set_cons_succ, List.getElem_toArray, List.getElem_cons_succ, List.getElem_cons_zero])
    refine held_take 21 _ _ rfl (by kernel_rfl) (by kernel_rfl) (by kernel_rfl) (fun _ _ _ h => h) (by rfl) hHeld5 (fun w hSw => by (try dsimp only at hSw); go_simp; try with_reducible rfl) ?_
    (try simp only [Act.put, List.setIfInBounds_toArray, List.set_cons_zero, List.set_cons_succ, List.getElem_toArray, List.getElem_cons_succ, List.getElem_cons_zero])
    refine held_take 22 _ _ rfl (by kernel_rfl) (by kernel_rfl) (by kernel_rfl) (fun _ _ _ h => h) (by rfl) hHeld5 (fun w hSw => by (try dsimp only at hSw); go_simp; try with_reducible rfl) ?_
    (try simp only [Act.put, List.setIfInBounds_toArray, List.set_cons_zero, List.set_cons_succ, List.getElem_toArray, List.getElem_cons_succ, List.getElem_cons_zero])
    refine wpAnyH_ready (rs := [23]) (by kernel_rfl) (by simp) ?_
    refine AllReadyH.cons rfl (fun K hK => ?_) AllReadyH.nil
    rw [if_pos (by rfl)]
    go_wp2_with (first | (go_at_call 23; have c := cs_IndexOfElement Lb a_b c_b n _ (S_b.out.below (fr _ hHeld5)) (by omega) hn64.1 hn64.2; (with_reducible refine c.mono ?_); rintro e wk ⟨rfl, hbk⟩; clear c))
    refine hK.out _ _ (keep3 hl_bs hl_ba hl_bb hHeld5 hbk) (fun hHeld6 => ?_)
    clear hK K
    (try simp only [Act.put, List.setIfInBounds_toArray, List.set_cons_zero, List.set_cons_succ, List.getElem_toArray, List.getElem_cons_succ, List.getElem_cons_zero])
    refine held_take 24 _ _ rfl (by kernel_rfl) (by kernel_rfl) (by kernel_rfl) (fun _ _ _ h => h) (by rfl) hHeld6 (fun w hSw => by (try dsimp only at hSw); go_simp; try with_reducible rfl) ?_
    (try simp only [Act.put, List.setIfInBounds_toArray, List.set_cons_zero, List.set_cons_succ, List.getElem_toArray, List.getElem_cons_succ, List.getElem_cons_zero])
    refine held_take 25 _ _ rfl (by kernel_rfl) (by kernel_rfl) (by kernel_rfl) (fun _ _ _ h => h) (by rfl) hHeld6 (fun w hSw => by (try dsimp only at hSw); go_simp; try with_reducible rfl) ?_
    (try simp only [Act.put, List.setIfInBounds_toArray, List.set_cons_zero, List.set_cons_succ, List.getElem_toArray, List.getElem_cons_succ, List.getElem_cons_zero])
    refine held_take 26 _ _ rfl (by kernel_rfl) (by kernel_rfl) (by kernel_rfl) (fun _ _ _ h => h) (by rfl) hHeld6 (fun w hSw => by (try dsimp only at hSw); go_simp; try with_reducible rfl) ?_
    (try simp only [Act.put, List.setIfInBounds_toArray, List.set_cons_zero, List.set_cons_succ, List.getElem_toArray, List.getElem_cons_succ, List.getElem_cons_zero])
    refine held_take 27 _ _ rfl (by kernel_rfl) (by kernel_rfl) (by kernel_rfl) (fun _ _ _ h => h) (by rfl) hHeld6 (fun w hSw => by (try dsimp only at hSw); go_simp; try with_reducible rfl) ?_
    (try simp only [Act.put, List.setIfInBounds_toArray, List.set_cons_zero, List.set_cons_succ, List.getElem_toArray, List.getElem_cons_succ, List.getElem_cons_zero])
    refine held_take 29 _ _ rfl (by kernel_rfl) (by kernel_rfl) (by kernel_rfl) (fun _ _ _ h => h) (by rfl) hHeld6 (fun w hSw => by (try dsimp only at hSw); go_simp; try with_reducible rfl) ?_
    (try simp only [Act.put, List.setIfInBounds_toArray, List.set_cons_zero, List.set_cons_succ, List.getElem_toArray, List.getElem_cons_succ, List.getElem_cons_zero])
    refine wpAnyH_ready (rs := [28]) (by kernel_rfl) (by simp) ?_
    refine AllReadyH.cons rfl (fun K hK => ?_) AllReadyH.nil
    rw [if_pos (by rfl)]
    go_wp2_with (first | (go_at_call 24; have c := ci_FrobeniusOf Ls a_s c_s _ (S_s.out.below (fr _ hHeld6)) (by omega); (with_reducible refine c.mono ?_); rintro e wk ⟨rfl, hbk⟩; clear c))
    refine hK.out _ _ (keep3 hl_bs hl_ba hl_bb hHeld6 hbk) (fun hHeld7 => ?_)
    clear hK K
    (try simp only [Act.put, List.setIfInBounds_toArray, List.set_cons_zero, List.set_cons_succ, List.getElem_toArray, List.getElem_cons_succ, List.getElem_cons_zero])
    refine wpAnyH_ready (rs := [30]) (by kernel_rfl) (by simp) ?_
    refine AllReadyH.cons rfl (fun K hK => ?_) AllReadyH.nil
    rw [if_pos (by rfl)]
    go_wp2_with (first | (go_at_call 25; have c := cs_FrobeniusOf Ls a_s c_s _ (S_s.out.below (fr _ hHeld7)) (by omega); (with_reducible refine c.mono ?_); rintro e wk ⟨rfl, hbk⟩; clear c))
    refine hK.out _ _ (keep3 hl_bs hl_ba hl_bb hHeld7 hbk) (fun hHeld8 => ?_)
    clear hK K
    (try simp only [Act.put, List.setIfInBounds_toArray, List.set_cons_zero, List.set_cons_succ, List.getElem_toArray, List.getElem_cons_succ, List.getElem_cons_zero])
    refine held_take 31 _ _ rfl (by kernel_rfl) (by kernel_rfl) (by kernel_rfl) (fun _ _ _ h => h) (by rfl) hHeld8 (fun w hSw => by (try dsimp only at hSw); go_simp; try with_reducible rfl) ?_
    (try simp only [Act.put, List.setIfInBounds_toArray, List.set_cons_zero, List.set_cons_succ, List.getElem_toArray, List.getElem_cons_succ, List.getElem_cons_zero])
    refine held_take 32 _ _ rfl (by kernel_rfl) (by kernel_rfl) (by kernel_rfl) (fun _ _ _ h => h) (by rfl) hHeld8 (fun w hSw => by (try dsimp only at hSw); go_simp; try with_reducible rfl) ?_
    (try simp only [Act.put, List.setIfInBounds_toArray, List.set_cons_zero, List.set_cons_succ, List.getElem_toArray, List.getElem_cons_succ, List.getElem_cons_zero])
    refine held_take 33 _ _ rfl (by kernel_rfl) (by kernel_rfl) (by kernel_rfl) (fun _ _ _ h => h) (by rfl) hHeld8 (fun w hSw => by (try dsimp only at hSw); go_simp; try with_reducible rfl) ?_
    (try simp only [Act.put, List.setIfInBounds_toArray, List.set_cons_zero, List.set_cons_succ, List.getElem_toArray, List.getElem_cons_succ, List.getElem_cons_zero])
    refine held_take 34 _ _ rfl (by kernel_rfl) (by kernel_rfl) (by kernel_rfl) (fun _ _ _ h => h) (by rfl) hHeld8 (fun w hSw => by (try dsimp only at hSw); go_simp; try with_reducible rfl) ?_
    (try simp only [Act.put, List.setIfInBounds_toArray, List.set_cons_zero, List.set_cons_succ, List.getElem_toArray, List.getElem_cons_succ, List.getElem_cons_zero])
    refine held_take 36 _ _ rfl (by kernel_rfl) (by kernel_rfl) (by kernel_rfl) (fun _ _ _ h => h) (by rfl) hHeld8 (fun w hSw => by (try dsimp only at hSw); go_simp; try with_reducible rfl) ?_
    (try simp only [Act.put, List.setIfInBounds_toArray, List.set_cons_zero, List.set_cons_succ, List.getElem_toArray, List.getElem_cons_succ, List.getElem_cons_zero])
    refine wpAnyH_ready (rs := [35]) (by kernel_rfl) (by simp) ?_
    refine AllReadyH.cons rfl (fun K hK => ?_) AllReadyH.nil
    rw [if_pos (by rfl)]
    go_wp2_with (first | (go_at_call 26; have c := ci_GenusOf Ls a_s c_s _ (S_s.out.below (fr _ hHeld8)) (by omega); (with_reducible refine c.mono ?_); rintro e wk ⟨rfl, hbk⟩; clear c))
    refine hK.out _ _ (keep3 hl_bs hl_ba hl_bb hHeld8 hbk) (fun hHeld9 => ?_)
    clear hK K
    (try simp only [Act.put, List.setIfInBounds_toArray, List.set_cons_zero, List.set_cons_succ, List.getElem_toArray, List.getElem_cons_succ, List.getElem_cons_zero])
    refine wpAnyH_ready (rs := [37]) (by kernel_rfl) (by simp) ?_
    refine AllReadyH.cons rfl (fun K hK => ?_) AllReadyH.nil
    rw [if_pos (by rfl)]
    go_wp2_with (first | (go_at_call 27; have c := cs_GenusOf Ls a_s c_s _ (S_s.out.below (fr _ hHeld9)) (by omega); (with_reducible refine c.mono ?_); rintro e wk ⟨rfl, hbk⟩; clear c))
    refine hK.out _ _ (keep3 hl_bs hl_ba hl_bb hHeld9 hbk) (fun hHeld10 => ?_)
    clear hK K
    (try simp only [Act.put, List.setIfInBounds_toArray, List.set_cons_zero, List.set_cons_succ, List.getElem_toArray, List.getElem_cons_succ, List.getElem_cons_zero])
    refine held_take 38 _ _ rfl (by kernel_rfl) (by kernel_rfl) (by kernel_rfl) (fun _ _ _ h => h) (by rfl) hHeld10 (fun w hSw => by (try dsimp only at hSw); go_simp; try with_reducible rfl) ?_
    (try simp only [Act.put, List.setIfInBounds_toArray, List.set_cons_zero, List.set_cons_succ, List.getElem_toArray, List.getElem_cons_succ, List.getElem_cons_zero])
    refine held_take 39 _ _ rfl (by kernel_rfl) (by kernel_rfl) (by kernel_rfl) (fun _ _ _ h => h) (by rfl) hHeld10 (fun w hSw => by (try dsimp only at hSw); go_simp; try with_reducible rfl) ?_
    (try simp only [Act.put, List.setIfInBounds_toArray, List.set_cons_zero, List.set_cons_succ, List.getElem_toArray, List.getElem_cons_succ, List.getElem_cons_zero])
    refine held_take 40 _ _ rfl (by kernel_rfl) (by kernel_rfl) (by kernel_rfl) (fun _ _ _ h => h) (by rfl) hHeld10 (fun w hSw => by (try dsimp only at hSw); go_simp; try with_reducible rfl) ?_
    (try simp only [Act.put, List.setIfInBounds_toArray, List.set_cons_zero, List.set_cons_succ, List.getElem_toArray, List.getElem_cons_succ, List.getElem_cons_zero])
    refine held_take 41 _ _ rfl (by kernel_rfl) (by kernel_rfl) (by kernel_rfl) (fun _ _ _ h => h) (by rfl) hHeld10 (fun w hSw => by (try dsimp only at hSw); go_simp; try with_reducible rfl) ?_
    (try simp only [Act.put, List.setIfInBounds_toArray, List.set_cons_zero, List.set_cons_succ, List.getElem_toArray, List.getElem_cons_succ, List.getElem_cons_zero])
    refine held_take 43 _ _ rfl (by kernel_rfl) (by kernel_rfl) (by kernel_rfl) (fun _ _ _ h => h) (by rfl) hHeld10 (fun w hSw => by (try dsimp only at hSw); go_simp; try with_reducible rfl) ?_
    (try simp only [Act.put, List.setIfInBounds_toArray, List.set_cons_zero, List.set_cons_succ, List.getElem_toArray, List.getElem_cons_succ, List.getElem_cons_zero])
    refine wpAnyH_ready (rs := [42]) (by kernel_rfl) (by simp) ?_
    refine AllReadyH.cons rfl (fun K hK => ?_) AllReadyH.nil
    rw [if_pos (by rfl)]
    go_wp2_with (first | (go_at_call 28; have c := ci_ConductorOf Ls a_s c_s _ (S_s.out.below (fr _ hHeld10)) (by omega); (with_reducible refine c.mono ?_); rintro e wk ⟨rfl, hbk⟩; clear c))
    refine hK.out _ _ (keep3 hl_bs hl_ba hl_bb hHeld10 hbk) (fun hHeld11 => ?_)
    clear hK K
    (try simp only [Act.put, List.setIfInBounds_toArray, List.set_cons_zero, List.set_cons_succ, List.getElem_toArray, List.getElem_cons_succ, List.getElem_cons_zero])
    refine wpAnyH_ready (rs := [44]) (by kernel_rfl) (by simp) ?_
    refine AllReadyH.cons rfl (fun K hK => ?_) AllReadyH.nil
    rw [if_pos (by rfl)]
    go_wp2_with (first | (go_at_call 29; have c := cs_ConductorOf Ls a_s c_s _ (S_s.out.below (fr _ hHeld11)) (by omega); (with_reducible refine c.mono ?_); rintro e wk ⟨rfl, hbk⟩; clear c))
    refine hK.out _ _ (keep3 hl_bs hl_ba hl_bb hHeld11 hbk) (fun hHeld12 => ?_)
    clear hK K
    (try simp only [Act.put, List.setIfInBounds_toArray, List.set_cons_zero, List.set_cons_succ, List.getElem_toArray, List.getElem_cons_succ, List.getElem_cons_zero])
    refine held_take 45 _ _ rfl (by kernel_rfl) (by kernel_rfl) (by kernel_rfl) (fun _ _ _ h => h) (by rfl) hHeld12 (fun w hSw => by (try dsimp only at hSw); go_simp; try with_reducible rfl) ?_
    (try simp only [Act.put, List.setIfInBounds_toArray, List.set_cons_zero, List.set_cons_succ, List.getElem_toArray, List.getElem_cons_succ, List.getElem_cons_zero])
    refine held_take 46 _ _ rfl (by kernel_rfl) (by kernel_rfl) (by kernel_rfl) (fun _ _ _ h => h) (by rfl) hHeld12 (fun w hSw => by (try dsimp only at hSw); go_simp; try with_reducible rfl) ?_
    (try simp only [Act.put, List.setIfInBounds_toArray, List.set_cons_zero, List.set_cons_succ, List.getElem_toArray, List.getElem_cons_succ, List.getElem_cons_zero])
    refine wpAnyH_done (by kernel_rfl) ?_ _
    have hBz := hHeld12.2.2.2
    clear HS0 fr
    go_wp2_with fail
    go_meet
    exact ⟨rfl, hBz⟩
  case rest =>
    rename World => wq
    obtain ⟨rfl, hb⟩ := hcut
    clear HS0 fr hl_bs hl_ba hl_bb
    clear hk_bs hk_ba hk_bb
    replace S_s := Lib.hid (S_s.out.below hb)
    replace B_bs := Lib.hid (B_bs.out.below hb)
    replace R_g := Lib.hid (R_g.out.below hb)
    replace R_m := Lib.hid (R_m.out.below hb)
    replace S_a := Lib.hid (S_a.out.below hb)
    replace B_ba := Lib.hid (B_ba.out.below hb)
    replace S_b := Lib.hid (S_b.out.below hb)
    replace B_bb := Lib.hid (B_bb.out.below hb)
    have z12 := hb.size
    replace hW := hW.trans (hb.mono hW.size)
    clear hb HR hl
    have HE : Hid (0 ≤ elemN La k → elemN La k ≤ 200 → indexN La (elemN La k) = k) := Lib.hid fun h0 h1 => elem_index h0 h1
    have HI : Hid (0 ≤ indexN Lb n → elemN Lb (indexN Lb n) = n) := Lib.hid fun h => index_elem h
    have heb := elem_bounds La k
    have hib := index_bounds Lb n
    generalize elemN La k = ev at *
    generalize indexN Lb n = iv at *
    have hkA : wq.cell? ⟨w6.heap.size, 0, none⟩ = some (.slice a_a La.length c_a) := B_ba.out.cell 0
    have hkB : wq.cell? ⟨w9.heap.size, 0, none⟩ = some (.slice a_b Lb.length c_b) := B_bb.out.cell 0
    have hlb : w9.heap.size < wq.heap.size := B_bb.out.lt
    go_upto_region 12 with fail
    go_cut [106] (fun s106 wx => s106 = Value.bool false ∧ Below wq.heap.size wq wx)
    case first =>
      by_cases h0 : 0 ≤ ev
      · have hd0 : decide (0 ≤ ev) = true := decide_eq_true h0
        by_cases h1 : ev ≤ 200
        · have hd1 : decide (ev ≤ 200) = true := decide_eq_true h1
          have c := ci_IndexOfElement La a_a c_a ev wq S_a.out (by omega) (by omega) (by omega)
          rw [HE.out h0 h1] at c
          go_wp2_with fail
          refine c.mono ?_
          rintro e wk ⟨rfl, hbk⟩
          clear c hkA
          replace hkB : wk.cell? ⟨w9.heap.size, 0, none⟩ = some (.slice a_b Lb.length c_b) := (hbk.cell (p := ⟨w9.heap.size, 0, none⟩) hlb).trans hkB
          by_cases h2 : 0 ≤ iv
          · have hd2 : decide (0 ≤ iv) = true := decide_eq_true h2
            have c := ci_ElementAt Lb a_b c_b iv wk (S_b.out.below hbk) (by omega) (by omega) (by omega)
            rw [HI.out h2] at c
            go_wp2_with fail
            refine c.mono ?_
            rintro e wl ⟨rfl, hbl⟩
            clear c
            go_wp2_with fail
            go_meet
            exact ⟨rfl, (hbk).trans (hbl.mono (hbk).size)⟩
          · have hd2 : decide (0 ≤ iv) = false := decide_eq_false h2
            go_wp2_with fail
            go_meet
            exact ⟨rfl, hbk⟩
        · have hd1 : decide (ev ≤ 200) = false := decide_eq_false h1
          by_cases h2 : 0 ≤ iv
          · have hd2 : decide (0 ≤ iv) = true := decide_eq_true h2
            have c := ci_ElementAt Lb a_b c_b iv wq (S_b.out.below (Below.refl wq.heap.size wq)) (by omega) (by omega) (by omega)
            rw [HI.out h2] at c
            go_wp2_with fail
            refine c.mono ?_
            rintro e wl ⟨rfl, hbl⟩
            clear c
            go_wp2_with fail
            go_meet
            exact ⟨rfl, ((Below.refl wq.heap.size wq)).trans (hbl.mono ((Below.refl wq.heap.size wq)).size)⟩
          · have hd2 : decide (0 ≤ iv) = false := decide_eq_false h2
            go_wp2_with fail
            go_meet
            exact ⟨rfl, (Below.refl wq.heap.size wq)⟩
      · have hd0 : decide (0 ≤ ev) = false := decide_eq_false h0
        by_cases h2 : 0 ≤ iv
        · have hd2 : decide (0 ≤ iv) = true := decide_eq_true h2
          have c := ci_ElementAt Lb a_b c_b iv wq (S_b.out.below (Below.refl wq.heap.size wq)) (by omega) (by omega) (by omega)
          rw [HI.out h2] at c
          go_wp2_with fail
          refine c.mono ?_
          rintro e wl ⟨rfl, hbl⟩
          clear c
          go_wp2_with fail
          go_meet
          exact ⟨rfl, ((Below.refl wq.heap.size wq)).trans (hbl.mono ((Below.refl wq.heap.size wq)).size)⟩
        · have hd2 : decide (0 ≤ iv) = false := decide_eq_false h2
          go_wp2_with fail
          go_meet
          exact ⟨rfl, (Below.refl wq.heap.size wq)⟩
    case rest =>
      rename World => wz
      obtain ⟨rfl, hb⟩ := hcut
      clear hkA hkB hlb HE HI heb hib
      clear S_a
      clear S_b
      clear B_ba
      clear B_bb
      replace S_s := Lib.hid (S_s.out.below hb)
      replace B_bs := Lib.hid (B_bs.out.below hb)
      replace R_g := Lib.hid (R_g.out.below hb)
      replace R_m := Lib.hid (R_m.out.below hb)
      have z13 := hb.size
      replace hW := hW.trans (hb.mono hW.size)
      clear hb
      have hks : wz.cell? ⟨w2.heap.size, 0, none⟩ = some (.slice a_s Ls.length c_s) := B_bs.out.cell 0
      have hlbs : w2.heap.size < wz.heap.size := B_bs.out.lt
      have hS0 : wz.drew.cell? ⟨w2.heap.size, 0, none⟩ = some (.slice a_s Ls.length c_s) ∧ Below wz.heap.size wz wz.drew := ⟨hks, (Below.refl _ _).drew⟩
      have fr := fun w' (h : w'.cell? ⟨w2.heap.size, 0, none⟩ = some (.slice a_s Ls.length c_s) ∧ Below wz.heap.size wz w') => h.2
      have hfb := frob_bounds Ls
      have HSH := Lib.hid (shared_apart Ls)
      go_wp2_with fail
      cases hs : isSgB Ls
      · have HQ := Lib.hid hs
        clear hs
        refine wp_region_held_drew (S := fun w' => w'.cell? ⟨w2.heap.size, 0, none⟩ = some (.slice a_s Ls.length c_s) ∧ Below wz.heap.size wz w') (by kernel_rfl) hS0 (fun hHeld => ?_)
        refine held_take 0 _ _ rfl (by kernel_rfl) (by kernel_rfl) (by kernel_rfl) (fun _ _ _ h => h) (by rfl) hHeld (fun w hSw => by (try dsimp only at hSw); go_simp; try with_reducible rfl) ?_
        (try simp only [Act.put, List.setIfInBounds_toArray, List.set_cons_zero, List.set_cons_succ, List.getElem_toArray, List.getElem_cons_zero])
        refine wpAnyH_ready (rs := [1]) (by kernel_rfl) (by simp) ?_
        refine AllReadyH.cons rfl (fun K hK => ?_) AllReadyH.nil
        rw [if_pos (by rfl)]
        go_wp2_with (first | (go_at_call 30; have c := cs_IsSemigroup Ls a_s c_s _ (S_s.out.below (fr _ hHeld)) (by omega); rw [HQ.out] at c; (with_reducible refine c.mono ?_); rintro e wk ⟨rfl, hbk⟩; clear c))
        refine hK.out _ _ (keep1 hlbs hHeld hbk) (fun hHeld1 => ?_)
        clear hK K
        (try simp only [Act.put, List.setIfInBounds_toArray, List.set_cons_zero, List.set_cons_succ, List.getElem_toArray, List.getElem_cons_succ, List.getElem_cons_zero])
        refine held_take 2 _ _ rfl (by kernel_rfl) (by kernel_rfl) (by kernel_rfl) (fun _ _ _ h => h) (by rfl) hHeld1 (fun w hSw => by (try dsimp only at hSw); go_simp; try with_reducible rfl) ?_
        (try simp only [Act.put, List.setIfInBounds_toArray, List.set_cons_zero, List.set_cons_succ, List.getElem_toArray, List.getElem_cons_succ, List.getElem_cons_zero])
        refine held_take 3 _ _ rfl (by kernel_rfl) (by kernel_rfl) (by kernel_rfl) (fun _ _ _ h => h) (by rfl) hHeld1 (fun w hSw => by (try dsimp only at hSw); go_simp; try with_reducible rfl) ?_
        (try simp only [Act.put, List.setIfInBounds_toArray, List.set_cons_zero, List.set_cons_succ, List.getElem_toArray, List.getElem_cons_succ, List.getElem_cons_zero])
        refine held_skip 4 _ rfl (by kernel_rfl) (by kernel_rfl) (by kernel_rfl) (fun _ _ _ h => h) (by rfl) hHeld1 ?_
        (try simp only [Act.put, List.setIfInBounds_toArray, List.set_cons_zero, List.set_cons_succ, List.getElem_toArray, List.getElem_cons_succ, List.getElem_cons_zero])
        refine held_skip 5 _ rfl (by kernel_rfl) (by kernel_rfl) (by kernel_rfl) (fun _ _ _ h => h) (by rfl) hHeld1 ?_
        (try simp only [Act.put, List.setIfInBounds_toArray, List.set_cons_zero, List.set_cons_succ, List.getElem_toArray, List.getElem_cons_succ, List.getElem_cons_zero])
        refine held_skip 6 _ rfl (by kernel_rfl) (by kernel_rfl) (by kernel_rfl) (fun _ _ _ h => h) (by rfl) hHeld1 ?_
        (try simp only [Act.put, List.setIfInBounds_toArray, List.set_cons_zero, List.set_cons_succ, List.getElem_toArray, List.getElem_cons_succ, List.getElem_cons_zero])
        refine held_skip 7 _ rfl (by kernel_rfl) (by kernel_rfl) (by kernel_rfl) (fun _ _ _ h => h) (by rfl) hHeld1 ?_
        (try simp only [Act.put, List.setIfInBounds_toArray, List.set_cons_zero, List.set_cons_succ, List.getElem_toArray, List.getElem_cons_succ, List.getElem_cons_zero])
        refine held_skip 8 _ rfl (by kernel_rfl) (by kernel_rfl) (by kernel_rfl) (fun _ _ _ h => h) (by rfl) hHeld1 ?_
        (try simp only [Act.put, List.setIfInBounds_toArray, List.set_cons_zero, List.set_cons_succ, List.getElem_toArray, List.getElem_cons_succ, List.getElem_cons_zero])
        refine held_skip 9 _ rfl (by kernel_rfl) (by kernel_rfl) (by kernel_rfl) (fun _ _ _ h => h) (by rfl) hHeld1 ?_
        (try simp only [Act.put, List.setIfInBounds_toArray, List.set_cons_zero, List.set_cons_succ, List.getElem_toArray, List.getElem_cons_succ, List.getElem_cons_zero])
        refine held_skip 10 _ rfl (by kernel_rfl) (by kernel_rfl) (by kernel_rfl) (fun _ _ _ h => h) (by rfl) hHeld1 ?_
        (try simp only [Act.put, List.setIfInBounds_toArray, List.set_cons_zero, List.set_cons_succ, List.getElem_toArray, List.getElem_cons_succ, List.getElem_cons_zero])
        refine held_skip 11 _ rfl (by kernel_rfl) (by kernel_rfl) (by kernel_rfl) (fun _ _ _ h => h) (by rfl) hHeld1 ?_
        (try simp only [Act.put, List.setIfInBounds_toArray, List.set_cons_zero, List.set_cons_succ, List.getElem_toArray, List.getElem_cons_succ, List.getElem_cons_zero])
        refine held_skip 12 _ rfl (by kernel_rfl) (by kernel_rfl) (by kernel_rfl) (fun _ _ _ h => h) (by rfl) hHeld1 ?_
        (try simp only [Act.put, List.setIfInBounds_toArray, List.set_cons_zero, List.set_cons_succ, List.getElem_toArray, List.getElem_cons_succ, List.getElem_cons_zero])
        refine held_skip 13 _ rfl (by kernel_rfl) (by kernel_rfl) (by kernel_rfl) (fun _ _ _ h => h) (by rfl) hHeld1 ?_
        (try simp only [Act.put, List.setIfInBounds_toArray, List.set_cons_zero, List.set_cons_succ, List.getElem_toArray, List.getElem_cons_succ, List.getElem_cons_zero])
        refine held_skip 14 _ rfl (by kernel_rfl) (by kernel_rfl) (by kernel_rfl) (fun _ _ _ h => h) (by rfl) hHeld1 ?_
        (try simp only [Act.put, List.setIfInBounds_toArray, List.set_cons_zero, List.set_cons_succ, List.getElem_toArray, List.getElem_cons_succ, List.getElem_cons_zero])
        refine held_skip 15 _ rfl (by kernel_rfl) (by kernel_rfl) (by kernel_rfl) (fun _ _ _ h => h) (by rfl) hHeld1 ?_
        (try simp only [Act.put, List.setIfInBounds_toArray, List.set_cons_zero, List.set_cons_succ, List.getElem_toArray, List.getElem_cons_succ, List.getElem_cons_zero])
        refine held_skip 16 _ rfl (by kernel_rfl) (by kernel_rfl) (by kernel_rfl) (fun _ _ _ h => h) (by rfl) hHeld1 ?_
        (try simp only [Act.put, List.setIfInBounds_toArray, List.set_cons_zero, List.set_cons_succ, List.getElem_toArray, List.getElem_cons_succ, List.getElem_cons_zero])
        refine held_skip 17 _ rfl (by kernel_rfl) (by kernel_rfl) (by kernel_rfl) (fun _ _ _ h => h) (by rfl) hHeld1 ?_
        (try simp only [Act.put, List.setIfInBounds_toArray, List.set_cons_zero, List.set_cons_succ, List.getElem_toArray, List.getElem_cons_succ, List.getElem_cons_zero])
        refine held_skip 18 _ rfl (by kernel_rfl) (by kernel_rfl) (by kernel_rfl) (fun _ _ _ h => h) (by rfl) hHeld1 ?_
        (try simp only [Act.put, List.setIfInBounds_toArray, List.set_cons_zero, List.set_cons_succ, List.getElem_toArray, List.getElem_cons_succ, List.getElem_cons_zero])
        refine held_skip 19 _ rfl (by kernel_rfl) (by kernel_rfl) (by kernel_rfl) (fun _ _ _ h => h) (by rfl) hHeld1 ?_
        (try simp only [Act.put, List.setIfInBounds_toArray, List.set_cons_zero, List.set_cons_succ, List.getElem_toArray, List.getElem_cons_succ, List.getElem_cons_zero])
        refine held_skip 20 _ rfl (by kernel_rfl) (by kernel_rfl) (by kernel_rfl) (fun _ _ _ h => h) (by rfl) hHeld1 ?_
        (try simp only [Act.put, List.setIfInBounds_toArray, List.set_cons_zero, List.set_cons_succ, List.getElem_toArray, List.getElem_cons_succ, List.getElem_cons_zero])
        refine held_skip 21 _ rfl (by kernel_rfl) (by kernel_rfl) (by kernel_rfl) (fun _ _ _ h => h) (by rfl) hHeld1 ?_
        (try simp only [Act.put, List.setIfInBounds_toArray, List.set_cons_zero, List.set_cons_succ, List.getElem_toArray, List.getElem_cons_succ, List.getElem_cons_zero])
        refine held_skip 22 _ rfl (by kernel_rfl) (by kernel_rfl) (by kernel_rfl) (fun _ _ _ h => h) (by rfl) hHeld1 ?_
        (try simp only [Act.put, List.setIfInBounds_toArray, List.set_cons_zero, List.set_cons_succ, List.getElem_toArray, List.getElem_cons_succ, List.getElem_cons_zero])
        refine held_skip 23 _ rfl (by kernel_rfl) (by kernel_rfl) (by kernel_rfl) (fun _ _ _ h => h) (by rfl) hHeld1 ?_
        (try simp only [Act.put, List.setIfInBounds_toArray, List.set_cons_zero, List.set_cons_succ, List.getElem_toArray, List.getElem_cons_succ, List.getElem_cons_zero])
        refine held_skip 24 _ rfl (by kernel_rfl) (by kernel_rfl) (by kernel_rfl) (fun _ _ _ h => h) (by rfl) hHeld1 ?_
        (try simp only [Act.put, List.setIfInBounds_toArray, List.set_cons_zero, List.set_cons_succ, List.getElem_toArray, List.getElem_cons_succ, List.getElem_cons_zero])
        refine held_skip 25 _ rfl (by kernel_rfl) (by kernel_rfl) (by kernel_rfl) (fun _ _ _ h => h) (by rfl) hHeld1 ?_
        (try simp only [Act.put, List.setIfInBounds_toArray, List.set_cons_zero, List.set_cons_succ, List.getElem_toArray, List.getElem_cons_succ, List.getElem_cons_zero])
        refine held_take 26 _ _ rfl (by kernel_rfl) (by kernel_rfl) (by kernel_rfl) (fun _ _ _ h => h) (by rfl) hHeld1 (fun w hSw => by (try dsimp only at hSw); go_simp; try with_reducible rfl) ?_
        (try simp only [Act.put, List.setIfInBounds_toArray, List.set_cons_zero, List.set_cons_succ, List.getElem_toArray, List.getElem_cons_succ, List.getElem_cons_zero])
        refine held_take 27 _ _ rfl (by kernel_rfl) (by kernel_rfl) (by kernel_rfl) (fun _ _ _ h => h) (by rfl) hHeld1 (fun w hSw => by (try dsimp only at hSw); go_simp; try with_reducible rfl) ?_
        (try simp only [Act.put, List.setIfInBounds_toArray, List.set_cons_zero, List.set_cons_succ, List.getElem_toArray, List.getElem_cons_succ, List.getElem_cons_zero])
        refine wpAnyH_done (by kernel_rfl) ?_ _
        have hBz := hHeld1.2
        clear hS0 fr
        go_wp2_with fail
        go_ret
        exact ⟨rfl, hW.trans (hBz.mono hW.size)⟩
      · have HQ := Lib.hid hs
        have HG := Lib.hid (gaps_small hs)
        have HF := Lib.hid (frob_not hs)
        clear hs
        have hw1 : IntKind.i64.wrap (((gapsL Ls).length : Int) + ((smallL Ls).length : Int)) = ((gapsL Ls).length : Int) + ((smallL Ls).length : Int) := IntWalk.i64_in _ (by omega)
        refine wp_region_held_drew (S := fun w' => w'.cell? ⟨w2.heap.size, 0, none⟩ = some (.slice a_s Ls.length c_s) ∧ Below wz.heap.size wz w') (by kernel_rfl) hS0 (fun hHeld => ?_)
        refine held_take 0 _ _ rfl (by kernel_rfl) (by kernel_rfl) (by kernel_rfl) (fun _ _ _ h => h) (by rfl) hHeld (fun w hSw => by (try dsimp only at hSw); go_simp; try with_reducible rfl) ?_
        (try simp only [Act.put, List.setIfInBounds_toArray, List.set_cons_zero, List.set_cons_succ, List.getElem_toArray, List.getElem_cons_zero])
        refine wpAnyH_ready (rs := [1]) (by kernel_rfl) (by simp) ?_
        refine AllReadyH.cons rfl (fun K hK => ?_) AllReadyH.nil
        rw [if_pos (by rfl)]
        go_wp2_with (first | (go_at_call 30; have c := cs_IsSemigroup Ls a_s c_s _ (S_s.out.below (fr _ hHeld)) (by omega); rw [HQ.out] at c; (with_reducible refine c.mono ?_); rintro e wk ⟨rfl, hbk⟩; clear c))
        refine hK.out _ _ (keep1 hlbs hHeld hbk) (fun hHeld1 => ?_)
        clear hK K
        (try simp only [Act.put, List.setIfInBounds_toArray, List.set_cons_zero, List.set_cons_succ, List.getElem_toArray, List.getElem_cons_succ, List.getElem_cons_zero])
        refine held_take 2 _ _ rfl (by kernel_rfl) (by kernel_rfl) (by kernel_rfl) (fun _ _ _ h => h) (by rfl) hHeld1 (fun w hSw => by (try dsimp only at hSw); go_simp; try with_reducible rfl) ?_
        (try simp only [Act.put, List.setIfInBounds_toArray, List.set_cons_zero, List.set_cons_succ, List.getElem_toArray, List.getElem_cons_succ, List.getElem_cons_zero])
        refine held_take 3 _ _ rfl (by kernel_rfl) (by kernel_rfl) (by kernel_rfl) (fun _ _ _ h => h) (by rfl) hHeld1 (fun w hSw => by (try dsimp only at hSw); go_simp; try with_reducible rfl) ?_
        (try simp only [Act.put, List.setIfInBounds_toArray, List.set_cons_zero, List.set_cons_succ, List.getElem_toArray, List.getElem_cons_succ, List.getElem_cons_zero])
        refine held_take 4 _ _ rfl (by kernel_rfl) (by kernel_rfl) (by kernel_rfl) (fun _ _ _ h => h) (by rfl) hHeld1 (fun w hSw => by (try dsimp only at hSw); go_simp; try with_reducible rfl) ?_
        (try simp only [Act.put, List.setIfInBounds_toArray, List.set_cons_zero, List.set_cons_succ, List.getElem_toArray, List.getElem_cons_succ, List.getElem_cons_zero])
        refine held_take 5 _ _ rfl (by kernel_rfl) (by kernel_rfl) (by kernel_rfl) (fun _ _ _ h => h) (by rfl) hHeld1 (fun w hSw => by (try dsimp only at hSw); go_simp; try with_reducible rfl) ?_
        (try simp only [Act.put, List.setIfInBounds_toArray, List.set_cons_zero, List.set_cons_succ, List.getElem_toArray, List.getElem_cons_succ, List.getElem_cons_zero])
        refine held_take 6 _ _ rfl (by kernel_rfl) (by kernel_rfl) (by kernel_rfl) (fun _ _ _ h => h) (by rfl) hHeld1 (fun w hSw => by (try dsimp only at hSw); go_simp; try with_reducible rfl) ?_
        (try simp only [Act.put, List.setIfInBounds_toArray, List.set_cons_zero, List.set_cons_succ, List.getElem_toArray, List.getElem_cons_succ, List.getElem_cons_zero])
        refine held_take 7 _ _ rfl (by kernel_rfl) (by kernel_rfl) (by kernel_rfl) (fun _ _ _ h => h) (by rfl) hHeld1 (fun w hSw => by (try dsimp only at hSw); go_simp; try with_reducible rfl) ?_
        (try simp only [Act.put, List.setIfInBounds_toArray, List.set_cons_zero, List.set_cons_succ, List.getElem_toArray, List.getElem_cons_succ, List.getElem_cons_zero])
        refine held_take 8 _ _ rfl (by kernel_rfl) (by kernel_rfl) (by kernel_rfl) (fun _ _ _ h => h) (by rfl) hHeld1 (fun w hSw => by (try dsimp only at hSw); go_simp; try with_reducible rfl) ?_
        (try simp only [Act.put, List.setIfInBounds_toArray, List.set_cons_zero, List.set_cons_succ, List.getElem_toArray, List.getElem_cons_succ, List.getElem_cons_zero])
        refine held_take 9 _ _ rfl (by kernel_rfl) (by kernel_rfl) (by kernel_rfl) (fun _ _ _ h => h) (by rfl) hHeld1 (fun w hSw => by (try dsimp only at hSw); go_simp; try with_reducible rfl) ?_
        (try simp only [Act.put, List.setIfInBounds_toArray, List.set_cons_zero, List.set_cons_succ, List.getElem_toArray, List.getElem_cons_succ, List.getElem_cons_zero])
        refine wpAnyH_ready (rs := [10]) (by kernel_rfl) (by simp) ?_
        refine AllReadyH.cons rfl (fun K hK => ?_) AllReadyH.nil
        rw [if_pos (by rfl)]
        go_wp2_with (first | (go_at_call 28; have c := ci_ConductorOf Ls a_s c_s _ (S_s.out.below (fr _ hHeld1)) (by omega); rw [← HG.out] at c; (with_reducible refine c.mono ?_); rintro e wk ⟨rfl, hbk⟩; clear c))
        refine hK.out _ _ (keep1 hlbs hHeld1 hbk) (fun hHeld2 => ?_)
        clear hK K
        (try simp only [Act.put, List.setIfInBounds_toArray, List.set_cons_zero, List.set_cons_succ, List.getElem_toArray, List.getElem_cons_succ, List.getElem_cons_zero])
        refine held_take 11 _ _ rfl (by kernel_rfl) (by kernel_rfl) (by kernel_rfl) (fun _ _ _ h => h) (by rfl) hHeld2 (fun w hSw => by (try dsimp only at hSw); go_simp; try with_reducible rfl) ?_
        (try simp only [Act.put, List.setIfInBounds_toArray, List.set_cons_zero, List.set_cons_succ, List.getElem_toArray, List.getElem_cons_succ, List.getElem_cons_zero])
        refine held_take 12 _ _ rfl (by kernel_rfl) (by kernel_rfl) (by kernel_rfl) (fun _ _ _ h => h) (by rfl) hHeld2 (fun w hSw => by (try dsimp only at hSw); go_simp; try with_reducible rfl) ?_
        (try simp only [Act.put, List.setIfInBounds_toArray, List.set_cons_zero, List.set_cons_succ, List.getElem_toArray, List.getElem_cons_succ, List.getElem_cons_zero])
        refine held_take 13 _ _ rfl (by kernel_rfl) (by kernel_rfl) (by kernel_rfl) (fun _ _ _ h => h) (by rfl) hHeld2 (fun w hSw => by (try dsimp only at hSw); go_simp; try with_reducible rfl) ?_
        (try simp only [Act.put, List.setIfInBounds_toArray, List.set_cons_zero, List.set_cons_succ, List.getElem_toArray, List.getElem_cons_succ, List.getElem_cons_zero])
        refine held_take 14 _ _ rfl (by kernel_rfl) (by kernel_rfl) (by kernel_rfl) (fun _ _ _ h => h) (by rfl) hHeld2 (fun w hSw => by (try dsimp only at hSw); go_simp; try with_reducible rfl) ?_
        (try simp only [Act.put, List.setIfInBounds_toArray, List.set_cons_zero, List.set_cons_succ, List.getElem_toArray, List.getElem_cons_succ, List.getElem_cons_zero])
        refine wpAnyH_ready (rs := [15]) (by kernel_rfl) (by simp) ?_
        refine AllReadyH.cons rfl (fun K hK => ?_) AllReadyH.nil
        rw [if_pos (by rfl)]
        go_wp2_with (first | (go_at_call 24; have c := ci_FrobeniusOf Ls a_s c_s _ (S_s.out.below (fr _ hHeld2)) (by omega); (with_reducible refine c.mono ?_); rintro e wk ⟨rfl, hbk⟩; clear c))
        refine hK.out _ _ (keep1 hlbs hHeld2 hbk) (fun hHeld3 => ?_)
        clear hK K
        (try simp only [Act.put, List.setIfInBounds_toArray, List.set_cons_zero, List.set_cons_succ, List.getElem_toArray, List.getElem_cons_succ, List.getElem_cons_zero])
        refine wpAnyH_ready (rs := [16]) (by kernel_rfl) (by simp) ?_
        refine AllReadyH.cons rfl (fun K hK => ?_) AllReadyH.nil
        rw [if_pos (by rfl)]
        go_wp2_with (first | (go_at_call 31; have c := ci_Contains Ls a_s c_s (frobN Ls) _ (S_s.out.below (fr _ hHeld3)) (by omega) (by omega) (by omega); rw [HF.out] at c; (with_reducible refine c.mono ?_); rintro e wk ⟨rfl, hbk⟩; clear c))
        refine hK.out _ _ (keep1 hlbs hHeld3 hbk) (fun hHeld4 => ?_)
        clear hK K
        (try simp only [Act.put, List.setIfInBounds_toArray, List.set_cons_zero, List.set_cons_succ, List.getElem_toArray, List.getElem_cons_succ, List.getElem_cons_zero])
        refine held_take 17 _ _ rfl (by kernel_rfl) (by kernel_rfl) (by kernel_rfl) (fun _ _ _ h => h) (by rfl) hHeld4 (fun w hSw => by (try dsimp only at hSw); go_simp; try with_reducible rfl) ?_
        (try simp only [Act.put, List.setIfInBounds_toArray, List.set_cons_zero, List.set_cons_succ, List.getElem_toArray, List.getElem_cons_succ, List.getElem_cons_zero])
        refine held_take 18 _ _ rfl (by kernel_rfl) (by kernel_rfl) (by kernel_rfl) (fun _ _ _ h => h) (by rfl) hHeld4 (fun w hSw => by (try dsimp only at hSw); go_simp; try with_reducible rfl) ?_
        (try simp only [Act.put, List.setIfInBounds_toArray, List.set_cons_zero, List.set_cons_succ, List.getElem_toArray, List.getElem_cons_succ, List.getElem_cons_zero])
        refine held_take 19 _ _ rfl (by kernel_rfl) (by kernel_rfl) (by kernel_rfl) (fun _ _ _ h => h) (by rfl) hHeld4 (fun w hSw => by (try dsimp only at hSw); go_simp; try with_reducible rfl) ?_
        (try simp only [Act.put, List.setIfInBounds_toArray, List.set_cons_zero, List.set_cons_succ, List.getElem_toArray, List.getElem_cons_succ, List.getElem_cons_zero])
        refine held_take 20 _ _ rfl (by kernel_rfl) (by kernel_rfl) (by kernel_rfl) (fun _ _ _ h => h) (by rfl) hHeld4 (fun w hSw => by (try dsimp only at hSw); go_simp; try with_reducible rfl) ?_
        (try simp only [Act.put, List.setIfInBounds_toArray, List.set_cons_zero, List.set_cons_succ, List.getElem_toArray, List.getElem_cons_succ, List.getElem_cons_zero])
        refine held_take 21 _ _ rfl (by kernel_rfl) (by kernel_rfl) (by kernel_rfl) (fun _ _ _ h => h) (by rfl) hHeld4 (fun w hSw => by (try dsimp only at hSw); go_simp; try with_reducible rfl) ?_
        (try simp only [Act.put, List.setIfInBounds_toArray, List.set_cons_zero, List.set_cons_succ, List.getElem_toArray, List.getElem_cons_succ, List.getElem_cons_zero])
        refine wpAnyH_ready (rs := [22]) (by kernel_rfl) (by simp) ?_
        refine AllReadyH.cons rfl (fun K hK => ?_) AllReadyH.nil
        rw [if_pos (by rfl)]
        go_wp2_with (first | (go_at_call 32; have c := cs_SharedOf (gapsL Ls) a_g c_g (smallL Ls) a_m c_m _ (R_g.out.slw.below (fr _ hHeld4)) (R_m.out.slw.below (fr _ hHeld4)) (by omega) (by omega); rw [HSH.out] at c; (with_reducible refine c.mono ?_); rintro e wk ⟨v, rfl, ho, hbk⟩; clear c; obtain ⟨a_q, c_q, rfl, -⟩ := row_open ho; clear ho; dsimp only [List.length_nil]))
        refine hK.out _ _ (keep1 hlbs hHeld4 hbk) (fun hHeld5 => ?_)
        clear hK K
        (try simp only [Act.put, List.setIfInBounds_toArray, List.set_cons_zero, List.set_cons_succ, List.getElem_toArray, List.getElem_cons_succ, List.getElem_cons_zero])
        refine held_take 23 _ _ rfl (by kernel_rfl) (by kernel_rfl) (by kernel_rfl) (fun _ _ _ h => h) (by rfl) hHeld5 (fun w hSw => by (try dsimp only at hSw); go_simp; try with_reducible rfl) ?_
        (try simp only [Act.put, List.setIfInBounds_toArray, List.set_cons_zero, List.set_cons_succ, List.getElem_toArray, List.getElem_cons_succ, List.getElem_cons_zero])
        refine held_take 24 _ _ rfl (by kernel_rfl) (by kernel_rfl) (by kernel_rfl) (fun _ _ _ h => h) (by rfl) hHeld5 (fun w hSw => by (try dsimp only at hSw); go_simp; try with_reducible rfl) ?_
        (try simp only [Act.put, List.setIfInBounds_toArray, List.set_cons_zero, List.set_cons_succ, List.getElem_toArray, List.getElem_cons_succ, List.getElem_cons_zero])
        refine held_take 25 _ _ rfl (by kernel_rfl) (by kernel_rfl) (by kernel_rfl) (fun _ _ _ h => h) (by rfl) hHeld5 (fun w hSw => by (try dsimp only at hSw); go_simp; try with_reducible rfl) ?_
        (try simp only [Act.put, List.setIfInBounds_toArray, List.set_cons_zero, List.set_cons_succ, List.getElem_toArray, List.getElem_cons_succ, List.getElem_cons_zero])
        refine held_take 26 _ _ rfl (by kernel_rfl) (by kernel_rfl) (by kernel_rfl) (fun _ _ _ h => h) (by rfl) hHeld5 (fun w hSw => by (try dsimp only at hSw); go_simp; try with_reducible rfl) ?_
        (try simp only [Act.put, List.setIfInBounds_toArray, List.set_cons_zero, List.set_cons_succ, List.getElem_toArray, List.getElem_cons_succ, List.getElem_cons_zero])
        refine held_take 27 _ _ rfl (by kernel_rfl) (by kernel_rfl) (by kernel_rfl) (fun _ _ _ h => h) (by rfl) hHeld5 (fun w hSw => by (try dsimp only at hSw); go_simp; try with_reducible rfl) ?_
        (try simp only [Act.put, List.setIfInBounds_toArray, List.set_cons_zero, List.set_cons_succ, List.getElem_toArray, List.getElem_cons_succ, List.getElem_cons_zero])
        refine wpAnyH_done (by kernel_rfl) ?_ _
        have hBz := hHeld5.2
        clear hS0 fr
        go_wp2_with fail
        go_ret
        exact ⟨rfl, hW.trans (hBz.mono hW.size)⟩

set_option maxRecDepth 100000 in
set_option maxHeartbeats 800000 in
theorem FnGaps.walk (p0 : Option Addr) (len0 cap0 : Nat) (z0 : List Int) (W : World) (r0 : IsRow .u8 W p0 len0 cap0 z0) (_ : W.ShapedOpen Try.prog) :
    Calls Try.prog 3 #[.slice p0 len0 cap0] W fun e w' => e = .returned (.bool true) ∧ Below W.heap.size W w' := by
  by_cases hl : len0 ≤ 1048576
  · exact fnGaps_small p0 len0 cap0 z0 W r0 hl
  · have cb := big_any p0 len0 cap0 W (row_maxLen r0)
    rw [decide_eq_true (show 1048576 < len0 by omega)] at cb
    go_enter Try.func3, Try.ntmps3
    go_wp2_with fail
    refine cb.mono ?_
    rintro e w0 ⟨rfl, rfl⟩
    go_wp2_with fail
    go_ret
    exact ⟨rfl, Below.refl _ _⟩
end Go.Proofs.Ytdjjagpecbflnaa
