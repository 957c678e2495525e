/-
  THE WALK OF THE LAW FnQuotients: at every drawn code both sides agree; a number is in the quotient exactly if its product is in the semigroup (written by fn_quot.py of the verifier's own).
-/
import Derived.Test.YtljfiiohiolbnaaRows
import Derived.Test.YtljfiiohiolbnaaDrw19
import Derived.Test.YtljfiiohiolbnaaC17
import Derived.Test.YtljfiiohiolbnaaSgQm
import Derived.Test.YtljfiiohiolbnaaC3
namespace Go.Proofs.Ytljfiiohiolbnaa
open Go Go.RowKit

theorem quot_law {G : List Int} {d : Int} (h : quotB G d = true) : isSgB G = true ∧ 1 ≤ d ∧ d ≤ 20 ∧ (∀ n : Nat, hasN (quotL G d) (n : Int) = hasN G ((n : Int) * d)) ∧ ∀ g ∈ G, hasN (quotL G d) g = true := by
  have h' := h
  unfold quotB at h
  rw [Bool.and_eq_true, Bool.and_eq_true] at h
  obtain ⟨⟨hs, hd⟩, hf⟩ := h
  obtain ⟨hd0, hd1⟩ := inB_true hd
  have hL : quotL G d = fromGpL (quotGaps G d) := by unfold quotL; rw [hs, hd]; rfl
  obtain ⟨hsq, hgq⟩ := fromGp_iff.1 ⟨hf, rfl⟩
  rw [← hL] at hsq hgq
  have key : ∀ n : Nat, hasN (quotL G d) (n : Int) = hasN G ((n : Int) * d) := fun n => by
    by_cases hn : n < 200
    · have h1 := mem_gapsL hsq n
      rw [hgq, quotGaps_mem hs, mem_memK] at h1
      have h2 : sumB (quotL G d) n = false ↔ hasN G ((n : Int) * d) = false := by
        rw [← h1]
        constructor
        · rintro ⟨m, -, h3, h4⟩
          have e : n = m := by omega
          rw [e]; exact h3
        · intro h3; exact ⟨n, hn, h3, rfl⟩
      rw [hasN_in hsq]
      cases ha : sumB (quotL G d) n with
      | false => exact (h2.1 ha).symm
      | true =>
        cases hb : hasN G ((n : Int) * d) with
        | true => rfl
        | false => rw [h2.2 hb] at ha; cases ha
    · have h1 : (n : Int) * 1 ≤ (n : Int) * d := Int.mul_le_mul_of_nonneg_left hd0 (by omega)
      rw [hasN_far hsq (by omega), hasN_far hs (by omega)]
  refine ⟨hs, hd0, hd1, key, fun g hg => ?_⟩
  have hgb := (isSgB_iff.1 hs).bounds g hg
  obtain ⟨m, rfl⟩ := Int.eq_ofNat_of_zero_le (show 0 ≤ g by omega)
  obtain ⟨e, rfl⟩ := Int.eq_ofNat_of_zero_le (show 0 ≤ d by omega)
  rw [key m, show (m : Int) * (e : Int) = ((e * m : Nat) : Int) by rw [Nat.mul_comm]; simp, hasN_in hs]
  exact sumB_iff.2 (isSum_mul hg e)

set_option maxRecDepth 100000 in
set_option maxHeartbeats 12800000 in
theorem fnQuotients_small (p0 : Option Addr) (len0 cap0 : Nat) (z0 : List Int) (W : World) (r0 : IsRow .u8 W p0 len0 cap0 z0) (hl : len0 ≤ 1048576) :
    Calls Try.prog 3 #[.slice p0 len0 cap0] W fun e w' => e = .returned (.bool true) ∧ Below W.heap.size W w' := by
  have HR := Lib.hid r0
  clear r0
  have hW : Below W.heap.size W W := Below.refl _ _
  go_enter Try.func3, Try.ntmps3
  have c := big_b p0 len0 cap0 W (by unfold maxLen; omega)
  rw [decide_eq_false (show ¬ 1048576 < len0 by omega)] at c
  go_wp2_with fail
  refine c.mono ?_
  rintro e w1 ⟨rfl, hb⟩
  clear c
  have z1 := hb.size
  replace hW := hW.trans (hb.mono hW.size)
  clear hb
  have c := DrawQuotientOf_any w1 p0 len0 cap0 z0 (HR.out.below hW) hl
  go_wp2_with fail
  refine c.mono ?_
  rintro e w2 ⟨Ls, a_s, c_s, d, hl_s, hB_s, hd64, rfl, hs, -, hb⟩
  clear c
  have z2 := hb.size
  replace hW := hW.trans (hb.mono hW.size)
  have S_s := Lib.hid hs
  clear hs hb hB_s
  obtain ⟨w3, hwb⟩ : ∃ wb, wb = w2.alloc (.cells #[.slice a_s Ls.length c_s] 26) := ⟨_, rfl⟩
  have hb : Below w2.heap.size w2 w3 := by rw [hwb]; exact box_below _ _
  have hA : Arr w3 w2.heap.size 26 [.slice a_s Ls.length c_s] := by rw [hwb]; exact Arr.new _ _ _
  replace S_s := Lib.hid (S_s.out.below hb)
  have z3 := hb.size
  replace hW := hW.trans (hb.mono hW.size)
  have y3 : w2.heap.size < w3.heap.size := hA.lt
  have B_bs := Lib.hid hA
  have H_w3 := Lib.hid hwb
  clear hwb hb hA
  have hx12 := quotL_len Ls d
  have HLAW := Lib.hid (fun (h : quotB Ls d = true) => quot_law h)
  obtain ⟨q, hq⟩ : ∃ q, q = quotB Ls d := ⟨_, rfl⟩
  have HQ : Hid (quotB Ls d = q) := Lib.hid hq.symm
  clear hq
  have c := ci_QuotientOf Ls a_s c_s d w3 S_s.out (by omega) hd64.1 hd64.2
  rw [HQ.out] at c
  have hk_bs : w3.cell? ⟨w2.heap.size, 0, none⟩ = some (.slice a_s Ls.length c_s) := B_bs.out.cell 0
  rw [H_w3.out] at hk_bs
  go_wp2_with fail
  rw [← H_w3.out]
  refine c.mono ?_
  rintro e w4 ⟨v, rfl, ho, hb⟩
  clear c
  clear hk_bs
  obtain ⟨a_x, c_x, rfl, rX⟩ := row_open ho
  clear ho
  replace S_s := Lib.hid (S_s.out.below hb)
  replace B_bs := Lib.hid (B_bs.out.below hb)
  have z4 := hb.size
  replace hW := hW.trans (hb.mono hW.size)
  have R_x := Lib.hid rX
  clear rX hb
  obtain ⟨w5, hwb⟩ : ∃ wb, wb = w4.alloc (.cells #[.slice a_x (quotL Ls d).length c_x] 26) := ⟨_, rfl⟩
  have hb : Below w4.heap.size w4 w5 := by rw [hwb]; exact box_below _ _
  have hA : Arr w5 w4.heap.size 26 [.slice a_x (quotL Ls d).length c_x] := by rw [hwb]; exact Arr.new _ _ _
  replace S_s := Lib.hid (S_s.out.below hb)
  replace B_bs := Lib.hid (B_bs.out.below hb)
  replace R_x := Lib.hid (R_x.out.below hb)
  have z5 := hb.size
  replace hW := hW.trans (hb.mono hW.size)
  have y5 : w4.heap.size < w5.heap.size := hA.lt
  have B_bx := Lib.hid hA
  have H_w5 := Lib.hid hwb
  clear hwb hb hA
  have c := cs_QuotientOf Ls a_s c_s d w5 S_s.out (by omega) hd64.1 hd64.2
  rw [HQ.out] at c
  have hk_bs : w5.cell? ⟨w2.heap.size, 0, none⟩ = some (.slice a_s Ls.length c_s) := B_bs.out.cell 0
  have hk_bx : w5.cell? ⟨w4.heap.size, 0, none⟩ = some (.slice a_x (quotL Ls d).length c_x) := B_bx.out.cell 0
  rw [H_w5.out] at hk_bs hk_bx
  go_wp2_with fail
  rw [← H_w5.out]
  refine c.mono ?_
  rintro e w6 ⟨v, rfl, ho, hb⟩
  clear c
  clear hk_bs hk_bx
  obtain ⟨a_w, c_w, rfl, rX⟩ := row_open ho
  clear ho
  replace S_s := Lib.hid (S_s.out.below hb)
  replace B_bs := Lib.hid (B_bs.out.below hb)
  replace R_x := Lib.hid (R_x.out.below hb)
  replace B_bx := Lib.hid (B_bx.out.below hb)
  have z6 := hb.size
  replace hW := hW.trans (hb.mono hW.size)
  have R_w := Lib.hid rX
  clear rX hb
  obtain ⟨w7, hwb⟩ : ∃ wb, wb = w6.alloc (.cells #[.slice a_w (quotL Ls d).length c_w] 26) := ⟨_, rfl⟩
  have hb : Below w6.heap.size w6 w7 := by rw [hwb]; exact box_below _ _
  have hA : Arr w7 w6.heap.size 26 [.slice a_w (quotL Ls d).length c_w] := by rw [hwb]; exact Arr.new _ _ _
  replace S_s := Lib.hid (S_s.out.below hb)
  replace B_bs := Lib.hid (B_bs.out.below hb)
  replace R_x := Lib.hid (R_x.out.below hb)
  replace B_bx := Lib.hid (B_bx.out.below hb)
  replace R_w := Lib.hid (R_w.out.below hb)
  have z7 := hb.size
  replace hW := hW.trans (hb.mono hW.size)
  have y7 : w6.heap.size < w7.heap.size := hA.lt
  have B_bw := Lib.hid hA
  have H_w7 := Lib.hid hwb
  clear hwb hb hA
  have c := DrawScaledElements_any w7 p0 len0 cap0 z0 (HR.out.below hW) hl
  have hk_bs : w7.cell? ⟨w2.heap.size, 0, none⟩ = some (.slice a_s Ls.length c_s) := B_bs.out.cell 0
  have hk_bx : w7.cell? ⟨w4.heap.size, 0, none⟩ = some (.slice a_x (quotL Ls d).length c_x) := B_bx.out.cell 0
  have hk_bw : w7.cell? ⟨w6.heap.size, 0, none⟩ = some (.slice a_w (quotL Ls d).length c_w) := B_bw.out.cell 0
  rw [H_w7.out] at hk_bs hk_bx hk_bw
  go_wp2_with fail
  rw [← H_w7.out]
  refine c.mono ?_
  rintro e w8 ⟨Lt, a_t, c_t, f, m, hl_t, hB_t, hf64, hm64, rfl, hs, -, hb⟩
  clear c
  clear hk_bs hk_bx hk_bw
  replace S_s := Lib.hid (S_s.out.below hb)
  replace B_bs := Lib.hid (B_bs.out.below hb)
  replace R_x := Lib.hid (R_x.out.below hb)
  replace B_bx := Lib.hid (B_bx.out.below hb)
  replace R_w := Lib.hid (R_w.out.below hb)
  replace B_bw := Lib.hid (B_bw.out.below hb)
  have z8 := hb.size
  replace hW := hW.trans (hb.mono hW.size)
  have S_t := Lib.hid hs
  clear hs hb hB_t HR hl
  obtain ⟨w9, hwb⟩ : ∃ wb, wb = w8.alloc (.cells #[.slice a_t Lt.length c_t] 26) := ⟨_, rfl⟩
  have hb : Below w8.heap.size w8 w9 := by rw [hwb]; exact box_below _ _
  have hA : Arr w9 w8.heap.size 26 [.slice a_t Lt.length c_t] := by rw [hwb]; exact Arr.new _ _ _
  replace S_s := Lib.hid (S_s.out.below hb)
  replace B_bs := Lib.hid (B_bs.out.below hb)
  replace R_x := Lib.hid (R_x.out.below hb)
  replace B_bx := Lib.hid (B_bx.out.below hb)
  replace R_w := Lib.hid (R_w.out.below hb)
  replace B_bw := Lib.hid (B_bw.out.below hb)
  replace S_t := Lib.hid (S_t.out.below hb)
  have z9 := hb.size
  replace hW := hW.trans (hb.mono hW.size)
  have y9 : w8.heap.size < w9.heap.size := hA.lt
  have B_bt := Lib.hid hA
  have H_w9 := Lib.hid hwb
  clear hwb hb hA
  have htl := scaledL_len Lt f m
  have hl_bx : w4.heap.size < w9.heap.size := B_bx.out.lt
  have hl_bw : w6.heap.size < w9.heap.size := B_bw.out.lt
  have hl_bt : w8.heap.size < w9.heap.size := B_bt.out.lt
  have HK : Hid (∀ w', Below w9.heap.size w9 w' → w'.cell? ⟨w4.heap.size, 0, none⟩ = some (.slice a_x (quotL Ls d).length c_x) ∧ w'.cell? ⟨w6.heap.size, 0, none⟩ = some (.slice a_w (quotL Ls d).length c_w) ∧ w'.cell? ⟨w8.heap.size, 0, none⟩ = some (.slice a_t Lt.length c_t) ∧ Below w9.heap.size w9 w') := Lib.hid fun w' h => ⟨(h.cell (p := ⟨w4.heap.size, 0, none⟩) hl_bx).trans (B_bx.out.cell 0), (h.cell (p := ⟨w6.heap.size, 0, none⟩) hl_bw).trans (B_bw.out.cell 0), (h.cell (p := ⟨w8.heap.size, 0, none⟩) hl_bt).trans (B_bt.out.cell 0), h⟩
  have hS0 : Hid (w9.drew.cell? ⟨w4.heap.size, 0, none⟩ = some (.slice a_x (quotL Ls d).length c_x) ∧ w9.drew.cell? ⟨w6.heap.size, 0, none⟩ = some (.slice a_w (quotL Ls d).length c_w) ∧ w9.drew.cell? ⟨w8.heap.size, 0, none⟩ = some (.slice a_t Lt.length c_t) ∧ Below w9.heap.size w9 w9.drew) := Lib.hid (HK.out _ (Below.refl w9.heap.size w9).drew)
  have hk_bs : w9.cell? ⟨w2.heap.size, 0, none⟩ = some (.slice a_s Ls.length c_s) := B_bs.out.cell 0
  have hk_bx : w9.cell? ⟨w4.heap.size, 0, none⟩ = some (.slice a_x (quotL Ls d).length c_x) := B_bx.out.cell 0
  have hk_bw : w9.cell? ⟨w6.heap.size, 0, none⟩ = some (.slice a_w (quotL Ls d).length c_w) := B_bw.out.cell 0
  have hk_bt : w9.cell? ⟨w8.heap.size, 0, none⟩ = some (.slice a_t Lt.length c_t) := B_bt.out.cell 0
  rw [H_w9.out] at hk_bs hk_bx hk_bw hk_bt
  go_wp2_with fail
  rw [← H_w9.out]
  clear hk_bs hk_bx hk_bw hk_bt
  have hqq : (q != q) = false := by cases q <;> rfl
  refine wp_region_held_drew (S := fun w' => w'.cell? ⟨w4.heap.size, 0, none⟩ = some (.slice a_x (quotL Ls d).length c_x) ∧ w'.cell? ⟨w6.heap.size, 0, none⟩ = some (.slice a_w (quotL Ls d).length c_w) ∧ w'.cell? ⟨w8.heap.size, 0, none⟩ = some (.slice a_t Lt.length c_t) ∧ Below w9.heap.size w9 w') (by kernel_rfl) hS0.out (fun hHeld => ?_)
  refine held_take 0 _ _ rfl (by kernel_rfl) (by kernel_rfl) (by kernel_rfl) (fun _ _ _ h => h) (by rfl) hHeld (fun w hSw => by (try dsimp only at hSw); go_simp; try with_reducible rfl) ?_
  (try simp only [Act.put, List.setIfInBounds_toArray, List.set_cons_zero, List.set_cons_succ, List.getElem_toArray, List.getElem_cons_zero])
  refine held_take 1 _ _ rfl (by kernel_rfl) (by kernel_rfl) (by kernel_rfl) (fun _ _ _ h => h) (by rfl) hHeld (fun w hSw => by (try dsimp only at hSw); go_simp; try with_reducible rfl) ?_
  (try simp only [Act.put, List.setIfInBounds_toArray, List.set_cons_zero, List.set_cons_succ, List.getElem_toArray, List.getElem_cons_succ, List.getElem_cons_zero])
  refine held_take 2 _ _ rfl (by kernel_rfl) (by kernel_rfl) (by kernel_rfl) (fun _ _ _ h => h) (by rfl) hHeld (fun w hSw => by (try dsimp only at hSw); go_simp; try with_reducible rfl) ?_
  (try simp only [Act.put, List.setIfInBounds_toArray, List.set_cons_zero, List.set_cons_succ, List.getElem_toArray, List.getElem_cons_succ, List.getElem_cons_zero])
  refine held_take 3 _ _ rfl (by kernel_rfl) (by kernel_rfl) (by kernel_rfl) (fun _ _ _ h => h) (by rfl) hHeld (fun w hSw => by (try dsimp only at hSw); go_simp; try with_reducible rfl) ?_
  (try simp only [Act.put, List.setIfInBounds_toArray, List.set_cons_zero, List.set_cons_succ, List.getElem_toArray, List.getElem_cons_succ, List.getElem_cons_zero])
  refine held_take 4 _ _ rfl (by kernel_rfl) (by kernel_rfl) (by kernel_rfl) (fun _ _ _ h => h) (by rfl) hHeld (fun w hSw => by (try dsimp only at hSw); go_simp; try with_reducible rfl) ?_
  (try simp only [Act.put, List.setIfInBounds_toArray, List.set_cons_zero, List.set_cons_succ, List.getElem_toArray, List.getElem_cons_succ, List.getElem_cons_zero])
  refine held_take 5 _ _ rfl (by kernel_rfl) (by kernel_rfl) (by kernel_rfl) (fun _ _ _ h => h) (by rfl) hHeld (fun w hSw => by (try dsimp only at hSw); go_simp; try with_reducible rfl) ?_
  (try simp only [Act.put, List.setIfInBounds_toArray, List.set_cons_zero, List.set_cons_succ, List.getElem_toArray, List.getElem_cons_succ, List.getElem_cons_zero])
  refine wpAnyH_ready (rs := [6]) (by kernel_rfl) (by simp) ?_
  refine AllReadyH.cons rfl (fun K hK => ?_) AllReadyH.nil
  rw [if_pos (by rfl)]
  go_wp2_with (first | (go_at_call 15; have c := spec_EqualSemigroup (quotL Ls d) (quotL Ls d) a_x a_w c_x c_w _ (R_x.out.slv.below (hHeld).2.2.2) (R_w.out.slv.below (hHeld).2.2.2) (by omega) (by omega); rw [decide_eq_true (rfl : quotL Ls d = quotL Ls d)] at c; (with_reducible refine c.mono ?_); rintro e wk ⟨rfl, hbk⟩; clear c))
  refine hK.out _ _ (HK.out _ ((hHeld).2.2.2.trans (hbk.mono (hHeld).2.2.2.size))) (fun hHeld1 => ?_)
  clear hK K
  (try simp only [Act.put, List.setIfInBounds_toArray, List.set_cons_zero, List.set_cons_succ, List.getElem_toArray, List.getElem_cons_succ, List.getElem_cons_zero])
  refine held_take 7 _ _ rfl (by kernel_rfl) (by kernel_rfl) (by kernel_rfl) (fun _ _ _ h => h) (by rfl) hHeld1 (fun w hSw => by (try dsimp only at hSw); go_simp; try with_reducible rfl) ?_
  (try simp only [Act.put, List.setIfInBounds_toArray, List.set_cons_zero, List.set_cons_succ, List.getElem_toArray, List.getElem_cons_succ, List.getElem_cons_zero])
  refine held_take 8 _ _ rfl (by kernel_rfl) (by kernel_rfl) (by kernel_rfl) (fun _ _ _ h => h) (by rfl) hHeld1 (fun w hSw => by (try dsimp only at hSw); go_simp; try with_reducible rfl) ?_
  (try simp only [Act.put, List.setIfInBounds_toArray, List.set_cons_zero, List.set_cons_succ, List.getElem_toArray, List.getElem_cons_succ, List.getElem_cons_zero])
  refine held_take 9 _ _ rfl (by kernel_rfl) (by kernel_rfl) (by kernel_rfl) (fun _ _ _ h => h) (by rfl) hHeld1 (fun w hSw => by (try dsimp only at hSw); go_simp; try with_reducible rfl) ?_
  (try simp only [Act.put, List.setIfInBounds_toArray, List.set_cons_zero, List.set_cons_succ, List.getElem_toArray, List.getElem_cons_succ, List.getElem_cons_zero])
  refine held_take 10 _ _ rfl (by kernel_rfl) (by kernel_rfl) (by kernel_rfl) (fun _ _ _ h => h) (by rfl) hHeld1 (fun w hSw => by (try dsimp only at hSw); go_simp; try with_reducible rfl) ?_
  (try simp only [Act.put, List.setIfInBounds_toArray, List.set_cons_zero, List.set_cons_succ, List.getElem_toArray, List.getElem_cons_succ, List.getElem_cons_zero])
  refine held_take 11 _ _ rfl (by kernel_rfl) (by kernel_rfl) (by kernel_rfl) (fun _ _ _ h => h) (by rfl) hHeld1 (fun w hSw => by (try dsimp only at hSw); go_simp; try with_reducible rfl) ?_
  (try simp only [Act.put, List.setIfInBounds_toArray, List.set_cons_zero, List.set_cons_succ, List.getElem_toArray, List.getElem_cons_succ, List.getElem_cons_zero])
  refine held_take 12 _ _ rfl (by kernel_rfl) (by kernel_rfl) (by kernel_rfl) (fun _ _ _ h => h) (by rfl) hHeld1 (fun w hSw => by (try dsimp only at hSw); go_simp; try with_reducible rfl) ?_
  (try simp only [Act.put, List.setIfInBounds_toArray, List.set_cons_zero, List.set_cons_succ, List.getElem_toArray, List.getElem_cons_succ, List.getElem_cons_zero])
  refine held_take 14 _ _ rfl (by kernel_rfl) (by kernel_rfl) (by kernel_rfl) (fun _ _ _ h => h) (by rfl) hHeld1 (fun w hSw => by (try dsimp only at hSw); go_simp; try with_reducible rfl) ?_
  (try simp only [Act.put, List.setIfInBounds_toArray, List.set_cons_zero, List.set_cons_succ, List.getElem_toArray, List.getElem_cons_succ, List.getElem_cons_zero])
  refine held_take 15 _ _ rfl (by kernel_rfl) (by kernel_rfl) (by kernel_rfl) (fun _ _ _ h => h) (by rfl) hHeld1 (fun w hSw => by (try dsimp only at hSw); go_simp; try with_reducible rfl) ?_
  (try simp only [Act.put, List.setIfInBounds_toArray, List.set_cons_zero, List.set_cons_succ, List.getElem_toArray, List.getElem_cons_succ, List.getElem_cons_zero])
  refine held_take 16 _ _ rfl (by kernel_rfl) (by kernel_rfl) (by kernel_rfl) (fun _ _ _ h => h) (by rfl) hHeld1 (fun w hSw => by (try dsimp only at hSw); go_simp; try with_reducible rfl) ?_
  (try simp only [Act.put, List.setIfInBounds_toArray, List.set_cons_zero, List.set_cons_succ, List.getElem_toArray, List.getElem_cons_succ, List.getElem_cons_zero])
  refine wpAnyH_ready (rs := [13]) (by kernel_rfl) (by simp) ?_
  refine AllReadyH.cons rfl (fun K hK => ?_) AllReadyH.nil
  rw [if_pos (by rfl)]
  go_wp2_with (first | (go_at_call 17; have c := ci_ScaledElements Lt a_t c_t f m _ (S_t.out.below (hHeld1).2.2.2) (by omega) hf64.1 hf64.2 hm64.1 hm64.2; (with_reducible refine c.mono ?_); rintro e wk ⟨v, rfl, ho, hbk⟩; obtain ⟨a_q1, c_q1, rfl, rX⟩ := row_open ho; have Q_q1 := rX.slv; clear ho rX c))
  refine hK.out _ _ (HK.out _ ((hHeld1).2.2.2.trans (hbk.mono (hHeld1).2.2.2.size))) (fun hHeld2 => ?_)
  clear hK K
  (try simp only [Act.put, List.setIfInBounds_toArray, List.set_cons_zero, List.set_cons_succ, List.getElem_toArray, List.getElem_cons_succ, List.getElem_cons_zero])
  refine wpAnyH_ready (rs := [17]) (by kernel_rfl) (by simp) ?_
  refine AllReadyH.cons rfl (fun K hK => ?_) AllReadyH.nil
  rw [if_pos (by rfl)]
  go_wp2_with (first | (go_at_call 18; have c := cs_ScaledElements Lt a_t c_t f m _ (S_t.out.below (hHeld2).2.2.2) (by omega) hf64.1 hf64.2 hm64.1 hm64.2; (with_reducible refine c.mono ?_); rintro e wk ⟨v, rfl, ho, hbk⟩; obtain ⟨a_q2, c_q2, rfl, rX⟩ := row_open ho; have Q_q2 := rX.slv; have Q_q1' := Q_q1.below hbk; clear ho rX c))
  refine hK.out _ _ (HK.out _ ((hHeld2).2.2.2.trans (hbk.mono (hHeld2).2.2.2.size))) (fun hHeld3 => ?_)
  clear hK K
  (try simp only [Act.put, List.setIfInBounds_toArray, List.set_cons_zero, List.set_cons_succ, List.getElem_toArray, List.getElem_cons_succ, List.getElem_cons_zero])
  refine wpAnyH_ready (rs := [18]) (by kernel_rfl) (by simp) ?_
  refine AllReadyH.cons rfl (fun K hK => ?_) AllReadyH.nil
  rw [if_pos (by rfl)]
  go_wp2_with (first | (go_at_call 16; have c := sameInts_any (scaledL Lt f m) (scaledL Lt f m) a_q1 a_q2 c_q1 c_q2 _ Q_q1' Q_q2 (by omega) (by omega); rw [decide_eq_true (rfl : (scaledL Lt f m) = (scaledL Lt f m))] at c; (with_reducible refine c.mono ?_); rintro e wk ⟨rfl, hbk⟩; clear c))
  refine hK.out _ _ (HK.out _ ((hHeld3).2.2.2.trans (hbk.mono (hHeld3).2.2.2.size))) (fun hHeld4 => ?_)
  clear hK K
  (try simp only [Act.put, List.setIfInBounds_toArray, List.set_cons_zero, List.set_cons_succ, List.getElem_toArray, List.getElem_cons_succ, List.getElem_cons_zero])
  refine held_take 19 _ _ rfl (by kernel_rfl) (by kernel_rfl) (by kernel_rfl) (fun _ _ _ h => h) (by rfl) hHeld4 (fun w hSw => by (try dsimp only at hSw); go_simp; try with_reducible rfl) ?_
  (try simp only [Act.put, List.setIfInBounds_toArray, List.set_cons_zero, List.set_cons_succ, List.getElem_toArray, List.getElem_cons_succ, List.getElem_cons_zero])
  refine held_take 20 _ _ rfl (by kernel_rfl) (by kernel_rfl) (by kernel_rfl) (fun _ _ _ h => h) (by rfl) hHeld4 (fun w hSw => by (try dsimp only at hSw); go_simp; try with_reducible rfl) ?_
  (try simp only [Act.put, List.setIfInBounds_toArray, List.set_cons_zero, List.set_cons_succ, List.getElem_toArray, List.getElem_cons_succ, List.getElem_cons_zero])
  refine wpAnyH_done (by kernel_rfl) ?_ _
  have hB9 := (hHeld4).2.2.2
  clear hS0 HK hHeld4 Q_q1 Q_q1' Q_q2 hqq
  rename World => wq
  have hb := hB9
  replace S_s := Lib.hid (S_s.out.below hb)
  replace B_bs := Lib.hid (B_bs.out.below hb)
  replace R_x := Lib.hid (R_x.out.below hb)
  replace B_bx := Lib.hid (B_bx.out.below hb)
  replace R_w := Lib.hid (R_w.out.below hb)
  replace B_bw := Lib.hid (B_bw.out.below hb)
  replace S_t := Lib.hid (S_t.out.below hb)
  replace B_bt := Lib.hid (B_bt.out.below hb)
  have z10 := hb.size
  replace hW := hW.trans (hb.mono hW.size)
  clear hb hB9 S_t B_bt hl_bt
  clear B_bw R_w hl_bx hl_bw
  cases q
  · clear HLAW HQ R_x
    go_wp2_with fail
    go_loopw [12] (fun i wr => i = .int .i64 0 ∧ wr = wq) (fun _ _ => 0)
    case atStart => exact ⟨rfl, rfl⟩
    case round =>
      obtain ⟨rfl, rfl⟩ := hrel
      have hcb := B_bs.out.cell 0
      go_wp2_with fail
      go_loopw [13] (fun i w2 => i = .int .i64 0 ∧ w2 = wr) (fun _ _ => 0)
      case atStart => exact ⟨rfl, rfl⟩
      case round =>
        rename World => w2
        obtain ⟨rfl, rfl⟩ := hrel
        by_cases hz : (0 : Int) < (Ls.length : Int)
        · have hzd := decide_eq_true hz
          go_wp2_with fail
          go_ret
          exact ⟨rfl, hW⟩
        · have hzd := decide_eq_false hz
          go_wp2_with fail
          go_ret
          exact ⟨rfl, hW⟩
  · obtain ⟨hsG, hd1, hd2, hlw1, hlw2⟩ := HLAW.out HQ.out
    have HL1 := Lib.hid hlw1
    have HL2 := Lib.hid hlw2
    have hS := isSgB_iff.1 hsG
    have h0 : 0 < Ls.length := (okG_iff.1 hS.ok).2.1
    obtain ⟨b, off, rfl, hbs, hcl⟩ := S_s.out.sl.open (by intro h; rw [List.map_eq_nil_iff] at h; subst h; simp at h0)
    have hWz := hW.size
    have hlbs : w2.heap.size < wq.heap.size := B_bs.out.lt
    have hlbx : w4.heap.size < wq.heap.size := B_bx.out.lt
    have HCB := Lib.hid (B_bs.out.cell 0)
    have HCX := Lib.hid (B_bx.out.cell 0)
    have HCL := Lib.hid hcl
    have HSS := Lib.hid S_s.out.sl
    have HRX := Lib.hid R_x.out.slv
    clear HLAW HQ hlw1 hlw2 hS hsG hcl S_s B_bs B_bx R_x
    go_wp2_with fail
    go_loopw [12] (fun i wr => ∃ k : Nat, k ≤ 41 ∧ i = .int .i64 (k : Int) ∧ Below wq.heap.size wq wr) (fun i _ => 41 - (intOf i).toNat)
    case atStart => exact ⟨0, by omega, rfl, Below.refl _ _⟩
    case round =>
      obtain ⟨k, hk, rfl, hbel⟩ := hrel
      have hbz := hbel.size
      by_cases hlt : k ≤ 40
      · have hlti : decide ((k : Int) ≤ 40) = true := decide_eq_true (by omega)
        have hlti2 : (k : Int) ≤ 40 := by omega
        have hp0 : 0 ≤ (k : Int) * d := Int.mul_nonneg (by omega) (by omega)
        have hp1 : (k : Int) * d ≤ 40 * 20 := Int.mul_le_mul (by omega) (by omega) (by omega) (by omega)
        have HK : Hid (∀ w', Below wr.heap.size wr w' → w'.cell? ⟨w4.heap.size, 0, none⟩ = some (.slice a_x (quotL Ls d).length c_x) ∧ w'.cell? ⟨w2.heap.size, 0, none⟩ = some (.slice (some ⟨b, off, none⟩) Ls.length c_s) ∧ Below wr.heap.size wr w') := Lib.hid fun w' h => ⟨((hbel.trans (h.mono hbz)).cell (p := ⟨w4.heap.size, 0, none⟩) hlbx).trans HCX.out, ((hbel.trans (h.mono hbz)).cell (p := ⟨w2.heap.size, 0, none⟩) hlbs).trans HCB.out, h⟩
        have hS0 := HK.out _ (Below.refl wr.heap.size wr).drew
        have c1 := fun w' (h : Below wr.heap.size wr w') => impl_Contains (quotL Ls d) (k : Int) a_x c_x w' (HRX.out.below (hbel.trans (h.mono hbz))) (by omega)
        have c2 := fun w' (h : Below wr.heap.size wr w') => spec_Contains Ls ((k : Int) * d) (some ⟨b, off, none⟩) c_s w' (HSS.out.below (hbel.trans (h.mono hbz))) (by omega)
        rw [HL1.out k] at c1
        generalize hasN Ls ((k : Int) * d) = r at *
        have hrr : (r != r) = false := by cases r <;> rfl
        go_wp2_with fail
        refine wp_region_held_drew (S := fun w' => w'.cell? ⟨w4.heap.size, 0, none⟩ = some (.slice a_x (quotL Ls d).length c_x) ∧ w'.cell? ⟨w2.heap.size, 0, none⟩ = some (.slice (some ⟨b, off, none⟩) Ls.length c_s) ∧ Below wr.heap.size wr w') (by kernel_rfl) hS0 (fun hHeld => ?_)
        refine held_take 0 _ _ rfl (by kernel_rfl) (by kernel_rfl) (by kernel_rfl) (fun _ _ _ h => h) (by rfl) hHeld (fun w hSw => by (try dsimp only at hSw); go_simp; try with_reducible rfl) ?_
        (try simp only [Act.put, List.setIfInBounds_toArray, List.set_cons_zero, List.set_cons_succ, List.getElem_toArray, List.getElem_cons_zero])
        refine held_take 1 _ _ rfl (by kernel_rfl) (by kernel_rfl) (by kernel_rfl) (fun _ _ _ h => h) (by rfl) hHeld (fun w hSw => by (try dsimp only at hSw); go_simp; try with_reducible rfl) ?_
        (try simp only [Act.put, List.setIfInBounds_toArray, List.set_cons_zero, List.set_cons_succ, List.getElem_toArray, List.getElem_cons_succ, List.getElem_cons_zero])
        refine held_take 3 _ _ rfl (by kernel_rfl) (by kernel_rfl) (by kernel_rfl) (fun _ _ _ h => h) (by rfl) hHeld (fun w hSw => by (try dsimp only at hSw); go_simp; try with_reducible rfl) ?_
        (try simp only [Act.put, List.setIfInBounds_toArray, List.set_cons_zero, List.set_cons_succ, List.getElem_toArray, List.getElem_cons_succ, List.getElem_cons_zero])
        refine held_take 4 _ _ rfl (by kernel_rfl) (by kernel_rfl) (by kernel_rfl) (fun _ _ _ h => h) (by rfl) hHeld (fun w hSw => by (try dsimp only at hSw); go_simp; try with_reducible rfl) ?_
        (try simp only [Act.put, List.setIfInBounds_toArray, List.set_cons_zero, List.set_cons_succ, List.getElem_toArray, List.getElem_cons_succ, List.getElem_cons_zero])
        refine held_take 5 _ _ rfl (by kernel_rfl) (by kernel_rfl) (by kernel_rfl) (fun _ _ _ h => h) (by rfl) hHeld (fun w hSw => by (try dsimp only at hSw); go_simp; try with_reducible rfl) ?_
        (try simp only [Act.put, List.setIfInBounds_toArray, List.set_cons_zero, List.set_cons_succ, List.getElem_toArray, List.getElem_cons_succ, List.getElem_cons_zero])
        refine held_take 6 _ _ rfl (by kernel_rfl) (by kernel_rfl) (by kernel_rfl) (fun _ _ _ h => h) (by rfl) hHeld (fun w hSw => by (try dsimp only at hSw); go_simp; try with_reducible rfl) ?_
        (try simp only [Act.put, List.setIfInBounds_toArray, List.set_cons_zero, List.set_cons_succ, List.getElem_toArray, List.getElem_cons_succ, List.getElem_cons_zero])
        refine wpAnyH_ready (rs := [2]) (by kernel_rfl) (by simp) ?_
        refine AllReadyH.cons rfl (fun K hK => ?_) AllReadyH.nil
        rw [if_pos (by rfl)]
        go_wp2_with (first | (go_at_call 19; (with_reducible refine (c1 _ hHeld.2.2).mono ?_); rintro e wk ⟨rfl, hbk⟩))
        refine hK.out _ _ (HK.out _ ((hHeld).2.2.trans (hbk.mono (hHeld).2.2.size))) (fun hHeld1 => ?_)
        clear hK K
        (try simp only [Act.put, List.setIfInBounds_toArray, List.set_cons_zero, List.set_cons_succ, List.getElem_toArray, List.getElem_cons_succ, List.getElem_cons_zero])
        refine wpAnyH_ready (rs := [7]) (by kernel_rfl) (by simp) ?_
        refine AllReadyH.cons rfl (fun K hK => ?_) AllReadyH.nil
        rw [if_pos (by rfl)]
        go_wp2_with (first | (go_at_call 20; (with_reducible refine (c2 _ hHeld1.2.2).mono ?_); rintro e wk ⟨rfl, hbk⟩))
        refine hK.out _ _ (HK.out _ ((hHeld1).2.2.trans (hbk.mono (hHeld1).2.2.size))) (fun hHeld2 => ?_)
        clear hK K
        (try simp only [Act.put, List.setIfInBounds_toArray, List.set_cons_zero, List.set_cons_succ, List.getElem_toArray, List.getElem_cons_succ, List.getElem_cons_zero])
        refine held_take 8 _ _ rfl (by kernel_rfl) (by kernel_rfl) (by kernel_rfl) (fun _ _ _ h => h) (by rfl) hHeld2 (fun w hSw => by (try dsimp only at hSw); go_simp; try with_reducible rfl) ?_
        (try simp only [Act.put, List.setIfInBounds_toArray, List.set_cons_zero, List.set_cons_succ, List.getElem_toArray, List.getElem_cons_succ, List.getElem_cons_zero])
        refine wpAnyH_done (by kernel_rfl) ?_ _
        have hbF := hbel.trans ((hHeld2).2.2.mono hbz)
        clear hS0 hHeld2 c1 c2 HK
        go_wp2_with fail
        go_roundw
        case rel => exact ⟨k + 1, by omega, by go_num, hbF⟩
        case measure => simp [intOf]; omega
      · have hlti : decide ((k : Int) ≤ 40) = false := decide_eq_false (by omega)
        have hlti2 : ¬ (k : Int) ≤ 40 := by omega
        have hcb0 : wr.cell? ⟨w2.heap.size, 0, none⟩ = some (.slice (some ⟨b, off, none⟩) Ls.length c_s) := (hbel.cell (p := ⟨w2.heap.size, 0, none⟩) hlbs).trans HCB.out
        have hW2 := hW.trans (hbel.mono hWz)
        clear hcb0
        go_wp2_with fail
        go_loopw [13] (fun i wv => ∃ j : Nat, j ≤ Ls.length ∧ i = .int .i64 (j : Int) ∧ Below wq.heap.size wq wv) (fun i _ => Ls.length - (intOf i).toNat)
        case atStart => exact ⟨0, Nat.zero_le _, rfl, hbel⟩
        case round =>
          rename World => wv
          obtain ⟨j, hj, rfl, hb2⟩ := hrel
          have hbz2 := hb2.size
          have hcb := (hb2.cell (p := ⟨w2.heap.size, 0, none⟩) hlbs).trans HCB.out
          by_cases hjl : j < Ls.length
          · have hjli : (j : Int) < (Ls.length : Int) := by omega
            have hjd := decide_eq_true hjli
            have hj0 : (0 : Int) ≤ (j : Int) := by omega
            have HK : Hid (∀ w', Below wv.heap.size wv w' → w'.cell? ⟨w4.heap.size, 0, none⟩ = some (.slice a_x (quotL Ls d).length c_x) ∧ w'.cell? ⟨w2.heap.size, 0, none⟩ = some (.slice (some ⟨b, off, none⟩) Ls.length c_s) ∧ w'.cell? ⟨b, off + j, none⟩ = some (.int .i64 Ls[j]) ∧ Below wv.heap.size wv w') := Lib.hid fun w' h => ⟨((hb2.trans (h.mono hbz2)).cell (p := ⟨w4.heap.size, 0, none⟩) hlbx).trans HCX.out, ((hb2.trans (h.mono hbz2)).cell (p := ⟨w2.heap.size, 0, none⟩) hlbs).trans HCB.out, ((hb2.trans (h.mono hbz2)).cell (p := ⟨b, off + j, none⟩) hbs).trans (HCL.out j _ (by simp [hjl])), h⟩
            have hS0 := HK.out _ (Below.refl wv.heap.size wv).drew
            have c1 := fun w' (h : Below wv.heap.size wv w') => impl_Contains (quotL Ls d) Ls[j] a_x c_x w' (HRX.out.below (hb2.trans (h.mono hbz2))) (by omega)
            rw [HL2.out Ls[j] (List.getElem_mem hjl)] at c1
            generalize Ls[j] = y at *
            go_wp2_with fail
            refine wp_region_held_drew (S := fun w' => w'.cell? ⟨w4.heap.size, 0, none⟩ = some (.slice a_x (quotL Ls d).length c_x) ∧ w'.cell? ⟨w2.heap.size, 0, none⟩ = some (.slice (some ⟨b, off, none⟩) Ls.length c_s) ∧ w'.cell? ⟨b, off + j, none⟩ = some (.int .i64 y) ∧ Below wv.heap.size wv w') (by kernel_rfl) hS0 (fun hHeld => ?_)
            refine held_take 0 _ _ rfl (by kernel_rfl) (by kernel_rfl) (by kernel_rfl) (fun _ _ _ h => h) (by rfl) hHeld (fun w hSw => by (try dsimp only at hSw); go_simp; try with_reducible rfl) ?_
            (try simp only [Act.put, List.setIfInBounds_toArray, List.set_cons_zero, List.set_cons_succ, List.getElem_toArray, List.getElem_cons_zero])
            refine held_take 1 _ _ rfl (by kernel_rfl) (by kernel_rfl) (by kernel_rfl) (fun _ _ _ h => h) (by rfl) hHeld (fun w hSw => by (try dsimp only at hSw); go_simp; try with_reducible rfl) ?_
            (try simp only [Act.put, List.setIfInBounds_toArray, List.set_cons_zero, List.set_cons_succ, List.getElem_toArray, List.getElem_cons_succ, List.getElem_cons_zero])
            refine held_take 2 _ _ rfl (by kernel_rfl) (by kernel_rfl) (by kernel_rfl) (fun _ _ _ h => h) (by rfl) hHeld (fun w hSw => by (try dsimp only at hSw); go_simp; try with_reducible rfl) ?_
            (try simp only [Act.put, List.setIfInBounds_toArray, List.set_cons_zero, List.set_cons_succ, List.getElem_toArray, List.getElem_cons_succ, List.getElem_cons_zero])
            refine held_take 3 _ _ rfl (by kernel_rfl) (by kernel_rfl) (by kernel_rfl) (fun _ _ _ h => h) (by rfl) hHeld (fun w hSw => by (try dsimp only at hSw); go_simp; try with_reducible rfl) ?_
            (try simp only [Act.put, List.setIfInBounds_toArray, List.set_cons_zero, List.set_cons_succ, List.getElem_toArray, List.getElem_cons_succ, List.getElem_cons_zero])
            refine held_take 4 _ _ rfl (by kernel_rfl) (by kernel_rfl) (by kernel_rfl) (fun _ _ _ h => h) (by rfl) hHeld (fun w hSw => by (try dsimp only at hSw); go_simp; try with_reducible rfl) ?_
            (try simp only [Act.put, List.setIfInBounds_toArray, List.set_cons_zero, List.set_cons_succ, List.getElem_toArray, List.getElem_cons_succ, List.getElem_cons_zero])
            refine held_take 5 _ _ rfl (by kernel_rfl) (by kernel_rfl) (by kernel_rfl) (fun _ _ _ h => h) (by rfl) hHeld (fun w hSw => by (try dsimp only at hSw); go_simp; try with_reducible rfl) ?_
            (try simp only [Act.put, List.setIfInBounds_toArray, List.set_cons_zero, List.set_cons_succ, List.getElem_toArray, List.getElem_cons_succ, List.getElem_cons_zero])
            refine wpAnyH_ready (rs := [6]) (by kernel_rfl) (by simp) ?_
            refine AllReadyH.cons rfl (fun K hK => ?_) AllReadyH.nil
            rw [if_pos (by rfl)]
            go_wp2_with (first | (go_at_call 19; (with_reducible refine (c1 _ hHeld.2.2.2).mono ?_); rintro e wk ⟨rfl, hbk⟩))
            refine hK.out _ _ (HK.out _ ((hHeld).2.2.2.trans (hbk.mono (hHeld).2.2.2.size))) (fun hHeld1 => ?_)
            clear hK K
            (try simp only [Act.put, List.setIfInBounds_toArray, List.set_cons_zero, List.set_cons_succ, List.getElem_toArray, List.getElem_cons_succ, List.getElem_cons_zero])
            refine held_take 7 _ _ rfl (by kernel_rfl) (by kernel_rfl) (by kernel_rfl) (fun _ _ _ h => h) (by rfl) hHeld1 (fun w hSw => by (try dsimp only at hSw); go_simp; try with_reducible rfl) ?_
            (try simp only [Act.put, List.setIfInBounds_toArray, List.set_cons_zero, List.set_cons_succ, List.getElem_toArray, List.getElem_cons_succ, List.getElem_cons_zero])
            refine wpAnyH_done (by kernel_rfl) ?_ _
            have hbF := hb2.trans ((hHeld1).2.2.2.mono hbz2)
            clear hS0 hHeld1 c1 HK hcb
            go_wp2_with fail
            go_roundw
            case rel => exact ⟨j + 1, by omega, by go_num, hbF⟩
            case measure => simp [intOf]; omega
          · have hjli : ¬ (j : Int) < (Ls.length : Int) := by omega
            have hjd := decide_eq_false hjli
            have hW3 := hW.trans (hb2.mono hWz)
            go_wp2_with fail
            go_ret
            exact ⟨rfl, hW3⟩

set_option maxRecDepth 100000 in
set_option maxHeartbeats 800000 in
theorem FnQuotients.walk (p0 : Option Addr) (len0 cap0 : Nat) (z0 : List Int) (W : World) (r0 : IsRow .u8 W p0 len0 cap0 z0) (_ : W.ShapedOpen Try.prog) :
    Calls Try.prog 3 #[.slice p0 len0 cap0] W fun e w' => e = .returned (.bool true) ∧ Below W.heap.size W w' := by
  by_cases hl : len0 ≤ 1048576
  · exact fnQuotients_small p0 len0 cap0 z0 W r0 hl
  · have cb := big_any p0 len0 cap0 W (row_maxLen r0)
    rw [decide_eq_true (show 1048576 < len0 by omega)] at cb
    go_enter Try.func3, Try.ntmps3
    go_wp2_with fail
    refine cb.mono ?_
    rintro e w0 ⟨rfl, rfl⟩
    go_wp2_with fail
    go_ret
    exact ⟨rfl, Below.refl _ _⟩
end Go.Proofs.Ytljfiiohiolbnaa
