/-
  THE WALK OF THE LAW FnCombined: at every drawn code both sides agree; what both have and what they generate together (written by fn_comb.py of the verifier's own).
-/
import Derived.Test.YtljfiiohiolbnaaRows
import Derived.Test.YtljfiiohiolbnaaDrw20
import Derived.Test.YtljfiiohiolbnaaC18
import Derived.Test.YtljfiiohiolbnaaSgQm
import Derived.Test.YtljfiiohiolbnaaSgE
import Derived.Test.YtljfiiohiolbnaaC3
namespace Go.Proofs.Ytljfiiohiolbnaa
open Go Go.RowKit

theorem gen_in {G : List Int} {x : Int} (hx : x ∈ G) (h0 : 0 ≤ x) : sumB G x.toNat = true := by
  obtain ⟨m, rfl⟩ := Int.eq_ofNat_of_zero_le h0
  have h := isSum_mul hx 1
  rw [Nat.one_mul] at h
  exact sumB_iff.2 h
theorem meet_law {A B : List Int} (h : meetB A B = true) : (∀ n : Nat, hasN (meetL A B) (n : Int) = (hasN A (n : Int) && hasN B (n : Int))) ∧ withinB (meetL A B) A = true ∧ withinB (meetL A B) B = true := by
  have h' := h
  unfold meetB at h
  rw [Bool.and_eq_true, Bool.and_eq_true] at h
  obtain ⟨⟨ha, hb⟩, hf⟩ := h
  have hL : meetL A B = fromGpL (sortL (gapsL A ++ gapsL B)) := by unfold meetL; rw [ha, hb]; rfl
  obtain ⟨hsq, hgq⟩ := fromGp_iff.1 ⟨hf, rfl⟩
  rw [← hL] at hsq hgq
  have key : ∀ n : Nat, hasN (meetL A B) (n : Int) = (hasN A (n : Int) && hasN B (n : Int)) := fun n => by
    by_cases hn : n < 200
    · have h1 := mem_gapsL hsq n
      rw [hgq, meet_mem ha hb, mem_memK] at h1
      have h2 : sumB (meetL A B) n = false ↔ (hasN A (n : Int) && hasN B (n : Int)) = false := by
        rw [← h1]
        constructor
        · rintro ⟨m, -, h3, h4⟩
          have e : n = m := by omega
          rw [e]; exact h3
        · intro h3; exact ⟨n, hn, h3, rfl⟩
      rw [hasN_in hsq]
      cases hx : sumB (meetL A B) n with
      | false => exact (h2.1 hx).symm
      | true =>
        cases hy : (hasN A (n : Int) && hasN B (n : Int)) with
        | true => rfl
        | false => rw [h2.2 hy] at hx; cases hx
    · rw [hasN_far hsq (by omega), hasN_far ha (by omega), hasN_far hb (by omega)]; rfl
  have hg : ∀ g ∈ meetL A B, hasN A g = true ∧ hasN B g = true := fun g hg => by
    have hgb := (isSgB_iff.1 hsq).bounds g hg
    have h1 := gen_in hg (by omega)
    obtain ⟨m, rfl⟩ := Int.eq_ofNat_of_zero_le (show 0 ≤ g by omega)
    rw [Int.toNat_natCast, ← hasN_in hsq, key m, Bool.and_eq_true] at h1
    exact h1
  refine ⟨key, ?_, ?_⟩
  · unfold withinB; rw [hsq, ha, Bool.true_and, Bool.true_and, List.all_eq_true]; exact fun g hgm => (hg g hgm).1
  · unfold withinB; rw [hsq, hb, Bool.true_and, Bool.true_and, List.all_eq_true]; exact fun g hgm => (hg g hgm).2
theorem add_law {A B : List Int} (h : addB A B = true) : (∀ x ∈ addL A B, x ∈ A ∨ x ∈ B) ∧ withinB A (addL A B) = true ∧ withinB B (addL A B) = true := by
  unfold addB at h
  rw [Bool.and_eq_true, Bool.and_eq_true] at h
  obtain ⟨⟨ha, hb⟩, hf⟩ := h
  have hL : addL A B = fromL (A ++ B) := by unfold addL; rw [ha, hb]; rfl
  have hok : okG (A ++ B) = true := by unfold fromB at hf; exact (Bool.and_eq_true_iff.1 hf).1
  have hs := fromL_isSg hf
  have key : ∀ x ∈ A ++ B, hasN (fromL (A ++ B)) x = true := fun x hx => by
    have hxb := (okG_iff.1 hok).1 x hx
    rw [← gen_has hf (by omega) (by omega), generatesB_in hok (inB_mk (by omega) (by omega))]
    exact gen_in hx (by omega)
  rw [hL]
  refine ⟨fun x hx => ?_, ?_, ?_⟩
  · rw [fromL_yes hf] at hx; exact List.mem_append.1 (minL_mem hx)
  · unfold withinB; rw [hs, ha, Bool.true_and, Bool.true_and, List.all_eq_true]; exact fun g hg => key g (List.mem_append_left _ hg)
  · unfold withinB; rw [hs, hb, Bool.true_and, Bool.true_and, List.all_eq_true]; exact fun g hg => key g (List.mem_append_right _ hg)

set_option maxRecDepth 100000 in
set_option maxHeartbeats 12800000 in
theorem fnCombined_small (p0 : Option Addr) (len0 cap0 : Nat) (z0 : List Int) (W : World) (r0 : IsRow .u8 W p0 len0 cap0 z0) (hl : len0 ≤ 1048576) :
    Calls Try.prog 4 #[.slice p0 len0 cap0] W fun e w' => e = .returned (.bool true) ∧ Below W.heap.size W w' := by
  have HR := Lib.hid r0
  clear r0
  have hW : Below W.heap.size W W := Below.refl _ _
  go_enter Try.func4, Try.ntmps4
  have c := big_b p0 len0 cap0 W (by unfold maxLen; omega)
  rw [decide_eq_false (show ¬ 1048576 < len0 by omega)] at c
  go_wp2_with fail
  refine c.mono ?_
  rintro e w1 ⟨rfl, hb⟩
  clear c
  have z1 := hb.size
  replace hW := hW.trans (hb.mono hW.size)
  clear hb
  have c := DrawMeetOf_any w1 p0 len0 cap0 z0 (HR.out.below hW) hl
  go_wp2_with fail
  refine c.mono ?_
  rintro e w2 ⟨La, Lb, a_a, a_b, c_a, c_b, hl_a, hl_b, hB_a, hB_b, rfl, hs, hs2, hb⟩
  clear c
  have z2 := hb.size
  replace hW := hW.trans (hb.mono hW.size)
  have S_a := Lib.hid hs
  have S_b := Lib.hid hs2
  clear hs hs2 hb hB_a hB_b
  obtain ⟨w3, hwb⟩ : ∃ wb, wb = w2.alloc (.cells #[.slice a_a La.length c_a] 26) := ⟨_, rfl⟩
  have hb : Below w2.heap.size w2 w3 := by rw [hwb]; exact box_below _ _
  have hA : Arr w3 w2.heap.size 26 [.slice a_a La.length c_a] := by rw [hwb]; exact Arr.new _ _ _
  replace S_a := Lib.hid (S_a.out.below hb)
  replace S_b := Lib.hid (S_b.out.below hb)
  have z3 := hb.size
  replace hW := hW.trans (hb.mono hW.size)
  have y3 : w2.heap.size < w3.heap.size := hA.lt
  have B_ba := Lib.hid hA
  have H_w3 := Lib.hid hwb
  clear hwb hb hA
  obtain ⟨w4, hwb⟩ : ∃ wb, wb = w3.alloc (.cells #[.slice a_b Lb.length c_b] 26) := ⟨_, rfl⟩
  have hb : Below w3.heap.size w3 w4 := by rw [hwb]; exact box_below _ _
  have hA : Arr w4 w3.heap.size 26 [.slice a_b Lb.length c_b] := by rw [hwb]; exact Arr.new _ _ _
  replace S_a := Lib.hid (S_a.out.below hb)
  replace S_b := Lib.hid (S_b.out.below hb)
  replace B_ba := Lib.hid (B_ba.out.below hb)
  have z4 := hb.size
  replace hW := hW.trans (hb.mono hW.size)
  have y4 : w3.heap.size < w4.heap.size := hA.lt
  have B_bb : Hid (Arr w4 (w2.heap.size + 1) 26 [.slice a_b Lb.length c_b]) := Lib.hid (by have h := hA; rw [show w3.heap.size = w2.heap.size + 1 by rw [H_w3.out]; simp] at h; exact h)
  have H_w4 := Lib.hid hwb
  clear hwb hb hA
  have hx12 := meetL_len La Lb
  have HLAW := Lib.hid (fun (h : meetB La Lb = true) => meet_law h)
  obtain ⟨q, hq⟩ : ∃ q, q = meetB La Lb := ⟨_, rfl⟩
  have HQ : Hid (meetB La Lb = q) := Lib.hid hq.symm
  clear hq
  have c := ci_MeetOf La a_a c_a Lb a_b c_b w4 S_a.out S_b.out (by omega) (by omega)
  rw [HQ.out] at c
  have hk_ba : w4.cell? ⟨w2.heap.size, 0, none⟩ = some (.slice a_a La.length c_a) := B_ba.out.cell 0
  have hk_bb : w4.cell? ⟨w2.heap.size + 1, 0, none⟩ = some (.slice a_b Lb.length c_b) := B_bb.out.cell 0
  rw [H_w4.out] at hk_ba hk_bb
  rw [H_w3.out] at hk_ba hk_bb
  go_wp2_with fail
  rw [← H_w3.out]
  rw [← H_w4.out]
  refine c.mono ?_
  rintro e w5 ⟨v, rfl, ho, hb⟩
  clear c
  clear hk_ba hk_bb
  obtain ⟨a_x, c_x, rfl, rX⟩ := row_open ho
  clear ho
  replace S_a := Lib.hid (S_a.out.below hb)
  replace S_b := Lib.hid (S_b.out.below hb)
  replace B_ba := Lib.hid (B_ba.out.below hb)
  replace B_bb := Lib.hid (B_bb.out.below hb)
  have z5 := hb.size
  replace hW := hW.trans (hb.mono hW.size)
  have R_x := Lib.hid rX
  clear rX hb
  obtain ⟨w6, hwb⟩ : ∃ wb, wb = w5.alloc (.cells #[.slice a_x (meetL La Lb).length c_x] 26) := ⟨_, rfl⟩
  have hb : Below w5.heap.size w5 w6 := by rw [hwb]; exact box_below _ _
  have hA : Arr w6 w5.heap.size 26 [.slice a_x (meetL La Lb).length c_x] := by rw [hwb]; exact Arr.new _ _ _
  replace S_a := Lib.hid (S_a.out.below hb)
  replace S_b := Lib.hid (S_b.out.below hb)
  replace B_ba := Lib.hid (B_ba.out.below hb)
  replace B_bb := Lib.hid (B_bb.out.below hb)
  replace R_x := Lib.hid (R_x.out.below hb)
  have z6 := hb.size
  replace hW := hW.trans (hb.mono hW.size)
  have y6 : w5.heap.size < w6.heap.size := hA.lt
  have B_bx := Lib.hid hA
  have H_w6 := Lib.hid hwb
  clear hwb hb hA
  have c := cs_MeetOf La a_a c_a Lb a_b c_b w6 S_a.out S_b.out (by omega) (by omega)
  rw [HQ.out] at c
  have hk_ba : w6.cell? ⟨w2.heap.size, 0, none⟩ = some (.slice a_a La.length c_a) := B_ba.out.cell 0
  have hk_bb : w6.cell? ⟨w2.heap.size + 1, 0, none⟩ = some (.slice a_b Lb.length c_b) := B_bb.out.cell 0
  have hk_bx : w6.cell? ⟨w5.heap.size, 0, none⟩ = some (.slice a_x (meetL La Lb).length c_x) := B_bx.out.cell 0
  rw [H_w6.out] at hk_ba hk_bb hk_bx
  go_wp2_with fail
  rw [← H_w6.out]
  refine c.mono ?_
  rintro e w7 ⟨v, rfl, ho, hb⟩
  clear c
  clear hk_ba hk_bb hk_bx
  obtain ⟨a_w, c_w, rfl, rX⟩ := row_open ho
  clear ho
  replace S_a := Lib.hid (S_a.out.below hb)
  replace S_b := Lib.hid (S_b.out.below hb)
  replace B_ba := Lib.hid (B_ba.out.below hb)
  replace B_bb := Lib.hid (B_bb.out.below hb)
  replace R_x := Lib.hid (R_x.out.below hb)
  replace B_bx := Lib.hid (B_bx.out.below hb)
  have z7 := hb.size
  replace hW := hW.trans (hb.mono hW.size)
  have R_w := Lib.hid rX
  clear rX hb
  obtain ⟨w8, hwb⟩ : ∃ wb, wb = w7.alloc (.cells #[.slice a_w (meetL La Lb).length c_w] 26) := ⟨_, rfl⟩
  have hb : Below w7.heap.size w7 w8 := by rw [hwb]; exact box_below _ _
  have hA : Arr w8 w7.heap.size 26 [.slice a_w (meetL La Lb).length c_w] := by rw [hwb]; exact Arr.new _ _ _
  replace S_a := Lib.hid (S_a.out.below hb)
  replace S_b := Lib.hid (S_b.out.below hb)
  replace B_ba := Lib.hid (B_ba.out.below hb)
  replace B_bb := Lib.hid (B_bb.out.below hb)
  replace R_x := Lib.hid (R_x.out.below hb)
  replace B_bx := Lib.hid (B_bx.out.below hb)
  replace R_w := Lib.hid (R_w.out.below hb)
  have z8 := hb.size
  replace hW := hW.trans (hb.mono hW.size)
  have y8 : w7.heap.size < w8.heap.size := hA.lt
  have B_bw := Lib.hid hA
  have H_w8 := Lib.hid hwb
  clear hwb hb hA
  have c := DrawAddOf_any w8 p0 len0 cap0 z0 (HR.out.below hW) hl
  have hk_ba : w8.cell? ⟨w2.heap.size, 0, none⟩ = some (.slice a_a La.length c_a) := B_ba.out.cell 0
  have hk_bb : w8.cell? ⟨w2.heap.size + 1, 0, none⟩ = some (.slice a_b Lb.length c_b) := B_bb.out.cell 0
  have hk_bx : w8.cell? ⟨w5.heap.size, 0, none⟩ = some (.slice a_x (meetL La Lb).length c_x) := B_bx.out.cell 0
  have hk_bw : w8.cell? ⟨w7.heap.size, 0, none⟩ = some (.slice a_w (meetL La Lb).length c_w) := B_bw.out.cell 0
  rw [H_w8.out] at hk_ba hk_bb hk_bx hk_bw
  go_wp2_with fail
  rw [← H_w8.out]
  refine c.mono ?_
  rintro e w9 ⟨Lc, Ld, a_c, a_d, c_c, c_d, hl_c, hl_d, hB_c, hB_d, rfl, hs, hs2, hb⟩
  clear c
  clear hk_ba hk_bb hk_bx hk_bw
  replace S_a := Lib.hid (S_a.out.below hb)
  replace S_b := Lib.hid (S_b.out.below hb)
  replace B_ba := Lib.hid (B_ba.out.below hb)
  replace B_bb := Lib.hid (B_bb.out.below hb)
  replace R_x := Lib.hid (R_x.out.below hb)
  replace B_bx := Lib.hid (B_bx.out.below hb)
  replace R_w := Lib.hid (R_w.out.below hb)
  replace B_bw := Lib.hid (B_bw.out.below hb)
  have z9 := hb.size
  replace hW := hW.trans (hb.mono hW.size)
  have S_c := Lib.hid hs
  have S_d := Lib.hid hs2
  clear hs hs2 hb hB_c hB_d
  obtain ⟨w10, hwb⟩ : ∃ wb, wb = w9.alloc (.cells #[.slice a_c Lc.length c_c] 26) := ⟨_, rfl⟩
  have hb : Below w9.heap.size w9 w10 := by rw [hwb]; exact box_below _ _
  have hA : Arr w10 w9.heap.size 26 [.slice a_c Lc.length c_c] := by rw [hwb]; exact Arr.new _ _ _
  replace S_a := Lib.hid (S_a.out.below hb)
  replace S_b := Lib.hid (S_b.out.below hb)
  replace B_ba := Lib.hid (B_ba.out.below hb)
  replace B_bb := Lib.hid (B_bb.out.below hb)
  replace R_x := Lib.hid (R_x.out.below hb)
  replace B_bx := Lib.hid (B_bx.out.below hb)
  replace R_w := Lib.hid (R_w.out.below hb)
  replace B_bw := Lib.hid (B_bw.out.below hb)
  replace S_c := Lib.hid (S_c.out.below hb)
  replace S_d := Lib.hid (S_d.out.below hb)
  have z10 := hb.size
  replace hW := hW.trans (hb.mono hW.size)
  have y10 : w9.heap.size < w10.heap.size := hA.lt
  have B_bc := Lib.hid hA
  have H_w10 := Lib.hid hwb
  clear hwb hb hA
  obtain ⟨w11, hwb⟩ : ∃ wb, wb = w10.alloc (.cells #[.slice a_d Ld.length c_d] 26) := ⟨_, rfl⟩
  have hb : Below w10.heap.size w10 w11 := by rw [hwb]; exact box_below _ _
  have hA : Arr w11 w10.heap.size 26 [.slice a_d Ld.length c_d] := by rw [hwb]; exact Arr.new _ _ _
  replace S_a := Lib.hid (S_a.out.below hb)
  replace S_b := Lib.hid (S_b.out.below hb)
  replace B_ba := Lib.hid (B_ba.out.below hb)
  replace B_bb := Lib.hid (B_bb.out.below hb)
  replace R_x := Lib.hid (R_x.out.below hb)
  replace B_bx := Lib.hid (B_bx.out.below hb)
  replace R_w := Lib.hid (R_w.out.below hb)
  replace B_bw := Lib.hid (B_bw.out.below hb)
  replace S_c := Lib.hid (S_c.out.below hb)
  replace S_d := Lib.hid (S_d.out.below hb)
  replace B_bc := Lib.hid (B_bc.out.below hb)
  have z11 := hb.size
  replace hW := hW.trans (hb.mono hW.size)
  have y11 : w10.heap.size < w11.heap.size := hA.lt
  have B_bd : Hid (Arr w11 (w9.heap.size + 1) 26 [.slice a_d Ld.length c_d]) := Lib.hid (by have h := hA; rw [show w10.heap.size = w9.heap.size + 1 by rw [H_w10.out]; simp] at h; exact h)
  have H_w11 := Lib.hid hwb
  clear hwb hb hA
  have hy12 := addL_len Lc Ld
  have HALAW := Lib.hid (fun (h : addB Lc Ld = true) => add_law h)
  have HIN := Lib.hid (addL_in64 Lc Ld)
  obtain ⟨r, hq⟩ : ∃ r, r = addB Lc Ld := ⟨_, rfl⟩
  have HRQ : Hid (addB Lc Ld = r) := Lib.hid hq.symm
  clear hq
  have c := ci_AddOf Lc a_c c_c Ld a_d c_d w11 S_c.out S_d.out (by omega) (by omega)
  rw [HRQ.out] at c
  have hk_ba : w11.cell? ⟨w2.heap.size, 0, none⟩ = some (.slice a_a La.length c_a) := B_ba.out.cell 0
  have hk_bb : w11.cell? ⟨w2.heap.size + 1, 0, none⟩ = some (.slice a_b Lb.length c_b) := B_bb.out.cell 0
  have hk_bx : w11.cell? ⟨w5.heap.size, 0, none⟩ = some (.slice a_x (meetL La Lb).length c_x) := B_bx.out.cell 0
  have hk_bw : w11.cell? ⟨w7.heap.size, 0, none⟩ = some (.slice a_w (meetL La Lb).length c_w) := B_bw.out.cell 0
  have hk_bc : w11.cell? ⟨w9.heap.size, 0, none⟩ = some (.slice a_c Lc.length c_c) := B_bc.out.cell 0
  have hk_bd : w11.cell? ⟨w9.heap.size + 1, 0, none⟩ = some (.slice a_d Ld.length c_d) := B_bd.out.cell 0
  rw [H_w11.out] at hk_ba hk_bb hk_bx hk_bw hk_bc hk_bd
  rw [H_w10.out] at hk_ba hk_bb hk_bx hk_bw hk_bc hk_bd
  go_wp2_with fail
  rw [← H_w10.out]
  rw [← H_w11.out]
  refine c.mono ?_
  rintro e w12 ⟨v, rfl, ho, hb⟩
  clear c
  clear hk_ba hk_bb hk_bx hk_bw hk_bc hk_bd
  obtain ⟨a_y, c_y, rfl, rX⟩ := row_open ho
  clear ho
  replace S_a := Lib.hid (S_a.out.below hb)
  replace S_b := Lib.hid (S_b.out.below hb)
  replace B_ba := Lib.hid (B_ba.out.below hb)
  replace B_bb := Lib.hid (B_bb.out.below hb)
  replace R_x := Lib.hid (R_x.out.below hb)
  replace B_bx := Lib.hid (B_bx.out.below hb)
  replace R_w := Lib.hid (R_w.out.below hb)
  replace B_bw := Lib.hid (B_bw.out.below hb)
  replace S_c := Lib.hid (S_c.out.below hb)
  replace S_d := Lib.hid (S_d.out.below hb)
  replace B_bc := Lib.hid (B_bc.out.below hb)
  replace B_bd := Lib.hid (B_bd.out.below hb)
  have z12 := hb.size
  replace hW := hW.trans (hb.mono hW.size)
  have R_y := Lib.hid rX
  clear rX hb
  obtain ⟨w13, hwb⟩ : ∃ wb, wb = w12.alloc (.cells #[.slice a_y (addL Lc Ld).length c_y] 26) := ⟨_, rfl⟩
  have hb : Below w12.heap.size w12 w13 := by rw [hwb]; exact box_below _ _
  have hA : Arr w13 w12.heap.size 26 [.slice a_y (addL Lc Ld).length c_y] := by rw [hwb]; exact Arr.new _ _ _
  replace S_a := Lib.hid (S_a.out.below hb)
  replace S_b := Lib.hid (S_b.out.below hb)
  replace B_ba := Lib.hid (B_ba.out.below hb)
  replace B_bb := Lib.hid (B_bb.out.below hb)
  replace R_x := Lib.hid (R_x.out.below hb)
  replace B_bx := Lib.hid (B_bx.out.below hb)
  replace R_w := Lib.hid (R_w.out.below hb)
  replace B_bw := Lib.hid (B_bw.out.below hb)
  replace S_c := Lib.hid (S_c.out.below hb)
  replace S_d := Lib.hid (S_d.out.below hb)
  replace B_bc := Lib.hid (B_bc.out.below hb)
  replace B_bd := Lib.hid (B_bd.out.below hb)
  replace R_y := Lib.hid (R_y.out.below hb)
  have z13 := hb.size
  replace hW := hW.trans (hb.mono hW.size)
  have y13 : w12.heap.size < w13.heap.size := hA.lt
  have B_by := Lib.hid hA
  have H_w13 := Lib.hid hwb
  clear hwb hb hA
  have c := cs_AddOf Lc a_c c_c Ld a_d c_d w13 S_c.out S_d.out (by omega) (by omega)
  rw [HRQ.out] at c
  have hk_ba : w13.cell? ⟨w2.heap.size, 0, none⟩ = some (.slice a_a La.length c_a) := B_ba.out.cell 0
  have hk_bb : w13.cell? ⟨w2.heap.size + 1, 0, none⟩ = some (.slice a_b Lb.length c_b) := B_bb.out.cell 0
  have hk_bx : w13.cell? ⟨w5.heap.size, 0, none⟩ = some (.slice a_x (meetL La Lb).length c_x) := B_bx.out.cell 0
  have hk_bw : w13.cell? ⟨w7.heap.size, 0, none⟩ = some (.slice a_w (meetL La Lb).length c_w) := B_bw.out.cell 0
  have hk_bc : w13.cell? ⟨w9.heap.size, 0, none⟩ = some (.slice a_c Lc.length c_c) := B_bc.out.cell 0
  have hk_bd : w13.cell? ⟨w9.heap.size + 1, 0, none⟩ = some (.slice a_d Ld.length c_d) := B_bd.out.cell 0
  have hk_by : w13.cell? ⟨w12.heap.size, 0, none⟩ = some (.slice a_y (addL Lc Ld).length c_y) := B_by.out.cell 0
  rw [H_w13.out] at hk_ba hk_bb hk_bx hk_bw hk_bc hk_bd hk_by
  go_wp2_with fail
  rw [← H_w13.out]
  refine c.mono ?_
  rintro e w14 ⟨v, rfl, ho, hb⟩
  clear c
  clear hk_ba hk_bb hk_bx hk_bw hk_bc hk_bd hk_by
  obtain ⟨a_z, c_z, rfl, rX⟩ := row_open ho
  clear ho
  replace S_a := Lib.hid (S_a.out.below hb)
  replace S_b := Lib.hid (S_b.out.below hb)
  replace B_ba := Lib.hid (B_ba.out.below hb)
  replace B_bb := Lib.hid (B_bb.out.below hb)
  replace R_x := Lib.hid (R_x.out.below hb)
  replace B_bx := Lib.hid (B_bx.out.below hb)
  replace R_w := Lib.hid (R_w.out.below hb)
  replace B_bw := Lib.hid (B_bw.out.below hb)
  replace S_c := Lib.hid (S_c.out.below hb)
  replace S_d := Lib.hid (S_d.out.below hb)
  replace B_bc := Lib.hid (B_bc.out.below hb)
  replace B_bd := Lib.hid (B_bd.out.below hb)
  replace R_y := Lib.hid (R_y.out.below hb)
  replace B_by := Lib.hid (B_by.out.below hb)
  have z14 := hb.size
  replace hW := hW.trans (hb.mono hW.size)
  have R_z := Lib.hid rX
  clear rX hb
  obtain ⟨w15, hwb⟩ : ∃ wb, wb = w14.alloc (.cells #[.slice a_z (addL Lc Ld).length c_z] 26) := ⟨_, rfl⟩
  have hb : Below w14.heap.size w14 w15 := by rw [hwb]; exact box_below _ _
  have hA : Arr w15 w14.heap.size 26 [.slice a_z (addL Lc Ld).length c_z] := by rw [hwb]; exact Arr.new _ _ _
  replace S_a := Lib.hid (S_a.out.below hb)
  replace S_b := Lib.hid (S_b.out.below hb)
  replace B_ba := Lib.hid (B_ba.out.below hb)
  replace B_bb := Lib.hid (B_bb.out.below hb)
  replace R_x := Lib.hid (R_x.out.below hb)
  replace B_bx := Lib.hid (B_bx.out.below hb)
  replace R_w := Lib.hid (R_w.out.below hb)
  replace B_bw := Lib.hid (B_bw.out.below hb)
  replace S_c := Lib.hid (S_c.out.below hb)
  replace S_d := Lib.hid (S_d.out.below hb)
  replace B_bc := Lib.hid (B_bc.out.below hb)
  replace B_bd := Lib.hid (B_bd.out.below hb)
  replace R_y := Lib.hid (R_y.out.below hb)
  replace B_by := Lib.hid (B_by.out.below hb)
  replace R_z := Lib.hid (R_z.out.below hb)
  have z15 := hb.size
  replace hW := hW.trans (hb.mono hW.size)
  have y15 : w14.heap.size < w15.heap.size := hA.lt
  have B_bz := Lib.hid hA
  have H_w15 := Lib.hid hwb
  clear hwb hb hA
  have c := DrawIsWithin_any w15 p0 len0 cap0 z0 (HR.out.below hW) hl
  have hk_ba : w15.cell? ⟨w2.heap.size, 0, none⟩ = some (.slice a_a La.length c_a) := B_ba.out.cell 0
  have hk_bb : w15.cell? ⟨w2.heap.size + 1, 0, none⟩ = some (.slice a_b Lb.length c_b) := B_bb.out.cell 0
  have hk_bx : w15.cell? ⟨w5.heap.size, 0, none⟩ = some (.slice a_x (meetL La Lb).length c_x) := B_bx.out.cell 0
  have hk_bw : w15.cell? ⟨w7.heap.size, 0, none⟩ = some (.slice a_w (meetL La Lb).length c_w) := B_bw.out.cell 0
  have hk_bc : w15.cell? ⟨w9.heap.size, 0, none⟩ = some (.slice a_c Lc.length c_c) := B_bc.out.cell 0
  have hk_bd : w15.cell? ⟨w9.heap.size + 1, 0, none⟩ = some (.slice a_d Ld.length c_d) := B_bd.out.cell 0
  have hk_by : w15.cell? ⟨w12.heap.size, 0, none⟩ = some (.slice a_y (addL Lc Ld).length c_y) := B_by.out.cell 0
  have hk_bz : w15.cell? ⟨w14.heap.size, 0, none⟩ = some (.slice a_z (addL Lc Ld).length c_z) := B_bz.out.cell 0
  rw [H_w15.out] at hk_ba hk_bb hk_bx hk_bw hk_bc hk_bd hk_by hk_bz
  go_wp2_with fail
  rw [← H_w15.out]
  refine c.mono ?_
  rintro e w16 ⟨Le, Lf, a_e, a_f, c_e, c_f, hl_e, hl_f, hB_e, hB_f, rfl, hs, hs2, hb⟩
  clear c
  clear hk_ba hk_bb hk_bx hk_bw hk_bc hk_bd hk_by hk_bz
  replace S_a := Lib.hid (S_a.out.below hb)
  replace S_b := Lib.hid (S_b.out.below hb)
  replace B_ba := Lib.hid (B_ba.out.below hb)
  replace B_bb := Lib.hid (B_bb.out.below hb)
  replace R_x := Lib.hid (R_x.out.below hb)
  replace B_bx := Lib.hid (B_bx.out.below hb)
  replace R_w := Lib.hid (R_w.out.below hb)
  replace B_bw := Lib.hid (B_bw.out.below hb)
  replace S_c := Lib.hid (S_c.out.below hb)
  replace S_d := Lib.hid (S_d.out.below hb)
  replace B_bc := Lib.hid (B_bc.out.below hb)
  replace B_bd := Lib.hid (B_bd.out.below hb)
  replace R_y := Lib.hid (R_y.out.below hb)
  replace B_by := Lib.hid (B_by.out.below hb)
  replace R_z := Lib.hid (R_z.out.below hb)
  replace B_bz := Lib.hid (B_bz.out.below hb)
  have z16 := hb.size
  replace hW := hW.trans (hb.mono hW.size)
  have S_e := Lib.hid hs
  have S_f := Lib.hid hs2
  clear hs hs2 hb hB_e hB_f
  obtain ⟨w17, hwb⟩ : ∃ wb, wb = w16.alloc (.cells #[.slice a_e Le.length c_e] 26) := ⟨_, rfl⟩
  have hb : Below w16.heap.size w16 w17 := by rw [hwb]; exact box_below _ _
  have hA : Arr w17 w16.heap.size 26 [.slice a_e Le.length c_e] := by rw [hwb]; exact Arr.new _ _ _
  replace S_a := Lib.hid (S_a.out.below hb)
  replace S_b := Lib.hid (S_b.out.below hb)
  replace B_ba := Lib.hid (B_ba.out.below hb)
  replace B_bb := Lib.hid (B_bb.out.below hb)
  replace R_x := Lib.hid (R_x.out.below hb)
  replace B_bx := Lib.hid (B_bx.out.below hb)
  replace R_w := Lib.hid (R_w.out.below hb)
  replace B_bw := Lib.hid (B_bw.out.below hb)
  replace S_c := Lib.hid (S_c.out.below hb)
  replace S_d := Lib.hid (S_d.out.below hb)
  replace B_bc := Lib.hid (B_bc.out.below hb)
  replace B_bd := Lib.hid (B_bd.out.below hb)
  replace R_y := Lib.hid (R_y.out.below hb)
  replace B_by := Lib.hid (B_by.out.below hb)
  replace R_z := Lib.hid (R_z.out.below hb)
  replace B_bz := Lib.hid (B_bz.out.below hb)
  replace S_e := Lib.hid (S_e.out.below hb)
  replace S_f := Lib.hid (S_f.out.below hb)
  have z17 := hb.size
  replace hW := hW.trans (hb.mono hW.size)
  have y17 : w16.heap.size < w17.heap.size := hA.lt
  have B_be := Lib.hid hA
  have H_w17 := Lib.hid hwb
  clear hwb hb hA
  obtain ⟨w18, hwb⟩ : ∃ wb, wb = w17.alloc (.cells #[.slice a_f Lf.length c_f] 26) := ⟨_, rfl⟩
  have hb : Below w17.heap.size w17 w18 := by rw [hwb]; exact box_below _ _
  have hA : Arr w18 w17.heap.size 26 [.slice a_f Lf.length c_f] := by rw [hwb]; exact Arr.new _ _ _
  replace S_a := Lib.hid (S_a.out.below hb)
  replace S_b := Lib.hid (S_b.out.below hb)
  replace B_ba := Lib.hid (B_ba.out.below hb)
  replace B_bb := Lib.hid (B_bb.out.below hb)
  replace R_x := Lib.hid (R_x.out.below hb)
  replace B_bx := Lib.hid (B_bx.out.below hb)
  replace R_w := Lib.hid (R_w.out.below hb)
  replace B_bw := Lib.hid (B_bw.out.below hb)
  replace S_c := Lib.hid (S_c.out.below hb)
  replace S_d := Lib.hid (S_d.out.below hb)
  replace B_bc := Lib.hid (B_bc.out.below hb)
  replace B_bd := Lib.hid (B_bd.out.below hb)
  replace R_y := Lib.hid (R_y.out.below hb)
  replace B_by := Lib.hid (B_by.out.below hb)
  replace R_z := Lib.hid (R_z.out.below hb)
  replace B_bz := Lib.hid (B_bz.out.below hb)
  replace S_e := Lib.hid (S_e.out.below hb)
  replace S_f := Lib.hid (S_f.out.below hb)
  replace B_be := Lib.hid (B_be.out.below hb)
  have z18 := hb.size
  replace hW := hW.trans (hb.mono hW.size)
  have y18 : w17.heap.size < w18.heap.size := hA.lt
  have B_bf : Hid (Arr w18 (w16.heap.size + 1) 26 [.slice a_f Lf.length c_f]) := Lib.hid (by have h := hA; rw [show w17.heap.size = w16.heap.size + 1 by rw [H_w17.out]; simp] at h; exact h)
  have H_w18 := Lib.hid hwb
  clear hwb hb hA
  obtain ⟨t, hq⟩ : ∃ t, t = withinB Le Lf := ⟨_, rfl⟩
  have HT : Hid (withinB Le Lf = t) := Lib.hid hq.symm
  clear hq
  have hl_bx : w5.heap.size < w18.heap.size := B_bx.out.lt
  have hl_bw : w7.heap.size < w18.heap.size := B_bw.out.lt
  have hl_by : w12.heap.size < w18.heap.size := B_by.out.lt
  have hl_bz : w14.heap.size < w18.heap.size := B_bz.out.lt
  have hl_be : w16.heap.size < w18.heap.size := B_be.out.lt
  have hl_bf : w16.heap.size + 1 < w18.heap.size := B_bf.out.lt
  have HK : Hid (∀ w', Below w18.heap.size w18 w' → w'.cell? ⟨w5.heap.size, 0, none⟩ = some (.slice a_x (meetL La Lb).length c_x) ∧ w'.cell? ⟨w7.heap.size, 0, none⟩ = some (.slice a_w (meetL La Lb).length c_w) ∧ w'.cell? ⟨w12.heap.size, 0, none⟩ = some (.slice a_y (addL Lc Ld).length c_y) ∧ w'.cell? ⟨w14.heap.size, 0, none⟩ = some (.slice a_z (addL Lc Ld).length c_z) ∧ w'.cell? ⟨w16.heap.size, 0, none⟩ = some (.slice a_e Le.length c_e) ∧ w'.cell? ⟨w16.heap.size + 1, 0, none⟩ = some (.slice a_f Lf.length c_f) ∧ Below w18.heap.size w18 w') := Lib.hid fun w' h => ⟨(h.cell (p := ⟨w5.heap.size, 0, none⟩) hl_bx).trans (B_bx.out.cell 0), (h.cell (p := ⟨w7.heap.size, 0, none⟩) hl_bw).trans (B_bw.out.cell 0), (h.cell (p := ⟨w12.heap.size, 0, none⟩) hl_by).trans (B_by.out.cell 0), (h.cell (p := ⟨w14.heap.size, 0, none⟩) hl_bz).trans (B_bz.out.cell 0), (h.cell (p := ⟨w16.heap.size, 0, none⟩) hl_be).trans (B_be.out.cell 0), (h.cell (p := ⟨w16.heap.size + 1, 0, none⟩) hl_bf).trans (B_bf.out.cell 0), h⟩
  have hS0 : Hid (w18.drew.cell? ⟨w5.heap.size, 0, none⟩ = some (.slice a_x (meetL La Lb).length c_x) ∧ w18.drew.cell? ⟨w7.heap.size, 0, none⟩ = some (.slice a_w (meetL La Lb).length c_w) ∧ w18.drew.cell? ⟨w12.heap.size, 0, none⟩ = some (.slice a_y (addL Lc Ld).length c_y) ∧ w18.drew.cell? ⟨w14.heap.size, 0, none⟩ = some (.slice a_z (addL Lc Ld).length c_z) ∧ w18.drew.cell? ⟨w16.heap.size, 0, none⟩ = some (.slice a_e Le.length c_e) ∧ w18.drew.cell? ⟨w16.heap.size + 1, 0, none⟩ = some (.slice a_f Lf.length c_f) ∧ Below w18.heap.size w18 w18.drew) := Lib.hid (HK.out _ (Below.refl w18.heap.size w18).drew)
  have hk_ba : w18.cell? ⟨w2.heap.size, 0, none⟩ = some (.slice a_a La.length c_a) := B_ba.out.cell 0
  have hk_bb : w18.cell? ⟨w2.heap.size + 1, 0, none⟩ = some (.slice a_b Lb.length c_b) := B_bb.out.cell 0
  have hk_bx : w18.cell? ⟨w5.heap.size, 0, none⟩ = some (.slice a_x (meetL La Lb).length c_x) := B_bx.out.cell 0
  have hk_bw : w18.cell? ⟨w7.heap.size, 0, none⟩ = some (.slice a_w (meetL La Lb).length c_w) := B_bw.out.cell 0
  have hk_bc : w18.cell? ⟨w9.heap.size, 0, none⟩ = some (.slice a_c Lc.length c_c) := B_bc.out.cell 0
  have hk_bd : w18.cell? ⟨w9.heap.size + 1, 0, none⟩ = some (.slice a_d Ld.length c_d) := B_bd.out.cell 0
  have hk_by : w18.cell? ⟨w12.heap.size, 0, none⟩ = some (.slice a_y (addL Lc Ld).length c_y) := B_by.out.cell 0
  have hk_bz : w18.cell? ⟨w14.heap.size, 0, none⟩ = some (.slice a_z (addL Lc Ld).length c_z) := B_bz.out.cell 0
  have hk_be : w18.cell? ⟨w16.heap.size, 0, none⟩ = some (.slice a_e Le.length c_e) := B_be.out.cell 0
  have hk_bf : w18.cell? ⟨w16.heap.size + 1, 0, none⟩ = some (.slice a_f Lf.length c_f) := B_bf.out.cell 0
  rw [H_w18.out] at hk_ba hk_bb hk_bx hk_bw hk_bc hk_bd hk_by hk_bz hk_be hk_bf
  rw [H_w17.out] at hk_ba hk_bb hk_bx hk_bw hk_bc hk_bd hk_by hk_bz hk_be hk_bf
  go_wp2_with fail
  rw [← H_w17.out]
  rw [← H_w18.out]
  clear hk_ba hk_bb hk_bx hk_bw hk_bc hk_bd hk_by hk_bz hk_be hk_bf
  have hqq : (q != q) = false := by cases q <;> rfl
  have hrr : (r != r) = false := by cases r <;> rfl
  have htt : (t != t) = false := by cases t <;> rfl
  refine wp_region_held_drew (S := fun w' => w'.cell? ⟨w5.heap.size, 0, none⟩ = some (.slice a_x (meetL La Lb).length c_x) ∧ w'.cell? ⟨w7.heap.size, 0, none⟩ = some (.slice a_w (meetL La Lb).length c_w) ∧ w'.cell? ⟨w12.heap.size, 0, none⟩ = some (.slice a_y (addL Lc Ld).length c_y) ∧ w'.cell? ⟨w14.heap.size, 0, none⟩ = some (.slice a_z (addL Lc Ld).length c_z) ∧ w'.cell? ⟨w16.heap.size, 0, none⟩ = some (.slice a_e Le.length c_e) ∧ w'.cell? ⟨w16.heap.size + 1, 0, none⟩ = some (.slice a_f Lf.length c_f) ∧ Below w18.heap.size w18 w') (by kernel_rfl) hS0.out (fun hHeld => ?_)
  refine held_take 0 _ _ rfl (by kernel_rfl) (by kernel_rfl) (by kernel_rfl) (fun _ _ _ h => h) (by rfl) hHeld (fun w hSw => by (try dsimp only at hSw); go_simp; try with_reducible rfl) ?_
  (try simp only [Act.put, List.setIfInBounds_toArray, List.set_cons_zero, List.set_cons_succ, List.getElem_toArray, List.getElem_cons_zero])
  refine held_take 1 _ _ rfl (by kernel_rfl) (by kernel_rfl) (by kernel_rfl) (fun _ _ _ h => h) (by rfl) hHeld (fun w hSw => by (try dsimp only at hSw); go_simp; try with_reducible rfl) ?_
  (try simp only [Act.put, List.setIfInBounds_toArray, List.set_cons_zero, List.set_cons_succ, List.getElem_toArray, List.getElem_cons_succ, List.getElem_cons_zero])
  refine held_take 2 _ _ rfl (by kernel_rfl) (by kernel_rfl) (by kernel_rfl) (fun _ _ _ h => h) (by rfl) hHeld (fun w hSw => by (try dsimp only at hSw); go_simp; try with_reducible rfl) ?_
  (try simp only [Act.put, List.setIfInBounds_toArray, List.set_cons_zero, List.set_cons_succ, List.getElem_toArray, List.getElem_cons_succ, List.getElem_cons_zero])
  refine held_take 3 _ _ rfl (by kernel_rfl) (by kernel_rfl) (by kernel_rfl) (fun _ _ _ h => h) (by rfl) hHeld (fun w hSw => by (try dsimp only at hSw); go_simp; try with_reducible rfl) ?_
  (try simp only [Act.put, List.setIfInBounds_toArray, List.set_cons_zero, List.set_cons_succ, List.getElem_toArray, List.getElem_cons_succ, List.getElem_cons_zero])
  refine held_take 4 _ _ rfl (by kernel_rfl) (by kernel_rfl) (by kernel_rfl) (fun _ _ _ h => h) (by rfl) hHeld (fun w hSw => by (try dsimp only at hSw); go_simp; try with_reducible rfl) ?_
  (try simp only [Act.put, List.setIfInBounds_toArray, List.set_cons_zero, List.set_cons_succ, List.getElem_toArray, List.getElem_cons_succ, List.getElem_cons_zero])
  refine held_take 5 _ _ rfl (by kernel_rfl) (by kernel_rfl) (by kernel_rfl) (fun _ _ _ h => h) (by rfl) hHeld (fun w hSw => by (try dsimp only at hSw); go_simp; try with_reducible rfl) ?_
  (try simp only [Act.put, List.setIfInBounds_toArray, List.set_cons_zero, List.set_cons_succ, List.getElem_toArray, List.getElem_cons_succ, List.getElem_cons_zero])
  refine wpAnyH_ready (rs := [6]) (by kernel_rfl) (by simp) ?_
  refine AllReadyH.cons rfl (fun K hK => ?_) AllReadyH.nil
  rw [if_pos (by rfl)]
  go_wp2_with (first | (go_at_call 15; have c := spec_EqualSemigroup (meetL La Lb) (meetL La Lb) a_x a_w c_x c_w _ (R_x.out.slv.below (hHeld).2.2.2.2.2.2) (R_w.out.slv.below (hHeld).2.2.2.2.2.2) (by omega) (by omega); rw [decide_eq_true (rfl : meetL La Lb = meetL La Lb)] at c; (with_reducible refine c.mono ?_); rintro e wk ⟨rfl, hbk⟩; clear c))
  refine hK.out _ _ (HK.out _ ((hHeld).2.2.2.2.2.2.trans (hbk.mono (hHeld).2.2.2.2.2.2.size))) (fun hHeld1 => ?_)
  clear hK K
  (try simp only [Act.put, List.setIfInBounds_toArray, List.set_cons_zero, List.set_cons_succ, List.getElem_toArray, List.getElem_cons_succ, List.getElem_cons_zero])
  refine held_take 7 _ _ rfl (by kernel_rfl) (by kernel_rfl) (by kernel_rfl) (fun _ _ _ h => h) (by rfl) hHeld1 (fun w hSw => by (try dsimp only at hSw); go_simp; try with_reducible rfl) ?_
  (try simp only [Act.put, List.setIfInBounds_toArray, List.set_cons_zero, List.set_cons_succ, List.getElem_toArray, List.getElem_cons_succ, List.getElem_cons_zero])
  refine held_take 8 _ _ rfl (by kernel_rfl) (by kernel_rfl) (by kernel_rfl) (fun _ _ _ h => h) (by rfl) hHeld1 (fun w hSw => by (try dsimp only at hSw); go_simp; try with_reducible rfl) ?_
  (try simp only [Act.put, List.setIfInBounds_toArray, List.set_cons_zero, List.set_cons_succ, List.getElem_toArray, List.getElem_cons_succ, List.getElem_cons_zero])
  refine held_take 9 _ _ rfl (by kernel_rfl) (by kernel_rfl) (by kernel_rfl) (fun _ _ _ h => h) (by rfl) hHeld1 (fun w hSw => by (try dsimp only at hSw); go_simp; try with_reducible rfl) ?_
  (try simp only [Act.put, List.setIfInBounds_toArray, List.set_cons_zero, List.set_cons_succ, List.getElem_toArray, List.getElem_cons_succ, List.getElem_cons_zero])
  refine held_take 10 _ _ rfl (by kernel_rfl) (by kernel_rfl) (by kernel_rfl) (fun _ _ _ h => h) (by rfl) hHeld1 (fun w hSw => by (try dsimp only at hSw); go_simp; try with_reducible rfl) ?_
  (try simp only [Act.put, List.setIfInBounds_toArray, List.set_cons_zero, List.set_cons_succ, List.getElem_toArray, List.getElem_cons_succ, List.getElem_cons_zero])
  refine held_take 11 _ _ rfl (by kernel_rfl) (by kernel_rfl) (by kernel_rfl) (fun _ _ _ h => h) (by rfl) hHeld1 (fun w hSw => by (try dsimp only at hSw); go_simp; try with_reducible rfl) ?_
  (try simp only [Act.put, List.setIfInBounds_toArray, List.set_cons_zero, List.set_cons_succ, List.getElem_toArray, List.getElem_cons_succ, List.getElem_cons_zero])
  refine held_take 12 _ _ rfl (by kernel_rfl) (by kernel_rfl) (by kernel_rfl) (fun _ _ _ h => h) (by rfl) hHeld1 (fun w hSw => by (try dsimp only at hSw); go_simp; try with_reducible rfl) ?_
  (try simp only [Act.put, List.setIfInBounds_toArray, List.set_cons_zero, List.set_cons_succ, List.getElem_toArray, List.getElem_cons_succ, List.getElem_cons_zero])
  refine held_take 13 _ _ rfl (by kernel_rfl) (by kernel_rfl) (by kernel_rfl) (fun _ _ _ h => h) (by rfl) hHeld1 (fun w hSw => by (try dsimp only at hSw); go_simp; try with_reducible rfl) ?_
  (try simp only [Act.put, List.setIfInBounds_toArray, List.set_cons_zero, List.set_cons_succ, List.getElem_toArray, List.getElem_cons_succ, List.getElem_cons_zero])
  refine held_take 14 _ _ rfl (by kernel_rfl) (by kernel_rfl) (by kernel_rfl) (fun _ _ _ h => h) (by rfl) hHeld1 (fun w hSw => by (try dsimp only at hSw); go_simp; try with_reducible rfl) ?_
  (try simp only [Act.put, List.setIfInBounds_toArray, List.set_cons_zero, List.set_cons_succ, List.getElem_toArray, List.getElem_cons_succ, List.getElem_cons_zero])
  refine held_take 15 _ _ rfl (by kernel_rfl) (by kernel_rfl) (by kernel_rfl) (fun _ _ _ h => h) (by rfl) hHeld1 (fun w hSw => by (try dsimp only at hSw); go_simp; try with_reducible rfl) ?_
  (try simp only [Act.put, List.setIfInBounds_toArray, List.set_cons_zero, List.set_cons_succ, List.getElem_toArray, List.getElem_cons_succ, List.getElem_cons_zero])
  refine held_take 16 _ _ rfl (by kernel_rfl) (by kernel_rfl) (by kernel_rfl) (fun _ _ _ h => h) (by rfl) hHeld1 (fun w hSw => by (try dsimp only at hSw); go_simp; try with_reducible rfl) ?_
  (try simp only [Act.put, List.setIfInBounds_toArray, List.set_cons_zero, List.set_cons_succ, List.getElem_toArray, List.getElem_cons_succ, List.getElem_cons_zero])
  refine wpAnyH_ready (rs := [17]) (by kernel_rfl) (by simp) ?_
  refine AllReadyH.cons rfl (fun K hK => ?_) AllReadyH.nil
  rw [if_pos (by rfl)]
  go_wp2_with (first | (go_at_call 15; have c := spec_EqualSemigroup (addL Lc Ld) (addL Lc Ld) a_y a_z c_y c_z _ (R_y.out.slv.below (hHeld1).2.2.2.2.2.2) (R_z.out.slv.below (hHeld1).2.2.2.2.2.2) (by omega) (by omega); rw [decide_eq_true (rfl : addL Lc Ld = addL Lc Ld)] at c; (with_reducible refine c.mono ?_); rintro e wk ⟨rfl, hbk⟩; clear c))
  refine hK.out _ _ (HK.out _ ((hHeld1).2.2.2.2.2.2.trans (hbk.mono (hHeld1).2.2.2.2.2.2.size))) (fun hHeld2 => ?_)
  clear hK K
  (try simp only [Act.put, List.setIfInBounds_toArray, List.set_cons_zero, List.set_cons_succ, List.getElem_toArray, List.getElem_cons_succ, List.getElem_cons_zero])
  refine held_take 18 _ _ rfl (by kernel_rfl) (by kernel_rfl) (by kernel_rfl) (fun _ _ _ h => h) (by rfl) hHeld2 (fun w hSw => by (try dsimp only at hSw); go_simp; try with_reducible rfl) ?_
  (try simp only [Act.put, List.setIfInBounds_toArray, List.set_cons_zero, List.set_cons_succ, List.getElem_toArray, List.getElem_cons_succ, List.getElem_cons_zero])
  refine held_take 19 _ _ rfl (by kernel_rfl) (by kernel_rfl) (by kernel_rfl) (fun _ _ _ h => h) (by rfl) hHeld2 (fun w hSw => by (try dsimp only at hSw); go_simp; try with_reducible rfl) ?_
  (try simp only [Act.put, List.setIfInBounds_toArray, List.set_cons_zero, List.set_cons_succ, List.getElem_toArray, List.getElem_cons_succ, List.getElem_cons_zero])
  refine held_take 20 _ _ rfl (by kernel_rfl) (by kernel_rfl) (by kernel_rfl) (fun _ _ _ h => h) (by rfl) hHeld2 (fun w hSw => by (try dsimp only at hSw); go_simp; try with_reducible rfl) ?_
  (try simp only [Act.put, List.setIfInBounds_toArray, List.set_cons_zero, List.set_cons_succ, List.getElem_toArray, List.getElem_cons_succ, List.getElem_cons_zero])
  refine held_take 21 _ _ rfl (by kernel_rfl) (by kernel_rfl) (by kernel_rfl) (fun _ _ _ h => h) (by rfl) hHeld2 (fun w hSw => by (try dsimp only at hSw); go_simp; try with_reducible rfl) ?_
  (try simp only [Act.put, List.setIfInBounds_toArray, List.set_cons_zero, List.set_cons_succ, List.getElem_toArray, List.getElem_cons_succ, List.getElem_cons_zero])
  refine held_take 22 _ _ rfl (by kernel_rfl) (by kernel_rfl) (by kernel_rfl) (fun _ _ _ h => h) (by rfl) hHeld2 (fun w hSw => by (try dsimp only at hSw); go_simp; try with_reducible rfl) ?_
  (try simp only [Act.put, List.setIfInBounds_toArray, List.set_cons_zero, List.set_cons_succ, List.getElem_toArray, List.getElem_cons_succ, List.getElem_cons_zero])
  refine held_take 24 _ _ rfl (by kernel_rfl) (by kernel_rfl) (by kernel_rfl) (fun _ _ _ h => h) (by rfl) hHeld2 (fun w hSw => by (try dsimp only at hSw); go_simp; try with_reducible rfl) ?_
  (try simp only [Act.put, List.setIfInBounds_toArray, List.set_cons_zero, List.set_cons_succ, List.getElem_toArray, List.getElem_cons_succ, List.getElem_cons_zero])
  refine held_take 25 _ _ rfl (by kernel_rfl) (by kernel_rfl) (by kernel_rfl) (fun _ _ _ h => h) (by rfl) hHeld2 (fun w hSw => by (try dsimp only at hSw); go_simp; try with_reducible rfl) ?_
  (try simp only [Act.put, List.setIfInBounds_toArray, List.set_cons_zero, List.set_cons_succ, List.getElem_toArray, List.getElem_cons_succ, List.getElem_cons_zero])
  refine wpAnyH_ready (rs := [23]) (by kernel_rfl) (by simp) ?_
  refine AllReadyH.cons rfl (fun K hK => ?_) AllReadyH.nil
  rw [if_pos (by rfl)]
  go_wp2_with (first | (go_at_call 28; have c := ci_IsWithin Le a_e c_e Lf a_f c_f _ (S_e.out.below (hHeld2).2.2.2.2.2.2) (S_f.out.below (hHeld2).2.2.2.2.2.2) (by omega) (by omega); rw [HT.out] at c; (with_reducible refine c.mono ?_); rintro e wk ⟨rfl, hbk⟩; clear c))
  refine hK.out _ _ (HK.out _ ((hHeld2).2.2.2.2.2.2.trans (hbk.mono (hHeld2).2.2.2.2.2.2.size))) (fun hHeld3 => ?_)
  clear hK K
  (try simp only [Act.put, List.setIfInBounds_toArray, List.set_cons_zero, List.set_cons_succ, List.getElem_toArray, List.getElem_cons_succ, List.getElem_cons_zero])
  refine wpAnyH_ready (rs := [26]) (by kernel_rfl) (by simp) ?_
  refine AllReadyH.cons rfl (fun K hK => ?_) AllReadyH.nil
  rw [if_pos (by rfl)]
  go_wp2_with (first | (go_at_call 29; have c := cs_IsWithin Le a_e c_e Lf a_f c_f _ (S_e.out.below (hHeld3).2.2.2.2.2.2) (S_f.out.below (hHeld3).2.2.2.2.2.2) (by omega) (by omega); rw [HT.out] at c; (with_reducible refine c.mono ?_); rintro e wk ⟨rfl, hbk⟩; clear c))
  refine hK.out _ _ (HK.out _ ((hHeld3).2.2.2.2.2.2.trans (hbk.mono (hHeld3).2.2.2.2.2.2.size))) (fun hHeld4 => ?_)
  clear hK K
  (try simp only [Act.put, List.setIfInBounds_toArray, List.set_cons_zero, List.set_cons_succ, List.getElem_toArray, List.getElem_cons_succ, List.getElem_cons_zero])
  refine held_take 27 _ _ rfl (by kernel_rfl) (by kernel_rfl) (by kernel_rfl) (fun _ _ _ h => h) (by rfl) hHeld4 (fun w hSw => by (try dsimp only at hSw); go_simp; try with_reducible rfl) ?_
  (try simp only [Act.put, List.setIfInBounds_toArray, List.set_cons_zero, List.set_cons_succ, List.getElem_toArray, List.getElem_cons_succ, List.getElem_cons_zero])
  refine held_take 28 _ _ rfl (by kernel_rfl) (by kernel_rfl) (by kernel_rfl) (fun _ _ _ h => h) (by rfl) hHeld4 (fun w hSw => by (try dsimp only at hSw); go_simp; try with_reducible rfl) ?_
  (try simp only [Act.put, List.setIfInBounds_toArray, List.set_cons_zero, List.set_cons_succ, List.getElem_toArray, List.getElem_cons_succ, List.getElem_cons_zero])
  refine wpAnyH_done (by kernel_rfl) ?_ _
  have hB9 := (hHeld4).2.2.2.2.2.2
  clear hS0 HK hHeld4 hqq hrr htt HT
  rename World => wq
  have hb := hB9
  replace S_a := Lib.hid (S_a.out.below hb)
  replace S_b := Lib.hid (S_b.out.below hb)
  replace B_ba := Lib.hid (B_ba.out.below hb)
  replace B_bb := Lib.hid (B_bb.out.below hb)
  replace R_x := Lib.hid (R_x.out.below hb)
  replace B_bx := Lib.hid (B_bx.out.below hb)
  replace R_w := Lib.hid (R_w.out.below hb)
  replace B_bw := Lib.hid (B_bw.out.below hb)
  replace S_c := Lib.hid (S_c.out.below hb)
  replace S_d := Lib.hid (S_d.out.below hb)
  replace B_bc := Lib.hid (B_bc.out.below hb)
  replace B_bd := Lib.hid (B_bd.out.below hb)
  replace R_y := Lib.hid (R_y.out.below hb)
  replace B_by := Lib.hid (B_by.out.below hb)
  replace R_z := Lib.hid (R_z.out.below hb)
  replace B_bz := Lib.hid (B_bz.out.below hb)
  replace S_e := Lib.hid (S_e.out.below hb)
  replace S_f := Lib.hid (S_f.out.below hb)
  replace B_be := Lib.hid (B_be.out.below hb)
  replace B_bf := Lib.hid (B_bf.out.below hb)
  have z19 := hb.size
  replace hW := hW.trans (hb.mono hW.size)
  clear hb hB9 hl_bx hl_bw hl_by hl_bz hl_be hl_bf
  clear R_w
  clear R_z
  clear S_e
  clear S_f
  clear B_bw
  clear B_bz
  clear B_be
  clear B_bf
  have hl_ba : w2.heap.size < wq.heap.size := B_ba.out.lt
  have HC_ba := Lib.hid (B_ba.out.cell 0)
  have hl_bb : w2.heap.size + 1 < wq.heap.size := B_bb.out.lt
  have HC_bb := Lib.hid (B_bb.out.cell 0)
  have hl_bx : w5.heap.size < wq.heap.size := B_bx.out.lt
  have HC_bx := Lib.hid (B_bx.out.cell 0)
  have hl_bc : w9.heap.size < wq.heap.size := B_bc.out.lt
  have HC_bc := Lib.hid (B_bc.out.cell 0)
  have hl_bd : w9.heap.size + 1 < wq.heap.size := B_bd.out.lt
  have HC_bd := Lib.hid (B_bd.out.cell 0)
  have hl_by : w12.heap.size < wq.heap.size := B_by.out.lt
  have HC_by := Lib.hid (B_by.out.cell 0)
  have hWz := hW.size
  clear B_ba B_bb B_bx B_bc B_bd B_by HR hl
  cases q
  · clear HLAW HQ R_x
    go_wp2_with fail
    go_loopw [17] (fun i wr => i = .int .i64 0 ∧ Below wq.heap.size wq wr) (fun _ _ => 0)
    case atStart => exact ⟨rfl, Below.refl _ _⟩
    case round =>
      rename World => wr
      obtain ⟨rfl, hbel⟩ := hrel
      cases r
      · have hcy := ((hbel).cell (p := ⟨w12.heap.size, 0, none⟩) hl_by).trans HC_by.out
        go_wp2_with fail
        go_loopw [18] (fun i wv => i = .int .i64 0 ∧ Below wq.heap.size wq wv) (fun _ _ => 0)
        case atStart => exact ⟨rfl, hbel⟩
        case round =>
          rename World => wv
          obtain ⟨rfl, hb2⟩ := hrel
          have hcy2 := ((hb2).cell (p := ⟨w12.heap.size, 0, none⟩) hl_by).trans HC_by.out
          have hW3 := hW.trans (hb2.mono hWz)
          by_cases hz : (0 : Int) < ((addL Lc Ld).length : Int)
          · have hzd := decide_eq_true hz
            go_wp2_with fail
            go_ret
            exact ⟨rfl, hW3⟩
          · have hzd := decide_eq_false hz
            go_wp2_with fail
            go_ret
            exact ⟨rfl, hW3⟩
      · obtain ⟨hmb, hwc, hwd⟩ := HALAW.out HRQ.out
        have HMB := Lib.hid hmb
        have HWC := Lib.hid hwc
        have HWD := Lib.hid hwd
        clear hmb hwc hwd HALAW HRQ
        go_wp2_with fail
        go_loopw [18] (fun i wv => ∃ j : Nat, j ≤ (addL Lc Ld).length ∧ i = .int .i64 (j : Int) ∧ Below wq.heap.size wq wv) (fun i _ => (addL Lc Ld).length - (intOf i).toNat)
        case atStart => exact ⟨0, Nat.zero_le _, rfl, hbel⟩
        case round =>
          rename World => wv
          obtain ⟨j, hj, rfl, hb2⟩ := hrel
          have hbz2 := hb2.size
          have hcy := ((hb2).cell (p := ⟨w12.heap.size, 0, none⟩) hl_by).trans HC_by.out
          by_cases hjl : j < (addL Lc Ld).length
          · have hjli : (j : Int) < ((addL Lc Ld).length : Int) := by omega
            have hjd := decide_eq_true hjli
            have hj0 : (0 : Int) ≤ (j : Int) := by omega
            obtain ⟨b, off, hay, hbs, hcl⟩ := R_y.out.slv.open (by intro h; rw [List.map_eq_nil_iff] at h; rw [h] at hjl; simp at hjl)
            have HCL := Lib.hid hcl
            have hmm := HMB.out _ (List.getElem_mem hjl)
            have HE : Hid ((addL Lc Ld)[j] = (addL Lc Ld)[j]) := Lib.hid rfl
            clear hcl
            subst hay
            have HK : Hid (∀ w', Below wv.heap.size wv w' → w'.cell? ⟨w9.heap.size, 0, none⟩ = some (.slice a_c Lc.length c_c) ∧ w'.cell? ⟨w9.heap.size + 1, 0, none⟩ = some (.slice a_d Ld.length c_d) ∧ w'.cell? ⟨w12.heap.size, 0, none⟩ = some (.slice (some ⟨b, off, none⟩) (addL Lc Ld).length c_y) ∧ w'.cell? ⟨b, off + j, none⟩ = some (.int .i64 (addL Lc Ld)[j]) ∧ Below wv.heap.size wv w') := Lib.hid fun w' h => ⟨((hb2.trans (h.mono hbz2)).cell (p := ⟨w9.heap.size, 0, none⟩) hl_bc).trans HC_bc.out, ((hb2.trans (h.mono hbz2)).cell (p := ⟨w9.heap.size + 1, 0, none⟩) hl_bd).trans HC_bd.out, ((hb2.trans (h.mono hbz2)).cell (p := ⟨w12.heap.size, 0, none⟩) hl_by).trans HC_by.out, ((hb2.trans (h.mono hbz2)).cell (p := ⟨b, off + j, none⟩) hbs).trans (HCL.out j _ (by simp [hjl])), h⟩
            have hS0 := HK.out _ (Below.refl wv.heap.size wv).drew
            generalize (addL Lc Ld)[j] = y at *
            clear HE
            have c1 := fun w' (h : Below wv.heap.size wv w') => spec_HasNumber Lc y a_c c_c w' (S_c.out.sl.below (hb2.trans (h.mono hbz2))) (by unfold maxLen; omega)
            have c2 := fun w' (h : Below wv.heap.size wv w') => spec_HasNumber Ld y a_d c_d w' (S_d.out.sl.below (hb2.trans (h.mono hbz2))) (by unfold maxLen; omega)
            by_cases hyc : y ∈ Lc
            · rw [show hasB Lc y = true from decide_eq_true hyc] at c1
              go_wp2_with fail
              refine wp_region_held_drew (S := fun w' => w'.cell? ⟨w9.heap.size, 0, none⟩ = some (.slice a_c Lc.length c_c) ∧ w'.cell? ⟨w9.heap.size + 1, 0, none⟩ = some (.slice a_d Ld.length c_d) ∧ w'.cell? ⟨w12.heap.size, 0, none⟩ = some (.slice (some ⟨b, off, none⟩) (addL Lc Ld).length c_y) ∧ w'.cell? ⟨b, off + j, none⟩ = some (.int .i64 y) ∧ Below wv.heap.size wv w') (by kernel_rfl) hS0 (fun hHeld => ?_)
              refine held_take 0 _ _ rfl (by kernel_rfl) (by kernel_rfl) (by kernel_rfl) (fun _ _ _ h => h) (by rfl) hHeld (fun w hSw => by (try dsimp only at hSw); go_simp; try with_reducible rfl) ?_
              (try simp only [Act.put, List.setIfInBounds_toArray, List.set_cons_zero, List.set_cons_succ, List.getElem_toArray, List.getElem_cons_zero])
              refine held_take 1 _ _ rfl (by kernel_rfl) (by kernel_rfl) (by kernel_rfl) (fun _ _ _ h => h) (by rfl) hHeld (fun w hSw => by (try dsimp only at hSw); go_simp; try with_reducible rfl) ?_
              (try simp only [Act.put, List.setIfInBounds_toArray, List.set_cons_zero, List.set_cons_succ, List.getElem_toArray, List.getElem_cons_succ, List.getElem_cons_zero])
              refine held_take 2 _ _ rfl (by kernel_rfl) (by kernel_rfl) (by kernel_rfl) (fun _ _ _ h => h) (by rfl) hHeld (fun w hSw => by (try dsimp only at hSw); go_simp; try with_reducible rfl) ?_
              (try simp only [Act.put, List.setIfInBounds_toArray, List.set_cons_zero, List.set_cons_succ, List.getElem_toArray, List.getElem_cons_succ, List.getElem_cons_zero])
              refine held_take 3 _ _ rfl (by kernel_rfl) (by kernel_rfl) (by kernel_rfl) (fun _ _ _ h => h) (by rfl) hHeld (fun w hSw => by (try dsimp only at hSw); go_simp; try with_reducible rfl) ?_
              (try simp only [Act.put, List.setIfInBounds_toArray, List.set_cons_zero, List.set_cons_succ, List.getElem_toArray, List.getElem_cons_succ, List.getElem_cons_zero])
              refine held_take 4 _ _ rfl (by kernel_rfl) (by kernel_rfl) (by kernel_rfl) (fun _ _ _ h => h) (by rfl) hHeld (fun w hSw => by (try dsimp only at hSw); go_simp; try with_reducible rfl) ?_
              (try simp only [Act.put, List.setIfInBounds_toArray, List.set_cons_zero, List.set_cons_succ, List.getElem_toArray, List.getElem_cons_succ, List.getElem_cons_zero])
              refine held_take 5 _ _ rfl (by kernel_rfl) (by kernel_rfl) (by kernel_rfl) (fun _ _ _ h => h) (by rfl) hHeld (fun w hSw => by (try dsimp only at hSw); go_simp; try with_reducible rfl) ?_
              (try simp only [Act.put, List.setIfInBounds_toArray, List.set_cons_zero, List.set_cons_succ, List.getElem_toArray, List.getElem_cons_succ, List.getElem_cons_zero])
              refine held_take 6 _ _ rfl (by kernel_rfl) (by kernel_rfl) (by kernel_rfl) (fun _ _ _ h => h) (by rfl) hHeld (fun w hSw => by (try dsimp only at hSw); go_simp; try with_reducible rfl) ?_
              (try simp only [Act.put, List.setIfInBounds_toArray, List.set_cons_zero, List.set_cons_succ, List.getElem_toArray, List.getElem_cons_succ, List.getElem_cons_zero])
              refine wpAnyH_ready (rs := [7]) (by kernel_rfl) (by simp) ?_
              refine AllReadyH.cons rfl (fun K hK => ?_) AllReadyH.nil
              rw [if_pos (by rfl)]
              go_wp2_with (first | (go_at_call 30; (with_reducible refine (c1 _ (hHeld).2.2.2.2).mono ?_); rintro e wk ⟨rfl, hwk⟩; subst hwk))
              refine hK.out _ _ (hHeld) (fun hHeld1 => ?_)
              clear hK K
              (try simp only [Act.put, List.setIfInBounds_toArray, List.set_cons_zero, List.set_cons_succ, List.getElem_toArray, List.getElem_cons_succ, List.getElem_cons_zero])
              refine held_take 8 _ _ rfl (by kernel_rfl) (by kernel_rfl) (by kernel_rfl) (fun _ _ _ h => h) (by rfl) hHeld1 (fun w hSw => by (try dsimp only at hSw); go_simp; try with_reducible rfl) ?_
              (try simp only [Act.put, List.setIfInBounds_toArray, List.set_cons_zero, List.set_cons_succ, List.getElem_toArray, List.getElem_cons_succ, List.getElem_cons_zero])
              refine held_take 9 _ _ rfl (by kernel_rfl) (by kernel_rfl) (by kernel_rfl) (fun _ _ _ h => h) (by rfl) hHeld1 (fun w hSw => by (try dsimp only at hSw); go_simp; try with_reducible rfl) ?_
              (try simp only [Act.put, List.setIfInBounds_toArray, List.set_cons_zero, List.set_cons_succ, List.getElem_toArray, List.getElem_cons_succ, List.getElem_cons_zero])
              refine held_skip 10 _ rfl (by kernel_rfl) (by kernel_rfl) (by kernel_rfl) (fun _ _ _ h => h) (by rfl) hHeld1 ?_
              (try simp only [Act.put, List.setIfInBounds_toArray, List.set_cons_zero, List.set_cons_succ, List.getElem_toArray, List.getElem_cons_succ, List.getElem_cons_zero])
              refine held_skip 11 _ rfl (by kernel_rfl) (by kernel_rfl) (by kernel_rfl) (fun _ _ _ h => h) (by rfl) hHeld1 ?_
              (try simp only [Act.put, List.setIfInBounds_toArray, List.set_cons_zero, List.set_cons_succ, List.getElem_toArray, List.getElem_cons_succ, List.getElem_cons_zero])
              refine held_skip 12 _ rfl (by kernel_rfl) (by kernel_rfl) (by kernel_rfl) (fun _ _ _ h => h) (by rfl) hHeld1 ?_
              (try simp only [Act.put, List.setIfInBounds_toArray, List.set_cons_zero, List.set_cons_succ, List.getElem_toArray, List.getElem_cons_succ, List.getElem_cons_zero])
              refine held_skip 13 _ rfl (by kernel_rfl) (by kernel_rfl) (by kernel_rfl) (fun _ _ _ h => h) (by rfl) hHeld1 ?_
              (try simp only [Act.put, List.setIfInBounds_toArray, List.set_cons_zero, List.set_cons_succ, List.getElem_toArray, List.getElem_cons_succ, List.getElem_cons_zero])
              refine held_skip 14 _ rfl (by kernel_rfl) (by kernel_rfl) (by kernel_rfl) (fun _ _ _ h => h) (by rfl) hHeld1 ?_
              (try simp only [Act.put, List.setIfInBounds_toArray, List.set_cons_zero, List.set_cons_succ, List.getElem_toArray, List.getElem_cons_succ, List.getElem_cons_zero])
              refine held_skip 15 _ rfl (by kernel_rfl) (by kernel_rfl) (by kernel_rfl) (fun _ _ _ h => h) (by rfl) hHeld1 ?_
              (try simp only [Act.put, List.setIfInBounds_toArray, List.set_cons_zero, List.set_cons_succ, List.getElem_toArray, List.getElem_cons_succ, List.getElem_cons_zero])
              refine held_skip 16 _ rfl (by kernel_rfl) (by kernel_rfl) (by kernel_rfl) (fun _ _ _ h => h) (by rfl) hHeld1 ?_
              (try simp only [Act.put, List.setIfInBounds_toArray, List.set_cons_zero, List.set_cons_succ, List.getElem_toArray, List.getElem_cons_succ, List.getElem_cons_zero])
              refine held_skip 17 _ rfl (by kernel_rfl) (by kernel_rfl) (by kernel_rfl) (fun _ _ _ h => h) (by rfl) hHeld1 ?_
              (try simp only [Act.put, List.setIfInBounds_toArray, List.set_cons_zero, List.set_cons_succ, List.getElem_toArray, List.getElem_cons_succ, List.getElem_cons_zero])
              refine held_skip 18 _ rfl (by kernel_rfl) (by kernel_rfl) (by kernel_rfl) (fun _ _ _ h => h) (by rfl) hHeld1 ?_
              (try simp only [Act.put, List.setIfInBounds_toArray, List.set_cons_zero, List.set_cons_succ, List.getElem_toArray, List.getElem_cons_succ, List.getElem_cons_zero])
              refine held_take 19 _ _ rfl (by kernel_rfl) (by kernel_rfl) (by kernel_rfl) (fun _ _ _ h => h) (by rfl) hHeld1 (fun w hSw => by (try dsimp only at hSw); go_simp; try with_reducible rfl) ?_
              (try simp only [Act.put, List.setIfInBounds_toArray, List.set_cons_zero, List.set_cons_succ, List.getElem_toArray, List.getElem_cons_succ, List.getElem_cons_zero])
              refine wpAnyH_done (by kernel_rfl) ?_ _
              have hbF := hb2.trans ((hHeld1).2.2.2.2.mono hbz2)
              clear hS0 hHeld1 c1 c2 HK hcy
              go_wp2_with fail
              go_roundw
              case rel => exact ⟨j + 1, by omega, by go_num, hbF⟩
              case measure => simp [intOf]; omega
            · rw [show hasB Lc y = false from decide_eq_false hyc] at c1
              rw [show hasB Ld y = true from decide_eq_true (hmm.resolve_left hyc)] at c2
              go_wp2_with fail
              refine wp_region_held_drew (S := fun w' => w'.cell? ⟨w9.heap.size, 0, none⟩ = some (.slice a_c Lc.length c_c) ∧ w'.cell? ⟨w9.heap.size + 1, 0, none⟩ = some (.slice a_d Ld.length c_d) ∧ w'.cell? ⟨w12.heap.size, 0, none⟩ = some (.slice (some ⟨b, off, none⟩) (addL Lc Ld).length c_y) ∧ w'.cell? ⟨b, off + j, none⟩ = some (.int .i64 y) ∧ Below wv.heap.size wv w') (by kernel_rfl) hS0 (fun hHeld => ?_)
              refine held_take 0 _ _ rfl (by kernel_rfl) (by kernel_rfl) (by kernel_rfl) (fun _ _ _ h => h) (by rfl) hHeld (fun w hSw => by (try dsimp only at hSw); go_simp; try with_reducible rfl) ?_
              (try simp only [Act.put, List.setIfInBounds_toArray, List.set_cons_zero, List.set_cons_succ, List.getElem_toArray, List.getElem_cons_zero])
              refine held_take 1 _ _ rfl (by kernel_rfl) (by kernel_rfl) (by kernel_rfl) (fun _ _ _ h => h) (by rfl) hHeld (fun w hSw => by (try dsimp only at hSw); go_simp; try with_reducible rfl) ?_
              (try simp only [Act.put, List.setIfInBounds_toArray, List.set_cons_zero, List.set_cons_succ, List.getElem_toArray, List.getElem_cons_succ, List.getElem_cons_zero])
              refine held_take 2 _ _ rfl (by kernel_rfl) (by kernel_rfl) (by kernel_rfl) (fun _ _ _ h => h) (by rfl) hHeld (fun w hSw => by (try dsimp only at hSw); go_simp; try with_reducible rfl) ?_
              (try simp only [Act.put, List.setIfInBounds_toArray, List.set_cons_zero, List.set_cons_succ, List.getElem_toArray, List.getElem_cons_succ, List.getElem_cons_zero])
              refine held_take 3 _ _ rfl (by kernel_rfl) (by kernel_rfl) (by kernel_rfl) (fun _ _ _ h => h) (by rfl) hHeld (fun w hSw => by (try dsimp only at hSw); go_simp; try with_reducible rfl) ?_
              (try simp only [Act.put, List.setIfInBounds_toArray, List.set_cons_zero, List.set_cons_succ, List.getElem_toArray, List.getElem_cons_succ, List.getElem_cons_zero])
              refine held_take 4 _ _ rfl (by kernel_rfl) (by kernel_rfl) (by kernel_rfl) (fun _ _ _ h => h) (by rfl) hHeld (fun w hSw => by (try dsimp only at hSw); go_simp; try with_reducible rfl) ?_
              (try simp only [Act.put, List.setIfInBounds_toArray, List.set_cons_zero, List.set_cons_succ, List.getElem_toArray, List.getElem_cons_succ, List.getElem_cons_zero])
              refine held_take 5 _ _ rfl (by kernel_rfl) (by kernel_rfl) (by kernel_rfl) (fun _ _ _ h => h) (by rfl) hHeld (fun w hSw => by (try dsimp only at hSw); go_simp; try with_reducible rfl) ?_
              (try simp only [Act.put, List.setIfInBounds_toArray, List.set_cons_zero, List.set_cons_succ, List.getElem_toArray, List.getElem_cons_succ, List.getElem_cons_zero])
              refine held_take 6 _ _ rfl (by kernel_rfl) (by kernel_rfl) (by kernel_rfl) (fun _ _ _ h => h) (by rfl) hHeld (fun w hSw => by (try dsimp only at hSw); go_simp; try with_reducible rfl) ?_
              (try simp only [Act.put, List.setIfInBounds_toArray, List.set_cons_zero, List.set_cons_succ, List.getElem_toArray, List.getElem_cons_succ, List.getElem_cons_zero])
              refine wpAnyH_ready (rs := [7]) (by kernel_rfl) (by simp) ?_
              refine AllReadyH.cons rfl (fun K hK => ?_) AllReadyH.nil
              rw [if_pos (by rfl)]
              go_wp2_with (first | (go_at_call 30; (with_reducible refine (c1 _ (hHeld).2.2.2.2).mono ?_); rintro e wk ⟨rfl, hwk⟩; subst hwk))
              refine hK.out _ _ (hHeld) (fun hHeld1 => ?_)
              clear hK K
              (try simp only [Act.put, List.setIfInBounds_toArray, List.set_cons_zero, List.set_cons_succ, List.getElem_toArray, List.getElem_cons_succ, List.getElem_cons_zero])
              refine held_take 8 _ _ rfl (by kernel_rfl) (by kernel_rfl) (by kernel_rfl) (fun _ _ _ h => h) (by rfl) hHeld1 (fun w hSw => by (try dsimp only at hSw); go_simp; try with_reducible rfl) ?_
              (try simp only [Act.put, List.setIfInBounds_toArray, List.set_cons_zero, List.set_cons_succ, List.getElem_toArray, List.getElem_cons_succ, List.getElem_cons_zero])
              refine held_take 9 _ _ rfl (by kernel_rfl) (by kernel_rfl) (by kernel_rfl) (fun _ _ _ h => h) (by rfl) hHeld1 (fun w hSw => by (try dsimp only at hSw); go_simp; try with_reducible rfl) ?_
              (try simp only [Act.put, List.setIfInBounds_toArray, List.set_cons_zero, List.set_cons_succ, List.getElem_toArray, List.getElem_cons_succ, List.getElem_cons_zero])
              refine held_take 10 _ _ rfl (by kernel_rfl) (by kernel_rfl) (by kernel_rfl) (fun _ _ _ h => h) (by rfl) hHeld1 (fun w hSw => by (try dsimp only at hSw); go_simp; try with_reducible rfl) ?_
              (try simp only [Act.put, List.setIfInBounds_toArray, List.set_cons_zero, List.set_cons_succ, List.getElem_toArray, List.getElem_cons_succ, List.getElem_cons_zero])
              refine held_take 11 _ _ rfl (by kernel_rfl) (by kernel_rfl) (by kernel_rfl) (fun _ _ _ h => h) (by rfl) hHeld1 (fun w hSw => by (try dsimp only at hSw); go_simp; try with_reducible rfl) ?_
              (try simp only [Act.put, List.setIfInBounds_toArray, List.set_cons_zero, List.set_cons_succ, List.getElem_toArray, List.getElem_cons_succ, List.getElem_cons_zero])
              refine held_take 12 _ _ rfl (by kernel_rfl) (by kernel_rfl) (by kernel_rfl) (fun _ _ _ h => h) (by rfl) hHeld1 (fun w hSw => by (try dsimp only at hSw); go_simp; try with_reducible rfl) ?_
              (try simp only [Act.put, List.setIfInBounds_toArray, List.set_cons_zero, List.set_cons_succ, List.getElem_toArray, List.getElem_cons_succ, List.getElem_cons_zero])
              refine held_take 13 _ _ rfl (by kernel_rfl) (by kernel_rfl) (by kernel_rfl) (fun _ _ _ h => h) (by rfl) hHeld1 (fun w hSw => by (try dsimp only at hSw); go_simp; try with_reducible rfl) ?_
              (try simp only [Act.put, List.setIfInBounds_toArray, List.set_cons_zero, List.set_cons_succ, List.getElem_toArray, List.getElem_cons_succ, List.getElem_cons_zero])
              refine held_take 14 _ _ rfl (by kernel_rfl) (by kernel_rfl) (by kernel_rfl) (fun _ _ _ h => h) (by rfl) hHeld1 (fun w hSw => by (try dsimp only at hSw); go_simp; try with_reducible rfl) ?_
              (try simp only [Act.put, List.setIfInBounds_toArray, List.set_cons_zero, List.set_cons_succ, List.getElem_toArray, List.getElem_cons_succ, List.getElem_cons_zero])
              refine held_take 15 _ _ rfl (by kernel_rfl) (by kernel_rfl) (by kernel_rfl) (fun _ _ _ h => h) (by rfl) hHeld1 (fun w hSw => by (try dsimp only at hSw); go_simp; try with_reducible rfl) ?_
              (try simp only [Act.put, List.setIfInBounds_toArray, List.set_cons_zero, List.set_cons_succ, List.getElem_toArray, List.getElem_cons_succ, List.getElem_cons_zero])
              refine held_take 16 _ _ rfl (by kernel_rfl) (by kernel_rfl) (by kernel_rfl) (fun _ _ _ h => h) (by rfl) hHeld1 (fun w hSw => by (try dsimp only at hSw); go_simp; try with_reducible rfl) ?_
              (try simp only [Act.put, List.setIfInBounds_toArray, List.set_cons_zero, List.set_cons_succ, List.getElem_toArray, List.getElem_cons_succ, List.getElem_cons_zero])
              refine wpAnyH_ready (rs := [17]) (by kernel_rfl) (by simp) ?_
              refine AllReadyH.cons rfl (fun K hK => ?_) AllReadyH.nil
              rw [if_pos (by rfl)]
              go_wp2_with (first | (go_at_call 30; (with_reducible refine (c2 _ (hHeld1).2.2.2.2).mono ?_); rintro e wk ⟨rfl, hwk⟩; subst hwk))
              refine hK.out _ _ (hHeld1) (fun hHeld2 => ?_)
              clear hK K
              (try simp only [Act.put, List.setIfInBounds_toArray, List.set_cons_zero, List.set_cons_succ, List.getElem_toArray, List.getElem_cons_succ, List.getElem_cons_zero])
              refine held_take 18 _ _ rfl (by kernel_rfl) (by kernel_rfl) (by kernel_rfl) (fun _ _ _ h => h) (by rfl) hHeld2 (fun w hSw => by (try dsimp only at hSw); go_simp; try with_reducible rfl) ?_
              (try simp only [Act.put, List.setIfInBounds_toArray, List.set_cons_zero, List.set_cons_succ, List.getElem_toArray, List.getElem_cons_succ, List.getElem_cons_zero])
              refine held_take 19 _ _ rfl (by kernel_rfl) (by kernel_rfl) (by kernel_rfl) (fun _ _ _ h => h) (by rfl) hHeld2 (fun w hSw => by (try dsimp only at hSw); go_simp; try with_reducible rfl) ?_
              (try simp only [Act.put, List.setIfInBounds_toArray, List.set_cons_zero, List.set_cons_succ, List.getElem_toArray, List.getElem_cons_succ, List.getElem_cons_zero])
              refine wpAnyH_done (by kernel_rfl) ?_ _
              have hbF := hb2.trans ((hHeld2).2.2.2.2.mono hbz2)
              clear hS0 hHeld2 c1 c2 HK hcy
              go_wp2_with fail
              go_roundw
              case rel => exact ⟨j + 1, by omega, by go_num, hbF⟩
              case measure => simp [intOf]; omega
          · have hjli : ¬ (j : Int) < ((addL Lc Ld).length : Int) := by omega
            have hjd := decide_eq_false hjli
            have hcc := ((hb2).cell (p := ⟨w9.heap.size, 0, none⟩) hl_bc).trans HC_bc.out
            have c1 := ci_IsWithin Lc a_c c_c (addL Lc Ld) a_y c_y wv (S_c.out.below hb2) (R_y.out.slw.below hb2) (by omega) (by omega)
            rw [HWC.out] at c1
            go_wp2_with fail
            refine c1.mono ?_
            rintro e wy8 ⟨rfl, hb8⟩
            have hb3 := hb2.trans (hb8.mono hbz2)
            clear c1 hcy hcc
            have hcd := ((hb3).cell (p := ⟨w9.heap.size + 1, 0, none⟩) hl_bd).trans HC_bd.out
            have hcy := ((hb3).cell (p := ⟨w12.heap.size, 0, none⟩) hl_by).trans HC_by.out
            have c1 := ci_IsWithin Ld a_d c_d (addL Lc Ld) a_y c_y wy8 (S_d.out.below hb3) (R_y.out.slw.below hb3) (by omega) (by omega)
            rw [HWD.out] at c1
            go_wp2_with fail
            refine c1.mono ?_
            rintro e wy9 ⟨rfl, hb9⟩
            have hb4 := hb3.trans (hb9.mono hb3.size)
            have hW3 := hW.trans (hb4.mono hWz)
            clear c1 hcd hcy
            go_wp2_with fail
            go_ret
            exact ⟨rfl, hW3⟩
  · obtain ⟨hlw, hwa, hwb⟩ := HLAW.out HQ.out
    have HL1 := Lib.hid hlw
    have HWA := Lib.hid hwa
    have HWB := Lib.hid hwb
    clear HLAW HQ hlw hwa hwb
    go_wp2_with fail
    go_loopw [17] (fun i wr => ∃ k : Nat, k ≤ 31 ∧ i = .int .i64 (k : Int) ∧ Below wq.heap.size wq wr) (fun i _ => 31 - (intOf i).toNat)
    case atStart => exact ⟨0, by omega, rfl, Below.refl _ _⟩
    case round =>
      rename World => wr
      obtain ⟨k, hk, rfl, hbel⟩ := hrel
      have hbz := hbel.size
      by_cases hlt : k ≤ 30
      · have hlti : decide ((k : Int) ≤ 30) = true := decide_eq_true (by omega)
        have hlti2 : (k : Int) ≤ 30 := by omega
        have HK : Hid (∀ w', Below wr.heap.size wr w' → w'.cell? ⟨w5.heap.size, 0, none⟩ = some (.slice a_x (meetL La Lb).length c_x) ∧ w'.cell? ⟨w2.heap.size, 0, none⟩ = some (.slice a_a La.length c_a) ∧ w'.cell? ⟨w2.heap.size + 1, 0, none⟩ = some (.slice a_b Lb.length c_b) ∧ Below wr.heap.size wr w') := Lib.hid fun w' h => ⟨((hbel.trans (h.mono hbz)).cell (p := ⟨w5.heap.size, 0, none⟩) hl_bx).trans HC_bx.out, ((hbel.trans (h.mono hbz)).cell (p := ⟨w2.heap.size, 0, none⟩) hl_ba).trans HC_ba.out, ((hbel.trans (h.mono hbz)).cell (p := ⟨w2.heap.size + 1, 0, none⟩) hl_bb).trans HC_bb.out, h⟩
        have hS0 := HK.out _ (Below.refl wr.heap.size wr).drew
        have c1 := fun w' (h : Below wr.heap.size wr w') => impl_Contains (meetL La Lb) (k : Int) a_x c_x w' (R_x.out.slv.below (hbel.trans (h.mono hbz))) (by omega)
        have c2 := fun w' (h : Below wr.heap.size wr w') => spec_Contains La (k : Int) a_a c_a w' (S_a.out.sl.below (hbel.trans (h.mono hbz))) (by omega)
        have c3 := fun w' (h : Below wr.heap.size wr w') => spec_Contains Lb (k : Int) a_b c_b w' (S_b.out.sl.below (hbel.trans (h.mono hbz))) (by omega)
        rw [HL1.out k] at c1
        generalize hasN La (k : Int) = r1 at *
        generalize hasN Lb (k : Int) = r2 at *
        have hrr : (r2 != r2) = false := by cases r2 <;> rfl
        cases r1
        · simp only [Bool.false_and] at c1
          go_wp2_with fail
          refine wp_region_held_drew (S := fun w' => w'.cell? ⟨w5.heap.size, 0, none⟩ = some (.slice a_x (meetL La Lb).length c_x) ∧ w'.cell? ⟨w2.heap.size, 0, none⟩ = some (.slice a_a La.length c_a) ∧ w'.cell? ⟨w2.heap.size + 1, 0, none⟩ = some (.slice a_b Lb.length c_b) ∧ Below wr.heap.size wr w') (by kernel_rfl) hS0 (fun hHeld => ?_)
          refine held_take 0 _ _ rfl (by kernel_rfl) (by kernel_rfl) (by kernel_rfl) (fun _ _ _ h => h) (by rfl) hHeld (fun w hSw => by (try dsimp only at hSw); go_simp; try with_reducible rfl) ?_
          (try simp only [Act.put, List.setIfInBounds_toArray, List.set_cons_zero, List.set_cons_succ, List.getElem_toArray, List.getElem_cons_zero])
          refine held_take 1 _ _ rfl (by kernel_rfl) (by kernel_rfl) (by kernel_rfl) (fun _ _ _ h => h) (by rfl) hHeld (fun w hSw => by (try dsimp only at hSw); go_simp; try with_reducible rfl) ?_
          (try simp only [Act.put, List.setIfInBounds_toArray, List.set_cons_zero, List.set_cons_succ, List.getElem_toArray, List.getElem_cons_succ, List.getElem_cons_zero])
          refine held_take 3 _ _ rfl (by kernel_rfl) (by kernel_rfl) (by kernel_rfl) (fun _ _ _ h => h) (by rfl) hHeld (fun w hSw => by (try dsimp only at hSw); go_simp; try with_reducible rfl) ?_
          (try simp only [Act.put, List.setIfInBounds_toArray, List.set_cons_zero, List.set_cons_succ, List.getElem_toArray, List.getElem_cons_succ, List.getElem_cons_zero])
          refine held_take 4 _ _ rfl (by kernel_rfl) (by kernel_rfl) (by kernel_rfl) (fun _ _ _ h => h) (by rfl) hHeld (fun w hSw => by (try dsimp only at hSw); go_simp; try with_reducible rfl) ?_
          (try simp only [Act.put, List.setIfInBounds_toArray, List.set_cons_zero, List.set_cons_succ, List.getElem_toArray, List.getElem_cons_succ, List.getElem_cons_zero])
          refine wpAnyH_ready (rs := [2]) (by kernel_rfl) (by simp) ?_
          refine AllReadyH.cons rfl (fun K hK => ?_) AllReadyH.nil
          rw [if_pos (by rfl)]
          go_wp2_with (first | (go_at_call 19; (with_reducible refine (c1 _ (hHeld).2.2.2).mono ?_); rintro e wk ⟨rfl, hbk⟩))
          refine hK.out _ _ (HK.out _ ((hHeld).2.2.2.trans (hbk.mono (hHeld).2.2.2.size))) (fun hHeld1 => ?_)
          clear hK K
          (try simp only [Act.put, List.setIfInBounds_toArray, List.set_cons_zero, List.set_cons_succ, List.getElem_toArray, List.getElem_cons_succ, List.getElem_cons_zero])
          refine wpAnyH_ready (rs := [5]) (by kernel_rfl) (by simp) ?_
          refine AllReadyH.cons rfl (fun K hK => ?_) AllReadyH.nil
          rw [if_pos (by rfl)]
          go_wp2_with (first | (go_at_call 20; (with_reducible refine (c2 _ (hHeld1).2.2.2).mono ?_); rintro e wk ⟨rfl, hbk⟩))
          refine hK.out _ _ (HK.out _ ((hHeld1).2.2.2.trans (hbk.mono (hHeld1).2.2.2.size))) (fun hHeld2 => ?_)
          clear hK K
          (try simp only [Act.put, List.setIfInBounds_toArray, List.set_cons_zero, List.set_cons_succ, List.getElem_toArray, List.getElem_cons_succ, List.getElem_cons_zero])
          refine held_take 6 _ _ rfl (by kernel_rfl) (by kernel_rfl) (by kernel_rfl) (fun _ _ _ h => h) (by rfl) hHeld2 (fun w hSw => by (try dsimp only at hSw); go_simp; try with_reducible rfl) ?_
          (try simp only [Act.put, List.setIfInBounds_toArray, List.set_cons_zero, List.set_cons_succ, List.getElem_toArray, List.getElem_cons_succ, List.getElem_cons_zero])
          refine held_skip 7 _ rfl (by kernel_rfl) (by kernel_rfl) (by kernel_rfl) (fun _ _ _ h => h) (by rfl) hHeld2 ?_
          (try simp only [Act.put, List.setIfInBounds_toArray, List.set_cons_zero, List.set_cons_succ, List.getElem_toArray, List.getElem_cons_succ, List.getElem_cons_zero])
          refine held_skip 8 _ rfl (by kernel_rfl) (by kernel_rfl) (by kernel_rfl) (fun _ _ _ h => h) (by rfl) hHeld2 ?_
          (try simp only [Act.put, List.setIfInBounds_toArray, List.set_cons_zero, List.set_cons_succ, List.getElem_toArray, List.getElem_cons_succ, List.getElem_cons_zero])
          refine held_skip 9 _ rfl (by kernel_rfl) (by kernel_rfl) (by kernel_rfl) (fun _ _ _ h => h) (by rfl) hHeld2 ?_
          (try simp only [Act.put, List.setIfInBounds_toArray, List.set_cons_zero, List.set_cons_succ, List.getElem_toArray, List.getElem_cons_succ, List.getElem_cons_zero])
          refine held_take 10 _ _ rfl (by kernel_rfl) (by kernel_rfl) (by kernel_rfl) (fun _ _ _ h => h) (by rfl) hHeld2 (fun w hSw => by (try dsimp only at hSw); go_simp; try with_reducible rfl) ?_
          (try simp only [Act.put, List.setIfInBounds_toArray, List.set_cons_zero, List.set_cons_succ, List.getElem_toArray, List.getElem_cons_succ, List.getElem_cons_zero])
          refine held_take 11 _ _ rfl (by kernel_rfl) (by kernel_rfl) (by kernel_rfl) (fun _ _ _ h => h) (by rfl) hHeld2 (fun w hSw => by (try dsimp only at hSw); go_simp; try with_reducible rfl) ?_
          (try simp only [Act.put, List.setIfInBounds_toArray, List.set_cons_zero, List.set_cons_succ, List.getElem_toArray, List.getElem_cons_succ, List.getElem_cons_zero])
          refine wpAnyH_done (by kernel_rfl) ?_ _
          have hbF := hbel.trans ((hHeld2).2.2.2.mono hbz)
          clear hS0 hHeld2 c1 c2 c3 HK
          go_wp2_with fail
          go_roundw
          case rel => exact ⟨k + 1, by omega, by go_num, hbF⟩
          case measure => simp [intOf]; omega
        · simp only [Bool.true_and] at c1
          go_wp2_with fail
          refine wp_region_held_drew (S := fun w' => w'.cell? ⟨w5.heap.size, 0, none⟩ = some (.slice a_x (meetL La Lb).length c_x) ∧ w'.cell? ⟨w2.heap.size, 0, none⟩ = some (.slice a_a La.length c_a) ∧ w'.cell? ⟨w2.heap.size + 1, 0, none⟩ = some (.slice a_b Lb.length c_b) ∧ Below wr.heap.size wr w') (by kernel_rfl) hS0 (fun hHeld => ?_)
          refine held_take 0 _ _ rfl (by kernel_rfl) (by kernel_rfl) (by kernel_rfl) (fun _ _ _ h => h) (by rfl) hHeld (fun w hSw => by (try dsimp only at hSw); go_simp; try with_reducible rfl) ?_
          (try simp only [Act.put, List.setIfInBounds_toArray, List.set_cons_zero, List.set_cons_succ, List.getElem_toArray, List.getElem_cons_zero])
          refine held_take 1 _ _ rfl (by kernel_rfl) (by kernel_rfl) (by kernel_rfl) (fun _ _ _ h => h) (by rfl) hHeld (fun w hSw => by (try dsimp only at hSw); go_simp; try with_reducible rfl) ?_
          (try simp only [Act.put, List.setIfInBounds_toArray, List.set_cons_zero, List.set_cons_succ, List.getElem_toArray, List.getElem_cons_succ, List.getElem_cons_zero])
          refine held_take 3 _ _ rfl (by kernel_rfl) (by kernel_rfl) (by kernel_rfl) (fun _ _ _ h => h) (by rfl) hHeld (fun w hSw => by (try dsimp only at hSw); go_simp; try with_reducible rfl) ?_
          (try simp only [Act.put, List.setIfInBounds_toArray, List.set_cons_zero, List.set_cons_succ, List.getElem_toArray, List.getElem_cons_succ, List.getElem_cons_zero])
          refine held_take 4 _ _ rfl (by kernel_rfl) (by kernel_rfl) (by kernel_rfl) (fun _ _ _ h => h) (by rfl) hHeld (fun w hSw => by (try dsimp only at hSw); go_simp; try with_reducible rfl) ?_
          (try simp only [Act.put, List.setIfInBounds_toArray, List.set_cons_zero, List.set_cons_succ, List.getElem_toArray, List.getElem_cons_succ, List.getElem_cons_zero])
          refine wpAnyH_ready (rs := [2]) (by kernel_rfl) (by simp) ?_
          refine AllReadyH.cons rfl (fun K hK => ?_) AllReadyH.nil
          rw [if_pos (by rfl)]
          go_wp2_with (first | (go_at_call 19; (with_reducible refine (c1 _ (hHeld).2.2.2).mono ?_); rintro e wk ⟨rfl, hbk⟩))
          refine hK.out _ _ (HK.out _ ((hHeld).2.2.2.trans (hbk.mono (hHeld).2.2.2.size))) (fun hHeld1 => ?_)
          clear hK K
          (try simp only [Act.put, List.setIfInBounds_toArray, List.set_cons_zero, List.set_cons_succ, List.getElem_toArray, List.getElem_cons_succ, List.getElem_cons_zero])
          refine wpAnyH_ready (rs := [5]) (by kernel_rfl) (by simp) ?_
          refine AllReadyH.cons rfl (fun K hK => ?_) AllReadyH.nil
          rw [if_pos (by rfl)]
          go_wp2_with (first | (go_at_call 20; (with_reducible refine (c2 _ (hHeld1).2.2.2).mono ?_); rintro e wk ⟨rfl, hbk⟩))
          refine hK.out _ _ (HK.out _ ((hHeld1).2.2.2.trans (hbk.mono (hHeld1).2.2.2.size))) (fun hHeld2 => ?_)
          clear hK K
          (try simp only [Act.put, List.setIfInBounds_toArray, List.set_cons_zero, List.set_cons_succ, List.getElem_toArray, List.getElem_cons_succ, List.getElem_cons_zero])
          refine held_take 6 _ _ rfl (by kernel_rfl) (by kernel_rfl) (by kernel_rfl) (fun _ _ _ h => h) (by rfl) hHeld2 (fun w hSw => by (try dsimp only at hSw); go_simp; try with_reducible rfl) ?_
          (try simp only [Act.put, List.setIfInBounds_toArray, List.set_cons_zero, List.set_cons_succ, List.getElem_toArray, List.getElem_cons_succ, List.getElem_cons_zero])
          refine held_take 7 _ _ rfl (by kernel_rfl) (by kernel_rfl) (by kernel_rfl) (fun _ _ _ h => h) (by rfl) hHeld2 (fun w hSw => by (try dsimp only at hSw); go_simp; try with_reducible rfl) ?_
          (try simp only [Act.put, List.setIfInBounds_toArray, List.set_cons_zero, List.set_cons_succ, List.getElem_toArray, List.getElem_cons_succ, List.getElem_cons_zero])
          refine held_take 8 _ _ rfl (by kernel_rfl) (by kernel_rfl) (by kernel_rfl) (fun _ _ _ h => h) (by rfl) hHeld2 (fun w hSw => by (try dsimp only at hSw); go_simp; try with_reducible rfl) ?_
          (try simp only [Act.put, List.setIfInBounds_toArray, List.set_cons_zero, List.set_cons_succ, List.getElem_toArray, List.getElem_cons_succ, List.getElem_cons_zero])
          refine wpAnyH_ready (rs := [9]) (by kernel_rfl) (by simp) ?_
          refine AllReadyH.cons rfl (fun K hK => ?_) AllReadyH.nil
          rw [if_pos (by rfl)]
          go_wp2_with (first | (go_at_call 20; (with_reducible refine (c3 _ (hHeld2).2.2.2).mono ?_); rintro e wk ⟨rfl, hbk⟩))
          refine hK.out _ _ (HK.out _ ((hHeld2).2.2.2.trans (hbk.mono (hHeld2).2.2.2.size))) (fun hHeld3 => ?_)
          clear hK K
          (try simp only [Act.put, List.setIfInBounds_toArray, List.set_cons_zero, List.set_cons_succ, List.getElem_toArray, List.getElem_cons_succ, List.getElem_cons_zero])
          refine held_take 10 _ _ rfl (by kernel_rfl) (by kernel_rfl) (by kernel_rfl) (fun _ _ _ h => h) (by rfl) hHeld3 (fun w hSw => by (try dsimp only at hSw); go_simp; try with_reducible rfl) ?_
          (try simp only [Act.put, List.setIfInBounds_toArray, List.set_cons_zero, List.set_cons_succ, List.getElem_toArray, List.getElem_cons_succ, List.getElem_cons_zero])
          refine held_take 11 _ _ rfl (by kernel_rfl) (by kernel_rfl) (by kernel_rfl) (fun _ _ _ h => h) (by rfl) hHeld3 (fun w hSw => by (try dsimp only at hSw); go_simp; try with_reducible rfl) ?_
          (try simp only [Act.put, List.setIfInBounds_toArray, List.set_cons_zero, List.set_cons_succ, List.getElem_toArray, List.getElem_cons_succ, List.getElem_cons_zero])
          refine wpAnyH_done (by kernel_rfl) ?_ _
          have hbF := hbel.trans ((hHeld3).2.2.2.mono hbz)
          clear hS0 hHeld3 c1 c2 c3 HK
          go_wp2_with fail
          go_roundw
          case rel => exact ⟨k + 1, by omega, by go_num, hbF⟩
          case measure => simp [intOf]; omega
      · have hlti : decide ((k : Int) ≤ 30) = false := decide_eq_false (by omega)
        have hlti2 : ¬ (k : Int) ≤ 30 := by omega
        have hcx := ((hbel).cell (p := ⟨w5.heap.size, 0, none⟩) hl_bx).trans HC_bx.out
        have hca := ((hbel).cell (p := ⟨w2.heap.size, 0, none⟩) hl_ba).trans HC_ba.out
        have c1 := ci_IsWithin (meetL La Lb) a_x c_x La a_a c_a wr (R_x.out.slw.below hbel) (S_a.out.below hbel) (by omega) (by omega)
        rw [HWA.out] at c1
        go_wp2_with fail
        refine c1.mono ?_
        rintro e wx8 ⟨rfl, hb8⟩
        have hb3 := hbel.trans (hb8.mono hbz)
        clear c1 hcx hca
        have hcx := ((hb3).cell (p := ⟨w5.heap.size, 0, none⟩) hl_bx).trans HC_bx.out
        have hcb := ((hb3).cell (p := ⟨w2.heap.size + 1, 0, none⟩) hl_bb).trans HC_bb.out
        have c1 := ci_IsWithin (meetL La Lb) a_x c_x Lb a_b c_b wx8 (R_x.out.slw.below hb3) (S_b.out.below hb3) (by omega) (by omega)
        rw [HWB.out] at c1
        go_wp2_with fail
        refine c1.mono ?_
        rintro e wx9 ⟨rfl, hb9⟩
        replace hbel := hb3.trans (hb9.mono hb3.size)
        clear c1 hcx hcb hb3 hb9 hb8 hlti hlti2 hlt hk hbz HWA HWB HL1 R_x
        cases r
        · have hcy := ((hbel).cell (p := ⟨w12.heap.size, 0, none⟩) hl_by).trans HC_by.out
          go_wp2_with fail
          go_loopw [18] (fun i wv => i = .int .i64 0 ∧ Below wq.heap.size wq wv) (fun _ _ => 0)
          case atStart => exact ⟨rfl, hbel⟩
          case round =>
            rename World => wv
            obtain ⟨rfl, hb2⟩ := hrel
            have hcy2 := ((hb2).cell (p := ⟨w12.heap.size, 0, none⟩) hl_by).trans HC_by.out
            have hW3 := hW.trans (hb2.mono hWz)
            by_cases hz : (0 : Int) < ((addL Lc Ld).length : Int)
            · have hzd := decide_eq_true hz
              go_wp2_with fail
              go_ret
              exact ⟨rfl, hW3⟩
            · have hzd := decide_eq_false hz
              go_wp2_with fail
              go_ret
              exact ⟨rfl, hW3⟩
        · obtain ⟨hmb, hwc, hwd⟩ := HALAW.out HRQ.out
          have HMB := Lib.hid hmb
          have HWC := Lib.hid hwc
          have HWD := Lib.hid hwd
          clear hmb hwc hwd HALAW HRQ
          go_wp2_with fail
          go_loopw [18] (fun i wv => ∃ j : Nat, j ≤ (addL Lc Ld).length ∧ i = .int .i64 (j : Int) ∧ Below wq.heap.size wq wv) (fun i _ => (addL Lc Ld).length - (intOf i).toNat)
          case atStart => exact ⟨0, Nat.zero_le _, rfl, hbel⟩
          case round =>
            rename World => wv
            obtain ⟨j, hj, rfl, hb2⟩ := hrel
            have hbz2 := hb2.size
            have hcy := ((hb2).cell (p := ⟨w12.heap.size, 0, none⟩) hl_by).trans HC_by.out
            by_cases hjl : j < (addL Lc Ld).length
            · have hjli : (j : Int) < ((addL Lc Ld).length : Int) := by omega
              have hjd := decide_eq_true hjli
              have hj0 : (0 : Int) ≤ (j : Int) := by omega
              obtain ⟨b, off, hay, hbs, hcl⟩ := R_y.out.slv.open (by intro h; rw [List.map_eq_nil_iff] at h; rw [h] at hjl; simp at hjl)
              have HCL := Lib.hid hcl
              have hmm := HMB.out _ (List.getElem_mem hjl)
              have HE : Hid ((addL Lc Ld)[j] = (addL Lc Ld)[j]) := Lib.hid rfl
              clear hcl
              subst hay
              have HK : Hid (∀ w', Below wv.heap.size wv w' → w'.cell? ⟨w9.heap.size, 0, none⟩ = some (.slice a_c Lc.length c_c) ∧ w'.cell? ⟨w9.heap.size + 1, 0, none⟩ = some (.slice a_d Ld.length c_d) ∧ w'.cell? ⟨w12.heap.size, 0, none⟩ = some (.slice (some ⟨b, off, none⟩) (addL Lc Ld).length c_y) ∧ w'.cell? ⟨b, off + j, none⟩ = some (.int .i64 (addL Lc Ld)[j]) ∧ Below wv.heap.size wv w') := Lib.hid fun w' h => ⟨((hb2.trans (h.mono hbz2)).cell (p := ⟨w9.heap.size, 0, none⟩) hl_bc).trans HC_bc.out, ((hb2.trans (h.mono hbz2)).cell (p := ⟨w9.heap.size + 1, 0, none⟩) hl_bd).trans HC_bd.out, ((hb2.trans (h.mono hbz2)).cell (p := ⟨w12.heap.size, 0, none⟩) hl_by).trans HC_by.out, ((hb2.trans (h.mono hbz2)).cell (p := ⟨b, off + j, none⟩) hbs).trans (HCL.out j _ (by simp [hjl])), h⟩
              have hS0 := HK.out _ (Below.refl wv.heap.size wv).drew
              generalize (addL Lc Ld)[j] = y at *
              clear HE
              have c1 := fun w' (h : Below wv.heap.size wv w') => spec_HasNumber Lc y a_c c_c w' (S_c.out.sl.below (hb2.trans (h.mono hbz2))) (by unfold maxLen; omega)
              have c2 := fun w' (h : Below wv.heap.size wv w') => spec_HasNumber Ld y a_d c_d w' (S_d.out.sl.below (hb2.trans (h.mono hbz2))) (by unfold maxLen; omega)
              by_cases hyc : y ∈ Lc
              · rw [show hasB Lc y = true from decide_eq_true hyc] at c1
                go_wp2_with fail
                refine wp_region_held_drew (S := fun w' => w'.cell? ⟨w9.heap.size, 0, none⟩ = some (.slice a_c Lc.length c_c) ∧ w'.cell? ⟨w9.heap.size + 1, 0, none⟩ = some (.slice a_d Ld.length c_d) ∧ w'.cell? ⟨w12.heap.size, 0, none⟩ = some (.slice (some ⟨b, off, none⟩) (addL Lc Ld).length c_y) ∧ w'.cell? ⟨b, off + j, none⟩ = some (.int .i64 y) ∧ Below wv.heap.size wv w') (by kernel_rfl) hS0 (fun hHeld => ?_)
                refine held_take 0 _ _ rfl (by kernel_rfl) (by kernel_rfl) (by kernel_rfl) (fun _ _ _ h => h) (by rfl) hHeld (fun w hSw => by (try dsimp only at hSw); go_simp; try with_reducible rfl) ?_
                (try simp only [Act.put, List.setIfInBounds_toArray, List.set_cons_zero, List.set_cons_succ, List.getElem_toArray, List.getElem_cons_zero])
                refine held_take 1 _ _ rfl (by kernel_rfl) (by kernel_rfl) (by kernel_rfl) (fun _ _ _ h => h) (by rfl) hHeld (fun w hSw => by (try dsimp only at hSw); go_simp; try with_reducible rfl) ?_
                (try simp only [Act.put, List.setIfInBounds_toArray, List.set_cons_zero, List.set_cons_succ, List.getElem_toArray, List.getElem_cons_succ, List.getElem_cons_zero])
                refine held_take 2 _ _ rfl (by kernel_rfl) (by kernel_rfl) (by kernel_rfl) (fun _ _ _ h => h) (by rfl) hHeld (fun w hSw => by (try dsimp only at hSw); go_simp; try with_reducible rfl) ?_
                (try simp only [Act.put, List.setIfInBounds_toArray, List.set_cons_zero, List.set_cons_succ, List.getElem_toArray, List.getElem_cons_succ, List.getElem_cons_zero])
                refine held_take 3 _ _ rfl (by kernel_rfl) (by kernel_rfl) (by kernel_rfl) (fun _ _ _ h => h) (by rfl) hHeld (fun w hSw => by (try dsimp only at hSw); go_simp; try with_reducible rfl) ?_
                (try simp only [Act.put, List.setIfInBounds_toArray, List.set_cons_zero, List.set_cons_succ, List.getElem_toArray, List.getElem_cons_succ, List.getElem_cons_zero])
                refine held_take 4 _ _ rfl (by kernel_rfl) (by kernel_rfl) (by kernel_rfl) (fun _ _ _ h => h) (by rfl) hHeld (fun w hSw => by (try dsimp only at hSw); go_simp; try with_reducible rfl) ?_
                (try simp only [Act.put, List.setIfInBounds_toArray, List.set_cons_zero, List.set_cons_succ, List.getElem_toArray, List.getElem_cons_succ, List.getElem_cons_zero])
                refine held_take 5 _ _ rfl (by kernel_rfl) (by kernel_rfl) (by kernel_rfl) (fun _ _ _ h => h) (by rfl) hHeld (fun w hSw => by (try dsimp only at hSw); go_simp; try with_reducible rfl) ?_
                (try simp only [Act.put, List.setIfInBounds_toArray, List.set_cons_zero, List.set_cons_succ, List.getElem_toArray, List.getElem_cons_succ, List.getElem_cons_zero])
                refine held_take 6 _ _ rfl (by kernel_rfl) (by kernel_rfl) (by kernel_rfl) (fun _ _ _ h => h) (by rfl) hHeld (fun w hSw => by (try dsimp only at hSw); go_simp; try with_reducible rfl) ?_
                (try simp only [Act.put, List.setIfInBounds_toArray, List.set_cons_zero, List.set_cons_succ, List.getElem_toArray, List.getElem_cons_succ, List.getElem_cons_zero])
                refine wpAnyH_ready (rs := [7]) (by kernel_rfl) (by simp) ?_
                refine AllReadyH.cons rfl (fun K hK => ?_) AllReadyH.nil
                rw [if_pos (by rfl)]
                go_wp2_with (first | (go_at_call 30; (with_reducible refine (c1 _ (hHeld).2.2.2.2).mono ?_); rintro e wk ⟨rfl, hwk⟩; subst hwk))
                refine hK.out _ _ (hHeld) (fun hHeld1 => ?_)
                clear hK K
                (try simp only [Act.put, List.setIfInBounds_toArray, List.set_cons_zero, List.set_cons_succ, List.getElem_toArray, List.getElem_cons_succ, List.getElem_cons_zero])
                refine held_take 8 _ _ rfl (by kernel_rfl) (by kernel_rfl) (by kernel_rfl) (fun _ _ _ h => h) (by rfl) hHeld1 (fun w hSw => by (try dsimp only at hSw); go_simp; try with_reducible rfl) ?_
                (try simp only [Act.put, List.setIfInBounds_toArray, List.set_cons_zero, List.set_cons_succ, List.getElem_toArray, List.getElem_cons_succ, List.getElem_cons_zero])
                refine held_take 9 _ _ rfl (by kernel_rfl) (by kernel_rfl) (by kernel_rfl) (fun _ _ _ h => h) (by rfl) hHeld1 (fun w hSw => by (try dsimp only at hSw); go_simp; try with_reducible rfl) ?_
                (try simp only [Act.put, List.setIfInBounds_toArray, List.set_cons_zero, List.set_cons_succ, List.getElem_toArray, List.getElem_cons_succ, List.getElem_cons_zero])
                refine held_skip 10 _ rfl (by kernel_rfl) (by kernel_rfl) (by kernel_rfl) (fun _ _ _ h => h) (by rfl) hHeld1 ?_
                (try simp only [Act.put, List.setIfInBounds_toArray, List.set_cons_zero, List.set_cons_succ, List.getElem_toArray, List.getElem_cons_succ, List.getElem_cons_zero])
                refine held_skip 11 _ rfl (by kernel_rfl) (by kernel_rfl) (by kernel_rfl) (fun _ _ _ h => h) (by rfl) hHeld1 ?_
                (try simp only [Act.put, List.setIfInBounds_toArray, List.set_cons_zero, List.set_cons_succ, List.getElem_toArray, List.getElem_cons_succ, List.getElem_cons_zero])
                refine held_skip 12 _ rfl (by kernel_rfl) (by kernel_rfl) (by kernel_rfl) (fun _ _ _ h => h) (by rfl) hHeld1 ?_
                (try simp only [Act.put, List.setIfInBounds_toArray, List.set_cons_zero, List.set_cons_succ, List.getElem_toArray, List.getElem_cons_succ, List.getElem_cons_zero])
                refine held_skip 13 _ rfl (by kernel_rfl) (by kernel_rfl) (by kernel_rfl) (fun _ _ _ h => h) (by rfl) hHeld1 ?_
                (try simp only [Act.put, List.setIfInBounds_toArray, List.set_cons_zero, List.set_cons_succ, List.getElem_toArray, List.getElem_cons_succ, List.getElem_cons_zero])
                refine held_skip 14 _ rfl (by kernel_rfl) (by kernel_rfl) (by kernel_rfl) (fun _ _ _ h => h) (by rfl) hHeld1 ?_
                (try simp only [Act.put, List.setIfInBounds_toArray, List.set_cons_zero, List.set_cons_succ, List.getElem_toArray, List.getElem_cons_succ, List.getElem_cons_zero])
                refine held_skip 15 _ rfl (by kernel_rfl) (by kernel_rfl) (by kernel_rfl) (fun _ _ _ h => h) (by rfl) hHeld1 ?_
                (try simp only [Act.put, List.setIfInBounds_toArray, List.set_cons_zero, List.set_cons_succ, List.getElem_toArray, List.getElem_cons_succ, List.getElem_cons_zero])
                refine held_skip 16 _ rfl (by kernel_rfl) (by kernel_rfl) (by kernel_rfl) (fun _ _ _ h => h) (by rfl) hHeld1 ?_
                (try simp only [Act.put, List.setIfInBounds_toArray, List.set_cons_zero, List.set_cons_succ, List.getElem_toArray, List.getElem_cons_succ, List.getElem_cons_zero])
                refine held_skip 17 _ rfl (by kernel_rfl) (by kernel_rfl) (by kernel_rfl) (fun _ _ _ h => h) (by rfl) hHeld1 ?_
                (try simp only [Act.put, List.setIfInBounds_toArray, List.set_cons_zero, List.set_cons_succ, List.getElem_toArray, List.getElem_cons_succ, List.getElem_cons_zero])
                refine held_skip 18 _ rfl (by kernel_rfl) (by kernel_rfl) (by kernel_rfl) (fun _ _ _ h => h) (by rfl) hHeld1 ?_
                (try simp only [Act.put, List.setIfInBounds_toArray, List.set_cons_zero, List.set_cons_succ, List.getElem_toArray, List.getElem_cons_succ, List.getElem_cons_zero])
                refine held_take 19 _ _ rfl (by kernel_rfl) (by kernel_rfl) (by kernel_rfl) (fun _ _ _ h => h) (by rfl) hHeld1 (fun w hSw => by (try dsimp only at hSw); go_simp; try with_reducible rfl) ?_
                (try simp only [Act.put, List.setIfInBounds_toArray, List.set_cons_zero, List.set_cons_succ, List.getElem_toArray, List.getElem_cons_succ, List.getElem_cons_zero])
                refine wpAnyH_done (by kernel_rfl) ?_ _
                have hbF := hb2.trans ((hHeld1).2.2.2.2.mono hbz2)
                clear hS0 hHeld1 c1 c2 HK hcy
                go_wp2_with fail
                go_roundw
                case rel => exact ⟨j + 1, by omega, by go_num, hbF⟩
                case measure => simp [intOf]; omega
              · rw [show hasB Lc y = false from decide_eq_false hyc] at c1
                rw [show hasB Ld y = true from decide_eq_true (hmm.resolve_left hyc)] at c2
                go_wp2_with fail
                refine wp_region_held_drew (S := fun w' => w'.cell? ⟨w9.heap.size, 0, none⟩ = some (.slice a_c Lc.length c_c) ∧ w'.cell? ⟨w9.heap.size + 1, 0, none⟩ = some (.slice a_d Ld.length c_d) ∧ w'.cell? ⟨w12.heap.size, 0, none⟩ = some (.slice (some ⟨b, off, none⟩) (addL Lc Ld).length c_y) ∧ w'.cell? ⟨b, off + j, none⟩ = some (.int .i64 y) ∧ Below wv.heap.size wv w') (by kernel_rfl) hS0 (fun hHeld => ?_)
                refine held_take 0 _ _ rfl (by kernel_rfl) (by kernel_rfl) (by kernel_rfl) (fun _ _ _ h => h) (by rfl) hHeld (fun w hSw => by (try dsimp only at hSw); go_simp; try with_reducible rfl) ?_
                (try simp only [Act.put, List.setIfInBounds_toArray, List.set_cons_zero, List.set_cons_succ, List.getElem_toArray, List.getElem_cons_zero])
                refine held_take 1 _ _ rfl (by kernel_rfl) (by kernel_rfl) (by kernel_rfl) (fun _ _ _ h => h) (by rfl) hHeld (fun w hSw => by (try dsimp only at hSw); go_simp; try with_reducible rfl) ?_
                (try simp only [Act.put, List.setIfInBounds_toArray, List.set_cons_zero, List.set_cons_succ, List.getElem_toArray, List.getElem_cons_succ, List.getElem_cons_zero])
                refine held_take 2 _ _ rfl (by kernel_rfl) (by kernel_rfl) (by kernel_rfl) (fun _ _ _ h => h) (by rfl) hHeld (fun w hSw => by (try dsimp only at hSw); go_simp; try with_reducible rfl) ?_
                (try simp only [Act.put, List.setIfInBounds_toArray, List.set_cons_zero, List.set_cons_succ, List.getElem_toArray, List.getElem_cons_succ, List.getElem_cons_zero])
                refine held_take 3 _ _ rfl (by kernel_rfl) (by kernel_rfl) (by kernel_rfl) (fun _ _ _ h => h) (by rfl) hHeld (fun w hSw => by (try dsimp only at hSw); go_simp; try with_reducible rfl) ?_
                (try simp only [Act.put, List.setIfInBounds_toArray, List.set_cons_zero, List.set_cons_succ, List.getElem_toArray, List.getElem_cons_succ, List.getElem_cons_zero])
                refine held_take 4 _ _ rfl (by kernel_rfl) (by kernel_rfl) (by kernel_rfl) (fun _ _ _ h => h) (by rfl) hHeld (fun w hSw => by (try dsimp only at hSw); go_simp; try with_reducible rfl) ?_
                (try simp only [Act.put, List.setIfInBounds_toArray, List.set_cons_zero, List.set_cons_succ, List.getElem_toArray, List.getElem_cons_succ, List.getElem_cons_zero])
                refine held_take 5 _ _ rfl (by kernel_rfl) (by kernel_rfl) (by kernel_rfl) (fun _ _ _ h => h) (by rfl) hHeld (fun w hSw => by (try dsimp only at hSw); go_simp; try with_reducible rfl) ?_
                (try simp only [Act.put, List.setIfInBounds_toArray, List.set_cons_zero, List.set_cons_succ, List.getElem_toArray, List.getElem_cons_succ, List.getElem_cons_zero])
                refine held_take 6 _ _ rfl (by kernel_rfl) (by kernel_rfl) (by kernel_rfl) (fun _ _ _ h => h) (by rfl) hHeld (fun w hSw => by (try dsimp only at hSw); go_simp; try with_reducible rfl) ?_
                (try simp only [Act.put, List.setIfInBounds_toArray, List.set_cons_zero, List.set_cons_succ, List.getElem_toArray, List.getElem_cons_succ, List.getElem_cons_zero])
                refine wpAnyH_ready (rs := [7]) (by kernel_rfl) (by simp) ?_
                refine AllReadyH.cons rfl (fun K hK => ?_) AllReadyH.nil
                rw [if_pos (by rfl)]
                go_wp2_with (first | (go_at_call 30; (with_reducible refine (c1 _ (hHeld).2.2.2.2).mono ?_); rintro e wk ⟨rfl, hwk⟩; subst hwk))
                refine hK.out _ _ (hHeld) (fun hHeld1 => ?_)
                clear hK K
                (try simp only [Act.put, List.setIfInBounds_toArray, List.set_cons_zero, List.set_cons_succ, List.getElem_toArray, List.getElem_cons_succ, List.getElem_cons_zero])
                refine held_take 8 _ _ rfl (by kernel_rfl) (by kernel_rfl) (by kernel_rfl) (fun _ _ _ h => h) (by rfl) hHeld1 (fun w hSw => by (try dsimp only at hSw); go_simp; try with_reducible rfl) ?_
                (try simp only [Act.put, List.setIfInBounds_toArray, List.set_cons_zero, List.set_cons_succ, List.getElem_toArray, List.getElem_cons_succ, List.getElem_cons_zero])
                refine held_take 9 _ _ rfl (by kernel_rfl) (by kernel_rfl) (by kernel_rfl) (fun _ _ _ h => h) (by rfl) hHeld1 (fun w hSw => by (try dsimp only at hSw); go_simp; try with_reducible rfl) ?_
                (try simp only [Act.put, List.setIfInBounds_toArray, List.set_cons_zero, List.set_cons_succ, List.getElem_toArray, List.getElem_cons_succ, List.getElem_cons_zero])
                refine held_take 10 _ _ rfl (by kernel_rfl) (by kernel_rfl) (by kernel_rfl) (fun _ _ _ h => h) (by rfl) hHeld1 (fun w hSw => by (try dsimp only at hSw); go_simp; try with_reducible rfl) ?_
                (try simp only [Act.put, List.setIfInBounds_toArray, List.set_cons_zero, List.set_cons_succ, List.getElem_toArray, List.getElem_cons_succ, List.getElem_cons_zero])
                refine held_take 11 _ _ rfl (by kernel_rfl) (by kernel_rfl) (by kernel_rfl) (fun _ _ _ h => h) (by rfl) hHeld1 (fun w hSw => by (try dsimp only at hSw); go_simp; try with_reducible rfl) ?_
                (try simp only [Act.put, List.setIfInBounds_toArray, List.set_cons_zero, List.set_cons_succ, List.getElem_toArray, List.getElem_cons_succ, List.getElem_cons_zero])
                refine held_take 12 _ _ rfl (by kernel_rfl) (by kernel_rfl) (by kernel_rfl) (fun _ _ _ h => h) (by rfl) hHeld1 (fun w hSw => by (try dsimp only at hSw); go_simp; try with_reducible rfl) ?_
                (try simp only [Act.put, List.setIfInBounds_toArray, List.set_cons_zero, List.set_cons_succ, List.getElem_toArray, List.getElem_cons_succ, List.getElem_cons_zero])
                refine held_take 13 _ _ rfl (by kernel_rfl) (by kernel_rfl) (by kernel_rfl) (fun _ _ _ h => h) (by rfl) hHeld1 (fun w hSw => by (try dsimp only at hSw); go_simp; try with_reducible rfl) ?_
                (try simp only [Act.put, List.setIfInBounds_toArray, List.set_cons_zero, List.set_cons_succ, List.getElem_toArray, List.getElem_cons_succ, List.getElem_cons_zero])
                refine held_take 14 _ _ rfl (by kernel_rfl) (by kernel_rfl) (by kernel_rfl) (fun _ _ _ h => h) (by rfl) hHeld1 (fun w hSw => by (try dsimp only at hSw); go_simp; try with_reducible rfl) ?_
                (try simp only [Act.put, List.setIfInBounds_toArray, List.set_cons_zero, List.set_cons_succ, List.getElem_toArray, List.getElem_cons_succ, List.getElem_cons_zero])
                refine held_take 15 _ _ rfl (by kernel_rfl) (by kernel_rfl) (by kernel_rfl) (fun _ _ _ h => h) (by rfl) hHeld1 (fun w hSw => by (try dsimp only at hSw); go_simp; try with_reducible rfl) ?_
                (try simp only [Act.put, List.setIfInBounds_toArray, List.set_cons_zero, List.set_cons_succ, List.getElem_toArray, List.getElem_cons_succ, List.getElem_cons_zero])
                refine held_take 16 _ _ rfl (by kernel_rfl) (by kernel_rfl) (by kernel_rfl) (fun _ _ _ h => h) (by rfl) hHeld1 (fun w hSw => by (try dsimp only at hSw); go_simp; try with_reducible rfl) ?_
                (try simp only [Act.put, List.setIfInBounds_toArray, List.set_cons_zero, List.set_cons_succ, List.getElem_toArray, List.getElem_cons_succ, List.getElem_cons_zero])
                refine wpAnyH_ready (rs := [17]) (by kernel_rfl) (by simp) ?_
                refine AllReadyH.cons rfl (fun K hK => ?_) AllReadyH.nil
                rw [if_pos (by rfl)]
                go_wp2_with (first | (go_at_call 30; (with_reducible refine (c2 _ (hHeld1).2.2.2.2).mono ?_); rintro e wk ⟨rfl, hwk⟩; subst hwk))
                refine hK.out _ _ (hHeld1) (fun hHeld2 => ?_)
                clear hK K
                (try simp only [Act.put, List.setIfInBounds_toArray, List.set_cons_zero, List.set_cons_succ, List.getElem_toArray, List.getElem_cons_succ, List.getElem_cons_zero])
                refine held_take 18 _ _ rfl (by kernel_rfl) (by kernel_rfl) (by kernel_rfl) (fun _ _ _ h => h) (by rfl) hHeld2 (fun w hSw => by (try dsimp only at hSw); go_simp; try with_reducible rfl) ?_
                (try simp only [Act.put, List.setIfInBounds_toArray, List.set_cons_zero, List.set_cons_succ, List.getElem_toArray, List.getElem_cons_succ, List.getElem_cons_zero])
                refine held_take 19 _ _ rfl (by kernel_rfl) (by kernel_rfl) (by kernel_rfl) (fun _ _ _ h => h) (by rfl) hHeld2 (fun w hSw => by (try dsimp only at hSw); go_simp; try with_reducible rfl) ?_
                (try simp only [Act.put, List.setIfInBounds_toArray, List.set_cons_zero, List.set_cons_succ, List.getElem_toArray, List.getElem_cons_succ, List.getElem_cons_zero])
                refine wpAnyH_done (by kernel_rfl) ?_ _
                have hbF := hb2.trans ((hHeld2).2.2.2.2.mono hbz2)
                clear hS0 hHeld2 c1 c2 HK hcy
                go_wp2_with fail
                go_roundw
                case rel => exact ⟨j + 1, by omega, by go_num, hbF⟩
                case measure => simp [intOf]; omega
            · have hjli : ¬ (j : Int) < ((addL Lc Ld).length : Int) := by omega
              have hjd := decide_eq_false hjli
              have hcc := ((hb2).cell (p := ⟨w9.heap.size, 0, none⟩) hl_bc).trans HC_bc.out
              have c1 := ci_IsWithin Lc a_c c_c (addL Lc Ld) a_y c_y wv (S_c.out.below hb2) (R_y.out.slw.below hb2) (by omega) (by omega)
              rw [HWC.out] at c1
              go_wp2_with fail
              refine c1.mono ?_
              rintro e wy8 ⟨rfl, hb8⟩
              have hb3 := hb2.trans (hb8.mono hbz2)
              clear c1 hcy hcc
              have hcd := ((hb3).cell (p := ⟨w9.heap.size + 1, 0, none⟩) hl_bd).trans HC_bd.out
              have hcy := ((hb3).cell (p := ⟨w12.heap.size, 0, none⟩) hl_by).trans HC_by.out
              have c1 := ci_IsWithin Ld a_d c_d (addL Lc Ld) a_y c_y wy8 (S_d.out.below hb3) (R_y.out.slw.below hb3) (by omega) (by omega)
              rw [HWD.out] at c1
              go_wp2_with fail
              refine c1.mono ?_
              rintro e wy9 ⟨rfl, hb9⟩
              have hb4 := hb3.trans (hb9.mono hb3.size)
              have hW3 := hW.trans (hb4.mono hWz)
              clear c1 hcd hcy
              go_wp2_with fail
              go_ret
              exact ⟨rfl, hW3⟩

set_option maxRecDepth 100000 in
set_option maxHeartbeats 800000 in
theorem FnCombined.walk (p0 : Option Addr) (len0 cap0 : Nat) (z0 : List Int) (W : World) (r0 : IsRow .u8 W p0 len0 cap0 z0) (_ : W.ShapedOpen Try.prog) :
    Calls Try.prog 4 #[.slice p0 len0 cap0] W fun e w' => e = .returned (.bool true) ∧ Below W.heap.size W w' := by
  by_cases hl : len0 ≤ 1048576
  · exact fnCombined_small p0 len0 cap0 z0 W r0 hl
  · have cb := big_any p0 len0 cap0 W (row_maxLen r0)
    rw [decide_eq_true (show 1048576 < len0 by omega)] at cb
    go_enter Try.func4, Try.ntmps4
    go_wp2_with fail
    refine cb.mono ?_
    rintro e w0 ⟨rfl, rfl⟩
    go_wp2_with fail
    go_ret
    exact ⟨rfl, Below.refl _ _⟩
end Go.Proofs.Ytljfiiohiolbnaa
