/-
  THE WALK OF THE LAW FnApery: at every drawn code both sides agree; the least elements of the classes tell the greatest gap and the number of gaps, and give the semigroup back (written by fn_apery.py of the verifier's own).
-/
import Derived.Test.YtfocaloploekmaaRows
import Derived.Test.YtfocaloploekmaaDrw11
import Derived.Test.YtfocaloploekmaaC3
import Derived.Test.YtfocaloploekmaaC6
import Derived.Test.YtfocaloploekmaaC4
import Derived.Deep.DeepCutAuto
namespace Go.Proofs.Ytfocaloploekmaa
open Go Go.RowKit

theorem apery_law (G : List Int) (n : Int) (i : Nat) (hi : i < (aperyL G n).length) : ∃ (x N : Nat), n = (N : Int) ∧ 1 ≤ N ∧ N ≤ 60 ∧ (aperyL G n)[i]? = some (x : Int) ∧ x < 260 ∧ x % N = i ∧ hasN G (x : Int) = true ∧ (N ≤ x → hasN G ((x : Int) - (N : Int)) = false) := by
  rcases aperyL_cases G n with h | ⟨N, rfl, hA, -⟩
  · rw [h] at hi; cases hi
  · rw [aperyL_length hA] at hi
    obtain ⟨x, h1, h2, h3, h4, h5⟩ := aperyL_at hA i hi
    exact ⟨x, N, rfl, hA.pos, hA.le, h1, h4, h2, by rw [hasN_in hA.sg x]; exact h3, fun hx => by rw [show (x : Int) - (N : Int) = ((x - N : Nat) : Int) by omega, hasN_in hA.sg (x - N)]; exact h5 hx⟩
theorem apery_back (G : List Int) (n : Int) (h : aperyL G n ≠ []) : fromApB (aperyL G n) = true ∧ fromApL (aperyL G n) = G ∧ frobA G n = frobN G ∧ genusA G n = genusN G := by
  rcases aperyL_cases G n with h' | ⟨N, rfl, hA, -⟩
  · exact absurd h' h
  · obtain ⟨h1, h2⟩ := fromAp_apery hA
    exact ⟨h1, h2, frobA_in hA, genusA_in hA⟩
theorem keep2 {W wr w1 : World} {b1 b2 o2 : Nat} {v1 v2 : Value} (h1 : b1 < W.heap.size) (h2 : b2 < W.heap.size)
    (h : wr.cell? ⟨b1, 0, none⟩ = some v1 ∧ wr.cell? ⟨b2, o2, none⟩ = some v2 ∧ Below W.heap.size W wr) (hb : Below wr.heap.size wr w1) :
    w1.cell? ⟨b1, 0, none⟩ = some v1 ∧ w1.cell? ⟨b2, o2, none⟩ = some v2 ∧ Below W.heap.size W w1 := by
  obtain ⟨e1, e2, hB⟩ := h
  have hs := hB.size
  exact ⟨(hb.cell (p := ⟨b1, 0, none⟩) (Nat.lt_of_lt_of_le h1 hs)).trans e1, (hb.cell (p := ⟨b2, o2, none⟩) (Nat.lt_of_lt_of_le h2 hs)).trans e2, hB.trans (hb.mono hs)⟩
theorem keep3 {W wr w1 : World} {b1 b2 b3 : Nat} {v1 v2 v3 : Value} (h1 : b1 < W.heap.size) (h2 : b2 < W.heap.size) (h3 : b3 < W.heap.size)
    (h : wr.cell? ⟨b1, 0, none⟩ = some v1 ∧ wr.cell? ⟨b2, 0, none⟩ = some v2 ∧ wr.cell? ⟨b3, 0, none⟩ = some v3 ∧ Below W.heap.size W wr) (hb : Below wr.heap.size wr w1) :
    w1.cell? ⟨b1, 0, none⟩ = some v1 ∧ w1.cell? ⟨b2, 0, none⟩ = some v2 ∧ w1.cell? ⟨b3, 0, none⟩ = some v3 ∧ Below W.heap.size W w1 := by
  obtain ⟨e1, e2, e3, hB⟩ := h
  have hs := hB.size
  exact ⟨(hb.cell (p := ⟨b1, 0, none⟩) (Nat.lt_of_lt_of_le h1 hs)).trans e1, (hb.cell (p := ⟨b2, 0, none⟩) (Nat.lt_of_lt_of_le h2 hs)).trans e2, (hb.cell (p := ⟨b3, 0, none⟩) (Nat.lt_of_lt_of_le h3 hs)).trans e3, hB.trans (hb.mono hs)⟩

set_option maxRecDepth 100000 in
set_option maxHeartbeats 12800000 in
theorem fnApery_small (p0 : Option Addr) (len0 cap0 : Nat) (z0 : List Int) (W : World) (r0 : IsRow .u8 W p0 len0 cap0 z0) (hl : len0 ≤ 1048576) :
    Calls Try.prog 3 #[.slice p0 len0 cap0] W fun e w' => e = .returned (.bool true) ∧ Below W.heap.size W w' := by
  have HR := Lib.hid r0
  clear r0
  have hW : Below W.heap.size W W := Below.refl _ _
  go_enter Try.func3, Try.ntmps3
  have c := big_b p0 len0 cap0 W (by unfold maxLen; omega)
  rw [decide_eq_false (show ¬ 1048576 < len0 by omega)] at c
  go_wp2_with fail
  refine c.mono ?_
  rintro e w1 ⟨rfl, hb⟩
  clear c
  have z1 := hb.size
  replace hW := hW.trans (hb.mono hW.size)
  clear hb
  have c := DrawAperySet_any w1 p0 len0 cap0 z0 (HR.out.below hW) hl
  go_wp2_with fail
  refine c.mono ?_
  rintro e w2 ⟨Ls, a_s, c_s, n, hl_s, hB_s, hn64, rfl, hs, hb⟩
  clear c
  have z2 := hb.size
  replace hW := hW.trans (hb.mono hW.size)
  have S_s := Lib.hid hs
  clear hs hb hB_s
  obtain ⟨w3, hwb⟩ : ∃ wb, wb = w2.alloc (.cells #[.slice a_s Ls.length c_s] 26) := ⟨_, rfl⟩
  have hb : Below w2.heap.size w2 w3 := by rw [hwb]; exact box_below _ _
  have hA : Arr w3 w2.heap.size 26 [.slice a_s Ls.length c_s] := by rw [hwb]; exact Arr.new _ _ _
  replace S_s := Lib.hid (S_s.out.below hb)
  have z3 := hb.size
  replace hW := hW.trans (hb.mono hW.size)
  have y3 : w2.heap.size < w3.heap.size := hA.lt
  have B_bs := Lib.hid hA
  have H_w3 := Lib.hid hwb
  clear hwb hb hA
  have hM60 := aperyL_len_le Ls n
  have c := ci_AperySet Ls a_s c_s n w3 S_s.out (by omega) hn64.1 hn64.2
  have hk_bs : w3.cell? ⟨w2.heap.size, 0, none⟩ = some (.slice a_s Ls.length c_s) := B_bs.out.cell 0
  rw [H_w3.out] at hk_bs
  go_wp2_with fail
  rw [← H_w3.out]
  refine c.mono ?_
  rintro e w4 ⟨v, rfl, ho, hb⟩
  clear c
  clear hk_bs
  obtain ⟨a_l, c_l, rfl, rX⟩ := row_open ho
  clear ho
  replace S_s := Lib.hid (S_s.out.below hb)
  replace B_bs := Lib.hid (B_bs.out.below hb)
  have z4 := hb.size
  replace hW := hW.trans (hb.mono hW.size)
  have R_l := Lib.hid rX
  clear rX hb
  have c := DrawFromApery_any w4 p0 len0 cap0 z0 (HR.out.below hW) hl
  have hk_bs : w4.cell? ⟨w2.heap.size, 0, none⟩ = some (.slice a_s Ls.length c_s) := B_bs.out.cell 0
  go_wp2_with fail
  refine c.mono ?_
  rintro e w5 ⟨Ld, v, hl_d, hB_d, rfl, ho, hb⟩
  clear c
  clear hk_bs
  obtain ⟨a_d, c_d, rfl, rX⟩ := row_open ho
  clear ho
  replace S_s := Lib.hid (S_s.out.below hb)
  replace B_bs := Lib.hid (B_bs.out.below hb)
  replace R_l := Lib.hid (R_l.out.below hb)
  have z5 := hb.size
  replace hW := hW.trans (hb.mono hW.size)
  have R_d := Lib.hid rX
  clear rX hb hB_d
  have HX : Hid (fromApB Ld = true → aperyL (fromApL Ld) (Ld.length : Int) = Ld) := Lib.hid fun h => (fromApB_sg h).2
  have hx12 := fromApL_len Ld
  obtain ⟨q, hq⟩ : ∃ q, q = fromApB Ld := ⟨_, rfl⟩
  have HQ : Hid (fromApB Ld = q) := Lib.hid hq.symm
  clear hq
  have c := ci_FromApery Ld a_d c_d w5 R_d.out.slw (by omega)
  rw [HQ.out] at c
  have hk_bs : w5.cell? ⟨w2.heap.size, 0, none⟩ = some (.slice a_s Ls.length c_s) := B_bs.out.cell 0
  go_wp2_with fail
  refine c.mono ?_
  rintro e w6 ⟨v, rfl, ho, hb⟩
  clear c
  clear hk_bs
  obtain ⟨a_x, c_x, rfl, rX⟩ := row_open ho
  clear ho
  replace S_s := Lib.hid (S_s.out.below hb)
  replace B_bs := Lib.hid (B_bs.out.below hb)
  replace R_l := Lib.hid (R_l.out.below hb)
  replace R_d := Lib.hid (R_d.out.below hb)
  have z6 := hb.size
  replace hW := hW.trans (hb.mono hW.size)
  have R_x := Lib.hid rX
  clear rX hb
  obtain ⟨w7, hwb⟩ : ∃ wb, wb = w6.alloc (.cells #[.slice a_x (fromApL Ld).length c_x] 26) := ⟨_, rfl⟩
  have hb : Below w6.heap.size w6 w7 := by rw [hwb]; exact box_below _ _
  have hA : Arr w7 w6.heap.size 26 [.slice a_x (fromApL Ld).length c_x] := by rw [hwb]; exact Arr.new _ _ _
  replace S_s := Lib.hid (S_s.out.below hb)
  replace B_bs := Lib.hid (B_bs.out.below hb)
  replace R_l := Lib.hid (R_l.out.below hb)
  replace R_d := Lib.hid (R_d.out.below hb)
  replace R_x := Lib.hid (R_x.out.below hb)
  have z7 := hb.size
  replace hW := hW.trans (hb.mono hW.size)
  have y7 : w6.heap.size < w7.heap.size := hA.lt
  have B_bx := Lib.hid hA
  have H_w7 := Lib.hid hwb
  clear hwb hb hA
  have c := cs_FromApery Ld a_d c_d w7 R_d.out.slw (by omega)
  rw [HQ.out] at c
  have hk_bs : w7.cell? ⟨w2.heap.size, 0, none⟩ = some (.slice a_s Ls.length c_s) := B_bs.out.cell 0
  have hk_bx : w7.cell? ⟨w6.heap.size, 0, none⟩ = some (.slice a_x (fromApL Ld).length c_x) := B_bx.out.cell 0
  rw [H_w7.out] at hk_bs hk_bx
  go_wp2_with fail
  rw [← H_w7.out]
  refine c.mono ?_
  rintro e w8 ⟨v, rfl, ho, hb⟩
  clear c
  clear hk_bs hk_bx
  obtain ⟨a_w, c_w, rfl, rX⟩ := row_open ho
  clear ho
  replace S_s := Lib.hid (S_s.out.below hb)
  replace B_bs := Lib.hid (B_bs.out.below hb)
  replace R_l := Lib.hid (R_l.out.below hb)
  replace R_d := Lib.hid (R_d.out.below hb)
  replace R_x := Lib.hid (R_x.out.below hb)
  replace B_bx := Lib.hid (B_bx.out.below hb)
  have z8 := hb.size
  replace hW := hW.trans (hb.mono hW.size)
  have R_w := Lib.hid rX
  clear rX hb
  obtain ⟨w9, hwb⟩ : ∃ wb, wb = w8.alloc (.cells #[.slice a_w (fromApL Ld).length c_w] 26) := ⟨_, rfl⟩
  have hb : Below w8.heap.size w8 w9 := by rw [hwb]; exact box_below _ _
  have hA : Arr w9 w8.heap.size 26 [.slice a_w (fromApL Ld).length c_w] := by rw [hwb]; exact Arr.new _ _ _
  replace S_s := Lib.hid (S_s.out.below hb)
  replace B_bs := Lib.hid (B_bs.out.below hb)
  replace R_l := Lib.hid (R_l.out.below hb)
  replace R_d := Lib.hid (R_d.out.below hb)
  replace R_x := Lib.hid (R_x.out.below hb)
  replace B_bx := Lib.hid (B_bx.out.below hb)
  replace R_w := Lib.hid (R_w.out.below hb)
  have z9 := hb.size
  replace hW := hW.trans (hb.mono hW.size)
  have y9 : w8.heap.size < w9.heap.size := hA.lt
  have B_bw := Lib.hid hA
  have H_w9 := Lib.hid hwb
  clear hwb hb hA
  have hl_bs := B_bs.out.lt
  have hl_bx := B_bx.out.lt
  have hl_bw := B_bw.out.lt
  have hB9 : Below w9.heap.size w9 w9 := Below.refl _ _
  have hk_bs : w9.cell? ⟨w2.heap.size, 0, none⟩ = some (.slice a_s Ls.length c_s) := B_bs.out.cell 0
  have hk_bx : w9.cell? ⟨w6.heap.size, 0, none⟩ = some (.slice a_x (fromApL Ld).length c_x) := B_bx.out.cell 0
  have hk_bw : w9.cell? ⟨w8.heap.size, 0, none⟩ = some (.slice a_w (fromApL Ld).length c_w) := B_bw.out.cell 0
  rw [H_w9.out] at hk_bs hk_bx hk_bw
  go_upto_region 8 with fail
  rw [← H_w9.out]
  go_cut [64] (fun s64 wx => s64 = Value.bool false ∧ Below w9.heap.size w9 wx)
  case first =>
    clear hk_bs hk_bx hk_bw
    cases q
    · skip
      have c := cs_AperySet Ls a_s c_s n w9 S_s.out (by omega) hn64.1 hn64.2
      have hk_bs : w9.cell? ⟨w2.heap.size, 0, none⟩ = some (.slice a_s Ls.length c_s) := B_bs.out.cell 0
      have hk_bx : w9.cell? ⟨w6.heap.size, 0, none⟩ = some (.slice a_x (fromApL Ld).length c_x) := B_bx.out.cell 0
      have hk_bw : w9.cell? ⟨w8.heap.size, 0, none⟩ = some (.slice a_w (fromApL Ld).length c_w) := B_bw.out.cell 0
      go_wp2_with fail
      refine c.mono ?_
      rintro e w10 ⟨v, rfl, ho, hb⟩
      clear c
      clear hk_bs hk_bx hk_bw
      obtain ⟨a_q, c_q, rfl, rX⟩ := row_open ho
      clear ho
      replace S_s := Lib.hid (S_s.out.below hb)
      replace B_bs := Lib.hid (B_bs.out.below hb)
      replace R_l := Lib.hid (R_l.out.below hb)
      replace R_d := Lib.hid (R_d.out.below hb)
      replace R_x := Lib.hid (R_x.out.below hb)
      replace B_bx := Lib.hid (B_bx.out.below hb)
      replace R_w := Lib.hid (R_w.out.below hb)
      replace B_bw := Lib.hid (B_bw.out.below hb)
      have z10 := hb.size
      replace hW := hW.trans (hb.mono hW.size)
      replace hB9 := hB9.trans (hb.mono hB9.size)
      have R_q := Lib.hid rX
      clear rX
      clear hb
      have c := sameInts_any (aperyL Ls n) (aperyL Ls n) a_l a_q c_l c_q w10 R_l.out.slv R_q.out.slv (by omega) (by omega)
      rw [decide_eq_true (rfl : aperyL Ls n = aperyL Ls n)] at c
      have hk_bs : w10.cell? ⟨w2.heap.size, 0, none⟩ = some (.slice a_s Ls.length c_s) := B_bs.out.cell 0
      have hk_bx : w10.cell? ⟨w6.heap.size, 0, none⟩ = some (.slice a_x (fromApL Ld).length c_x) := B_bx.out.cell 0
      have hk_bw : w10.cell? ⟨w8.heap.size, 0, none⟩ = some (.slice a_w (fromApL Ld).length c_w) := B_bw.out.cell 0
      go_wp2_with fail
      refine c.mono ?_
      rintro e w11 ⟨rfl, hb⟩
      clear c
      clear hk_bs hk_bx hk_bw
      replace S_s := Lib.hid (S_s.out.below hb)
      replace B_bs := Lib.hid (B_bs.out.below hb)
      replace R_l := Lib.hid (R_l.out.below hb)
      replace R_d := Lib.hid (R_d.out.below hb)
      replace R_x := Lib.hid (R_x.out.below hb)
      replace B_bx := Lib.hid (B_bx.out.below hb)
      replace R_w := Lib.hid (R_w.out.below hb)
      replace B_bw := Lib.hid (B_bw.out.below hb)
      replace R_q := Lib.hid (R_q.out.below hb)
      have z11 := hb.size
      replace hW := hW.trans (hb.mono hW.size)
      replace hB9 := hB9.trans (hb.mono hB9.size)
      clear hb
      have c := cs_EqualSemigroup (fromApL Ld) a_x c_x (fromApL Ld) a_w c_w w11 R_x.out.slw R_w.out.slw (by omega) (by omega)
      rw [decide_eq_true (rfl : fromApL Ld = fromApL Ld)] at c
      have hk_bs : w11.cell? ⟨w2.heap.size, 0, none⟩ = some (.slice a_s Ls.length c_s) := B_bs.out.cell 0
      have hk_bx : w11.cell? ⟨w6.heap.size, 0, none⟩ = some (.slice a_x (fromApL Ld).length c_x) := B_bx.out.cell 0
      have hk_bw : w11.cell? ⟨w8.heap.size, 0, none⟩ = some (.slice a_w (fromApL Ld).length c_w) := B_bw.out.cell 0
      go_wp2_with fail
      refine c.mono ?_
      rintro e w12 ⟨rfl, hb⟩
      clear c
      clear hk_bs hk_bx hk_bw
      replace S_s := Lib.hid (S_s.out.below hb)
      replace B_bs := Lib.hid (B_bs.out.below hb)
      replace R_l := Lib.hid (R_l.out.below hb)
      replace R_d := Lib.hid (R_d.out.below hb)
      replace R_x := Lib.hid (R_x.out.below hb)
      replace B_bx := Lib.hid (B_bx.out.below hb)
      replace R_w := Lib.hid (R_w.out.below hb)
      replace B_bw := Lib.hid (B_bw.out.below hb)
      replace R_q := Lib.hid (R_q.out.below hb)
      have z12 := hb.size
      replace hW := hW.trans (hb.mono hW.size)
      replace hB9 := hB9.trans (hb.mono hB9.size)
      clear hb
      have hk_bs : w12.cell? ⟨w2.heap.size, 0, none⟩ = some (.slice a_s Ls.length c_s) := B_bs.out.cell 0
      have hk_bx : w12.cell? ⟨w6.heap.size, 0, none⟩ = some (.slice a_x (fromApL Ld).length c_x) := B_bx.out.cell 0
      have hk_bw : w12.cell? ⟨w8.heap.size, 0, none⟩ = some (.slice a_w (fromApL Ld).length c_w) := B_bw.out.cell 0
      go_wp2_with fail
      go_meet
      exact ⟨rfl, hB9⟩
    · skip
      have c := cs_AperySet Ls a_s c_s n w9 S_s.out (by omega) hn64.1 hn64.2
      have hk_bs : w9.cell? ⟨w2.heap.size, 0, none⟩ = some (.slice a_s Ls.length c_s) := B_bs.out.cell 0
      have hk_bx : w9.cell? ⟨w6.heap.size, 0, none⟩ = some (.slice a_x (fromApL Ld).length c_x) := B_bx.out.cell 0
      have hk_bw : w9.cell? ⟨w8.heap.size, 0, none⟩ = some (.slice a_w (fromApL Ld).length c_w) := B_bw.out.cell 0
      go_wp2_with fail
      refine c.mono ?_
      rintro e w10 ⟨v, rfl, ho, hb⟩
      clear c
      clear hk_bs hk_bx hk_bw
      obtain ⟨a_q, c_q, rfl, rX⟩ := row_open ho
      clear ho
      replace S_s := Lib.hid (S_s.out.below hb)
      replace B_bs := Lib.hid (B_bs.out.below hb)
      replace R_l := Lib.hid (R_l.out.below hb)
      replace R_d := Lib.hid (R_d.out.below hb)
      replace R_x := Lib.hid (R_x.out.below hb)
      replace B_bx := Lib.hid (B_bx.out.below hb)
      replace R_w := Lib.hid (R_w.out.below hb)
      replace B_bw := Lib.hid (B_bw.out.below hb)
      have z10 := hb.size
      replace hW := hW.trans (hb.mono hW.size)
      replace hB9 := hB9.trans (hb.mono hB9.size)
      have R_q := Lib.hid rX
      clear rX
      clear hb
      have c := sameInts_any (aperyL Ls n) (aperyL Ls n) a_l a_q c_l c_q w10 R_l.out.slv R_q.out.slv (by omega) (by omega)
      rw [decide_eq_true (rfl : aperyL Ls n = aperyL Ls n)] at c
      have hk_bs : w10.cell? ⟨w2.heap.size, 0, none⟩ = some (.slice a_s Ls.length c_s) := B_bs.out.cell 0
      have hk_bx : w10.cell? ⟨w6.heap.size, 0, none⟩ = some (.slice a_x (fromApL Ld).length c_x) := B_bx.out.cell 0
      have hk_bw : w10.cell? ⟨w8.heap.size, 0, none⟩ = some (.slice a_w (fromApL Ld).length c_w) := B_bw.out.cell 0
      go_wp2_with fail
      refine c.mono ?_
      rintro e w11 ⟨rfl, hb⟩
      clear c
      clear hk_bs hk_bx hk_bw
      replace S_s := Lib.hid (S_s.out.below hb)
      replace B_bs := Lib.hid (B_bs.out.below hb)
      replace R_l := Lib.hid (R_l.out.below hb)
      replace R_d := Lib.hid (R_d.out.below hb)
      replace R_x := Lib.hid (R_x.out.below hb)
      replace B_bx := Lib.hid (B_bx.out.below hb)
      replace R_w := Lib.hid (R_w.out.below hb)
      replace B_bw := Lib.hid (B_bw.out.below hb)
      replace R_q := Lib.hid (R_q.out.below hb)
      have z11 := hb.size
      replace hW := hW.trans (hb.mono hW.size)
      replace hB9 := hB9.trans (hb.mono hB9.size)
      clear hb
      have c := cs_EqualSemigroup (fromApL Ld) a_x c_x (fromApL Ld) a_w c_w w11 R_x.out.slw R_w.out.slw (by omega) (by omega)
      rw [decide_eq_true (rfl : fromApL Ld = fromApL Ld)] at c
      have hk_bs : w11.cell? ⟨w2.heap.size, 0, none⟩ = some (.slice a_s Ls.length c_s) := B_bs.out.cell 0
      have hk_bx : w11.cell? ⟨w6.heap.size, 0, none⟩ = some (.slice a_x (fromApL Ld).length c_x) := B_bx.out.cell 0
      have hk_bw : w11.cell? ⟨w8.heap.size, 0, none⟩ = some (.slice a_w (fromApL Ld).length c_w) := B_bw.out.cell 0
      go_wp2_with fail
      refine c.mono ?_
      rintro e w12 ⟨rfl, hb⟩
      clear c
      clear hk_bs hk_bx hk_bw
      replace S_s := Lib.hid (S_s.out.below hb)
      replace B_bs := Lib.hid (B_bs.out.below hb)
      replace R_l := Lib.hid (R_l.out.below hb)
      replace R_d := Lib.hid (R_d.out.below hb)
      replace R_x := Lib.hid (R_x.out.below hb)
      replace B_bx := Lib.hid (B_bx.out.below hb)
      replace R_w := Lib.hid (R_w.out.below hb)
      replace B_bw := Lib.hid (B_bw.out.below hb)
      replace R_q := Lib.hid (R_q.out.below hb)
      have z12 := hb.size
      replace hW := hW.trans (hb.mono hW.size)
      replace hB9 := hB9.trans (hb.mono hB9.size)
      clear hb
      have c := ci_AperySet (fromApL Ld) a_x c_x (Ld.length : Int) w12 R_x.out.slw (by omega) (by omega) (by omega)
      rw [HX.out HQ.out] at c
      have hk_bs : w12.cell? ⟨w2.heap.size, 0, none⟩ = some (.slice a_s Ls.length c_s) := B_bs.out.cell 0
      have hk_bx : w12.cell? ⟨w6.heap.size, 0, none⟩ = some (.slice a_x (fromApL Ld).length c_x) := B_bx.out.cell 0
      have hk_bw : w12.cell? ⟨w8.heap.size, 0, none⟩ = some (.slice a_w (fromApL Ld).length c_w) := B_bw.out.cell 0
      go_wp2_with fail
      refine c.mono ?_
      rintro e w13 ⟨v, rfl, ho, hb⟩
      clear c
      clear hk_bs hk_bx hk_bw
      obtain ⟨a_r, c_r, rfl, rX⟩ := row_open ho
      clear ho
      replace S_s := Lib.hid (S_s.out.below hb)
      replace B_bs := Lib.hid (B_bs.out.below hb)
      replace R_l := Lib.hid (R_l.out.below hb)
      replace R_d := Lib.hid (R_d.out.below hb)
      replace R_x := Lib.hid (R_x.out.below hb)
      replace B_bx := Lib.hid (B_bx.out.below hb)
      replace R_w := Lib.hid (R_w.out.below hb)
      replace B_bw := Lib.hid (B_bw.out.below hb)
      replace R_q := Lib.hid (R_q.out.below hb)
      have z13 := hb.size
      replace hW := hW.trans (hb.mono hW.size)
      replace hB9 := hB9.trans (hb.mono hB9.size)
      have R_r := Lib.hid rX
      clear rX
      clear hb
      have c := sameInts_any Ld Ld a_r a_d c_r c_d w13 R_r.out.slv R_d.out.slv (by omega) (by omega)
      rw [decide_eq_true (rfl : Ld = Ld)] at c
      have hk_bs : w13.cell? ⟨w2.heap.size, 0, none⟩ = some (.slice a_s Ls.length c_s) := B_bs.out.cell 0
      have hk_bx : w13.cell? ⟨w6.heap.size, 0, none⟩ = some (.slice a_x (fromApL Ld).length c_x) := B_bx.out.cell 0
      have hk_bw : w13.cell? ⟨w8.heap.size, 0, none⟩ = some (.slice a_w (fromApL Ld).length c_w) := B_bw.out.cell 0
      go_wp2_with fail
      refine c.mono ?_
      rintro e w14 ⟨rfl, hb⟩
      clear c
      clear hk_bs hk_bx hk_bw
      replace S_s := Lib.hid (S_s.out.below hb)
      replace B_bs := Lib.hid (B_bs.out.below hb)
      replace R_l := Lib.hid (R_l.out.below hb)
      replace R_d := Lib.hid (R_d.out.below hb)
      replace R_x := Lib.hid (R_x.out.below hb)
      replace B_bx := Lib.hid (B_bx.out.below hb)
      replace R_w := Lib.hid (R_w.out.below hb)
      replace B_bw := Lib.hid (B_bw.out.below hb)
      replace R_q := Lib.hid (R_q.out.below hb)
      replace R_r := Lib.hid (R_r.out.below hb)
      have z14 := hb.size
      replace hW := hW.trans (hb.mono hW.size)
      replace hB9 := hB9.trans (hb.mono hB9.size)
      clear hb
      have hk_bs : w14.cell? ⟨w2.heap.size, 0, none⟩ = some (.slice a_s Ls.length c_s) := B_bs.out.cell 0
      have hk_bx : w14.cell? ⟨w6.heap.size, 0, none⟩ = some (.slice a_x (fromApL Ld).length c_x) := B_bx.out.cell 0
      have hk_bw : w14.cell? ⟨w8.heap.size, 0, none⟩ = some (.slice a_w (fromApL Ld).length c_w) := B_bw.out.cell 0
      go_wp2_with fail
      go_meet
      exact ⟨rfl, hB9⟩
  case rest =>
    rename World => wq
    obtain ⟨rfl, hb⟩ := hcut
    clear hB9 HX HQ hl_bs hl_bx hl_bw
    clear hk_bs hk_bx hk_bw
    replace S_s := Lib.hid (S_s.out.below hb)
    replace B_bs := Lib.hid (B_bs.out.below hb)
    replace R_l := Lib.hid (R_l.out.below hb)
    replace R_d := Lib.hid (R_d.out.below hb)
    replace R_x := Lib.hid (R_x.out.below hb)
    replace B_bx := Lib.hid (B_bx.out.below hb)
    replace R_w := Lib.hid (R_w.out.below hb)
    replace B_bw := Lib.hid (B_bw.out.below hb)
    have z10 := hb.size
    replace hW := hW.trans (hb.mono hW.size)
    clear hb HR hl
    clear R_d
    clear R_x
    clear R_w
    clear B_bx
    clear B_bw
    have HA := Lib.hid (aperyL_cases Ls n)
    have HAT : Hid (∀ i : Nat, i < (aperyL Ls n).length → ∃ (x N : Nat), n = (N : Int) ∧ 1 ≤ N ∧ N ≤ 60 ∧ (aperyL Ls n)[i]? = some (x : Int) ∧ x < 260 ∧ x % N = i ∧ hasN Ls (x : Int) = true ∧ (N ≤ x → hasN Ls ((x : Int) - (N : Int)) = false)) := Lib.hid (apery_law Ls n)
    have HE : Hid (aperyL Ls n = [] → frobA Ls n = -1 ∧ genusA Ls n = -1) := Lib.hid fun h => frobA_no h
    have HB : Hid (aperyL Ls n ≠ [] → fromApB (aperyL Ls n) = true ∧ fromApL (aperyL Ls n) = Ls ∧ frobA Ls n = frobN Ls ∧ genusA Ls n = genusN Ls) := Lib.hid (apery_back Ls n)
    generalize aperyL Ls n = M at *
    have hlbs : w2.heap.size < wq.heap.size := B_bs.out.lt
    go_wp2_with fail
    go_loopw [11] (fun v wr => ∃ i : Nat, i ≤ M.length ∧ v = .int .i64 (i : Int) ∧ Below wq.heap.size wq wr) (fun v _ => M.length - (intOf v).toNat)
    case atStart => exact ⟨0, Nat.zero_le _, rfl, Below.refl _ _⟩
    case round =>
      obtain ⟨i, hi, rfl, hbel⟩ := hrel
      have hbW := hW.trans (hbel.mono hW.size)
      have hk : wr.cell? ⟨w2.heap.size, 0, none⟩ = some (.slice a_s Ls.length c_s) := (B_bs.out.below hbel).cell 0
      by_cases hlt : i < M.length
      · obtain ⟨x, N, rfl, hN1, hN60, hMx, hx260, hmod, hin, hout⟩ := HAT.out i hlt
        have hRl := R_l.out.below hbel
        obtain ⟨gl, off, rfl, hgl, hcl⟩ := hRl.slv.open (by intro e; rw [List.map_eq_nil_iff] at e; subst e; simp at hlt)
        have hcx : wr.cell? ⟨gl, off + i, none⟩ = some (.int .i64 (x : Int)) := hcl i _ (by rw [List.getElem?_map, hMx]; rfl)
        have hi0 : (0 : Int) ≤ (i : Int) := by omega
        have hi1 : (i : Int) < (M.length : Int) := by omega
        have hN0 : ((N : Int) == 0) = false := by rw [beq_eq_false_iff_ne]; omega
        have hNn : ¬ (N : Int) = 0 := by omega
        have hNm : ¬ N = 0 := by omega
        have hrem : Int.tmod (x : Int) (N : Int) = (i : Int) := by rw [Int.tmod_eq_emod_of_nonneg (by omega)]; omega
        have hwi : IntKind.i64.wrap (i : Int) = (i : Int) := IntWalk.i64_in _ (by omega)
        have hwx : IntKind.i64.wrap ((x : Int) - (N : Int)) = (x : Int) - (N : Int) := IntWalk.i64_in _ (by omega)
        have HSW := Lib.hid (S_s.out.below hbel)
        clear hRl hcl hMx
        go_wp2_with fail
        have hS0 : wr.drew.cell? ⟨w2.heap.size, 0, none⟩ = some (.slice a_s Ls.length c_s) ∧ wr.drew.cell? ⟨gl, off + i, none⟩ = some (.int .i64 (x : Int)) ∧ Below wr.heap.size wr wr.drew := ⟨hk, hcx, (Below.refl _ _).drew⟩
        by_cases hge : N ≤ x
        · have hd : decide ((N : Int) ≤ (x : Int)) = true := decide_eq_true (by omega)
          refine wp_region_held_drew (S := fun w' => w'.cell? ⟨w2.heap.size, 0, none⟩ = some (.slice a_s Ls.length c_s) ∧ w'.cell? ⟨gl, off + i, none⟩ = some (.int .i64 (x : Int)) ∧ Below wr.heap.size wr w') (by kernel_rfl) hS0 (fun hHeld => ?_)
          refine held_take 0 _ _ rfl (by kernel_rfl) (by kernel_rfl) (by kernel_rfl) (fun _ _ _ h => h) (by rfl) hHeld (fun w hSw => by (try dsimp only at hSw); go_simp; try with_reducible rfl) ?_
          (try simp only [Act.put, List.setIfInBounds_toArray, List.set_cons_zero, List.set_cons_succ, List.getElem_toArray, List.getElem_cons_zero])
          refine held_take 1 _ _ rfl (by kernel_rfl) (by kernel_rfl) (by kernel_rfl) (fun _ _ _ h => h) (by rfl) hHeld (fun w hSw => by (try dsimp only at hSw); go_simp; try with_reducible rfl) ?_
          (try simp only [Act.put, List.setIfInBounds_toArray, List.set_cons_zero, List.set_cons_succ, List.getElem_toArray, List.getElem_cons_succ, List.getElem_cons_zero])
          refine held_take 2 _ _ rfl (by kernel_rfl) (by kernel_rfl) (by kernel_rfl) (fun _ _ _ h => h) (by rfl) hHeld (fun w hSw => by (try dsimp only at hSw); go_simp; try with_reducible rfl) ?_
          (try simp only [Act.put, List.setIfInBounds_toArray, List.set_cons_zero, List.set_cons_succ, List.getElem_toArray, List.getElem_cons_succ, List.getElem_cons_zero])
          refine held_take 3 _ _ rfl (by kernel_rfl) (by kernel_rfl) (by kernel_rfl) (fun _ _ _ h => h) (by rfl) hHeld (fun w hSw => by (try dsimp only at hSw); go_simp; try with_reducible rfl) ?_
          (try simp only [Act.put, List.setIfInBounds_toArray, List.set_cons_zero, List.set_cons_succ, List.getElem_toArray, List.getElem_cons_succ, List.getElem_cons_zero])
          refine held_take 4 _ _ rfl (by kernel_rfl) (by kernel_rfl) (by kernel_rfl) (fun _ _ _ h => h) (by rfl) hHeld (fun w hSw => by (try dsimp only at hSw); go_simp; try with_reducible rfl) ?_
          (try simp only [Act.put, List.setIfInBounds_toArray, List.set_cons_zero, List.set_cons_succ, List.getElem_toArray, List.getElem_cons_succ, List.getElem_cons_zero])
          refine held_take 5 _ _ rfl (by kernel_rfl) (by kernel_rfl) (by kernel_rfl) (fun _ _ _ h => h) (by rfl) hHeld (fun w hSw => by (try dsimp only at hSw); go_simp; try with_reducible rfl) ?_
          (try simp only [Act.put, List.setIfInBounds_toArray, List.set_cons_zero, List.set_cons_succ, List.getElem_toArray, List.getElem_cons_succ, List.getElem_cons_zero])
          refine held_take 6 _ _ rfl (by kernel_rfl) (by kernel_rfl) (by kernel_rfl) (fun _ _ _ h => h) (by rfl) hHeld (fun w hSw => by (try dsimp only at hSw); go_simp; try with_reducible rfl) ?_
          (try simp only [Act.put, List.setIfInBounds_toArray, List.set_cons_zero, List.set_cons_succ, List.getElem_toArray, List.getElem_cons_succ, List.getElem_cons_zero])
          refine held_take 7 _ _ rfl (by kernel_rfl) (by kernel_rfl) (by kernel_rfl) (fun _ _ _ h => h) (by rfl) hHeld (fun w hSw => by (try dsimp only at hSw); go_simp; try with_reducible rfl) ?_
          (try simp only [Act.put, List.setIfInBounds_toArray, List.set_cons_zero, List.set_cons_succ, List.getElem_toArray, List.getElem_cons_succ, List.getElem_cons_zero])
          refine held_take 8 _ _ rfl (by kernel_rfl) (by kernel_rfl) (by kernel_rfl) (fun _ _ _ h => h) (by rfl) hHeld (fun w hSw => by (try dsimp only at hSw); go_simp; try with_reducible rfl) ?_
          (try simp only [Act.put, List.setIfInBounds_toArray, List.set_cons_zero, List.set_cons_succ, List.getElem_toArray, List.getElem_cons_succ, List.getElem_cons_zero])
          refine held_take 9 _ _ rfl (by kernel_rfl) (by kernel_rfl) (by kernel_rfl) (fun _ _ _ h => h) (by rfl) hHeld (fun w hSw => by (try dsimp only at hSw); go_simp; try with_reducible rfl) ?_
          (try simp only [Act.put, List.setIfInBounds_toArray, List.set_cons_zero, List.set_cons_succ, List.getElem_toArray, List.getElem_cons_succ, List.getElem_cons_zero])
          refine held_take 10 _ _ rfl (by kernel_rfl) (by kernel_rfl) (by kernel_rfl) (fun _ _ _ h => h) (by rfl) hHeld (fun w hSw => by (try dsimp only at hSw); go_simp; try with_reducible rfl) ?_
          (try simp only [Act.put, List.setIfInBounds_toArray, List.set_cons_zero, List.set_cons_succ, List.getElem_toArray, List.getElem_cons_succ, List.getElem_cons_zero])
          refine held_take 11 _ _ rfl (by kernel_rfl) (by kernel_rfl) (by kernel_rfl) (fun _ _ _ h => h) (by rfl) hHeld (fun w hSw => by (try dsimp only at hSw); go_simp; try with_reducible rfl) ?_
          (try simp only [Act.put, List.setIfInBounds_toArray, List.set_cons_zero, List.set_cons_succ, List.getElem_toArray, List.getElem_cons_succ, List.getElem_cons_zero])
          refine held_take 12 _ _ rfl (by kernel_rfl) (by kernel_rfl) (by kernel_rfl) (fun _ _ _ h => h) (by rfl) hHeld (fun w hSw => by (try dsimp only at hSw); go_simp; try with_reducible rfl) ?_
          (try simp only [Act.put, List.setIfInBounds_toArray, List.set_cons_zero, List.set_cons_succ, List.getElem_toArray, List.getElem_cons_succ, List.getElem_cons_zero])
          refine held_take 13 _ _ rfl (by kernel_rfl) (by kernel_rfl) (by kernel_rfl) (fun _ _ _ h => h) (by rfl) hHeld (fun w hSw => by (try dsimp only at hSw); go_simp; try with_reducible rfl) ?_
          (try simp only [Act.put, List.setIfInBounds_toArray, List.set_cons_zero, List.set_cons_succ, List.getElem_toArray, List.getElem_cons_succ, List.getElem_cons_zero])
          refine wpAnyH_ready (rs := [14]) (by kernel_rfl) (by simp) ?_
          refine AllReadyH.cons rfl (fun K hK => ?_) AllReadyH.nil
          rw [if_pos (by rfl)]
          go_wp2_with (first | (go_at_call 17; have c := cs_Contains Ls a_s c_s (x : Int) _ (HSW.out.below hHeld.2.2) (by omega) (by omega) (by omega); rw [hin] at c; (with_reducible refine c.mono ?_); rintro e wk ⟨rfl, hbk⟩; clear c))
          refine hK.out _ _ (keep2 (Nat.lt_of_lt_of_le hlbs hbel.size) hgl hHeld hbk) (fun hHeld1 => ?_)
          clear hK K
          (try simp only [Act.put, List.setIfInBounds_toArray, List.set_cons_zero, List.set_cons_succ, List.getElem_toArray, List.getElem_cons_succ, List.getElem_cons_zero])
          refine held_take 15 _ _ rfl (by kernel_rfl) (by kernel_rfl) (by kernel_rfl) (fun _ _ _ h => h) (by rfl) hHeld1 (fun w hSw => by (try dsimp only at hSw); go_simp; try with_reducible rfl) ?_
          (try simp only [Act.put, List.setIfInBounds_toArray, List.set_cons_zero, List.set_cons_succ, List.getElem_toArray, List.getElem_cons_succ, List.getElem_cons_zero])
          refine held_take 16 _ _ rfl (by kernel_rfl) (by kernel_rfl) (by kernel_rfl) (fun _ _ _ h => h) (by rfl) hHeld1 (fun w hSw => by (try dsimp only at hSw); go_simp; try with_reducible rfl) ?_
          (try simp only [Act.put, List.setIfInBounds_toArray, List.set_cons_zero, List.set_cons_succ, List.getElem_toArray, List.getElem_cons_succ, List.getElem_cons_zero])
          refine held_take 17 _ _ rfl (by kernel_rfl) (by kernel_rfl) (by kernel_rfl) (fun _ _ _ h => h) (by rfl) hHeld1 (fun w hSw => by (try dsimp only at hSw); go_simp; try with_reducible rfl) ?_
          (try simp only [Act.put, List.setIfInBounds_toArray, List.set_cons_zero, List.set_cons_succ, List.getElem_toArray, List.getElem_cons_succ, List.getElem_cons_zero])
          refine held_take 18 _ _ rfl (by kernel_rfl) (by kernel_rfl) (by kernel_rfl) (fun _ _ _ h => h) (by rfl) hHeld1 (fun w hSw => by (try dsimp only at hSw); go_simp; try with_reducible rfl) ?_
          (try simp only [Act.put, List.setIfInBounds_toArray, List.set_cons_zero, List.set_cons_succ, List.getElem_toArray, List.getElem_cons_succ, List.getElem_cons_zero])
          refine held_take 19 _ _ rfl (by kernel_rfl) (by kernel_rfl) (by kernel_rfl) (fun _ _ _ h => h) (by rfl) hHeld1 (fun w hSw => by (try dsimp only at hSw); go_simp; try with_reducible rfl) ?_
          (try simp only [Act.put, List.setIfInBounds_toArray, List.set_cons_zero, List.set_cons_succ, List.getElem_toArray, List.getElem_cons_succ, List.getElem_cons_zero])
          refine held_take 20 _ _ rfl (by kernel_rfl) (by kernel_rfl) (by kernel_rfl) (fun _ _ _ h => h) (by rfl) hHeld1 (fun w hSw => by (try dsimp only at hSw); go_simp; try with_reducible rfl) ?_
          (try simp only [Act.put, List.setIfInBounds_toArray, List.set_cons_zero, List.set_cons_succ, List.getElem_toArray, List.getElem_cons_succ, List.getElem_cons_zero])
          refine held_take 21 _ _ rfl (by kernel_rfl) (by kernel_rfl) (by kernel_rfl) (fun _ _ _ h => h) (by rfl) hHeld1 (fun w hSw => by (try dsimp only at hSw); go_simp; try with_reducible rfl) ?_
          (try simp only [Act.put, List.setIfInBounds_toArray, List.set_cons_zero, List.set_cons_succ, List.getElem_toArray, List.getElem_cons_succ, List.getElem_cons_zero])
          refine held_take 22 _ _ rfl (by kernel_rfl) (by kernel_rfl) (by kernel_rfl) (fun _ _ _ h => h) (by rfl) hHeld1 (fun w hSw => by (try dsimp only at hSw); go_simp; try with_reducible rfl) ?_
          (try simp only [Act.put, List.setIfInBounds_toArray, List.set_cons_zero, List.set_cons_succ, List.getElem_toArray, List.getElem_cons_succ, List.getElem_cons_zero])
          refine held_take 23 _ _ rfl (by kernel_rfl) (by kernel_rfl) (by kernel_rfl) (fun _ _ _ h => h) (by rfl) hHeld1 (fun w hSw => by (try dsimp only at hSw); go_simp; try with_reducible rfl) ?_
          (try simp only [Act.put, List.setIfInBounds_toArray, List.set_cons_zero, List.set_cons_succ, List.getElem_toArray, List.getElem_cons_succ, List.getElem_cons_zero])
          refine held_take 24 _ _ rfl (by kernel_rfl) (by kernel_rfl) (by kernel_rfl) (fun _ _ _ h => h) (by rfl) hHeld1 (fun w hSw => by (try dsimp only at hSw); go_simp; try with_reducible rfl) ?_
          (try simp only [Act.put, List.setIfInBounds_toArray, List.set_cons_zero, List.set_cons_succ, List.getElem_toArray, List.getElem_cons_succ, List.getElem_cons_zero])
          refine held_take 25 _ _ rfl (by kernel_rfl) (by kernel_rfl) (by kernel_rfl) (fun _ _ _ h => h) (by rfl) hHeld1 (fun w hSw => by (try dsimp only at hSw); go_simp; try with_reducible rfl) ?_
          (try simp only [Act.put, List.setIfInBounds_toArray, List.set_cons_zero, List.set_cons_succ, List.getElem_toArray, List.getElem_cons_succ, List.getElem_cons_zero])
          refine held_take 26 _ _ rfl (by kernel_rfl) (by kernel_rfl) (by kernel_rfl) (fun _ _ _ h => h) (by rfl) hHeld1 (fun w hSw => by (try dsimp only at hSw); go_simp; try with_reducible rfl) ?_
          (try simp only [Act.put, List.setIfInBounds_toArray, List.set_cons_zero, List.set_cons_succ, List.getElem_toArray, List.getElem_cons_succ, List.getElem_cons_zero])
          refine held_take 27 _ _ rfl (by kernel_rfl) (by kernel_rfl) (by kernel_rfl) (fun _ _ _ h => h) (by rfl) hHeld1 (fun w hSw => by (try dsimp only at hSw); go_simp; try with_reducible rfl) ?_
          (try simp only [Act.put, List.setIfInBounds_toArray, List.set_cons_zero, List.set_cons_succ, List.getElem_toArray, List.getElem_cons_succ, List.getElem_cons_zero])
          refine held_take 28 _ _ rfl (by kernel_rfl) (by kernel_rfl) (by kernel_rfl) (fun _ _ _ h => h) (by rfl) hHeld1 (fun w hSw => by (try dsimp only at hSw); go_simp; try with_reducible rfl) ?_
          (try simp only [Act.put, List.setIfInBounds_toArray, List.set_cons_zero, List.set_cons_succ, List.getElem_toArray, List.getElem_cons_succ, List.getElem_cons_zero])
          refine held_take 29 _ _ rfl (by kernel_rfl) (by kernel_rfl) (by kernel_rfl) (fun _ _ _ h => h) (by rfl) hHeld1 (fun w hSw => by (try dsimp only at hSw); go_simp; try with_reducible rfl) ?_
          (try simp only [Act.put, List.setIfInBounds_toArray, List.set_cons_zero, List.set_cons_succ, List.getElem_toArray, List.getElem_cons_succ, List.getElem_cons_zero])
          refine held_take 30 _ _ rfl (by kernel_rfl) (by kernel_rfl) (by kernel_rfl) (fun _ _ _ h => h) (by rfl) hHeld1 (fun w hSw => by (try dsimp only at hSw); go_simp; try with_reducible rfl) ?_
          (try simp only [Act.put, List.setIfInBounds_toArray, List.set_cons_zero, List.set_cons_succ, List.getElem_toArray, List.getElem_cons_succ, List.getElem_cons_zero])
          refine held_take 31 _ _ rfl (by kernel_rfl) (by kernel_rfl) (by kernel_rfl) (fun _ _ _ h => h) (by rfl) hHeld1 (fun w hSw => by (try dsimp only at hSw); go_simp; try with_reducible rfl) ?_
          (try simp only [Act.put, List.setIfInBounds_toArray, List.set_cons_zero, List.set_cons_succ, List.getElem_toArray, List.getElem_cons_succ, List.getElem_cons_zero])
          refine wpAnyH_ready (rs := [32]) (by kernel_rfl) (by simp) ?_
          refine AllReadyH.cons rfl (fun K hK => ?_) AllReadyH.nil
          rw [if_pos (by rfl)]
          go_wp2_with (first | (go_at_call 17; have c := cs_Contains Ls a_s c_s ((x : Int) - (N : Int)) _ (HSW.out.below hHeld1.2.2) (by omega) (by omega) (by omega); rw [hout hge] at c; (with_reducible refine c.mono ?_); rintro e wk ⟨rfl, hbk⟩; clear c))
          refine hK.out _ _ (keep2 (Nat.lt_of_lt_of_le hlbs hbel.size) hgl hHeld1 hbk) (fun hHeld2 => ?_)
          clear hK K
          (try simp only [Act.put, List.setIfInBounds_toArray, List.set_cons_zero, List.set_cons_succ, List.getElem_toArray, List.getElem_cons_succ, List.getElem_cons_zero])
          refine held_take 33 _ _ rfl (by kernel_rfl) (by kernel_rfl) (by kernel_rfl) (fun _ _ _ h => h) (by rfl) hHeld2 (fun w hSw => by (try dsimp only at hSw); go_simp; try with_reducible rfl) ?_
          (try simp only [Act.put, List.setIfInBounds_toArray, List.set_cons_zero, List.set_cons_succ, List.getElem_toArray, List.getElem_cons_succ, List.getElem_cons_zero])
          refine held_take 34 _ _ rfl (by kernel_rfl) (by kernel_rfl) (by kernel_rfl) (fun _ _ _ h => h) (by rfl) hHeld2 (fun w hSw => by (try dsimp only at hSw); go_simp; try with_reducible rfl) ?_
          (try simp only [Act.put, List.setIfInBounds_toArray, List.set_cons_zero, List.set_cons_succ, List.getElem_toArray, List.getElem_cons_succ, List.getElem_cons_zero])
          refine wpAnyH_done (by kernel_rfl) ?_ _
          have hBz := hbel.trans (hHeld2.2.2.mono hbel.size)
          clear hS0
          go_wp2_with fail
          go_roundw
          case rel => exact ⟨i + 1, by omega, by go_num, hBz⟩
          case measure => simp [intOf]; omega
        · have hd : decide ((N : Int) ≤ (x : Int)) = false := decide_eq_false (by omega)
          refine wp_region_held_drew (S := fun w' => w'.cell? ⟨w2.heap.size, 0, none⟩ = some (.slice a_s Ls.length c_s) ∧ w'.cell? ⟨gl, off + i, none⟩ = some (.int .i64 (x : Int)) ∧ Below wr.heap.size wr w') (by kernel_rfl) hS0 (fun hHeld => ?_)
          refine held_take 0 _ _ rfl (by kernel_rfl) (by kernel_rfl) (by kernel_rfl) (fun _ _ _ h => h) (by rfl) hHeld (fun w hSw => by (try dsimp only at hSw); go_simp; try with_reducible rfl) ?_
          (try simp only [Act.put, List.setIfInBounds_toArray, List.set_cons_zero, List.set_cons_succ, List.getElem_toArray, List.getElem_cons_zero])
          refine held_take 1 _ _ rfl (by kernel_rfl) (by kernel_rfl) (by kernel_rfl) (fun _ _ _ h => h) (by rfl) hHeld (fun w hSw => by (try dsimp only at hSw); go_simp; try with_reducible rfl) ?_
          (try simp only [Act.put, List.setIfInBounds_toArray, List.set_cons_zero, List.set_cons_succ, List.getElem_toArray, List.getElem_cons_succ, List.getElem_cons_zero])
          refine held_take 2 _ _ rfl (by kernel_rfl) (by kernel_rfl) (by kernel_rfl) (fun _ _ _ h => h) (by rfl) hHeld (fun w hSw => by (try dsimp only at hSw); go_simp; try with_reducible rfl) ?_
          (try simp only [Act.put, List.setIfInBounds_toArray, List.set_cons_zero, List.set_cons_succ, List.getElem_toArray, List.getElem_cons_succ, List.getElem_cons_zero])
          refine held_take 3 _ _ rfl (by kernel_rfl) (by kernel_rfl) (by kernel_rfl) (fun _ _ _ h => h) (by rfl) hHeld (fun w hSw => by (try dsimp only at hSw); go_simp; try with_reducible rfl) ?_
          (try simp only [Act.put, List.setIfInBounds_toArray, List.set_cons_zero, List.set_cons_succ, List.getElem_toArray, List.getElem_cons_succ, List.getElem_cons_zero])
          refine held_take 4 _ _ rfl (by kernel_rfl) (by kernel_rfl) (by kernel_rfl) (fun _ _ _ h => h) (by rfl) hHeld (fun w hSw => by (try dsimp only at hSw); go_simp; try with_reducible rfl) ?_
          (try simp only [Act.put, List.setIfInBounds_toArray, List.set_cons_zero, List.set_cons_succ, List.getElem_toArray, List.getElem_cons_succ, List.getElem_cons_zero])
          refine held_take 5 _ _ rfl (by kernel_rfl) (by kernel_rfl) (by kernel_rfl) (fun _ _ _ h => h) (by rfl) hHeld (fun w hSw => by (try dsimp only at hSw); go_simp; try with_reducible rfl) ?_
          (try simp only [Act.put, List.setIfInBounds_toArray, List.set_cons_zero, List.set_cons_succ, List.getElem_toArray, List.getElem_cons_succ, List.getElem_cons_zero])
          refine held_take 6 _ _ rfl (by kernel_rfl) (by kernel_rfl) (by kernel_rfl) (fun _ _ _ h => h) (by rfl) hHeld (fun w hSw => by (try dsimp only at hSw); go_simp; try with_reducible rfl) ?_
          (try simp only [Act.put, List.setIfInBounds_toArray, List.set_cons_zero, List.set_cons_succ, List.getElem_toArray, List.getElem_cons_succ, List.getElem_cons_zero])
          refine held_take 7 _ _ rfl (by kernel_rfl) (by kernel_rfl) (by kernel_rfl) (fun _ _ _ h => h) (by rfl) hHeld (fun w hSw => by (try dsimp only at hSw); go_simp; try with_reducible rfl) ?_
          (try simp only [Act.put, List.setIfInBounds_toArray, List.set_cons_zero, List.set_cons_succ, List.getElem_toArray, List.getElem_cons_succ, List.getElem_cons_zero])
          refine held_take 8 _ _ rfl (by kernel_rfl) (by kernel_rfl) (by kernel_rfl) (fun _ _ _ h => h) (by rfl) hHeld (fun w hSw => by (try dsimp only at hSw); go_simp; try with_reducible rfl) ?_
          (try simp only [Act.put, List.setIfInBounds_toArray, List.set_cons_zero, List.set_cons_succ, List.getElem_toArray, List.getElem_cons_succ, List.getElem_cons_zero])
          refine held_take 9 _ _ rfl (by kernel_rfl) (by kernel_rfl) (by kernel_rfl) (fun _ _ _ h => h) (by rfl) hHeld (fun w hSw => by (try dsimp only at hSw); go_simp; try with_reducible rfl) ?_
          (try simp only [Act.put, List.setIfInBounds_toArray, List.set_cons_zero, List.set_cons_succ, List.getElem_toArray, List.getElem_cons_succ, List.getElem_cons_zero])
          refine held_take 10 _ _ rfl (by kernel_rfl) (by kernel_rfl) (by kernel_rfl) (fun _ _ _ h => h) (by rfl) hHeld (fun w hSw => by (try dsimp only at hSw); go_simp; try with_reducible rfl) ?_
          (try simp only [Act.put, List.setIfInBounds_toArray, List.set_cons_zero, List.set_cons_succ, List.getElem_toArray, List.getElem_cons_succ, List.getElem_cons_zero])
          refine held_take 11 _ _ rfl (by kernel_rfl) (by kernel_rfl) (by kernel_rfl) (fun _ _ _ h => h) (by rfl) hHeld (fun w hSw => by (try dsimp only at hSw); go_simp; try with_reducible rfl) ?_
          (try simp only [Act.put, List.setIfInBounds_toArray, List.set_cons_zero, List.set_cons_succ, List.getElem_toArray, List.getElem_cons_succ, List.getElem_cons_zero])
          refine held_take 12 _ _ rfl (by kernel_rfl) (by kernel_rfl) (by kernel_rfl) (fun _ _ _ h => h) (by rfl) hHeld (fun w hSw => by (try dsimp only at hSw); go_simp; try with_reducible rfl) ?_
          (try simp only [Act.put, List.setIfInBounds_toArray, List.set_cons_zero, List.set_cons_succ, List.getElem_toArray, List.getElem_cons_succ, List.getElem_cons_zero])
          refine held_take 13 _ _ rfl (by kernel_rfl) (by kernel_rfl) (by kernel_rfl) (fun _ _ _ h => h) (by rfl) hHeld (fun w hSw => by (try dsimp only at hSw); go_simp; try with_reducible rfl) ?_
          (try simp only [Act.put, List.setIfInBounds_toArray, List.set_cons_zero, List.set_cons_succ, List.getElem_toArray, List.getElem_cons_succ, List.getElem_cons_zero])
          refine wpAnyH_ready (rs := [14]) (by kernel_rfl) (by simp) ?_
          refine AllReadyH.cons rfl (fun K hK => ?_) AllReadyH.nil
          rw [if_pos (by rfl)]
          go_wp2_with (first | (go_at_call 17; have c := cs_Contains Ls a_s c_s (x : Int) _ (HSW.out.below hHeld.2.2) (by omega) (by omega) (by omega); rw [hin] at c; (with_reducible refine c.mono ?_); rintro e wk ⟨rfl, hbk⟩; clear c))
          refine hK.out _ _ (keep2 (Nat.lt_of_lt_of_le hlbs hbel.size) hgl hHeld hbk) (fun hHeld1 => ?_)
          clear hK K
          (try simp only [Act.put, List.setIfInBounds_toArray, List.set_cons_zero, List.set_cons_succ, List.getElem_toArray, List.getElem_cons_succ, List.getElem_cons_zero])
          refine held_take 15 _ _ rfl (by kernel_rfl) (by kernel_rfl) (by kernel_rfl) (fun _ _ _ h => h) (by rfl) hHeld1 (fun w hSw => by (try dsimp only at hSw); go_simp; try with_reducible rfl) ?_
          (try simp only [Act.put, List.setIfInBounds_toArray, List.set_cons_zero, List.set_cons_succ, List.getElem_toArray, List.getElem_cons_succ, List.getElem_cons_zero])
          refine held_take 16 _ _ rfl (by kernel_rfl) (by kernel_rfl) (by kernel_rfl) (fun _ _ _ h => h) (by rfl) hHeld1 (fun w hSw => by (try dsimp only at hSw); go_simp; try with_reducible rfl) ?_
          (try simp only [Act.put, List.setIfInBounds_toArray, List.set_cons_zero, List.set_cons_succ, List.getElem_toArray, List.getElem_cons_succ, List.getElem_cons_zero])
          refine held_take 17 _ _ rfl (by kernel_rfl) (by kernel_rfl) (by kernel_rfl) (fun _ _ _ h => h) (by rfl) hHeld1 (fun w hSw => by (try dsimp only at hSw); go_simp; try with_reducible rfl) ?_
          (try simp only [Act.put, List.setIfInBounds_toArray, List.set_cons_zero, List.set_cons_succ, List.getElem_toArray, List.getElem_cons_succ, List.getElem_cons_zero])
          refine held_take 18 _ _ rfl (by kernel_rfl) (by kernel_rfl) (by kernel_rfl) (fun _ _ _ h => h) (by rfl) hHeld1 (fun w hSw => by (try dsimp only at hSw); go_simp; try with_reducible rfl) ?_
          (try simp only [Act.put, List.setIfInBounds_toArray, List.set_cons_zero, List.set_cons_succ, List.getElem_toArray, List.getElem_cons_succ, List.getElem_cons_zero])
          refine held_take 19 _ _ rfl (by kernel_rfl) (by kernel_rfl) (by kernel_rfl) (fun _ _ _ h => h) (by rfl) hHeld1 (fun w hSw => by (try dsimp only at hSw); go_simp; try with_reducible rfl) ?_
          (try simp only [Act.put, List.setIfInBounds_toArray, List.set_cons_zero, List.set_cons_succ, List.getElem_toArray, List.getElem_cons_succ, List.getElem_cons_zero])
          refine held_take 20 _ _ rfl (by kernel_rfl) (by kernel_rfl) (by kernel_rfl) (fun _ _ _ h => h) (by rfl) hHeld1 (fun w hSw => by (try dsimp only at hSw); go_simp; try with_reducible rfl) ?_
          (try simp only [Act.put, List.setIfInBounds_toArray, List.set_cons_zero, List.set_cons_succ, List.getElem_toArray, List.getElem_cons_succ, List.getElem_cons_zero])
          refine held_take 21 _ _ rfl (by kernel_rfl) (by kernel_rfl) (by kernel_rfl) (fun _ _ _ h => h) (by rfl) hHeld1 (fun w hSw => by (try dsimp only at hSw); go_simp; try with_reducible rfl) ?_
          (try simp only [Act.put, List.setIfInBounds_toArray, List.set_cons_zero, List.set_cons_succ, List.getElem_toArray, List.getElem_cons_succ, List.getElem_cons_zero])
          refine held_take 22 _ _ rfl (by kernel_rfl) (by kernel_rfl) (by kernel_rfl) (fun _ _ _ h => h) (by rfl) hHeld1 (fun w hSw => by (try dsimp only at hSw); go_simp; try with_reducible rfl) ?_
          (try simp only [Act.put, List.setIfInBounds_toArray, List.set_cons_zero, List.set_cons_succ, List.getElem_toArray, List.getElem_cons_succ, List.getElem_cons_zero])
          refine held_take 23 _ _ rfl (by kernel_rfl) (by kernel_rfl) (by kernel_rfl) (fun _ _ _ h => h) (by rfl) hHeld1 (fun w hSw => by (try dsimp only at hSw); go_simp; try with_reducible rfl) ?_
          (try simp only [Act.put, List.setIfInBounds_toArray, List.set_cons_zero, List.set_cons_succ, List.getElem_toArray, List.getElem_cons_succ, List.getElem_cons_zero])
          refine held_take 24 _ _ rfl (by kernel_rfl) (by kernel_rfl) (by kernel_rfl) (fun _ _ _ h => h) (by rfl) hHeld1 (fun w hSw => by (try dsimp only at hSw); go_simp; try with_reducible rfl) ?_
          (try simp only [Act.put, List.setIfInBounds_toArray, List.set_cons_zero, List.set_cons_succ, List.getElem_toArray, List.getElem_cons_succ, List.getElem_cons_zero])
          refine held_skip 25 _ rfl (by kernel_rfl) (by kernel_rfl) (by kernel_rfl) (fun _ _ _ h => h) (by rfl) hHeld1 ?_
          (try simp only [Act.put, List.setIfInBounds_toArray, List.set_cons_zero, List.set_cons_succ, List.getElem_toArray, List.getElem_cons_succ, List.getElem_cons_zero])
          refine held_skip 26 _ rfl (by kernel_rfl) (by kernel_rfl) (by kernel_rfl) (fun _ _ _ h => h) (by rfl) hHeld1 ?_
          (try simp only [Act.put, List.setIfInBounds_toArray, List.set_cons_zero, List.set_cons_succ, List.getElem_toArray, List.getElem_cons_succ, List.getElem_cons_zero])
          refine held_skip 27 _ rfl (by kernel_rfl) (by kernel_rfl) (by kernel_rfl) (fun _ _ _ h => h) (by rfl) hHeld1 ?_
          (try simp only [Act.put, List.setIfInBounds_toArray, List.set_cons_zero, List.set_cons_succ, List.getElem_toArray, List.getElem_cons_succ, List.getElem_cons_zero])
          refine held_skip 28 _ rfl (by kernel_rfl) (by kernel_rfl) (by kernel_rfl) (fun _ _ _ h => h) (by rfl) hHeld1 ?_
          (try simp only [Act.put, List.setIfInBounds_toArray, List.set_cons_zero, List.set_cons_succ, List.getElem_toArray, List.getElem_cons_succ, List.getElem_cons_zero])
          refine held_skip 29 _ rfl (by kernel_rfl) (by kernel_rfl) (by kernel_rfl) (fun _ _ _ h => h) (by rfl) hHeld1 ?_
          (try simp only [Act.put, List.setIfInBounds_toArray, List.set_cons_zero, List.set_cons_succ, List.getElem_toArray, List.getElem_cons_succ, List.getElem_cons_zero])
          refine held_skip 30 _ rfl (by kernel_rfl) (by kernel_rfl) (by kernel_rfl) (fun _ _ _ h => h) (by rfl) hHeld1 ?_
          (try simp only [Act.put, List.setIfInBounds_toArray, List.set_cons_zero, List.set_cons_succ, List.getElem_toArray, List.getElem_cons_succ, List.getElem_cons_zero])
          refine held_skip 31 _ rfl (by kernel_rfl) (by kernel_rfl) (by kernel_rfl) (fun _ _ _ h => h) (by rfl) hHeld1 ?_
          (try simp only [Act.put, List.setIfInBounds_toArray, List.set_cons_zero, List.set_cons_succ, List.getElem_toArray, List.getElem_cons_succ, List.getElem_cons_zero])
          refine held_skip 32 _ rfl (by kernel_rfl) (by kernel_rfl) (by kernel_rfl) (fun _ _ _ h => h) (by rfl) hHeld1 ?_
          (try simp only [Act.put, List.setIfInBounds_toArray, List.set_cons_zero, List.set_cons_succ, List.getElem_toArray, List.getElem_cons_succ, List.getElem_cons_zero])
          refine held_take 33 _ _ rfl (by kernel_rfl) (by kernel_rfl) (by kernel_rfl) (fun _ _ _ h => h) (by rfl) hHeld1 (fun w hSw => by (try dsimp only at hSw); go_simp; try with_reducible rfl) ?_
          (try simp only [Act.put, List.setIfInBounds_toArray, List.set_cons_zero, List.set_cons_succ, List.getElem_toArray, List.getElem_cons_succ, List.getElem_cons_zero])
          refine held_take 34 _ _ rfl (by kernel_rfl) (by kernel_rfl) (by kernel_rfl) (fun _ _ _ h => h) (by rfl) hHeld1 (fun w hSw => by (try dsimp only at hSw); go_simp; try with_reducible rfl) ?_
          (try simp only [Act.put, List.setIfInBounds_toArray, List.set_cons_zero, List.set_cons_succ, List.getElem_toArray, List.getElem_cons_succ, List.getElem_cons_zero])
          refine wpAnyH_done (by kernel_rfl) ?_ _
          have hBz := hbel.trans (hHeld1.2.2.mono hbel.size)
          clear hS0
          go_wp2_with fail
          go_roundw
          case rel => exact ⟨i + 1, by omega, by go_num, hBz⟩
          case measure => simp [intOf]; omega
      · obtain rfl : i = M.length := by omega
        by_cases hM : M = []
        · obtain ⟨hf, hg⟩ := HE.out hM
          subst hM
          have cf := ci_FrobeniusByApery Ls a_s c_s n wr (S_s.out.below hbel) (by omega) hn64.1 hn64.2
          rw [hf] at cf
          have cg := fun (w' : World) (h : Below wr.heap.size wr w') => ci_GenusByApery Ls a_s c_s n w' ((S_s.out.below hbel).below h) (by omega) hn64.1 hn64.2
          rw [hg] at cg
          have hlbr := Nat.lt_of_lt_of_le hlbs hbel.size
          go_wp2_with fail
          refine cf.mono ?_
          rintro e wk ⟨rfl, hbk⟩
          clear cf
          replace hk : wk.cell? ⟨w2.heap.size, 0, none⟩ = some (.slice a_s Ls.length c_s) := (hbk.cell (p := ⟨w2.heap.size, 0, none⟩) hlbr).trans hk
          have cg' := cg wk hbk
          clear cg
          go_wp2_with fail
          refine cg'.mono ?_
          rintro e wl ⟨rfl, hbl⟩
          go_wp2_with fail
          go_ret
          exact ⟨rfl, (hbW.trans (hbk.mono hbW.size)).trans (hbl.mono (hbW.trans (hbk.mono hbW.size)).size)⟩
        · obtain ⟨h1, h2, h3, h4⟩ := HB.out hM
          have hMl : 0 < M.length := List.length_pos_iff.2 hM
          have hne0 : ((M.length : Int) == 0) = false := by rw [beq_eq_false_iff_ne]; omega
          have hnez : ¬ M.length = 0 := by omega
          have H3 := Lib.hid h3
          have H4 := Lib.hid h4
          clear h3 h4 hk HA HAT HE HB
          replace S_s := Lib.hid (S_s.out.below hbel)
          replace B_bs := Lib.hid (B_bs.out.below hbel)
          replace R_l := Lib.hid (R_l.out.below hbel)
          have z11 := hbel.size
          replace hW := hW.trans (hbel.mono hW.size)
          clear hbel hbW
          have c := ci_FromApery M a_l c_l wr R_l.out.slw (by omega)
          rw [h1, h2] at c
          clear h1 h2
          have hk_bs : wr.cell? ⟨w2.heap.size, 0, none⟩ = some (.slice a_s Ls.length c_s) := B_bs.out.cell 0
          go_wp2_with fail
          refine c.mono ?_
          rintro e w12 ⟨v, rfl, ho, hb⟩
          clear c
          clear hk_bs
          obtain ⟨a_y, c_y, rfl, rX⟩ := row_open ho
          clear ho
          replace S_s := Lib.hid (S_s.out.below hb)
          replace B_bs := Lib.hid (B_bs.out.below hb)
          replace R_l := Lib.hid (R_l.out.below hb)
          have z12 := hb.size
          replace hW := hW.trans (hb.mono hW.size)
          have R_y := Lib.hid rX
          clear rX hb
          obtain ⟨w13, hwb⟩ : ∃ wb, wb = w12.alloc (.cells #[.slice a_y Ls.length c_y] 26) := ⟨_, rfl⟩
          have hb : Below w12.heap.size w12 w13 := by rw [hwb]; exact box_below _ _
          have hA : Arr w13 w12.heap.size 26 [.slice a_y Ls.length c_y] := by rw [hwb]; exact Arr.new _ _ _
          replace S_s := Lib.hid (S_s.out.below hb)
          replace B_bs := Lib.hid (B_bs.out.below hb)
          replace R_l := Lib.hid (R_l.out.below hb)
          replace R_y := Lib.hid (R_y.out.below hb)
          have z13 := hb.size
          replace hW := hW.trans (hb.mono hW.size)
          have y13 : w12.heap.size < w13.heap.size := hA.lt
          have B_by := Lib.hid hA
          have H_w13 := Lib.hid hwb
          clear hwb hb hA
          have hl_bs := B_bs.out.lt
          have hl_by := B_by.out.lt
          have hS0 : w13.drew.cell? ⟨w2.heap.size, 0, none⟩ = some (.slice a_s Ls.length c_s) ∧ w13.drew.cell? ⟨w12.heap.size, 0, none⟩ = some (.slice a_y Ls.length c_y) ∧ Below w13.heap.size w13 w13.drew := ⟨B_bs.out.cell 0, B_by.out.cell 0, (Below.refl _ _).drew⟩
          have fr := fun w' (h : w'.cell? ⟨w2.heap.size, 0, none⟩ = some (.slice a_s Ls.length c_s) ∧ w'.cell? ⟨w12.heap.size, 0, none⟩ = some (.slice a_y Ls.length c_y) ∧ Below w13.heap.size w13 w') => h.2.2
          have hk_bs : w13.cell? ⟨w2.heap.size, 0, none⟩ = some (.slice a_s Ls.length c_s) := B_bs.out.cell 0
          have hk_by : w13.cell? ⟨w12.heap.size, 0, none⟩ = some (.slice a_y Ls.length c_y) := B_by.out.cell 0
          rw [H_w13.out] at hk_bs hk_by
          go_wp2_with fail
          rw [← H_w13.out]
          clear hk_bs hk_by
          refine wp_region_held_drew (S := fun w' => w'.cell? ⟨w2.heap.size, 0, none⟩ = some (.slice a_s Ls.length c_s) ∧ w'.cell? ⟨w12.heap.size, 0, none⟩ = some (.slice a_y Ls.length c_y) ∧ Below w13.heap.size w13 w') (by kernel_rfl) hS0 (fun hHeld => ?_)
          refine held_take 0 _ _ rfl (by kernel_rfl) (by kernel_rfl) (by kernel_rfl) (fun _ _ _ h => h) (by rfl) hHeld (fun w hSw => by (try dsimp only at hSw); go_simp; try with_reducible rfl) ?_
          (try simp only [Act.put, List.setIfInBounds_toArray, List.set_cons_zero, List.set_cons_succ, List.getElem_toArray, List.getElem_cons_zero])
          refine held_take 1 _ _ rfl (by kernel_rfl) (by kernel_rfl) (by kernel_rfl) (fun _ _ _ h => h) (by rfl) hHeld (fun w hSw => by (try dsimp only at hSw); go_simp; try with_reducible rfl) ?_
          (try simp only [Act.put, List.setIfInBounds_toArray, List.set_cons_zero, List.set_cons_succ, List.getElem_toArray, List.getElem_cons_succ, List.getElem_cons_zero])
          refine held_take 3 _ _ rfl (by kernel_rfl) (by kernel_rfl) (by kernel_rfl) (fun _ _ _ h => h) (by rfl) hHeld (fun w hSw => by (try dsimp only at hSw); go_simp; try with_reducible rfl) ?_
          (try simp only [Act.put, List.setIfInBounds_toArray, List.set_cons_zero, List.set_cons_succ, List.getElem_toArray, List.getElem_cons_succ, List.getElem_cons_zero])
          refine wpAnyH_ready (rs := [2]) (by kernel_rfl) (by simp) ?_
          refine AllReadyH.cons rfl (fun K hK => ?_) AllReadyH.nil
          rw [if_pos (by rfl)]
          go_wp2_with (first | (go_at_call 18; have c := ci_FrobeniusByApery Ls a_s c_s n _ (S_s.out.below (fr _ hHeld)) (by omega) hn64.1 hn64.2; rw [H3.out] at c; (with_reducible refine c.mono ?_); rintro e wk ⟨rfl, hbk⟩; clear c))
          refine hK.out _ _ (keep2 hl_bs hl_by hHeld hbk) (fun hHeld1 => ?_)
          clear hK K
          (try simp only [Act.put, List.setIfInBounds_toArray, List.set_cons_zero, List.set_cons_succ, List.getElem_toArray, List.getElem_cons_succ, List.getElem_cons_zero])
          refine wpAnyH_ready (rs := [4]) (by kernel_rfl) (by simp) ?_
          refine AllReadyH.cons rfl (fun K hK => ?_) AllReadyH.nil
          rw [if_pos (by rfl)]
          go_wp2_with (first | (go_at_call 20; have c := cs_FrobeniusOf Ls a_s c_s _ (S_s.out.below (fr _ hHeld1)) (by omega); (with_reducible refine c.mono ?_); rintro e wk ⟨rfl, hbk⟩; clear c))
          refine hK.out _ _ (keep2 hl_bs hl_by hHeld1 hbk) (fun hHeld2 => ?_)
          clear hK K
          (try simp only [Act.put, List.setIfInBounds_toArray, List.set_cons_zero, List.set_cons_succ, List.getElem_toArray, List.getElem_cons_succ, List.getElem_cons_zero])
          refine held_take 5 _ _ rfl (by kernel_rfl) (by kernel_rfl) (by kernel_rfl) (fun _ _ _ h => h) (by rfl) hHeld2 (fun w hSw => by (try dsimp only at hSw); go_simp; try with_reducible rfl) ?_
          (try simp only [Act.put, List.setIfInBounds_toArray, List.set_cons_zero, List.set_cons_succ, List.getElem_toArray, List.getElem_cons_succ, List.getElem_cons_zero])
          refine held_take 6 _ _ rfl (by kernel_rfl) (by kernel_rfl) (by kernel_rfl) (fun _ _ _ h => h) (by rfl) hHeld2 (fun w hSw => by (try dsimp only at hSw); go_simp; try with_reducible rfl) ?_
          (try simp only [Act.put, List.setIfInBounds_toArray, List.set_cons_zero, List.set_cons_succ, List.getElem_toArray, List.getElem_cons_succ, List.getElem_cons_zero])
          refine held_take 7 _ _ rfl (by kernel_rfl) (by kernel_rfl) (by kernel_rfl) (fun _ _ _ h => h) (by rfl) hHeld2 (fun w hSw => by (try dsimp only at hSw); go_simp; try with_reducible rfl) ?_
          (try simp only [Act.put, List.setIfInBounds_toArray, List.set_cons_zero, List.set_cons_succ, List.getElem_toArray, List.getElem_cons_succ, List.getElem_cons_zero])
          refine held_take 8 _ _ rfl (by kernel_rfl) (by kernel_rfl) (by kernel_rfl) (fun _ _ _ h => h) (by rfl) hHeld2 (fun w hSw => by (try dsimp only at hSw); go_simp; try with_reducible rfl) ?_
          (try simp only [Act.put, List.setIfInBounds_toArray, List.set_cons_zero, List.set_cons_succ, List.getElem_toArray, List.getElem_cons_succ, List.getElem_cons_zero])
          refine held_take 10 _ _ rfl (by kernel_rfl) (by kernel_rfl) (by kernel_rfl) (fun _ _ _ h => h) (by rfl) hHeld2 (fun w hSw => by (try dsimp only at hSw); go_simp; try with_reducible rfl) ?_
          (try simp only [Act.put, List.setIfInBounds_toArray, List.set_cons_zero, List.set_cons_succ, List.getElem_toArray, List.getElem_cons_succ, List.getElem_cons_zero])
          refine wpAnyH_ready (rs := [9]) (by kernel_rfl) (by simp) ?_
          refine AllReadyH.cons rfl (fun K hK => ?_) AllReadyH.nil
          rw [if_pos (by rfl)]
          go_wp2_with (first | (go_at_call 19; have c := ci_GenusByApery Ls a_s c_s n _ (S_s.out.below (fr _ hHeld2)) (by omega) hn64.1 hn64.2; rw [H4.out] at c; (with_reducible refine c.mono ?_); rintro e wk ⟨rfl, hbk⟩; clear c))
          refine hK.out _ _ (keep2 hl_bs hl_by hHeld2 hbk) (fun hHeld3 => ?_)
          clear hK K
          (try simp only [Act.put, List.setIfInBounds_toArray, List.set_cons_zero, List.set_cons_succ, List.getElem_toArray, List.getElem_cons_succ, List.getElem_cons_zero])
          refine wpAnyH_ready (rs := [11]) (by kernel_rfl) (by simp) ?_
          refine AllReadyH.cons rfl (fun K hK => ?_) AllReadyH.nil
          rw [if_pos (by rfl)]
          go_wp2_with (first | (go_at_call 21; have c := cs_GenusOf Ls a_s c_s _ (S_s.out.below (fr _ hHeld3)) (by omega); (with_reducible refine c.mono ?_); rintro e wk ⟨rfl, hbk⟩; clear c))
          refine hK.out _ _ (keep2 hl_bs hl_by hHeld3 hbk) (fun hHeld4 => ?_)
          clear hK K
          (try simp only [Act.put, List.setIfInBounds_toArray, List.set_cons_zero, List.set_cons_succ, List.getElem_toArray, List.getElem_cons_succ, List.getElem_cons_zero])
          refine held_take 12 _ _ rfl (by kernel_rfl) (by kernel_rfl) (by kernel_rfl) (fun _ _ _ h => h) (by rfl) hHeld4 (fun w hSw => by (try dsimp only at hSw); go_simp; try with_reducible rfl) ?_
          (try simp only [Act.put, List.setIfInBounds_toArray, List.set_cons_zero, List.set_cons_succ, List.getElem_toArray, List.getElem_cons_succ, List.getElem_cons_zero])
          refine held_take 13 _ _ rfl (by kernel_rfl) (by kernel_rfl) (by kernel_rfl) (fun _ _ _ h => h) (by rfl) hHeld4 (fun w hSw => by (try dsimp only at hSw); go_simp; try with_reducible rfl) ?_
          (try simp only [Act.put, List.setIfInBounds_toArray, List.set_cons_zero, List.set_cons_succ, List.getElem_toArray, List.getElem_cons_succ, List.getElem_cons_zero])
          refine held_take 14 _ _ rfl (by kernel_rfl) (by kernel_rfl) (by kernel_rfl) (fun _ _ _ h => h) (by rfl) hHeld4 (fun w hSw => by (try dsimp only at hSw); go_simp; try with_reducible rfl) ?_
          (try simp only [Act.put, List.setIfInBounds_toArray, List.set_cons_zero, List.set_cons_succ, List.getElem_toArray, List.getElem_cons_succ, List.getElem_cons_zero])
          refine held_take 15 _ _ rfl (by kernel_rfl) (by kernel_rfl) (by kernel_rfl) (fun _ _ _ h => h) (by rfl) hHeld4 (fun w hSw => by (try dsimp only at hSw); go_simp; try with_reducible rfl) ?_
          (try simp only [Act.put, List.setIfInBounds_toArray, List.set_cons_zero, List.set_cons_succ, List.getElem_toArray, List.getElem_cons_succ, List.getElem_cons_zero])
          refine held_take 16 _ _ rfl (by kernel_rfl) (by kernel_rfl) (by kernel_rfl) (fun _ _ _ h => h) (by rfl) hHeld4 (fun w hSw => by (try dsimp only at hSw); go_simp; try with_reducible rfl) ?_
          (try simp only [Act.put, List.setIfInBounds_toArray, List.set_cons_zero, List.set_cons_succ, List.getElem_toArray, List.getElem_cons_succ, List.getElem_cons_zero])
          refine held_take 17 _ _ rfl (by kernel_rfl) (by kernel_rfl) (by kernel_rfl) (fun _ _ _ h => h) (by rfl) hHeld4 (fun w hSw => by (try dsimp only at hSw); go_simp; try with_reducible rfl) ?_
          (try simp only [Act.put, List.setIfInBounds_toArray, List.set_cons_zero, List.set_cons_succ, List.getElem_toArray, List.getElem_cons_succ, List.getElem_cons_zero])
          refine held_take 18 _ _ rfl (by kernel_rfl) (by kernel_rfl) (by kernel_rfl) (fun _ _ _ h => h) (by rfl) hHeld4 (fun w hSw => by (try dsimp only at hSw); go_simp; try with_reducible rfl) ?_
          (try simp only [Act.put, List.setIfInBounds_toArray, List.set_cons_zero, List.set_cons_succ, List.getElem_toArray, List.getElem_cons_succ, List.getElem_cons_zero])
          refine held_take 19 _ _ rfl (by kernel_rfl) (by kernel_rfl) (by kernel_rfl) (fun _ _ _ h => h) (by rfl) hHeld4 (fun w hSw => by (try dsimp only at hSw); go_simp; try with_reducible rfl) ?_
          (try simp only [Act.put, List.setIfInBounds_toArray, List.set_cons_zero, List.set_cons_succ, List.getElem_toArray, List.getElem_cons_succ, List.getElem_cons_zero])
          refine wpAnyH_ready (rs := [20]) (by kernel_rfl) (by simp) ?_
          refine AllReadyH.cons rfl (fun K hK => ?_) AllReadyH.nil
          rw [if_pos (by rfl)]
          go_wp2_with (first | (go_at_call 16; have c := cs_EqualSemigroup Ls a_y c_y Ls a_s c_s _ (R_y.out.slw.below (fr _ hHeld4)) (S_s.out.below (fr _ hHeld4)) (by omega) (by omega); rw [decide_eq_true (rfl : Ls = Ls)] at c; (with_reducible refine c.mono ?_); rintro e wk ⟨rfl, hbk⟩; clear c))
          refine hK.out _ _ (keep2 hl_bs hl_by hHeld4 hbk) (fun hHeld5 => ?_)
          clear hK K
          (try simp only [Act.put, List.setIfInBounds_toArray, List.set_cons_zero, List.set_cons_succ, List.getElem_toArray, List.getElem_cons_succ, List.getElem_cons_zero])
          refine held_take 21 _ _ rfl (by kernel_rfl) (by kernel_rfl) (by kernel_rfl) (fun _ _ _ h => h) (by rfl) hHeld5 (fun w hSw => by (try dsimp only at hSw); go_simp; try with_reducible rfl) ?_
          (try simp only [Act.put, List.setIfInBounds_toArray, List.set_cons_zero, List.set_cons_succ, List.getElem_toArray, List.getElem_cons_succ, List.getElem_cons_zero])
          refine held_take 22 _ _ rfl (by kernel_rfl) (by kernel_rfl) (by kernel_rfl) (fun _ _ _ h => h) (by rfl) hHeld5 (fun w hSw => by (try dsimp only at hSw); go_simp; try with_reducible rfl) ?_
          (try simp only [Act.put, List.setIfInBounds_toArray, List.set_cons_zero, List.set_cons_succ, List.getElem_toArray, List.getElem_cons_succ, List.getElem_cons_zero])
          refine wpAnyH_done (by kernel_rfl) ?_ _
          have hBz := hHeld5.2.2
          clear hS0 fr
          go_wp2_with fail
          go_ret
          exact ⟨rfl, hW.trans (hBz.mono hW.size)⟩

set_option maxRecDepth 100000 in
set_option maxHeartbeats 800000 in
theorem FnApery.walk (p0 : Option Addr) (len0 cap0 : Nat) (z0 : List Int) (W : World) (r0 : IsRow .u8 W p0 len0 cap0 z0) (_ : W.ShapedOpen Try.prog) :
    Calls Try.prog 3 #[.slice p0 len0 cap0] W fun e w' => e = .returned (.bool true) ∧ Below W.heap.size W w' := by
  by_cases hl : len0 ≤ 1048576
  · exact fnApery_small p0 len0 cap0 z0 W r0 hl
  · have cb := big_any p0 len0 cap0 W (row_maxLen r0)
    rw [decide_eq_true (show 1048576 < len0 by omega)] at cb
    go_enter Try.func3, Try.ntmps3
    go_wp2_with fail
    refine cb.mono ?_
    rintro e w0 ⟨rfl, rfl⟩
    go_wp2_with fail
    go_ret
    exact ⟨rfl, Below.refl _ _⟩
end Go.Proofs.Ytfocaloploekmaa
