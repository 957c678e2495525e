/-
  THE WALK OF THE LAW FnSemigroups: at every drawn code both sides agree; no generator is a sum of the others; what the numbers generate are the elements; elements add up (written by fn_semigroups.py of the verifier's own).
-/
import Derived.Test.YtjnkdefogmfcnaaRows
import Derived.Test.YtjnkdefogmfcnaaDrw7
import Derived.Test.YtjnkdefogmfcnaaC3
import Derived.Test.YtjnkdefogmfcnaaSgE
import Derived.Deep.DeepCutAuto
namespace Go.Proofs.Ytjnkdefogmfcnaa
open Go Go.RowKit

theorem keep6 {W wr w1 : World} {b1 b2 b3 b4 b5 b6 : Nat} {v1 v2 v3 v4 v5 v6 : Value} (h1 : b1 < W.heap.size) (h2 : b2 < W.heap.size) (h3 : b3 < W.heap.size) (h4 : b4 < W.heap.size) (h5 : b5 < W.heap.size) (h6 : b6 < W.heap.size)
    (h : wr.cell? ⟨b1, 0, none⟩ = some v1 ∧ wr.cell? ⟨b2, 0, none⟩ = some v2 ∧ wr.cell? ⟨b3, 0, none⟩ = some v3 ∧ wr.cell? ⟨b4, 0, none⟩ = some v4 ∧ wr.cell? ⟨b5, 0, none⟩ = some v5 ∧ wr.cell? ⟨b6, 0, none⟩ = some v6 ∧ Below W.heap.size W wr) (hb : Below wr.heap.size wr w1) :
    w1.cell? ⟨b1, 0, none⟩ = some v1 ∧ w1.cell? ⟨b2, 0, none⟩ = some v2 ∧ w1.cell? ⟨b3, 0, none⟩ = some v3 ∧ w1.cell? ⟨b4, 0, none⟩ = some v4 ∧ w1.cell? ⟨b5, 0, none⟩ = some v5 ∧ w1.cell? ⟨b6, 0, none⟩ = some v6 ∧ Below W.heap.size W w1 := by
  obtain ⟨e1, e2, e3, e4, e5, e6, hB⟩ := h
  have hs := hB.size
  exact ⟨(hb.cell (p := ⟨b1, 0, none⟩) (Nat.lt_of_lt_of_le h1 hs)).trans e1, (hb.cell (p := ⟨b2, 0, none⟩) (Nat.lt_of_lt_of_le h2 hs)).trans e2, (hb.cell (p := ⟨b3, 0, none⟩) (Nat.lt_of_lt_of_le h3 hs)).trans e3, (hb.cell (p := ⟨b4, 0, none⟩) (Nat.lt_of_lt_of_le h4 hs)).trans e4, (hb.cell (p := ⟨b5, 0, none⟩) (Nat.lt_of_lt_of_le h5 hs)).trans e5, (hb.cell (p := ⟨b6, 0, none⟩) (Nat.lt_of_lt_of_le h6 hs)).trans e6, hB.trans (hb.mono hs)⟩

theorem own_len {w : World} {lo t : Nat} {v : Value} {n : Nat} {xs : List Value} (h : w.ownsRow lo t 1 v n xs) : w.ownsRow lo t 1 v xs.length xs := by
  have e : xs.length = n := by have := h.1; omega
  rw [e]; exact h

theorem cellsAt {wc : World} {lo hi gy c : Nat} {M : List Int} (R : Row wc lo hi (.slice (some ⟨gy, 0, none⟩) M.length c) M.length (M.map (Value.int .i64))) :
    ∀ w', Below wc.heap.size wc w' → ∀ j (hj : j < M.length), w'.cell? ⟨gy, j, none⟩ = some (.int .i64 M[j]) := fun w' hb j hj => by
  obtain ⟨b, off, e, hbs, hc⟩ := (R.below hb).slv.open (by intro h; rw [List.map_eq_nil_iff] at h; subst h; simp at hj)
  cases e
  have := hc j (.int .i64 M[j]) (by simp [hj])
  simpa using this

theorem keep1 {W wr w1 : World} {b1 : Nat} {v1 : Value} (h1 : b1 < W.heap.size)
    (h : wr.cell? ⟨b1, 0, none⟩ = some v1 ∧ Below W.heap.size W wr) (hb : Below wr.heap.size wr w1) : w1.cell? ⟨b1, 0, none⟩ = some v1 ∧ Below W.heap.size W w1 :=
  ⟨(hb.cell (p := ⟨b1, 0, none⟩) (Nat.lt_of_lt_of_le h1 h.2.size)).trans h.1, h.2.trans (hb.mono h.2.size)⟩

set_option maxRecDepth 100000 in
set_option maxHeartbeats 12800000 in
theorem fnSemigroups_small (p0 : Option Addr) (len0 cap0 : Nat) (z0 : List Int) (W : World) (r0 : IsRow .u8 W p0 len0 cap0 z0) (hl : len0 ≤ 1048576) :
    Calls Try.prog 3 #[.slice p0 len0 cap0] W fun e w' => e = .returned (.bool true) ∧ Below W.heap.size W w' := by
  have HR := Lib.hid r0
  clear r0
  have hW : Below W.heap.size W W := Below.refl _ _
  go_enter Try.func3, Try.ntmps3
  have c := big_b p0 len0 cap0 W (by unfold maxLen; omega)
  rw [decide_eq_false (show ¬ 1048576 < len0 by omega)] at c
  go_wp2_with fail
  refine c.mono ?_
  rintro e w1 ⟨rfl, hb⟩
  clear c
  have z1 := hb.size
  replace hW := hW.trans (hb.mono hW.size)
  clear hb
  have c := DrawGenerates_any w1 p0 len0 cap0 z0 (HR.out.below hW) hl
  go_wp2_with fail
  refine c.mono ?_
  rintro e w2 ⟨Lg, v, n, hl_g, hB_g, hn64, rfl, ho, hb⟩
  clear c
  obtain ⟨a_g, c_g, rfl, rX⟩ := row_open ho
  clear ho
  have z2 := hb.size
  replace hW := hW.trans (hb.mono hW.size)
  have R_g := Lib.hid rX
  clear rX hb hB_g
  have c := DrawContains_any w2 p0 len0 cap0 z0 (HR.out.below hW) hl
  go_wp2_with fail
  refine c.mono ?_
  rintro e w3 ⟨Ls, a_s, c_s, k, hl_s, hB_s, hk64, rfl, hs, hb⟩
  clear c
  replace R_g := Lib.hid (R_g.out.below hb)
  have z3 := hb.size
  replace hW := hW.trans (hb.mono hW.size)
  have S_s := Lib.hid hs
  clear hs hb hB_s
  obtain ⟨w4, hwb⟩ : ∃ wb, wb = w3.alloc (.cells #[.slice a_s Ls.length c_s] 28) := ⟨_, rfl⟩
  have hb : Below w3.heap.size w3 w4 := by rw [hwb]; exact box_below _ _
  have hA : Arr w4 w3.heap.size 28 [.slice a_s Ls.length c_s] := by rw [hwb]; exact Arr.new _ _ _
  replace R_g := Lib.hid (R_g.out.below hb)
  replace S_s := Lib.hid (S_s.out.below hb)
  have z4 := hb.size
  replace hW := hW.trans (hb.mono hW.size)
  have y4 : w3.heap.size < w4.heap.size := hA.lt
  have B_bs := Lib.hid hA
  have H_w4 := Lib.hid hwb
  clear hwb hb hA
  have c := DrawIsSemigroup_any w4 p0 len0 cap0 z0 (HR.out.below hW) hl
  have hk_bs : w4.cell? ⟨w3.heap.size, 0, none⟩ = some (.slice a_s Ls.length c_s) := B_bs.out.cell 0
  rw [H_w4.out] at hk_bs
  go_wp2_with fail
  rw [← H_w4.out]
  refine c.mono ?_
  rintro e w5 ⟨Lx, a_x, c_x, hl_x, hB_x, rfl, hs, hb⟩
  clear c
  clear hk_bs
  replace R_g := Lib.hid (R_g.out.below hb)
  replace S_s := Lib.hid (S_s.out.below hb)
  replace B_bs := Lib.hid (B_bs.out.below hb)
  have z5 := hb.size
  replace hW := hW.trans (hb.mono hW.size)
  have S_x := Lib.hid hs
  clear hs hb hB_x
  obtain ⟨w6, hwb⟩ : ∃ wb, wb = w5.alloc (.cells #[.slice a_x Lx.length c_x] 28) := ⟨_, rfl⟩
  have hb : Below w5.heap.size w5 w6 := by rw [hwb]; exact box_below _ _
  have hA : Arr w6 w5.heap.size 28 [.slice a_x Lx.length c_x] := by rw [hwb]; exact Arr.new _ _ _
  replace R_g := Lib.hid (R_g.out.below hb)
  replace S_s := Lib.hid (S_s.out.below hb)
  replace B_bs := Lib.hid (B_bs.out.below hb)
  replace S_x := Lib.hid (S_x.out.below hb)
  have z6 := hb.size
  replace hW := hW.trans (hb.mono hW.size)
  have y6 : w5.heap.size < w6.heap.size := hA.lt
  have B_bx := Lib.hid hA
  have H_w6 := Lib.hid hwb
  clear hwb hb hA
  have c := DrawFromGens_any w6 p0 len0 cap0 z0 (HR.out.below hW) hl
  have hk_bs : w6.cell? ⟨w3.heap.size, 0, none⟩ = some (.slice a_s Ls.length c_s) := B_bs.out.cell 0
  have hk_bx : w6.cell? ⟨w5.heap.size, 0, none⟩ = some (.slice a_x Lx.length c_x) := B_bx.out.cell 0
  rw [H_w6.out] at hk_bs hk_bx
  go_wp2_with fail
  rw [← H_w6.out]
  refine c.mono ?_
  rintro e w7 ⟨L, v, hl_l, hB_l, rfl, ho, hb⟩
  clear c
  clear hk_bs hk_bx
  obtain ⟨a_l, c_l, rfl, rX⟩ := row_open ho
  clear ho
  replace R_g := Lib.hid (R_g.out.below hb)
  replace S_s := Lib.hid (S_s.out.below hb)
  replace B_bs := Lib.hid (B_bs.out.below hb)
  replace S_x := Lib.hid (S_x.out.below hb)
  replace B_bx := Lib.hid (B_bx.out.below hb)
  have z7 := hb.size
  replace hW := hW.trans (hb.mono hW.size)
  have R_l := Lib.hid rX
  clear rX hb hB_l
  have hf12 := fromL_length_le L
  have c := ci_FromGens L a_l c_l w7 R_l.out.slw (by omega)
  have hk_bs : w7.cell? ⟨w3.heap.size, 0, none⟩ = some (.slice a_s Ls.length c_s) := B_bs.out.cell 0
  have hk_bx : w7.cell? ⟨w5.heap.size, 0, none⟩ = some (.slice a_x Lx.length c_x) := B_bx.out.cell 0
  go_wp2_with fail
  refine c.mono ?_
  rintro e w8 ⟨v, rfl, ho, hb⟩
  clear c
  clear hk_bs hk_bx
  obtain ⟨a_y, c_y, rfl, rX⟩ := row_open ho
  clear ho
  replace R_g := Lib.hid (R_g.out.below hb)
  replace S_s := Lib.hid (S_s.out.below hb)
  replace B_bs := Lib.hid (B_bs.out.below hb)
  replace S_x := Lib.hid (S_x.out.below hb)
  replace B_bx := Lib.hid (B_bx.out.below hb)
  replace R_l := Lib.hid (R_l.out.below hb)
  have z8 := hb.size
  replace hW := hW.trans (hb.mono hW.size)
  have R_y := Lib.hid rX
  clear rX hb
  obtain ⟨w9, hwb⟩ : ∃ wb, wb = w8.alloc (.cells #[.slice a_y (fromL L).length c_y] 28) := ⟨_, rfl⟩
  have hb : Below w8.heap.size w8 w9 := by rw [hwb]; exact box_below _ _
  have hA : Arr w9 w8.heap.size 28 [.slice a_y (fromL L).length c_y] := by rw [hwb]; exact Arr.new _ _ _
  replace R_g := Lib.hid (R_g.out.below hb)
  replace S_s := Lib.hid (S_s.out.below hb)
  replace B_bs := Lib.hid (B_bs.out.below hb)
  replace S_x := Lib.hid (S_x.out.below hb)
  replace B_bx := Lib.hid (B_bx.out.below hb)
  replace R_l := Lib.hid (R_l.out.below hb)
  replace R_y := Lib.hid (R_y.out.below hb)
  have z9 := hb.size
  replace hW := hW.trans (hb.mono hW.size)
  have y9 : w8.heap.size < w9.heap.size := hA.lt
  have B_by := Lib.hid hA
  have H_w9 := Lib.hid hwb
  clear hwb hb hA
  have c := cs_FromGens L a_l c_l w9 R_l.out.slw (by omega)
  have hk_bs : w9.cell? ⟨w3.heap.size, 0, none⟩ = some (.slice a_s Ls.length c_s) := B_bs.out.cell 0
  have hk_bx : w9.cell? ⟨w5.heap.size, 0, none⟩ = some (.slice a_x Lx.length c_x) := B_bx.out.cell 0
  have hk_by : w9.cell? ⟨w8.heap.size, 0, none⟩ = some (.slice a_y (fromL L).length c_y) := B_by.out.cell 0
  rw [H_w9.out] at hk_bs hk_bx hk_by
  go_wp2_with fail
  rw [← H_w9.out]
  refine c.mono ?_
  rintro e w10 ⟨v, rfl, ho, hb⟩
  clear c
  clear hk_bs hk_bx hk_by
  obtain ⟨a_w, c_w, rfl, rX⟩ := row_open ho
  clear ho
  replace R_g := Lib.hid (R_g.out.below hb)
  replace S_s := Lib.hid (S_s.out.below hb)
  replace B_bs := Lib.hid (B_bs.out.below hb)
  replace S_x := Lib.hid (S_x.out.below hb)
  replace B_bx := Lib.hid (B_bx.out.below hb)
  replace R_l := Lib.hid (R_l.out.below hb)
  replace R_y := Lib.hid (R_y.out.below hb)
  replace B_by := Lib.hid (B_by.out.below hb)
  have z10 := hb.size
  replace hW := hW.trans (hb.mono hW.size)
  have R_w := Lib.hid rX
  clear rX hb
  obtain ⟨w11, hwb⟩ : ∃ wb, wb = w10.alloc (.cells #[.slice a_w (fromL L).length c_w] 28) := ⟨_, rfl⟩
  have hb : Below w10.heap.size w10 w11 := by rw [hwb]; exact box_below _ _
  have hA : Arr w11 w10.heap.size 28 [.slice a_w (fromL L).length c_w] := by rw [hwb]; exact Arr.new _ _ _
  replace R_g := Lib.hid (R_g.out.below hb)
  replace S_s := Lib.hid (S_s.out.below hb)
  replace B_bs := Lib.hid (B_bs.out.below hb)
  replace S_x := Lib.hid (S_x.out.below hb)
  replace B_bx := Lib.hid (B_bx.out.below hb)
  replace R_l := Lib.hid (R_l.out.below hb)
  replace R_y := Lib.hid (R_y.out.below hb)
  replace B_by := Lib.hid (B_by.out.below hb)
  replace R_w := Lib.hid (R_w.out.below hb)
  have z11 := hb.size
  replace hW := hW.trans (hb.mono hW.size)
  have y11 : w10.heap.size < w11.heap.size := hA.lt
  have B_bw := Lib.hid hA
  have H_w11 := Lib.hid hwb
  clear hwb hb hA
  have c := DrawEqualSemigroup_any w11 p0 len0 cap0 z0 (HR.out.below hW) hl
  have hk_bs : w11.cell? ⟨w3.heap.size, 0, none⟩ = some (.slice a_s Ls.length c_s) := B_bs.out.cell 0
  have hk_bx : w11.cell? ⟨w5.heap.size, 0, none⟩ = some (.slice a_x Lx.length c_x) := B_bx.out.cell 0
  have hk_by : w11.cell? ⟨w8.heap.size, 0, none⟩ = some (.slice a_y (fromL L).length c_y) := B_by.out.cell 0
  have hk_bw : w11.cell? ⟨w10.heap.size, 0, none⟩ = some (.slice a_w (fromL L).length c_w) := B_bw.out.cell 0
  rw [H_w11.out] at hk_bs hk_bx hk_by hk_bw
  go_wp2_with fail
  rw [← H_w11.out]
  refine c.mono ?_
  rintro e w12 ⟨La, Lb, a_a, a_b, c_a, c_b, hl_a, hl_b, hB_a, hB_b, rfl, hs, hs2, hb⟩
  clear c
  clear hk_bs hk_bx hk_by hk_bw
  replace R_g := Lib.hid (R_g.out.below hb)
  replace S_s := Lib.hid (S_s.out.below hb)
  replace B_bs := Lib.hid (B_bs.out.below hb)
  replace S_x := Lib.hid (S_x.out.below hb)
  replace B_bx := Lib.hid (B_bx.out.below hb)
  replace R_l := Lib.hid (R_l.out.below hb)
  replace R_y := Lib.hid (R_y.out.below hb)
  replace B_by := Lib.hid (B_by.out.below hb)
  replace R_w := Lib.hid (R_w.out.below hb)
  replace B_bw := Lib.hid (B_bw.out.below hb)
  have z12 := hb.size
  replace hW := hW.trans (hb.mono hW.size)
  have S_a := Lib.hid hs
  have S_b := Lib.hid hs2
  clear hs hs2 hb hB_a hB_b
  obtain ⟨w13, hwb⟩ : ∃ wb, wb = w12.alloc (.cells #[.slice a_a La.length c_a] 28) := ⟨_, rfl⟩
  have hb : Below w12.heap.size w12 w13 := by rw [hwb]; exact box_below _ _
  have hA : Arr w13 w12.heap.size 28 [.slice a_a La.length c_a] := by rw [hwb]; exact Arr.new _ _ _
  replace R_g := Lib.hid (R_g.out.below hb)
  replace S_s := Lib.hid (S_s.out.below hb)
  replace B_bs := Lib.hid (B_bs.out.below hb)
  replace S_x := Lib.hid (S_x.out.below hb)
  replace B_bx := Lib.hid (B_bx.out.below hb)
  replace R_l := Lib.hid (R_l.out.below hb)
  replace R_y := Lib.hid (R_y.out.below hb)
  replace B_by := Lib.hid (B_by.out.below hb)
  replace R_w := Lib.hid (R_w.out.below hb)
  replace B_bw := Lib.hid (B_bw.out.below hb)
  replace S_a := Lib.hid (S_a.out.below hb)
  replace S_b := Lib.hid (S_b.out.below hb)
  have z13 := hb.size
  replace hW := hW.trans (hb.mono hW.size)
  have y13 : w12.heap.size < w13.heap.size := hA.lt
  have B_ba := Lib.hid hA
  have H_w13 := Lib.hid hwb
  clear hwb hb hA
  obtain ⟨w14, hwb⟩ : ∃ wb, wb = w13.alloc (.cells #[.slice a_b Lb.length c_b] 28) := ⟨_, rfl⟩
  have hb : Below w13.heap.size w13 w14 := by rw [hwb]; exact box_below _ _
  have hA : Arr w14 w13.heap.size 28 [.slice a_b Lb.length c_b] := by rw [hwb]; exact Arr.new _ _ _
  replace R_g := Lib.hid (R_g.out.below hb)
  replace S_s := Lib.hid (S_s.out.below hb)
  replace B_bs := Lib.hid (B_bs.out.below hb)
  replace S_x := Lib.hid (S_x.out.below hb)
  replace B_bx := Lib.hid (B_bx.out.below hb)
  replace R_l := Lib.hid (R_l.out.below hb)
  replace R_y := Lib.hid (R_y.out.below hb)
  replace B_by := Lib.hid (B_by.out.below hb)
  replace R_w := Lib.hid (R_w.out.below hb)
  replace B_bw := Lib.hid (B_bw.out.below hb)
  replace S_a := Lib.hid (S_a.out.below hb)
  replace S_b := Lib.hid (S_b.out.below hb)
  replace B_ba := Lib.hid (B_ba.out.below hb)
  have z14 := hb.size
  replace hW := hW.trans (hb.mono hW.size)
  have y14 : w13.heap.size < w14.heap.size := hA.lt
  have B_bb : Hid (Arr w14 (w12.heap.size + 1) 28 [.slice a_b Lb.length c_b]) := Lib.hid (by have h := hA; rw [show w13.heap.size = w12.heap.size + 1 by rw [H_w13.out]; simp] at h; exact h)
  have H_w14 := Lib.hid hwb
  clear hwb hb hA
  have hl_bs := B_bs.out.lt
  have hl_bx := B_bx.out.lt
  have hl_by := B_by.out.lt
  have hl_bw := B_bw.out.lt
  have hl_ba := B_ba.out.lt
  have hl_bb := B_bb.out.lt
  have HS0 := Lib.hid (show w14.drew.cell? ⟨w3.heap.size, 0, none⟩ = some (.slice a_s Ls.length c_s) ∧ w14.drew.cell? ⟨w5.heap.size, 0, none⟩ = some (.slice a_x Lx.length c_x) ∧ w14.drew.cell? ⟨w8.heap.size, 0, none⟩ = some (.slice a_y (fromL L).length c_y) ∧ w14.drew.cell? ⟨w10.heap.size, 0, none⟩ = some (.slice a_w (fromL L).length c_w) ∧ w14.drew.cell? ⟨w12.heap.size, 0, none⟩ = some (.slice a_a La.length c_a) ∧ w14.drew.cell? ⟨w12.heap.size + 1, 0, none⟩ = some (.slice a_b Lb.length c_b) ∧ Below w14.heap.size w14 w14.drew from ⟨B_bs.out.cell 0, B_bx.out.cell 0, B_by.out.cell 0, B_bw.out.cell 0, B_ba.out.cell 0, B_bb.out.cell 0, (Below.refl _ _).drew⟩)
  have fr := fun w' (h : w'.cell? ⟨w3.heap.size, 0, none⟩ = some (.slice a_s Ls.length c_s) ∧ w'.cell? ⟨w5.heap.size, 0, none⟩ = some (.slice a_x Lx.length c_x) ∧ w'.cell? ⟨w8.heap.size, 0, none⟩ = some (.slice a_y (fromL L).length c_y) ∧ w'.cell? ⟨w10.heap.size, 0, none⟩ = some (.slice a_w (fromL L).length c_w) ∧ w'.cell? ⟨w12.heap.size, 0, none⟩ = some (.slice a_a La.length c_a) ∧ w'.cell? ⟨w12.heap.size + 1, 0, none⟩ = some (.slice a_b Lb.length c_b) ∧ Below w14.heap.size w14 w') => h.2.2.2.2.2.2
  have hk_bs : w14.cell? ⟨w3.heap.size, 0, none⟩ = some (.slice a_s Ls.length c_s) := B_bs.out.cell 0
  have hk_bx : w14.cell? ⟨w5.heap.size, 0, none⟩ = some (.slice a_x Lx.length c_x) := B_bx.out.cell 0
  have hk_by : w14.cell? ⟨w8.heap.size, 0, none⟩ = some (.slice a_y (fromL L).length c_y) := B_by.out.cell 0
  have hk_bw : w14.cell? ⟨w10.heap.size, 0, none⟩ = some (.slice a_w (fromL L).length c_w) := B_bw.out.cell 0
  have hk_ba : w14.cell? ⟨w12.heap.size, 0, none⟩ = some (.slice a_a La.length c_a) := B_ba.out.cell 0
  have hk_bb : w14.cell? ⟨w12.heap.size + 1, 0, none⟩ = some (.slice a_b Lb.length c_b) := B_bb.out.cell 0
  rw [H_w14.out] at hk_bs hk_bx hk_by hk_bw hk_ba hk_bb
  rw [H_w13.out] at hk_bs hk_bx hk_by hk_bw hk_ba hk_bb
  go_upto_region 10 with fail
  rw [← H_w13.out]
  rw [← H_w14.out]
  go_cut [104] (fun s104 wx => s104 = Value.bool false ∧ Below w14.heap.size w14 wx)
  case first =>
    clear hk_bs hk_bx hk_by hk_bw hk_ba hk_bb
    refine wp_region_held_drew (S := fun w' => w'.cell? ⟨w3.heap.size, 0, none⟩ = some (.slice a_s Ls.length c_s) ∧ w'.cell? ⟨w5.heap.size, 0, none⟩ = some (.slice a_x Lx.length c_x) ∧ w'.cell? ⟨w8.heap.size, 0, none⟩ = some (.slice a_y (fromL L).length c_y) ∧ w'.cell? ⟨w10.heap.size, 0, none⟩ = some (.slice a_w (fromL L).length c_w) ∧ w'.cell? ⟨w12.heap.size, 0, none⟩ = some (.slice a_a La.length c_a) ∧ w'.cell? ⟨w12.heap.size + 1, 0, none⟩ = some (.slice a_b Lb.length c_b) ∧ Below w14.heap.size w14 w') (by kernel_rfl) HS0.out (fun hHeld => ?_)
    refine held_take 0 _ _ rfl (by kernel_rfl) (by kernel_rfl) (by kernel_rfl) (fun _ _ _ h => h) (by rfl) hHeld (fun w hSw => by (try dsimp only at hSw); go_simp; try with_reducible rfl) ?_
    (try simp only [Act.put, List.setIfInBounds_toArray, List.set_cons_zero, List.set_cons_succ, List.getElem_toArray, List.getElem_cons_zero])
    refine held_take 1 _ _ rfl (by kernel_rfl) (by kernel_rfl) (by kernel_rfl) (fun _ _ _ h => h) (by rfl) hHeld (fun w hSw => by (try dsimp only at hSw); go_simp; try with_reducible rfl) ?_
    (try simp only [Act.put, List.setIfInBounds_toArray, List.set_cons_zero, List.set_cons_succ, List.getElem_toArray, List.getElem_cons_succ, List.getElem_cons_zero])
    refine held_take 3 _ _ rfl (by kernel_rfl) (by kernel_rfl) (by kernel_rfl) (fun _ _ _ h => h) (by rfl) hHeld (fun w hSw => by (try dsimp only at hSw); go_simp; try with_reducible rfl) ?_
    (try simp only [Act.put, List.setIfInBounds_toArray, List.set_cons_zero, List.set_cons_succ, List.getElem_toArray, List.getElem_cons_succ, List.getElem_cons_zero])
    refine held_take 4 _ _ rfl (by kernel_rfl) (by kernel_rfl) (by kernel_rfl) (fun _ _ _ h => h) (by rfl) hHeld (fun w hSw => by (try dsimp only at hSw); go_simp; try with_reducible rfl) ?_
    (try simp only [Act.put, List.setIfInBounds_toArray, List.set_cons_zero, List.set_cons_succ, List.getElem_toArray, List.getElem_cons_succ, List.getElem_cons_zero])
    refine wpAnyH_ready (rs := [2]) (by kernel_rfl) (by simp) ?_
    refine AllReadyH.cons rfl (fun K hK => ?_) AllReadyH.nil
    rw [if_pos (by rfl)]
    go_wp2_with (first | (go_at_call 19; have c := ci_Generates Lg a_g c_g n _ (R_g.out.slw.below (fr _ hHeld)) (by omega) hn64.1 hn64.2; (with_reducible refine c.mono ?_); rintro e wk ⟨rfl, hbk⟩; clear c))
    refine hK.out _ _ (keep6 hl_bs hl_bx hl_by hl_bw hl_ba hl_bb hHeld hbk) (fun hHeld1 => ?_)
    clear hK K
    (try simp only [Act.put, List.setIfInBounds_toArray, List.set_cons_zero, List.set_cons_succ, List.getElem_toArray, List.getElem_cons_succ, List.getElem_cons_zero])
    refine wpAnyH_ready (rs := [5]) (by kernel_rfl) (by simp) ?_
    refine AllReadyH.cons rfl (fun K hK => ?_) AllReadyH.nil
    rw [if_pos (by rfl)]
    go_wp2_with (first | (go_at_call 20; have c := cs_Generates Lg a_g c_g n _ (R_g.out.slw.below (fr _ hHeld1)) (by omega) hn64.1 hn64.2; (with_reducible refine c.mono ?_); rintro e wk ⟨rfl, hbk⟩; clear c))
    refine hK.out _ _ (keep6 hl_bs hl_bx hl_by hl_bw hl_ba hl_bb hHeld1 hbk) (fun hHeld2 => ?_)
    clear hK K
    (try simp only [Act.put, List.setIfInBounds_toArray, List.set_cons_zero, List.set_cons_succ, List.getElem_toArray, List.getElem_cons_succ, List.getElem_cons_zero])
    refine held_take 6 _ _ rfl (by kernel_rfl) (by kernel_rfl) (by kernel_rfl) (fun _ _ _ h => h) (by rfl) hHeld2 (fun w hSw => by (try dsimp only at hSw); go_simp; try with_reducible rfl) ?_
    (try simp only [Act.put, List.setIfInBounds_toArray, List.set_cons_zero, List.set_cons_succ, List.getElem_toArray, List.getElem_cons_succ, List.getElem_cons_zero])
    refine held_take 7 _ _ rfl (by kernel_rfl) (by kernel_rfl) (by kernel_rfl) (fun _ _ _ h => h) (by rfl) hHeld2 (fun w hSw => by (try dsimp only at hSw); go_simp; try with_reducible rfl) ?_
    (try simp only [Act.put, List.setIfInBounds_toArray, List.set_cons_zero, List.set_cons_succ, List.getElem_toArray, List.getElem_cons_succ, List.getElem_cons_zero])
    refine held_take 8 _ _ rfl (by kernel_rfl) (by kernel_rfl) (by kernel_rfl) (fun _ _ _ h => h) (by rfl) hHeld2 (fun w hSw => by (try dsimp only at hSw); go_simp; try with_reducible rfl) ?_
    (try simp only [Act.put, List.setIfInBounds_toArray, List.set_cons_zero, List.set_cons_succ, List.getElem_toArray, List.getElem_cons_succ, List.getElem_cons_zero])
    refine held_take 9 _ _ rfl (by kernel_rfl) (by kernel_rfl) (by kernel_rfl) (fun _ _ _ h => h) (by rfl) hHeld2 (fun w hSw => by (try dsimp only at hSw); go_simp; try with_reducible rfl) ?_
    (try simp only [Act.put, List.setIfInBounds_toArray, List.set_cons_zero, List.set_cons_succ, List.getElem_toArray, List.getElem_cons_succ, List.getElem_cons_zero])
    refine held_take 11 _ _ rfl (by kernel_rfl) (by kernel_rfl) (by kernel_rfl) (fun _ _ _ h => h) (by rfl) hHeld2 (fun w hSw => by (try dsimp only at hSw); go_simp; try with_reducible rfl) ?_
    (try simp only [Act.put, List.setIfInBounds_toArray, List.set_cons_zero, List.set_cons_succ, List.getElem_toArray, List.getElem_cons_succ, List.getElem_cons_zero])
    refine held_take 12 _ _ rfl (by kernel_rfl) (by kernel_rfl) (by kernel_rfl) (fun _ _ _ h => h) (by rfl) hHeld2 (fun w hSw => by (try dsimp only at hSw); go_simp; try with_reducible rfl) ?_
    (try simp only [Act.put, List.setIfInBounds_toArray, List.set_cons_zero, List.set_cons_succ, List.getElem_toArray, List.getElem_cons_succ, List.getElem_cons_zero])
    refine wpAnyH_ready (rs := [10]) (by kernel_rfl) (by simp) ?_
    refine AllReadyH.cons rfl (fun K hK => ?_) AllReadyH.nil
    rw [if_pos (by rfl)]
    go_wp2_with (first | (go_at_call 21; have c := ci_Contains Ls a_s c_s k _ (S_s.out.below (fr _ hHeld2)) (by omega) hk64.1 hk64.2; (with_reducible refine c.mono ?_); rintro e wk ⟨rfl, hbk⟩; clear c))
    refine hK.out _ _ (keep6 hl_bs hl_bx hl_by hl_bw hl_ba hl_bb hHeld2 hbk) (fun hHeld3 => ?_)
    clear hK K
    (try simp only [Act.put, List.setIfInBounds_toArray, List.set_cons_zero, List.set_cons_succ, List.getElem_toArray, List.getElem_cons_succ, List.getElem_cons_zero])
    refine wpAnyH_ready (rs := [13]) (by kernel_rfl) (by simp) ?_
    refine AllReadyH.cons rfl (fun K hK => ?_) AllReadyH.nil
    rw [if_pos (by rfl)]
    go_wp2_with (first | (go_at_call 22; have c := cs_Contains Ls a_s c_s k _ (S_s.out.below (fr _ hHeld3)) (by omega) hk64.1 hk64.2; (with_reducible refine c.mono ?_); rintro e wk ⟨rfl, hbk⟩; clear c))
    refine hK.out _ _ (keep6 hl_bs hl_bx hl_by hl_bw hl_ba hl_bb hHeld3 hbk) (fun hHeld4 => ?_)
    clear hK K
    (try simp only [Act.put, List.setIfInBounds_toArray, List.set_cons_zero, List.set_cons_succ, List.getElem_toArray, List.getElem_cons_succ, List.getElem_cons_zero])
    refine held_take 14 _ _ rfl (by kernel_rfl) (by kernel_rfl) (by kernel_rfl) (fun _ _ _ h => h) (by rfl) hHeld4 (fun w hSw => by (try dsimp only at hSw); go_simp; try with_reducible rfl) ?_
    (try simp only [Act.put, List.setIfInBounds_toArray, List.set_cons_zero, List.set_cons_succ, List.getElem_toArray, List.getElem_cons_succ, List.getElem_cons_zero])
    refine held_take 15 _ _ rfl (by kernel_rfl) (by kernel_rfl) (by kernel_rfl) (fun _ _ _ h => h) (by rfl) hHeld4 (fun w hSw => by (try dsimp only at hSw); go_simp; try with_reducible rfl) ?_
    (try simp only [Act.put, List.setIfInBounds_toArray, List.set_cons_zero, List.set_cons_succ, List.getElem_toArray, List.getElem_cons_succ, List.getElem_cons_zero])
    refine held_take 16 _ _ rfl (by kernel_rfl) (by kernel_rfl) (by kernel_rfl) (fun _ _ _ h => h) (by rfl) hHeld4 (fun w hSw => by (try dsimp only at hSw); go_simp; try with_reducible rfl) ?_
    (try simp only [Act.put, List.setIfInBounds_toArray, List.set_cons_zero, List.set_cons_succ, List.getElem_toArray, List.getElem_cons_succ, List.getElem_cons_zero])
    refine held_take 17 _ _ rfl (by kernel_rfl) (by kernel_rfl) (by kernel_rfl) (fun _ _ _ h => h) (by rfl) hHeld4 (fun w hSw => by (try dsimp only at hSw); go_simp; try with_reducible rfl) ?_
    (try simp only [Act.put, List.setIfInBounds_toArray, List.set_cons_zero, List.set_cons_succ, List.getElem_toArray, List.getElem_cons_succ, List.getElem_cons_zero])
    refine held_take 19 _ _ rfl (by kernel_rfl) (by kernel_rfl) (by kernel_rfl) (fun _ _ _ h => h) (by rfl) hHeld4 (fun w hSw => by (try dsimp only at hSw); go_simp; try with_reducible rfl) ?_
    (try simp only [Act.put, List.setIfInBounds_toArray, List.set_cons_zero, List.set_cons_succ, List.getElem_toArray, List.getElem_cons_succ, List.getElem_cons_zero])
    refine wpAnyH_ready (rs := [18]) (by kernel_rfl) (by simp) ?_
    refine AllReadyH.cons rfl (fun K hK => ?_) AllReadyH.nil
    rw [if_pos (by rfl)]
    go_wp2_with (first | (go_at_call 23; have c := ci_IsSemigroup Lx a_x c_x _ (S_x.out.below (fr _ hHeld4)) (by omega); (with_reducible refine c.mono ?_); rintro e wk ⟨rfl, hbk⟩; clear c))
    refine hK.out _ _ (keep6 hl_bs hl_bx hl_by hl_bw hl_ba hl_bb hHeld4 hbk) (fun hHeld5 => ?_)
    clear hK K
    (try simp only [Act.put, List.setIfInBounds_toArray, List.set_cons_zero, List.set_cons_succ, List.getElem_toArray, List.getElem_cons_succ, List.getElem_cons_zero])
    refine wpAnyH_ready (rs := [20]) (by kernel_rfl) (by simp) ?_
    refine AllReadyH.cons rfl (fun K hK => ?_) AllReadyH.nil
    rw [if_pos (by rfl)]
    go_wp2_with (first | (go_at_call 24; have c := cs_IsSemigroup Lx a_x c_x _ (S_x.out.below (fr _ hHeld5)) (by omega); (with_reducible refine c.mono ?_); rintro e wk ⟨rfl, hbk⟩; clear c))
    refine hK.out _ _ (keep6 hl_bs hl_bx hl_by hl_bw hl_ba hl_bb hHeld5 hbk) (fun hHeld6 => ?_)
    clear hK K
    (try simp only [Act.put, List.setIfInBounds_toArray, List.set_cons_zero, List.set_cons_succ, List.getElem_toArray, List.getElem_cons_succ, List.getElem_cons_zero])
    refine held_take 21 _ _ rfl (by kernel_rfl) (by kernel_rfl) (by kernel_rfl) (fun _ _ _ h => h) (by rfl) hHeld6 (fun w hSw => by (try dsimp only at hSw); go_simp; try with_reducible rfl) ?_
    (try simp only [Act.put, List.setIfInBounds_toArray, List.set_cons_zero, List.set_cons_succ, List.getElem_toArray, List.getElem_cons_succ, List.getElem_cons_zero])
    refine held_take 22 _ _ rfl (by kernel_rfl) (by kernel_rfl) (by kernel_rfl) (fun _ _ _ h => h) (by rfl) hHeld6 (fun w hSw => by (try dsimp only at hSw); go_simp; try with_reducible rfl) ?_
    (try simp only [Act.put, List.setIfInBounds_toArray, List.set_cons_zero, List.set_cons_succ, List.getElem_toArray, List.getElem_cons_succ, List.getElem_cons_zero])
    refine held_take 23 _ _ rfl (by kernel_rfl) (by kernel_rfl) (by kernel_rfl) (fun _ _ _ h => h) (by rfl) hHeld6 (fun w hSw => by (try dsimp only at hSw); go_simp; try with_reducible rfl) ?_
    (try simp only [Act.put, List.setIfInBounds_toArray, List.set_cons_zero, List.set_cons_succ, List.getElem_toArray, List.getElem_cons_succ, List.getElem_cons_zero])
    refine held_take 24 _ _ rfl (by kernel_rfl) (by kernel_rfl) (by kernel_rfl) (fun _ _ _ h => h) (by rfl) hHeld6 (fun w hSw => by (try dsimp only at hSw); go_simp; try with_reducible rfl) ?_
    (try simp only [Act.put, List.setIfInBounds_toArray, List.set_cons_zero, List.set_cons_succ, List.getElem_toArray, List.getElem_cons_succ, List.getElem_cons_zero])
    refine held_take 25 _ _ rfl (by kernel_rfl) (by kernel_rfl) (by kernel_rfl) (fun _ _ _ h => h) (by rfl) hHeld6 (fun w hSw => by (try dsimp only at hSw); go_simp; try with_reducible rfl) ?_
    (try simp only [Act.put, List.setIfInBounds_toArray, List.set_cons_zero, List.set_cons_succ, List.getElem_toArray, List.getElem_cons_succ, List.getElem_cons_zero])
    refine held_take 26 _ _ rfl (by kernel_rfl) (by kernel_rfl) (by kernel_rfl) (fun _ _ _ h => h) (by rfl) hHeld6 (fun w hSw => by (try dsimp only at hSw); go_simp; try with_reducible rfl) ?_
    (try simp only [Act.put, List.setIfInBounds_toArray, List.set_cons_zero, List.set_cons_succ, List.getElem_toArray, List.getElem_cons_succ, List.getElem_cons_zero])
    refine held_take 27 _ _ rfl (by kernel_rfl) (by kernel_rfl) (by kernel_rfl) (fun _ _ _ h => h) (by rfl) hHeld6 (fun w hSw => by (try dsimp only at hSw); go_simp; try with_reducible rfl) ?_
    (try simp only [Act.put, List.setIfInBounds_toArray, List.set_cons_zero, List.set_cons_succ, List.getElem_toArray, List.getElem_cons_succ, List.getElem_cons_zero])
    refine held_take 28 _ _ rfl (by kernel_rfl) (by kernel_rfl) (by kernel_rfl) (fun _ _ _ h => h) (by rfl) hHeld6 (fun w hSw => by (try dsimp only at hSw); go_simp; try with_reducible rfl) ?_
    (try simp only [Act.put, List.setIfInBounds_toArray, List.set_cons_zero, List.set_cons_succ, List.getElem_toArray, List.getElem_cons_succ, List.getElem_cons_zero])
    refine held_take 29 _ _ rfl (by kernel_rfl) (by kernel_rfl) (by kernel_rfl) (fun _ _ _ h => h) (by rfl) hHeld6 (fun w hSw => by (try dsimp only at hSw); go_simp; try with_reducible rfl) ?_
    (try simp only [Act.put, List.setIfInBounds_toArray, List.set_cons_zero, List.set_cons_succ, List.getElem_toArray, List.getElem_cons_succ, List.getElem_cons_zero])
    refine held_take 30 _ _ rfl (by kernel_rfl) (by kernel_rfl) (by kernel_rfl) (fun _ _ _ h => h) (by rfl) hHeld6 (fun w hSw => by (try dsimp only at hSw); go_simp; try with_reducible rfl) ?_
    (try simp only [Act.put, List.setIfInBounds_toArray, List.set_cons_zero, List.set_cons_succ, List.getElem_toArray, List.getElem_cons_succ, List.getElem_cons_zero])
    refine wpAnyH_ready (rs := [31]) (by kernel_rfl) (by simp) ?_
    refine AllReadyH.cons rfl (fun K hK => ?_) AllReadyH.nil
    rw [if_pos (by rfl)]
    go_wp2_with (first | (go_at_call 25; have c := cs_EqualSemigroup (fromL L) a_y c_y (fromL L) a_w c_w _ (R_y.out.slw.below (fr _ hHeld6)) (R_w.out.slw.below (fr _ hHeld6)) (by omega) (by omega); rw [decide_eq_true (rfl : fromL L = fromL L)] at c; (with_reducible refine c.mono ?_); rintro e wk ⟨rfl, hbk⟩; clear c))
    refine hK.out _ _ (keep6 hl_bs hl_bx hl_by hl_bw hl_ba hl_bb hHeld6 hbk) (fun hHeld7 => ?_)
    clear hK K
    (try simp only [Act.put, List.setIfInBounds_toArray, List.set_cons_zero, List.set_cons_succ, List.getElem_toArray, List.getElem_cons_succ, List.getElem_cons_zero])
    refine held_take 32 _ _ rfl (by kernel_rfl) (by kernel_rfl) (by kernel_rfl) (fun _ _ _ h => h) (by rfl) hHeld7 (fun w hSw => by (try dsimp only at hSw); go_simp; try with_reducible rfl) ?_
    (try simp only [Act.put, List.setIfInBounds_toArray, List.set_cons_zero, List.set_cons_succ, List.getElem_toArray, List.getElem_cons_succ, List.getElem_cons_zero])
    refine held_take 33 _ _ rfl (by kernel_rfl) (by kernel_rfl) (by kernel_rfl) (fun _ _ _ h => h) (by rfl) hHeld7 (fun w hSw => by (try dsimp only at hSw); go_simp; try with_reducible rfl) ?_
    (try simp only [Act.put, List.setIfInBounds_toArray, List.set_cons_zero, List.set_cons_succ, List.getElem_toArray, List.getElem_cons_succ, List.getElem_cons_zero])
    refine held_take 34 _ _ rfl (by kernel_rfl) (by kernel_rfl) (by kernel_rfl) (fun _ _ _ h => h) (by rfl) hHeld7 (fun w hSw => by (try dsimp only at hSw); go_simp; try with_reducible rfl) ?_
    (try simp only [Act.put, List.setIfInBounds_toArray, List.set_cons_zero, List.set_cons_succ, List.getElem_toArray, List.getElem_cons_succ, List.getElem_cons_zero])
    refine held_take 35 _ _ rfl (by kernel_rfl) (by kernel_rfl) (by kernel_rfl) (fun _ _ _ h => h) (by rfl) hHeld7 (fun w hSw => by (try dsimp only at hSw); go_simp; try with_reducible rfl) ?_
    (try simp only [Act.put, List.setIfInBounds_toArray, List.set_cons_zero, List.set_cons_succ, List.getElem_toArray, List.getElem_cons_succ, List.getElem_cons_zero])
    refine held_take 36 _ _ rfl (by kernel_rfl) (by kernel_rfl) (by kernel_rfl) (fun _ _ _ h => h) (by rfl) hHeld7 (fun w hSw => by (try dsimp only at hSw); go_simp; try with_reducible rfl) ?_
    (try simp only [Act.put, List.setIfInBounds_toArray, List.set_cons_zero, List.set_cons_succ, List.getElem_toArray, List.getElem_cons_succ, List.getElem_cons_zero])
    refine held_take 38 _ _ rfl (by kernel_rfl) (by kernel_rfl) (by kernel_rfl) (fun _ _ _ h => h) (by rfl) hHeld7 (fun w hSw => by (try dsimp only at hSw); go_simp; try with_reducible rfl) ?_
    (try simp only [Act.put, List.setIfInBounds_toArray, List.set_cons_zero, List.set_cons_succ, List.getElem_toArray, List.getElem_cons_succ, List.getElem_cons_zero])
    refine held_take 39 _ _ rfl (by kernel_rfl) (by kernel_rfl) (by kernel_rfl) (fun _ _ _ h => h) (by rfl) hHeld7 (fun w hSw => by (try dsimp only at hSw); go_simp; try with_reducible rfl) ?_
    (try simp only [Act.put, List.setIfInBounds_toArray, List.set_cons_zero, List.set_cons_succ, List.getElem_toArray, List.getElem_cons_succ, List.getElem_cons_zero])
    refine wpAnyH_ready (rs := [37]) (by kernel_rfl) (by simp) ?_
    refine AllReadyH.cons rfl (fun K hK => ?_) AllReadyH.nil
    rw [if_pos (by rfl)]
    go_wp2_with (first | (go_at_call 26; have c := ci_EqualSemigroup La a_a c_a Lb a_b c_b _ (S_a.out.below (fr _ hHeld7)) (S_b.out.below (fr _ hHeld7)) (by omega) (by omega); (with_reducible refine c.mono ?_); rintro e wk ⟨rfl, hbk⟩; clear c))
    refine hK.out _ _ (keep6 hl_bs hl_bx hl_by hl_bw hl_ba hl_bb hHeld7 hbk) (fun hHeld8 => ?_)
    clear hK K
    (try simp only [Act.put, List.setIfInBounds_toArray, List.set_cons_zero, List.set_cons_succ, List.getElem_toArray, List.getElem_cons_succ, List.getElem_cons_zero])
    refine wpAnyH_ready (rs := [40]) (by kernel_rfl) (by simp) ?_
    refine AllReadyH.cons rfl (fun K hK => ?_) AllReadyH.nil
    rw [if_pos (by rfl)]
    go_wp2_with (first | (go_at_call 25; have c := cs_EqualSemigroup La a_a c_a Lb a_b c_b _ (S_a.out.below (fr _ hHeld8)) (S_b.out.below (fr _ hHeld8)) (by omega) (by omega); (with_reducible refine c.mono ?_); rintro e wk ⟨rfl, hbk⟩; clear c))
    refine hK.out _ _ (keep6 hl_bs hl_bx hl_by hl_bw hl_ba hl_bb hHeld8 hbk) (fun hHeld9 => ?_)
    clear hK K
    (try simp only [Act.put, List.setIfInBounds_toArray, List.set_cons_zero, List.set_cons_succ, List.getElem_toArray, List.getElem_cons_succ, List.getElem_cons_zero])
    refine held_take 41 _ _ rfl (by kernel_rfl) (by kernel_rfl) (by kernel_rfl) (fun _ _ _ h => h) (by rfl) hHeld9 (fun w hSw => by (try dsimp only at hSw); go_simp; try with_reducible rfl) ?_
    (try simp only [Act.put, List.setIfInBounds_toArray, List.set_cons_zero, List.set_cons_succ, List.getElem_toArray, List.getElem_cons_succ, List.getElem_cons_zero])
    refine held_take 42 _ _ rfl (by kernel_rfl) (by kernel_rfl) (by kernel_rfl) (fun _ _ _ h => h) (by rfl) hHeld9 (fun w hSw => by (try dsimp only at hSw); go_simp; try with_reducible rfl) ?_
    (try simp only [Act.put, List.setIfInBounds_toArray, List.set_cons_zero, List.set_cons_succ, List.getElem_toArray, List.getElem_cons_succ, List.getElem_cons_zero])
    refine held_take 43 _ _ rfl (by kernel_rfl) (by kernel_rfl) (by kernel_rfl) (fun _ _ _ h => h) (by rfl) hHeld9 (fun w hSw => by (try dsimp only at hSw); go_simp; try with_reducible rfl) ?_
    (try simp only [Act.put, List.setIfInBounds_toArray, List.set_cons_zero, List.set_cons_succ, List.getElem_toArray, List.getElem_cons_succ, List.getElem_cons_zero])
    refine held_take 44 _ _ rfl (by kernel_rfl) (by kernel_rfl) (by kernel_rfl) (fun _ _ _ h => h) (by rfl) hHeld9 (fun w hSw => by (try dsimp only at hSw); go_simp; try with_reducible rfl) ?_
    (try simp only [Act.put, List.setIfInBounds_toArray, List.set_cons_zero, List.set_cons_succ, List.getElem_toArray, List.getElem_cons_succ, List.getElem_cons_zero])
    refine held_take 46 _ _ rfl (by kernel_rfl) (by kernel_rfl) (by kernel_rfl) (fun _ _ _ h => h) (by rfl) hHeld9 (fun w hSw => by (try dsimp only at hSw); go_simp; try with_reducible rfl) ?_
    (try simp only [Act.put, List.setIfInBounds_toArray, List.set_cons_zero, List.set_cons_succ, List.getElem_toArray, List.getElem_cons_succ, List.getElem_cons_zero])
    refine wpAnyH_ready (rs := [45]) (by kernel_rfl) (by simp) ?_
    refine AllReadyH.cons rfl (fun K hK => ?_) AllReadyH.nil
    rw [if_pos (by rfl)]
    go_wp2_with (first | (go_at_call 27; have c := ci_MultiplicityOf Lx a_x c_x _ (S_x.out.below (fr _ hHeld9)) (by omega); (with_reducible refine c.mono ?_); rintro e wk ⟨rfl, hbk⟩; clear c))
    refine hK.out _ _ (keep6 hl_bs hl_bx hl_by hl_bw hl_ba hl_bb hHeld9 hbk) (fun hHeld10 => ?_)
    clear hK K
    (try simp only [Act.put, List.setIfInBounds_toArray, List.set_cons_zero, List.set_cons_succ, List.getElem_toArray, List.getElem_cons_succ, List.getElem_cons_zero])
    refine wpAnyH_ready (rs := [47]) (by kernel_rfl) (by simp) ?_
    refine AllReadyH.cons rfl (fun K hK => ?_) AllReadyH.nil
    rw [if_pos (by rfl)]
    go_wp2_with (first | (go_at_call 28; have c := cs_MultiplicityOf Lx a_x c_x _ (S_x.out.below (fr _ hHeld10)) (by omega); (with_reducible refine c.mono ?_); rintro e wk ⟨rfl, hbk⟩; clear c))
    refine hK.out _ _ (keep6 hl_bs hl_bx hl_by hl_bw hl_ba hl_bb hHeld10 hbk) (fun hHeld11 => ?_)
    clear hK K
    (try simp only [Act.put, List.setIfInBounds_toArray, List.set_cons_zero, List.set_cons_succ, List.getElem_toArray, List.getElem_cons_succ, List.getElem_cons_zero])
    refine held_take 48 _ _ rfl (by kernel_rfl) (by kernel_rfl) (by kernel_rfl) (fun _ _ _ h => h) (by rfl) hHeld11 (fun w hSw => by (try dsimp only at hSw); go_simp; try with_reducible rfl) ?_
    (try simp only [Act.put, List.setIfInBounds_toArray, List.set_cons_zero, List.set_cons_succ, List.getElem_toArray, List.getElem_cons_succ, List.getElem_cons_zero])
    refine held_take 49 _ _ rfl (by kernel_rfl) (by kernel_rfl) (by kernel_rfl) (fun _ _ _ h => h) (by rfl) hHeld11 (fun w hSw => by (try dsimp only at hSw); go_simp; try with_reducible rfl) ?_
    (try simp only [Act.put, List.setIfInBounds_toArray, List.set_cons_zero, List.set_cons_succ, List.getElem_toArray, List.getElem_cons_succ, List.getElem_cons_zero])
    refine held_take 50 _ _ rfl (by kernel_rfl) (by kernel_rfl) (by kernel_rfl) (fun _ _ _ h => h) (by rfl) hHeld11 (fun w hSw => by (try dsimp only at hSw); go_simp; try with_reducible rfl) ?_
    (try simp only [Act.put, List.setIfInBounds_toArray, List.set_cons_zero, List.set_cons_succ, List.getElem_toArray, List.getElem_cons_succ, List.getElem_cons_zero])
    refine held_take 51 _ _ rfl (by kernel_rfl) (by kernel_rfl) (by kernel_rfl) (fun _ _ _ h => h) (by rfl) hHeld11 (fun w hSw => by (try dsimp only at hSw); go_simp; try with_reducible rfl) ?_
    (try simp only [Act.put, List.setIfInBounds_toArray, List.set_cons_zero, List.set_cons_succ, List.getElem_toArray, List.getElem_cons_succ, List.getElem_cons_zero])
    refine held_take 53 _ _ rfl (by kernel_rfl) (by kernel_rfl) (by kernel_rfl) (fun _ _ _ h => h) (by rfl) hHeld11 (fun w hSw => by (try dsimp only at hSw); go_simp; try with_reducible rfl) ?_
    (try simp only [Act.put, List.setIfInBounds_toArray, List.set_cons_zero, List.set_cons_succ, List.getElem_toArray, List.getElem_cons_succ, List.getElem_cons_zero])
    refine wpAnyH_ready (rs := [52]) (by kernel_rfl) (by simp) ?_
    refine AllReadyH.cons rfl (fun K hK => ?_) AllReadyH.nil
    rw [if_pos (by rfl)]
    go_wp2_with (first | (go_at_call 29; have c := ci_DimensionOf Lx a_x c_x _ (S_x.out.below (fr _ hHeld11)) (by omega); (with_reducible refine c.mono ?_); rintro e wk ⟨rfl, hbk⟩; clear c))
    refine hK.out _ _ (keep6 hl_bs hl_bx hl_by hl_bw hl_ba hl_bb hHeld11 hbk) (fun hHeld12 => ?_)
    clear hK K
    (try simp only [Act.put, List.setIfInBounds_toArray, List.set_cons_zero, List.set_cons_succ, List.getElem_toArray, List.getElem_cons_succ, List.getElem_cons_zero])
    refine wpAnyH_ready (rs := [54]) (by kernel_rfl) (by simp) ?_
    refine AllReadyH.cons rfl (fun K hK => ?_) AllReadyH.nil
    rw [if_pos (by rfl)]
    go_wp2_with (first | (go_at_call 30; have c := cs_DimensionOf Lx a_x c_x _ (S_x.out.below (fr _ hHeld12)) (by omega); (with_reducible refine c.mono ?_); rintro e wk ⟨rfl, hbk⟩; clear c))
    refine hK.out _ _ (keep6 hl_bs hl_bx hl_by hl_bw hl_ba hl_bb hHeld12 hbk) (fun hHeld13 => ?_)
    clear hK K
    (try simp only [Act.put, List.setIfInBounds_toArray, List.set_cons_zero, List.set_cons_succ, List.getElem_toArray, List.getElem_cons_succ, List.getElem_cons_zero])
    refine held_take 55 _ _ rfl (by kernel_rfl) (by kernel_rfl) (by kernel_rfl) (fun _ _ _ h => h) (by rfl) hHeld13 (fun w hSw => by (try dsimp only at hSw); go_simp; try with_reducible rfl) ?_
    (try simp only [Act.put, List.setIfInBounds_toArray, List.set_cons_zero, List.set_cons_succ, List.getElem_toArray, List.getElem_cons_succ, List.getElem_cons_zero])
    refine held_take 56 _ _ rfl (by kernel_rfl) (by kernel_rfl) (by kernel_rfl) (fun _ _ _ h => h) (by rfl) hHeld13 (fun w hSw => by (try dsimp only at hSw); go_simp; try with_reducible rfl) ?_
    (try simp only [Act.put, List.setIfInBounds_toArray, List.set_cons_zero, List.set_cons_succ, List.getElem_toArray, List.getElem_cons_succ, List.getElem_cons_zero])
    refine wpAnyH_done (by kernel_rfl) ?_ _
    have hBz := hHeld13.2.2.2.2.2.2
    clear HS0 fr
    go_wp2_with fail
    go_meet
    exact ⟨rfl, hBz⟩
  case rest =>
    obtain ⟨rfl, hb⟩ := hcut
    clear HS0 fr hl_bs hl_bx hl_by hl_bw hl_ba hl_bb
    clear hk_bs hk_bx hk_by hk_bw hk_ba hk_bb
    replace R_g := Lib.hid (R_g.out.below hb)
    replace S_s := Lib.hid (S_s.out.below hb)
    replace B_bs := Lib.hid (B_bs.out.below hb)
    replace S_x := Lib.hid (S_x.out.below hb)
    replace B_bx := Lib.hid (B_bx.out.below hb)
    replace R_l := Lib.hid (R_l.out.below hb)
    replace R_y := Lib.hid (R_y.out.below hb)
    replace B_by := Lib.hid (B_by.out.below hb)
    replace R_w := Lib.hid (R_w.out.below hb)
    replace B_bw := Lib.hid (B_bw.out.below hb)
    replace S_a := Lib.hid (S_a.out.below hb)
    replace S_b := Lib.hid (S_b.out.below hb)
    replace B_ba := Lib.hid (B_ba.out.below hb)
    replace B_bb := Lib.hid (B_bb.out.below hb)
    have z15 := hb.size
    replace hW := hW.trans (hb.mono hW.size)
    clear hb HR hl
    clear R_g
    clear S_x
    clear R_w
    clear S_a
    clear S_b
    clear B_bx
    clear B_bw
    clear B_ba
    clear B_bb
    have HSG : Hid (fromB L = true → isSgB (fromL L) = true) := Lib.hid fun h => fromL_isSg h
    have HNO : Hid (fromB L = false → fromL L = []) := Lib.hid fun h => fromL_no h
    have HGH : Hid (fromB L = true → ∀ n, 0 ≤ n → n ≤ 1000000 → generatesB L n = hasN (fromL L) n) := Lib.hid fun h _ h0 h1 => gen_has h h0 h1
    generalize fromL L = M at *
    generalize fromB L = q at *
    have hlby := B_by.out.lt
    go_wp2_with fail
    go_loopw [15] (fun v wr => ∃ i : Nat, i ≤ M.length ∧ v = .int .i64 (i : Int) ∧ Below wc.heap.size wc wr) (fun v _ => M.length - (intOf v).toNat)
    case atStart => exact ⟨0, Nat.zero_le _, rfl, Below.refl _ _⟩
    case round =>
      obtain ⟨i, hi, rfl, hbel⟩ := hrel
      have hbW := hW.trans (hbel.mono hW.size)
      have hk : wr.cell? ⟨w8.heap.size, 0, none⟩ = some (.slice a_y M.length c_y) := (B_by.out.below hbel).cell 0
      by_cases hlt : i < M.length
      · obtain rfl : q = true := by
          cases q
          · have := HNO.out rfl; rw [this] at hlt; simp at hlt
          · rfl
        have hsg := HSG.out rfl
        have hRy := R_y.out.below hbel
        obtain ⟨gy, rfl⟩ : ∃ g, a_y = some ⟨g, 0, none⟩ := by
          rcases hRy.own.2 with ⟨e, h0⟩ | ⟨g, cp, cur, e, -⟩
          · omega
          · cases e; exact ⟨g, rfl⟩
        have hyl := (hRy.own.lt gy rfl).2
        have hbz := hbel.size
        have hyc := hRy.slw.le
        rw [List.length_map] at hyc
        have HCA := Lib.hid (cellsAt R_y.out)
        have HCY := Lib.hid (HCA.out wr hbel)
        have hM12 := (isSgB_iff.1 hsg).len
        have HSO := Lib.hid (gen_sole hsg i hlt)
        have hi0 : (0 : Int) ≤ (i : Int) := by omega
        have hi1 : (i : Int) ≤ (c_y : Int) := by omega
        have hi2 : (i : Int) < (M.length : Int) := by omega
        obtain ⟨i0, hI, hz0, hz1', hz2'⟩ := info_parts infoIntL
        clear hRy
        go_wp2_with fail
        have hS0 : wr.drew.cell? ⟨w8.heap.size, 0, none⟩ = some (.slice (some ⟨gy, 0, none⟩) M.length c_y) := hk
        have hown0 : ((wr.alloc (.cells #[] 3)).drew).ownsRow wr.heap.size 3 1 (.slice (some ⟨wr.heap.size, 0, none⟩) 0 0) 0 [] := World.ownsRow_lit wr #[] 0 (Nat.le_refl _) (by simp) rfl
        have hn1 : ∀ j u, ((M.take i).map (Value.int .i64))[j]? = some u → ((wr.alloc (.cells #[] 3)).drew).cell? ((⟨gy, 0, none⟩ : Addr).add j) = some u := fun j u hj => by
          rw [List.getElem?_map, List.getElem?_take] at hj
          split at hj
          · next hji =>
            rw [List.getElem?_eq_getElem (by omega)] at hj
            cases hj
            rw [Addr.add_mid, Nat.zero_add]
            show (wr.alloc _).cell? _ = _
            rw [World.cell?_alloc_lt _ _ _ (show gy < wr.heap.size from hyl)]
            exact HCY.out j (by omega)
          · cases hj
        have hw1 : IntKind.i64.wrap ((i : Int) + 1) = (i : Int) + 1 := IntWalk.i64_in _ (by omega)
        have hi3 : (0 : Int) ≤ (i : Int) + 1 := by omega
        have hi4 : (i : Int) + 1 ≤ (M.length : Int) := by omega
        have hi6 : (i : Int) ≤ (i : Int) + 1 := by omega
        have hi5 : (i : Int) < (M.length : Int) := by omega
        by_cases hcap : c_y = i + 1
        · subst hcap
          have hnil : M.drop (i + 1) = [] := List.drop_eq_nil_of_le (by omega)
          refine wp_region_held_drew (S := fun w' => w'.cell? ⟨w8.heap.size, 0, none⟩ = some (.slice (some ⟨gy, 0, none⟩) M.length (i + 1))) (by kernel_rfl) hS0 (fun hHeld => ?_)
          refine held_take 1 _ _ rfl (by kernel_rfl) (by kernel_rfl) (by kernel_rfl) (fun _ _ _ h => h) (by rfl) hHeld (fun w hSw => by (try dsimp only at hSw); go_simp; try with_reducible rfl) ?_
          (try simp only [Act.put, List.setIfInBounds_toArray, List.set_cons_zero, List.set_cons_succ, List.getElem_toArray, List.getElem_cons_succ, List.getElem_cons_zero])
          refine held_take 2 _ _ rfl (by kernel_rfl) (by kernel_rfl) (by kernel_rfl) (fun _ _ _ h => h) (by rfl) hHeld (fun w hSw => by (try dsimp only at hSw); go_simp; try with_reducible rfl) ?_
          (try simp only [Act.put, List.setIfInBounds_toArray, List.set_cons_zero, List.set_cons_succ, List.getElem_toArray, List.getElem_cons_succ, List.getElem_cons_zero])
          refine held_take 3 _ _ rfl (by kernel_rfl) (by kernel_rfl) (by kernel_rfl) (fun _ _ _ h => h) (by rfl) hHeld (fun w hSw => by (try dsimp only at hSw); go_simp; try with_reducible rfl) ?_
          (try simp only [Act.put, List.setIfInBounds_toArray, List.set_cons_zero, List.set_cons_succ, List.getElem_toArray, List.getElem_cons_succ, List.getElem_cons_zero])
          refine held_take 4 _ _ rfl (by kernel_rfl) (by kernel_rfl) (by kernel_rfl) (fun _ _ _ h => h) (by rfl) hHeld (fun w hSw => by (try dsimp only at hSw); go_simp; try with_reducible rfl) ?_
          (try simp only [Act.put, List.setIfInBounds_toArray, List.set_cons_zero, List.set_cons_succ, List.getElem_toArray, List.getElem_cons_succ, List.getElem_cons_zero])
          refine held_take 6 _ _ rfl (by kernel_rfl) (by kernel_rfl) (by kernel_rfl) (fun _ _ _ h => h) (by rfl) hHeld (fun w hSw => by (try dsimp only at hSw); go_simp; try with_reducible rfl) ?_
          (try simp only [Act.put, List.setIfInBounds_toArray, List.set_cons_zero, List.set_cons_succ, List.getElem_toArray, List.getElem_cons_succ, List.getElem_cons_zero])
          refine held_take 7 _ _ rfl (by kernel_rfl) (by kernel_rfl) (by kernel_rfl) (fun _ _ _ h => h) (by rfl) hHeld (fun w hSw => by (try dsimp only at hSw); go_simp; try with_reducible rfl) ?_
          (try simp only [Act.put, List.setIfInBounds_toArray, List.set_cons_zero, List.set_cons_succ, List.getElem_toArray, List.getElem_cons_succ, List.getElem_cons_zero])
          refine held_take 8 _ _ rfl (by kernel_rfl) (by kernel_rfl) (by kernel_rfl) (fun _ _ _ h => h) (by rfl) hHeld (fun w hSw => by (try dsimp only at hSw); go_simp; try with_reducible rfl) ?_
          (try simp only [Act.put, List.setIfInBounds_toArray, List.set_cons_zero, List.set_cons_succ, List.getElem_toArray, List.getElem_cons_succ, List.getElem_cons_zero])
          refine held_take 9 _ _ rfl (by kernel_rfl) (by kernel_rfl) (by kernel_rfl) (fun _ _ _ h => h) (by rfl) hHeld (fun w hSw => by (try dsimp only at hSw); go_simp; try with_reducible rfl) ?_
          (try simp only [Act.put, List.setIfInBounds_toArray, List.set_cons_zero, List.set_cons_succ, List.getElem_toArray, List.getElem_cons_succ, List.getElem_cons_zero])
          refine held_take 10 _ _ rfl (by kernel_rfl) (by kernel_rfl) (by kernel_rfl) (fun _ _ _ h => h) (by rfl) hHeld (fun w hSw => by (try dsimp only at hSw); go_simp; try with_reducible rfl) ?_
          (try simp only [Act.put, List.setIfInBounds_toArray, List.set_cons_zero, List.set_cons_succ, List.getElem_toArray, List.getElem_cons_succ, List.getElem_cons_zero])
          refine wpAnyH_ready (rs := [0]) (by kernel_rfl) (by simp) ?_
          refine AllReadyH.cons rfl (fun K hK => ?_) AllReadyH.nil
          rw [if_pos (by rfl)]
          go_wp2_with fail
          refine hK.out _ _ ((by show (wr.alloc _).cell? _ = _; rw [World.cell?_alloc_lt _ _ _ (show w8.heap.size < wr.heap.size by omega)]; exact hk)) (fun hHeld1 => ?_)
          clear hK K
          (try simp only [Act.put, List.setIfInBounds_toArray, List.set_cons_zero, List.set_cons_succ, List.getElem_toArray, List.getElem_cons_succ, List.getElem_cons_zero])
          refine wpAnyH_ready (rs := [5]) (by kernel_rfl) (by simp) ?_
          refine AllReadyH.cons rfl (fun K hK => ?_) AllReadyH.nil
          rw [if_pos (by rfl)]
          refine wp_append_own _ (.tmp 112) (.tmp 116) 24 (by rfl) wr.heap.size 3 i0 (Value.int .i64 0) 1 8 Try.underlying24 hI hz0 hz1' hz2' rfl (by decide) (.slice (some ⟨wr.heap.size, 0, none⟩) 0 0) 0 [] (by rfl) hown0 ⟨gy, 0, none⟩ i _ ((M.take i).map (Value.int .i64)) (by rfl) (by simp; try omega) hn1 (fun u hu => by first | cases hu | (obtain ⟨x, -, rfl⟩ := List.mem_map.1 hu; rfl)) (by unfold maxLen; omega) (by omega) (by first | omega | (show wr.heap.size ≤ (wr.alloc _).heap.size; simp)) ?_; intro v5 wa hown5 hg5 _
          have hs5 : wr.heap.size + 1 ≤ wa.heap.size := by have h := hg5.size; have e : (wr.alloc (.cells #[] 3)).drew.heap.size = wr.heap.size + 1 := (by show (wr.alloc _).heap.size = _; simp); omega
          have hbel5 := (hbel.alloc hbel.size (.cells #[] 3)).drew.grown hg5 (by show wc.heap.size ≤ (wr.alloc _).heap.size; exact Nat.le_trans hbel.size (by simp)) (fun k hk => by have e : wr.heap.size = k := Option.some.inj hk; have := hbel.size; omega)
          refine hK.out _ _ (hg5.cell hHeld1 (by simp [Value.ownBlock]; omega)) (fun hHeld2 => ?_)
          clear hK K
          (try simp only [Act.put, List.setIfInBounds_toArray, List.set_cons_zero, List.set_cons_succ, List.getElem_toArray, List.getElem_cons_succ, List.getElem_cons_zero])
          refine wpAnyH_ready (rs := [11]) (by kernel_rfl) (by simp) ?_
          refine AllReadyH.cons rfl (fun K hK => ?_) AllReadyH.nil
          rw [if_pos (by rfl)]
          refine wp_append_own _ (.tmp 117) (.tmp 122) 24 (by rfl) wr.heap.size 3 i0 (Value.int .i64 0) 1 8 Try.underlying24 hI hz0 hz1' hz2' rfl (by decide) v5 (0 + i) ([] ++ (M.take i).map (Value.int .i64)) (by rfl) hown5 _ _ _ ((M.drop (i + 1)).map (Value.int .i64)) (by rfl) (by simp; try omega) (fun j u hj => by rw [hnil] at hj; simp at hj) (fun u hu => by first | cases hu | (obtain ⟨x, -, rfl⟩ := List.mem_map.1 hu; rfl)) (by unfold maxLen; omega) (by omega) (by first | omega | (show wr.heap.size ≤ (wr.alloc _).heap.size; simp)) ?_; intro v6 wb hown6 hg6 _
          have hlo5 := hown5.lt
          have hbel6 := hbel5.grown hg6 hbel5.size (fun k hk => by have := (hlo5 k hk).1; have := hbel.size; omega)
          refine hK.out _ _ (hg6.cell hHeld2 (fun e => by have h1 := (hlo5 _ e.symm).1; dsimp only at h1; omega)) (fun hHeld3 => ?_)
          clear hK K
          (try simp only [Act.put, List.setIfInBounds_toArray, List.set_cons_zero, List.set_cons_succ, List.getElem_toArray, List.getElem_cons_succ, List.getElem_cons_zero])
          refine held_take 12 _ _ rfl (by kernel_rfl) (by kernel_rfl) (by kernel_rfl) (fun _ _ _ h => h) (by rfl) hHeld3 (fun w hSw => by (try dsimp only at hSw); go_simp; try with_reducible rfl) ?_
          (try simp only [Act.put, List.setIfInBounds_toArray, List.set_cons_zero, List.set_cons_succ, List.getElem_toArray, List.getElem_cons_succ, List.getElem_cons_zero])
          refine wpAnyH_done (by kernel_rfl) ?_ _
          have hown7 : wb.ownsRow wr.heap.size 3 1 v6 (M.take i ++ M.drop (i + 1)).length ((M.take i ++ M.drop (i + 1)).map (Value.int .i64)) := by
            have h := own_len hown6
            rw [List.nil_append, ← List.map_append] at h
            rwa [List.length_map] at h
          obtain ⟨a_r, c_r, rfl, rX⟩ := row_open hown7
          have hlr : (M.take i ++ M.drop (i + 1)).length ≤ 12 := by simp; omega
          have hcy6 := HCA.out wb hbel6 i hlt
          have hx12 := (isSgB_iff.1 hsg).bounds M[i] (List.getElem_mem hlt)
          have c := ci_Generates (M.take i ++ M.drop (i + 1)) a_r c_r M[i] wb rX.slw (by omega) (by omega) (by omega)
          rw [HSO.out] at c
          have hky := hHeld3
          clear hnil hown5 hown6 hown7 hg5 hg6 hn1 hown0 hS0 hk hs5 hlo5 rX hi3 hi4 hi5 hi6 hw1 hbel5
          generalize M.take i ++ M.drop (i + 1) = Q at *
          generalize hMx : M[i] = x at *
          replace hMx := Lib.hid hMx
          go_wp2_with fail
          refine c.mono ?_
          rintro e wk ⟨rfl, hbk⟩
          clear c
          go_wp2_with fail
          go_roundw
          case rel => exact ⟨i + 1, by omega, by go_num, hbel6.trans (hbk.mono hbel6.size)⟩
          case measure => simp [intOf]; omega
        · have hcap2 : ¬ i + 1 = c_y := fun e => hcap e.symm
          have hcut5 : ∀ w5 : World, (∀ b, b < wr.heap.size → b ≠ wr.heap.size → w5.heap[b]? = wr.heap[b]?) → ∀ j u, ((M.drop (i + 1)).map (Value.int .i64))[j]? = some u → w5.cell? ((⟨gy, i + 1, none⟩ : Addr).add j) = some u := fun w5 hw5 j u hj => by
            rw [List.getElem?_map, List.getElem?_drop] at hj
            by_cases hj' : i + 1 + j < M.length
            · rw [List.getElem?_eq_getElem hj'] at hj
              cases hj
              rw [Addr.add_mid]
              exact (World.cell?_of_block (a := ⟨gy, i + 1 + j, none⟩) (hw5 gy hyl (by omega))).trans (HCY.out (i + 1 + j) hj')
            · rw [List.getElem?_eq_none (by omega)] at hj; cases hj
          refine wp_region_held_drew (S := fun w' => w'.cell? ⟨w8.heap.size, 0, none⟩ = some (.slice (some ⟨gy, 0, none⟩) M.length c_y)) (by kernel_rfl) hS0 (fun hHeld => ?_)
          refine held_take 1 _ _ rfl (by kernel_rfl) (by kernel_rfl) (by kernel_rfl) (fun _ _ _ h => h) (by rfl) hHeld (fun w hSw => by (try dsimp only at hSw); go_simp; try with_reducible rfl) ?_
          (try simp only [Act.put, List.setIfInBounds_toArray, List.set_cons_zero, List.set_cons_succ, List.getElem_toArray, List.getElem_cons_succ, List.getElem_cons_zero])
          refine held_take 2 _ _ rfl (by kernel_rfl) (by kernel_rfl) (by kernel_rfl) (fun _ _ _ h => h) (by rfl) hHeld (fun w hSw => by (try dsimp only at hSw); go_simp; try with_reducible rfl) ?_
          (try simp only [Act.put, List.setIfInBounds_toArray, List.set_cons_zero, List.set_cons_succ, List.getElem_toArray, List.getElem_cons_succ, List.getElem_cons_zero])
          refine held_take 3 _ _ rfl (by kernel_rfl) (by kernel_rfl) (by kernel_rfl) (fun _ _ _ h => h) (by rfl) hHeld (fun w hSw => by (try dsimp only at hSw); go_simp; try with_reducible rfl) ?_
          (try simp only [Act.put, List.setIfInBounds_toArray, List.set_cons_zero, List.set_cons_succ, List.getElem_toArray, List.getElem_cons_succ, List.getElem_cons_zero])
          refine held_take 4 _ _ rfl (by kernel_rfl) (by kernel_rfl) (by kernel_rfl) (fun _ _ _ h => h) (by rfl) hHeld (fun w hSw => by (try dsimp only at hSw); go_simp; try with_reducible rfl) ?_
          (try simp only [Act.put, List.setIfInBounds_toArray, List.set_cons_zero, List.set_cons_succ, List.getElem_toArray, List.getElem_cons_succ, List.getElem_cons_zero])
          refine held_take 6 _ _ rfl (by kernel_rfl) (by kernel_rfl) (by kernel_rfl) (fun _ _ _ h => h) (by rfl) hHeld (fun w hSw => by (try dsimp only at hSw); go_simp; try with_reducible rfl) ?_
          (try simp only [Act.put, List.setIfInBounds_toArray, List.set_cons_zero, List.set_cons_succ, List.getElem_toArray, List.getElem_cons_succ, List.getElem_cons_zero])
          refine held_take 7 _ _ rfl (by kernel_rfl) (by kernel_rfl) (by kernel_rfl) (fun _ _ _ h => h) (by rfl) hHeld (fun w hSw => by (try dsimp only at hSw); go_simp; try with_reducible rfl) ?_
          (try simp only [Act.put, List.setIfInBounds_toArray, List.set_cons_zero, List.set_cons_succ, List.getElem_toArray, List.getElem_cons_succ, List.getElem_cons_zero])
          refine held_take 8 _ _ rfl (by kernel_rfl) (by kernel_rfl) (by kernel_rfl) (fun _ _ _ h => h) (by rfl) hHeld (fun w hSw => by (try dsimp only at hSw); go_simp; try with_reducible rfl) ?_
          (try simp only [Act.put, List.setIfInBounds_toArray, List.set_cons_zero, List.set_cons_succ, List.getElem_toArray, List.getElem_cons_succ, List.getElem_cons_zero])
          refine held_take 9 _ _ rfl (by kernel_rfl) (by kernel_rfl) (by kernel_rfl) (fun _ _ _ h => h) (by rfl) hHeld (fun w hSw => by (try dsimp only at hSw); go_simp; try with_reducible rfl) ?_
          (try simp only [Act.put, List.setIfInBounds_toArray, List.set_cons_zero, List.set_cons_succ, List.getElem_toArray, List.getElem_cons_succ, List.getElem_cons_zero])
          refine held_take 10 _ _ rfl (by kernel_rfl) (by kernel_rfl) (by kernel_rfl) (fun _ _ _ h => h) (by rfl) hHeld (fun w hSw => by (try dsimp only at hSw); go_simp; try with_reducible rfl) ?_
          (try simp only [Act.put, List.setIfInBounds_toArray, List.set_cons_zero, List.set_cons_succ, List.getElem_toArray, List.getElem_cons_succ, List.getElem_cons_zero])
          refine wpAnyH_ready (rs := [0]) (by kernel_rfl) (by simp) ?_
          refine AllReadyH.cons rfl (fun K hK => ?_) AllReadyH.nil
          rw [if_pos (by rfl)]
          go_wp2_with fail
          refine hK.out _ _ ((by show (wr.alloc _).cell? _ = _; rw [World.cell?_alloc_lt _ _ _ (show w8.heap.size < wr.heap.size by omega)]; exact hk)) (fun hHeld1 => ?_)
          clear hK K
          (try simp only [Act.put, List.setIfInBounds_toArray, List.set_cons_zero, List.set_cons_succ, List.getElem_toArray, List.getElem_cons_succ, List.getElem_cons_zero])
          refine wpAnyH_ready (rs := [5]) (by kernel_rfl) (by simp) ?_
          refine AllReadyH.cons rfl (fun K hK => ?_) AllReadyH.nil
          rw [if_pos (by rfl)]
          refine wp_append_own _ (.tmp 112) (.tmp 116) 24 (by rfl) wr.heap.size 3 i0 (Value.int .i64 0) 1 8 Try.underlying24 hI hz0 hz1' hz2' rfl (by decide) (.slice (some ⟨wr.heap.size, 0, none⟩) 0 0) 0 [] (by rfl) hown0 ⟨gy, 0, none⟩ i _ ((M.take i).map (Value.int .i64)) (by rfl) (by simp; try omega) hn1 (fun u hu => by first | cases hu | (obtain ⟨x, -, rfl⟩ := List.mem_map.1 hu; rfl)) (by unfold maxLen; omega) (by omega) (by first | omega | (show wr.heap.size ≤ (wr.alloc _).heap.size; simp)) ?_; intro v5 wa hown5 hg5 _
          have hs5 : wr.heap.size + 1 ≤ wa.heap.size := by have h := hg5.size; have e : (wr.alloc (.cells #[] 3)).drew.heap.size = wr.heap.size + 1 := (by show (wr.alloc _).heap.size = _; simp); omega
          have hn2 := hcut5 wa (fun b hb hne => (hg5.block b (Nat.lt_of_lt_of_le hb (by show wr.heap.size ≤ (wr.alloc _).heap.size; simp)) (fun e => hne (Option.some.inj e))).trans (Below.heap_alloc wr _ b hb))
          have hbel5 := (hbel.alloc hbel.size (.cells #[] 3)).drew.grown hg5 (by show wc.heap.size ≤ (wr.alloc _).heap.size; exact Nat.le_trans hbel.size (by simp)) (fun k hk => by have e : wr.heap.size = k := Option.some.inj hk; have := hbel.size; omega)
          refine hK.out _ _ (hg5.cell hHeld1 (by simp [Value.ownBlock]; omega)) (fun hHeld2 => ?_)
          clear hK K
          (try simp only [Act.put, List.setIfInBounds_toArray, List.set_cons_zero, List.set_cons_succ, List.getElem_toArray, List.getElem_cons_succ, List.getElem_cons_zero])
          refine wpAnyH_ready (rs := [11]) (by kernel_rfl) (by simp) ?_
          refine AllReadyH.cons rfl (fun K hK => ?_) AllReadyH.nil
          rw [if_pos (by rfl)]
          refine wp_append_own _ (.tmp 117) (.tmp 122) 24 (by rfl) wr.heap.size 3 i0 (Value.int .i64 0) 1 8 Try.underlying24 hI hz0 hz1' hz2' rfl (by decide) v5 (0 + i) ([] ++ (M.take i).map (Value.int .i64)) (by rfl) hown5 ⟨gy, i + 1, none⟩ (M.length - (i + 1)) _ ((M.drop (i + 1)).map (Value.int .i64)) (by rfl) (by simp; try omega) hn2 (fun u hu => by first | cases hu | (obtain ⟨x, -, rfl⟩ := List.mem_map.1 hu; rfl)) (by unfold maxLen; omega) (by omega) (by first | omega | (show wr.heap.size ≤ (wr.alloc _).heap.size; simp)) ?_; intro v6 wb hown6 hg6 _
          have hlo5 := hown5.lt
          have hbel6 := hbel5.grown hg6 hbel5.size (fun k hk => by have := (hlo5 k hk).1; have := hbel.size; omega)
          refine hK.out _ _ (hg6.cell hHeld2 (fun e => by have h1 := (hlo5 _ e.symm).1; dsimp only at h1; omega)) (fun hHeld3 => ?_)
          clear hK K
          (try simp only [Act.put, List.setIfInBounds_toArray, List.set_cons_zero, List.set_cons_succ, List.getElem_toArray, List.getElem_cons_succ, List.getElem_cons_zero])
          refine held_take 12 _ _ rfl (by kernel_rfl) (by kernel_rfl) (by kernel_rfl) (fun _ _ _ h => h) (by rfl) hHeld3 (fun w hSw => by (try dsimp only at hSw); go_simp; try with_reducible rfl) ?_
          (try simp only [Act.put, List.setIfInBounds_toArray, List.set_cons_zero, List.set_cons_succ, List.getElem_toArray, List.getElem_cons_succ, List.getElem_cons_zero])
          refine wpAnyH_done (by kernel_rfl) ?_ _
          have hown7 : wb.ownsRow wr.heap.size 3 1 v6 (M.take i ++ M.drop (i + 1)).length ((M.take i ++ M.drop (i + 1)).map (Value.int .i64)) := by
            have h := own_len hown6
            rw [List.nil_append, ← List.map_append] at h
            rwa [List.length_map] at h
          obtain ⟨a_r, c_r, rfl, rX⟩ := row_open hown7
          have hlr : (M.take i ++ M.drop (i + 1)).length ≤ 12 := by simp; omega
          have hcy6 := HCA.out wb hbel6 i hlt
          have hx12 := (isSgB_iff.1 hsg).bounds M[i] (List.getElem_mem hlt)
          have c := ci_Generates (M.take i ++ M.drop (i + 1)) a_r c_r M[i] wb rX.slw (by omega) (by omega) (by omega)
          rw [HSO.out] at c
          have hky := hHeld3
          clear hn2 hcut5 hown5 hown6 hown7 hg5 hg6 hn1 hown0 hS0 hk hs5 hlo5 rX hi3 hi4 hi5 hi6 hw1 hbel5
          generalize M.take i ++ M.drop (i + 1) = Q at *
          generalize hMx : M[i] = x at *
          replace hMx := Lib.hid hMx
          go_wp2_with fail
          refine c.mono ?_
          rintro e wk ⟨rfl, hbk⟩
          clear c
          go_wp2_with fail
          go_roundw
          case rel => exact ⟨i + 1, by omega, by go_num, hbel6.trans (hbk.mono hbel6.size)⟩
          case measure => simp [intOf]; omega
      · obtain rfl : i = M.length := by omega
        have hbz := hbel.size
        have hlbr : w8.heap.size < wr.heap.size := Nat.lt_of_lt_of_le hlby hbz
        go_upto_region 18 with fail
        go_cut [151] (fun s151 wx => s151 = Value.bool false ∧ Below wr.heap.size wr wx)
        case first =>
          have hS0 : wr.drew.cell? ⟨w8.heap.size, 0, none⟩ = some (.slice a_y M.length c_y) ∧ Below wr.heap.size wr wr.drew := ⟨hk, (Below.refl _ _).drew⟩
          have fr := fun w' (h : w'.cell? ⟨w8.heap.size, 0, none⟩ = some (.slice a_y M.length c_y) ∧ Below wr.heap.size wr w') => hbel.trans (h.2.mono hbel.size)
          cases q
          · skip
            refine wp_region_held_drew (S := fun w' => w'.cell? ⟨w8.heap.size, 0, none⟩ = some (.slice a_y M.length c_y) ∧ Below wr.heap.size wr w') (by kernel_rfl) hS0 (fun hHeld => ?_)
            refine held_take 0 _ _ rfl (by kernel_rfl) (by kernel_rfl) (by kernel_rfl) (fun _ _ _ h => h) (by rfl) hHeld (fun w hSw => by (try dsimp only at hSw); go_simp; try with_reducible rfl) ?_
            (try simp only [Act.put, List.setIfInBounds_toArray, List.set_cons_zero, List.set_cons_succ, List.getElem_toArray, List.getElem_cons_zero])
            refine held_take 1 _ _ rfl (by kernel_rfl) (by kernel_rfl) (by kernel_rfl) (fun _ _ _ h => h) (by rfl) hHeld (fun w hSw => by (try dsimp only at hSw); go_simp; try with_reducible rfl) ?_
            (try simp only [Act.put, List.setIfInBounds_toArray, List.set_cons_zero, List.set_cons_succ, List.getElem_toArray, List.getElem_cons_succ, List.getElem_cons_zero])
            refine held_skip 2 _ rfl (by kernel_rfl) (by kernel_rfl) (by kernel_rfl) (fun _ _ _ h => h) (by rfl) hHeld ?_
            (try simp only [Act.put, List.setIfInBounds_toArray, List.set_cons_zero, List.set_cons_succ, List.getElem_toArray, List.getElem_cons_succ, List.getElem_cons_zero])
            refine held_skip 3 _ rfl (by kernel_rfl) (by kernel_rfl) (by kernel_rfl) (fun _ _ _ h => h) (by rfl) hHeld ?_
            (try simp only [Act.put, List.setIfInBounds_toArray, List.set_cons_zero, List.set_cons_succ, List.getElem_toArray, List.getElem_cons_succ, List.getElem_cons_zero])
            refine held_take 4 _ _ rfl (by kernel_rfl) (by kernel_rfl) (by kernel_rfl) (fun _ _ _ h => h) (by rfl) hHeld (fun w hSw => by (try dsimp only at hSw); go_simp; try with_reducible rfl) ?_
            (try simp only [Act.put, List.setIfInBounds_toArray, List.set_cons_zero, List.set_cons_succ, List.getElem_toArray, List.getElem_cons_succ, List.getElem_cons_zero])
            refine held_take 5 _ _ rfl (by kernel_rfl) (by kernel_rfl) (by kernel_rfl) (fun _ _ _ h => h) (by rfl) hHeld (fun w hSw => by (try dsimp only at hSw); go_simp; try with_reducible rfl) ?_
            (try simp only [Act.put, List.setIfInBounds_toArray, List.set_cons_zero, List.set_cons_succ, List.getElem_toArray, List.getElem_cons_succ, List.getElem_cons_zero])
            refine held_skip 6 _ rfl (by kernel_rfl) (by kernel_rfl) (by kernel_rfl) (fun _ _ _ h => h) (by rfl) hHeld ?_
            (try simp only [Act.put, List.setIfInBounds_toArray, List.set_cons_zero, List.set_cons_succ, List.getElem_toArray, List.getElem_cons_succ, List.getElem_cons_zero])
            refine held_skip 7 _ rfl (by kernel_rfl) (by kernel_rfl) (by kernel_rfl) (fun _ _ _ h => h) (by rfl) hHeld ?_
            (try simp only [Act.put, List.setIfInBounds_toArray, List.set_cons_zero, List.set_cons_succ, List.getElem_toArray, List.getElem_cons_succ, List.getElem_cons_zero])
            refine held_take 8 _ _ rfl (by kernel_rfl) (by kernel_rfl) (by kernel_rfl) (fun _ _ _ h => h) (by rfl) hHeld (fun w hSw => by (try dsimp only at hSw); go_simp; try with_reducible rfl) ?_
            (try simp only [Act.put, List.setIfInBounds_toArray, List.set_cons_zero, List.set_cons_succ, List.getElem_toArray, List.getElem_cons_succ, List.getElem_cons_zero])
            refine held_take 9 _ _ rfl (by kernel_rfl) (by kernel_rfl) (by kernel_rfl) (fun _ _ _ h => h) (by rfl) hHeld (fun w hSw => by (try dsimp only at hSw); go_simp; try with_reducible rfl) ?_
            (try simp only [Act.put, List.setIfInBounds_toArray, List.set_cons_zero, List.set_cons_succ, List.getElem_toArray, List.getElem_cons_succ, List.getElem_cons_zero])
            refine held_skip 10 _ rfl (by kernel_rfl) (by kernel_rfl) (by kernel_rfl) (fun _ _ _ h => h) (by rfl) hHeld ?_
            (try simp only [Act.put, List.setIfInBounds_toArray, List.set_cons_zero, List.set_cons_succ, List.getElem_toArray, List.getElem_cons_succ, List.getElem_cons_zero])
            refine held_skip 11 _ rfl (by kernel_rfl) (by kernel_rfl) (by kernel_rfl) (fun _ _ _ h => h) (by rfl) hHeld ?_
            (try simp only [Act.put, List.setIfInBounds_toArray, List.set_cons_zero, List.set_cons_succ, List.getElem_toArray, List.getElem_cons_succ, List.getElem_cons_zero])
            refine held_skip 12 _ rfl (by kernel_rfl) (by kernel_rfl) (by kernel_rfl) (fun _ _ _ h => h) (by rfl) hHeld ?_
            (try simp only [Act.put, List.setIfInBounds_toArray, List.set_cons_zero, List.set_cons_succ, List.getElem_toArray, List.getElem_cons_succ, List.getElem_cons_zero])
            refine held_skip 13 _ rfl (by kernel_rfl) (by kernel_rfl) (by kernel_rfl) (fun _ _ _ h => h) (by rfl) hHeld ?_
            (try simp only [Act.put, List.setIfInBounds_toArray, List.set_cons_zero, List.set_cons_succ, List.getElem_toArray, List.getElem_cons_succ, List.getElem_cons_zero])
            refine held_skip 14 _ rfl (by kernel_rfl) (by kernel_rfl) (by kernel_rfl) (fun _ _ _ h => h) (by rfl) hHeld ?_
            (try simp only [Act.put, List.setIfInBounds_toArray, List.set_cons_zero, List.set_cons_succ, List.getElem_toArray, List.getElem_cons_succ, List.getElem_cons_zero])
            refine held_skip 15 _ rfl (by kernel_rfl) (by kernel_rfl) (by kernel_rfl) (fun _ _ _ h => h) (by rfl) hHeld ?_
            (try simp only [Act.put, List.setIfInBounds_toArray, List.set_cons_zero, List.set_cons_succ, List.getElem_toArray, List.getElem_cons_succ, List.getElem_cons_zero])
            refine held_skip 16 _ rfl (by kernel_rfl) (by kernel_rfl) (by kernel_rfl) (fun _ _ _ h => h) (by rfl) hHeld ?_
            (try simp only [Act.put, List.setIfInBounds_toArray, List.set_cons_zero, List.set_cons_succ, List.getElem_toArray, List.getElem_cons_succ, List.getElem_cons_zero])
            refine held_take 17 _ _ rfl (by kernel_rfl) (by kernel_rfl) (by kernel_rfl) (fun _ _ _ h => h) (by rfl) hHeld (fun w hSw => by (try dsimp only at hSw); go_simp; try with_reducible rfl) ?_
            (try simp only [Act.put, List.setIfInBounds_toArray, List.set_cons_zero, List.set_cons_succ, List.getElem_toArray, List.getElem_cons_succ, List.getElem_cons_zero])
            refine wpAnyH_done (by kernel_rfl) ?_ _
            have hBz := hHeld.2
            clear hS0 fr
            go_wp2_with fail
            go_meet
            exact ⟨rfl, hBz⟩
          · by_cases h0 : 0 ≤ n
            · by_cases h1 : n ≤ 1000000
              · have HE := Lib.hid (HGH.out rfl n h0 h1)
                refine wp_region_held_drew (S := fun w' => w'.cell? ⟨w8.heap.size, 0, none⟩ = some (.slice a_y M.length c_y) ∧ Below wr.heap.size wr w') (by kernel_rfl) hS0 (fun hHeld => ?_)
                refine held_take 0 _ _ rfl (by kernel_rfl) (by kernel_rfl) (by kernel_rfl) (fun _ _ _ h => h) (by rfl) hHeld (fun w hSw => by (try dsimp only at hSw); go_simp; try with_reducible rfl) ?_
                (try simp only [Act.put, List.setIfInBounds_toArray, List.set_cons_zero, List.set_cons_succ, List.getElem_toArray, List.getElem_cons_zero])
                refine held_take 1 _ _ rfl (by kernel_rfl) (by kernel_rfl) (by kernel_rfl) (fun _ _ _ h => h) (by rfl) hHeld (fun w hSw => by (try dsimp only at hSw); go_simp; try with_reducible rfl) ?_
                (try simp only [Act.put, List.setIfInBounds_toArray, List.set_cons_zero, List.set_cons_succ, List.getElem_toArray, List.getElem_cons_succ, List.getElem_cons_zero])
                refine held_take 2 _ _ rfl (by kernel_rfl) (by kernel_rfl) (by kernel_rfl) (fun _ _ _ h => h) (by rfl) hHeld (fun w hSw => by (try dsimp only at hSw); go_simp; try with_reducible rfl) ?_
                (try simp only [Act.put, List.setIfInBounds_toArray, List.set_cons_zero, List.set_cons_succ, List.getElem_toArray, List.getElem_cons_succ, List.getElem_cons_zero])
                refine held_take 3 _ _ rfl (by kernel_rfl) (by kernel_rfl) (by kernel_rfl) (fun _ _ _ h => h) (by rfl) hHeld (fun w hSw => by (try dsimp only at hSw); go_simp; try with_reducible rfl) ?_
                (try simp only [Act.put, List.setIfInBounds_toArray, List.set_cons_zero, List.set_cons_succ, List.getElem_toArray, List.getElem_cons_succ, List.getElem_cons_zero])
                refine held_take 4 _ _ rfl (by kernel_rfl) (by kernel_rfl) (by kernel_rfl) (fun _ _ _ h => h) (by rfl) hHeld (fun w hSw => by (try dsimp only at hSw); go_simp; try with_reducible rfl) ?_
                (try simp only [Act.put, List.setIfInBounds_toArray, List.set_cons_zero, List.set_cons_succ, List.getElem_toArray, List.getElem_cons_succ, List.getElem_cons_zero])
                refine held_take 5 _ _ rfl (by kernel_rfl) (by kernel_rfl) (by kernel_rfl) (fun _ _ _ h => h) (by rfl) hHeld (fun w hSw => by (try dsimp only at hSw); go_simp; try with_reducible rfl) ?_
                (try simp only [Act.put, List.setIfInBounds_toArray, List.set_cons_zero, List.set_cons_succ, List.getElem_toArray, List.getElem_cons_succ, List.getElem_cons_zero])
                refine held_take 6 _ _ rfl (by kernel_rfl) (by kernel_rfl) (by kernel_rfl) (fun _ _ _ h => h) (by rfl) hHeld (fun w hSw => by (try dsimp only at hSw); go_simp; try with_reducible rfl) ?_
                (try simp only [Act.put, List.setIfInBounds_toArray, List.set_cons_zero, List.set_cons_succ, List.getElem_toArray, List.getElem_cons_succ, List.getElem_cons_zero])
                refine held_take 7 _ _ rfl (by kernel_rfl) (by kernel_rfl) (by kernel_rfl) (fun _ _ _ h => h) (by rfl) hHeld (fun w hSw => by (try dsimp only at hSw); go_simp; try with_reducible rfl) ?_
                (try simp only [Act.put, List.setIfInBounds_toArray, List.set_cons_zero, List.set_cons_succ, List.getElem_toArray, List.getElem_cons_succ, List.getElem_cons_zero])
                refine held_take 8 _ _ rfl (by kernel_rfl) (by kernel_rfl) (by kernel_rfl) (fun _ _ _ h => h) (by rfl) hHeld (fun w hSw => by (try dsimp only at hSw); go_simp; try with_reducible rfl) ?_
                (try simp only [Act.put, List.setIfInBounds_toArray, List.set_cons_zero, List.set_cons_succ, List.getElem_toArray, List.getElem_cons_succ, List.getElem_cons_zero])
                refine held_take 9 _ _ rfl (by kernel_rfl) (by kernel_rfl) (by kernel_rfl) (fun _ _ _ h => h) (by rfl) hHeld (fun w hSw => by (try dsimp only at hSw); go_simp; try with_reducible rfl) ?_
                (try simp only [Act.put, List.setIfInBounds_toArray, List.set_cons_zero, List.set_cons_succ, List.getElem_toArray, List.getElem_cons_succ, List.getElem_cons_zero])
                refine held_take 10 _ _ rfl (by kernel_rfl) (by kernel_rfl) (by kernel_rfl) (fun _ _ _ h => h) (by rfl) hHeld (fun w hSw => by (try dsimp only at hSw); go_simp; try with_reducible rfl) ?_
                (try simp only [Act.put, List.setIfInBounds_toArray, List.set_cons_zero, List.set_cons_succ, List.getElem_toArray, List.getElem_cons_succ, List.getElem_cons_zero])
                refine held_take 11 _ _ rfl (by kernel_rfl) (by kernel_rfl) (by kernel_rfl) (fun _ _ _ h => h) (by rfl) hHeld (fun w hSw => by (try dsimp only at hSw); go_simp; try with_reducible rfl) ?_
                (try simp only [Act.put, List.setIfInBounds_toArray, List.set_cons_zero, List.set_cons_succ, List.getElem_toArray, List.getElem_cons_succ, List.getElem_cons_zero])
                refine held_take 13 _ _ rfl (by kernel_rfl) (by kernel_rfl) (by kernel_rfl) (fun _ _ _ h => h) (by rfl) hHeld (fun w hSw => by (try dsimp only at hSw); go_simp; try with_reducible rfl) ?_
                (try simp only [Act.put, List.setIfInBounds_toArray, List.set_cons_zero, List.set_cons_succ, List.getElem_toArray, List.getElem_cons_succ, List.getElem_cons_zero])
                refine held_take 14 _ _ rfl (by kernel_rfl) (by kernel_rfl) (by kernel_rfl) (fun _ _ _ h => h) (by rfl) hHeld (fun w hSw => by (try dsimp only at hSw); go_simp; try with_reducible rfl) ?_
                (try simp only [Act.put, List.setIfInBounds_toArray, List.set_cons_zero, List.set_cons_succ, List.getElem_toArray, List.getElem_cons_succ, List.getElem_cons_zero])
                refine wpAnyH_ready (rs := [12]) (by kernel_rfl) (by simp) ?_
                refine AllReadyH.cons rfl (fun K hK => ?_) AllReadyH.nil
                rw [if_pos (by rfl)]
                go_wp2_with (first | (go_at_call 19; have c := ci_Generates L a_l c_l n _ (R_l.out.slw.below (fr _ hHeld)) (by omega) hn64.1 hn64.2; rw [HE.out] at c; (with_reducible refine c.mono ?_); rintro e wk ⟨rfl, hbk⟩; clear c))
                refine hK.out _ _ (keep1 hlbr hHeld hbk) (fun hHeld1 => ?_)
                clear hK K
                (try simp only [Act.put, List.setIfInBounds_toArray, List.set_cons_zero, List.set_cons_succ, List.getElem_toArray, List.getElem_cons_succ, List.getElem_cons_zero])
                refine wpAnyH_ready (rs := [15]) (by kernel_rfl) (by simp) ?_
                refine AllReadyH.cons rfl (fun K hK => ?_) AllReadyH.nil
                rw [if_pos (by rfl)]
                go_wp2_with (first | (go_at_call 21; have c := ci_Contains M a_y c_y n _ (R_y.out.slw.below (fr _ hHeld1)) (by omega) hn64.1 hn64.2; (with_reducible refine c.mono ?_); rintro e wk ⟨rfl, hbk⟩; clear c))
                refine hK.out _ _ (keep1 hlbr hHeld1 hbk) (fun hHeld2 => ?_)
                clear hK K
                (try simp only [Act.put, List.setIfInBounds_toArray, List.set_cons_zero, List.set_cons_succ, List.getElem_toArray, List.getElem_cons_succ, List.getElem_cons_zero])
                refine held_take 16 _ _ rfl (by kernel_rfl) (by kernel_rfl) (by kernel_rfl) (fun _ _ _ h => h) (by rfl) hHeld2 (fun w hSw => by (try dsimp only at hSw); go_simp; try with_reducible rfl) ?_
                (try simp only [Act.put, List.setIfInBounds_toArray, List.set_cons_zero, List.set_cons_succ, List.getElem_toArray, List.getElem_cons_succ, List.getElem_cons_zero])
                refine held_take 17 _ _ rfl (by kernel_rfl) (by kernel_rfl) (by kernel_rfl) (fun _ _ _ h => h) (by rfl) hHeld2 (fun w hSw => by (try dsimp only at hSw); go_simp; try with_reducible rfl) ?_
                (try simp only [Act.put, List.setIfInBounds_toArray, List.set_cons_zero, List.set_cons_succ, List.getElem_toArray, List.getElem_cons_succ, List.getElem_cons_zero])
                refine wpAnyH_done (by kernel_rfl) ?_ _
                have hBz := hHeld2.2
                clear hS0 fr
                go_wp2_with fail
                go_meet
                exact ⟨rfl, hBz⟩
              · skip
                refine wp_region_held_drew (S := fun w' => w'.cell? ⟨w8.heap.size, 0, none⟩ = some (.slice a_y M.length c_y) ∧ Below wr.heap.size wr w') (by kernel_rfl) hS0 (fun hHeld => ?_)
                refine held_take 0 _ _ rfl (by kernel_rfl) (by kernel_rfl) (by kernel_rfl) (fun _ _ _ h => h) (by rfl) hHeld (fun w hSw => by (try dsimp only at hSw); go_simp; try with_reducible rfl) ?_
                (try simp only [Act.put, List.setIfInBounds_toArray, List.set_cons_zero, List.set_cons_succ, List.getElem_toArray, List.getElem_cons_zero])
                refine held_take 1 _ _ rfl (by kernel_rfl) (by kernel_rfl) (by kernel_rfl) (fun _ _ _ h => h) (by rfl) hHeld (fun w hSw => by (try dsimp only at hSw); go_simp; try with_reducible rfl) ?_
                (try simp only [Act.put, List.setIfInBounds_toArray, List.set_cons_zero, List.set_cons_succ, List.getElem_toArray, List.getElem_cons_succ, List.getElem_cons_zero])
                refine held_take 2 _ _ rfl (by kernel_rfl) (by kernel_rfl) (by kernel_rfl) (fun _ _ _ h => h) (by rfl) hHeld (fun w hSw => by (try dsimp only at hSw); go_simp; try with_reducible rfl) ?_
                (try simp only [Act.put, List.setIfInBounds_toArray, List.set_cons_zero, List.set_cons_succ, List.getElem_toArray, List.getElem_cons_succ, List.getElem_cons_zero])
                refine held_take 3 _ _ rfl (by kernel_rfl) (by kernel_rfl) (by kernel_rfl) (fun _ _ _ h => h) (by rfl) hHeld (fun w hSw => by (try dsimp only at hSw); go_simp; try with_reducible rfl) ?_
                (try simp only [Act.put, List.setIfInBounds_toArray, List.set_cons_zero, List.set_cons_succ, List.getElem_toArray, List.getElem_cons_succ, List.getElem_cons_zero])
                refine held_take 4 _ _ rfl (by kernel_rfl) (by kernel_rfl) (by kernel_rfl) (fun _ _ _ h => h) (by rfl) hHeld (fun w hSw => by (try dsimp only at hSw); go_simp; try with_reducible rfl) ?_
                (try simp only [Act.put, List.setIfInBounds_toArray, List.set_cons_zero, List.set_cons_succ, List.getElem_toArray, List.getElem_cons_succ, List.getElem_cons_zero])
                refine held_take 5 _ _ rfl (by kernel_rfl) (by kernel_rfl) (by kernel_rfl) (fun _ _ _ h => h) (by rfl) hHeld (fun w hSw => by (try dsimp only at hSw); go_simp; try with_reducible rfl) ?_
                (try simp only [Act.put, List.setIfInBounds_toArray, List.set_cons_zero, List.set_cons_succ, List.getElem_toArray, List.getElem_cons_succ, List.getElem_cons_zero])
                refine held_take 6 _ _ rfl (by kernel_rfl) (by kernel_rfl) (by kernel_rfl) (fun _ _ _ h => h) (by rfl) hHeld (fun w hSw => by (try dsimp only at hSw); go_simp; try with_reducible rfl) ?_
                (try simp only [Act.put, List.setIfInBounds_toArray, List.set_cons_zero, List.set_cons_succ, List.getElem_toArray, List.getElem_cons_succ, List.getElem_cons_zero])
                refine held_take 7 _ _ rfl (by kernel_rfl) (by kernel_rfl) (by kernel_rfl) (fun _ _ _ h => h) (by rfl) hHeld (fun w hSw => by (try dsimp only at hSw); go_simp; try with_reducible rfl) ?_
                (try simp only [Act.put, List.setIfInBounds_toArray, List.set_cons_zero, List.set_cons_succ, List.getElem_toArray, List.getElem_cons_succ, List.getElem_cons_zero])
                refine held_take 8 _ _ rfl (by kernel_rfl) (by kernel_rfl) (by kernel_rfl) (fun _ _ _ h => h) (by rfl) hHeld (fun w hSw => by (try dsimp only at hSw); go_simp; try with_reducible rfl) ?_
                (try simp only [Act.put, List.setIfInBounds_toArray, List.set_cons_zero, List.set_cons_succ, List.getElem_toArray, List.getElem_cons_succ, List.getElem_cons_zero])
                refine held_take 9 _ _ rfl (by kernel_rfl) (by kernel_rfl) (by kernel_rfl) (fun _ _ _ h => h) (by rfl) hHeld (fun w hSw => by (try dsimp only at hSw); go_simp; try with_reducible rfl) ?_
                (try simp only [Act.put, List.setIfInBounds_toArray, List.set_cons_zero, List.set_cons_succ, List.getElem_toArray, List.getElem_cons_succ, List.getElem_cons_zero])
                refine held_skip 10 _ rfl (by kernel_rfl) (by kernel_rfl) (by kernel_rfl) (fun _ _ _ h => h) (by rfl) hHeld ?_
                (try simp only [Act.put, List.setIfInBounds_toArray, List.set_cons_zero, List.set_cons_succ, List.getElem_toArray, List.getElem_cons_succ, List.getElem_cons_zero])
                refine held_skip 11 _ rfl (by kernel_rfl) (by kernel_rfl) (by kernel_rfl) (fun _ _ _ h => h) (by rfl) hHeld ?_
                (try simp only [Act.put, List.setIfInBounds_toArray, List.set_cons_zero, List.set_cons_succ, List.getElem_toArray, List.getElem_cons_succ, List.getElem_cons_zero])
                refine held_skip 12 _ rfl (by kernel_rfl) (by kernel_rfl) (by kernel_rfl) (fun _ _ _ h => h) (by rfl) hHeld ?_
                (try simp only [Act.put, List.setIfInBounds_toArray, List.set_cons_zero, List.set_cons_succ, List.getElem_toArray, List.getElem_cons_succ, List.getElem_cons_zero])
                refine held_skip 13 _ rfl (by kernel_rfl) (by kernel_rfl) (by kernel_rfl) (fun _ _ _ h => h) (by rfl) hHeld ?_
                (try simp only [Act.put, List.setIfInBounds_toArray, List.set_cons_zero, List.set_cons_succ, List.getElem_toArray, List.getElem_cons_succ, List.getElem_cons_zero])
                refine held_skip 14 _ rfl (by kernel_rfl) (by kernel_rfl) (by kernel_rfl) (fun _ _ _ h => h) (by rfl) hHeld ?_
                (try simp only [Act.put, List.setIfInBounds_toArray, List.set_cons_zero, List.set_cons_succ, List.getElem_toArray, List.getElem_cons_succ, List.getElem_cons_zero])
                refine held_skip 15 _ rfl (by kernel_rfl) (by kernel_rfl) (by kernel_rfl) (fun _ _ _ h => h) (by rfl) hHeld ?_
                (try simp only [Act.put, List.setIfInBounds_toArray, List.set_cons_zero, List.set_cons_succ, List.getElem_toArray, List.getElem_cons_succ, List.getElem_cons_zero])
                refine held_skip 16 _ rfl (by kernel_rfl) (by kernel_rfl) (by kernel_rfl) (fun _ _ _ h => h) (by rfl) hHeld ?_
                (try simp only [Act.put, List.setIfInBounds_toArray, List.set_cons_zero, List.set_cons_succ, List.getElem_toArray, List.getElem_cons_succ, List.getElem_cons_zero])
                refine held_take 17 _ _ rfl (by kernel_rfl) (by kernel_rfl) (by kernel_rfl) (fun _ _ _ h => h) (by rfl) hHeld (fun w hSw => by (try dsimp only at hSw); go_simp; try with_reducible rfl) ?_
                (try simp only [Act.put, List.setIfInBounds_toArray, List.set_cons_zero, List.set_cons_succ, List.getElem_toArray, List.getElem_cons_succ, List.getElem_cons_zero])
                refine wpAnyH_done (by kernel_rfl) ?_ _
                have hBz := hHeld.2
                clear hS0 fr
                go_wp2_with fail
                go_meet
                exact ⟨rfl, hBz⟩
            · skip
              refine wp_region_held_drew (S := fun w' => w'.cell? ⟨w8.heap.size, 0, none⟩ = some (.slice a_y M.length c_y) ∧ Below wr.heap.size wr w') (by kernel_rfl) hS0 (fun hHeld => ?_)
              refine held_take 0 _ _ rfl (by kernel_rfl) (by kernel_rfl) (by kernel_rfl) (fun _ _ _ h => h) (by rfl) hHeld (fun w hSw => by (try dsimp only at hSw); go_simp; try with_reducible rfl) ?_
              (try simp only [Act.put, List.setIfInBounds_toArray, List.set_cons_zero, List.set_cons_succ, List.getElem_toArray, List.getElem_cons_zero])
              refine held_take 1 _ _ rfl (by kernel_rfl) (by kernel_rfl) (by kernel_rfl) (fun _ _ _ h => h) (by rfl) hHeld (fun w hSw => by (try dsimp only at hSw); go_simp; try with_reducible rfl) ?_
              (try simp only [Act.put, List.setIfInBounds_toArray, List.set_cons_zero, List.set_cons_succ, List.getElem_toArray, List.getElem_cons_succ, List.getElem_cons_zero])
              refine held_take 2 _ _ rfl (by kernel_rfl) (by kernel_rfl) (by kernel_rfl) (fun _ _ _ h => h) (by rfl) hHeld (fun w hSw => by (try dsimp only at hSw); go_simp; try with_reducible rfl) ?_
              (try simp only [Act.put, List.setIfInBounds_toArray, List.set_cons_zero, List.set_cons_succ, List.getElem_toArray, List.getElem_cons_succ, List.getElem_cons_zero])
              refine held_take 3 _ _ rfl (by kernel_rfl) (by kernel_rfl) (by kernel_rfl) (fun _ _ _ h => h) (by rfl) hHeld (fun w hSw => by (try dsimp only at hSw); go_simp; try with_reducible rfl) ?_
              (try simp only [Act.put, List.setIfInBounds_toArray, List.set_cons_zero, List.set_cons_succ, List.getElem_toArray, List.getElem_cons_succ, List.getElem_cons_zero])
              refine held_take 4 _ _ rfl (by kernel_rfl) (by kernel_rfl) (by kernel_rfl) (fun _ _ _ h => h) (by rfl) hHeld (fun w hSw => by (try dsimp only at hSw); go_simp; try with_reducible rfl) ?_
              (try simp only [Act.put, List.setIfInBounds_toArray, List.set_cons_zero, List.set_cons_succ, List.getElem_toArray, List.getElem_cons_succ, List.getElem_cons_zero])
              refine held_take 5 _ _ rfl (by kernel_rfl) (by kernel_rfl) (by kernel_rfl) (fun _ _ _ h => h) (by rfl) hHeld (fun w hSw => by (try dsimp only at hSw); go_simp; try with_reducible rfl) ?_
              (try simp only [Act.put, List.setIfInBounds_toArray, List.set_cons_zero, List.set_cons_succ, List.getElem_toArray, List.getElem_cons_succ, List.getElem_cons_zero])
              refine held_skip 6 _ rfl (by kernel_rfl) (by kernel_rfl) (by kernel_rfl) (fun _ _ _ h => h) (by rfl) hHeld ?_
              (try simp only [Act.put, List.setIfInBounds_toArray, List.set_cons_zero, List.set_cons_succ, List.getElem_toArray, List.getElem_cons_succ, List.getElem_cons_zero])
              refine held_skip 7 _ rfl (by kernel_rfl) (by kernel_rfl) (by kernel_rfl) (fun _ _ _ h => h) (by rfl) hHeld ?_
              (try simp only [Act.put, List.setIfInBounds_toArray, List.set_cons_zero, List.set_cons_succ, List.getElem_toArray, List.getElem_cons_succ, List.getElem_cons_zero])
              refine held_take 8 _ _ rfl (by kernel_rfl) (by kernel_rfl) (by kernel_rfl) (fun _ _ _ h => h) (by rfl) hHeld (fun w hSw => by (try dsimp only at hSw); go_simp; try with_reducible rfl) ?_
              (try simp only [Act.put, List.setIfInBounds_toArray, List.set_cons_zero, List.set_cons_succ, List.getElem_toArray, List.getElem_cons_succ, List.getElem_cons_zero])
              refine held_take 9 _ _ rfl (by kernel_rfl) (by kernel_rfl) (by kernel_rfl) (fun _ _ _ h => h) (by rfl) hHeld (fun w hSw => by (try dsimp only at hSw); go_simp; try with_reducible rfl) ?_
              (try simp only [Act.put, List.setIfInBounds_toArray, List.set_cons_zero, List.set_cons_succ, List.getElem_toArray, List.getElem_cons_succ, List.getElem_cons_zero])
              refine held_skip 10 _ rfl (by kernel_rfl) (by kernel_rfl) (by kernel_rfl) (fun _ _ _ h => h) (by rfl) hHeld ?_
              (try simp only [Act.put, List.setIfInBounds_toArray, List.set_cons_zero, List.set_cons_succ, List.getElem_toArray, List.getElem_cons_succ, List.getElem_cons_zero])
              refine held_skip 11 _ rfl (by kernel_rfl) (by kernel_rfl) (by kernel_rfl) (fun _ _ _ h => h) (by rfl) hHeld ?_
              (try simp only [Act.put, List.setIfInBounds_toArray, List.set_cons_zero, List.set_cons_succ, List.getElem_toArray, List.getElem_cons_succ, List.getElem_cons_zero])
              refine held_skip 12 _ rfl (by kernel_rfl) (by kernel_rfl) (by kernel_rfl) (fun _ _ _ h => h) (by rfl) hHeld ?_
              (try simp only [Act.put, List.setIfInBounds_toArray, List.set_cons_zero, List.set_cons_succ, List.getElem_toArray, List.getElem_cons_succ, List.getElem_cons_zero])
              refine held_skip 13 _ rfl (by kernel_rfl) (by kernel_rfl) (by kernel_rfl) (fun _ _ _ h => h) (by rfl) hHeld ?_
              (try simp only [Act.put, List.setIfInBounds_toArray, List.set_cons_zero, List.set_cons_succ, List.getElem_toArray, List.getElem_cons_succ, List.getElem_cons_zero])
              refine held_skip 14 _ rfl (by kernel_rfl) (by kernel_rfl) (by kernel_rfl) (fun _ _ _ h => h) (by rfl) hHeld ?_
              (try simp only [Act.put, List.setIfInBounds_toArray, List.set_cons_zero, List.set_cons_succ, List.getElem_toArray, List.getElem_cons_succ, List.getElem_cons_zero])
              refine held_skip 15 _ rfl (by kernel_rfl) (by kernel_rfl) (by kernel_rfl) (fun _ _ _ h => h) (by rfl) hHeld ?_
              (try simp only [Act.put, List.setIfInBounds_toArray, List.set_cons_zero, List.set_cons_succ, List.getElem_toArray, List.getElem_cons_succ, List.getElem_cons_zero])
              refine held_skip 16 _ rfl (by kernel_rfl) (by kernel_rfl) (by kernel_rfl) (fun _ _ _ h => h) (by rfl) hHeld ?_
              (try simp only [Act.put, List.setIfInBounds_toArray, List.set_cons_zero, List.set_cons_succ, List.getElem_toArray, List.getElem_cons_succ, List.getElem_cons_zero])
              refine held_take 17 _ _ rfl (by kernel_rfl) (by kernel_rfl) (by kernel_rfl) (fun _ _ _ h => h) (by rfl) hHeld (fun w hSw => by (try dsimp only at hSw); go_simp; try with_reducible rfl) ?_
              (try simp only [Act.put, List.setIfInBounds_toArray, List.set_cons_zero, List.set_cons_succ, List.getElem_toArray, List.getElem_cons_succ, List.getElem_cons_zero])
              refine wpAnyH_done (by kernel_rfl) ?_ _
              have hBz := hHeld.2
              clear hS0 fr
              go_wp2_with fail
              go_meet
              exact ⟨rfl, hBz⟩
        case rest =>
          obtain ⟨rfl, hb⟩ := hcut
          have hbe := hbel.trans (hb.mono hbz)
          have hWc := hW.trans (hbe.mono hW.size)
          have hks : wc.cell? ⟨w3.heap.size, 0, none⟩ = some (.slice a_s Ls.length c_s) := (B_bs.out.below hbe).cell 0
          have hlbs : w3.heap.size < wc.heap.size := Nat.lt_of_lt_of_le B_bs.out.lt hbe.size
          clear hk HSG HNO HGH
          have hS0 : wc.drew.cell? ⟨w3.heap.size, 0, none⟩ = some (.slice a_s Ls.length c_s) ∧ Below wc.heap.size wc wc.drew := ⟨hks, (Below.refl _ _).drew⟩
          have fr := fun w' (h : w'.cell? ⟨w3.heap.size, 0, none⟩ = some (.slice a_s Ls.length c_s) ∧ Below wc.heap.size wc w') => hbe.trans (h.2.mono hbe.size)
          go_wp2_with fail
          cases hc : hasN Ls k
          · have HC := Lib.hid hc
            clear hc
            refine wp_region_held_drew (S := fun w' => w'.cell? ⟨w3.heap.size, 0, none⟩ = some (.slice a_s Ls.length c_s) ∧ Below wc.heap.size wc w') (by kernel_rfl) hS0 (fun hHeld => ?_)
            refine held_take 0 _ _ rfl (by kernel_rfl) (by kernel_rfl) (by kernel_rfl) (fun _ _ _ h => h) (by rfl) hHeld (fun w hSw => by (try dsimp only at hSw); go_simp; try with_reducible rfl) ?_
            (try simp only [Act.put, List.setIfInBounds_toArray, List.set_cons_zero, List.set_cons_succ, List.getElem_toArray, List.getElem_cons_zero])
            refine held_take 1 _ _ rfl (by kernel_rfl) (by kernel_rfl) (by kernel_rfl) (fun _ _ _ h => h) (by rfl) hHeld (fun w hSw => by (try dsimp only at hSw); go_simp; try with_reducible rfl) ?_
            (try simp only [Act.put, List.setIfInBounds_toArray, List.set_cons_zero, List.set_cons_succ, List.getElem_toArray, List.getElem_cons_succ, List.getElem_cons_zero])
            refine wpAnyH_ready (rs := [2]) (by kernel_rfl) (by simp) ?_
            refine AllReadyH.cons rfl (fun K hK => ?_) AllReadyH.nil
            rw [if_pos (by rfl)]
            go_wp2_with (first | (go_at_call 21; have c := ci_Contains Ls a_s c_s k _ (S_s.out.below (fr _ hHeld)) (by omega) hk64.1 hk64.2; rw [HC.out] at c; (with_reducible refine c.mono ?_); rintro e wk ⟨rfl, hbk⟩; clear c))
            refine hK.out _ _ (keep1 hlbs hHeld hbk) (fun hHeld1 => ?_)
            clear hK K
            (try simp only [Act.put, List.setIfInBounds_toArray, List.set_cons_zero, List.set_cons_succ, List.getElem_toArray, List.getElem_cons_succ, List.getElem_cons_zero])
            refine held_take 3 _ _ rfl (by kernel_rfl) (by kernel_rfl) (by kernel_rfl) (fun _ _ _ h => h) (by rfl) hHeld1 (fun w hSw => by (try dsimp only at hSw); go_simp; try with_reducible rfl) ?_
            (try simp only [Act.put, List.setIfInBounds_toArray, List.set_cons_zero, List.set_cons_succ, List.getElem_toArray, List.getElem_cons_succ, List.getElem_cons_zero])
            refine held_take 4 _ _ rfl (by kernel_rfl) (by kernel_rfl) (by kernel_rfl) (fun _ _ _ h => h) (by rfl) hHeld1 (fun w hSw => by (try dsimp only at hSw); go_simp; try with_reducible rfl) ?_
            (try simp only [Act.put, List.setIfInBounds_toArray, List.set_cons_zero, List.set_cons_succ, List.getElem_toArray, List.getElem_cons_succ, List.getElem_cons_zero])
            refine held_skip 5 _ rfl (by kernel_rfl) (by kernel_rfl) (by kernel_rfl) (fun _ _ _ h => h) (by rfl) hHeld1 ?_
            (try simp only [Act.put, List.setIfInBounds_toArray, List.set_cons_zero, List.set_cons_succ, List.getElem_toArray, List.getElem_cons_succ, List.getElem_cons_zero])
            refine held_skip 6 _ rfl (by kernel_rfl) (by kernel_rfl) (by kernel_rfl) (fun _ _ _ h => h) (by rfl) hHeld1 ?_
            (try simp only [Act.put, List.setIfInBounds_toArray, List.set_cons_zero, List.set_cons_succ, List.getElem_toArray, List.getElem_cons_succ, List.getElem_cons_zero])
            refine held_take 7 _ _ rfl (by kernel_rfl) (by kernel_rfl) (by kernel_rfl) (fun _ _ _ h => h) (by rfl) hHeld1 (fun w hSw => by (try dsimp only at hSw); go_simp; try with_reducible rfl) ?_
            (try simp only [Act.put, List.setIfInBounds_toArray, List.set_cons_zero, List.set_cons_succ, List.getElem_toArray, List.getElem_cons_succ, List.getElem_cons_zero])
            refine held_take 8 _ _ rfl (by kernel_rfl) (by kernel_rfl) (by kernel_rfl) (fun _ _ _ h => h) (by rfl) hHeld1 (fun w hSw => by (try dsimp only at hSw); go_simp; try with_reducible rfl) ?_
            (try simp only [Act.put, List.setIfInBounds_toArray, List.set_cons_zero, List.set_cons_succ, List.getElem_toArray, List.getElem_cons_succ, List.getElem_cons_zero])
            refine held_skip 9 _ rfl (by kernel_rfl) (by kernel_rfl) (by kernel_rfl) (fun _ _ _ h => h) (by rfl) hHeld1 ?_
            (try simp only [Act.put, List.setIfInBounds_toArray, List.set_cons_zero, List.set_cons_succ, List.getElem_toArray, List.getElem_cons_succ, List.getElem_cons_zero])
            refine held_skip 10 _ rfl (by kernel_rfl) (by kernel_rfl) (by kernel_rfl) (fun _ _ _ h => h) (by rfl) hHeld1 ?_
            (try simp only [Act.put, List.setIfInBounds_toArray, List.set_cons_zero, List.set_cons_succ, List.getElem_toArray, List.getElem_cons_succ, List.getElem_cons_zero])
            refine held_skip 11 _ rfl (by kernel_rfl) (by kernel_rfl) (by kernel_rfl) (fun _ _ _ h => h) (by rfl) hHeld1 ?_
            (try simp only [Act.put, List.setIfInBounds_toArray, List.set_cons_zero, List.set_cons_succ, List.getElem_toArray, List.getElem_cons_succ, List.getElem_cons_zero])
            refine held_skip 12 _ rfl (by kernel_rfl) (by kernel_rfl) (by kernel_rfl) (fun _ _ _ h => h) (by rfl) hHeld1 ?_
            (try simp only [Act.put, List.setIfInBounds_toArray, List.set_cons_zero, List.set_cons_succ, List.getElem_toArray, List.getElem_cons_succ, List.getElem_cons_zero])
            refine held_skip 13 _ rfl (by kernel_rfl) (by kernel_rfl) (by kernel_rfl) (fun _ _ _ h => h) (by rfl) hHeld1 ?_
            (try simp only [Act.put, List.setIfInBounds_toArray, List.set_cons_zero, List.set_cons_succ, List.getElem_toArray, List.getElem_cons_succ, List.getElem_cons_zero])
            refine held_skip 14 _ rfl (by kernel_rfl) (by kernel_rfl) (by kernel_rfl) (fun _ _ _ h => h) (by rfl) hHeld1 ?_
            (try simp only [Act.put, List.setIfInBounds_toArray, List.set_cons_zero, List.set_cons_succ, List.getElem_toArray, List.getElem_cons_succ, List.getElem_cons_zero])
            refine held_skip 15 _ rfl (by kernel_rfl) (by kernel_rfl) (by kernel_rfl) (fun _ _ _ h => h) (by rfl) hHeld1 ?_
            (try simp only [Act.put, List.setIfInBounds_toArray, List.set_cons_zero, List.set_cons_succ, List.getElem_toArray, List.getElem_cons_succ, List.getElem_cons_zero])
            refine held_skip 16 _ rfl (by kernel_rfl) (by kernel_rfl) (by kernel_rfl) (fun _ _ _ h => h) (by rfl) hHeld1 ?_
            (try simp only [Act.put, List.setIfInBounds_toArray, List.set_cons_zero, List.set_cons_succ, List.getElem_toArray, List.getElem_cons_succ, List.getElem_cons_zero])
            refine held_skip 17 _ rfl (by kernel_rfl) (by kernel_rfl) (by kernel_rfl) (fun _ _ _ h => h) (by rfl) hHeld1 ?_
            (try simp only [Act.put, List.setIfInBounds_toArray, List.set_cons_zero, List.set_cons_succ, List.getElem_toArray, List.getElem_cons_succ, List.getElem_cons_zero])
            refine held_skip 18 _ rfl (by kernel_rfl) (by kernel_rfl) (by kernel_rfl) (fun _ _ _ h => h) (by rfl) hHeld1 ?_
            (try simp only [Act.put, List.setIfInBounds_toArray, List.set_cons_zero, List.set_cons_succ, List.getElem_toArray, List.getElem_cons_succ, List.getElem_cons_zero])
            refine held_skip 19 _ rfl (by kernel_rfl) (by kernel_rfl) (by kernel_rfl) (fun _ _ _ h => h) (by rfl) hHeld1 ?_
            (try simp only [Act.put, List.setIfInBounds_toArray, List.set_cons_zero, List.set_cons_succ, List.getElem_toArray, List.getElem_cons_succ, List.getElem_cons_zero])
            refine held_skip 20 _ rfl (by kernel_rfl) (by kernel_rfl) (by kernel_rfl) (fun _ _ _ h => h) (by rfl) hHeld1 ?_
            (try simp only [Act.put, List.setIfInBounds_toArray, List.set_cons_zero, List.set_cons_succ, List.getElem_toArray, List.getElem_cons_succ, List.getElem_cons_zero])
            refine held_take 21 _ _ rfl (by kernel_rfl) (by kernel_rfl) (by kernel_rfl) (fun _ _ _ h => h) (by rfl) hHeld1 (fun w hSw => by (try dsimp only at hSw); go_simp; try with_reducible rfl) ?_
            (try simp only [Act.put, List.setIfInBounds_toArray, List.set_cons_zero, List.set_cons_succ, List.getElem_toArray, List.getElem_cons_succ, List.getElem_cons_zero])
            refine held_take 22 _ _ rfl (by kernel_rfl) (by kernel_rfl) (by kernel_rfl) (fun _ _ _ h => h) (by rfl) hHeld1 (fun w hSw => by (try dsimp only at hSw); go_simp; try with_reducible rfl) ?_
            (try simp only [Act.put, List.setIfInBounds_toArray, List.set_cons_zero, List.set_cons_succ, List.getElem_toArray, List.getElem_cons_succ, List.getElem_cons_zero])
            refine wpAnyH_done (by kernel_rfl) ?_ _
            have hBz := hHeld1.2
            clear hS0 fr
            go_wp2_with fail
            go_ret
            exact ⟨rfl, hWc.trans (hBz.mono hWc.size)⟩
          · have HS := Lib.hid (hasN_sum hc)
            have hk0 := (hasN_sg hc).2.1
            have HC := Lib.hid hc
            clear hc
            by_cases h1 : k ≤ 1000000
            · have hmb := multN_bounds Ls
              have hw1 : IntKind.i64.wrap (k + multN Ls) = k + multN Ls := IntWalk.i64_in _ (by omega)
              have hw2 : IntKind.i64.wrap (2 * k) = 2 * k := IntWalk.i64_in _ (by omega)
              have h2 : ¬ 1000000 < k := by omega
              have h3 : decide (1000000 < k) = false := decide_eq_false h2
              have h4 : decide (k > 1000000) = false := decide_eq_false h2
              refine wp_region_held_drew (S := fun w' => w'.cell? ⟨w3.heap.size, 0, none⟩ = some (.slice a_s Ls.length c_s) ∧ Below wc.heap.size wc w') (by kernel_rfl) hS0 (fun hHeld => ?_)
              refine held_take 0 _ _ rfl (by kernel_rfl) (by kernel_rfl) (by kernel_rfl) (fun _ _ _ h => h) (by rfl) hHeld (fun w hSw => by (try dsimp only at hSw); go_simp; try with_reducible rfl) ?_
              (try simp only [Act.put, List.setIfInBounds_toArray, List.set_cons_zero, List.set_cons_succ, List.getElem_toArray, List.getElem_cons_zero])
              refine held_take 1 _ _ rfl (by kernel_rfl) (by kernel_rfl) (by kernel_rfl) (fun _ _ _ h => h) (by rfl) hHeld (fun w hSw => by (try dsimp only at hSw); go_simp; try with_reducible rfl) ?_
              (try simp only [Act.put, List.setIfInBounds_toArray, List.set_cons_zero, List.set_cons_succ, List.getElem_toArray, List.getElem_cons_succ, List.getElem_cons_zero])
              refine wpAnyH_ready (rs := [2]) (by kernel_rfl) (by simp) ?_
              refine AllReadyH.cons rfl (fun K hK => ?_) AllReadyH.nil
              rw [if_pos (by rfl)]
              go_wp2_with (first | (go_at_call 21; have c := ci_Contains Ls a_s c_s k _ (S_s.out.below (fr _ hHeld)) (by omega) hk64.1 hk64.2; rw [HC.out] at c; (with_reducible refine c.mono ?_); rintro e wk ⟨rfl, hbk⟩; clear c))
              refine hK.out _ _ (keep1 hlbs hHeld hbk) (fun hHeld1 => ?_)
              clear hK K
              (try simp only [Act.put, List.setIfInBounds_toArray, List.set_cons_zero, List.set_cons_succ, List.getElem_toArray, List.getElem_cons_succ, List.getElem_cons_zero])
              refine held_take 3 _ _ rfl (by kernel_rfl) (by kernel_rfl) (by kernel_rfl) (fun _ _ _ h => h) (by rfl) hHeld1 (fun w hSw => by (try dsimp only at hSw); go_simp; try with_reducible rfl) ?_
              (try simp only [Act.put, List.setIfInBounds_toArray, List.set_cons_zero, List.set_cons_succ, List.getElem_toArray, List.getElem_cons_succ, List.getElem_cons_zero])
              refine held_take 4 _ _ rfl (by kernel_rfl) (by kernel_rfl) (by kernel_rfl) (fun _ _ _ h => h) (by rfl) hHeld1 (fun w hSw => by (try dsimp only at hSw); go_simp; try with_reducible rfl) ?_
              (try simp only [Act.put, List.setIfInBounds_toArray, List.set_cons_zero, List.set_cons_succ, List.getElem_toArray, List.getElem_cons_succ, List.getElem_cons_zero])
              refine held_take 5 _ _ rfl (by kernel_rfl) (by kernel_rfl) (by kernel_rfl) (fun _ _ _ h => h) (by rfl) hHeld1 (fun w hSw => by (try dsimp only at hSw); go_simp; try with_reducible rfl) ?_
              (try simp only [Act.put, List.setIfInBounds_toArray, List.set_cons_zero, List.set_cons_succ, List.getElem_toArray, List.getElem_cons_succ, List.getElem_cons_zero])
              refine held_take 6 _ _ rfl (by kernel_rfl) (by kernel_rfl) (by kernel_rfl) (fun _ _ _ h => h) (by rfl) hHeld1 (fun w hSw => by (try dsimp only at hSw); go_simp; try with_reducible rfl) ?_
              (try simp only [Act.put, List.setIfInBounds_toArray, List.set_cons_zero, List.set_cons_succ, List.getElem_toArray, List.getElem_cons_succ, List.getElem_cons_zero])
              refine held_take 7 _ _ rfl (by kernel_rfl) (by kernel_rfl) (by kernel_rfl) (fun _ _ _ h => h) (by rfl) hHeld1 (fun w hSw => by (try dsimp only at hSw); go_simp; try with_reducible rfl) ?_
              (try simp only [Act.put, List.setIfInBounds_toArray, List.set_cons_zero, List.set_cons_succ, List.getElem_toArray, List.getElem_cons_succ, List.getElem_cons_zero])
              refine held_take 8 _ _ rfl (by kernel_rfl) (by kernel_rfl) (by kernel_rfl) (fun _ _ _ h => h) (by rfl) hHeld1 (fun w hSw => by (try dsimp only at hSw); go_simp; try with_reducible rfl) ?_
              (try simp only [Act.put, List.setIfInBounds_toArray, List.set_cons_zero, List.set_cons_succ, List.getElem_toArray, List.getElem_cons_succ, List.getElem_cons_zero])
              refine held_take 9 _ _ rfl (by kernel_rfl) (by kernel_rfl) (by kernel_rfl) (fun _ _ _ h => h) (by rfl) hHeld1 (fun w hSw => by (try dsimp only at hSw); go_simp; try with_reducible rfl) ?_
              (try simp only [Act.put, List.setIfInBounds_toArray, List.set_cons_zero, List.set_cons_succ, List.getElem_toArray, List.getElem_cons_succ, List.getElem_cons_zero])
              refine held_take 10 _ _ rfl (by kernel_rfl) (by kernel_rfl) (by kernel_rfl) (fun _ _ _ h => h) (by rfl) hHeld1 (fun w hSw => by (try dsimp only at hSw); go_simp; try with_reducible rfl) ?_
              (try simp only [Act.put, List.setIfInBounds_toArray, List.set_cons_zero, List.set_cons_succ, List.getElem_toArray, List.getElem_cons_succ, List.getElem_cons_zero])
              refine held_take 11 _ _ rfl (by kernel_rfl) (by kernel_rfl) (by kernel_rfl) (fun _ _ _ h => h) (by rfl) hHeld1 (fun w hSw => by (try dsimp only at hSw); go_simp; try with_reducible rfl) ?_
              (try simp only [Act.put, List.setIfInBounds_toArray, List.set_cons_zero, List.set_cons_succ, List.getElem_toArray, List.getElem_cons_succ, List.getElem_cons_zero])
              refine wpAnyH_ready (rs := [12]) (by kernel_rfl) (by simp) ?_
              refine AllReadyH.cons rfl (fun K hK => ?_) AllReadyH.nil
              rw [if_pos (by rfl)]
              go_wp2_with (first | (go_at_call 28; have c := cs_MultiplicityOf Ls a_s c_s _ (S_s.out.below (fr _ hHeld1)) (by omega); (with_reducible refine c.mono ?_); rintro e wk ⟨rfl, hbk⟩; clear c))
              refine hK.out _ _ (keep1 hlbs hHeld1 hbk) (fun hHeld2 => ?_)
              clear hK K
              (try simp only [Act.put, List.setIfInBounds_toArray, List.set_cons_zero, List.set_cons_succ, List.getElem_toArray, List.getElem_cons_succ, List.getElem_cons_zero])
              refine held_take 13 _ _ rfl (by kernel_rfl) (by kernel_rfl) (by kernel_rfl) (fun _ _ _ h => h) (by rfl) hHeld2 (fun w hSw => by (try dsimp only at hSw); go_simp; try with_reducible rfl) ?_
              (try simp only [Act.put, List.setIfInBounds_toArray, List.set_cons_zero, List.set_cons_succ, List.getElem_toArray, List.getElem_cons_succ, List.getElem_cons_zero])
              refine wpAnyH_ready (rs := [14]) (by kernel_rfl) (by simp) ?_
              refine AllReadyH.cons rfl (fun K hK => ?_) AllReadyH.nil
              rw [if_pos (by rfl)]
              go_wp2_with (first | (go_at_call 21; have c := ci_Contains Ls a_s c_s (k + multN Ls) _ (S_s.out.below (fr _ hHeld2)) (by omega) (by omega) (by omega); rw [HS.out.1] at c; (with_reducible refine c.mono ?_); rintro e wk ⟨rfl, hbk⟩; clear c))
              refine hK.out _ _ (keep1 hlbs hHeld2 hbk) (fun hHeld3 => ?_)
              clear hK K
              (try simp only [Act.put, List.setIfInBounds_toArray, List.set_cons_zero, List.set_cons_succ, List.getElem_toArray, List.getElem_cons_succ, List.getElem_cons_zero])
              refine held_take 15 _ _ rfl (by kernel_rfl) (by kernel_rfl) (by kernel_rfl) (fun _ _ _ h => h) (by rfl) hHeld3 (fun w hSw => by (try dsimp only at hSw); go_simp; try with_reducible rfl) ?_
              (try simp only [Act.put, List.setIfInBounds_toArray, List.set_cons_zero, List.set_cons_succ, List.getElem_toArray, List.getElem_cons_succ, List.getElem_cons_zero])
              refine held_take 16 _ _ rfl (by kernel_rfl) (by kernel_rfl) (by kernel_rfl) (fun _ _ _ h => h) (by rfl) hHeld3 (fun w hSw => by (try dsimp only at hSw); go_simp; try with_reducible rfl) ?_
              (try simp only [Act.put, List.setIfInBounds_toArray, List.set_cons_zero, List.set_cons_succ, List.getElem_toArray, List.getElem_cons_succ, List.getElem_cons_zero])
              refine held_take 17 _ _ rfl (by kernel_rfl) (by kernel_rfl) (by kernel_rfl) (fun _ _ _ h => h) (by rfl) hHeld3 (fun w hSw => by (try dsimp only at hSw); go_simp; try with_reducible rfl) ?_
              (try simp only [Act.put, List.setIfInBounds_toArray, List.set_cons_zero, List.set_cons_succ, List.getElem_toArray, List.getElem_cons_succ, List.getElem_cons_zero])
              refine held_take 18 _ _ rfl (by kernel_rfl) (by kernel_rfl) (by kernel_rfl) (fun _ _ _ h => h) (by rfl) hHeld3 (fun w hSw => by (try dsimp only at hSw); go_simp; try with_reducible rfl) ?_
              (try simp only [Act.put, List.setIfInBounds_toArray, List.set_cons_zero, List.set_cons_succ, List.getElem_toArray, List.getElem_cons_succ, List.getElem_cons_zero])
              refine wpAnyH_ready (rs := [19]) (by kernel_rfl) (by simp) ?_
              refine AllReadyH.cons rfl (fun K hK => ?_) AllReadyH.nil
              rw [if_pos (by rfl)]
              go_wp2_with (first | (go_at_call 21; have c := ci_Contains Ls a_s c_s (2 * k) _ (S_s.out.below (fr _ hHeld3)) (by omega) (by omega) (by omega); rw [HS.out.2] at c; (with_reducible refine c.mono ?_); rintro e wk ⟨rfl, hbk⟩; clear c))
              refine hK.out _ _ (keep1 hlbs hHeld3 hbk) (fun hHeld4 => ?_)
              clear hK K
              (try simp only [Act.put, List.setIfInBounds_toArray, List.set_cons_zero, List.set_cons_succ, List.getElem_toArray, List.getElem_cons_succ, List.getElem_cons_zero])
              refine held_take 20 _ _ rfl (by kernel_rfl) (by kernel_rfl) (by kernel_rfl) (fun _ _ _ h => h) (by rfl) hHeld4 (fun w hSw => by (try dsimp only at hSw); go_simp; try with_reducible rfl) ?_
              (try simp only [Act.put, List.setIfInBounds_toArray, List.set_cons_zero, List.set_cons_succ, List.getElem_toArray, List.getElem_cons_succ, List.getElem_cons_zero])
              refine held_take 21 _ _ rfl (by kernel_rfl) (by kernel_rfl) (by kernel_rfl) (fun _ _ _ h => h) (by rfl) hHeld4 (fun w hSw => by (try dsimp only at hSw); go_simp; try with_reducible rfl) ?_
              (try simp only [Act.put, List.setIfInBounds_toArray, List.set_cons_zero, List.set_cons_succ, List.getElem_toArray, List.getElem_cons_succ, List.getElem_cons_zero])
              refine held_take 22 _ _ rfl (by kernel_rfl) (by kernel_rfl) (by kernel_rfl) (fun _ _ _ h => h) (by rfl) hHeld4 (fun w hSw => by (try dsimp only at hSw); go_simp; try with_reducible rfl) ?_
              (try simp only [Act.put, List.setIfInBounds_toArray, List.set_cons_zero, List.set_cons_succ, List.getElem_toArray, List.getElem_cons_succ, List.getElem_cons_zero])
              refine wpAnyH_done (by kernel_rfl) ?_ _
              have hBz := hHeld4.2
              clear hS0 fr
              go_wp2_with fail
              go_ret
              exact ⟨rfl, hWc.trans (hBz.mono hWc.size)⟩
            · have h2 : 1000000 < k := by omega
              refine wp_region_held_drew (S := fun w' => w'.cell? ⟨w3.heap.size, 0, none⟩ = some (.slice a_s Ls.length c_s) ∧ Below wc.heap.size wc w') (by kernel_rfl) hS0 (fun hHeld => ?_)
              refine held_take 0 _ _ rfl (by kernel_rfl) (by kernel_rfl) (by kernel_rfl) (fun _ _ _ h => h) (by rfl) hHeld (fun w hSw => by (try dsimp only at hSw); go_simp; try with_reducible rfl) ?_
              (try simp only [Act.put, List.setIfInBounds_toArray, List.set_cons_zero, List.set_cons_succ, List.getElem_toArray, List.getElem_cons_zero])
              refine held_take 1 _ _ rfl (by kernel_rfl) (by kernel_rfl) (by kernel_rfl) (fun _ _ _ h => h) (by rfl) hHeld (fun w hSw => by (try dsimp only at hSw); go_simp; try with_reducible rfl) ?_
              (try simp only [Act.put, List.setIfInBounds_toArray, List.set_cons_zero, List.set_cons_succ, List.getElem_toArray, List.getElem_cons_succ, List.getElem_cons_zero])
              refine wpAnyH_ready (rs := [2]) (by kernel_rfl) (by simp) ?_
              refine AllReadyH.cons rfl (fun K hK => ?_) AllReadyH.nil
              rw [if_pos (by rfl)]
              go_wp2_with (first | (go_at_call 21; have c := ci_Contains Ls a_s c_s k _ (S_s.out.below (fr _ hHeld)) (by omega) hk64.1 hk64.2; rw [HC.out] at c; (with_reducible refine c.mono ?_); rintro e wk ⟨rfl, hbk⟩; clear c))
              refine hK.out _ _ (keep1 hlbs hHeld hbk) (fun hHeld1 => ?_)
              clear hK K
              (try simp only [Act.put, List.setIfInBounds_toArray, List.set_cons_zero, List.set_cons_succ, List.getElem_toArray, List.getElem_cons_succ, List.getElem_cons_zero])
              refine held_take 3 _ _ rfl (by kernel_rfl) (by kernel_rfl) (by kernel_rfl) (fun _ _ _ h => h) (by rfl) hHeld1 (fun w hSw => by (try dsimp only at hSw); go_simp; try with_reducible rfl) ?_
              (try simp only [Act.put, List.setIfInBounds_toArray, List.set_cons_zero, List.set_cons_succ, List.getElem_toArray, List.getElem_cons_succ, List.getElem_cons_zero])
              refine held_take 4 _ _ rfl (by kernel_rfl) (by kernel_rfl) (by kernel_rfl) (fun _ _ _ h => h) (by rfl) hHeld1 (fun w hSw => by (try dsimp only at hSw); go_simp; try with_reducible rfl) ?_
              (try simp only [Act.put, List.setIfInBounds_toArray, List.set_cons_zero, List.set_cons_succ, List.getElem_toArray, List.getElem_cons_succ, List.getElem_cons_zero])
              refine held_take 5 _ _ rfl (by kernel_rfl) (by kernel_rfl) (by kernel_rfl) (fun _ _ _ h => h) (by rfl) hHeld1 (fun w hSw => by (try dsimp only at hSw); go_simp; try with_reducible rfl) ?_
              (try simp only [Act.put, List.setIfInBounds_toArray, List.set_cons_zero, List.set_cons_succ, List.getElem_toArray, List.getElem_cons_succ, List.getElem_cons_zero])
              refine held_take 6 _ _ rfl (by kernel_rfl) (by kernel_rfl) (by kernel_rfl) (fun _ _ _ h => h) (by rfl) hHeld1 (fun w hSw => by (try dsimp only at hSw); go_simp; try with_reducible rfl) ?_
              (try simp only [Act.put, List.setIfInBounds_toArray, List.set_cons_zero, List.set_cons_succ, List.getElem_toArray, List.getElem_cons_succ, List.getElem_cons_zero])
              refine held_take 7 _ _ rfl (by kernel_rfl) (by kernel_rfl) (by kernel_rfl) (fun _ _ _ h => h) (by rfl) hHeld1 (fun w hSw => by (try dsimp only at hSw); go_simp; try with_reducible rfl) ?_
              (try simp only [Act.put, List.setIfInBounds_toArray, List.set_cons_zero, List.set_cons_succ, List.getElem_toArray, List.getElem_cons_succ, List.getElem_cons_zero])
              refine held_take 8 _ _ rfl (by kernel_rfl) (by kernel_rfl) (by kernel_rfl) (fun _ _ _ h => h) (by rfl) hHeld1 (fun w hSw => by (try dsimp only at hSw); go_simp; try with_reducible rfl) ?_
              (try simp only [Act.put, List.setIfInBounds_toArray, List.set_cons_zero, List.set_cons_succ, List.getElem_toArray, List.getElem_cons_succ, List.getElem_cons_zero])
              refine held_skip 9 _ rfl (by kernel_rfl) (by kernel_rfl) (by kernel_rfl) (fun _ _ _ h => h) (by rfl) hHeld1 ?_
              (try simp only [Act.put, List.setIfInBounds_toArray, List.set_cons_zero, List.set_cons_succ, List.getElem_toArray, List.getElem_cons_succ, List.getElem_cons_zero])
              refine held_skip 10 _ rfl (by kernel_rfl) (by kernel_rfl) (by kernel_rfl) (fun _ _ _ h => h) (by rfl) hHeld1 ?_
              (try simp only [Act.put, List.setIfInBounds_toArray, List.set_cons_zero, List.set_cons_succ, List.getElem_toArray, List.getElem_cons_succ, List.getElem_cons_zero])
              refine held_skip 11 _ rfl (by kernel_rfl) (by kernel_rfl) (by kernel_rfl) (fun _ _ _ h => h) (by rfl) hHeld1 ?_
              (try simp only [Act.put, List.setIfInBounds_toArray, List.set_cons_zero, List.set_cons_succ, List.getElem_toArray, List.getElem_cons_succ, List.getElem_cons_zero])
              refine held_skip 12 _ rfl (by kernel_rfl) (by kernel_rfl) (by kernel_rfl) (fun _ _ _ h => h) (by rfl) hHeld1 ?_
              (try simp only [Act.put, List.setIfInBounds_toArray, List.set_cons_zero, List.set_cons_succ, List.getElem_toArray, List.getElem_cons_succ, List.getElem_cons_zero])
              refine held_skip 13 _ rfl (by kernel_rfl) (by kernel_rfl) (by kernel_rfl) (fun _ _ _ h => h) (by rfl) hHeld1 ?_
              (try simp only [Act.put, List.setIfInBounds_toArray, List.set_cons_zero, List.set_cons_succ, List.getElem_toArray, List.getElem_cons_succ, List.getElem_cons_zero])
              refine held_skip 14 _ rfl (by kernel_rfl) (by kernel_rfl) (by kernel_rfl) (fun _ _ _ h => h) (by rfl) hHeld1 ?_
              (try simp only [Act.put, List.setIfInBounds_toArray, List.set_cons_zero, List.set_cons_succ, List.getElem_toArray, List.getElem_cons_succ, List.getElem_cons_zero])
              refine held_skip 15 _ rfl (by kernel_rfl) (by kernel_rfl) (by kernel_rfl) (fun _ _ _ h => h) (by rfl) hHeld1 ?_
              (try simp only [Act.put, List.setIfInBounds_toArray, List.set_cons_zero, List.set_cons_succ, List.getElem_toArray, List.getElem_cons_succ, List.getElem_cons_zero])
              refine held_skip 16 _ rfl (by kernel_rfl) (by kernel_rfl) (by kernel_rfl) (fun _ _ _ h => h) (by rfl) hHeld1 ?_
              (try simp only [Act.put, List.setIfInBounds_toArray, List.set_cons_zero, List.set_cons_succ, List.getElem_toArray, List.getElem_cons_succ, List.getElem_cons_zero])
              refine held_skip 17 _ rfl (by kernel_rfl) (by kernel_rfl) (by kernel_rfl) (fun _ _ _ h => h) (by rfl) hHeld1 ?_
              (try simp only [Act.put, List.setIfInBounds_toArray, List.set_cons_zero, List.set_cons_succ, List.getElem_toArray, List.getElem_cons_succ, List.getElem_cons_zero])
              refine held_skip 18 _ rfl (by kernel_rfl) (by kernel_rfl) (by kernel_rfl) (fun _ _ _ h => h) (by rfl) hHeld1 ?_
              (try simp only [Act.put, List.setIfInBounds_toArray, List.set_cons_zero, List.set_cons_succ, List.getElem_toArray, List.getElem_cons_succ, List.getElem_cons_zero])
              refine held_skip 19 _ rfl (by kernel_rfl) (by kernel_rfl) (by kernel_rfl) (fun _ _ _ h => h) (by rfl) hHeld1 ?_
              (try simp only [Act.put, List.setIfInBounds_toArray, List.set_cons_zero, List.set_cons_succ, List.getElem_toArray, List.getElem_cons_succ, List.getElem_cons_zero])
              refine held_skip 20 _ rfl (by kernel_rfl) (by kernel_rfl) (by kernel_rfl) (fun _ _ _ h => h) (by rfl) hHeld1 ?_
              (try simp only [Act.put, List.setIfInBounds_toArray, List.set_cons_zero, List.set_cons_succ, List.getElem_toArray, List.getElem_cons_succ, List.getElem_cons_zero])
              refine held_take 21 _ _ rfl (by kernel_rfl) (by kernel_rfl) (by kernel_rfl) (fun _ _ _ h => h) (by rfl) hHeld1 (fun w hSw => by (try dsimp only at hSw); go_simp; try with_reducible rfl) ?_
              (try simp only [Act.put, List.setIfInBounds_toArray, List.set_cons_zero, List.set_cons_succ, List.getElem_toArray, List.getElem_cons_succ, List.getElem_cons_zero])
              refine held_take 22 _ _ rfl (by kernel_rfl) (by kernel_rfl) (by kernel_rfl) (fun _ _ _ h => h) (by rfl) hHeld1 (fun w hSw => by (try dsimp only at hSw); go_simp; try with_reducible rfl) ?_
              (try simp only [Act.put, List.setIfInBounds_toArray, List.set_cons_zero, List.set_cons_succ, List.getElem_toArray, List.getElem_cons_succ, List.getElem_cons_zero])
              refine wpAnyH_done (by kernel_rfl) ?_ _
              have hBz := hHeld1.2
              clear hS0 fr
              go_wp2_with fail
              go_ret
              exact ⟨rfl, hWc.trans (hBz.mono hWc.size)⟩

set_option maxRecDepth 100000 in
set_option maxHeartbeats 800000 in
theorem FnSemigroups.walk (p0 : Option Addr) (len0 cap0 : Nat) (z0 : List Int) (W : World) (r0 : IsRow .u8 W p0 len0 cap0 z0) (_ : W.ShapedOpen Try.prog) :
    Calls Try.prog 3 #[.slice p0 len0 cap0] W fun e w' => e = .returned (.bool true) ∧ Below W.heap.size W w' := by
  by_cases hl : len0 ≤ 1048576
  · exact fnSemigroups_small p0 len0 cap0 z0 W r0 hl
  · have cb := big_any p0 len0 cap0 W (row_maxLen r0)
    rw [decide_eq_true (show 1048576 < len0 by omega)] at cb
    go_enter Try.func3, Try.ntmps3
    go_wp2_with fail
    refine cb.mono ?_
    rintro e w0 ⟨rfl, rfl⟩
    go_wp2_with fail
    go_ret
    exact ⟨rfl, Below.refl _ _⟩
end Go.Proofs.Ytjnkdefogmfcnaa
