/-
  THE WALK OF THE LAW FnCoordinates: at every drawn code both sides agree; what clashes is no list of coordinates, and the coordinates give the semigroup back; their sum is the number of gaps (written by fn_coords.py of the verifier's own).
-/
import Derived.Test.YtgkkkmcgnpdchaaRows
import Derived.Test.YtgkkkmcgnpdchaaDrw12
import Derived.Test.YtgkkkmcgnpdchaaC7
import Derived.Deep.DeepCutAuto
import Derived.Laws.StructEq
namespace Go.Proofs.Ytgkkkmcgnpdchaa
open Go Go.RowKit

theorem keepC {W wr w1 : World} {b1 b2 : Nat} {v1 v2 : Value} (h1 : b1 < W.heap.size) (h2 : b2 < W.heap.size)
    (h : wr.cell? ⟨b1, 0, none⟩ = some v1 ∧ wr.cell? ⟨b2, 0, none⟩ = some v2 ∧ Below W.heap.size W wr) (hb : Below wr.heap.size wr w1) :
    w1.cell? ⟨b1, 0, none⟩ = some v1 ∧ w1.cell? ⟨b2, 0, none⟩ = some v2 ∧ Below W.heap.size W w1 := by
  obtain ⟨e1, e2, hB⟩ := h
  have hs := hB.size
  exact ⟨(hb.cell (p := ⟨b1, 0, none⟩) (Nat.lt_of_lt_of_le h1 hs)).trans e1, (hb.cell (p := ⟨b2, 0, none⟩) (Nat.lt_of_lt_of_le h2 hs)).trans e2, hB.trans (hb.mono hs)⟩
theorem sum_take_succ {L : List Int} {k : Nat} {x : Int} (hx : L[k]? = some x) : (L.take (k + 1)).sum = (L.take k).sum + x := by
  rw [List.take_add_one, hx, List.sum_append]; simp
set_option maxRecDepth 100000 in
theorem total_any (L : List Int) (a : Option Addr) (c : Nat) (w : World) (hr : SlV w a (L.map (Value.int .i64))) (hb : L.length ≤ 60) (hB : ∀ x ∈ L, 0 ≤ x ∧ x ≤ 200) :
    Calls Try.prog 23 #[.slice a L.length c] w fun e w' => e = .returned (.int .i64 L.sum) ∧ Below w.heap.size w w' := by
  have HB := Lib.hid hB
  clear hB
  go_enter Try.func23, Try.ntmps23
  go_wp2_with fail
  go_loopw [3, 4] (fun s i wr => ∃ (k : Nat) (S : Int), k ≤ L.length ∧ i = .int .i64 (k : Int) ∧ s = .int .i64 S ∧ Hid (S = (L.take k).sum) ∧ 0 ≤ S ∧ S ≤ 200 * k ∧ wr = w) (fun _ i _ => L.length - (intOf i).toNat)
  case atStart => exact ⟨0, 0, Nat.zero_le _, rfl, rfl, Lib.hid (by simp), by omega, by omega, rfl⟩
  case round =>
    obtain ⟨k, S, hk, rfl, rfl, hS, hS0, hS1, rfl⟩ := hrel
    by_cases hlt : k < L.length
    · obtain ⟨b, off, rfl, hbs, hc⟩ := hr.open (by intro h; rw [List.map_eq_nil_iff] at h; subst h; simp at hlt)
      have hcell : wr.cell? ⟨b, off + k, none⟩ = some (.int .i64 L[k]) := hc k _ (by simp [hlt])
      obtain ⟨x0, x1⟩ := HB.out L[k] (List.getElem_mem hlt)
      have HS : Hid (S + L[k] = (L.take (k + 1)).sum) := Lib.hid (by rw [sum_take_succ (List.getElem?_eq_getElem hlt), hS.out])
      clear hc hr HB
      generalize L[k] = x at *
      have hw1 : IntKind.i64.wrap (S + x) = S + x := IntWalk.i64_in _ (by omega)
      go_wp2_with fail
      go_roundw
      case rel => exact ⟨k + 1, _, by omega, by go_num, rfl, HS, by omega, by omega, by first | rfl | trivial⟩
      case measure => simp [intOf]; omega
    · have hE : Hid (L.sum = S) := Lib.hid (by rw [hS.out, List.take_of_length_le (by omega)])
      go_wp2_with fail
      go_ret
      exact ⟨by rw [hE.out]; rfl, Below.refl _ _⟩

set_option maxRecDepth 100000 in
set_option maxHeartbeats 6400000 in
theorem fnCoordinates_small (p0 : Option Addr) (len0 cap0 : Nat) (z0 : List Int) (W : World) (r0 : IsRow .u8 W p0 len0 cap0 z0) (hl : len0 ≤ 1048576) :
    Calls Try.prog 3 #[.slice p0 len0 cap0] W fun e w' => e = .returned (.bool true) ∧ Below W.heap.size W w' := by
  have HR := Lib.hid r0
  clear r0
  have hW : Below W.heap.size W W := Below.refl _ _
  go_enter Try.func3, Try.ntmps3
  have c := big_b p0 len0 cap0 W (by unfold maxLen; omega)
  rw [decide_eq_false (show ¬ 1048576 < len0 by omega)] at c
  go_wp2_with fail
  refine c.mono ?_
  rintro e w1 ⟨rfl, hb⟩
  clear c
  have z1 := hb.size
  replace hW := hW.trans (hb.mono hW.size)
  clear hb
  have c := DrawCoordinatesOf_any w1 p0 len0 cap0 z0 (HR.out.below hW) hl
  go_wp2_with fail
  refine c.mono ?_
  rintro e w2 ⟨Ls, a_s, c_s, hl_s, hB_s, rfl, hs, hb⟩
  clear c
  have z2 := hb.size
  replace hW := hW.trans (hb.mono hW.size)
  have S_s := Lib.hid hs
  clear hs hb hB_s
  obtain ⟨w3, hwb⟩ : ∃ wb, wb = w2.alloc (.cells #[.slice a_s Ls.length c_s] 26) := ⟨_, rfl⟩
  have hb : Below w2.heap.size w2 w3 := by rw [hwb]; exact box_below _ _
  have hA : Arr w3 w2.heap.size 26 [.slice a_s Ls.length c_s] := by rw [hwb]; exact Arr.new _ _ _
  replace S_s := Lib.hid (S_s.out.below hb)
  have z3 := hb.size
  replace hW := hW.trans (hb.mono hW.size)
  have y3 : w2.heap.size < w3.heap.size := hA.lt
  have B_bs := Lib.hid hA
  have H_w3 := Lib.hid hwb
  clear hwb hb hA
  have hM60 := coordL_len_le Ls
  have c := ci_CoordinatesOf Ls a_s c_s w3 S_s.out (by omega)
  have hk_bs : w3.cell? ⟨w2.heap.size, 0, none⟩ = some (.slice a_s Ls.length c_s) := B_bs.out.cell 0
  rw [H_w3.out] at hk_bs
  go_wp2_with fail
  rw [← H_w3.out]
  refine c.mono ?_
  rintro e w4 ⟨v, rfl, ho, hb⟩
  clear c
  clear hk_bs
  obtain ⟨a_l, c_l, rfl, rX⟩ := row_open ho
  clear ho
  replace S_s := Lib.hid (S_s.out.below hb)
  replace B_bs := Lib.hid (B_bs.out.below hb)
  have z4 := hb.size
  replace hW := hW.trans (hb.mono hW.size)
  have R_l := Lib.hid rX
  clear rX hb
  have c := DrawFromCoordinates_any w4 p0 len0 cap0 z0 (HR.out.below hW) hl
  have hk_bs : w4.cell? ⟨w2.heap.size, 0, none⟩ = some (.slice a_s Ls.length c_s) := B_bs.out.cell 0
  go_wp2_with fail
  refine c.mono ?_
  rintro e w5 ⟨Ld, v, hl_d, hB_d, rfl, ho, hb⟩
  clear c
  clear hk_bs
  obtain ⟨a_d, c_d, rfl, rX⟩ := row_open ho
  clear ho
  replace S_s := Lib.hid (S_s.out.below hb)
  replace B_bs := Lib.hid (B_bs.out.below hb)
  replace R_l := Lib.hid (R_l.out.below hb)
  have z5 := hb.size
  replace hW := hW.trans (hb.mono hW.size)
  have R_d := Lib.hid rX
  clear rX hb hB_d
  have HX : Hid (fromCoB Ld = true → coordL (fromCoL Ld) = Ld) := Lib.hid fun h => (fromCo_iff.1 ⟨h, rfl⟩).2
  have hx12 := fromCoL_len Ld
  have HQB : Hid (fromCoB Ld = true → clashQ Ld = false) := Lib.hid fun h => by unfold clashQ; rw [(fromCo_parts h).1]; rfl
  obtain ⟨q, hq⟩ : ∃ q, q = fromCoB Ld := ⟨_, rfl⟩
  have HQ : Hid (fromCoB Ld = q) := Lib.hid hq.symm
  clear hq
  obtain ⟨qb, hq⟩ : ∃ q, q = clashQ Ld := ⟨_, rfl⟩
  have HB : Hid (clashQ Ld = qb) := Lib.hid hq.symm
  clear hq
  have c := ci_FromCoordinates Ld a_d c_d w5 R_d.out.slw (by omega)
  rw [HQ.out] at c
  have hk_bs : w5.cell? ⟨w2.heap.size, 0, none⟩ = some (.slice a_s Ls.length c_s) := B_bs.out.cell 0
  go_wp2_with fail
  refine c.mono ?_
  rintro e w6 ⟨v, rfl, ho, hb⟩
  clear c
  clear hk_bs
  obtain ⟨a_x, c_x, rfl, rX⟩ := row_open ho
  clear ho
  replace S_s := Lib.hid (S_s.out.below hb)
  replace B_bs := Lib.hid (B_bs.out.below hb)
  replace R_l := Lib.hid (R_l.out.below hb)
  replace R_d := Lib.hid (R_d.out.below hb)
  have z6 := hb.size
  replace hW := hW.trans (hb.mono hW.size)
  have R_x := Lib.hid rX
  clear rX hb
  obtain ⟨w7, hwb⟩ : ∃ wb, wb = w6.alloc (.cells #[.slice a_x (fromCoL Ld).length c_x] 26) := ⟨_, rfl⟩
  have hb : Below w6.heap.size w6 w7 := by rw [hwb]; exact box_below _ _
  have hA : Arr w7 w6.heap.size 26 [.slice a_x (fromCoL Ld).length c_x] := by rw [hwb]; exact Arr.new _ _ _
  replace S_s := Lib.hid (S_s.out.below hb)
  replace B_bs := Lib.hid (B_bs.out.below hb)
  replace R_l := Lib.hid (R_l.out.below hb)
  replace R_d := Lib.hid (R_d.out.below hb)
  replace R_x := Lib.hid (R_x.out.below hb)
  have z7 := hb.size
  replace hW := hW.trans (hb.mono hW.size)
  have y7 : w6.heap.size < w7.heap.size := hA.lt
  have B_bx := Lib.hid hA
  have H_w7 := Lib.hid hwb
  clear hwb hb hA
  have c := cs_FromCoordinates Ld a_d c_d w7 R_d.out.slw (by omega)
  rw [HQ.out] at c
  have hk_bs : w7.cell? ⟨w2.heap.size, 0, none⟩ = some (.slice a_s Ls.length c_s) := B_bs.out.cell 0
  have hk_bx : w7.cell? ⟨w6.heap.size, 0, none⟩ = some (.slice a_x (fromCoL Ld).length c_x) := B_bx.out.cell 0
  rw [H_w7.out] at hk_bs hk_bx
  go_wp2_with fail
  rw [← H_w7.out]
  refine c.mono ?_
  rintro e w8 ⟨v, rfl, ho, hb⟩
  clear c
  clear hk_bs hk_bx
  obtain ⟨a_w, c_w, rfl, rX⟩ := row_open ho
  clear ho
  replace S_s := Lib.hid (S_s.out.below hb)
  replace B_bs := Lib.hid (B_bs.out.below hb)
  replace R_l := Lib.hid (R_l.out.below hb)
  replace R_d := Lib.hid (R_d.out.below hb)
  replace R_x := Lib.hid (R_x.out.below hb)
  replace B_bx := Lib.hid (B_bx.out.below hb)
  have z8 := hb.size
  replace hW := hW.trans (hb.mono hW.size)
  have R_w := Lib.hid rX
  clear rX hb
  obtain ⟨w9, hwb⟩ : ∃ wb, wb = w8.alloc (.cells #[.slice a_w (fromCoL Ld).length c_w] 26) := ⟨_, rfl⟩
  have hb : Below w8.heap.size w8 w9 := by rw [hwb]; exact box_below _ _
  have hA : Arr w9 w8.heap.size 26 [.slice a_w (fromCoL Ld).length c_w] := by rw [hwb]; exact Arr.new _ _ _
  replace S_s := Lib.hid (S_s.out.below hb)
  replace B_bs := Lib.hid (B_bs.out.below hb)
  replace R_l := Lib.hid (R_l.out.below hb)
  replace R_d := Lib.hid (R_d.out.below hb)
  replace R_x := Lib.hid (R_x.out.below hb)
  replace B_bx := Lib.hid (B_bx.out.below hb)
  replace R_w := Lib.hid (R_w.out.below hb)
  have z9 := hb.size
  replace hW := hW.trans (hb.mono hW.size)
  have y9 : w8.heap.size < w9.heap.size := hA.lt
  have B_bw := Lib.hid hA
  have H_w9 := Lib.hid hwb
  clear hwb hb hA
  have c := ci_CoordinateClash Ld a_d c_d w9 R_d.out.slw (by omega)
  unfold ClPost at c
  rw [HB.out] at c
  have hk_bs : w9.cell? ⟨w2.heap.size, 0, none⟩ = some (.slice a_s Ls.length c_s) := B_bs.out.cell 0
  have hk_bx : w9.cell? ⟨w6.heap.size, 0, none⟩ = some (.slice a_x (fromCoL Ld).length c_x) := B_bx.out.cell 0
  have hk_bw : w9.cell? ⟨w8.heap.size, 0, none⟩ = some (.slice a_w (fromCoL Ld).length c_w) := B_bw.out.cell 0
  rw [H_w9.out] at hk_bs hk_bx hk_bw
  go_wp2_with fail
  rw [← H_w9.out]
  refine c.mono ?_
  rintro e w10 ⟨rfl, hb⟩
  clear c
  clear hk_bs hk_bx hk_bw
  replace S_s := Lib.hid (S_s.out.below hb)
  replace B_bs := Lib.hid (B_bs.out.below hb)
  replace R_l := Lib.hid (R_l.out.below hb)
  replace R_d := Lib.hid (R_d.out.below hb)
  replace R_x := Lib.hid (R_x.out.below hb)
  replace B_bx := Lib.hid (B_bx.out.below hb)
  replace R_w := Lib.hid (R_w.out.below hb)
  replace B_bw := Lib.hid (B_bw.out.below hb)
  have z10 := hb.size
  replace hW := hW.trans (hb.mono hW.size)
  clear hb
  obtain ⟨w11, hwb⟩ : ∃ wb, wb = w10.alloc (.cells #[.int .i64 (clashA Ld), .int .i64 (clashB Ld)] 33) := ⟨_, rfl⟩
  have hb : Below w10.heap.size w10 w11 := by rw [hwb]; exact box_below _ _
  have hA : Arr w11 w10.heap.size 33 [.int .i64 (clashA Ld), .int .i64 (clashB Ld)] := by rw [hwb]; exact Arr.new _ _ _
  replace S_s := Lib.hid (S_s.out.below hb)
  replace B_bs := Lib.hid (B_bs.out.below hb)
  replace R_l := Lib.hid (R_l.out.below hb)
  replace R_d := Lib.hid (R_d.out.below hb)
  replace R_x := Lib.hid (R_x.out.below hb)
  replace B_bx := Lib.hid (B_bx.out.below hb)
  replace R_w := Lib.hid (R_w.out.below hb)
  replace B_bw := Lib.hid (B_bw.out.below hb)
  have z11 := hb.size
  replace hW := hW.trans (hb.mono hW.size)
  have y11 : w10.heap.size < w11.heap.size := hA.lt
  have B_bc := Lib.hid hA
  have H_w11 := Lib.hid hwb
  clear hwb hb hA
  have c := cs_CoordinateClash Ld a_d c_d w11 R_d.out.slw (by omega)
  unfold ClPost at c
  rw [HB.out] at c
  have hk_bs : w11.cell? ⟨w2.heap.size, 0, none⟩ = some (.slice a_s Ls.length c_s) := B_bs.out.cell 0
  have hk_bx : w11.cell? ⟨w6.heap.size, 0, none⟩ = some (.slice a_x (fromCoL Ld).length c_x) := B_bx.out.cell 0
  have hk_bw : w11.cell? ⟨w8.heap.size, 0, none⟩ = some (.slice a_w (fromCoL Ld).length c_w) := B_bw.out.cell 0
  have hk_bc : w11.cell? ⟨w10.heap.size, 0, none⟩ = some (.int .i64 (clashA Ld)) := B_bc.out.cell 0
  have hk_bc1 : w11.cell? ⟨w10.heap.size, 1, none⟩ = some (.int .i64 (clashB Ld)) := B_bc.out.cell 1
  rw [H_w11.out] at hk_bs hk_bx hk_bw hk_bc hk_bc1
  go_wp2_with fail
  rw [← H_w11.out]
  refine c.mono ?_
  rintro e w12 ⟨rfl, hb⟩
  clear c
  clear hk_bs hk_bx hk_bw hk_bc hk_bc1
  replace S_s := Lib.hid (S_s.out.below hb)
  replace B_bs := Lib.hid (B_bs.out.below hb)
  replace R_l := Lib.hid (R_l.out.below hb)
  replace R_d := Lib.hid (R_d.out.below hb)
  replace R_x := Lib.hid (R_x.out.below hb)
  replace B_bx := Lib.hid (B_bx.out.below hb)
  replace R_w := Lib.hid (R_w.out.below hb)
  replace B_bw := Lib.hid (B_bw.out.below hb)
  replace B_bc := Lib.hid (B_bc.out.below hb)
  have z12 := hb.size
  replace hW := hW.trans (hb.mono hW.size)
  clear hb
  obtain ⟨w13, hwb⟩ : ∃ wb, wb = w12.alloc (.cells #[.int .i64 (clashA Ld), .int .i64 (clashB Ld)] 33) := ⟨_, rfl⟩
  have hb : Below w12.heap.size w12 w13 := by rw [hwb]; exact box_below _ _
  have hA : Arr w13 w12.heap.size 33 [.int .i64 (clashA Ld), .int .i64 (clashB Ld)] := by rw [hwb]; exact Arr.new _ _ _
  replace S_s := Lib.hid (S_s.out.below hb)
  replace B_bs := Lib.hid (B_bs.out.below hb)
  replace R_l := Lib.hid (R_l.out.below hb)
  replace R_d := Lib.hid (R_d.out.below hb)
  replace R_x := Lib.hid (R_x.out.below hb)
  replace B_bx := Lib.hid (B_bx.out.below hb)
  replace R_w := Lib.hid (R_w.out.below hb)
  replace B_bw := Lib.hid (B_bw.out.below hb)
  replace B_bc := Lib.hid (B_bc.out.below hb)
  have z13 := hb.size
  replace hW := hW.trans (hb.mono hW.size)
  have y13 : w12.heap.size < w13.heap.size := hA.lt
  have B_be := Lib.hid hA
  have H_w13 := Lib.hid hwb
  clear hwb hb hA
  have hB9 : Below w13.heap.size w13 w13 := Below.refl _ _
  have hk_bs : w13.cell? ⟨w2.heap.size, 0, none⟩ = some (.slice a_s Ls.length c_s) := B_bs.out.cell 0
  have hk_bx : w13.cell? ⟨w6.heap.size, 0, none⟩ = some (.slice a_x (fromCoL Ld).length c_x) := B_bx.out.cell 0
  have hk_bw : w13.cell? ⟨w8.heap.size, 0, none⟩ = some (.slice a_w (fromCoL Ld).length c_w) := B_bw.out.cell 0
  have hk_bc : w13.cell? ⟨w10.heap.size, 0, none⟩ = some (.int .i64 (clashA Ld)) := B_bc.out.cell 0
  have hk_bc1 : w13.cell? ⟨w10.heap.size, 1, none⟩ = some (.int .i64 (clashB Ld)) := B_bc.out.cell 1
  have hk_be : w13.cell? ⟨w12.heap.size, 0, none⟩ = some (.int .i64 (clashA Ld)) := B_be.out.cell 0
  have hk_be1 : w13.cell? ⟨w12.heap.size, 1, none⟩ = some (.int .i64 (clashB Ld)) := B_be.out.cell 1
  rw [H_w13.out] at hk_bs hk_bx hk_bw hk_bc hk_bc1 hk_be hk_be1
  go_upto_region 10 with fail
  rw [← H_w13.out]
  go_cut [85] (fun s85 wx => s85 = Value.bool false ∧ Below w13.heap.size w13 wx)
  case first =>
    clear hk_bs hk_bx hk_bw hk_bc hk_bc1 hk_be hk_be1
    cases q
    · cases qb
      · skip
        have c := cs_CoordinatesOf Ls a_s c_s w13 S_s.out (by omega)
        have hk_bs : w13.cell? ⟨w2.heap.size, 0, none⟩ = some (.slice a_s Ls.length c_s) := B_bs.out.cell 0
        have hk_bx : w13.cell? ⟨w6.heap.size, 0, none⟩ = some (.slice a_x (fromCoL Ld).length c_x) := B_bx.out.cell 0
        have hk_bw : w13.cell? ⟨w8.heap.size, 0, none⟩ = some (.slice a_w (fromCoL Ld).length c_w) := B_bw.out.cell 0
        have hk_bc : w13.cell? ⟨w10.heap.size, 0, none⟩ = some (.int .i64 (clashA Ld)) := B_bc.out.cell 0
        have hk_bc1 : w13.cell? ⟨w10.heap.size, 1, none⟩ = some (.int .i64 (clashB Ld)) := B_bc.out.cell 1
        have hk_be : w13.cell? ⟨w12.heap.size, 0, none⟩ = some (.int .i64 (clashA Ld)) := B_be.out.cell 0
        have hk_be1 : w13.cell? ⟨w12.heap.size, 1, none⟩ = some (.int .i64 (clashB Ld)) := B_be.out.cell 1
        go_wp2_with fail
        refine c.mono ?_
        rintro e w14 ⟨v, rfl, ho, hb⟩
        clear c
        clear hk_bs hk_bx hk_bw hk_bc hk_bc1 hk_be hk_be1
        obtain ⟨a_q, c_q, rfl, rX⟩ := row_open ho
        clear ho
        replace S_s := Lib.hid (S_s.out.below hb)
        replace B_bs := Lib.hid (B_bs.out.below hb)
        replace R_l := Lib.hid (R_l.out.below hb)
        replace R_d := Lib.hid (R_d.out.below hb)
        replace R_x := Lib.hid (R_x.out.below hb)
        replace B_bx := Lib.hid (B_bx.out.below hb)
        replace R_w := Lib.hid (R_w.out.below hb)
        replace B_bw := Lib.hid (B_bw.out.below hb)
        replace B_bc := Lib.hid (B_bc.out.below hb)
        replace B_be := Lib.hid (B_be.out.below hb)
        have z14 := hb.size
        replace hW := hW.trans (hb.mono hW.size)
        replace hB9 := hB9.trans (hb.mono hB9.size)
        have R_q := Lib.hid rX
        clear rX
        clear hb
        have c := sameInts_any (coordL Ls) (coordL Ls) a_l a_q c_l c_q w14 R_l.out.slv R_q.out.slv (by omega) (by omega)
        rw [decide_eq_true (rfl : coordL Ls = coordL Ls)] at c
        have hk_bs : w14.cell? ⟨w2.heap.size, 0, none⟩ = some (.slice a_s Ls.length c_s) := B_bs.out.cell 0
        have hk_bx : w14.cell? ⟨w6.heap.size, 0, none⟩ = some (.slice a_x (fromCoL Ld).length c_x) := B_bx.out.cell 0
        have hk_bw : w14.cell? ⟨w8.heap.size, 0, none⟩ = some (.slice a_w (fromCoL Ld).length c_w) := B_bw.out.cell 0
        have hk_bc : w14.cell? ⟨w10.heap.size, 0, none⟩ = some (.int .i64 (clashA Ld)) := B_bc.out.cell 0
        have hk_bc1 : w14.cell? ⟨w10.heap.size, 1, none⟩ = some (.int .i64 (clashB Ld)) := B_bc.out.cell 1
        have hk_be : w14.cell? ⟨w12.heap.size, 0, none⟩ = some (.int .i64 (clashA Ld)) := B_be.out.cell 0
        have hk_be1 : w14.cell? ⟨w12.heap.size, 1, none⟩ = some (.int .i64 (clashB Ld)) := B_be.out.cell 1
        go_wp2_with fail
        refine c.mono ?_
        rintro e w15 ⟨rfl, hb⟩
        clear c
        clear hk_bs hk_bx hk_bw hk_bc hk_bc1 hk_be hk_be1
        replace S_s := Lib.hid (S_s.out.below hb)
        replace B_bs := Lib.hid (B_bs.out.below hb)
        replace R_l := Lib.hid (R_l.out.below hb)
        replace R_d := Lib.hid (R_d.out.below hb)
        replace R_x := Lib.hid (R_x.out.below hb)
        replace B_bx := Lib.hid (B_bx.out.below hb)
        replace R_w := Lib.hid (R_w.out.below hb)
        replace B_bw := Lib.hid (B_bw.out.below hb)
        replace B_bc := Lib.hid (B_bc.out.below hb)
        replace B_be := Lib.hid (B_be.out.below hb)
        replace R_q := Lib.hid (R_q.out.below hb)
        have z15 := hb.size
        replace hW := hW.trans (hb.mono hW.size)
        replace hB9 := hB9.trans (hb.mono hB9.size)
        clear hb
        have c := spec_EqualSemigroup (fromCoL Ld) (fromCoL Ld) a_x a_w c_x c_w w15 R_x.out.slv R_w.out.slv (by omega) (by omega)
        rw [decide_eq_true (rfl : fromCoL Ld = fromCoL Ld)] at c
        have hk_bs : w15.cell? ⟨w2.heap.size, 0, none⟩ = some (.slice a_s Ls.length c_s) := B_bs.out.cell 0
        have hk_bx : w15.cell? ⟨w6.heap.size, 0, none⟩ = some (.slice a_x (fromCoL Ld).length c_x) := B_bx.out.cell 0
        have hk_bw : w15.cell? ⟨w8.heap.size, 0, none⟩ = some (.slice a_w (fromCoL Ld).length c_w) := B_bw.out.cell 0
        have hk_bc : w15.cell? ⟨w10.heap.size, 0, none⟩ = some (.int .i64 (clashA Ld)) := B_bc.out.cell 0
        have hk_bc1 : w15.cell? ⟨w10.heap.size, 1, none⟩ = some (.int .i64 (clashB Ld)) := B_bc.out.cell 1
        have hk_be : w15.cell? ⟨w12.heap.size, 0, none⟩ = some (.int .i64 (clashA Ld)) := B_be.out.cell 0
        have hk_be1 : w15.cell? ⟨w12.heap.size, 1, none⟩ = some (.int .i64 (clashB Ld)) := B_be.out.cell 1
        go_wp2_with fail
        refine c.mono ?_
        rintro e w16 ⟨rfl, hb⟩
        clear c
        clear hk_bs hk_bx hk_bw hk_bc hk_bc1 hk_be hk_be1
        replace S_s := Lib.hid (S_s.out.below hb)
        replace B_bs := Lib.hid (B_bs.out.below hb)
        replace R_l := Lib.hid (R_l.out.below hb)
        replace R_d := Lib.hid (R_d.out.below hb)
        replace R_x := Lib.hid (R_x.out.below hb)
        replace B_bx := Lib.hid (B_bx.out.below hb)
        replace R_w := Lib.hid (R_w.out.below hb)
        replace B_bw := Lib.hid (B_bw.out.below hb)
        replace B_bc := Lib.hid (B_bc.out.below hb)
        replace B_be := Lib.hid (B_be.out.below hb)
        replace R_q := Lib.hid (R_q.out.below hb)
        have z16 := hb.size
        replace hW := hW.trans (hb.mono hW.size)
        replace hB9 := hB9.trans (hb.mono hB9.size)
        clear hb
        have hk_bs : w16.cell? ⟨w2.heap.size, 0, none⟩ = some (.slice a_s Ls.length c_s) := B_bs.out.cell 0
        have hk_bx : w16.cell? ⟨w6.heap.size, 0, none⟩ = some (.slice a_x (fromCoL Ld).length c_x) := B_bx.out.cell 0
        have hk_bw : w16.cell? ⟨w8.heap.size, 0, none⟩ = some (.slice a_w (fromCoL Ld).length c_w) := B_bw.out.cell 0
        have hk_bc : w16.cell? ⟨w10.heap.size, 0, none⟩ = some (.int .i64 (clashA Ld)) := B_bc.out.cell 0
        have hk_bc1 : w16.cell? ⟨w10.heap.size, 1, none⟩ = some (.int .i64 (clashB Ld)) := B_bc.out.cell 1
        have hk_be : w16.cell? ⟨w12.heap.size, 0, none⟩ = some (.int .i64 (clashA Ld)) := B_be.out.cell 0
        have hk_be1 : w16.cell? ⟨w12.heap.size, 1, none⟩ = some (.int .i64 (clashB Ld)) := B_be.out.cell 1
        go_wp2_with fail
        go_meet
        exact ⟨rfl, hB9⟩
      · skip
        have c := cs_CoordinatesOf Ls a_s c_s w13 S_s.out (by omega)
        have hk_bs : w13.cell? ⟨w2.heap.size, 0, none⟩ = some (.slice a_s Ls.length c_s) := B_bs.out.cell 0
        have hk_bx : w13.cell? ⟨w6.heap.size, 0, none⟩ = some (.slice a_x (fromCoL Ld).length c_x) := B_bx.out.cell 0
        have hk_bw : w13.cell? ⟨w8.heap.size, 0, none⟩ = some (.slice a_w (fromCoL Ld).length c_w) := B_bw.out.cell 0
        have hk_bc : w13.cell? ⟨w10.heap.size, 0, none⟩ = some (.int .i64 (clashA Ld)) := B_bc.out.cell 0
        have hk_bc1 : w13.cell? ⟨w10.heap.size, 1, none⟩ = some (.int .i64 (clashB Ld)) := B_bc.out.cell 1
        have hk_be : w13.cell? ⟨w12.heap.size, 0, none⟩ = some (.int .i64 (clashA Ld)) := B_be.out.cell 0
        have hk_be1 : w13.cell? ⟨w12.heap.size, 1, none⟩ = some (.int .i64 (clashB Ld)) := B_be.out.cell 1
        go_wp2_with fail
        refine c.mono ?_
        rintro e w14 ⟨v, rfl, ho, hb⟩
        clear c
        clear hk_bs hk_bx hk_bw hk_bc hk_bc1 hk_be hk_be1
        obtain ⟨a_q, c_q, rfl, rX⟩ := row_open ho
        clear ho
        replace S_s := Lib.hid (S_s.out.below hb)
        replace B_bs := Lib.hid (B_bs.out.below hb)
        replace R_l := Lib.hid (R_l.out.below hb)
        replace R_d := Lib.hid (R_d.out.below hb)
        replace R_x := Lib.hid (R_x.out.below hb)
        replace B_bx := Lib.hid (B_bx.out.below hb)
        replace R_w := Lib.hid (R_w.out.below hb)
        replace B_bw := Lib.hid (B_bw.out.below hb)
        replace B_bc := Lib.hid (B_bc.out.below hb)
        replace B_be := Lib.hid (B_be.out.below hb)
        have z14 := hb.size
        replace hW := hW.trans (hb.mono hW.size)
        replace hB9 := hB9.trans (hb.mono hB9.size)
        have R_q := Lib.hid rX
        clear rX
        clear hb
        have c := sameInts_any (coordL Ls) (coordL Ls) a_l a_q c_l c_q w14 R_l.out.slv R_q.out.slv (by omega) (by omega)
        rw [decide_eq_true (rfl : coordL Ls = coordL Ls)] at c
        have hk_bs : w14.cell? ⟨w2.heap.size, 0, none⟩ = some (.slice a_s Ls.length c_s) := B_bs.out.cell 0
        have hk_bx : w14.cell? ⟨w6.heap.size, 0, none⟩ = some (.slice a_x (fromCoL Ld).length c_x) := B_bx.out.cell 0
        have hk_bw : w14.cell? ⟨w8.heap.size, 0, none⟩ = some (.slice a_w (fromCoL Ld).length c_w) := B_bw.out.cell 0
        have hk_bc : w14.cell? ⟨w10.heap.size, 0, none⟩ = some (.int .i64 (clashA Ld)) := B_bc.out.cell 0
        have hk_bc1 : w14.cell? ⟨w10.heap.size, 1, none⟩ = some (.int .i64 (clashB Ld)) := B_bc.out.cell 1
        have hk_be : w14.cell? ⟨w12.heap.size, 0, none⟩ = some (.int .i64 (clashA Ld)) := B_be.out.cell 0
        have hk_be1 : w14.cell? ⟨w12.heap.size, 1, none⟩ = some (.int .i64 (clashB Ld)) := B_be.out.cell 1
        go_wp2_with fail
        refine c.mono ?_
        rintro e w15 ⟨rfl, hb⟩
        clear c
        clear hk_bs hk_bx hk_bw hk_bc hk_bc1 hk_be hk_be1
        replace S_s := Lib.hid (S_s.out.below hb)
        replace B_bs := Lib.hid (B_bs.out.below hb)
        replace R_l := Lib.hid (R_l.out.below hb)
        replace R_d := Lib.hid (R_d.out.below hb)
        replace R_x := Lib.hid (R_x.out.below hb)
        replace B_bx := Lib.hid (B_bx.out.below hb)
        replace R_w := Lib.hid (R_w.out.below hb)
        replace B_bw := Lib.hid (B_bw.out.below hb)
        replace B_bc := Lib.hid (B_bc.out.below hb)
        replace B_be := Lib.hid (B_be.out.below hb)
        replace R_q := Lib.hid (R_q.out.below hb)
        have z15 := hb.size
        replace hW := hW.trans (hb.mono hW.size)
        replace hB9 := hB9.trans (hb.mono hB9.size)
        clear hb
        have c := spec_EqualSemigroup (fromCoL Ld) (fromCoL Ld) a_x a_w c_x c_w w15 R_x.out.slv R_w.out.slv (by omega) (by omega)
        rw [decide_eq_true (rfl : fromCoL Ld = fromCoL Ld)] at c
        have hk_bs : w15.cell? ⟨w2.heap.size, 0, none⟩ = some (.slice a_s Ls.length c_s) := B_bs.out.cell 0
        have hk_bx : w15.cell? ⟨w6.heap.size, 0, none⟩ = some (.slice a_x (fromCoL Ld).length c_x) := B_bx.out.cell 0
        have hk_bw : w15.cell? ⟨w8.heap.size, 0, none⟩ = some (.slice a_w (fromCoL Ld).length c_w) := B_bw.out.cell 0
        have hk_bc : w15.cell? ⟨w10.heap.size, 0, none⟩ = some (.int .i64 (clashA Ld)) := B_bc.out.cell 0
        have hk_bc1 : w15.cell? ⟨w10.heap.size, 1, none⟩ = some (.int .i64 (clashB Ld)) := B_bc.out.cell 1
        have hk_be : w15.cell? ⟨w12.heap.size, 0, none⟩ = some (.int .i64 (clashA Ld)) := B_be.out.cell 0
        have hk_be1 : w15.cell? ⟨w12.heap.size, 1, none⟩ = some (.int .i64 (clashB Ld)) := B_be.out.cell 1
        go_wp2_with fail
        refine c.mono ?_
        rintro e w16 ⟨rfl, hb⟩
        clear c
        clear hk_bs hk_bx hk_bw hk_bc hk_bc1 hk_be hk_be1
        replace S_s := Lib.hid (S_s.out.below hb)
        replace B_bs := Lib.hid (B_bs.out.below hb)
        replace R_l := Lib.hid (R_l.out.below hb)
        replace R_d := Lib.hid (R_d.out.below hb)
        replace R_x := Lib.hid (R_x.out.below hb)
        replace B_bx := Lib.hid (B_bx.out.below hb)
        replace R_w := Lib.hid (R_w.out.below hb)
        replace B_bw := Lib.hid (B_bw.out.below hb)
        replace B_bc := Lib.hid (B_bc.out.below hb)
        replace B_be := Lib.hid (B_be.out.below hb)
        replace R_q := Lib.hid (R_q.out.below hb)
        have z16 := hb.size
        replace hW := hW.trans (hb.mono hW.size)
        replace hB9 := hB9.trans (hb.mono hB9.size)
        clear hb
        have hk_bs : w16.cell? ⟨w2.heap.size, 0, none⟩ = some (.slice a_s Ls.length c_s) := B_bs.out.cell 0
        have hk_bx : w16.cell? ⟨w6.heap.size, 0, none⟩ = some (.slice a_x (fromCoL Ld).length c_x) := B_bx.out.cell 0
        have hk_bw : w16.cell? ⟨w8.heap.size, 0, none⟩ = some (.slice a_w (fromCoL Ld).length c_w) := B_bw.out.cell 0
        have hk_bc : w16.cell? ⟨w10.heap.size, 0, none⟩ = some (.int .i64 (clashA Ld)) := B_bc.out.cell 0
        have hk_bc1 : w16.cell? ⟨w10.heap.size, 1, none⟩ = some (.int .i64 (clashB Ld)) := B_bc.out.cell 1
        have hk_be : w16.cell? ⟨w12.heap.size, 0, none⟩ = some (.int .i64 (clashA Ld)) := B_be.out.cell 0
        have hk_be1 : w16.cell? ⟨w12.heap.size, 1, none⟩ = some (.int .i64 (clashB Ld)) := B_be.out.cell 1
        go_wp2_with fail
        go_meet
        exact ⟨rfl, hB9⟩
    · obtain rfl : qb = false := by rw [← HB.out]; exact HQB.out HQ.out
      have c := cs_CoordinatesOf Ls a_s c_s w13 S_s.out (by omega)
      have hk_bs : w13.cell? ⟨w2.heap.size, 0, none⟩ = some (.slice a_s Ls.length c_s) := B_bs.out.cell 0
      have hk_bx : w13.cell? ⟨w6.heap.size, 0, none⟩ = some (.slice a_x (fromCoL Ld).length c_x) := B_bx.out.cell 0
      have hk_bw : w13.cell? ⟨w8.heap.size, 0, none⟩ = some (.slice a_w (fromCoL Ld).length c_w) := B_bw.out.cell 0
      have hk_bc : w13.cell? ⟨w10.heap.size, 0, none⟩ = some (.int .i64 (clashA Ld)) := B_bc.out.cell 0
      have hk_bc1 : w13.cell? ⟨w10.heap.size, 1, none⟩ = some (.int .i64 (clashB Ld)) := B_bc.out.cell 1
      have hk_be : w13.cell? ⟨w12.heap.size, 0, none⟩ = some (.int .i64 (clashA Ld)) := B_be.out.cell 0
      have hk_be1 : w13.cell? ⟨w12.heap.size, 1, none⟩ = some (.int .i64 (clashB Ld)) := B_be.out.cell 1
      go_wp2_with fail
      refine c.mono ?_
      rintro e w14 ⟨v, rfl, ho, hb⟩
      clear c
      clear hk_bs hk_bx hk_bw hk_bc hk_bc1 hk_be hk_be1
      obtain ⟨a_q, c_q, rfl, rX⟩ := row_open ho
      clear ho
      replace S_s := Lib.hid (S_s.out.below hb)
      replace B_bs := Lib.hid (B_bs.out.below hb)
      replace R_l := Lib.hid (R_l.out.below hb)
      replace R_d := Lib.hid (R_d.out.below hb)
      replace R_x := Lib.hid (R_x.out.below hb)
      replace B_bx := Lib.hid (B_bx.out.below hb)
      replace R_w := Lib.hid (R_w.out.below hb)
      replace B_bw := Lib.hid (B_bw.out.below hb)
      replace B_bc := Lib.hid (B_bc.out.below hb)
      replace B_be := Lib.hid (B_be.out.below hb)
      have z14 := hb.size
      replace hW := hW.trans (hb.mono hW.size)
      replace hB9 := hB9.trans (hb.mono hB9.size)
      have R_q := Lib.hid rX
      clear rX
      clear hb
      have c := sameInts_any (coordL Ls) (coordL Ls) a_l a_q c_l c_q w14 R_l.out.slv R_q.out.slv (by omega) (by omega)
      rw [decide_eq_true (rfl : coordL Ls = coordL Ls)] at c
      have hk_bs : w14.cell? ⟨w2.heap.size, 0, none⟩ = some (.slice a_s Ls.length c_s) := B_bs.out.cell 0
      have hk_bx : w14.cell? ⟨w6.heap.size, 0, none⟩ = some (.slice a_x (fromCoL Ld).length c_x) := B_bx.out.cell 0
      have hk_bw : w14.cell? ⟨w8.heap.size, 0, none⟩ = some (.slice a_w (fromCoL Ld).length c_w) := B_bw.out.cell 0
      have hk_bc : w14.cell? ⟨w10.heap.size, 0, none⟩ = some (.int .i64 (clashA Ld)) := B_bc.out.cell 0
      have hk_bc1 : w14.cell? ⟨w10.heap.size, 1, none⟩ = some (.int .i64 (clashB Ld)) := B_bc.out.cell 1
      have hk_be : w14.cell? ⟨w12.heap.size, 0, none⟩ = some (.int .i64 (clashA Ld)) := B_be.out.cell 0
      have hk_be1 : w14.cell? ⟨w12.heap.size, 1, none⟩ = some (.int .i64 (clashB Ld)) := B_be.out.cell 1
      go_wp2_with fail
      refine c.mono ?_
      rintro e w15 ⟨rfl, hb⟩
      clear c
      clear hk_bs hk_bx hk_bw hk_bc hk_bc1 hk_be hk_be1
      replace S_s := Lib.hid (S_s.out.below hb)
      replace B_bs := Lib.hid (B_bs.out.below hb)
      replace R_l := Lib.hid (R_l.out.below hb)
      replace R_d := Lib.hid (R_d.out.below hb)
      replace R_x := Lib.hid (R_x.out.below hb)
      replace B_bx := Lib.hid (B_bx.out.below hb)
      replace R_w := Lib.hid (R_w.out.below hb)
      replace B_bw := Lib.hid (B_bw.out.below hb)
      replace B_bc := Lib.hid (B_bc.out.below hb)
      replace B_be := Lib.hid (B_be.out.below hb)
      replace R_q := Lib.hid (R_q.out.below hb)
      have z15 := hb.size
      replace hW := hW.trans (hb.mono hW.size)
      replace hB9 := hB9.trans (hb.mono hB9.size)
      clear hb
      have c := spec_EqualSemigroup (fromCoL Ld) (fromCoL Ld) a_x a_w c_x c_w w15 R_x.out.slv R_w.out.slv (by omega) (by omega)
      rw [decide_eq_true (rfl : fromCoL Ld = fromCoL Ld)] at c
      have hk_bs : w15.cell? ⟨w2.heap.size, 0, none⟩ = some (.slice a_s Ls.length c_s) := B_bs.out.cell 0
      have hk_bx : w15.cell? ⟨w6.heap.size, 0, none⟩ = some (.slice a_x (fromCoL Ld).length c_x) := B_bx.out.cell 0
      have hk_bw : w15.cell? ⟨w8.heap.size, 0, none⟩ = some (.slice a_w (fromCoL Ld).length c_w) := B_bw.out.cell 0
      have hk_bc : w15.cell? ⟨w10.heap.size, 0, none⟩ = some (.int .i64 (clashA Ld)) := B_bc.out.cell 0
      have hk_bc1 : w15.cell? ⟨w10.heap.size, 1, none⟩ = some (.int .i64 (clashB Ld)) := B_bc.out.cell 1
      have hk_be : w15.cell? ⟨w12.heap.size, 0, none⟩ = some (.int .i64 (clashA Ld)) := B_be.out.cell 0
      have hk_be1 : w15.cell? ⟨w12.heap.size, 1, none⟩ = some (.int .i64 (clashB Ld)) := B_be.out.cell 1
      go_wp2_with fail
      refine c.mono ?_
      rintro e w16 ⟨rfl, hb⟩
      clear c
      clear hk_bs hk_bx hk_bw hk_bc hk_bc1 hk_be hk_be1
      replace S_s := Lib.hid (S_s.out.below hb)
      replace B_bs := Lib.hid (B_bs.out.below hb)
      replace R_l := Lib.hid (R_l.out.below hb)
      replace R_d := Lib.hid (R_d.out.below hb)
      replace R_x := Lib.hid (R_x.out.below hb)
      replace B_bx := Lib.hid (B_bx.out.below hb)
      replace R_w := Lib.hid (R_w.out.below hb)
      replace B_bw := Lib.hid (B_bw.out.below hb)
      replace B_bc := Lib.hid (B_bc.out.below hb)
      replace B_be := Lib.hid (B_be.out.below hb)
      replace R_q := Lib.hid (R_q.out.below hb)
      have z16 := hb.size
      replace hW := hW.trans (hb.mono hW.size)
      replace hB9 := hB9.trans (hb.mono hB9.size)
      clear hb
      have c := ci_CoordinatesOf (fromCoL Ld) a_x c_x w16 R_x.out.slw (by omega)
      rw [HX.out HQ.out] at c
      have hk_bs : w16.cell? ⟨w2.heap.size, 0, none⟩ = some (.slice a_s Ls.length c_s) := B_bs.out.cell 0
      have hk_bx : w16.cell? ⟨w6.heap.size, 0, none⟩ = some (.slice a_x (fromCoL Ld).length c_x) := B_bx.out.cell 0
      have hk_bw : w16.cell? ⟨w8.heap.size, 0, none⟩ = some (.slice a_w (fromCoL Ld).length c_w) := B_bw.out.cell 0
      have hk_bc : w16.cell? ⟨w10.heap.size, 0, none⟩ = some (.int .i64 (clashA Ld)) := B_bc.out.cell 0
      have hk_bc1 : w16.cell? ⟨w10.heap.size, 1, none⟩ = some (.int .i64 (clashB Ld)) := B_bc.out.cell 1
      have hk_be : w16.cell? ⟨w12.heap.size, 0, none⟩ = some (.int .i64 (clashA Ld)) := B_be.out.cell 0
      have hk_be1 : w16.cell? ⟨w12.heap.size, 1, none⟩ = some (.int .i64 (clashB Ld)) := B_be.out.cell 1
      go_wp2_with fail
      refine c.mono ?_
      rintro e w17 ⟨v, rfl, ho, hb⟩
      clear c
      clear hk_bs hk_bx hk_bw hk_bc hk_bc1 hk_be hk_be1
      obtain ⟨a_r, c_r, rfl, rX⟩ := row_open ho
      clear ho
      replace S_s := Lib.hid (S_s.out.below hb)
      replace B_bs := Lib.hid (B_bs.out.below hb)
      replace R_l := Lib.hid (R_l.out.below hb)
      replace R_d := Lib.hid (R_d.out.below hb)
      replace R_x := Lib.hid (R_x.out.below hb)
      replace B_bx := Lib.hid (B_bx.out.below hb)
      replace R_w := Lib.hid (R_w.out.below hb)
      replace B_bw := Lib.hid (B_bw.out.below hb)
      replace B_bc := Lib.hid (B_bc.out.below hb)
      replace B_be := Lib.hid (B_be.out.below hb)
      replace R_q := Lib.hid (R_q.out.below hb)
      have z17 := hb.size
      replace hW := hW.trans (hb.mono hW.size)
      replace hB9 := hB9.trans (hb.mono hB9.size)
      have R_r := Lib.hid rX
      clear rX
      clear hb
      have c := sameInts_any Ld Ld a_r a_d c_r c_d w17 R_r.out.slv R_d.out.slv (by omega) (by omega)
      rw [decide_eq_true (rfl : Ld = Ld)] at c
      have hk_bs : w17.cell? ⟨w2.heap.size, 0, none⟩ = some (.slice a_s Ls.length c_s) := B_bs.out.cell 0
      have hk_bx : w17.cell? ⟨w6.heap.size, 0, none⟩ = some (.slice a_x (fromCoL Ld).length c_x) := B_bx.out.cell 0
      have hk_bw : w17.cell? ⟨w8.heap.size, 0, none⟩ = some (.slice a_w (fromCoL Ld).length c_w) := B_bw.out.cell 0
      have hk_bc : w17.cell? ⟨w10.heap.size, 0, none⟩ = some (.int .i64 (clashA Ld)) := B_bc.out.cell 0
      have hk_bc1 : w17.cell? ⟨w10.heap.size, 1, none⟩ = some (.int .i64 (clashB Ld)) := B_bc.out.cell 1
      have hk_be : w17.cell? ⟨w12.heap.size, 0, none⟩ = some (.int .i64 (clashA Ld)) := B_be.out.cell 0
      have hk_be1 : w17.cell? ⟨w12.heap.size, 1, none⟩ = some (.int .i64 (clashB Ld)) := B_be.out.cell 1
      go_wp2_with fail
      refine c.mono ?_
      rintro e w18 ⟨rfl, hb⟩
      clear c
      clear hk_bs hk_bx hk_bw hk_bc hk_bc1 hk_be hk_be1
      replace S_s := Lib.hid (S_s.out.below hb)
      replace B_bs := Lib.hid (B_bs.out.below hb)
      replace R_l := Lib.hid (R_l.out.below hb)
      replace R_d := Lib.hid (R_d.out.below hb)
      replace R_x := Lib.hid (R_x.out.below hb)
      replace B_bx := Lib.hid (B_bx.out.below hb)
      replace R_w := Lib.hid (R_w.out.below hb)
      replace B_bw := Lib.hid (B_bw.out.below hb)
      replace B_bc := Lib.hid (B_bc.out.below hb)
      replace B_be := Lib.hid (B_be.out.below hb)
      replace R_q := Lib.hid (R_q.out.below hb)
      replace R_r := Lib.hid (R_r.out.below hb)
      have z18 := hb.size
      replace hW := hW.trans (hb.mono hW.size)
      replace hB9 := hB9.trans (hb.mono hB9.size)
      clear hb
      have hk_bs : w18.cell? ⟨w2.heap.size, 0, none⟩ = some (.slice a_s Ls.length c_s) := B_bs.out.cell 0
      have hk_bx : w18.cell? ⟨w6.heap.size, 0, none⟩ = some (.slice a_x (fromCoL Ld).length c_x) := B_bx.out.cell 0
      have hk_bw : w18.cell? ⟨w8.heap.size, 0, none⟩ = some (.slice a_w (fromCoL Ld).length c_w) := B_bw.out.cell 0
      have hk_bc : w18.cell? ⟨w10.heap.size, 0, none⟩ = some (.int .i64 (clashA Ld)) := B_bc.out.cell 0
      have hk_bc1 : w18.cell? ⟨w10.heap.size, 1, none⟩ = some (.int .i64 (clashB Ld)) := B_bc.out.cell 1
      have hk_be : w18.cell? ⟨w12.heap.size, 0, none⟩ = some (.int .i64 (clashA Ld)) := B_be.out.cell 0
      have hk_be1 : w18.cell? ⟨w12.heap.size, 1, none⟩ = some (.int .i64 (clashB Ld)) := B_be.out.cell 1
      go_wp2_with fail
      go_meet
      exact ⟨rfl, hB9⟩
  case rest =>
    rename World => wq
    obtain ⟨rfl, hb⟩ := hcut
    clear hB9 HX HQ HQB HB
    clear hk_bs hk_bx hk_bw hk_bc hk_bc1 hk_be hk_be1
    replace S_s := Lib.hid (S_s.out.below hb)
    replace B_bs := Lib.hid (B_bs.out.below hb)
    replace R_l := Lib.hid (R_l.out.below hb)
    replace R_d := Lib.hid (R_d.out.below hb)
    replace R_x := Lib.hid (R_x.out.below hb)
    replace B_bx := Lib.hid (B_bx.out.below hb)
    replace R_w := Lib.hid (R_w.out.below hb)
    replace B_bw := Lib.hid (B_bw.out.below hb)
    replace B_bc := Lib.hid (B_bc.out.below hb)
    replace B_be := Lib.hid (B_be.out.below hb)
    have z14 := hb.size
    replace hW := hW.trans (hb.mono hW.size)
    clear hb HR hl
    clear R_d
    clear R_x
    clear R_w
    clear B_bx
    clear B_bw
    clear B_bc
    clear B_be
    have hy12 := fromCoL_len (coordL Ls)
    have c := ci_FromCoordinates (coordL Ls) a_l c_l wq R_l.out.slw (by omega)
    have hk_bs : wq.cell? ⟨w2.heap.size, 0, none⟩ = some (.slice a_s Ls.length c_s) := B_bs.out.cell 0
    go_wp2_with fail
    refine c.mono ?_
    rintro e w15 ⟨v, rfl, ho, hb⟩
    clear c
    clear hk_bs
    obtain ⟨a_y, c_y, rfl, rX⟩ := row_open ho
    clear ho
    replace S_s := Lib.hid (S_s.out.below hb)
    replace B_bs := Lib.hid (B_bs.out.below hb)
    replace R_l := Lib.hid (R_l.out.below hb)
    have z15 := hb.size
    replace hW := hW.trans (hb.mono hW.size)
    have R_y := Lib.hid rX
    clear rX hb
    obtain ⟨w16, hwb⟩ : ∃ wb, wb = w15.alloc (.cells #[.slice a_y (fromCoL (coordL Ls)).length c_y] 26) := ⟨_, rfl⟩
    have hb : Below w15.heap.size w15 w16 := by rw [hwb]; exact box_below _ _
    have hA : Arr w16 w15.heap.size 26 [.slice a_y (fromCoL (coordL Ls)).length c_y] := by rw [hwb]; exact Arr.new _ _ _
    replace S_s := Lib.hid (S_s.out.below hb)
    replace B_bs := Lib.hid (B_bs.out.below hb)
    replace R_l := Lib.hid (R_l.out.below hb)
    replace R_y := Lib.hid (R_y.out.below hb)
    have z16 := hb.size
    replace hW := hW.trans (hb.mono hW.size)
    have y16 : w15.heap.size < w16.heap.size := hA.lt
    have B_by := Lib.hid hA
    have H_w16 := Lib.hid hwb
    clear hwb hb hA
    have hl_bs := B_bs.out.lt
    have hl_by := B_by.out.lt
    have hS0 : w16.drew.cell? ⟨w2.heap.size, 0, none⟩ = some (.slice a_s Ls.length c_s) ∧ w16.drew.cell? ⟨w15.heap.size, 0, none⟩ = some (.slice a_y (fromCoL (coordL Ls)).length c_y) ∧ Below w16.heap.size w16 w16.drew := ⟨B_bs.out.cell 0, B_by.out.cell 0, (Below.refl _ _).drew⟩
    have fr := fun w' (h : w'.cell? ⟨w2.heap.size, 0, none⟩ = some (.slice a_s Ls.length c_s) ∧ w'.cell? ⟨w15.heap.size, 0, none⟩ = some (.slice a_y (fromCoL (coordL Ls)).length c_y) ∧ Below w16.heap.size w16 w') => h.2.2
    have HS := Lib.hid (coordL_small Ls)
    have hk_bs : w16.cell? ⟨w2.heap.size, 0, none⟩ = some (.slice a_s Ls.length c_s) := B_bs.out.cell 0
    have hk_by : w16.cell? ⟨w15.heap.size, 0, none⟩ = some (.slice a_y (fromCoL (coordL Ls)).length c_y) := B_by.out.cell 0
    rw [H_w16.out] at hk_bs hk_by
    go_wp2_with fail
    rw [← H_w16.out]
    clear hk_bs hk_by
    cases hg : isSgB Ls
    · skip
      have HG := Lib.hid hg
      clear hg
      refine wp_region_held_drew (S := fun w' => w'.cell? ⟨w2.heap.size, 0, none⟩ = some (.slice a_s Ls.length c_s) ∧ w'.cell? ⟨w15.heap.size, 0, none⟩ = some (.slice a_y (fromCoL (coordL Ls)).length c_y) ∧ Below w16.heap.size w16 w') (by kernel_rfl) hS0 (fun hHeld => ?_)
      refine held_take 0 _ _ rfl (by kernel_rfl) (by kernel_rfl) (by kernel_rfl) (fun _ _ _ h => h) (by rfl) hHeld (fun w hSw => by (try dsimp only at hSw); go_simp; try with_reducible rfl) ?_
      (try simp only [Act.put, List.setIfInBounds_toArray, List.set_cons_zero, List.set_cons_succ, List.getElem_toArray, List.getElem_cons_zero])
      refine wpAnyH_ready (rs := [1]) (by kernel_rfl) (by simp) ?_
      refine AllReadyH.cons rfl (fun K hK => ?_) AllReadyH.nil
      rw [if_pos (by rfl)]
      go_wp2_with (first | (go_at_call 22; have c := spec_IsSemigroup Ls a_s c_s _ (S_s.out.sl.below (fr _ hHeld)) (by omega); rw [HG.out] at c; (with_reducible refine c.mono ?_); rintro e wk ⟨rfl, hbk⟩; clear c))
      refine hK.out _ _ (keepC hl_bs hl_by hHeld hbk) (fun hHeld1 => ?_)
      clear hK K
      (try simp only [Act.put, List.setIfInBounds_toArray, List.set_cons_zero, List.set_cons_succ, List.getElem_toArray, List.getElem_cons_succ, List.getElem_cons_zero])
      refine held_take 2 _ _ rfl (by kernel_rfl) (by kernel_rfl) (by kernel_rfl) (fun _ _ _ h => h) (by rfl) hHeld1 (fun w hSw => by (try dsimp only at hSw); go_simp; try with_reducible rfl) ?_
      (try simp only [Act.put, List.setIfInBounds_toArray, List.set_cons_zero, List.set_cons_succ, List.getElem_toArray, List.getElem_cons_succ, List.getElem_cons_zero])
      refine held_take 3 _ _ rfl (by kernel_rfl) (by kernel_rfl) (by kernel_rfl) (fun _ _ _ h => h) (by rfl) hHeld1 (fun w hSw => by (try dsimp only at hSw); go_simp; try with_reducible rfl) ?_
      (try simp only [Act.put, List.setIfInBounds_toArray, List.set_cons_zero, List.set_cons_succ, List.getElem_toArray, List.getElem_cons_succ, List.getElem_cons_zero])
      refine held_skip 4 _ rfl (by kernel_rfl) (by kernel_rfl) (by kernel_rfl) (fun _ _ _ h => h) (by rfl) hHeld1 ?_
      (try simp only [Act.put, List.setIfInBounds_toArray, List.set_cons_zero, List.set_cons_succ, List.getElem_toArray, List.getElem_cons_succ, List.getElem_cons_zero])
      refine held_skip 5 _ rfl (by kernel_rfl) (by kernel_rfl) (by kernel_rfl) (fun _ _ _ h => h) (by rfl) hHeld1 ?_
      (try simp only [Act.put, List.setIfInBounds_toArray, List.set_cons_zero, List.set_cons_succ, List.getElem_toArray, List.getElem_cons_succ, List.getElem_cons_zero])
      refine held_skip 6 _ rfl (by kernel_rfl) (by kernel_rfl) (by kernel_rfl) (fun _ _ _ h => h) (by rfl) hHeld1 ?_
      (try simp only [Act.put, List.setIfInBounds_toArray, List.set_cons_zero, List.set_cons_succ, List.getElem_toArray, List.getElem_cons_succ, List.getElem_cons_zero])
      refine held_skip 7 _ rfl (by kernel_rfl) (by kernel_rfl) (by kernel_rfl) (fun _ _ _ h => h) (by rfl) hHeld1 ?_
      (try simp only [Act.put, List.setIfInBounds_toArray, List.set_cons_zero, List.set_cons_succ, List.getElem_toArray, List.getElem_cons_succ, List.getElem_cons_zero])
      refine held_skip 8 _ rfl (by kernel_rfl) (by kernel_rfl) (by kernel_rfl) (fun _ _ _ h => h) (by rfl) hHeld1 ?_
      (try simp only [Act.put, List.setIfInBounds_toArray, List.set_cons_zero, List.set_cons_succ, List.getElem_toArray, List.getElem_cons_succ, List.getElem_cons_zero])
      refine held_skip 9 _ rfl (by kernel_rfl) (by kernel_rfl) (by kernel_rfl) (fun _ _ _ h => h) (by rfl) hHeld1 ?_
      (try simp only [Act.put, List.setIfInBounds_toArray, List.set_cons_zero, List.set_cons_succ, List.getElem_toArray, List.getElem_cons_succ, List.getElem_cons_zero])
      refine held_skip 10 _ rfl (by kernel_rfl) (by kernel_rfl) (by kernel_rfl) (fun _ _ _ h => h) (by rfl) hHeld1 ?_
      (try simp only [Act.put, List.setIfInBounds_toArray, List.set_cons_zero, List.set_cons_succ, List.getElem_toArray, List.getElem_cons_succ, List.getElem_cons_zero])
      refine held_skip 11 _ rfl (by kernel_rfl) (by kernel_rfl) (by kernel_rfl) (fun _ _ _ h => h) (by rfl) hHeld1 ?_
      (try simp only [Act.put, List.setIfInBounds_toArray, List.set_cons_zero, List.set_cons_succ, List.getElem_toArray, List.getElem_cons_succ, List.getElem_cons_zero])
      refine held_skip 12 _ rfl (by kernel_rfl) (by kernel_rfl) (by kernel_rfl) (fun _ _ _ h => h) (by rfl) hHeld1 ?_
      (try simp only [Act.put, List.setIfInBounds_toArray, List.set_cons_zero, List.set_cons_succ, List.getElem_toArray, List.getElem_cons_succ, List.getElem_cons_zero])
      refine held_skip 13 _ rfl (by kernel_rfl) (by kernel_rfl) (by kernel_rfl) (fun _ _ _ h => h) (by rfl) hHeld1 ?_
      (try simp only [Act.put, List.setIfInBounds_toArray, List.set_cons_zero, List.set_cons_succ, List.getElem_toArray, List.getElem_cons_succ, List.getElem_cons_zero])
      refine held_skip 14 _ rfl (by kernel_rfl) (by kernel_rfl) (by kernel_rfl) (fun _ _ _ h => h) (by rfl) hHeld1 ?_
      (try simp only [Act.put, List.setIfInBounds_toArray, List.set_cons_zero, List.set_cons_succ, List.getElem_toArray, List.getElem_cons_succ, List.getElem_cons_zero])
      refine held_skip 15 _ rfl (by kernel_rfl) (by kernel_rfl) (by kernel_rfl) (fun _ _ _ h => h) (by rfl) hHeld1 ?_
      (try simp only [Act.put, List.setIfInBounds_toArray, List.set_cons_zero, List.set_cons_succ, List.getElem_toArray, List.getElem_cons_succ, List.getElem_cons_zero])
      refine held_skip 16 _ rfl (by kernel_rfl) (by kernel_rfl) (by kernel_rfl) (fun _ _ _ h => h) (by rfl) hHeld1 ?_
      (try simp only [Act.put, List.setIfInBounds_toArray, List.set_cons_zero, List.set_cons_succ, List.getElem_toArray, List.getElem_cons_succ, List.getElem_cons_zero])
      refine held_take 17 _ _ rfl (by kernel_rfl) (by kernel_rfl) (by kernel_rfl) (fun _ _ _ h => h) (by rfl) hHeld1 (fun w hSw => by (try dsimp only at hSw); go_simp; try with_reducible rfl) ?_
      (try simp only [Act.put, List.setIfInBounds_toArray, List.set_cons_zero, List.set_cons_succ, List.getElem_toArray, List.getElem_cons_succ, List.getElem_cons_zero])
      refine held_take 18 _ _ rfl (by kernel_rfl) (by kernel_rfl) (by kernel_rfl) (fun _ _ _ h => h) (by rfl) hHeld1 (fun w hSw => by (try dsimp only at hSw); go_simp; try with_reducible rfl) ?_
      (try simp only [Act.put, List.setIfInBounds_toArray, List.set_cons_zero, List.set_cons_succ, List.getElem_toArray, List.getElem_cons_succ, List.getElem_cons_zero])
      refine wpAnyH_done (by kernel_rfl) ?_ _
      have hBz := hHeld1.2.2
      clear hS0 fr
      go_wp2_with fail
      go_ret
      exact ⟨rfl, hW.trans (hBz.mono hW.size)⟩
    · skip
      have HG := Lib.hid hg
      obtain ⟨hf, he⟩ := fromCo_iff.2 ⟨hg, rfl⟩
      have HE := Lib.hid he
      have HT := Lib.hid (coord_total hg)
      rw [hf]
      clear hg hf he
      refine wp_region_held_drew (S := fun w' => w'.cell? ⟨w2.heap.size, 0, none⟩ = some (.slice a_s Ls.length c_s) ∧ w'.cell? ⟨w15.heap.size, 0, none⟩ = some (.slice a_y (fromCoL (coordL Ls)).length c_y) ∧ Below w16.heap.size w16 w') (by kernel_rfl) hS0 (fun hHeld => ?_)
      refine held_take 0 _ _ rfl (by kernel_rfl) (by kernel_rfl) (by kernel_rfl) (fun _ _ _ h => h) (by rfl) hHeld (fun w hSw => by (try dsimp only at hSw); go_simp; try with_reducible rfl) ?_
      (try simp only [Act.put, List.setIfInBounds_toArray, List.set_cons_zero, List.set_cons_succ, List.getElem_toArray, List.getElem_cons_zero])
      refine wpAnyH_ready (rs := [1]) (by kernel_rfl) (by simp) ?_
      refine AllReadyH.cons rfl (fun K hK => ?_) AllReadyH.nil
      rw [if_pos (by rfl)]
      go_wp2_with (first | (go_at_call 22; have c := spec_IsSemigroup Ls a_s c_s _ (S_s.out.sl.below (fr _ hHeld)) (by omega); rw [HG.out] at c; (with_reducible refine c.mono ?_); rintro e wk ⟨rfl, hbk⟩; clear c))
      refine hK.out _ _ (keepC hl_bs hl_by hHeld hbk) (fun hHeld1 => ?_)
      clear hK K
      (try simp only [Act.put, List.setIfInBounds_toArray, List.set_cons_zero, List.set_cons_succ, List.getElem_toArray, List.getElem_cons_succ, List.getElem_cons_zero])
      refine held_take 2 _ _ rfl (by kernel_rfl) (by kernel_rfl) (by kernel_rfl) (fun _ _ _ h => h) (by rfl) hHeld1 (fun w hSw => by (try dsimp only at hSw); go_simp; try with_reducible rfl) ?_
      (try simp only [Act.put, List.setIfInBounds_toArray, List.set_cons_zero, List.set_cons_succ, List.getElem_toArray, List.getElem_cons_succ, List.getElem_cons_zero])
      refine held_take 3 _ _ rfl (by kernel_rfl) (by kernel_rfl) (by kernel_rfl) (fun _ _ _ h => h) (by rfl) hHeld1 (fun w hSw => by (try dsimp only at hSw); go_simp; try with_reducible rfl) ?_
      (try simp only [Act.put, List.setIfInBounds_toArray, List.set_cons_zero, List.set_cons_succ, List.getElem_toArray, List.getElem_cons_succ, List.getElem_cons_zero])
      refine held_take 4 _ _ rfl (by kernel_rfl) (by kernel_rfl) (by kernel_rfl) (fun _ _ _ h => h) (by rfl) hHeld1 (fun w hSw => by (try dsimp only at hSw); go_simp; try with_reducible rfl) ?_
      (try simp only [Act.put, List.setIfInBounds_toArray, List.set_cons_zero, List.set_cons_succ, List.getElem_toArray, List.getElem_cons_succ, List.getElem_cons_zero])
      refine held_take 5 _ _ rfl (by kernel_rfl) (by kernel_rfl) (by kernel_rfl) (fun _ _ _ h => h) (by rfl) hHeld1 (fun w hSw => by (try dsimp only at hSw); go_simp; try with_reducible rfl) ?_
      (try simp only [Act.put, List.setIfInBounds_toArray, List.set_cons_zero, List.set_cons_succ, List.getElem_toArray, List.getElem_cons_succ, List.getElem_cons_zero])
      refine held_take 6 _ _ rfl (by kernel_rfl) (by kernel_rfl) (by kernel_rfl) (fun _ _ _ h => h) (by rfl) hHeld1 (fun w hSw => by (try dsimp only at hSw); go_simp; try with_reducible rfl) ?_
      (try simp only [Act.put, List.setIfInBounds_toArray, List.set_cons_zero, List.set_cons_succ, List.getElem_toArray, List.getElem_cons_succ, List.getElem_cons_zero])
      refine held_take 7 _ _ rfl (by kernel_rfl) (by kernel_rfl) (by kernel_rfl) (fun _ _ _ h => h) (by rfl) hHeld1 (fun w hSw => by (try dsimp only at hSw); go_simp; try with_reducible rfl) ?_
      (try simp only [Act.put, List.setIfInBounds_toArray, List.set_cons_zero, List.set_cons_succ, List.getElem_toArray, List.getElem_cons_succ, List.getElem_cons_zero])
      refine wpAnyH_ready (rs := [8]) (by kernel_rfl) (by simp) ?_
      refine AllReadyH.cons rfl (fun K hK => ?_) AllReadyH.nil
      rw [if_pos (by rfl)]
      go_wp2_with (first | (go_at_call 21; have c := spec_EqualSemigroup (fromCoL (coordL Ls)) Ls a_y a_s c_y c_s _ (R_y.out.slv.below (fr _ hHeld1)) (S_s.out.sl.below (fr _ hHeld1)) (by omega) (by omega); rw [decide_eq_true HE.out] at c; (with_reducible refine c.mono ?_); rintro e wk ⟨rfl, hbk⟩; clear c))
      refine hK.out _ _ (keepC hl_bs hl_by hHeld1 hbk) (fun hHeld2 => ?_)
      clear hK K
      (try simp only [Act.put, List.setIfInBounds_toArray, List.set_cons_zero, List.set_cons_succ, List.getElem_toArray, List.getElem_cons_succ, List.getElem_cons_zero])
      refine held_take 9 _ _ rfl (by kernel_rfl) (by kernel_rfl) (by kernel_rfl) (fun _ _ _ h => h) (by rfl) hHeld2 (fun w hSw => by (try dsimp only at hSw); go_simp; try with_reducible rfl) ?_
      (try simp only [Act.put, List.setIfInBounds_toArray, List.set_cons_zero, List.set_cons_succ, List.getElem_toArray, List.getElem_cons_succ, List.getElem_cons_zero])
      refine held_take 10 _ _ rfl (by kernel_rfl) (by kernel_rfl) (by kernel_rfl) (fun _ _ _ h => h) (by rfl) hHeld2 (fun w hSw => by (try dsimp only at hSw); go_simp; try with_reducible rfl) ?_
      (try simp only [Act.put, List.setIfInBounds_toArray, List.set_cons_zero, List.set_cons_succ, List.getElem_toArray, List.getElem_cons_succ, List.getElem_cons_zero])
      refine held_take 11 _ _ rfl (by kernel_rfl) (by kernel_rfl) (by kernel_rfl) (fun _ _ _ h => h) (by rfl) hHeld2 (fun w hSw => by (try dsimp only at hSw); go_simp; try with_reducible rfl) ?_
      (try simp only [Act.put, List.setIfInBounds_toArray, List.set_cons_zero, List.set_cons_succ, List.getElem_toArray, List.getElem_cons_succ, List.getElem_cons_zero])
      refine held_take 13 _ _ rfl (by kernel_rfl) (by kernel_rfl) (by kernel_rfl) (fun _ _ _ h => h) (by rfl) hHeld2 (fun w hSw => by (try dsimp only at hSw); go_simp; try with_reducible rfl) ?_
      (try simp only [Act.put, List.setIfInBounds_toArray, List.set_cons_zero, List.set_cons_succ, List.getElem_toArray, List.getElem_cons_succ, List.getElem_cons_zero])
      refine wpAnyH_ready (rs := [12]) (by kernel_rfl) (by simp) ?_
      refine AllReadyH.cons rfl (fun K hK => ?_) AllReadyH.nil
      rw [if_pos (by rfl)]
      go_wp2_with (first | (go_at_call 23; have c := total_any (coordL Ls) a_l c_l _ (R_l.out.slv.below (fr _ hHeld2)) (by omega) HS.out; rw [HT.out] at c; (with_reducible refine c.mono ?_); rintro e wk ⟨rfl, hbk⟩; clear c))
      refine hK.out _ _ (keepC hl_bs hl_by hHeld2 hbk) (fun hHeld3 => ?_)
      clear hK K
      (try simp only [Act.put, List.setIfInBounds_toArray, List.set_cons_zero, List.set_cons_succ, List.getElem_toArray, List.getElem_cons_succ, List.getElem_cons_zero])
      refine wpAnyH_ready (rs := [14]) (by kernel_rfl) (by simp) ?_
      refine AllReadyH.cons rfl (fun K hK => ?_) AllReadyH.nil
      rw [if_pos (by rfl)]
      go_wp2_with (first | (go_at_call 24; have c := spec_GenusOf Ls a_s c_s _ (S_s.out.sl.below (fr _ hHeld3)) (by omega); (with_reducible refine c.mono ?_); rintro e wk ⟨rfl, hbk⟩; clear c))
      refine hK.out _ _ (keepC hl_bs hl_by hHeld3 hbk) (fun hHeld4 => ?_)
      clear hK K
      (try simp only [Act.put, List.setIfInBounds_toArray, List.set_cons_zero, List.set_cons_succ, List.getElem_toArray, List.getElem_cons_succ, List.getElem_cons_zero])
      refine held_take 15 _ _ rfl (by kernel_rfl) (by kernel_rfl) (by kernel_rfl) (fun _ _ _ h => h) (by rfl) hHeld4 (fun w hSw => by (try dsimp only at hSw); go_simp; try with_reducible rfl) ?_
      (try simp only [Act.put, List.setIfInBounds_toArray, List.set_cons_zero, List.set_cons_succ, List.getElem_toArray, List.getElem_cons_succ, List.getElem_cons_zero])
      refine held_take 16 _ _ rfl (by kernel_rfl) (by kernel_rfl) (by kernel_rfl) (fun _ _ _ h => h) (by rfl) hHeld4 (fun w hSw => by (try dsimp only at hSw); go_simp; try with_reducible rfl) ?_
      (try simp only [Act.put, List.setIfInBounds_toArray, List.set_cons_zero, List.set_cons_succ, List.getElem_toArray, List.getElem_cons_succ, List.getElem_cons_zero])
      refine held_take 17 _ _ rfl (by kernel_rfl) (by kernel_rfl) (by kernel_rfl) (fun _ _ _ h => h) (by rfl) hHeld4 (fun w hSw => by (try dsimp only at hSw); go_simp; try with_reducible rfl) ?_
      (try simp only [Act.put, List.setIfInBounds_toArray, List.set_cons_zero, List.set_cons_succ, List.getElem_toArray, List.getElem_cons_succ, List.getElem_cons_zero])
      refine held_take 18 _ _ rfl (by kernel_rfl) (by kernel_rfl) (by kernel_rfl) (fun _ _ _ h => h) (by rfl) hHeld4 (fun w hSw => by (try dsimp only at hSw); go_simp; try with_reducible rfl) ?_
      (try simp only [Act.put, List.setIfInBounds_toArray, List.set_cons_zero, List.set_cons_succ, List.getElem_toArray, List.getElem_cons_succ, List.getElem_cons_zero])
      refine wpAnyH_done (by kernel_rfl) ?_ _
      have hBz := hHeld4.2.2
      clear hS0 fr
      go_wp2_with fail
      go_ret
      exact ⟨rfl, hW.trans (hBz.mono hW.size)⟩

set_option maxRecDepth 100000 in
set_option maxHeartbeats 800000 in
theorem FnCoordinates.walk (p0 : Option Addr) (len0 cap0 : Nat) (z0 : List Int) (W : World) (r0 : IsRow .u8 W p0 len0 cap0 z0) (_ : W.ShapedOpen Try.prog) :
    Calls Try.prog 3 #[.slice p0 len0 cap0] W fun e w' => e = .returned (.bool true) ∧ Below W.heap.size W w' := by
  by_cases hl : len0 ≤ 1048576
  · exact fnCoordinates_small p0 len0 cap0 z0 W r0 hl
  · have cb := big_any p0 len0 cap0 W (row_maxLen r0)
    rw [decide_eq_true (show 1048576 < len0 by omega)] at cb
    go_enter Try.func3, Try.ntmps3
    go_wp2_with fail
    refine cb.mono ?_
    rintro e w0 ⟨rfl, rfl⟩
    go_wp2_with fail
    go_ret
    exact ⟨rfl, Below.refl _ _⟩
end Go.Proofs.Ytgkkkmcgnpdchaa
