/-
  THE WALK OF THE LAW FnLists: at every drawn code both sides agree on the lists, the sums, what is shared, the common divisor and the texts (written by fn_lists.py of the verifier's own).
-/
import Derived.Test.YtcbkkklfbmbknaaGreatDoorRows
import Derived.Test.YtcbkkklfbmbknaaGreatDoorDrw
namespace Go.Proofs.YtcbkkklfbmbknaaGreatDoor
open Go Go.RowKit

theorem ci_ParseText (L : List Int) (w : World) (h : readList (listText L) = some L) (hs : (listText L).size ≤ 1048576) (hv : EnvParse w) :
    Calls Tryz.prog 14 #[.string (listText L)] w fun e w' => ∃ v, e = .returned (.tuple #[v, .bool true]) ∧ w'.ownsRow w.heap.size 3 1 v L.length (L.map (Value.int .i64)) ∧ Below w.heap.size w w' := by
  have c := impl_ParseList (listText L) w hs hv
  rw [h] at c
  exact c

set_option maxRecDepth 100000 in
set_option maxHeartbeats 12800000 in
theorem fnLists_small (p0 : Option Addr) (len0 cap0 : Nat) (z0 : List Int) (W : World) (r0 : IsRow .u8 W p0 len0 cap0 z0) (hl : len0 ≤ 1048576) (hv : EnvParse W) :
    Calls Tryz.prog 3 #[.slice p0 len0 cap0] W fun e w' => e = .returned (.bool true) ∧ Below W.heap.size W w' := by
  have HR := Lib.hid r0
  have HV := Lib.hid hv
  clear r0 hv
  have hW : Below W.heap.size W W := Below.refl _ _
  go_enter Tryz.func3, Tryz.ntmps3
  have c := big_b p0 len0 cap0 W (by unfold maxLen; omega)
  rw [decide_eq_false (show ¬ 1048576 < len0 by omega)] at c
  go_wp2_with fail
  refine c.mono ?_
  rintro e w1 ⟨rfl, hb⟩
  clear c
  have z1 := hb.size
  replace hW := hW.trans (hb.mono hW.size)
  clear hb
  have c := DrawGcdOf_any w1 p0 len0 cap0 z0 (HR.out.below hW) hl
  go_wp2_with fail
  refine c.mono ?_
  rintro e w2 ⟨na, nb, hB_na, hB_nb, rfl, hb⟩
  clear c
  have z2 := hb.size
  replace hW := hW.trans (hb.mono hW.size)
  clear hb
  obtain ⟨na0, na1⟩ := hB_na
  obtain ⟨nb0, nb1⟩ := hB_nb
  have c := ci_GcdOf na nb w2 na0 na1 nb0 nb1
  go_wp2_with fail
  refine c.mono ?_
  rintro e w3 ⟨rfl, hb⟩
  clear c
  have z3 := hb.size
  replace hW := hW.trans (hb.mono hW.size)
  clear hb
  have c := DrawSortList_any w3 p0 len0 cap0 z0 (HR.out.below hW) hl
  go_wp2_with fail
  refine c.mono ?_
  rintro e w4 ⟨Ll, v, hl_Ll, hB_Ll, rfl, ho, hb⟩
  clear c
  obtain ⟨a_list, c_list, rfl, rX⟩ := row_open ho
  clear ho
  have z4 := hb.size
  replace hW := hW.trans (hb.mono hW.size)
  have R_list := Lib.hid rX
  replace hB_Ll := Lib.hid hB_Ll
  clear rX hb
  have c := DrawSumsOf_any w4 p0 len0 cap0 z0 (HR.out.below hW) hl
  go_wp2_with fail
  refine c.mono ?_
  rintro e w5 ⟨Lx, Ly, v, u, hl_Lx, hl_Ly, hB_Lx, hB_Ly, rfl, ho, ho2, hb⟩
  clear c
  obtain ⟨a_x, c_x, rfl, rX⟩ := row_open ho
  obtain ⟨a_y, c_y, rfl, rY⟩ := row_open ho2
  clear ho ho2
  replace R_list := Lib.hid (R_list.out.below hb)
  have z5 := hb.size
  replace hW := hW.trans (hb.mono hW.size)
  have R_x := Lib.hid rX
  have R_y := Lib.hid rY
  replace hB_Lx := Lib.hid hB_Lx
  replace hB_Ly := Lib.hid hB_Ly
  clear rX rY hb
  have c := DrawSharedOf_any w5 p0 len0 cap0 z0 (HR.out.below hW) hl
  go_wp2_with fail
  refine c.mono ?_
  rintro e w6 ⟨Lu, Lv, v, u, hl_Lu, hl_Lv, hB_Lu, hB_Lv, rfl, ho, ho2, hb⟩
  clear c
  obtain ⟨a_u, c_u, rfl, rX⟩ := row_open ho
  obtain ⟨a_v, c_v, rfl, rY⟩ := row_open ho2
  clear ho ho2
  replace R_list := Lib.hid (R_list.out.below hb)
  replace R_x := Lib.hid (R_x.out.below hb)
  replace R_y := Lib.hid (R_y.out.below hb)
  have z6 := hb.size
  replace hW := hW.trans (hb.mono hW.size)
  have R_u := Lib.hid rX
  have R_v := Lib.hid rY
  replace hB_Lu := Lib.hid hB_Lu
  replace hB_Lv := Lib.hid hB_Lv
  clear rX rY hb
  have c := DrawHasNumber_any w6 p0 len0 cap0 z0 (HR.out.below hW) hl
  go_wp2_with fail
  refine c.mono ?_
  rintro e w7 ⟨Lh, v, nn, hl_Lh, hB_Lh, hB_nn, rfl, ho, hb⟩
  clear c
  obtain ⟨a_h, c_h, rfl, rX⟩ := row_open ho
  clear ho
  replace R_list := Lib.hid (R_list.out.below hb)
  replace R_x := Lib.hid (R_x.out.below hb)
  replace R_y := Lib.hid (R_y.out.below hb)
  replace R_u := Lib.hid (R_u.out.below hb)
  replace R_v := Lib.hid (R_v.out.below hb)
  have z7 := hb.size
  replace hW := hW.trans (hb.mono hW.size)
  have R_h := Lib.hid rX
  replace hB_Lh := Lib.hid hB_Lh
  clear rX hb
  replace hB_nn := Lib.hid hB_nn
  obtain ⟨nn0, nn1⟩ := hB_nn.out
  have c := DrawIsAscending_any w7 p0 len0 cap0 z0 (HR.out.below hW) hl
  go_wp2_with fail
  refine c.mono ?_
  rintro e w8 ⟨Lt, v, hl_Lt, hB_Lt, rfl, ho, hb⟩
  clear c
  obtain ⟨a_t, c_t, rfl, rX⟩ := row_open ho
  clear ho
  replace R_list := Lib.hid (R_list.out.below hb)
  replace R_x := Lib.hid (R_x.out.below hb)
  replace R_y := Lib.hid (R_y.out.below hb)
  replace R_u := Lib.hid (R_u.out.below hb)
  replace R_v := Lib.hid (R_v.out.below hb)
  replace R_h := Lib.hid (R_h.out.below hb)
  have z8 := hb.size
  replace hW := hW.trans (hb.mono hW.size)
  have R_t := Lib.hid rX
  replace hB_Lt := Lib.hid hB_Lt
  clear rX hb
  have ls := sortL_length_le Ll
  have c := ci_SortList Ll a_list c_list w8 R_list.out.slw (by omega)
  go_wp2_with fail
  refine c.mono ?_
  rintro e w9 ⟨v, rfl, ho, hb⟩
  clear c
  obtain ⟨a_s, c_s, rfl, rX⟩ := row_open ho
  clear ho
  replace R_list := Lib.hid (R_list.out.below hb)
  replace R_x := Lib.hid (R_x.out.below hb)
  replace R_y := Lib.hid (R_y.out.below hb)
  replace R_u := Lib.hid (R_u.out.below hb)
  replace R_v := Lib.hid (R_v.out.below hb)
  replace R_h := Lib.hid (R_h.out.below hb)
  replace R_t := Lib.hid (R_t.out.below hb)
  have z9 := hb.size
  replace hW := hW.trans (hb.mono hW.size)
  have R_s := Lib.hid rX
  clear rX hb
  have c := DrawParseList_any w9 p0 len0 cap0 z0 (HR.out.below hW) hl
  go_wp2_with fail
  refine c.mono ?_
  rintro e w10 ⟨p, hp, rfl, hb⟩
  clear c
  replace R_list := Lib.hid (R_list.out.below hb)
  replace R_x := Lib.hid (R_x.out.below hb)
  replace R_y := Lib.hid (R_y.out.below hb)
  replace R_u := Lib.hid (R_u.out.below hb)
  replace R_v := Lib.hid (R_v.out.below hb)
  replace R_h := Lib.hid (R_h.out.below hb)
  replace R_t := Lib.hid (R_t.out.below hb)
  replace R_s := Lib.hid (R_s.out.below hb)
  have z10 := hb.size
  replace hW := hW.trans (hb.mono hW.size)
  clear hb
  have lq := readList_length_le p
  have c := ci_ParseList p w10 (by omega) (HV.out.below hW)
  go_wp2_with fail
  refine c.mono ?_
  rintro e w11 ⟨v, rfl, ho, hb⟩
  clear c
  obtain ⟨a_q, c_q, rfl, rX⟩ := row_open ho
  clear ho
  replace R_list := Lib.hid (R_list.out.below hb)
  replace R_x := Lib.hid (R_x.out.below hb)
  replace R_y := Lib.hid (R_y.out.below hb)
  replace R_u := Lib.hid (R_u.out.below hb)
  replace R_v := Lib.hid (R_v.out.below hb)
  replace R_h := Lib.hid (R_h.out.below hb)
  replace R_t := Lib.hid (R_t.out.below hb)
  replace R_s := Lib.hid (R_s.out.below hb)
  have z11 := hb.size
  replace hW := hW.trans (hb.mono hW.size)
  have R_q := Lib.hid rX
  clear rX hb
  have c := cs_ParseList p w11 (by omega)
  go_wp2_with fail
  refine c.mono ?_
  rintro e w12 ⟨v, rfl, ho, hb⟩
  clear c
  obtain ⟨a_r, c_r, rfl, rX⟩ := row_open ho
  clear ho
  replace R_list := Lib.hid (R_list.out.below hb)
  replace R_x := Lib.hid (R_x.out.below hb)
  replace R_y := Lib.hid (R_y.out.below hb)
  replace R_u := Lib.hid (R_u.out.below hb)
  replace R_v := Lib.hid (R_v.out.below hb)
  replace R_h := Lib.hid (R_h.out.below hb)
  replace R_t := Lib.hid (R_t.out.below hb)
  replace R_s := Lib.hid (R_s.out.below hb)
  replace R_q := Lib.hid (R_q.out.below hb)
  have z12 := hb.size
  replace hW := hW.trans (hb.mono hW.size)
  have R_r := Lib.hid rX
  clear rX hb
  have c := cs_GcdOf na nb w12 na0 na1 nb0 nb1
  go_wp2_with fail
  refine c.mono ?_
  rintro e w13 ⟨rfl, hb⟩
  clear c
  replace R_list := Lib.hid (R_list.out.below hb)
  replace R_x := Lib.hid (R_x.out.below hb)
  replace R_y := Lib.hid (R_y.out.below hb)
  replace R_u := Lib.hid (R_u.out.below hb)
  replace R_v := Lib.hid (R_v.out.below hb)
  replace R_h := Lib.hid (R_h.out.below hb)
  replace R_t := Lib.hid (R_t.out.below hb)
  replace R_s := Lib.hid (R_s.out.below hb)
  replace R_q := Lib.hid (R_q.out.below hb)
  replace R_r := Lib.hid (R_r.out.below hb)
  have z13 := hb.size
  replace hW := hW.trans (hb.mono hW.size)
  clear hb
  have hdv := fun h => gcdOf_divides (a := na) (b := nb) h
  have hg0 := (gcdOf_bounds na nb).1
  generalize gcdOf na nb = g at *
  by_cases hg : 0 < g
  · obtain ⟨hm1, hm2⟩ := hdv hg
    have hgne : g ≠ 0 := by omega
    clear hdv
    have c := cs_SortList Ll a_list c_list w13 R_list.out.slw (by omega)
    go_wp2_with fail
    refine c.mono ?_
    rintro e w14 ⟨v, rfl, ho, hb⟩
    clear c
    obtain ⟨a_t1, c_t1, rfl, rX⟩ := row_open ho
    clear ho
    replace R_list := Lib.hid (R_list.out.below hb)
    replace R_x := Lib.hid (R_x.out.below hb)
    replace R_y := Lib.hid (R_y.out.below hb)
    replace R_u := Lib.hid (R_u.out.below hb)
    replace R_v := Lib.hid (R_v.out.below hb)
    replace R_h := Lib.hid (R_h.out.below hb)
    replace R_t := Lib.hid (R_t.out.below hb)
    replace R_s := Lib.hid (R_s.out.below hb)
    replace R_q := Lib.hid (R_q.out.below hb)
    replace R_r := Lib.hid (R_r.out.below hb)
    have z14 := hb.size
    replace hW := hW.trans (hb.mono hW.size)
    have R_t1 := Lib.hid rX
    clear rX hb
    have c := cq (sortL Ll) (sortL Ll) a_s a_t1 c_s c_t1 w14 R_s.out.slv R_t1.out.slv (by omega) (by omega)
    rw [decide_eq_true (rfl : (sortL Ll) = (sortL Ll))] at c
    go_wp2_with fail
    refine c.mono ?_
    rintro e w15 ⟨rfl, hb⟩
    clear c
    replace R_list := Lib.hid (R_list.out.below hb)
    replace R_x := Lib.hid (R_x.out.below hb)
    replace R_y := Lib.hid (R_y.out.below hb)
    replace R_u := Lib.hid (R_u.out.below hb)
    replace R_v := Lib.hid (R_v.out.below hb)
    replace R_h := Lib.hid (R_h.out.below hb)
    replace R_t := Lib.hid (R_t.out.below hb)
    replace R_s := Lib.hid (R_s.out.below hb)
    replace R_q := Lib.hid (R_q.out.below hb)
    replace R_r := Lib.hid (R_r.out.below hb)
    replace R_t1 := Lib.hid (R_t1.out.below hb)
    have z15 := hb.size
    replace hW := hW.trans (hb.mono hW.size)
    clear hb
    clear R_t1
    have c := cs_IsAscending (sortL Ll) a_s c_s w15 R_s.out.slw (by omega)
    rw [ascB_sortL] at c
    go_wp2_with fail
    refine c.mono ?_
    rintro e w16 ⟨rfl, hb⟩
    clear c
    replace R_list := Lib.hid (R_list.out.below hb)
    replace R_x := Lib.hid (R_x.out.below hb)
    replace R_y := Lib.hid (R_y.out.below hb)
    replace R_u := Lib.hid (R_u.out.below hb)
    replace R_v := Lib.hid (R_v.out.below hb)
    replace R_h := Lib.hid (R_h.out.below hb)
    replace R_t := Lib.hid (R_t.out.below hb)
    replace R_s := Lib.hid (R_s.out.below hb)
    replace R_q := Lib.hid (R_q.out.below hb)
    replace R_r := Lib.hid (R_r.out.below hb)
    have z16 := hb.size
    replace hW := hW.trans (hb.mono hW.size)
    clear hb
    clear R_s
    have lxy := sums_length_le Lx Ly
    have c := ci_SumsOf Lx a_x c_x Ly a_y c_y w16 R_x.out.slw R_y.out.slw (by omega) (by omega)
    go_wp2_with fail
    refine c.mono ?_
    rintro e w17 ⟨v, rfl, ho, hb⟩
    clear c
    obtain ⟨a_t1, c_t1, rfl, rX⟩ := row_open ho
    clear ho
    replace R_list := Lib.hid (R_list.out.below hb)
    replace R_x := Lib.hid (R_x.out.below hb)
    replace R_y := Lib.hid (R_y.out.below hb)
    replace R_u := Lib.hid (R_u.out.below hb)
    replace R_v := Lib.hid (R_v.out.below hb)
    replace R_h := Lib.hid (R_h.out.below hb)
    replace R_t := Lib.hid (R_t.out.below hb)
    replace R_q := Lib.hid (R_q.out.below hb)
    replace R_r := Lib.hid (R_r.out.below hb)
    have z17 := hb.size
    replace hW := hW.trans (hb.mono hW.size)
    have R_t1 := Lib.hid rX
    clear rX hb
    have c := cs_SumsOf Lx a_x c_x Ly a_y c_y w17 R_x.out.slw R_y.out.slw (by omega) (by omega)
    go_wp2_with fail
    refine c.mono ?_
    rintro e w18 ⟨v, rfl, ho, hb⟩
    clear c
    obtain ⟨a_t2, c_t2, rfl, rX⟩ := row_open ho
    clear ho
    replace R_list := Lib.hid (R_list.out.below hb)
    replace R_x := Lib.hid (R_x.out.below hb)
    replace R_y := Lib.hid (R_y.out.below hb)
    replace R_u := Lib.hid (R_u.out.below hb)
    replace R_v := Lib.hid (R_v.out.below hb)
    replace R_h := Lib.hid (R_h.out.below hb)
    replace R_t := Lib.hid (R_t.out.below hb)
    replace R_q := Lib.hid (R_q.out.below hb)
    replace R_r := Lib.hid (R_r.out.below hb)
    replace R_t1 := Lib.hid (R_t1.out.below hb)
    have z18 := hb.size
    replace hW := hW.trans (hb.mono hW.size)
    have R_t2 := Lib.hid rX
    clear rX hb
    have c := cq (sums Lx Ly) (sums Lx Ly) a_t1 a_t2 c_t1 c_t2 w18 R_t1.out.slv R_t2.out.slv (by omega) (by omega)
    rw [decide_eq_true (rfl : (sums Lx Ly) = (sums Lx Ly))] at c
    go_wp2_with fail
    refine c.mono ?_
    rintro e w19 ⟨rfl, hb⟩
    clear c
    replace R_list := Lib.hid (R_list.out.below hb)
    replace R_x := Lib.hid (R_x.out.below hb)
    replace R_y := Lib.hid (R_y.out.below hb)
    replace R_u := Lib.hid (R_u.out.below hb)
    replace R_v := Lib.hid (R_v.out.below hb)
    replace R_h := Lib.hid (R_h.out.below hb)
    replace R_t := Lib.hid (R_t.out.below hb)
    replace R_q := Lib.hid (R_q.out.below hb)
    replace R_r := Lib.hid (R_r.out.below hb)
    replace R_t1 := Lib.hid (R_t1.out.below hb)
    replace R_t2 := Lib.hid (R_t2.out.below hb)
    have z19 := hb.size
    replace hW := hW.trans (hb.mono hW.size)
    clear hb
    clear R_t1
    clear R_t2
    have c := ci_SumsOf Lx a_x c_x Ly a_y c_y w19 R_x.out.slw R_y.out.slw (by omega) (by omega)
    go_wp2_with fail
    refine c.mono ?_
    rintro e w20 ⟨v, rfl, ho, hb⟩
    clear c
    obtain ⟨a_t1, c_t1, rfl, rX⟩ := row_open ho
    clear ho
    replace R_list := Lib.hid (R_list.out.below hb)
    replace R_x := Lib.hid (R_x.out.below hb)
    replace R_y := Lib.hid (R_y.out.below hb)
    replace R_u := Lib.hid (R_u.out.below hb)
    replace R_v := Lib.hid (R_v.out.below hb)
    replace R_h := Lib.hid (R_h.out.below hb)
    replace R_t := Lib.hid (R_t.out.below hb)
    replace R_q := Lib.hid (R_q.out.below hb)
    replace R_r := Lib.hid (R_r.out.below hb)
    have z20 := hb.size
    replace hW := hW.trans (hb.mono hW.size)
    have R_t1 := Lib.hid rX
    clear rX hb
    have c := ci_SumsOf Ly a_y c_y Lx a_x c_x w20 R_y.out.slw R_x.out.slw (by omega) (by omega)
    rw [sums_comm Ly Lx] at c
    go_wp2_with fail
    refine c.mono ?_
    rintro e w21 ⟨v, rfl, ho, hb⟩
    clear c
    obtain ⟨a_t2, c_t2, rfl, rX⟩ := row_open ho
    clear ho
    replace R_list := Lib.hid (R_list.out.below hb)
    replace R_x := Lib.hid (R_x.out.below hb)
    replace R_y := Lib.hid (R_y.out.below hb)
    replace R_u := Lib.hid (R_u.out.below hb)
    replace R_v := Lib.hid (R_v.out.below hb)
    replace R_h := Lib.hid (R_h.out.below hb)
    replace R_t := Lib.hid (R_t.out.below hb)
    replace R_q := Lib.hid (R_q.out.below hb)
    replace R_r := Lib.hid (R_r.out.below hb)
    replace R_t1 := Lib.hid (R_t1.out.below hb)
    have z21 := hb.size
    replace hW := hW.trans (hb.mono hW.size)
    have R_t2 := Lib.hid rX
    clear rX hb
    have c := cq (sums Lx Ly) (sums Lx Ly) a_t1 a_t2 c_t1 c_t2 w21 R_t1.out.slv R_t2.out.slv (by omega) (by omega)
    rw [decide_eq_true (rfl : (sums Lx Ly) = (sums Lx Ly))] at c
    go_wp2_with fail
    refine c.mono ?_
    rintro e w22 ⟨rfl, hb⟩
    clear c
    replace R_list := Lib.hid (R_list.out.below hb)
    replace R_x := Lib.hid (R_x.out.below hb)
    replace R_y := Lib.hid (R_y.out.below hb)
    replace R_u := Lib.hid (R_u.out.below hb)
    replace R_v := Lib.hid (R_v.out.below hb)
    replace R_h := Lib.hid (R_h.out.below hb)
    replace R_t := Lib.hid (R_t.out.below hb)
    replace R_q := Lib.hid (R_q.out.below hb)
    replace R_r := Lib.hid (R_r.out.below hb)
    replace R_t1 := Lib.hid (R_t1.out.below hb)
    replace R_t2 := Lib.hid (R_t2.out.below hb)
    have z22 := hb.size
    replace hW := hW.trans (hb.mono hW.size)
    clear hb
    clear R_t1
    clear R_t2
    clear R_x
    clear R_y
    have luv := shared_length_le Lu Lv
    have c := ci_SharedOf Lu a_u c_u Lv a_v c_v w22 R_u.out.slw R_v.out.slw (by omega) (by omega)
    go_wp2_with fail
    refine c.mono ?_
    rintro e w23 ⟨v, rfl, ho, hb⟩
    clear c
    obtain ⟨a_t1, c_t1, rfl, rX⟩ := row_open ho
    clear ho
    replace R_list := Lib.hid (R_list.out.below hb)
    replace R_u := Lib.hid (R_u.out.below hb)
    replace R_v := Lib.hid (R_v.out.below hb)
    replace R_h := Lib.hid (R_h.out.below hb)
    replace R_t := Lib.hid (R_t.out.below hb)
    replace R_q := Lib.hid (R_q.out.below hb)
    replace R_r := Lib.hid (R_r.out.below hb)
    have z23 := hb.size
    replace hW := hW.trans (hb.mono hW.size)
    have R_t1 := Lib.hid rX
    clear rX hb
    have c := cs_SharedOf Lu a_u c_u Lv a_v c_v w23 R_u.out.slw R_v.out.slw (by omega) (by omega)
    go_wp2_with fail
    refine c.mono ?_
    rintro e w24 ⟨v, rfl, ho, hb⟩
    clear c
    obtain ⟨a_t2, c_t2, rfl, rX⟩ := row_open ho
    clear ho
    replace R_list := Lib.hid (R_list.out.below hb)
    replace R_u := Lib.hid (R_u.out.below hb)
    replace R_v := Lib.hid (R_v.out.below hb)
    replace R_h := Lib.hid (R_h.out.below hb)
    replace R_t := Lib.hid (R_t.out.below hb)
    replace R_q := Lib.hid (R_q.out.below hb)
    replace R_r := Lib.hid (R_r.out.below hb)
    replace R_t1 := Lib.hid (R_t1.out.below hb)
    have z24 := hb.size
    replace hW := hW.trans (hb.mono hW.size)
    have R_t2 := Lib.hid rX
    clear rX hb
    have c := cq (shared Lu Lv) (shared Lu Lv) a_t1 a_t2 c_t1 c_t2 w24 R_t1.out.slv R_t2.out.slv (by omega) (by omega)
    rw [decide_eq_true (rfl : (shared Lu Lv) = (shared Lu Lv))] at c
    go_wp2_with fail
    refine c.mono ?_
    rintro e w25 ⟨rfl, hb⟩
    clear c
    replace R_list := Lib.hid (R_list.out.below hb)
    replace R_u := Lib.hid (R_u.out.below hb)
    replace R_v := Lib.hid (R_v.out.below hb)
    replace R_h := Lib.hid (R_h.out.below hb)
    replace R_t := Lib.hid (R_t.out.below hb)
    replace R_q := Lib.hid (R_q.out.below hb)
    replace R_r := Lib.hid (R_r.out.below hb)
    replace R_t1 := Lib.hid (R_t1.out.below hb)
    replace R_t2 := Lib.hid (R_t2.out.below hb)
    have z25 := hb.size
    replace hW := hW.trans (hb.mono hW.size)
    clear hb
    clear R_t1
    clear R_t2
    clear R_u
    clear R_v
    have c := ci_HasNumber Lh a_h c_h nn w25 R_h.out.slw (by omega) nn0 nn1
    go_wp2_with fail
    refine c.mono ?_
    rintro e w26 ⟨rfl, hb⟩
    clear c
    replace R_list := Lib.hid (R_list.out.below hb)
    replace R_h := Lib.hid (R_h.out.below hb)
    replace R_t := Lib.hid (R_t.out.below hb)
    replace R_q := Lib.hid (R_q.out.below hb)
    replace R_r := Lib.hid (R_r.out.below hb)
    have z26 := hb.size
    replace hW := hW.trans (hb.mono hW.size)
    clear hb
    have c := cs_HasNumber Lh a_h c_h nn w26 R_h.out.slw (by omega) nn0 nn1
    go_wp2_with fail
    refine c.mono ?_
    rintro e w27 ⟨rfl, hb⟩
    clear c
    replace R_list := Lib.hid (R_list.out.below hb)
    replace R_h := Lib.hid (R_h.out.below hb)
    replace R_t := Lib.hid (R_t.out.below hb)
    replace R_q := Lib.hid (R_q.out.below hb)
    replace R_r := Lib.hid (R_r.out.below hb)
    have z27 := hb.size
    replace hW := hW.trans (hb.mono hW.size)
    clear hb
    clear R_h
    have c := ci_IsAscending Lt a_t c_t w27 R_t.out.slw (by omega)
    go_wp2_with fail
    refine c.mono ?_
    rintro e w28 ⟨rfl, hb⟩
    clear c
    replace R_list := Lib.hid (R_list.out.below hb)
    replace R_t := Lib.hid (R_t.out.below hb)
    replace R_q := Lib.hid (R_q.out.below hb)
    replace R_r := Lib.hid (R_r.out.below hb)
    have z28 := hb.size
    replace hW := hW.trans (hb.mono hW.size)
    clear hb
    have c := cs_IsAscending Lt a_t c_t w28 R_t.out.slw (by omega)
    go_wp2_with fail
    refine c.mono ?_
    rintro e w29 ⟨rfl, hb⟩
    clear c
    replace R_list := Lib.hid (R_list.out.below hb)
    replace R_t := Lib.hid (R_t.out.below hb)
    replace R_q := Lib.hid (R_q.out.below hb)
    replace R_r := Lib.hid (R_r.out.below hb)
    have z29 := hb.size
    replace hW := hW.trans (hb.mono hW.size)
    clear hb
    clear R_t
    have c := ci_GcdOfList Ll a_list c_list w29 R_list.out.slw (by omega)
    go_wp2_with fail
    refine c.mono ?_
    rintro e w30 ⟨rfl, hb⟩
    clear c
    replace R_list := Lib.hid (R_list.out.below hb)
    replace R_q := Lib.hid (R_q.out.below hb)
    replace R_r := Lib.hid (R_r.out.below hb)
    have z30 := hb.size
    replace hW := hW.trans (hb.mono hW.size)
    clear hb
    have c := cs_GcdOfList Ll a_list c_list w30 R_list.out.slw (by omega)
    go_wp2_with fail
    refine c.mono ?_
    rintro e w31 ⟨rfl, hb⟩
    clear c
    replace R_list := Lib.hid (R_list.out.below hb)
    replace R_q := Lib.hid (R_q.out.below hb)
    replace R_r := Lib.hid (R_r.out.below hb)
    have z31 := hb.size
    replace hW := hW.trans (hb.mono hW.size)
    clear hb
    clear R_list
    have c := cq ((readList p).getD []) ((readList p).getD []) a_q a_r c_q c_r w31 R_q.out.slv R_r.out.slv (by omega) (by omega)
    rw [decide_eq_true (rfl : ((readList p).getD []) = ((readList p).getD []))] at c
    go_wp2_with fail
    refine c.mono ?_
    rintro e w32 ⟨rfl, hb⟩
    clear c
    replace R_q := Lib.hid (R_q.out.below hb)
    replace R_r := Lib.hid (R_r.out.below hb)
    have z32 := hb.size
    replace hW := hW.trans (hb.mono hW.size)
    clear hb
    clear R_q
    clear R_r
    have c := DrawListText_any w32 p0 len0 cap0 z0 (HR.out.below hW) hl
    go_wp2_with fail
    refine c.mono ?_
    rintro e w33 ⟨Lz, v, hl_Lz, hB_Lz, rfl, ho, hb⟩
    clear c
    obtain ⟨a_l, c_l, rfl, rX⟩ := row_open ho
    clear ho
    have z33 := hb.size
    replace hW := hW.trans (hb.mono hW.size)
    have R_l := Lib.hid rX
    replace hB_Lz := Lib.hid hB_Lz
    clear rX hb
    have hI : ∀ x ∈ Lz, -9223372036854775808 ≤ x ∧ x ≤ 9223372036854775807 := fun x hx => (hB_Lz.out x hx).in64
    have hrd := readList_listText Lz (fun x hx => by have h := hB_Lz.out x hx; unfold Tiny at h; omega)
    have hlt := listText_size Lz hI
    have HI := Lib.hid hI
    have HD := Lib.hid hrd
    clear hI hrd
    have c := ci_ListText Lz a_l c_l w33 R_l.out.slw (by omega) HI.out (HV.out.fmt.below hW)
    go_wp2_with fail
    refine c.mono ?_
    rintro e w34 ⟨rfl, hb⟩
    clear c
    replace R_l := Lib.hid (R_l.out.below hb)
    have z34 := hb.size
    replace hW := hW.trans (hb.mono hW.size)
    clear hb
    have c := ci_ParseText Lz w34 HD.out (by omega) (HV.out.below hW)
    go_wp2_with fail
    refine c.mono ?_
    rintro e w35 ⟨v, rfl, ho, hb⟩
    clear c
    obtain ⟨a_z, c_z, rfl, rX⟩ := row_open ho
    clear ho
    replace R_l := Lib.hid (R_l.out.below hb)
    have z35 := hb.size
    replace hW := hW.trans (hb.mono hW.size)
    have R_z := Lib.hid rX
    clear rX hb
    have f1 := fun w hr hv => ci_ListText Lz a_l c_l w hr (by omega) HI.out hv
    have f2 := fun w hr => cs_ListText Lz a_l c_l w hr (by omega) HI.out
    clear HD hlt
    generalize listText Lz = T at *
    have hTT : (T.toList == T.toList) = true := by simp
    have c := f1 w35 R_l.out.slw (HV.out.fmt.below hW)
    go_wp2_with fail
    refine c.mono ?_
    rintro e w36 ⟨rfl, hb⟩
    clear c
    replace R_l := Lib.hid (R_l.out.below hb)
    replace R_z := Lib.hid (R_z.out.below hb)
    have z36 := hb.size
    replace hW := hW.trans (hb.mono hW.size)
    clear hb
    clear f1
    have c := f2 w36 R_l.out.slw
    go_wp2_with fail
    refine c.mono ?_
    rintro e w37 ⟨rfl, hb⟩
    clear c
    replace R_l := Lib.hid (R_l.out.below hb)
    replace R_z := Lib.hid (R_z.out.below hb)
    have z37 := hb.size
    replace hW := hW.trans (hb.mono hW.size)
    clear hb
    clear f2
    have c := cq (Lz) (Lz) a_z a_l c_z c_l w37 R_z.out.slv R_l.out.slv (by omega) (by omega)
    rw [decide_eq_true (rfl : (Lz) = (Lz))] at c
    go_wp2_with fail
    refine c.mono ?_
    rintro e w38 ⟨rfl, hb⟩
    clear c
    replace R_l := Lib.hid (R_l.out.below hb)
    replace R_z := Lib.hid (R_z.out.below hb)
    have z38 := hb.size
    replace hW := hW.trans (hb.mono hW.size)
    clear hb
    go_wp2_with fail
    go_ret
    exact ⟨rfl, hW⟩
  · clear hdv
    have hgn : (0 < g) = False := eq_false hg
    clear hg hg0
    have c := cs_SortList Ll a_list c_list w13 R_list.out.slw (by omega)
    iterate 12 (first | go_values | go_skip | go_guarded | go_step | go_upon | go_back | go_simp)
    dsimp only [List.append]
    go_wp2_with fail
    refine c.mono ?_
    rintro e w14 ⟨v, rfl, ho, hb⟩
    clear c
    obtain ⟨a_t1, c_t1, rfl, rX⟩ := row_open ho
    clear ho
    replace R_list := Lib.hid (R_list.out.below hb)
    replace R_x := Lib.hid (R_x.out.below hb)
    replace R_y := Lib.hid (R_y.out.below hb)
    replace R_u := Lib.hid (R_u.out.below hb)
    replace R_v := Lib.hid (R_v.out.below hb)
    replace R_h := Lib.hid (R_h.out.below hb)
    replace R_t := Lib.hid (R_t.out.below hb)
    replace R_s := Lib.hid (R_s.out.below hb)
    replace R_q := Lib.hid (R_q.out.below hb)
    replace R_r := Lib.hid (R_r.out.below hb)
    have z14 := hb.size
    replace hW := hW.trans (hb.mono hW.size)
    have R_t1 := Lib.hid rX
    clear rX hb
    have c := cq (sortL Ll) (sortL Ll) a_s a_t1 c_s c_t1 w14 R_s.out.slv R_t1.out.slv (by omega) (by omega)
    rw [decide_eq_true (rfl : (sortL Ll) = (sortL Ll))] at c
    go_wp2_with fail
    refine c.mono ?_
    rintro e w15 ⟨rfl, hb⟩
    clear c
    replace R_list := Lib.hid (R_list.out.below hb)
    replace R_x := Lib.hid (R_x.out.below hb)
    replace R_y := Lib.hid (R_y.out.below hb)
    replace R_u := Lib.hid (R_u.out.below hb)
    replace R_v := Lib.hid (R_v.out.below hb)
    replace R_h := Lib.hid (R_h.out.below hb)
    replace R_t := Lib.hid (R_t.out.below hb)
    replace R_s := Lib.hid (R_s.out.below hb)
    replace R_q := Lib.hid (R_q.out.below hb)
    replace R_r := Lib.hid (R_r.out.below hb)
    replace R_t1 := Lib.hid (R_t1.out.below hb)
    have z15 := hb.size
    replace hW := hW.trans (hb.mono hW.size)
    clear hb
    clear R_t1
    have c := cs_IsAscending (sortL Ll) a_s c_s w15 R_s.out.slw (by omega)
    rw [ascB_sortL] at c
    go_wp2_with fail
    refine c.mono ?_
    rintro e w16 ⟨rfl, hb⟩
    clear c
    replace R_list := Lib.hid (R_list.out.below hb)
    replace R_x := Lib.hid (R_x.out.below hb)
    replace R_y := Lib.hid (R_y.out.below hb)
    replace R_u := Lib.hid (R_u.out.below hb)
    replace R_v := Lib.hid (R_v.out.below hb)
    replace R_h := Lib.hid (R_h.out.below hb)
    replace R_t := Lib.hid (R_t.out.below hb)
    replace R_s := Lib.hid (R_s.out.below hb)
    replace R_q := Lib.hid (R_q.out.below hb)
    replace R_r := Lib.hid (R_r.out.below hb)
    have z16 := hb.size
    replace hW := hW.trans (hb.mono hW.size)
    clear hb
    clear R_s
    have lxy := sums_length_le Lx Ly
    have c := ci_SumsOf Lx a_x c_x Ly a_y c_y w16 R_x.out.slw R_y.out.slw (by omega) (by omega)
    go_wp2_with fail
    refine c.mono ?_
    rintro e w17 ⟨v, rfl, ho, hb⟩
    clear c
    obtain ⟨a_t1, c_t1, rfl, rX⟩ := row_open ho
    clear ho
    replace R_list := Lib.hid (R_list.out.below hb)
    replace R_x := Lib.hid (R_x.out.below hb)
    replace R_y := Lib.hid (R_y.out.below hb)
    replace R_u := Lib.hid (R_u.out.below hb)
    replace R_v := Lib.hid (R_v.out.below hb)
    replace R_h := Lib.hid (R_h.out.below hb)
    replace R_t := Lib.hid (R_t.out.below hb)
    replace R_q := Lib.hid (R_q.out.below hb)
    replace R_r := Lib.hid (R_r.out.below hb)
    have z17 := hb.size
    replace hW := hW.trans (hb.mono hW.size)
    have R_t1 := Lib.hid rX
    clear rX hb
    have c := cs_SumsOf Lx a_x c_x Ly a_y c_y w17 R_x.out.slw R_y.out.slw (by omega) (by omega)
    go_wp2_with fail
    refine c.mono ?_
    rintro e w18 ⟨v, rfl, ho, hb⟩
    clear c
    obtain ⟨a_t2, c_t2, rfl, rX⟩ := row_open ho
    clear ho
    replace R_list := Lib.hid (R_list.out.below hb)
    replace R_x := Lib.hid (R_x.out.below hb)
    replace R_y := Lib.hid (R_y.out.below hb)
    replace R_u := Lib.hid (R_u.out.below hb)
    replace R_v := Lib.hid (R_v.out.below hb)
    replace R_h := Lib.hid (R_h.out.below hb)
    replace R_t := Lib.hid (R_t.out.below hb)
    replace R_q := Lib.hid (R_q.out.below hb)
    replace R_r := Lib.hid (R_r.out.below hb)
    replace R_t1 := Lib.hid (R_t1.out.below hb)
    have z18 := hb.size
    replace hW := hW.trans (hb.mono hW.size)
    have R_t2 := Lib.hid rX
    clear rX hb
    have c := cq (sums Lx Ly) (sums Lx Ly) a_t1 a_t2 c_t1 c_t2 w18 R_t1.out.slv R_t2.out.slv (by omega) (by omega)
    rw [decide_eq_true (rfl : (sums Lx Ly) = (sums Lx Ly))] at c
    go_wp2_with fail
    refine c.mono ?_
    rintro e w19 ⟨rfl, hb⟩
    clear c
    replace R_list := Lib.hid (R_list.out.below hb)
    replace R_x := Lib.hid (R_x.out.below hb)
    replace R_y := Lib.hid (R_y.out.below hb)
    replace R_u := Lib.hid (R_u.out.below hb)
    replace R_v := Lib.hid (R_v.out.below hb)
    replace R_h := Lib.hid (R_h.out.below hb)
    replace R_t := Lib.hid (R_t.out.below hb)
    replace R_q := Lib.hid (R_q.out.below hb)
    replace R_r := Lib.hid (R_r.out.below hb)
    replace R_t1 := Lib.hid (R_t1.out.below hb)
    replace R_t2 := Lib.hid (R_t2.out.below hb)
    have z19 := hb.size
    replace hW := hW.trans (hb.mono hW.size)
    clear hb
    clear R_t1
    clear R_t2
    have c := ci_SumsOf Lx a_x c_x Ly a_y c_y w19 R_x.out.slw R_y.out.slw (by omega) (by omega)
    go_wp2_with fail
    refine c.mono ?_
    rintro e w20 ⟨v, rfl, ho, hb⟩
    clear c
    obtain ⟨a_t1, c_t1, rfl, rX⟩ := row_open ho
    clear ho
    replace R_list := Lib.hid (R_list.out.below hb)
    replace R_x := Lib.hid (R_x.out.below hb)
    replace R_y := Lib.hid (R_y.out.below hb)
    replace R_u := Lib.hid (R_u.out.below hb)
    replace R_v := Lib.hid (R_v.out.below hb)
    replace R_h := Lib.hid (R_h.out.below hb)
    replace R_t := Lib.hid (R_t.out.below hb)
    replace R_q := Lib.hid (R_q.out.below hb)
    replace R_r := Lib.hid (R_r.out.below hb)
    have z20 := hb.size
    replace hW := hW.trans (hb.mono hW.size)
    have R_t1 := Lib.hid rX
    clear rX hb
    have c := ci_SumsOf Ly a_y c_y Lx a_x c_x w20 R_y.out.slw R_x.out.slw (by omega) (by omega)
    rw [sums_comm Ly Lx] at c
    go_wp2_with fail
    refine c.mono ?_
    rintro e w21 ⟨v, rfl, ho, hb⟩
    clear c
    obtain ⟨a_t2, c_t2, rfl, rX⟩ := row_open ho
    clear ho
    replace R_list := Lib.hid (R_list.out.below hb)
    replace R_x := Lib.hid (R_x.out.below hb)
    replace R_y := Lib.hid (R_y.out.below hb)
    replace R_u := Lib.hid (R_u.out.below hb)
    replace R_v := Lib.hid (R_v.out.below hb)
    replace R_h := Lib.hid (R_h.out.below hb)
    replace R_t := Lib.hid (R_t.out.below hb)
    replace R_q := Lib.hid (R_q.out.below hb)
    replace R_r := Lib.hid (R_r.out.below hb)
    replace R_t1 := Lib.hid (R_t1.out.below hb)
    have z21 := hb.size
    replace hW := hW.trans (hb.mono hW.size)
    have R_t2 := Lib.hid rX
    clear rX hb
    have c := cq (sums Lx Ly) (sums Lx Ly) a_t1 a_t2 c_t1 c_t2 w21 R_t1.out.slv R_t2.out.slv (by omega) (by omega)
    rw [decide_eq_true (rfl : (sums Lx Ly) = (sums Lx Ly))] at c
    go_wp2_with fail
    refine c.mono ?_
    rintro e w22 ⟨rfl, hb⟩
    clear c
    replace R_list := Lib.hid (R_list.out.below hb)
    replace R_x := Lib.hid (R_x.out.below hb)
    replace R_y := Lib.hid (R_y.out.below hb)
    replace R_u := Lib.hid (R_u.out.below hb)
    replace R_v := Lib.hid (R_v.out.below hb)
    replace R_h := Lib.hid (R_h.out.below hb)
    replace R_t := Lib.hid (R_t.out.below hb)
    replace R_q := Lib.hid (R_q.out.below hb)
    replace R_r := Lib.hid (R_r.out.below hb)
    replace R_t1 := Lib.hid (R_t1.out.below hb)
    replace R_t2 := Lib.hid (R_t2.out.below hb)
    have z22 := hb.size
    replace hW := hW.trans (hb.mono hW.size)
    clear hb
    clear R_t1
    clear R_t2
    clear R_x
    clear R_y
    have luv := shared_length_le Lu Lv
    have c := ci_SharedOf Lu a_u c_u Lv a_v c_v w22 R_u.out.slw R_v.out.slw (by omega) (by omega)
    go_wp2_with fail
    refine c.mono ?_
    rintro e w23 ⟨v, rfl, ho, hb⟩
    clear c
    obtain ⟨a_t1, c_t1, rfl, rX⟩ := row_open ho
    clear ho
    replace R_list := Lib.hid (R_list.out.below hb)
    replace R_u := Lib.hid (R_u.out.below hb)
    replace R_v := Lib.hid (R_v.out.below hb)
    replace R_h := Lib.hid (R_h.out.below hb)
    replace R_t := Lib.hid (R_t.out.below hb)
    replace R_q := Lib.hid (R_q.out.below hb)
    replace R_r := Lib.hid (R_r.out.below hb)
    have z23 := hb.size
    replace hW := hW.trans (hb.mono hW.size)
    have R_t1 := Lib.hid rX
    clear rX hb
    have c := cs_SharedOf Lu a_u c_u Lv a_v c_v w23 R_u.out.slw R_v.out.slw (by omega) (by omega)
    go_wp2_with fail
    refine c.mono ?_
    rintro e w24 ⟨v, rfl, ho, hb⟩
    clear c
    obtain ⟨a_t2, c_t2, rfl, rX⟩ := row_open ho
    clear ho
    replace R_list := Lib.hid (R_list.out.below hb)
    replace R_u := Lib.hid (R_u.out.below hb)
    replace R_v := Lib.hid (R_v.out.below hb)
    replace R_h := Lib.hid (R_h.out.below hb)
    replace R_t := Lib.hid (R_t.out.below hb)
    replace R_q := Lib.hid (R_q.out.below hb)
    replace R_r := Lib.hid (R_r.out.below hb)
    replace R_t1 := Lib.hid (R_t1.out.below hb)
    have z24 := hb.size
    replace hW := hW.trans (hb.mono hW.size)
    have R_t2 := Lib.hid rX
    clear rX hb
    have c := cq (shared Lu Lv) (shared Lu Lv) a_t1 a_t2 c_t1 c_t2 w24 R_t1.out.slv R_t2.out.slv (by omega) (by omega)
    rw [decide_eq_true (rfl : (shared Lu Lv) = (shared Lu Lv))] at c
    go_wp2_with fail
    refine c.mono ?_
    rintro e w25 ⟨rfl, hb⟩
    clear c
    replace R_list := Lib.hid (R_list.out.below hb)
    replace R_u := Lib.hid (R_u.out.below hb)
    replace R_v := Lib.hid (R_v.out.below hb)
    replace R_h := Lib.hid (R_h.out.below hb)
    replace R_t := Lib.hid (R_t.out.below hb)
    replace R_q := Lib.hid (R_q.out.below hb)
    replace R_r := Lib.hid (R_r.out.below hb)
    replace R_t1 := Lib.hid (R_t1.out.below hb)
    replace R_t2 := Lib.hid (R_t2.out.below hb)
    have z25 := hb.size
    replace hW := hW.trans (hb.mono hW.size)
    clear hb
    clear R_t1
    clear R_t2
    clear R_u
    clear R_v
    have c := ci_HasNumber Lh a_h c_h nn w25 R_h.out.slw (by omega) nn0 nn1
    go_wp2_with fail
    refine c.mono ?_
    rintro e w26 ⟨rfl, hb⟩
    clear c
    replace R_list := Lib.hid (R_list.out.below hb)
    replace R_h := Lib.hid (R_h.out.below hb)
    replace R_t := Lib.hid (R_t.out.below hb)
    replace R_q := Lib.hid (R_q.out.below hb)
    replace R_r := Lib.hid (R_r.out.below hb)
    have z26 := hb.size
    replace hW := hW.trans (hb.mono hW.size)
    clear hb
    have c := cs_HasNumber Lh a_h c_h nn w26 R_h.out.slw (by omega) nn0 nn1
    go_wp2_with fail
    refine c.mono ?_
    rintro e w27 ⟨rfl, hb⟩
    clear c
    replace R_list := Lib.hid (R_list.out.below hb)
    replace R_h := Lib.hid (R_h.out.below hb)
    replace R_t := Lib.hid (R_t.out.below hb)
    replace R_q := Lib.hid (R_q.out.below hb)
    replace R_r := Lib.hid (R_r.out.below hb)
    have z27 := hb.size
    replace hW := hW.trans (hb.mono hW.size)
    clear hb
    clear R_h
    have c := ci_IsAscending Lt a_t c_t w27 R_t.out.slw (by omega)
    go_wp2_with fail
    refine c.mono ?_
    rintro e w28 ⟨rfl, hb⟩
    clear c
    replace R_list := Lib.hid (R_list.out.below hb)
    replace R_t := Lib.hid (R_t.out.below hb)
    replace R_q := Lib.hid (R_q.out.below hb)
    replace R_r := Lib.hid (R_r.out.below hb)
    have z28 := hb.size
    replace hW := hW.trans (hb.mono hW.size)
    clear hb
    have c := cs_IsAscending Lt a_t c_t w28 R_t.out.slw (by omega)
    go_wp2_with fail
    refine c.mono ?_
    rintro e w29 ⟨rfl, hb⟩
    clear c
    replace R_list := Lib.hid (R_list.out.below hb)
    replace R_t := Lib.hid (R_t.out.below hb)
    replace R_q := Lib.hid (R_q.out.below hb)
    replace R_r := Lib.hid (R_r.out.below hb)
    have z29 := hb.size
    replace hW := hW.trans (hb.mono hW.size)
    clear hb
    clear R_t
    have c := ci_GcdOfList Ll a_list c_list w29 R_list.out.slw (by omega)
    go_wp2_with fail
    refine c.mono ?_
    rintro e w30 ⟨rfl, hb⟩
    clear c
    replace R_list := Lib.hid (R_list.out.below hb)
    replace R_q := Lib.hid (R_q.out.below hb)
    replace R_r := Lib.hid (R_r.out.below hb)
    have z30 := hb.size
    replace hW := hW.trans (hb.mono hW.size)
    clear hb
    have c := cs_GcdOfList Ll a_list c_list w30 R_list.out.slw (by omega)
    go_wp2_with fail
    refine c.mono ?_
    rintro e w31 ⟨rfl, hb⟩
    clear c
    replace R_list := Lib.hid (R_list.out.below hb)
    replace R_q := Lib.hid (R_q.out.below hb)
    replace R_r := Lib.hid (R_r.out.below hb)
    have z31 := hb.size
    replace hW := hW.trans (hb.mono hW.size)
    clear hb
    clear R_list
    have c := cq ((readList p).getD []) ((readList p).getD []) a_q a_r c_q c_r w31 R_q.out.slv R_r.out.slv (by omega) (by omega)
    rw [decide_eq_true (rfl : ((readList p).getD []) = ((readList p).getD []))] at c
    go_wp2_with fail
    refine c.mono ?_
    rintro e w32 ⟨rfl, hb⟩
    clear c
    replace R_q := Lib.hid (R_q.out.below hb)
    replace R_r := Lib.hid (R_r.out.below hb)
    have z32 := hb.size
    replace hW := hW.trans (hb.mono hW.size)
    clear hb
    clear R_q
    clear R_r
    have c := DrawListText_any w32 p0 len0 cap0 z0 (HR.out.below hW) hl
    go_wp2_with fail
    refine c.mono ?_
    rintro e w33 ⟨Lz, v, hl_Lz, hB_Lz, rfl, ho, hb⟩
    clear c
    obtain ⟨a_l, c_l, rfl, rX⟩ := row_open ho
    clear ho
    have z33 := hb.size
    replace hW := hW.trans (hb.mono hW.size)
    have R_l := Lib.hid rX
    replace hB_Lz := Lib.hid hB_Lz
    clear rX hb
    have hI : ∀ x ∈ Lz, -9223372036854775808 ≤ x ∧ x ≤ 9223372036854775807 := fun x hx => (hB_Lz.out x hx).in64
    have hrd := readList_listText Lz (fun x hx => by have h := hB_Lz.out x hx; unfold Tiny at h; omega)
    have hlt := listText_size Lz hI
    have HI := Lib.hid hI
    have HD := Lib.hid hrd
    clear hI hrd
    have c := ci_ListText Lz a_l c_l w33 R_l.out.slw (by omega) HI.out (HV.out.fmt.below hW)
    go_wp2_with fail
    refine c.mono ?_
    rintro e w34 ⟨rfl, hb⟩
    clear c
    replace R_l := Lib.hid (R_l.out.below hb)
    have z34 := hb.size
    replace hW := hW.trans (hb.mono hW.size)
    clear hb
    have c := ci_ParseText Lz w34 HD.out (by omega) (HV.out.below hW)
    go_wp2_with fail
    refine c.mono ?_
    rintro e w35 ⟨v, rfl, ho, hb⟩
    clear c
    obtain ⟨a_z, c_z, rfl, rX⟩ := row_open ho
    clear ho
    replace R_l := Lib.hid (R_l.out.below hb)
    have z35 := hb.size
    replace hW := hW.trans (hb.mono hW.size)
    have R_z := Lib.hid rX
    clear rX hb
    have f1 := fun w hr hv => ci_ListText Lz a_l c_l w hr (by omega) HI.out hv
    have f2 := fun w hr => cs_ListText Lz a_l c_l w hr (by omega) HI.out
    clear HD hlt
    generalize listText Lz = T at *
    have hTT : (T.toList == T.toList) = true := by simp
    have c := f1 w35 R_l.out.slw (HV.out.fmt.below hW)
    go_wp2_with fail
    refine c.mono ?_
    rintro e w36 ⟨rfl, hb⟩
    clear c
    replace R_l := Lib.hid (R_l.out.below hb)
    replace R_z := Lib.hid (R_z.out.below hb)
    have z36 := hb.size
    replace hW := hW.trans (hb.mono hW.size)
    clear hb
    clear f1
    have c := f2 w36 R_l.out.slw
    go_wp2_with fail
    refine c.mono ?_
    rintro e w37 ⟨rfl, hb⟩
    clear c
    replace R_l := Lib.hid (R_l.out.below hb)
    replace R_z := Lib.hid (R_z.out.below hb)
    have z37 := hb.size
    replace hW := hW.trans (hb.mono hW.size)
    clear hb
    clear f2
    have c := cq (Lz) (Lz) a_z a_l c_z c_l w37 R_z.out.slv R_l.out.slv (by omega) (by omega)
    rw [decide_eq_true (rfl : (Lz) = (Lz))] at c
    go_wp2_with fail
    refine c.mono ?_
    rintro e w38 ⟨rfl, hb⟩
    clear c
    replace R_l := Lib.hid (R_l.out.below hb)
    replace R_z := Lib.hid (R_z.out.below hb)
    have z38 := hb.size
    replace hW := hW.trans (hb.mono hW.size)
    clear hb
    go_wp2_with fail
    go_ret
    exact ⟨rfl, hW⟩

set_option maxRecDepth 100000 in
set_option maxHeartbeats 400000 in
theorem FnLists.walk (p0 : Option Addr) (len0 cap0 : Nat) (z0 : List Int) (W : World) (r0 : IsRow .u8 W p0 len0 cap0 z0) (hL : laidMetH Tryz.prog Rows.fnListsRow.laid W) (hsh : W.ShapedOpen Tryz.prog) :
    Calls Tryz.prog 3 #[.slice p0 len0 cap0] W fun e w' => e = .returned (.bool true) ∧ Below W.heap.size W w' := by
  by_cases hl : len0 ≤ 1048576
  · exact fnLists_small p0 len0 cap0 z0 W r0 hl ⟨powIs (by kernel_rfl) hL, synIs (by kernel_rfl) hL, rngIs (by kernel_rfl) hL, maxLenIs_of hsh⟩
  · have cb := big_any p0 len0 cap0 W (row_maxLen r0)
    rw [decide_eq_true (show 1048576 < len0 by omega)] at cb
    clear hsh hL
    go_enter Tryz.func3, Tryz.ntmps3
    go_wp2_with fail
    refine cb.mono ?_
    rintro e w0 ⟨rfl, rfl⟩
    go_wp2_with fail
    go_ret
    exact ⟨rfl, Below.refl _ _⟩
end Go.Proofs.YtcbkkklfbmbknaaGreatDoor
