/-
  THE WALK OF THE LAW FnPure: what is done to the results changes no argument (written by fn_pure.py of the verifier's own).
-/
import Derived.Test.YtlinlmmcgifloaaRows
import Derived.Test.YtlinlmmcgifloaaDrw21
import Derived.Test.YtlinlmmcgifloaaC16
import Derived.Test.YtlinlmmcgifloaaC3
import Derived.Test.YtlinlmmcgifloaaCh4I
namespace Go.Proofs.Ytlinlmmcgifloaa
open Go Go.RowKit

theorem row_put {w w0 : World} {lo hi n c k : Nat} {a : Option Addr} {xs : List Value} (h : Row w lo hi (.slice a n c) n xs) (hk : k < n) (hg : w0.grownBy w (Value.ownBlock (.slice a n c))) (u : Value) :
    ∃ (g : Nat) (u0 : Value), a = some ⟨g, 0, none⟩ ∧ w.cell? ⟨g, k, none⟩ = some u0 ∧ w.frozen? ⟨g, k, none⟩ = false ∧ Row (w.setCell ⟨g, k, none⟩ u) lo hi (.slice a n c) n (xs.set k u) ∧ w0.grownBy (w.setCell ⟨g, k, none⟩ u) (Value.ownBlock (.slice a n c)) := by
  rcases h.own.2 with ⟨-, h0⟩ | ⟨g, cap, cur, e, hb, hgb, hn, hm, hs, ht⟩
  · omega
  · cases e
    have hA : Arr w g 3 cur.toList := by unfold Arr; rw [hgb, Array.toArray_toList]
    have hk2 : k < cur.toList.length := by rw [Array.length_toList]; omega
    have hA2 := hA.set k u
    have hgs := grownBy_setCell w g k u
    refine ⟨g, cur.toList[k], rfl, by rw [hA.cell k, List.getElem?_eq_getElem hk2], hA.frozen k, h.remade ⟨by rw [List.length_set]; exact h.own.1, .inr ⟨g, c, (cur.toList.set k u).toArray, rfl, hb, hA2, hn, hm, by simp [hs], ?_⟩⟩ hgs, grown_trans (N := g) hg hgs⟩
    rw [List.toList_toArray, List.take_set, ht]

set_option maxRecDepth 100000 in
set_option maxHeartbeats 12800000 in
theorem fnPure_small (p0 : Option Addr) (len0 cap0 : Nat) (z0 : List Int) (W : World) (r0 : IsRow .u8 W p0 len0 cap0 z0) (hl : len0 ≤ 1048576) :
    Calls Try.prog 7 #[.slice p0 len0 cap0] W fun e w' => e = .returned (.bool true) ∧ Below W.heap.size W w' := by
  have HR := Lib.hid r0
  clear r0
  have hW : Below W.heap.size W W := Below.refl _ _
  go_enter Try.func7, Try.ntmps7
  have c := big_b p0 len0 cap0 W (by unfold maxLen; omega)
  rw [decide_eq_false (show ¬ 1048576 < len0 by omega)] at c
  go_wp2_with fail
  refine c.mono ?_
  rintro e w1 ⟨rfl, hb⟩
  clear c
  have z1 := hb.size
  replace hW := hW.trans (hb.mono hW.size)
  clear hb
  have c := DrawInIdeal_any w1 p0 len0 cap0 z0 (HR.out.below hW) hl
  go_wp2_with fail
  refine c.mono ?_
  rintro e w2 ⟨Ls, a_s, c_s, Ll, a_l, c_l, n0, hl_s, hB_s, hl_l, hB_l, hn64, rfl, hs, hs2, hb⟩
  clear c
  have z2 := hb.size
  replace hW := hW.trans (hb.mono hW.size)
  have S_s := Lib.hid hs
  have S_l := Lib.hid hs2
  have HIs := Lib.hid hB_s
  have HIl := Lib.hid hB_l
  clear hs hs2 hb hB_s hB_l hn64 HR hl
  obtain ⟨w3, hwb⟩ : ∃ wb, wb = w2.alloc (.cells #[.slice a_s Ls.length c_s] 26) := ⟨_, rfl⟩
  have hb : Below w2.heap.size w2 w3 := by rw [hwb]; exact box_below _ _
  have hA : Arr w3 w2.heap.size 26 [.slice a_s Ls.length c_s] := by rw [hwb]; exact Arr.new _ _ _
  replace S_s := Lib.hid (S_s.out.below hb)
  replace S_l := Lib.hid (S_l.out.below hb)
  have z3 := hb.size
  replace hW := hW.trans (hb.mono hW.size)
  have y3 : w2.heap.size < w3.heap.size := hA.lt
  have B_bs := Lib.hid hA
  have H_w3 := Lib.hid hwb
  clear hwb hb hA
  have hsz1 := listText_size Ls HIs.out
  have hsz2 := listText_size Ll HIl.out
  obtain ⟨ts, hq⟩ : ∃ t, t = listText Ls := ⟨_, rfl⟩
  have HTs : Hid (listText Ls = ts) := Lib.hid hq.symm
  clear hq
  obtain ⟨tl, hq⟩ : ∃ t, t = listText Ll := ⟨_, rfl⟩
  have HTl : Hid (listText Ll = tl) := Lib.hid hq.symm
  clear hq
  rw [HTs.out] at hsz1
  rw [HTl.out] at hsz2
  have hsA1 : (9223372036854775807 < ts.size + 1) = False := by rw [eq_iff_iff, iff_false]; omega
  have hsA2 : (9223372036854775807 < ts.size + 1 + tl.size) = False := by rw [eq_iff_iff, iff_false]; omega
  have S0_s := S_s
  have S0_l := S_l
  have B0 := B_bs
  have hl0 : w2.heap.size < w3.heap.size := B0.out.lt
  have hWs : Below W.heap.size W w3 := hW
  have hK : Below w3.heap.size w3 w3 := Below.refl _ _
  have c := cs_ListText Ls a_s c_s w3 S_s.out (by omega) HIs.out
  rw [HTs.out] at c
  have hk_bs : w3.cell? ⟨w2.heap.size, 0, none⟩ = some (.slice a_s Ls.length c_s) := B_bs.out.cell 0
  rw [H_w3.out] at hk_bs
  go_wp2_with fail
  rw [← H_w3.out]
  refine c.mono ?_
  rintro e w4 ⟨rfl, hb⟩
  clear c
  clear hk_bs
  replace S_s := Lib.hid (S_s.out.below hb)
  replace S_l := Lib.hid (S_l.out.below hb)
  replace B_bs := Lib.hid (B_bs.out.below hb)
  have z4 := hb.size
  replace hW := hW.trans (hb.mono hW.size)
  replace hK := hK.trans (hb.mono hK.size)
  clear hb
  have c := cs_ListText Ll a_l c_l w4 S_l.out (by omega) HIl.out
  rw [HTl.out] at c
  have hk_bs : w4.cell? ⟨w2.heap.size, 0, none⟩ = some (.slice a_s Ls.length c_s) := B_bs.out.cell 0
  go_wp2_with fail
  refine c.mono ?_
  rintro e w5 ⟨rfl, hb⟩
  clear c
  clear hk_bs
  replace S_s := Lib.hid (S_s.out.below hb)
  replace S_l := Lib.hid (S_l.out.below hb)
  replace B_bs := Lib.hid (B_bs.out.below hb)
  have z5 := hb.size
  replace hW := hW.trans (hb.mono hW.size)
  replace hK := hK.trans (hb.mono hK.size)
  clear hb
  have hnx := sortL_length_le Ll
  have hny := gapsL_length_le Ls
  have hnz := idGensL_len Ls Ll
  have hnt := fromL_length_le Ls
  have c := ci_SortList Ll a_l c_l w5 S_l.out (by omega)
  have hk_bs : w5.cell? ⟨w2.heap.size, 0, none⟩ = some (.slice a_s Ls.length c_s) := B_bs.out.cell 0
  go_wp2_with fail
  refine c.mono ?_
  rintro e w6 ⟨v, rfl, ho, hb⟩
  clear c
  clear hk_bs
  obtain ⟨a_x, c_x, rfl, rX⟩ := row_open ho
  clear ho
  replace S_s := Lib.hid (S_s.out.below hb)
  replace S_l := Lib.hid (S_l.out.below hb)
  replace B_bs := Lib.hid (B_bs.out.below hb)
  have z6 := hb.size
  replace hW := hW.trans (hb.mono hW.size)
  replace hK := hK.trans (hb.mono hK.size)
  have R_x := Lib.hid rX
  clear rX hb
  have c := impl_Gaps Ls a_s c_s w6 S_s.out.sl (by omega)
  have hk_bs : w6.cell? ⟨w2.heap.size, 0, none⟩ = some (.slice a_s Ls.length c_s) := B_bs.out.cell 0
  go_wp2_with fail
  refine c.mono ?_
  rintro e w7 ⟨v, rfl, ho, hb⟩
  clear c
  clear hk_bs
  obtain ⟨a_y, c_y, rfl, rX⟩ := row_open ho
  clear ho
  replace S_s := Lib.hid (S_s.out.below hb)
  replace S_l := Lib.hid (S_l.out.below hb)
  replace B_bs := Lib.hid (B_bs.out.below hb)
  replace R_x := Lib.hid (R_x.out.below hb)
  have z7 := hb.size
  replace hW := hW.trans (hb.mono hW.size)
  replace hK := hK.trans (hb.mono hK.size)
  have R_y := Lib.hid rX
  clear rX hb
  have c := ci_IdealGens Ls a_s c_s Ll a_l c_l w7 S_s.out S_l.out (by omega) (by omega)
  have hk_bs : w7.cell? ⟨w2.heap.size, 0, none⟩ = some (.slice a_s Ls.length c_s) := B_bs.out.cell 0
  go_wp2_with fail
  refine c.mono ?_
  rintro e w8 ⟨v, rfl, ho, hb⟩
  clear c
  clear hk_bs
  obtain ⟨a_z, c_z, rfl, rX⟩ := row_open ho
  clear ho
  replace S_s := Lib.hid (S_s.out.below hb)
  replace S_l := Lib.hid (S_l.out.below hb)
  replace B_bs := Lib.hid (B_bs.out.below hb)
  replace R_x := Lib.hid (R_x.out.below hb)
  replace R_y := Lib.hid (R_y.out.below hb)
  have z8 := hb.size
  replace hW := hW.trans (hb.mono hW.size)
  replace hK := hK.trans (hb.mono hK.size)
  have R_z := Lib.hid rX
  clear rX hb
  have c := ci_FromGens Ls a_s c_s w8 S_s.out (by omega)
  have hk_bs : w8.cell? ⟨w2.heap.size, 0, none⟩ = some (.slice a_s Ls.length c_s) := B_bs.out.cell 0
  go_wp2_with fail
  refine c.mono ?_
  rintro e w9 ⟨v, rfl, ho, hb⟩
  clear c
  clear hk_bs
  obtain ⟨a_t, c_t, rfl, rX⟩ := row_open ho
  clear ho
  replace S_s := Lib.hid (S_s.out.below hb)
  replace S_l := Lib.hid (S_l.out.below hb)
  replace B_bs := Lib.hid (B_bs.out.below hb)
  replace R_x := Lib.hid (R_x.out.below hb)
  replace R_y := Lib.hid (R_y.out.below hb)
  replace R_z := Lib.hid (R_z.out.below hb)
  have z9 := hb.size
  replace hW := hW.trans (hb.mono hW.size)
  replace hK := hK.trans (hb.mono hK.size)
  have R_t := Lib.hid rX
  clear rX hb
  obtain ⟨w10, hwb⟩ : ∃ wb, wb = w9.alloc (.cells #[.slice a_t (fromL Ls).length c_t] 26) := ⟨_, rfl⟩
  have hb : Below w9.heap.size w9 w10 := by rw [hwb]; exact box_below _ _
  have hA : Arr w10 w9.heap.size 26 [.slice a_t (fromL Ls).length c_t] := by rw [hwb]; exact Arr.new _ _ _
  replace S_s := Lib.hid (S_s.out.below hb)
  replace S_l := Lib.hid (S_l.out.below hb)
  replace B_bs := Lib.hid (B_bs.out.below hb)
  replace R_x := Lib.hid (R_x.out.below hb)
  replace R_y := Lib.hid (R_y.out.below hb)
  replace R_z := Lib.hid (R_z.out.below hb)
  replace R_t := Lib.hid (R_t.out.below hb)
  have z10 := hb.size
  replace hW := hW.trans (hb.mono hW.size)
  replace hK := hK.trans (hb.mono hK.size)
  have y10 : w9.heap.size < w10.heap.size := hA.lt
  have B_bt := Lib.hid hA
  have H_w10 := Lib.hid hwb
  clear hwb hb hA
  have hk_bs : w10.cell? ⟨w2.heap.size, 0, none⟩ = some (.slice a_s Ls.length c_s) := B_bs.out.cell 0
  have hk_bt : w10.cell? ⟨w9.heap.size, 0, none⟩ = some (.slice a_t (fromL Ls).length c_t) := B_bt.out.cell 0
  rw [H_w10.out] at hk_bs hk_bt
  go_wp2_with fail
  rw [← H_w10.out]
  clear hk_bs hk_bt
  clear S_s S_l B_bs
  go_loopw [12] (fun q wr => ∃ (i : Nat) (xs : List Value), i ≤ (sortL Ll).length ∧ q = .int .i64 (i : Int) ∧ Row wr w5.heap.size w6.heap.size (.slice a_x (sortL Ll).length c_x) (sortL Ll).length xs ∧ w10.grownBy wr (Value.ownBlock (.slice a_x (sortL Ll).length c_x))) (fun q _ => (sortL Ll).length - (intOf q).toNat)
  case atStart => exact ⟨0, _, Nat.zero_le _, rfl, R_x.out, grown_refl _ _⟩
  case round =>
    rename World => vx
    obtain ⟨i, xs, hi, rfl, hR, hg⟩ := hrel
    by_cases hlt : i < (sortL Ll).length
    · obtain ⟨g, u0, e, hcell, hfz, hR2, hg2⟩ := row_put hR hlt hg (.int .i64 99)
      have hli : (i : Int) < ((sortL Ll).length : Int) := by omega
      have hld := decide_eq_true hli
      have hi0 : (0 : Int) ≤ (i : Int) := by omega
      have HR2 := Lib.hid hR2
      have HG := Lib.hid hg2
      clear hR hR2 hg hg2
      subst e
      go_wp2_with fail
      go_roundw
      case rel => exact ⟨i + 1, _, by omega, by go_num, HR2.out, HG.out⟩
      case measure => simp [intOf]; omega
    · have hli : ¬ (i : Int) < ((sortL Ll).length : Int) := by omega
      have hld := decide_eq_false hli
      replace hK := hK.grown hg hK.size (fun k hk => by have h1 := (hR.own.lt k hk).1; omega)
      replace R_y := Lib.hid (R_y.out.grown hg (fun j hj => by have h1 := hR.blk j hj; omega))
      replace R_z := Lib.hid (R_z.out.grown hg (fun j hj => by have h1 := hR.blk j hj; omega))
      replace R_t := Lib.hid (R_t.out.grown hg (fun j hj => by have h1 := hR.blk j hj; omega))
      replace B_bt := Lib.hid (B_bt.out.grown hg (fun e => by have h1 := hR.blk _ e.symm; omega))
      clear hR hg R_x
      go_wp2_with fail
      go_loopw [13] (fun q wr => ∃ (i : Nat) (xs : List Value), i ≤ (gapsL Ls).length ∧ q = .int .i64 (i : Int) ∧ Row wr w6.heap.size w7.heap.size (.slice a_y (gapsL Ls).length c_y) (gapsL Ls).length xs ∧ vx.grownBy wr (Value.ownBlock (.slice a_y (gapsL Ls).length c_y))) (fun q _ => (gapsL Ls).length - (intOf q).toNat)
      case atStart => exact ⟨0, _, Nat.zero_le _, rfl, R_y.out, grown_refl _ _⟩
      case round =>
        rename World => vy
        obtain ⟨i, xs, hi, rfl, hR, hg⟩ := hrel
        by_cases hlt : i < (gapsL Ls).length
        · obtain ⟨g, u0, e, hcell, hfz, hR2, hg2⟩ := row_put hR hlt hg (.int .i64 99)
          have hli : (i : Int) < ((gapsL Ls).length : Int) := by omega
          have hld := decide_eq_true hli
          have hi0 : (0 : Int) ≤ (i : Int) := by omega
          have HR2 := Lib.hid hR2
          have HG := Lib.hid hg2
          clear hR hR2 hg hg2
          subst e
          go_wp2_with fail
          go_roundw
          case rel => exact ⟨i + 1, _, by omega, by go_num, HR2.out, HG.out⟩
          case measure => simp [intOf]; omega
        · have hli : ¬ (i : Int) < ((gapsL Ls).length : Int) := by omega
          have hld := decide_eq_false hli
          replace hK := hK.grown hg hK.size (fun k hk => by have h1 := (hR.own.lt k hk).1; omega)
          replace R_z := Lib.hid (R_z.out.grown hg (fun j hj => by have h1 := hR.blk j hj; omega))
          replace R_t := Lib.hid (R_t.out.grown hg (fun j hj => by have h1 := hR.blk j hj; omega))
          replace B_bt := Lib.hid (B_bt.out.grown hg (fun e => by have h1 := hR.blk _ e.symm; omega))
          clear hR hg R_y
          go_wp2_with fail
          go_loopw [14] (fun q wr => ∃ (i : Nat) (xs : List Value), i ≤ (idGensL Ls Ll).length ∧ q = .int .i64 (i : Int) ∧ Row wr w7.heap.size w8.heap.size (.slice a_z (idGensL Ls Ll).length c_z) (idGensL Ls Ll).length xs ∧ vy.grownBy wr (Value.ownBlock (.slice a_z (idGensL Ls Ll).length c_z))) (fun q _ => (idGensL Ls Ll).length - (intOf q).toNat)
          case atStart => exact ⟨0, _, Nat.zero_le _, rfl, R_z.out, grown_refl _ _⟩
          case round =>
            rename World => vz
            obtain ⟨i, xs, hi, rfl, hR, hg⟩ := hrel
            by_cases hlt : i < (idGensL Ls Ll).length
            · obtain ⟨g, u0, e, hcell, hfz, hR2, hg2⟩ := row_put hR hlt hg (.int .i64 99)
              have hli : (i : Int) < ((idGensL Ls Ll).length : Int) := by omega
              have hld := decide_eq_true hli
              have hi0 : (0 : Int) ≤ (i : Int) := by omega
              have HR2 := Lib.hid hR2
              have HG := Lib.hid hg2
              clear hR hR2 hg hg2
              subst e
              go_wp2_with fail
              go_roundw
              case rel => exact ⟨i + 1, _, by omega, by go_num, HR2.out, HG.out⟩
              case measure => simp [intOf]; omega
            · have hli : ¬ (i : Int) < ((idGensL Ls Ll).length : Int) := by omega
              have hld := decide_eq_false hli
              replace hK := hK.grown hg hK.size (fun k hk => by have h1 := (hR.own.lt k hk).1; omega)
              replace R_t := Lib.hid (R_t.out.grown hg (fun j hj => by have h1 := hR.blk j hj; omega))
              replace B_bt := Lib.hid (B_bt.out.grown hg (fun e => by have h1 := hR.blk _ e.symm; omega))
              clear hR hg R_z
              go_wp2_with fail
              go_loopw [15] (fun q wr => ∃ (i : Nat) (xs : List Value), i ≤ (fromL Ls).length ∧ q = .int .i64 (i : Int) ∧ Row wr w8.heap.size w9.heap.size (.slice a_t (fromL Ls).length c_t) (fromL Ls).length xs ∧ vz.grownBy wr (Value.ownBlock (.slice a_t (fromL Ls).length c_t))) (fun q _ => (fromL Ls).length - (intOf q).toNat)
              case atStart => exact ⟨0, _, Nat.zero_le _, rfl, R_t.out, grown_refl _ _⟩
              case round =>
                rename World => vt
                obtain ⟨i, xs, hi, rfl, hR, hg⟩ := hrel
                have hkt := (B_bt.out.grown hg (fun e => by have h1 := hR.blk _ e.symm; omega)).cell 0
                by_cases hlt : i < (fromL Ls).length
                · obtain ⟨g, u0, e, hcell, hfz, hR2, hg2⟩ := row_put hR hlt hg (.int .i64 99)
                  have hli : (i : Int) < ((fromL Ls).length : Int) := by omega
                  have hld := decide_eq_true hli
                  have hi0 : (0 : Int) ≤ (i : Int) := by omega
                  have HR2 := Lib.hid hR2
                  have HG := Lib.hid hg2
                  clear hR hR2 hg hg2
                  subst e
                  go_wp2_with fail
                  go_roundw
                  case rel => exact ⟨i + 1, _, by omega, by go_num, HR2.out, HG.out⟩
                  case measure => simp [intOf]; omega
                · have hli : ¬ (i : Int) < ((fromL Ls).length : Int) := by omega
                  have hld := decide_eq_false hli
                  replace hK := hK.grown hg hK.size (fun k hk => by have h1 := (hR.own.lt k hk).1; omega)
                  clear hR hg R_t
                  clear B_bt
                  have S_s := Lib.hid (S0_s.out.below hK)
                  have S_l := Lib.hid (S0_l.out.below hK)
                  have hKz := hK.size
                  have HKK := Lib.hid hK
                  have HK : Hid (∀ w', Below vt.heap.size vt w' → w'.cell? ⟨w2.heap.size, 0, none⟩ = some (.slice a_s Ls.length c_s) ∧ Below vt.heap.size vt w') := Lib.hid fun w' h => ⟨((HKK.out.trans (h.mono hKz)).cell (p := ⟨w2.heap.size, 0, none⟩) hl0).trans (B0.out.cell 0), h⟩
                  have hS0 := HK.out _ (Below.refl vt.heap.size vt).drew
                  clear hK
                  go_wp2_with fail
                  refine wp_region_held_drew (S := fun w' => w'.cell? ⟨w2.heap.size, 0, none⟩ = some (.slice a_s Ls.length c_s) ∧ Below vt.heap.size vt w') (by kernel_rfl) hS0 (fun hHeld => ?_)
                  refine held_take 0 _ _ rfl (by kernel_rfl) (by kernel_rfl) (by kernel_rfl) (fun _ _ _ h => h) (by rfl) hHeld (fun w hSw => by (try dsimp only at hSw); go_simp; try with_reducible rfl) ?_
                  (try simp only [Act.put, List.setIfInBounds_toArray, List.set_cons_zero, List.set_cons_succ, List.getElem_toArray, List.getElem_cons_zero])
                  refine held_take 1 _ _ rfl (by kernel_rfl) (by kernel_rfl) (by kernel_rfl) (fun _ _ _ h => h) (by rfl) hHeld (fun w hSw => by (try dsimp only at hSw); go_simp; try with_reducible rfl) ?_
                  (try simp only [Act.put, List.setIfInBounds_toArray, List.set_cons_zero, List.set_cons_succ, List.getElem_toArray, List.getElem_cons_succ, List.getElem_cons_zero])
                  refine held_take 4 _ _ rfl (by kernel_rfl) (by kernel_rfl) (by kernel_rfl) (fun _ _ _ h => h) (by rfl) hHeld (fun w hSw => by (try dsimp only at hSw); go_simp; try with_reducible rfl) ?_
                  (try simp only [Act.put, List.setIfInBounds_toArray, List.set_cons_zero, List.set_cons_succ, List.getElem_toArray, List.getElem_cons_succ, List.getElem_cons_zero])
                  refine held_take 7 _ _ rfl (by kernel_rfl) (by kernel_rfl) (by kernel_rfl) (fun _ _ _ h => h) (by rfl) hHeld (fun w hSw => by (try dsimp only at hSw); go_simp; try with_reducible rfl) ?_
                  (try simp only [Act.put, List.setIfInBounds_toArray, List.set_cons_zero, List.set_cons_succ, List.getElem_toArray, List.getElem_cons_succ, List.getElem_cons_zero])
                  refine wpAnyH_ready (rs := [2]) (by kernel_rfl) (by simp) ?_
                  refine AllReadyH.cons rfl (fun K hK => ?_) AllReadyH.nil
                  rw [if_pos (by rfl)]
                  go_wp2_with (first | (go_at_call 63; have c := cs_ListText Ls a_s c_s _ (S_s.out.below (hHeld).2) (by omega) HIs.out; rw [HTs.out] at c; (with_reducible refine c.mono ?_); rintro e wk ⟨rfl, hbk⟩; clear c))
                  refine hK.out _ _ (HK.out _ ((hHeld).2.trans (hbk.mono (hHeld).2.size))) (fun hHeld1 => ?_)
                  clear hK K
                  (try simp only [Act.put, List.setIfInBounds_toArray, List.set_cons_zero, List.set_cons_succ, List.getElem_toArray, List.getElem_cons_succ, List.getElem_cons_zero])
                  refine held_take 3 _ _ rfl (by kernel_rfl) (by kernel_rfl) (by kernel_rfl) (fun _ _ _ h => h) (by rfl) hHeld1 (fun w hSw => by (try dsimp only at hSw); go_simp; try with_reducible rfl) ?_
                  (try simp only [Act.put, List.setIfInBounds_toArray, List.set_cons_zero, List.set_cons_succ, List.getElem_toArray, List.getElem_cons_succ, List.getElem_cons_zero])
                  refine wpAnyH_ready (rs := [5]) (by kernel_rfl) (by simp) ?_
                  refine AllReadyH.cons rfl (fun K hK => ?_) AllReadyH.nil
                  rw [if_pos (by rfl)]
                  go_wp2_with (first | (go_at_call 63; have c := cs_ListText Ll a_l c_l _ (S_l.out.below (hHeld1).2) (by omega) HIl.out; rw [HTl.out] at c; (with_reducible refine c.mono ?_); rintro e wk ⟨rfl, hbk⟩; clear c))
                  refine hK.out _ _ (HK.out _ ((hHeld1).2.trans (hbk.mono (hHeld1).2.size))) (fun hHeld2 => ?_)
                  clear hK K
                  (try simp only [Act.put, List.setIfInBounds_toArray, List.set_cons_zero, List.set_cons_succ, List.getElem_toArray, List.getElem_cons_succ, List.getElem_cons_zero])
                  refine held_take 6 _ _ rfl (by kernel_rfl) (by kernel_rfl) (by kernel_rfl) (fun _ _ _ h => h) (by rfl) hHeld2 (fun w hSw => by (try dsimp only at hSw); go_simp; try with_reducible rfl) ?_
                  (try simp only [Act.put, List.setIfInBounds_toArray, List.set_cons_zero, List.set_cons_succ, List.getElem_toArray, List.getElem_cons_succ, List.getElem_cons_zero])
                  refine held_take 8 _ _ rfl (by kernel_rfl) (by kernel_rfl) (by kernel_rfl) (fun _ _ _ h => h) (by rfl) hHeld2 (fun w hSw => by (try dsimp only at hSw); go_simp; try with_reducible rfl) ?_
                  (try simp only [Act.put, List.setIfInBounds_toArray, List.set_cons_zero, List.set_cons_succ, List.getElem_toArray, List.getElem_cons_succ, List.getElem_cons_zero])
                  refine held_take 9 _ _ rfl (by kernel_rfl) (by kernel_rfl) (by kernel_rfl) (fun _ _ _ h => h) (by rfl) hHeld2 (fun w hSw => by (try dsimp only at hSw); go_simp; try with_reducible rfl) ?_
                  (try simp only [Act.put, List.setIfInBounds_toArray, List.set_cons_zero, List.set_cons_succ, List.getElem_toArray, List.getElem_cons_succ, List.getElem_cons_zero])
                  refine held_take 10 _ _ rfl (by kernel_rfl) (by kernel_rfl) (by kernel_rfl) (fun _ _ _ h => h) (by rfl) hHeld2 (fun w hSw => by (try dsimp only at hSw); go_simp; try with_reducible rfl) ?_
                  (try simp only [Act.put, List.setIfInBounds_toArray, List.set_cons_zero, List.set_cons_succ, List.getElem_toArray, List.getElem_cons_succ, List.getElem_cons_zero])
                  refine held_take 12 _ _ rfl (by kernel_rfl) (by kernel_rfl) (by kernel_rfl) (fun _ _ _ h => h) (by rfl) hHeld2 (fun w hSw => by (try dsimp only at hSw); go_simp; try with_reducible rfl) ?_
                  (try simp only [Act.put, List.setIfInBounds_toArray, List.set_cons_zero, List.set_cons_succ, List.getElem_toArray, List.getElem_cons_succ, List.getElem_cons_zero])
                  refine wpAnyH_ready (rs := [11]) (by kernel_rfl) (by simp) ?_
                  refine AllReadyH.cons rfl (fun K hK => ?_) AllReadyH.nil
                  rw [if_pos (by rfl)]
                  go_wp2_with (first | (go_at_call 64; have c := ci_SortList Ll a_l c_l _ (S_l.out.below (hHeld2).2) (by omega); (with_reducible refine c.mono ?_); rintro e wk ⟨v, rfl, ho, hbk⟩; obtain ⟨a_q1, c_q1, rfl, rX⟩ := row_open ho; have Q_q1 := rX.slv; clear ho rX c))
                  refine hK.out _ _ (HK.out _ ((hHeld2).2.trans (hbk.mono (hHeld2).2.size))) (fun hHeld3 => ?_)
                  clear hK K
                  (try simp only [Act.put, List.setIfInBounds_toArray, List.set_cons_zero, List.set_cons_succ, List.getElem_toArray, List.getElem_cons_succ, List.getElem_cons_zero])
                  refine wpAnyH_ready (rs := [13]) (by kernel_rfl) (by simp) ?_
                  refine AllReadyH.cons rfl (fun K hK => ?_) AllReadyH.nil
                  rw [if_pos (by rfl)]
                  go_wp2_with (first | (go_at_call 68; have c := cs_SortList Ll a_l c_l _ (S_l.out.below (hHeld3).2) (by omega); (with_reducible refine c.mono ?_); rintro e wk ⟨v, rfl, ho, hbk⟩; obtain ⟨a_q2, c_q2, rfl, rX⟩ := row_open ho; have Q_q2 := rX.slv; have Q_q1' := Q_q1.below hbk; clear ho rX c))
                  refine hK.out _ _ (HK.out _ ((hHeld3).2.trans (hbk.mono (hHeld3).2.size))) (fun hHeld4 => ?_)
                  clear hK K
                  (try simp only [Act.put, List.setIfInBounds_toArray, List.set_cons_zero, List.set_cons_succ, List.getElem_toArray, List.getElem_cons_succ, List.getElem_cons_zero])
                  refine wpAnyH_ready (rs := [14]) (by kernel_rfl) (by simp) ?_
                  refine AllReadyH.cons rfl (fun K hK => ?_) AllReadyH.nil
                  rw [if_pos (by rfl)]
                  go_wp2_with (first | (go_at_call 17; have c := sameInts_any (sortL Ll) (sortL Ll) a_q1 a_q2 c_q1 c_q2 _ Q_q1' Q_q2 (by omega) (by omega); rw [decide_eq_true (rfl : sortL Ll = sortL Ll)] at c; (with_reducible refine c.mono ?_); rintro e wk ⟨rfl, hbk⟩; clear c))
                  refine hK.out _ _ (HK.out _ ((hHeld4).2.trans (hbk.mono (hHeld4).2.size))) (fun hHeld5 => ?_)
                  clear hK K
                  (try simp only [Act.put, List.setIfInBounds_toArray, List.set_cons_zero, List.set_cons_succ, List.getElem_toArray, List.getElem_cons_succ, List.getElem_cons_zero])
                  refine held_take 15 _ _ rfl (by kernel_rfl) (by kernel_rfl) (by kernel_rfl) (fun _ _ _ h => h) (by rfl) hHeld5 (fun w hSw => by (try dsimp only at hSw); go_simp; try with_reducible rfl) ?_
                  (try simp only [Act.put, List.setIfInBounds_toArray, List.set_cons_zero, List.set_cons_succ, List.getElem_toArray, List.getElem_cons_succ, List.getElem_cons_zero])
                  refine held_take 16 _ _ rfl (by kernel_rfl) (by kernel_rfl) (by kernel_rfl) (fun _ _ _ h => h) (by rfl) hHeld5 (fun w hSw => by (try dsimp only at hSw); go_simp; try with_reducible rfl) ?_
                  (try simp only [Act.put, List.setIfInBounds_toArray, List.set_cons_zero, List.set_cons_succ, List.getElem_toArray, List.getElem_cons_succ, List.getElem_cons_zero])
                  refine held_take 17 _ _ rfl (by kernel_rfl) (by kernel_rfl) (by kernel_rfl) (fun _ _ _ h => h) (by rfl) hHeld5 (fun w hSw => by (try dsimp only at hSw); go_simp; try with_reducible rfl) ?_
                  (try simp only [Act.put, List.setIfInBounds_toArray, List.set_cons_zero, List.set_cons_succ, List.getElem_toArray, List.getElem_cons_succ, List.getElem_cons_zero])
                  refine held_take 19 _ _ rfl (by kernel_rfl) (by kernel_rfl) (by kernel_rfl) (fun _ _ _ h => h) (by rfl) hHeld5 (fun w hSw => by (try dsimp only at hSw); go_simp; try with_reducible rfl) ?_
                  (try simp only [Act.put, List.setIfInBounds_toArray, List.set_cons_zero, List.set_cons_succ, List.getElem_toArray, List.getElem_cons_succ, List.getElem_cons_zero])
                  refine wpAnyH_ready (rs := [18]) (by kernel_rfl) (by simp) ?_
                  refine AllReadyH.cons rfl (fun K hK => ?_) AllReadyH.nil
                  rw [if_pos (by rfl)]
                  go_wp2_with (first | (go_at_call 65; have c := impl_Gaps Ls a_s c_s _ (S_s.out.below (hHeld5).2).sl (by omega); (with_reducible refine c.mono ?_); rintro e wk ⟨v, rfl, ho, hbk⟩; obtain ⟨a_q3, c_q3, rfl, rX⟩ := row_open ho; have Q_q3 := rX.slv; clear ho rX c))
                  refine hK.out _ _ (HK.out _ ((hHeld5).2.trans (hbk.mono (hHeld5).2.size))) (fun hHeld6 => ?_)
                  clear hK K
                  (try simp only [Act.put, List.setIfInBounds_toArray, List.set_cons_zero, List.set_cons_succ, List.getElem_toArray, List.getElem_cons_succ, List.getElem_cons_zero])
                  refine wpAnyH_ready (rs := [20]) (by kernel_rfl) (by simp) ?_
                  refine AllReadyH.cons rfl (fun K hK => ?_) AllReadyH.nil
                  rw [if_pos (by rfl)]
                  go_wp2_with (first | (go_at_call 69; have c := spec_Gaps Ls a_s c_s _ (S_s.out.below (hHeld6).2).sl (by omega); (with_reducible refine c.mono ?_); rintro e wk ⟨v, rfl, ho, hbk⟩; obtain ⟨a_q4, c_q4, rfl, rX⟩ := row_open ho; have Q_q4 := rX.slv; have Q_q3' := Q_q3.below hbk; clear ho rX c))
                  refine hK.out _ _ (HK.out _ ((hHeld6).2.trans (hbk.mono (hHeld6).2.size))) (fun hHeld7 => ?_)
                  clear hK K
                  (try simp only [Act.put, List.setIfInBounds_toArray, List.set_cons_zero, List.set_cons_succ, List.getElem_toArray, List.getElem_cons_succ, List.getElem_cons_zero])
                  refine wpAnyH_ready (rs := [21]) (by kernel_rfl) (by simp) ?_
                  refine AllReadyH.cons rfl (fun K hK => ?_) AllReadyH.nil
                  rw [if_pos (by rfl)]
                  go_wp2_with (first | (go_at_call 17; have c := sameInts_any (gapsL Ls) (gapsL Ls) a_q3 a_q4 c_q3 c_q4 _ Q_q3' Q_q4 (by omega) (by omega); rw [decide_eq_true (rfl : gapsL Ls = gapsL Ls)] at c; (with_reducible refine c.mono ?_); rintro e wk ⟨rfl, hbk⟩; clear c))
                  refine hK.out _ _ (HK.out _ ((hHeld7).2.trans (hbk.mono (hHeld7).2.size))) (fun hHeld8 => ?_)
                  clear hK K
                  (try simp only [Act.put, List.setIfInBounds_toArray, List.set_cons_zero, List.set_cons_succ, List.getElem_toArray, List.getElem_cons_succ, List.getElem_cons_zero])
                  refine held_take 22 _ _ rfl (by kernel_rfl) (by kernel_rfl) (by kernel_rfl) (fun _ _ _ h => h) (by rfl) hHeld8 (fun w hSw => by (try dsimp only at hSw); go_simp; try with_reducible rfl) ?_
                  (try simp only [Act.put, List.setIfInBounds_toArray, List.set_cons_zero, List.set_cons_succ, List.getElem_toArray, List.getElem_cons_succ, List.getElem_cons_zero])
                  refine held_take 23 _ _ rfl (by kernel_rfl) (by kernel_rfl) (by kernel_rfl) (fun _ _ _ h => h) (by rfl) hHeld8 (fun w hSw => by (try dsimp only at hSw); go_simp; try with_reducible rfl) ?_
                  (try simp only [Act.put, List.setIfInBounds_toArray, List.set_cons_zero, List.set_cons_succ, List.getElem_toArray, List.getElem_cons_succ, List.getElem_cons_zero])
                  refine held_take 24 _ _ rfl (by kernel_rfl) (by kernel_rfl) (by kernel_rfl) (fun _ _ _ h => h) (by rfl) hHeld8 (fun w hSw => by (try dsimp only at hSw); go_simp; try with_reducible rfl) ?_
                  (try simp only [Act.put, List.setIfInBounds_toArray, List.set_cons_zero, List.set_cons_succ, List.getElem_toArray, List.getElem_cons_succ, List.getElem_cons_zero])
                  refine held_take 25 _ _ rfl (by kernel_rfl) (by kernel_rfl) (by kernel_rfl) (fun _ _ _ h => h) (by rfl) hHeld8 (fun w hSw => by (try dsimp only at hSw); go_simp; try with_reducible rfl) ?_
                  (try simp only [Act.put, List.setIfInBounds_toArray, List.set_cons_zero, List.set_cons_succ, List.getElem_toArray, List.getElem_cons_succ, List.getElem_cons_zero])
                  refine held_take 27 _ _ rfl (by kernel_rfl) (by kernel_rfl) (by kernel_rfl) (fun _ _ _ h => h) (by rfl) hHeld8 (fun w hSw => by (try dsimp only at hSw); go_simp; try with_reducible rfl) ?_
                  (try simp only [Act.put, List.setIfInBounds_toArray, List.set_cons_zero, List.set_cons_succ, List.getElem_toArray, List.getElem_cons_succ, List.getElem_cons_zero])
                  refine held_take 28 _ _ rfl (by kernel_rfl) (by kernel_rfl) (by kernel_rfl) (fun _ _ _ h => h) (by rfl) hHeld8 (fun w hSw => by (try dsimp only at hSw); go_simp; try with_reducible rfl) ?_
                  (try simp only [Act.put, List.setIfInBounds_toArray, List.set_cons_zero, List.set_cons_succ, List.getElem_toArray, List.getElem_cons_succ, List.getElem_cons_zero])
                  refine wpAnyH_ready (rs := [26]) (by kernel_rfl) (by simp) ?_
                  refine AllReadyH.cons rfl (fun K hK => ?_) AllReadyH.nil
                  rw [if_pos (by rfl)]
                  go_wp2_with (first | (go_at_call 66; have c := ci_IdealGens Ls a_s c_s Ll a_l c_l _ (S_s.out.below (hHeld8).2) (S_l.out.below (hHeld8).2) (by omega) (by omega); (with_reducible refine c.mono ?_); rintro e wk ⟨v, rfl, ho, hbk⟩; obtain ⟨a_q5, c_q5, rfl, rX⟩ := row_open ho; have Q_q5 := rX.slv; clear ho rX c))
                  refine hK.out _ _ (HK.out _ ((hHeld8).2.trans (hbk.mono (hHeld8).2.size))) (fun hHeld9 => ?_)
                  clear hK K
                  (try simp only [Act.put, List.setIfInBounds_toArray, List.set_cons_zero, List.set_cons_succ, List.getElem_toArray, List.getElem_cons_succ, List.getElem_cons_zero])
                  refine wpAnyH_ready (rs := [29]) (by kernel_rfl) (by simp) ?_
                  refine AllReadyH.cons rfl (fun K hK => ?_) AllReadyH.nil
                  rw [if_pos (by rfl)]
                  go_wp2_with (first | (go_at_call 70; have c := cs_IdealGens Ls a_s c_s Ll a_l c_l _ (S_s.out.below (hHeld9).2) (S_l.out.below (hHeld9).2) (by omega) (by omega); (with_reducible refine c.mono ?_); rintro e wk ⟨v, rfl, ho, hbk⟩; obtain ⟨a_q6, c_q6, rfl, rX⟩ := row_open ho; have Q_q6 := rX.slv; have Q_q5' := Q_q5.below hbk; clear ho rX c))
                  refine hK.out _ _ (HK.out _ ((hHeld9).2.trans (hbk.mono (hHeld9).2.size))) (fun hHeld10 => ?_)
                  clear hK K
                  (try simp only [Act.put, List.setIfInBounds_toArray, List.set_cons_zero, List.set_cons_succ, List.getElem_toArray, List.getElem_cons_succ, List.getElem_cons_zero])
                  refine wpAnyH_ready (rs := [30]) (by kernel_rfl) (by simp) ?_
                  refine AllReadyH.cons rfl (fun K hK => ?_) AllReadyH.nil
                  rw [if_pos (by rfl)]
                  go_wp2_with (first | (go_at_call 17; have c := sameInts_any (idGensL Ls Ll) (idGensL Ls Ll) a_q5 a_q6 c_q5 c_q6 _ Q_q5' Q_q6 (by omega) (by omega); rw [decide_eq_true (rfl : idGensL Ls Ll = idGensL Ls Ll)] at c; (with_reducible refine c.mono ?_); rintro e wk ⟨rfl, hbk⟩; clear c))
                  refine hK.out _ _ (HK.out _ ((hHeld10).2.trans (hbk.mono (hHeld10).2.size))) (fun hHeld11 => ?_)
                  clear hK K
                  (try simp only [Act.put, List.setIfInBounds_toArray, List.set_cons_zero, List.set_cons_succ, List.getElem_toArray, List.getElem_cons_succ, List.getElem_cons_zero])
                  refine held_take 31 _ _ rfl (by kernel_rfl) (by kernel_rfl) (by kernel_rfl) (fun _ _ _ h => h) (by rfl) hHeld11 (fun w hSw => by (try dsimp only at hSw); go_simp; try with_reducible rfl) ?_
                  (try simp only [Act.put, List.setIfInBounds_toArray, List.set_cons_zero, List.set_cons_succ, List.getElem_toArray, List.getElem_cons_succ, List.getElem_cons_zero])
                  refine held_take 32 _ _ rfl (by kernel_rfl) (by kernel_rfl) (by kernel_rfl) (fun _ _ _ h => h) (by rfl) hHeld11 (fun w hSw => by (try dsimp only at hSw); go_simp; try with_reducible rfl) ?_
                  (try simp only [Act.put, List.setIfInBounds_toArray, List.set_cons_zero, List.set_cons_succ, List.getElem_toArray, List.getElem_cons_succ, List.getElem_cons_zero])
                  refine wpAnyH_done (by kernel_rfl) ?_ _
                  have hF := hWs.trans ((HKK.out.trans ((hHeld11).2.mono hKz)).mono hWs.size)
                  clear hS0 hHeld11
                  go_wp2_with fail
                  go_ret
                  exact ⟨rfl, hF⟩

set_option maxRecDepth 100000 in
set_option maxHeartbeats 800000 in
theorem FnPure.walk (p0 : Option Addr) (len0 cap0 : Nat) (z0 : List Int) (W : World) (r0 : IsRow .u8 W p0 len0 cap0 z0) (_ : W.ShapedOpen Try.prog) :
    Calls Try.prog 7 #[.slice p0 len0 cap0] W fun e w' => e = .returned (.bool true) ∧ Below W.heap.size W w' := by
  by_cases hl : len0 ≤ 1048576
  · exact fnPure_small p0 len0 cap0 z0 W r0 hl
  · have cb := big_any p0 len0 cap0 W (row_maxLen r0)
    rw [decide_eq_true (show 1048576 < len0 by omega)] at cb
    go_enter Try.func7, Try.ntmps7
    go_wp2_with fail
    refine cb.mono ?_
    rintro e w0 ⟨rfl, rfl⟩
    go_wp2_with fail
    go_ret
    exact ⟨rfl, Below.refl _ _⟩
end Go.Proofs.Ytlinlmmcgifloaa
