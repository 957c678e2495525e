/-
  THE WALK OF THE LAW FnSymmetry: at every drawn code both sides agree; symmetric is type 1, is half of the numbers below the conductor (written by fn_symmetry.py of the verifier's own).
-/
import Derived.Test.YtglonnfagnlmjaaRows
import Derived.Test.YtglonnfagnlmjaaDrw15
import Derived.Test.YtglonnfagnlmjaaC4
import Derived.Test.YtglonnfagnlmjaaC9
namespace Go.Proofs.Ytglonnfagnlmjaa
open Go Go.RowKit

theorem sym_law (G : List Int) : (isSgB G = false ∧ typeN G = 0 ∧ symB G = false ∧ psymB G = false) ∨
    (isSgB G = true ∧ ∃ f g : Int, frobN G = f ∧ genusN G = g ∧ -1 ≤ f ∧ f ≤ 199 ∧ 0 ≤ g ∧ g ≤ 200 ∧ (1 ≤ f → hasB (specL G) f = true) ∧ f + 1 ≤ 2 * g ∧
      ((symB G = true ∧ psymB G = false ∧ typeN G = 1 ∧ 2 * g = f + 1) ∨ (symB G = false ∧ psymB G = true ∧ ∃ t : Int, typeN G = t ∧ t ≠ 1 ∧ 0 < f ∧ 2 * g = f + 2) ∨ (symB G = false ∧ psymB G = false ∧ ∃ t : Int, typeN G = t ∧ t ≠ 1 ∧ 2 * g ≠ f + 1 ∧ (0 < f → 2 * g ≠ f + 2)))) := by
  cases hs : isSgB G
  · exact .inl ⟨rfl, typeN_no hs, symB_no hs, psymB_no hs⟩
  · right
    have hb := frob_bounds G
    have hg := genus_len hs
    have hgl := gapsL_length_le G
    refine ⟨rfl, frobN G, genusN G, rfl, rfl, hb.1, hb.2, by omega, by omega, fun h => decide_eq_true (frob_spec hs h), genus_ge hs, ?_⟩
    have h1 := sym_genus hs
    have h2 := sym_type hs
    have h3 := psym_genus hs
    cases ha : symB G
    · right
      have ht : typeN G ≠ 1 := fun h => by rw [h2.2 h] at ha; cases ha
      cases hp : psymB G
      · refine .inr ⟨rfl, rfl, _, rfl, ht, fun h => ?_, fun h0 h => ?_⟩
        · rw [h1.2 h] at ha; cases ha
        · rw [h3.2 ⟨h0, h⟩] at hp; cases hp
      · obtain ⟨h4, h5⟩ := h3.1 hp
        exact .inl ⟨rfl, rfl, _, rfl, ht, h4, h5⟩
    · exact .inl ⟨rfl, sym_psym ha, h2.1 ha, h1.1 ha⟩

set_option maxRecDepth 100000 in
set_option maxHeartbeats 6400000 in
theorem fnSymmetry_small (p0 : Option Addr) (len0 cap0 : Nat) (z0 : List Int) (W : World) (r0 : IsRow .u8 W p0 len0 cap0 z0) (hl : len0 ≤ 1048576) :
    Calls Try.prog 3 #[.slice p0 len0 cap0] W fun e w' => e = .returned (.bool true) ∧ Below W.heap.size W w' := by
  have HR := Lib.hid r0
  clear r0
  have hW : Below W.heap.size W W := Below.refl _ _
  go_enter Try.func3, Try.ntmps3
  have c := big_b p0 len0 cap0 W (by unfold maxLen; omega)
  rw [decide_eq_false (show ¬ 1048576 < len0 by omega)] at c
  go_wp2_with fail
  refine c.mono ?_
  rintro e w1 ⟨rfl, hb⟩
  clear c
  have z1 := hb.size
  replace hW := hW.trans (hb.mono hW.size)
  clear hb
  have c := DrawPseudoFrobenius_any w1 p0 len0 cap0 z0 (HR.out.below hW) hl
  go_wp2_with fail
  refine c.mono ?_
  rintro e w2 ⟨G, a_s, c_s, hl_s, hB_s, rfl, hs, hb⟩
  clear c
  have z2 := hb.size
  replace hW := hW.trans (hb.mono hW.size)
  have S_s := Lib.hid hs
  clear hs hb hB_s HR hl
  obtain ⟨w3, hwb⟩ : ∃ wb, wb = w2.alloc (.cells #[.slice a_s G.length c_s] 26) := ⟨_, rfl⟩
  have hb : Below w2.heap.size w2 w3 := by rw [hwb]; exact box_below _ _
  have hA : Arr w3 w2.heap.size 26 [.slice a_s G.length c_s] := by rw [hwb]; exact Arr.new _ _ _
  replace S_s := Lib.hid (S_s.out.below hb)
  have z3 := hb.size
  replace hW := hW.trans (hb.mono hW.size)
  have y3 : w2.heap.size < w3.heap.size := hA.lt
  have B_bs := Lib.hid hA
  have H_w3 := Lib.hid hwb
  clear hwb hb hA
  have hp12 := psfL_len_le G
  have hx12 : (specL G).length ≤ 200 := by rw [specL_way]; exact Nat.le_trans (List.length_filter_le _ _) (psfL_len_le G)
  have HL := Lib.hid (sym_law G)
  rcases HL.out with ⟨hsg, ht, ha, hb'⟩ | ⟨hsg, f, g, hf, hg, f1, f2, g1, g2, HX, hge, hcase⟩
  · skip
    clear HL
    have c := ci_PseudoFrobenius G a_s c_s w3 S_s.out (by omega)
    have hk_bs : w3.cell? ⟨w2.heap.size, 0, none⟩ = some (.slice a_s G.length c_s) := B_bs.out.cell 0
    rw [H_w3.out] at hk_bs
    go_wp2_with fail
    rw [← H_w3.out]
    refine c.mono ?_
    rintro e w4 ⟨v, rfl, ho, hb⟩
    clear c
    clear hk_bs
    obtain ⟨a_p, c_p, rfl, rX⟩ := row_open ho
    clear ho
    replace S_s := Lib.hid (S_s.out.below hb)
    replace B_bs := Lib.hid (B_bs.out.below hb)
    have z4 := hb.size
    replace hW := hW.trans (hb.mono hW.size)
    have R_p := Lib.hid rX
    clear rX
    clear hb
    have c := ci_TypeOf G a_s c_s w4 S_s.out (by omega)
    rw [ht] at c
    have hk_bs : w4.cell? ⟨w2.heap.size, 0, none⟩ = some (.slice a_s G.length c_s) := B_bs.out.cell 0
    go_wp2_with fail
    refine c.mono ?_
    rintro e w5 ⟨rfl, hb⟩
    clear c
    clear hk_bs
    replace S_s := Lib.hid (S_s.out.below hb)
    replace B_bs := Lib.hid (B_bs.out.below hb)
    replace R_p := Lib.hid (R_p.out.below hb)
    have z5 := hb.size
    replace hW := hW.trans (hb.mono hW.size)
    clear hb
    have c := ci_SpecialGaps G a_s c_s w5 S_s.out (by omega)
    have hk_bs : w5.cell? ⟨w2.heap.size, 0, none⟩ = some (.slice a_s G.length c_s) := B_bs.out.cell 0
    go_wp2_with fail
    refine c.mono ?_
    rintro e w6 ⟨v, rfl, ho, hb⟩
    clear c
    clear hk_bs
    obtain ⟨a_x, c_x, rfl, rX⟩ := row_open ho
    clear ho
    replace S_s := Lib.hid (S_s.out.below hb)
    replace B_bs := Lib.hid (B_bs.out.below hb)
    replace R_p := Lib.hid (R_p.out.below hb)
    have z6 := hb.size
    replace hW := hW.trans (hb.mono hW.size)
    have R_x := Lib.hid rX
    clear rX
    clear hb
    have c := ci_IsSymmetric G a_s c_s w6 S_s.out (by omega)
    rw [ha] at c
    have hk_bs : w6.cell? ⟨w2.heap.size, 0, none⟩ = some (.slice a_s G.length c_s) := B_bs.out.cell 0
    go_wp2_with fail
    refine c.mono ?_
    rintro e w7 ⟨rfl, hb⟩
    clear c
    clear hk_bs
    replace S_s := Lib.hid (S_s.out.below hb)
    replace B_bs := Lib.hid (B_bs.out.below hb)
    replace R_p := Lib.hid (R_p.out.below hb)
    replace R_x := Lib.hid (R_x.out.below hb)
    have z7 := hb.size
    replace hW := hW.trans (hb.mono hW.size)
    clear hb
    have c := ci_IsPseudoSymmetric G a_s c_s w7 S_s.out (by omega)
    rw [hb'] at c
    have hk_bs : w7.cell? ⟨w2.heap.size, 0, none⟩ = some (.slice a_s G.length c_s) := B_bs.out.cell 0
    go_wp2_with fail
    refine c.mono ?_
    rintro e w8 ⟨rfl, hb⟩
    clear c
    clear hk_bs
    replace S_s := Lib.hid (S_s.out.below hb)
    replace B_bs := Lib.hid (B_bs.out.below hb)
    replace R_p := Lib.hid (R_p.out.below hb)
    replace R_x := Lib.hid (R_x.out.below hb)
    have z8 := hb.size
    replace hW := hW.trans (hb.mono hW.size)
    clear hb
    have c := cs_PseudoFrobenius G a_s c_s w8 S_s.out (by omega)
    have hk_bs : w8.cell? ⟨w2.heap.size, 0, none⟩ = some (.slice a_s G.length c_s) := B_bs.out.cell 0
    go_wp2_with fail
    refine c.mono ?_
    rintro e w9 ⟨v, rfl, ho, hb⟩
    clear c
    clear hk_bs
    obtain ⟨a_q, c_q, rfl, rX⟩ := row_open ho
    clear ho
    replace S_s := Lib.hid (S_s.out.below hb)
    replace B_bs := Lib.hid (B_bs.out.below hb)
    replace R_p := Lib.hid (R_p.out.below hb)
    replace R_x := Lib.hid (R_x.out.below hb)
    have z9 := hb.size
    replace hW := hW.trans (hb.mono hW.size)
    have R_q := Lib.hid rX
    clear rX
    clear hb
    have c := sameInts_any (psfL G) (psfL G) a_p a_q c_p c_q w9 R_p.out.slv R_q.out.slv (by omega) (by omega)
    rw [decide_eq_true (rfl : psfL G = psfL G)] at c
    have hk_bs : w9.cell? ⟨w2.heap.size, 0, none⟩ = some (.slice a_s G.length c_s) := B_bs.out.cell 0
    go_wp2_with fail
    refine c.mono ?_
    rintro e w10 ⟨rfl, hb⟩
    clear c
    clear hk_bs
    replace S_s := Lib.hid (S_s.out.below hb)
    replace B_bs := Lib.hid (B_bs.out.below hb)
    replace R_p := Lib.hid (R_p.out.below hb)
    replace R_x := Lib.hid (R_x.out.below hb)
    replace R_q := Lib.hid (R_q.out.below hb)
    have z10 := hb.size
    replace hW := hW.trans (hb.mono hW.size)
    clear hb
    have c := cs_TypeOf G a_s c_s w10 S_s.out (by omega)
    rw [ht] at c
    have hk_bs : w10.cell? ⟨w2.heap.size, 0, none⟩ = some (.slice a_s G.length c_s) := B_bs.out.cell 0
    go_wp2_with fail
    refine c.mono ?_
    rintro e w11 ⟨rfl, hb⟩
    clear c
    clear hk_bs
    replace S_s := Lib.hid (S_s.out.below hb)
    replace B_bs := Lib.hid (B_bs.out.below hb)
    replace R_p := Lib.hid (R_p.out.below hb)
    replace R_x := Lib.hid (R_x.out.below hb)
    replace R_q := Lib.hid (R_q.out.below hb)
    have z11 := hb.size
    replace hW := hW.trans (hb.mono hW.size)
    clear hb
    have c := cs_SpecialGaps G a_s c_s w11 S_s.out (by omega)
    have hk_bs : w11.cell? ⟨w2.heap.size, 0, none⟩ = some (.slice a_s G.length c_s) := B_bs.out.cell 0
    go_wp2_with fail
    refine c.mono ?_
    rintro e w12 ⟨v, rfl, ho, hb⟩
    clear c
    clear hk_bs
    obtain ⟨a_z, c_z, rfl, rX⟩ := row_open ho
    clear ho
    replace S_s := Lib.hid (S_s.out.below hb)
    replace B_bs := Lib.hid (B_bs.out.below hb)
    replace R_p := Lib.hid (R_p.out.below hb)
    replace R_x := Lib.hid (R_x.out.below hb)
    replace R_q := Lib.hid (R_q.out.below hb)
    have z12 := hb.size
    replace hW := hW.trans (hb.mono hW.size)
    have R_z := Lib.hid rX
    clear rX
    clear hb
    have c := sameInts_any (specL G) (specL G) a_x a_z c_x c_z w12 R_x.out.slv R_z.out.slv (by omega) (by omega)
    rw [decide_eq_true (rfl : specL G = specL G)] at c
    have hk_bs : w12.cell? ⟨w2.heap.size, 0, none⟩ = some (.slice a_s G.length c_s) := B_bs.out.cell 0
    go_wp2_with fail
    refine c.mono ?_
    rintro e w13 ⟨rfl, hb⟩
    clear c
    clear hk_bs
    replace S_s := Lib.hid (S_s.out.below hb)
    replace B_bs := Lib.hid (B_bs.out.below hb)
    replace R_p := Lib.hid (R_p.out.below hb)
    replace R_x := Lib.hid (R_x.out.below hb)
    replace R_q := Lib.hid (R_q.out.below hb)
    replace R_z := Lib.hid (R_z.out.below hb)
    have z13 := hb.size
    replace hW := hW.trans (hb.mono hW.size)
    clear hb
    have c := cs_IsSymmetric G a_s c_s w13 S_s.out (by omega)
    rw [ha] at c
    have hk_bs : w13.cell? ⟨w2.heap.size, 0, none⟩ = some (.slice a_s G.length c_s) := B_bs.out.cell 0
    go_wp2_with fail
    refine c.mono ?_
    rintro e w14 ⟨rfl, hb⟩
    clear c
    clear hk_bs
    replace S_s := Lib.hid (S_s.out.below hb)
    replace B_bs := Lib.hid (B_bs.out.below hb)
    replace R_p := Lib.hid (R_p.out.below hb)
    replace R_x := Lib.hid (R_x.out.below hb)
    replace R_q := Lib.hid (R_q.out.below hb)
    replace R_z := Lib.hid (R_z.out.below hb)
    have z14 := hb.size
    replace hW := hW.trans (hb.mono hW.size)
    clear hb
    have c := cs_IsPseudoSymmetric G a_s c_s w14 S_s.out (by omega)
    rw [hb'] at c
    have hk_bs : w14.cell? ⟨w2.heap.size, 0, none⟩ = some (.slice a_s G.length c_s) := B_bs.out.cell 0
    go_wp2_with fail
    refine c.mono ?_
    rintro e w15 ⟨rfl, hb⟩
    clear c
    clear hk_bs
    replace S_s := Lib.hid (S_s.out.below hb)
    replace B_bs := Lib.hid (B_bs.out.below hb)
    replace R_p := Lib.hid (R_p.out.below hb)
    replace R_x := Lib.hid (R_x.out.below hb)
    replace R_q := Lib.hid (R_q.out.below hb)
    replace R_z := Lib.hid (R_z.out.below hb)
    have z15 := hb.size
    replace hW := hW.trans (hb.mono hW.size)
    clear hb
    have c := ci_IsIrreducible G a_s c_s w15 S_s.out (by omega)
    rw [show irrB G = (symB G || psymB G) from rfl] at c
    rw [ha] at c
    rw [hb'] at c
    have hk_bs : w15.cell? ⟨w2.heap.size, 0, none⟩ = some (.slice a_s G.length c_s) := B_bs.out.cell 0
    go_wp2_with fail
    refine c.mono ?_
    rintro e w16 ⟨rfl, hb⟩
    clear c
    clear hk_bs
    replace S_s := Lib.hid (S_s.out.below hb)
    replace B_bs := Lib.hid (B_bs.out.below hb)
    replace R_p := Lib.hid (R_p.out.below hb)
    replace R_x := Lib.hid (R_x.out.below hb)
    replace R_q := Lib.hid (R_q.out.below hb)
    replace R_z := Lib.hid (R_z.out.below hb)
    have z16 := hb.size
    replace hW := hW.trans (hb.mono hW.size)
    clear hb
    have c := spec_IsSemigroup G a_s c_s w16 S_s.out.sl (by omega)
    rw [hsg] at c
    have hk_bs : w16.cell? ⟨w2.heap.size, 0, none⟩ = some (.slice a_s G.length c_s) := B_bs.out.cell 0
    go_wp2_with fail
    refine c.mono ?_
    rintro e w17 ⟨rfl, hb⟩
    clear c
    clear hk_bs
    replace S_s := Lib.hid (S_s.out.below hb)
    replace B_bs := Lib.hid (B_bs.out.below hb)
    replace R_p := Lib.hid (R_p.out.below hb)
    replace R_x := Lib.hid (R_x.out.below hb)
    replace R_q := Lib.hid (R_q.out.below hb)
    replace R_z := Lib.hid (R_z.out.below hb)
    have z17 := hb.size
    replace hW := hW.trans (hb.mono hW.size)
    clear hb
    have hk_bs : w17.cell? ⟨w2.heap.size, 0, none⟩ = some (.slice a_s G.length c_s) := B_bs.out.cell 0
    go_wp2_with fail
    go_ret
    exact ⟨rfl, hW⟩
  · skip
    clear HL
    replace HX := Lib.hid HX
    have hw1 : IntKind.i64.wrap (2 * g) = 2 * g := IntWalk.i64_in _ (by omega)
    have hw2 : IntKind.i64.wrap (f + 1) = f + 1 := IntWalk.i64_in _ (by omega)
    have hw3 : IntKind.i64.wrap (f + 2) = f + 2 := IntWalk.i64_in _ (by omega)
    have hge1 : f + 1 ≤ 2 * g := hge
    have hge2 := decide_eq_true hge1
    rcases hcase with ⟨ha, hb', ht, h1⟩ | ⟨ha, hb', t, ht, htn, h0, h1⟩ | ⟨ha, hb', t, ht, htn, h1, h2⟩
    · skip
      have e1 : (2 * g == f + 1) = true := by rw [beq_iff_eq]; exact h1
      have e2 : (2 * g == f + 2) = false := by rw [beq_eq_false_iff_ne]; omega
      replace h1 := Lib.hid h1
      have c := ci_PseudoFrobenius G a_s c_s w3 S_s.out (by omega)
      have hk_bs : w3.cell? ⟨w2.heap.size, 0, none⟩ = some (.slice a_s G.length c_s) := B_bs.out.cell 0
      rw [H_w3.out] at hk_bs
      go_wp2_with fail
      rw [← H_w3.out]
      refine c.mono ?_
      rintro e w4 ⟨v, rfl, ho, hb⟩
      clear c
      clear hk_bs
      obtain ⟨a_p, c_p, rfl, rX⟩ := row_open ho
      clear ho
      replace S_s := Lib.hid (S_s.out.below hb)
      replace B_bs := Lib.hid (B_bs.out.below hb)
      have z4 := hb.size
      replace hW := hW.trans (hb.mono hW.size)
      have R_p := Lib.hid rX
      clear rX
      clear hb
      have c := ci_TypeOf G a_s c_s w4 S_s.out (by omega)
      rw [ht] at c
      have hk_bs : w4.cell? ⟨w2.heap.size, 0, none⟩ = some (.slice a_s G.length c_s) := B_bs.out.cell 0
      go_wp2_with fail
      refine c.mono ?_
      rintro e w5 ⟨rfl, hb⟩
      clear c
      clear hk_bs
      replace S_s := Lib.hid (S_s.out.below hb)
      replace B_bs := Lib.hid (B_bs.out.below hb)
      replace R_p := Lib.hid (R_p.out.below hb)
      have z5 := hb.size
      replace hW := hW.trans (hb.mono hW.size)
      clear hb
      have c := ci_SpecialGaps G a_s c_s w5 S_s.out (by omega)
      have hk_bs : w5.cell? ⟨w2.heap.size, 0, none⟩ = some (.slice a_s G.length c_s) := B_bs.out.cell 0
      go_wp2_with fail
      refine c.mono ?_
      rintro e w6 ⟨v, rfl, ho, hb⟩
      clear c
      clear hk_bs
      obtain ⟨a_x, c_x, rfl, rX⟩ := row_open ho
      clear ho
      replace S_s := Lib.hid (S_s.out.below hb)
      replace B_bs := Lib.hid (B_bs.out.below hb)
      replace R_p := Lib.hid (R_p.out.below hb)
      have z6 := hb.size
      replace hW := hW.trans (hb.mono hW.size)
      have R_x := Lib.hid rX
      clear rX
      clear hb
      have c := ci_IsSymmetric G a_s c_s w6 S_s.out (by omega)
      rw [ha] at c
      have hk_bs : w6.cell? ⟨w2.heap.size, 0, none⟩ = some (.slice a_s G.length c_s) := B_bs.out.cell 0
      go_wp2_with fail
      refine c.mono ?_
      rintro e w7 ⟨rfl, hb⟩
      clear c
      clear hk_bs
      replace S_s := Lib.hid (S_s.out.below hb)
      replace B_bs := Lib.hid (B_bs.out.below hb)
      replace R_p := Lib.hid (R_p.out.below hb)
      replace R_x := Lib.hid (R_x.out.below hb)
      have z7 := hb.size
      replace hW := hW.trans (hb.mono hW.size)
      clear hb
      have c := ci_IsPseudoSymmetric G a_s c_s w7 S_s.out (by omega)
      rw [hb'] at c
      have hk_bs : w7.cell? ⟨w2.heap.size, 0, none⟩ = some (.slice a_s G.length c_s) := B_bs.out.cell 0
      go_wp2_with fail
      refine c.mono ?_
      rintro e w8 ⟨rfl, hb⟩
      clear c
      clear hk_bs
      replace S_s := Lib.hid (S_s.out.below hb)
      replace B_bs := Lib.hid (B_bs.out.below hb)
      replace R_p := Lib.hid (R_p.out.below hb)
      replace R_x := Lib.hid (R_x.out.below hb)
      have z8 := hb.size
      replace hW := hW.trans (hb.mono hW.size)
      clear hb
      have c := cs_PseudoFrobenius G a_s c_s w8 S_s.out (by omega)
      have hk_bs : w8.cell? ⟨w2.heap.size, 0, none⟩ = some (.slice a_s G.length c_s) := B_bs.out.cell 0
      go_wp2_with fail
      refine c.mono ?_
      rintro e w9 ⟨v, rfl, ho, hb⟩
      clear c
      clear hk_bs
      obtain ⟨a_q, c_q, rfl, rX⟩ := row_open ho
      clear ho
      replace S_s := Lib.hid (S_s.out.below hb)
      replace B_bs := Lib.hid (B_bs.out.below hb)
      replace R_p := Lib.hid (R_p.out.below hb)
      replace R_x := Lib.hid (R_x.out.below hb)
      have z9 := hb.size
      replace hW := hW.trans (hb.mono hW.size)
      have R_q := Lib.hid rX
      clear rX
      clear hb
      have c := sameInts_any (psfL G) (psfL G) a_p a_q c_p c_q w9 R_p.out.slv R_q.out.slv (by omega) (by omega)
      rw [decide_eq_true (rfl : psfL G = psfL G)] at c
      have hk_bs : w9.cell? ⟨w2.heap.size, 0, none⟩ = some (.slice a_s G.length c_s) := B_bs.out.cell 0
      go_wp2_with fail
      refine c.mono ?_
      rintro e w10 ⟨rfl, hb⟩
      clear c
      clear hk_bs
      replace S_s := Lib.hid (S_s.out.below hb)
      replace B_bs := Lib.hid (B_bs.out.below hb)
      replace R_p := Lib.hid (R_p.out.below hb)
      replace R_x := Lib.hid (R_x.out.below hb)
      replace R_q := Lib.hid (R_q.out.below hb)
      have z10 := hb.size
      replace hW := hW.trans (hb.mono hW.size)
      clear hb
      have c := cs_TypeOf G a_s c_s w10 S_s.out (by omega)
      rw [ht] at c
      have hk_bs : w10.cell? ⟨w2.heap.size, 0, none⟩ = some (.slice a_s G.length c_s) := B_bs.out.cell 0
      go_wp2_with fail
      refine c.mono ?_
      rintro e w11 ⟨rfl, hb⟩
      clear c
      clear hk_bs
      replace S_s := Lib.hid (S_s.out.below hb)
      replace B_bs := Lib.hid (B_bs.out.below hb)
      replace R_p := Lib.hid (R_p.out.below hb)
      replace R_x := Lib.hid (R_x.out.below hb)
      replace R_q := Lib.hid (R_q.out.below hb)
      have z11 := hb.size
      replace hW := hW.trans (hb.mono hW.size)
      clear hb
      have c := cs_SpecialGaps G a_s c_s w11 S_s.out (by omega)
      have hk_bs : w11.cell? ⟨w2.heap.size, 0, none⟩ = some (.slice a_s G.length c_s) := B_bs.out.cell 0
      go_wp2_with fail
      refine c.mono ?_
      rintro e w12 ⟨v, rfl, ho, hb⟩
      clear c
      clear hk_bs
      obtain ⟨a_z, c_z, rfl, rX⟩ := row_open ho
      clear ho
      replace S_s := Lib.hid (S_s.out.below hb)
      replace B_bs := Lib.hid (B_bs.out.below hb)
      replace R_p := Lib.hid (R_p.out.below hb)
      replace R_x := Lib.hid (R_x.out.below hb)
      replace R_q := Lib.hid (R_q.out.below hb)
      have z12 := hb.size
      replace hW := hW.trans (hb.mono hW.size)
      have R_z := Lib.hid rX
      clear rX
      clear hb
      have c := sameInts_any (specL G) (specL G) a_x a_z c_x c_z w12 R_x.out.slv R_z.out.slv (by omega) (by omega)
      rw [decide_eq_true (rfl : specL G = specL G)] at c
      have hk_bs : w12.cell? ⟨w2.heap.size, 0, none⟩ = some (.slice a_s G.length c_s) := B_bs.out.cell 0
      go_wp2_with fail
      refine c.mono ?_
      rintro e w13 ⟨rfl, hb⟩
      clear c
      clear hk_bs
      replace S_s := Lib.hid (S_s.out.below hb)
      replace B_bs := Lib.hid (B_bs.out.below hb)
      replace R_p := Lib.hid (R_p.out.below hb)
      replace R_x := Lib.hid (R_x.out.below hb)
      replace R_q := Lib.hid (R_q.out.below hb)
      replace R_z := Lib.hid (R_z.out.below hb)
      have z13 := hb.size
      replace hW := hW.trans (hb.mono hW.size)
      clear hb
      have c := cs_IsSymmetric G a_s c_s w13 S_s.out (by omega)
      rw [ha] at c
      have hk_bs : w13.cell? ⟨w2.heap.size, 0, none⟩ = some (.slice a_s G.length c_s) := B_bs.out.cell 0
      go_wp2_with fail
      refine c.mono ?_
      rintro e w14 ⟨rfl, hb⟩
      clear c
      clear hk_bs
      replace S_s := Lib.hid (S_s.out.below hb)
      replace B_bs := Lib.hid (B_bs.out.below hb)
      replace R_p := Lib.hid (R_p.out.below hb)
      replace R_x := Lib.hid (R_x.out.below hb)
      replace R_q := Lib.hid (R_q.out.below hb)
      replace R_z := Lib.hid (R_z.out.below hb)
      have z14 := hb.size
      replace hW := hW.trans (hb.mono hW.size)
      clear hb
      have c := cs_IsPseudoSymmetric G a_s c_s w14 S_s.out (by omega)
      rw [hb'] at c
      have hk_bs : w14.cell? ⟨w2.heap.size, 0, none⟩ = some (.slice a_s G.length c_s) := B_bs.out.cell 0
      go_wp2_with fail
      refine c.mono ?_
      rintro e w15 ⟨rfl, hb⟩
      clear c
      clear hk_bs
      replace S_s := Lib.hid (S_s.out.below hb)
      replace B_bs := Lib.hid (B_bs.out.below hb)
      replace R_p := Lib.hid (R_p.out.below hb)
      replace R_x := Lib.hid (R_x.out.below hb)
      replace R_q := Lib.hid (R_q.out.below hb)
      replace R_z := Lib.hid (R_z.out.below hb)
      have z15 := hb.size
      replace hW := hW.trans (hb.mono hW.size)
      clear hb
      have c := ci_IsIrreducible G a_s c_s w15 S_s.out (by omega)
      rw [show irrB G = (symB G || psymB G) from rfl] at c
      rw [ha] at c
      rw [hb'] at c
      have hk_bs : w15.cell? ⟨w2.heap.size, 0, none⟩ = some (.slice a_s G.length c_s) := B_bs.out.cell 0
      go_wp2_with fail
      refine c.mono ?_
      rintro e w16 ⟨rfl, hb⟩
      clear c
      clear hk_bs
      replace S_s := Lib.hid (S_s.out.below hb)
      replace B_bs := Lib.hid (B_bs.out.below hb)
      replace R_p := Lib.hid (R_p.out.below hb)
      replace R_x := Lib.hid (R_x.out.below hb)
      replace R_q := Lib.hid (R_q.out.below hb)
      replace R_z := Lib.hid (R_z.out.below hb)
      have z16 := hb.size
      replace hW := hW.trans (hb.mono hW.size)
      clear hb
      have c := spec_IsSemigroup G a_s c_s w16 S_s.out.sl (by omega)
      rw [hsg] at c
      have hk_bs : w16.cell? ⟨w2.heap.size, 0, none⟩ = some (.slice a_s G.length c_s) := B_bs.out.cell 0
      go_wp2_with fail
      refine c.mono ?_
      rintro e w17 ⟨rfl, hb⟩
      clear c
      clear hk_bs
      replace S_s := Lib.hid (S_s.out.below hb)
      replace B_bs := Lib.hid (B_bs.out.below hb)
      replace R_p := Lib.hid (R_p.out.below hb)
      replace R_x := Lib.hid (R_x.out.below hb)
      replace R_q := Lib.hid (R_q.out.below hb)
      replace R_z := Lib.hid (R_z.out.below hb)
      have z17 := hb.size
      replace hW := hW.trans (hb.mono hW.size)
      clear hb
      have c := cs_FrobeniusOf G a_s c_s w17 S_s.out (by omega)
      rw [hf] at c
      have hk_bs : w17.cell? ⟨w2.heap.size, 0, none⟩ = some (.slice a_s G.length c_s) := B_bs.out.cell 0
      go_wp2_with fail
      refine c.mono ?_
      rintro e w18 ⟨rfl, hb⟩
      clear c
      clear hk_bs
      replace S_s := Lib.hid (S_s.out.below hb)
      replace B_bs := Lib.hid (B_bs.out.below hb)
      replace R_p := Lib.hid (R_p.out.below hb)
      replace R_x := Lib.hid (R_x.out.below hb)
      replace R_q := Lib.hid (R_q.out.below hb)
      replace R_z := Lib.hid (R_z.out.below hb)
      have z18 := hb.size
      replace hW := hW.trans (hb.mono hW.size)
      clear hb
      have c := cs_GenusOf G a_s c_s w18 S_s.out (by omega)
      rw [hg] at c
      have hk_bs : w18.cell? ⟨w2.heap.size, 0, none⟩ = some (.slice a_s G.length c_s) := B_bs.out.cell 0
      go_wp2_with fail
      refine c.mono ?_
      rintro e w19 ⟨rfl, hb⟩
      clear c
      clear hk_bs
      replace S_s := Lib.hid (S_s.out.below hb)
      replace B_bs := Lib.hid (B_bs.out.below hb)
      replace R_p := Lib.hid (R_p.out.below hb)
      replace R_x := Lib.hid (R_x.out.below hb)
      replace R_q := Lib.hid (R_q.out.below hb)
      replace R_z := Lib.hid (R_z.out.below hb)
      have z19 := hb.size
      replace hW := hW.trans (hb.mono hW.size)
      clear hb
      by_cases hf1 : f < 1
      · skip
        have hdf := decide_eq_true hf1
        have hk_bs : w19.cell? ⟨w2.heap.size, 0, none⟩ = some (.slice a_s G.length c_s) := B_bs.out.cell 0
        go_wp2_with fail
        go_ret
        exact ⟨rfl, hW⟩
      · skip
        have hdf := decide_eq_false hf1
        have c := spec_HasNumber (specL G) f a_x c_x w19 R_x.out.slv (by unfold maxLen; omega)
        rw [HX.out (by omega)] at c
        have hk_bs : w19.cell? ⟨w2.heap.size, 0, none⟩ = some (.slice a_s G.length c_s) := B_bs.out.cell 0
        go_wp2_with fail
        refine c.mono ?_
        rintro e w20 ⟨rfl, hww⟩
        clear c
        clear hk_bs
        have hb : Below w19.heap.size w19 w20 := by rw [hww]; exact Below.refl _ _
        clear hww
        replace S_s := Lib.hid (S_s.out.below hb)
        replace B_bs := Lib.hid (B_bs.out.below hb)
        replace R_p := Lib.hid (R_p.out.below hb)
        replace R_x := Lib.hid (R_x.out.below hb)
        replace R_q := Lib.hid (R_q.out.below hb)
        replace R_z := Lib.hid (R_z.out.below hb)
        have z20 := hb.size
        replace hW := hW.trans (hb.mono hW.size)
        clear hb
        have hk_bs : w20.cell? ⟨w2.heap.size, 0, none⟩ = some (.slice a_s G.length c_s) := B_bs.out.cell 0
        go_wp2_with fail
        go_ret
        exact ⟨rfl, hW⟩
    · skip
      have e0 : (t == 1) = false := by rw [beq_eq_false_iff_ne]; exact htn
      have e1 : (2 * g == f + 1) = false := by rw [beq_eq_false_iff_ne]; omega
      have e2 : (2 * g == f + 2) = true := by rw [beq_iff_eq]; exact h1
      have e3 := decide_eq_true h0
      replace h1 := Lib.hid h1
      replace htn := Lib.hid htn
      have c := ci_PseudoFrobenius G a_s c_s w3 S_s.out (by omega)
      have hk_bs : w3.cell? ⟨w2.heap.size, 0, none⟩ = some (.slice a_s G.length c_s) := B_bs.out.cell 0
      rw [H_w3.out] at hk_bs
      go_wp2_with fail
      rw [← H_w3.out]
      refine c.mono ?_
      rintro e w4 ⟨v, rfl, ho, hb⟩
      clear c
      clear hk_bs
      obtain ⟨a_p, c_p, rfl, rX⟩ := row_open ho
      clear ho
      replace S_s := Lib.hid (S_s.out.below hb)
      replace B_bs := Lib.hid (B_bs.out.below hb)
      have z4 := hb.size
      replace hW := hW.trans (hb.mono hW.size)
      have R_p := Lib.hid rX
      clear rX
      clear hb
      have c := ci_TypeOf G a_s c_s w4 S_s.out (by omega)
      rw [ht] at c
      have hk_bs : w4.cell? ⟨w2.heap.size, 0, none⟩ = some (.slice a_s G.length c_s) := B_bs.out.cell 0
      go_wp2_with fail
      refine c.mono ?_
      rintro e w5 ⟨rfl, hb⟩
      clear c
      clear hk_bs
      replace S_s := Lib.hid (S_s.out.below hb)
      replace B_bs := Lib.hid (B_bs.out.below hb)
      replace R_p := Lib.hid (R_p.out.below hb)
      have z5 := hb.size
      replace hW := hW.trans (hb.mono hW.size)
      clear hb
      have c := ci_SpecialGaps G a_s c_s w5 S_s.out (by omega)
      have hk_bs : w5.cell? ⟨w2.heap.size, 0, none⟩ = some (.slice a_s G.length c_s) := B_bs.out.cell 0
      go_wp2_with fail
      refine c.mono ?_
      rintro e w6 ⟨v, rfl, ho, hb⟩
      clear c
      clear hk_bs
      obtain ⟨a_x, c_x, rfl, rX⟩ := row_open ho
      clear ho
      replace S_s := Lib.hid (S_s.out.below hb)
      replace B_bs := Lib.hid (B_bs.out.below hb)
      replace R_p := Lib.hid (R_p.out.below hb)
      have z6 := hb.size
      replace hW := hW.trans (hb.mono hW.size)
      have R_x := Lib.hid rX
      clear rX
      clear hb
      have c := ci_IsSymmetric G a_s c_s w6 S_s.out (by omega)
      rw [ha] at c
      have hk_bs : w6.cell? ⟨w2.heap.size, 0, none⟩ = some (.slice a_s G.length c_s) := B_bs.out.cell 0
      go_wp2_with fail
      refine c.mono ?_
      rintro e w7 ⟨rfl, hb⟩
      clear c
      clear hk_bs
      replace S_s := Lib.hid (S_s.out.below hb)
      replace B_bs := Lib.hid (B_bs.out.below hb)
      replace R_p := Lib.hid (R_p.out.below hb)
      replace R_x := Lib.hid (R_x.out.below hb)
      have z7 := hb.size
      replace hW := hW.trans (hb.mono hW.size)
      clear hb
      have c := ci_IsPseudoSymmetric G a_s c_s w7 S_s.out (by omega)
      rw [hb'] at c
      have hk_bs : w7.cell? ⟨w2.heap.size, 0, none⟩ = some (.slice a_s G.length c_s) := B_bs.out.cell 0
      go_wp2_with fail
      refine c.mono ?_
      rintro e w8 ⟨rfl, hb⟩
      clear c
      clear hk_bs
      replace S_s := Lib.hid (S_s.out.below hb)
      replace B_bs := Lib.hid (B_bs.out.below hb)
      replace R_p := Lib.hid (R_p.out.below hb)
      replace R_x := Lib.hid (R_x.out.below hb)
      have z8 := hb.size
      replace hW := hW.trans (hb.mono hW.size)
      clear hb
      have c := cs_PseudoFrobenius G a_s c_s w8 S_s.out (by omega)
      have hk_bs : w8.cell? ⟨w2.heap.size, 0, none⟩ = some (.slice a_s G.length c_s) := B_bs.out.cell 0
      go_wp2_with fail
      refine c.mono ?_
      rintro e w9 ⟨v, rfl, ho, hb⟩
      clear c
      clear hk_bs
      obtain ⟨a_q, c_q, rfl, rX⟩ := row_open ho
      clear ho
      replace S_s := Lib.hid (S_s.out.below hb)
      replace B_bs := Lib.hid (B_bs.out.below hb)
      replace R_p := Lib.hid (R_p.out.below hb)
      replace R_x := Lib.hid (R_x.out.below hb)
      have z9 := hb.size
      replace hW := hW.trans (hb.mono hW.size)
      have R_q := Lib.hid rX
      clear rX
      clear hb
      have c := sameInts_any (psfL G) (psfL G) a_p a_q c_p c_q w9 R_p.out.slv R_q.out.slv (by omega) (by omega)
      rw [decide_eq_true (rfl : psfL G = psfL G)] at c
      have hk_bs : w9.cell? ⟨w2.heap.size, 0, none⟩ = some (.slice a_s G.length c_s) := B_bs.out.cell 0
      go_wp2_with fail
      refine c.mono ?_
      rintro e w10 ⟨rfl, hb⟩
      clear c
      clear hk_bs
      replace S_s := Lib.hid (S_s.out.below hb)
      replace B_bs := Lib.hid (B_bs.out.below hb)
      replace R_p := Lib.hid (R_p.out.below hb)
      replace R_x := Lib.hid (R_x.out.below hb)
      replace R_q := Lib.hid (R_q.out.below hb)
      have z10 := hb.size
      replace hW := hW.trans (hb.mono hW.size)
      clear hb
      have c := cs_TypeOf G a_s c_s w10 S_s.out (by omega)
      rw [ht] at c
      have hk_bs : w10.cell? ⟨w2.heap.size, 0, none⟩ = some (.slice a_s G.length c_s) := B_bs.out.cell 0
      go_wp2_with fail
      refine c.mono ?_
      rintro e w11 ⟨rfl, hb⟩
      clear c
      clear hk_bs
      replace S_s := Lib.hid (S_s.out.below hb)
      replace B_bs := Lib.hid (B_bs.out.below hb)
      replace R_p := Lib.hid (R_p.out.below hb)
      replace R_x := Lib.hid (R_x.out.below hb)
      replace R_q := Lib.hid (R_q.out.below hb)
      have z11 := hb.size
      replace hW := hW.trans (hb.mono hW.size)
      clear hb
      have c := cs_SpecialGaps G a_s c_s w11 S_s.out (by omega)
      have hk_bs : w11.cell? ⟨w2.heap.size, 0, none⟩ = some (.slice a_s G.length c_s) := B_bs.out.cell 0
      go_wp2_with fail
      refine c.mono ?_
      rintro e w12 ⟨v, rfl, ho, hb⟩
      clear c
      clear hk_bs
      obtain ⟨a_z, c_z, rfl, rX⟩ := row_open ho
      clear ho
      replace S_s := Lib.hid (S_s.out.below hb)
      replace B_bs := Lib.hid (B_bs.out.below hb)
      replace R_p := Lib.hid (R_p.out.below hb)
      replace R_x := Lib.hid (R_x.out.below hb)
      replace R_q := Lib.hid (R_q.out.below hb)
      have z12 := hb.size
      replace hW := hW.trans (hb.mono hW.size)
      have R_z := Lib.hid rX
      clear rX
      clear hb
      have c := sameInts_any (specL G) (specL G) a_x a_z c_x c_z w12 R_x.out.slv R_z.out.slv (by omega) (by omega)
      rw [decide_eq_true (rfl : specL G = specL G)] at c
      have hk_bs : w12.cell? ⟨w2.heap.size, 0, none⟩ = some (.slice a_s G.length c_s) := B_bs.out.cell 0
      go_wp2_with fail
      refine c.mono ?_
      rintro e w13 ⟨rfl, hb⟩
      clear c
      clear hk_bs
      replace S_s := Lib.hid (S_s.out.below hb)
      replace B_bs := Lib.hid (B_bs.out.below hb)
      replace R_p := Lib.hid (R_p.out.below hb)
      replace R_x := Lib.hid (R_x.out.below hb)
      replace R_q := Lib.hid (R_q.out.below hb)
      replace R_z := Lib.hid (R_z.out.below hb)
      have z13 := hb.size
      replace hW := hW.trans (hb.mono hW.size)
      clear hb
      have c := cs_IsSymmetric G a_s c_s w13 S_s.out (by omega)
      rw [ha] at c
      have hk_bs : w13.cell? ⟨w2.heap.size, 0, none⟩ = some (.slice a_s G.length c_s) := B_bs.out.cell 0
      go_wp2_with fail
      refine c.mono ?_
      rintro e w14 ⟨rfl, hb⟩
      clear c
      clear hk_bs
      replace S_s := Lib.hid (S_s.out.below hb)
      replace B_bs := Lib.hid (B_bs.out.below hb)
      replace R_p := Lib.hid (R_p.out.below hb)
      replace R_x := Lib.hid (R_x.out.below hb)
      replace R_q := Lib.hid (R_q.out.below hb)
      replace R_z := Lib.hid (R_z.out.below hb)
      have z14 := hb.size
      replace hW := hW.trans (hb.mono hW.size)
      clear hb
      have c := cs_IsPseudoSymmetric G a_s c_s w14 S_s.out (by omega)
      rw [hb'] at c
      have hk_bs : w14.cell? ⟨w2.heap.size, 0, none⟩ = some (.slice a_s G.length c_s) := B_bs.out.cell 0
      go_wp2_with fail
      refine c.mono ?_
      rintro e w15 ⟨rfl, hb⟩
      clear c
      clear hk_bs
      replace S_s := Lib.hid (S_s.out.below hb)
      replace B_bs := Lib.hid (B_bs.out.below hb)
      replace R_p := Lib.hid (R_p.out.below hb)
      replace R_x := Lib.hid (R_x.out.below hb)
      replace R_q := Lib.hid (R_q.out.below hb)
      replace R_z := Lib.hid (R_z.out.below hb)
      have z15 := hb.size
      replace hW := hW.trans (hb.mono hW.size)
      clear hb
      have c := ci_IsIrreducible G a_s c_s w15 S_s.out (by omega)
      rw [show irrB G = (symB G || psymB G) from rfl] at c
      rw [ha] at c
      rw [hb'] at c
      have hk_bs : w15.cell? ⟨w2.heap.size, 0, none⟩ = some (.slice a_s G.length c_s) := B_bs.out.cell 0
      go_wp2_with fail
      refine c.mono ?_
      rintro e w16 ⟨rfl, hb⟩
      clear c
      clear hk_bs
      replace S_s := Lib.hid (S_s.out.below hb)
      replace B_bs := Lib.hid (B_bs.out.below hb)
      replace R_p := Lib.hid (R_p.out.below hb)
      replace R_x := Lib.hid (R_x.out.below hb)
      replace R_q := Lib.hid (R_q.out.below hb)
      replace R_z := Lib.hid (R_z.out.below hb)
      have z16 := hb.size
      replace hW := hW.trans (hb.mono hW.size)
      clear hb
      have c := spec_IsSemigroup G a_s c_s w16 S_s.out.sl (by omega)
      rw [hsg] at c
      have hk_bs : w16.cell? ⟨w2.heap.size, 0, none⟩ = some (.slice a_s G.length c_s) := B_bs.out.cell 0
      go_wp2_with fail
      refine c.mono ?_
      rintro e w17 ⟨rfl, hb⟩
      clear c
      clear hk_bs
      replace S_s := Lib.hid (S_s.out.below hb)
      replace B_bs := Lib.hid (B_bs.out.below hb)
      replace R_p := Lib.hid (R_p.out.below hb)
      replace R_x := Lib.hid (R_x.out.below hb)
      replace R_q := Lib.hid (R_q.out.below hb)
      replace R_z := Lib.hid (R_z.out.below hb)
      have z17 := hb.size
      replace hW := hW.trans (hb.mono hW.size)
      clear hb
      have c := cs_FrobeniusOf G a_s c_s w17 S_s.out (by omega)
      rw [hf] at c
      have hk_bs : w17.cell? ⟨w2.heap.size, 0, none⟩ = some (.slice a_s G.length c_s) := B_bs.out.cell 0
      go_wp2_with fail
      refine c.mono ?_
      rintro e w18 ⟨rfl, hb⟩
      clear c
      clear hk_bs
      replace S_s := Lib.hid (S_s.out.below hb)
      replace B_bs := Lib.hid (B_bs.out.below hb)
      replace R_p := Lib.hid (R_p.out.below hb)
      replace R_x := Lib.hid (R_x.out.below hb)
      replace R_q := Lib.hid (R_q.out.below hb)
      replace R_z := Lib.hid (R_z.out.below hb)
      have z18 := hb.size
      replace hW := hW.trans (hb.mono hW.size)
      clear hb
      have c := cs_GenusOf G a_s c_s w18 S_s.out (by omega)
      rw [hg] at c
      have hk_bs : w18.cell? ⟨w2.heap.size, 0, none⟩ = some (.slice a_s G.length c_s) := B_bs.out.cell 0
      go_wp2_with fail
      refine c.mono ?_
      rintro e w19 ⟨rfl, hb⟩
      clear c
      clear hk_bs
      replace S_s := Lib.hid (S_s.out.below hb)
      replace B_bs := Lib.hid (B_bs.out.below hb)
      replace R_p := Lib.hid (R_p.out.below hb)
      replace R_x := Lib.hid (R_x.out.below hb)
      replace R_q := Lib.hid (R_q.out.below hb)
      replace R_z := Lib.hid (R_z.out.below hb)
      have z19 := hb.size
      replace hW := hW.trans (hb.mono hW.size)
      clear hb
      have hf1 : ¬ f < 1 := by omega
      have hdf := decide_eq_false hf1
      have c := spec_HasNumber (specL G) f a_x c_x w19 R_x.out.slv (by unfold maxLen; omega)
      rw [HX.out (by omega)] at c
      have hk_bs : w19.cell? ⟨w2.heap.size, 0, none⟩ = some (.slice a_s G.length c_s) := B_bs.out.cell 0
      go_wp2_with fail
      refine c.mono ?_
      rintro e w20 ⟨rfl, hww⟩
      clear c
      clear hk_bs
      have hb : Below w19.heap.size w19 w20 := by rw [hww]; exact Below.refl _ _
      clear hww
      replace S_s := Lib.hid (S_s.out.below hb)
      replace B_bs := Lib.hid (B_bs.out.below hb)
      replace R_p := Lib.hid (R_p.out.below hb)
      replace R_x := Lib.hid (R_x.out.below hb)
      replace R_q := Lib.hid (R_q.out.below hb)
      replace R_z := Lib.hid (R_z.out.below hb)
      have z20 := hb.size
      replace hW := hW.trans (hb.mono hW.size)
      clear hb
      have hk_bs : w20.cell? ⟨w2.heap.size, 0, none⟩ = some (.slice a_s G.length c_s) := B_bs.out.cell 0
      go_wp2_with fail
      go_ret
      exact ⟨rfl, hW⟩
    · skip
      have e0 : (t == 1) = false := by rw [beq_eq_false_iff_ne]; exact htn
      have e1 : (2 * g == f + 1) = false := by rw [beq_eq_false_iff_ne]; exact h1
      have e2 : 0 < f → (2 * g == f + 2) = false := fun h => by rw [beq_eq_false_iff_ne]; exact h2 h
      replace h1 := Lib.hid h1
      replace h2 := Lib.hid h2
      replace htn := Lib.hid htn
      have c := ci_PseudoFrobenius G a_s c_s w3 S_s.out (by omega)
      have hk_bs : w3.cell? ⟨w2.heap.size, 0, none⟩ = some (.slice a_s G.length c_s) := B_bs.out.cell 0
      rw [H_w3.out] at hk_bs
      go_wp2_with fail
      rw [← H_w3.out]
      refine c.mono ?_
      rintro e w4 ⟨v, rfl, ho, hb⟩
      clear c
      clear hk_bs
      obtain ⟨a_p, c_p, rfl, rX⟩ := row_open ho
      clear ho
      replace S_s := Lib.hid (S_s.out.below hb)
      replace B_bs := Lib.hid (B_bs.out.below hb)
      have z4 := hb.size
      replace hW := hW.trans (hb.mono hW.size)
      have R_p := Lib.hid rX
      clear rX
      clear hb
      have c := ci_TypeOf G a_s c_s w4 S_s.out (by omega)
      rw [ht] at c
      have hk_bs : w4.cell? ⟨w2.heap.size, 0, none⟩ = some (.slice a_s G.length c_s) := B_bs.out.cell 0
      go_wp2_with fail
      refine c.mono ?_
      rintro e w5 ⟨rfl, hb⟩
      clear c
      clear hk_bs
      replace S_s := Lib.hid (S_s.out.below hb)
      replace B_bs := Lib.hid (B_bs.out.below hb)
      replace R_p := Lib.hid (R_p.out.below hb)
      have z5 := hb.size
      replace hW := hW.trans (hb.mono hW.size)
      clear hb
      have c := ci_SpecialGaps G a_s c_s w5 S_s.out (by omega)
      have hk_bs : w5.cell? ⟨w2.heap.size, 0, none⟩ = some (.slice a_s G.length c_s) := B_bs.out.cell 0
      go_wp2_with fail
      refine c.mono ?_
      rintro e w6 ⟨v, rfl, ho, hb⟩
      clear c
      clear hk_bs
      obtain ⟨a_x, c_x, rfl, rX⟩ := row_open ho
      clear ho
      replace S_s := Lib.hid (S_s.out.below hb)
      replace B_bs := Lib.hid (B_bs.out.below hb)
      replace R_p := Lib.hid (R_p.out.below hb)
      have z6 := hb.size
      replace hW := hW.trans (hb.mono hW.size)
      have R_x := Lib.hid rX
      clear rX
      clear hb
      have c := ci_IsSymmetric G a_s c_s w6 S_s.out (by omega)
      rw [ha] at c
      have hk_bs : w6.cell? ⟨w2.heap.size, 0, none⟩ = some (.slice a_s G.length c_s) := B_bs.out.cell 0
      go_wp2_with fail
      refine c.mono ?_
      rintro e w7 ⟨rfl, hb⟩
      clear c
      clear hk_bs
      replace S_s := Lib.hid (S_s.out.below hb)
      replace B_bs := Lib.hid (B_bs.out.below hb)
      replace R_p := Lib.hid (R_p.out.below hb)
      replace R_x := Lib.hid (R_x.out.below hb)
      have z7 := hb.size
      replace hW := hW.trans (hb.mono hW.size)
      clear hb
      have c := ci_IsPseudoSymmetric G a_s c_s w7 S_s.out (by omega)
      rw [hb'] at c
      have hk_bs : w7.cell? ⟨w2.heap.size, 0, none⟩ = some (.slice a_s G.length c_s) := B_bs.out.cell 0
      go_wp2_with fail
      refine c.mono ?_
      rintro e w8 ⟨rfl, hb⟩
      clear c
      clear hk_bs
      replace S_s := Lib.hid (S_s.out.below hb)
      replace B_bs := Lib.hid (B_bs.out.below hb)
      replace R_p := Lib.hid (R_p.out.below hb)
      replace R_x := Lib.hid (R_x.out.below hb)
      have z8 := hb.size
      replace hW := hW.trans (hb.mono hW.size)
      clear hb
      have c := cs_PseudoFrobenius G a_s c_s w8 S_s.out (by omega)
      have hk_bs : w8.cell? ⟨w2.heap.size, 0, none⟩ = some (.slice a_s G.length c_s) := B_bs.out.cell 0
      go_wp2_with fail
      refine c.mono ?_
      rintro e w9 ⟨v, rfl, ho, hb⟩
      clear c
      clear hk_bs
      obtain ⟨a_q, c_q, rfl, rX⟩ := row_open ho
      clear ho
      replace S_s := Lib.hid (S_s.out.below hb)
      replace B_bs := Lib.hid (B_bs.out.below hb)
      replace R_p := Lib.hid (R_p.out.below hb)
      replace R_x := Lib.hid (R_x.out.below hb)
      have z9 := hb.size
      replace hW := hW.trans (hb.mono hW.size)
      have R_q := Lib.hid rX
      clear rX
      clear hb
      have c := sameInts_any (psfL G) (psfL G) a_p a_q c_p c_q w9 R_p.out.slv R_q.out.slv (by omega) (by omega)
      rw [decide_eq_true (rfl : psfL G = psfL G)] at c
      have hk_bs : w9.cell? ⟨w2.heap.size, 0, none⟩ = some (.slice a_s G.length c_s) := B_bs.out.cell 0
      go_wp2_with fail
      refine c.mono ?_
      rintro e w10 ⟨rfl, hb⟩
      clear c
      clear hk_bs
      replace S_s := Lib.hid (S_s.out.below hb)
      replace B_bs := Lib.hid (B_bs.out.below hb)
      replace R_p := Lib.hid (R_p.out.below hb)
      replace R_x := Lib.hid (R_x.out.below hb)
      replace R_q := Lib.hid (R_q.out.below hb)
      have z10 := hb.size
      replace hW := hW.trans (hb.mono hW.size)
      clear hb
      have c := cs_TypeOf G a_s c_s w10 S_s.out (by omega)
      rw [ht] at c
      have hk_bs : w10.cell? ⟨w2.heap.size, 0, none⟩ = some (.slice a_s G.length c_s) := B_bs.out.cell 0
      go_wp2_with fail
      refine c.mono ?_
      rintro e w11 ⟨rfl, hb⟩
      clear c
      clear hk_bs
      replace S_s := Lib.hid (S_s.out.below hb)
      replace B_bs := Lib.hid (B_bs.out.below hb)
      replace R_p := Lib.hid (R_p.out.below hb)
      replace R_x := Lib.hid (R_x.out.below hb)
      replace R_q := Lib.hid (R_q.out.below hb)
      have z11 := hb.size
      replace hW := hW.trans (hb.mono hW.size)
      clear hb
      have c := cs_SpecialGaps G a_s c_s w11 S_s.out (by omega)
      have hk_bs : w11.cell? ⟨w2.heap.size, 0, none⟩ = some (.slice a_s G.length c_s) := B_bs.out.cell 0
      go_wp2_with fail
      refine c.mono ?_
      rintro e w12 ⟨v, rfl, ho, hb⟩
      clear c
      clear hk_bs
      obtain ⟨a_z, c_z, rfl, rX⟩ := row_open ho
      clear ho
      replace S_s := Lib.hid (S_s.out.below hb)
      replace B_bs := Lib.hid (B_bs.out.below hb)
      replace R_p := Lib.hid (R_p.out.below hb)
      replace R_x := Lib.hid (R_x.out.below hb)
      replace R_q := Lib.hid (R_q.out.below hb)
      have z12 := hb.size
      replace hW := hW.trans (hb.mono hW.size)
      have R_z := Lib.hid rX
      clear rX
      clear hb
      have c := sameInts_any (specL G) (specL G) a_x a_z c_x c_z w12 R_x.out.slv R_z.out.slv (by omega) (by omega)
      rw [decide_eq_true (rfl : specL G = specL G)] at c
      have hk_bs : w12.cell? ⟨w2.heap.size, 0, none⟩ = some (.slice a_s G.length c_s) := B_bs.out.cell 0
      go_wp2_with fail
      refine c.mono ?_
      rintro e w13 ⟨rfl, hb⟩
      clear c
      clear hk_bs
      replace S_s := Lib.hid (S_s.out.below hb)
      replace B_bs := Lib.hid (B_bs.out.below hb)
      replace R_p := Lib.hid (R_p.out.below hb)
      replace R_x := Lib.hid (R_x.out.below hb)
      replace R_q := Lib.hid (R_q.out.below hb)
      replace R_z := Lib.hid (R_z.out.below hb)
      have z13 := hb.size
      replace hW := hW.trans (hb.mono hW.size)
      clear hb
      have c := cs_IsSymmetric G a_s c_s w13 S_s.out (by omega)
      rw [ha] at c
      have hk_bs : w13.cell? ⟨w2.heap.size, 0, none⟩ = some (.slice a_s G.length c_s) := B_bs.out.cell 0
      go_wp2_with fail
      refine c.mono ?_
      rintro e w14 ⟨rfl, hb⟩
      clear c
      clear hk_bs
      replace S_s := Lib.hid (S_s.out.below hb)
      replace B_bs := Lib.hid (B_bs.out.below hb)
      replace R_p := Lib.hid (R_p.out.below hb)
      replace R_x := Lib.hid (R_x.out.below hb)
      replace R_q := Lib.hid (R_q.out.below hb)
      replace R_z := Lib.hid (R_z.out.below hb)
      have z14 := hb.size
      replace hW := hW.trans (hb.mono hW.size)
      clear hb
      have c := cs_IsPseudoSymmetric G a_s c_s w14 S_s.out (by omega)
      rw [hb'] at c
      have hk_bs : w14.cell? ⟨w2.heap.size, 0, none⟩ = some (.slice a_s G.length c_s) := B_bs.out.cell 0
      go_wp2_with fail
      refine c.mono ?_
      rintro e w15 ⟨rfl, hb⟩
      clear c
      clear hk_bs
      replace S_s := Lib.hid (S_s.out.below hb)
      replace B_bs := Lib.hid (B_bs.out.below hb)
      replace R_p := Lib.hid (R_p.out.below hb)
      replace R_x := Lib.hid (R_x.out.below hb)
      replace R_q := Lib.hid (R_q.out.below hb)
      replace R_z := Lib.hid (R_z.out.below hb)
      have z15 := hb.size
      replace hW := hW.trans (hb.mono hW.size)
      clear hb
      have c := ci_IsIrreducible G a_s c_s w15 S_s.out (by omega)
      rw [show irrB G = (symB G || psymB G) from rfl] at c
      rw [ha] at c
      rw [hb'] at c
      have hk_bs : w15.cell? ⟨w2.heap.size, 0, none⟩ = some (.slice a_s G.length c_s) := B_bs.out.cell 0
      go_wp2_with fail
      refine c.mono ?_
      rintro e w16 ⟨rfl, hb⟩
      clear c
      clear hk_bs
      replace S_s := Lib.hid (S_s.out.below hb)
      replace B_bs := Lib.hid (B_bs.out.below hb)
      replace R_p := Lib.hid (R_p.out.below hb)
      replace R_x := Lib.hid (R_x.out.below hb)
      replace R_q := Lib.hid (R_q.out.below hb)
      replace R_z := Lib.hid (R_z.out.below hb)
      have z16 := hb.size
      replace hW := hW.trans (hb.mono hW.size)
      clear hb
      have c := spec_IsSemigroup G a_s c_s w16 S_s.out.sl (by omega)
      rw [hsg] at c
      have hk_bs : w16.cell? ⟨w2.heap.size, 0, none⟩ = some (.slice a_s G.length c_s) := B_bs.out.cell 0
      go_wp2_with fail
      refine c.mono ?_
      rintro e w17 ⟨rfl, hb⟩
      clear c
      clear hk_bs
      replace S_s := Lib.hid (S_s.out.below hb)
      replace B_bs := Lib.hid (B_bs.out.below hb)
      replace R_p := Lib.hid (R_p.out.below hb)
      replace R_x := Lib.hid (R_x.out.below hb)
      replace R_q := Lib.hid (R_q.out.below hb)
      replace R_z := Lib.hid (R_z.out.below hb)
      have z17 := hb.size
      replace hW := hW.trans (hb.mono hW.size)
      clear hb
      have c := cs_FrobeniusOf G a_s c_s w17 S_s.out (by omega)
      rw [hf] at c
      have hk_bs : w17.cell? ⟨w2.heap.size, 0, none⟩ = some (.slice a_s G.length c_s) := B_bs.out.cell 0
      go_wp2_with fail
      refine c.mono ?_
      rintro e w18 ⟨rfl, hb⟩
      clear c
      clear hk_bs
      replace S_s := Lib.hid (S_s.out.below hb)
      replace B_bs := Lib.hid (B_bs.out.below hb)
      replace R_p := Lib.hid (R_p.out.below hb)
      replace R_x := Lib.hid (R_x.out.below hb)
      replace R_q := Lib.hid (R_q.out.below hb)
      replace R_z := Lib.hid (R_z.out.below hb)
      have z18 := hb.size
      replace hW := hW.trans (hb.mono hW.size)
      clear hb
      have c := cs_GenusOf G a_s c_s w18 S_s.out (by omega)
      rw [hg] at c
      have hk_bs : w18.cell? ⟨w2.heap.size, 0, none⟩ = some (.slice a_s G.length c_s) := B_bs.out.cell 0
      go_wp2_with fail
      refine c.mono ?_
      rintro e w19 ⟨rfl, hb⟩
      clear c
      clear hk_bs
      replace S_s := Lib.hid (S_s.out.below hb)
      replace B_bs := Lib.hid (B_bs.out.below hb)
      replace R_p := Lib.hid (R_p.out.below hb)
      replace R_x := Lib.hid (R_x.out.below hb)
      replace R_q := Lib.hid (R_q.out.below hb)
      replace R_z := Lib.hid (R_z.out.below hb)
      have z19 := hb.size
      replace hW := hW.trans (hb.mono hW.size)
      clear hb
      by_cases hf1 : f < 1
      · skip
        have hdf := decide_eq_true hf1
        have hk_bs : w19.cell? ⟨w2.heap.size, 0, none⟩ = some (.slice a_s G.length c_s) := B_bs.out.cell 0
        go_wp2_with fail
        go_ret
        exact ⟨rfl, hW⟩
      · skip
        have hdf := decide_eq_false hf1
        have c := spec_HasNumber (specL G) f a_x c_x w19 R_x.out.slv (by unfold maxLen; omega)
        rw [HX.out (by omega)] at c
        have hk_bs : w19.cell? ⟨w2.heap.size, 0, none⟩ = some (.slice a_s G.length c_s) := B_bs.out.cell 0
        go_wp2_with fail
        refine c.mono ?_
        rintro e w20 ⟨rfl, hww⟩
        clear c
        clear hk_bs
        have hb : Below w19.heap.size w19 w20 := by rw [hww]; exact Below.refl _ _
        clear hww
        replace S_s := Lib.hid (S_s.out.below hb)
        replace B_bs := Lib.hid (B_bs.out.below hb)
        replace R_p := Lib.hid (R_p.out.below hb)
        replace R_x := Lib.hid (R_x.out.below hb)
        replace R_q := Lib.hid (R_q.out.below hb)
        replace R_z := Lib.hid (R_z.out.below hb)
        have z20 := hb.size
        replace hW := hW.trans (hb.mono hW.size)
        clear hb
        have hk_bs : w20.cell? ⟨w2.heap.size, 0, none⟩ = some (.slice a_s G.length c_s) := B_bs.out.cell 0
        go_wp2_with fail
        go_ret
        exact ⟨rfl, hW⟩

set_option maxRecDepth 100000 in
set_option maxHeartbeats 800000 in
theorem FnSymmetry.walk (p0 : Option Addr) (len0 cap0 : Nat) (z0 : List Int) (W : World) (r0 : IsRow .u8 W p0 len0 cap0 z0) (_ : W.ShapedOpen Try.prog) :
    Calls Try.prog 3 #[.slice p0 len0 cap0] W fun e w' => e = .returned (.bool true) ∧ Below W.heap.size W w' := by
  by_cases hl : len0 ≤ 1048576
  · exact fnSymmetry_small p0 len0 cap0 z0 W r0 hl
  · have cb := big_any p0 len0 cap0 W (row_maxLen r0)
    rw [decide_eq_true (show 1048576 < len0 by omega)] at cb
    go_enter Try.func3, Try.ntmps3
    go_wp2_with fail
    refine cb.mono ?_
    rintro e w0 ⟨rfl, rfl⟩
    go_wp2_with fail
    go_ret
    exact ⟨rfl, Below.refl _ _⟩
end Go.Proofs.Ytglonnfagnlmjaa
