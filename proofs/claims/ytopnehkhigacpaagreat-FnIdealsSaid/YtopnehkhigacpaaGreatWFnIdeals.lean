/-
  THE WALK OF THE LAW FnIdeals: ideals are those of their smallest lists, the dual one is what leads into it, the canonical one mirrors the semigroup (written by fn_ideals.py of the verifier's own).
-/
import Derived.Test.YtopnehkhigacpaaGreatRows
import Derived.Test.YtopnehkhigacpaaGreatDrw21
import Derived.Test.YtopnehkhigacpaaGreatDrw23
import Derived.Test.YtopnehkhigacpaaGreatC16
import Derived.Test.YtopnehkhigacpaaGreatC3
import Derived.Test.YtopnehkhigacpaaGreatL28
import Derived.Test.YtopnehkhigacpaaGreatSgIe
import Derived.Test.YtopnehkhigacpaaGreatSgQ
import Derived.Deep.DeepCutAuto
namespace Go.Proofs.YtopnehkhigacpaaGreat
open Go Go.RowKit

theorem zeroAt {V w : World} (_ : Below V.heap.size V w) : SlW (w.alloc (.cells #[.int .i64 0] 3)) (some ⟨w.heap.size, 0, none⟩) 1 (([0] : List Int).map (Value.int .i64)) := by
  have hA := Arr.new w 3 [.int .i64 0]
  refine ⟨.inr ⟨w.heap.size, 0, rfl, hA.lt, fun j u hu => ?_⟩, (fun h => by cases h), (by simp), (by decide)⟩
  rw [Nat.zero_add, show w.alloc (.cells #[Value.int .i64 0] 3) = w.alloc (.cells [Value.int .i64 0].toArray 3) from rfl, hA.cell j]; exact hu
theorem zero_in {G : List Int} (hs : isSgB G = true) {z : Int} (h1 : -1000 ≤ z) (h2 : z ≤ 1000) : inIdB G [0] z = hasN G z := by
  unfold inIdB
  rw [hs, show validB [0] = true by decide, small_iff.2 ⟨by omega, by omega⟩]
  simp
theorem topL_asc (G L : List Int) (dn : Bool) : Asc (topL G L dn) := by
  unfold topL; split
  · exact (sortL_spec _).1
  · intro i j hj; simp at hj
theorem dual_asc (G L : List Int) : Asc (dualL G L) := by
  unfold dualL; split
  · exact topL_asc _ _ _
  · intro i j hj; simp at hj
theorem asc_ends {L : List Int} (h : Asc L) {l1 : Nat} (h0 : 0 < L.length) (h1 : l1 < L.length) (hl : L.length ≤ l1 + 1) : ∀ x ∈ L, L[0] ≤ x ∧ x ≤ L[l1] := by
  intro x hx
  obtain ⟨i, hi, rfl⟩ := List.getElem_of_mem hx
  constructor
  · rcases Nat.eq_zero_or_pos i with e | e
    · subst e; exact Int.le_refl _
    · have := h 0 i hi e; omega
  · rcases Nat.lt_or_ge i l1 with e | e
    · have := h i l1 h1 e; omega
    · have : i = l1 := by omega
      subst this; exact Int.le_refl _
theorem dual_ends (G L : List Int) {l1 : Nat} (h0 : 0 < (dualL G L).length) (h1 : l1 < (dualL G L).length) (hl : (dualL G L).length ≤ l1 + 1) : dualL G L ≠ [] → -200 ≤ (dualL G L)[0] → (dualL G L)[l1] ≤ 200 → (dualL G L).length ≤ 20 →
    isSgB G = true ∧ validB L = true ∧ ∀ y, -1000 ≤ y → y ≤ 1000 → inIdB G (dualL G L) y = L.all fun e => hasN G (y + e) := by
  intro hne ha hb h20
  have hc : (isSgB G && validB L) = true := by
    rcases Bool.eq_false_or_eq_true (isSgB G && validB L) with e | e
    · exact e
    · exact absurd (by unfold dualL; rw [e]; rfl) hne
  rw [Bool.and_eq_true] at hc
  obtain ⟨hs, hv⟩ := hc
  refine ⟨hs, hv, fun y hy1 hy2 => ?_⟩
  have hvd : validB (dualL G L) = true := validB_iff.2 ⟨fun x hx => by have := asc_ends (dual_asc G L) h0 h1 hl x hx; omega, by omega, h20⟩
  unfold inIdB
  rw [hs, hvd, small_iff.2 ⟨by omega, by omega⟩, Bool.true_and, Bool.true_and, Bool.true_and, Bool.eq_iff_iff, List.any_eq_true, List.all_eq_true]
  exact dual_in hs hv y
theorem canon_bnd {G : List Int} (hs : isSgB G = true) : ∀ z ∈ canonL G, 0 ≤ z ∧ z ≤ 200 := by
  intro z hz
  have hf := frob_cond hs
  have hc := condNat_le G
  rcases (canon_mem hs z).1 hz with ⟨-, rfl⟩ | ⟨n, hn, rfl⟩
  · omega
  · have := gap_lt hs (psf_gap hn)
    omega
theorem canon_ne {G : List Int} (hs : isSgB G = true) : canonL G ≠ [] := by
  intro e
  by_cases h : psfL G = []
  · have := (canon_mem hs 0).2 (.inl ⟨h, rfl⟩)
    rw [e] at this; cases this
  · obtain ⟨x, hx⟩ := List.exists_mem_of_ne_nil _ h
    obtain ⟨n, -, hn⟩ := (psfL_get hs).1 hx
    have := (canon_mem hs (frobN G - (n : Int))).2 (.inr ⟨n, hn, rfl⟩)
    rw [e] at this; cases this
theorem canon_in {G : List Int} (hs : isSgB G = true) (hb : ∀ z ∈ canonL G, 0 ≤ z ∧ z ≤ 200) (h20 : (canonL G).length ≤ 20) {y : Int} (hy1 : -1000 ≤ y) (hy2 : y ≤ 1000) : inIdB G (canonL G) y = decide (∃ z ∈ canonL G, hasN G (y - z) = true) := by
  have hv : validB (canonL G) = true := validB_iff.2 ⟨fun x hx => by have := hb x hx; omega, List.length_pos_iff.2 (canon_ne hs), h20⟩
  unfold inIdB
  rw [hs, hv, small_iff.2 ⟨by omega, by omega⟩, Bool.true_and, Bool.true_and, Bool.true_and, Bool.eq_iff_iff, List.any_eq_true, decide_eq_true_eq]
theorem psfL_asc (G : List Int) : Asc (psfL G) := by
  unfold psfL; split
  · exact upB_asc _ _
  · intro i j hj; simp at hj
theorem y_bnd {y f : Int} (h : y ≤ f + 5) (hf : f ≤ 199) (h5 : -5 ≤ y) : -1000 ≤ y ∧ y ≤ 1000 := by omega

set_option maxRecDepth 100000 in
set_option maxHeartbeats 25600000 in
theorem fnIdeals_small (p0 : Option Addr) (len0 cap0 : Nat) (z0 : List Int) (W : World) (r0 : IsRow .u8 W p0 len0 cap0 z0) (hl : len0 ≤ 1048576) :
    Calls Tryz.prog 3 #[.slice p0 len0 cap0] W fun e w' => e = .returned (.bool true) ∧ Below W.heap.size W w' := by
  have HR := Lib.hid r0
  clear r0
  have hW : Below W.heap.size W W := Below.refl _ _
  go_enter Tryz.func3, Tryz.ntmps3
  have c := big_b p0 len0 cap0 W (by unfold maxLen; omega)
  rw [decide_eq_false (show ¬ 1048576 < len0 by omega)] at c
  go_wp2_with fail
  refine c.mono ?_
  rintro e w1 ⟨rfl, hb⟩
  clear c
  have z1 := hb.size
  replace hW := hW.trans (hb.mono hW.size)
  clear hb
  have c := DrawInIdeal_any w1 p0 len0 cap0 z0 (HR.out.below hW) hl
  go_wp2_with fail
  refine c.mono ?_
  rintro e w2 ⟨Ls, a_s, c_s, Ll, a_l, c_l, x, hl_s, hB_s, hl_l, hB_l, hx64, rfl, hs, hs2, hb⟩
  clear c
  have z2 := hb.size
  replace hW := hW.trans (hb.mono hW.size)
  have S_s := Lib.hid hs
  have S_l := Lib.hid hs2
  clear hs hs2 hb hB_s hB_l
  obtain ⟨w3, hwb⟩ : ∃ wb, wb = w2.alloc (.cells #[.slice a_s Ls.length c_s] 26) := ⟨_, rfl⟩
  have hb : Below w2.heap.size w2 w3 := by rw [hwb]; exact box_below _ _
  have hA : Arr w3 w2.heap.size 26 [.slice a_s Ls.length c_s] := by rw [hwb]; exact Arr.new _ _ _
  replace S_s := Lib.hid (S_s.out.below hb)
  replace S_l := Lib.hid (S_l.out.below hb)
  have z3 := hb.size
  replace hW := hW.trans (hb.mono hW.size)
  have y3 : w2.heap.size < w3.heap.size := hA.lt
  have B_bs := Lib.hid hA
  have H_w3 := Lib.hid hwb
  clear hwb hb hA
  have c := ci_InIdeal Ls a_s c_s Ll a_l c_l x w3 S_s.out S_l.out (by omega) (by omega) hx64.1 hx64.2
  have hk_bs : w3.cell? ⟨w2.heap.size, 0, none⟩ = some (.slice a_s Ls.length c_s) := B_bs.out.cell 0
  rw [H_w3.out] at hk_bs
  go_wp2_with fail
  rw [← H_w3.out]
  refine c.mono ?_
  rintro e w4 ⟨rfl, hb⟩
  clear c
  clear hk_bs
  replace S_s := Lib.hid (S_s.out.below hb)
  replace S_l := Lib.hid (S_l.out.below hb)
  replace B_bs := Lib.hid (B_bs.out.below hb)
  have z4 := hb.size
  replace hW := hW.trans (hb.mono hW.size)
  clear hb
  have c := ci_IdealGens Ls a_s c_s Ll a_l c_l w4 S_s.out S_l.out (by omega) (by omega)
  have hk_bs : w4.cell? ⟨w2.heap.size, 0, none⟩ = some (.slice a_s Ls.length c_s) := B_bs.out.cell 0
  go_wp2_with fail
  refine c.mono ?_
  rintro e w5 ⟨v, rfl, ho, hb⟩
  clear c
  clear hk_bs
  obtain ⟨a_g, c_g, rfl, rX⟩ := row_open ho
  clear ho
  replace S_s := Lib.hid (S_s.out.below hb)
  replace S_l := Lib.hid (S_l.out.below hb)
  replace B_bs := Lib.hid (B_bs.out.below hb)
  have z5 := hb.size
  replace hW := hW.trans (hb.mono hW.size)
  have R_g := Lib.hid rX
  clear rX hb
  have c := DrawIdealSum_any w5 p0 len0 cap0 z0 (HR.out.below hW) hl
  have hk_bs : w5.cell? ⟨w2.heap.size, 0, none⟩ = some (.slice a_s Ls.length c_s) := B_bs.out.cell 0
  go_wp2_with fail
  refine c.mono ?_
  rintro e w6 ⟨La, a_a, c_a, Lb, a_b, c_b, Lc, a_c, c_c, hl_a, hB_a, hl_b, hB_b, hl_c, hB_c, rfl, hs, hs2, hs3, hb⟩
  clear c
  clear hk_bs
  replace S_s := Lib.hid (S_s.out.below hb)
  replace S_l := Lib.hid (S_l.out.below hb)
  replace B_bs := Lib.hid (B_bs.out.below hb)
  replace R_g := Lib.hid (R_g.out.below hb)
  have z6 := hb.size
  replace hW := hW.trans (hb.mono hW.size)
  have S_a := Lib.hid hs
  have S_b := Lib.hid hs2
  have S_c := Lib.hid hs3
  clear hs hs2 hs3 hb hB_a hB_b hB_c
  obtain ⟨w7, hwb⟩ : ∃ wb, wb = w6.alloc (.cells #[.slice a_a La.length c_a] 26) := ⟨_, rfl⟩
  have hb : Below w6.heap.size w6 w7 := by rw [hwb]; exact box_below _ _
  have hA : Arr w7 w6.heap.size 26 [.slice a_a La.length c_a] := by rw [hwb]; exact Arr.new _ _ _
  replace S_s := Lib.hid (S_s.out.below hb)
  replace S_l := Lib.hid (S_l.out.below hb)
  replace B_bs := Lib.hid (B_bs.out.below hb)
  replace R_g := Lib.hid (R_g.out.below hb)
  replace S_a := Lib.hid (S_a.out.below hb)
  replace S_b := Lib.hid (S_b.out.below hb)
  replace S_c := Lib.hid (S_c.out.below hb)
  have z7 := hb.size
  replace hW := hW.trans (hb.mono hW.size)
  have y7 : w6.heap.size < w7.heap.size := hA.lt
  have B_ba := Lib.hid hA
  have H_w7 := Lib.hid hwb
  clear hwb hb hA
  have c := DrawDualGens_any w7 p0 len0 cap0 z0 (HR.out.below hW) hl
  have hk_bs : w7.cell? ⟨w2.heap.size, 0, none⟩ = some (.slice a_s Ls.length c_s) := B_bs.out.cell 0
  have hk_ba : w7.cell? ⟨w6.heap.size, 0, none⟩ = some (.slice a_a La.length c_a) := B_ba.out.cell 0
  rw [H_w7.out] at hk_bs hk_ba
  go_wp2_with fail
  rw [← H_w7.out]
  refine c.mono ?_
  rintro e w8 ⟨Ld, a_d, c_d, Le, a_e, c_e, hl_d, hB_d, hl_e, hB_e, rfl, hs, hs2, hb⟩
  clear c
  clear hk_bs hk_ba
  have HIE := Lib.hid hB_e
  replace S_s := Lib.hid (S_s.out.below hb)
  replace S_l := Lib.hid (S_l.out.below hb)
  replace B_bs := Lib.hid (B_bs.out.below hb)
  replace R_g := Lib.hid (R_g.out.below hb)
  replace S_a := Lib.hid (S_a.out.below hb)
  replace S_b := Lib.hid (S_b.out.below hb)
  replace S_c := Lib.hid (S_c.out.below hb)
  replace B_ba := Lib.hid (B_ba.out.below hb)
  have z8 := hb.size
  replace hW := hW.trans (hb.mono hW.size)
  have S_d := Lib.hid hs
  have S_e := Lib.hid hs2
  clear hs hs2 hb hB_d hB_e
  obtain ⟨w9, hwb⟩ : ∃ wb, wb = w8.alloc (.cells #[.slice a_d Ld.length c_d] 26) := ⟨_, rfl⟩
  have hb : Below w8.heap.size w8 w9 := by rw [hwb]; exact box_below _ _
  have hA : Arr w9 w8.heap.size 26 [.slice a_d Ld.length c_d] := by rw [hwb]; exact Arr.new _ _ _
  replace S_s := Lib.hid (S_s.out.below hb)
  replace S_l := Lib.hid (S_l.out.below hb)
  replace B_bs := Lib.hid (B_bs.out.below hb)
  replace R_g := Lib.hid (R_g.out.below hb)
  replace S_a := Lib.hid (S_a.out.below hb)
  replace S_b := Lib.hid (S_b.out.below hb)
  replace S_c := Lib.hid (S_c.out.below hb)
  replace B_ba := Lib.hid (B_ba.out.below hb)
  replace S_d := Lib.hid (S_d.out.below hb)
  replace S_e := Lib.hid (S_e.out.below hb)
  have z9 := hb.size
  replace hW := hW.trans (hb.mono hW.size)
  have y9 : w8.heap.size < w9.heap.size := hA.lt
  have B_bd := Lib.hid hA
  have H_w9 := Lib.hid hwb
  clear hwb hb hA
  have c := ci_DualGens Ld a_d c_d Le a_e c_e w9 S_d.out S_e.out (by omega) (by omega)
  have hk_bs : w9.cell? ⟨w2.heap.size, 0, none⟩ = some (.slice a_s Ls.length c_s) := B_bs.out.cell 0
  have hk_ba : w9.cell? ⟨w6.heap.size, 0, none⟩ = some (.slice a_a La.length c_a) := B_ba.out.cell 0
  have hk_bd : w9.cell? ⟨w8.heap.size, 0, none⟩ = some (.slice a_d Ld.length c_d) := B_bd.out.cell 0
  rw [H_w9.out] at hk_bs hk_ba hk_bd
  go_wp2_with fail
  rw [← H_w9.out]
  refine c.mono ?_
  rintro e w10 ⟨v, rfl, ho, hb⟩
  clear c
  clear hk_bs hk_ba hk_bd
  obtain ⟨a_u, c_u, rfl, rX⟩ := row_open ho
  clear ho
  replace S_s := Lib.hid (S_s.out.below hb)
  replace S_l := Lib.hid (S_l.out.below hb)
  replace B_bs := Lib.hid (B_bs.out.below hb)
  replace R_g := Lib.hid (R_g.out.below hb)
  replace S_a := Lib.hid (S_a.out.below hb)
  replace S_b := Lib.hid (S_b.out.below hb)
  replace S_c := Lib.hid (S_c.out.below hb)
  replace B_ba := Lib.hid (B_ba.out.below hb)
  replace S_d := Lib.hid (S_d.out.below hb)
  replace S_e := Lib.hid (S_e.out.below hb)
  replace B_bd := Lib.hid (B_bd.out.below hb)
  have z10 := hb.size
  replace hW := hW.trans (hb.mono hW.size)
  have R_u := Lib.hid rX
  clear rX hb
  have c := DrawCanonicalGens_any w10 p0 len0 cap0 z0 (HR.out.below hW) hl
  have hk_bs : w10.cell? ⟨w2.heap.size, 0, none⟩ = some (.slice a_s Ls.length c_s) := B_bs.out.cell 0
  have hk_ba : w10.cell? ⟨w6.heap.size, 0, none⟩ = some (.slice a_a La.length c_a) := B_ba.out.cell 0
  have hk_bd : w10.cell? ⟨w8.heap.size, 0, none⟩ = some (.slice a_d Ld.length c_d) := B_bd.out.cell 0
  go_wp2_with fail
  refine c.mono ?_
  rintro e w11 ⟨Lt, a_t, c_t, hl_t, hB_t, rfl, hs, hb⟩
  clear c
  clear hk_bs hk_ba hk_bd
  replace S_s := Lib.hid (S_s.out.below hb)
  replace S_l := Lib.hid (S_l.out.below hb)
  replace B_bs := Lib.hid (B_bs.out.below hb)
  replace R_g := Lib.hid (R_g.out.below hb)
  replace S_a := Lib.hid (S_a.out.below hb)
  replace S_b := Lib.hid (S_b.out.below hb)
  replace S_c := Lib.hid (S_c.out.below hb)
  replace B_ba := Lib.hid (B_ba.out.below hb)
  replace S_d := Lib.hid (S_d.out.below hb)
  replace S_e := Lib.hid (S_e.out.below hb)
  replace B_bd := Lib.hid (B_bd.out.below hb)
  replace R_u := Lib.hid (R_u.out.below hb)
  have z11 := hb.size
  replace hW := hW.trans (hb.mono hW.size)
  have S_t := Lib.hid hs
  clear hs hb hB_t
  obtain ⟨w12, hwb⟩ : ∃ wb, wb = w11.alloc (.cells #[.slice a_t Lt.length c_t] 26) := ⟨_, rfl⟩
  have hb : Below w11.heap.size w11 w12 := by rw [hwb]; exact box_below _ _
  have hA : Arr w12 w11.heap.size 26 [.slice a_t Lt.length c_t] := by rw [hwb]; exact Arr.new _ _ _
  replace S_s := Lib.hid (S_s.out.below hb)
  replace S_l := Lib.hid (S_l.out.below hb)
  replace B_bs := Lib.hid (B_bs.out.below hb)
  replace R_g := Lib.hid (R_g.out.below hb)
  replace S_a := Lib.hid (S_a.out.below hb)
  replace S_b := Lib.hid (S_b.out.below hb)
  replace S_c := Lib.hid (S_c.out.below hb)
  replace B_ba := Lib.hid (B_ba.out.below hb)
  replace S_d := Lib.hid (S_d.out.below hb)
  replace S_e := Lib.hid (S_e.out.below hb)
  replace B_bd := Lib.hid (B_bd.out.below hb)
  replace R_u := Lib.hid (R_u.out.below hb)
  replace S_t := Lib.hid (S_t.out.below hb)
  have z12 := hb.size
  replace hW := hW.trans (hb.mono hW.size)
  have y12 : w11.heap.size < w12.heap.size := hA.lt
  have B_bt := Lib.hid hA
  have H_w12 := Lib.hid hwb
  clear hwb hb hA
  have c := ci_CanonicalGens Lt a_t c_t w12 S_t.out (by omega)
  have hk_bs : w12.cell? ⟨w2.heap.size, 0, none⟩ = some (.slice a_s Ls.length c_s) := B_bs.out.cell 0
  have hk_ba : w12.cell? ⟨w6.heap.size, 0, none⟩ = some (.slice a_a La.length c_a) := B_ba.out.cell 0
  have hk_bd : w12.cell? ⟨w8.heap.size, 0, none⟩ = some (.slice a_d Ld.length c_d) := B_bd.out.cell 0
  have hk_bt : w12.cell? ⟨w11.heap.size, 0, none⟩ = some (.slice a_t Lt.length c_t) := B_bt.out.cell 0
  rw [H_w12.out] at hk_bs hk_ba hk_bd hk_bt
  go_wp2_with fail
  rw [← H_w12.out]
  refine c.mono ?_
  rintro e w13 ⟨v, rfl, ho, hb⟩
  clear c
  clear hk_bs hk_ba hk_bd hk_bt
  obtain ⟨a_k, c_k, rfl, rX⟩ := row_open ho
  clear ho
  replace S_s := Lib.hid (S_s.out.below hb)
  replace S_l := Lib.hid (S_l.out.below hb)
  replace B_bs := Lib.hid (B_bs.out.below hb)
  replace R_g := Lib.hid (R_g.out.below hb)
  replace S_a := Lib.hid (S_a.out.below hb)
  replace S_b := Lib.hid (S_b.out.below hb)
  replace S_c := Lib.hid (S_c.out.below hb)
  replace B_ba := Lib.hid (B_ba.out.below hb)
  replace S_d := Lib.hid (S_d.out.below hb)
  replace S_e := Lib.hid (S_e.out.below hb)
  replace B_bd := Lib.hid (B_bd.out.below hb)
  replace R_u := Lib.hid (R_u.out.below hb)
  replace S_t := Lib.hid (S_t.out.below hb)
  replace B_bt := Lib.hid (B_bt.out.below hb)
  have z13 := hb.size
  replace hW := hW.trans (hb.mono hW.size)
  have R_k := Lib.hid rX
  clear rX hb
  obtain ⟨iv, hq⟩ : ∃ t, t = inIdB Ls Ll x := ⟨_, rfl⟩
  have HIV : Hid (inIdB Ls Ll x = iv) := Lib.hid hq.symm
  rw [← hq]
  clear hq
  have hii : (iv != iv) = false := by cases iv <;> rfl
  have hgl := idGensL_len Ls Ll
  have hsl := idSumL_len La Lb Lc
  have hdl := dualL_len Ld Le
  have hkl := canonL_len Lt
  have hl_bs : w2.heap.size < w13.heap.size := B_bs.out.lt
  have hl_ba : w6.heap.size < w13.heap.size := B_ba.out.lt
  have hl_bd : w8.heap.size < w13.heap.size := B_bd.out.lt
  have hl_bt : w11.heap.size < w13.heap.size := B_bt.out.lt
  have HK : Hid (∀ w', Below w13.heap.size w13 w' → w'.cell? ⟨w2.heap.size, 0, none⟩ = some (.slice a_s Ls.length c_s) ∧ w'.cell? ⟨w6.heap.size, 0, none⟩ = some (.slice a_a La.length c_a) ∧ w'.cell? ⟨w8.heap.size, 0, none⟩ = some (.slice a_d Ld.length c_d) ∧ w'.cell? ⟨w11.heap.size, 0, none⟩ = some (.slice a_t Lt.length c_t) ∧ Below w13.heap.size w13 w') := Lib.hid fun w' h => ⟨(h.cell (p := ⟨w2.heap.size, 0, none⟩) hl_bs).trans (B_bs.out.cell 0), (h.cell (p := ⟨w6.heap.size, 0, none⟩) hl_ba).trans (B_ba.out.cell 0), (h.cell (p := ⟨w8.heap.size, 0, none⟩) hl_bd).trans (B_bd.out.cell 0), (h.cell (p := ⟨w11.heap.size, 0, none⟩) hl_bt).trans (B_bt.out.cell 0), h⟩
  have hS0 : Hid (w13.drew.cell? ⟨w2.heap.size, 0, none⟩ = some (.slice a_s Ls.length c_s) ∧ w13.drew.cell? ⟨w6.heap.size, 0, none⟩ = some (.slice a_a La.length c_a) ∧ w13.drew.cell? ⟨w8.heap.size, 0, none⟩ = some (.slice a_d Ld.length c_d) ∧ w13.drew.cell? ⟨w11.heap.size, 0, none⟩ = some (.slice a_t Lt.length c_t) ∧ Below w13.heap.size w13 w13.drew) := Lib.hid (HK.out _ (Below.refl w13.heap.size w13).drew)
  have hk_bs : w13.cell? ⟨w2.heap.size, 0, none⟩ = some (.slice a_s Ls.length c_s) := B_bs.out.cell 0
  have hk_ba : w13.cell? ⟨w6.heap.size, 0, none⟩ = some (.slice a_a La.length c_a) := B_ba.out.cell 0
  have hk_bd : w13.cell? ⟨w8.heap.size, 0, none⟩ = some (.slice a_d Ld.length c_d) := B_bd.out.cell 0
  have hk_bt : w13.cell? ⟨w11.heap.size, 0, none⟩ = some (.slice a_t Lt.length c_t) := B_bt.out.cell 0
  go_wp2_with fail
  clear hk_bs hk_ba hk_bd hk_bt
  refine wp_region_held_drew (S := fun w' => w'.cell? ⟨w2.heap.size, 0, none⟩ = some (.slice a_s Ls.length c_s) ∧ w'.cell? ⟨w6.heap.size, 0, none⟩ = some (.slice a_a La.length c_a) ∧ w'.cell? ⟨w8.heap.size, 0, none⟩ = some (.slice a_d Ld.length c_d) ∧ w'.cell? ⟨w11.heap.size, 0, none⟩ = some (.slice a_t Lt.length c_t) ∧ Below w13.heap.size w13 w') (by kernel_rfl) hS0.out (fun hHeld => ?_)
  refine held_take 0 _ _ rfl (by kernel_rfl) (by kernel_rfl) (by kernel_rfl) (fun _ _ _ h => h) (by rfl) hHeld (fun w hSw => by (try dsimp only at hSw); go_simp; try with_reducible rfl) ?_
  (try simp only [Act.put, List.setIfInBounds_toArray, List.set_cons_zero, List.set_cons_succ, List.getElem_toArray, List.getElem_cons_zero])
  refine held_take 1 _ _ rfl (by kernel_rfl) (by kernel_rfl) (by kernel_rfl) (fun _ _ _ h => h) (by rfl) hHeld (fun w hSw => by (try dsimp only at hSw); go_simp; try with_reducible rfl) ?_
  (try simp only [Act.put, List.setIfInBounds_toArray, List.set_cons_zero, List.set_cons_succ, List.getElem_toArray, List.getElem_cons_succ, List.getElem_cons_zero])
  refine held_take 2 _ _ rfl (by kernel_rfl) (by kernel_rfl) (by kernel_rfl) (fun _ _ _ h => h) (by rfl) hHeld (fun w hSw => by (try dsimp only at hSw); go_simp; try with_reducible rfl) ?_
  (try simp only [Act.put, List.setIfInBounds_toArray, List.set_cons_zero, List.set_cons_succ, List.getElem_toArray, List.getElem_cons_succ, List.getElem_cons_zero])
  refine held_take 3 _ _ rfl (by kernel_rfl) (by kernel_rfl) (by kernel_rfl) (fun _ _ _ h => h) (by rfl) hHeld (fun w hSw => by (try dsimp only at hSw); go_simp; try with_reducible rfl) ?_
  (try simp only [Act.put, List.setIfInBounds_toArray, List.set_cons_zero, List.set_cons_succ, List.getElem_toArray, List.getElem_cons_succ, List.getElem_cons_zero])
  refine wpAnyH_ready (rs := [4]) (by kernel_rfl) (by simp) ?_
  refine AllReadyH.cons rfl (fun K hK => ?_) AllReadyH.nil
  rw [if_pos (by rfl)]
  go_wp2_with (first | (go_at_call 13; have c := cs_InIdeal Ls a_s c_s Ll a_l c_l x _ (S_s.out.below (hHeld).2.2.2.2) (S_l.out.below (hHeld).2.2.2.2) (by omega) (by omega) hx64.1 hx64.2; rw [HIV.out] at c; (with_reducible refine c.mono ?_); rintro e wk ⟨rfl, hbk⟩; clear c))
  refine hK.out _ _ (HK.out _ ((hHeld).2.2.2.2.trans (hbk.mono (hHeld).2.2.2.2.size))) (fun hHeld1 => ?_)
  clear hK K
  (try simp only [Act.put, List.setIfInBounds_toArray, List.set_cons_zero, List.set_cons_succ, List.getElem_toArray, List.getElem_cons_succ, List.getElem_cons_zero])
  refine held_take 5 _ _ rfl (by kernel_rfl) (by kernel_rfl) (by kernel_rfl) (fun _ _ _ h => h) (by rfl) hHeld1 (fun w hSw => by (try dsimp only at hSw); go_simp; try with_reducible rfl) ?_
  (try simp only [Act.put, List.setIfInBounds_toArray, List.set_cons_zero, List.set_cons_succ, List.getElem_toArray, List.getElem_cons_succ, List.getElem_cons_zero])
  refine held_take 6 _ _ rfl (by kernel_rfl) (by kernel_rfl) (by kernel_rfl) (fun _ _ _ h => h) (by rfl) hHeld1 (fun w hSw => by (try dsimp only at hSw); go_simp; try with_reducible rfl) ?_
  (try simp only [Act.put, List.setIfInBounds_toArray, List.set_cons_zero, List.set_cons_succ, List.getElem_toArray, List.getElem_cons_succ, List.getElem_cons_zero])
  refine held_take 7 _ _ rfl (by kernel_rfl) (by kernel_rfl) (by kernel_rfl) (fun _ _ _ h => h) (by rfl) hHeld1 (fun w hSw => by (try dsimp only at hSw); go_simp; try with_reducible rfl) ?_
  (try simp only [Act.put, List.setIfInBounds_toArray, List.set_cons_zero, List.set_cons_succ, List.getElem_toArray, List.getElem_cons_succ, List.getElem_cons_zero])
  refine held_take 8 _ _ rfl (by kernel_rfl) (by kernel_rfl) (by kernel_rfl) (fun _ _ _ h => h) (by rfl) hHeld1 (fun w hSw => by (try dsimp only at hSw); go_simp; try with_reducible rfl) ?_
  (try simp only [Act.put, List.setIfInBounds_toArray, List.set_cons_zero, List.set_cons_succ, List.getElem_toArray, List.getElem_cons_succ, List.getElem_cons_zero])
  refine held_take 9 _ _ rfl (by kernel_rfl) (by kernel_rfl) (by kernel_rfl) (fun _ _ _ h => h) (by rfl) hHeld1 (fun w hSw => by (try dsimp only at hSw); go_simp; try with_reducible rfl) ?_
  (try simp only [Act.put, List.setIfInBounds_toArray, List.set_cons_zero, List.set_cons_succ, List.getElem_toArray, List.getElem_cons_succ, List.getElem_cons_zero])
  refine wpAnyH_ready (rs := [10]) (by kernel_rfl) (by simp) ?_
  refine AllReadyH.cons rfl (fun K hK => ?_) AllReadyH.nil
  rw [if_pos (by rfl)]
  go_wp2_with (first | (go_at_call 15; have c := cs_IdealGens Ls a_s c_s Ll a_l c_l _ (S_s.out.below (hHeld1).2.2.2.2) (S_l.out.below (hHeld1).2.2.2.2) (by omega) (by omega); (with_reducible refine c.mono ?_); rintro e wk ⟨v, rfl, ho, hbk⟩; obtain ⟨a_q1, c_q1, rfl, rX⟩ := row_open ho; have Q_q1 := rX.slv; clear ho rX c))
  refine hK.out _ _ (HK.out _ ((hHeld1).2.2.2.2.trans (hbk.mono (hHeld1).2.2.2.2.size))) (fun hHeld2 => ?_)
  clear hK K
  (try simp only [Act.put, List.setIfInBounds_toArray, List.set_cons_zero, List.set_cons_succ, List.getElem_toArray, List.getElem_cons_succ, List.getElem_cons_zero])
  refine wpAnyH_ready (rs := [11]) (by kernel_rfl) (by simp) ?_
  refine AllReadyH.cons rfl (fun K hK => ?_) AllReadyH.nil
  rw [if_pos (by rfl)]
  go_wp2_with (first | (go_at_call 14; have c := sameInts_any (idGensL Ls Ll) (idGensL Ls Ll) a_g a_q1 c_g c_q1 _ (R_g.out.slv.below (hHeld2).2.2.2.2) Q_q1 (by omega) (by omega); rw [decide_eq_true (rfl : idGensL Ls Ll = idGensL Ls Ll)] at c; (with_reducible refine c.mono ?_); rintro e wk ⟨rfl, hbk⟩; clear c))
  refine hK.out _ _ (HK.out _ ((hHeld2).2.2.2.2.trans (hbk.mono (hHeld2).2.2.2.2.size))) (fun hHeld3 => ?_)
  clear hK K
  (try simp only [Act.put, List.setIfInBounds_toArray, List.set_cons_zero, List.set_cons_succ, List.getElem_toArray, List.getElem_cons_succ, List.getElem_cons_zero])
  refine held_take 12 _ _ rfl (by kernel_rfl) (by kernel_rfl) (by kernel_rfl) (fun _ _ _ h => h) (by rfl) hHeld3 (fun w hSw => by (try dsimp only at hSw); go_simp; try with_reducible rfl) ?_
  (try simp only [Act.put, List.setIfInBounds_toArray, List.set_cons_zero, List.set_cons_succ, List.getElem_toArray, List.getElem_cons_succ, List.getElem_cons_zero])
  refine held_take 13 _ _ rfl (by kernel_rfl) (by kernel_rfl) (by kernel_rfl) (fun _ _ _ h => h) (by rfl) hHeld3 (fun w hSw => by (try dsimp only at hSw); go_simp; try with_reducible rfl) ?_
  (try simp only [Act.put, List.setIfInBounds_toArray, List.set_cons_zero, List.set_cons_succ, List.getElem_toArray, List.getElem_cons_succ, List.getElem_cons_zero])
  refine held_take 14 _ _ rfl (by kernel_rfl) (by kernel_rfl) (by kernel_rfl) (fun _ _ _ h => h) (by rfl) hHeld3 (fun w hSw => by (try dsimp only at hSw); go_simp; try with_reducible rfl) ?_
  (try simp only [Act.put, List.setIfInBounds_toArray, List.set_cons_zero, List.set_cons_succ, List.getElem_toArray, List.getElem_cons_succ, List.getElem_cons_zero])
  refine held_take 15 _ _ rfl (by kernel_rfl) (by kernel_rfl) (by kernel_rfl) (fun _ _ _ h => h) (by rfl) hHeld3 (fun w hSw => by (try dsimp only at hSw); go_simp; try with_reducible rfl) ?_
  (try simp only [Act.put, List.setIfInBounds_toArray, List.set_cons_zero, List.set_cons_succ, List.getElem_toArray, List.getElem_cons_succ, List.getElem_cons_zero])
  refine held_take 16 _ _ rfl (by kernel_rfl) (by kernel_rfl) (by kernel_rfl) (fun _ _ _ h => h) (by rfl) hHeld3 (fun w hSw => by (try dsimp only at hSw); go_simp; try with_reducible rfl) ?_
  (try simp only [Act.put, List.setIfInBounds_toArray, List.set_cons_zero, List.set_cons_succ, List.getElem_toArray, List.getElem_cons_succ, List.getElem_cons_zero])
  refine held_take 17 _ _ rfl (by kernel_rfl) (by kernel_rfl) (by kernel_rfl) (fun _ _ _ h => h) (by rfl) hHeld3 (fun w hSw => by (try dsimp only at hSw); go_simp; try with_reducible rfl) ?_
  (try simp only [Act.put, List.setIfInBounds_toArray, List.set_cons_zero, List.set_cons_succ, List.getElem_toArray, List.getElem_cons_succ, List.getElem_cons_zero])
  refine held_take 19 _ _ rfl (by kernel_rfl) (by kernel_rfl) (by kernel_rfl) (fun _ _ _ h => h) (by rfl) hHeld3 (fun w hSw => by (try dsimp only at hSw); go_simp; try with_reducible rfl) ?_
  (try simp only [Act.put, List.setIfInBounds_toArray, List.set_cons_zero, List.set_cons_succ, List.getElem_toArray, List.getElem_cons_succ, List.getElem_cons_zero])
  refine held_take 20 _ _ rfl (by kernel_rfl) (by kernel_rfl) (by kernel_rfl) (fun _ _ _ h => h) (by rfl) hHeld3 (fun w hSw => by (try dsimp only at hSw); go_simp; try with_reducible rfl) ?_
  (try simp only [Act.put, List.setIfInBounds_toArray, List.set_cons_zero, List.set_cons_succ, List.getElem_toArray, List.getElem_cons_succ, List.getElem_cons_zero])
  refine held_take 21 _ _ rfl (by kernel_rfl) (by kernel_rfl) (by kernel_rfl) (fun _ _ _ h => h) (by rfl) hHeld3 (fun w hSw => by (try dsimp only at hSw); go_simp; try with_reducible rfl) ?_
  (try simp only [Act.put, List.setIfInBounds_toArray, List.set_cons_zero, List.set_cons_succ, List.getElem_toArray, List.getElem_cons_succ, List.getElem_cons_zero])
  refine wpAnyH_ready (rs := [18]) (by kernel_rfl) (by simp) ?_
  refine AllReadyH.cons rfl (fun K hK => ?_) AllReadyH.nil
  rw [if_pos (by rfl)]
  go_wp2_with (first | (go_at_call 16; have c := ci_IdealSum La a_a c_a Lb a_b c_b Lc a_c c_c _ (S_a.out.below (hHeld3).2.2.2.2) (S_b.out.below (hHeld3).2.2.2.2) (S_c.out.below (hHeld3).2.2.2.2) (by omega) (by omega) (by omega); (with_reducible refine c.mono ?_); rintro e wk ⟨v, rfl, ho, hbk⟩; obtain ⟨a_q2, c_q2, rfl, rX⟩ := row_open ho; have Q_q2 := rX.slv; clear ho rX c))
  refine hK.out _ _ (HK.out _ ((hHeld3).2.2.2.2.trans (hbk.mono (hHeld3).2.2.2.2.size))) (fun hHeld4 => ?_)
  clear hK K
  (try simp only [Act.put, List.setIfInBounds_toArray, List.set_cons_zero, List.set_cons_succ, List.getElem_toArray, List.getElem_cons_succ, List.getElem_cons_zero])
  refine wpAnyH_ready (rs := [22]) (by kernel_rfl) (by simp) ?_
  refine AllReadyH.cons rfl (fun K hK => ?_) AllReadyH.nil
  rw [if_pos (by rfl)]
  go_wp2_with (first | (go_at_call 17; have c := cs_IdealSum La a_a c_a Lb a_b c_b Lc a_c c_c _ (S_a.out.below (hHeld4).2.2.2.2) (S_b.out.below (hHeld4).2.2.2.2) (S_c.out.below (hHeld4).2.2.2.2) (by omega) (by omega) (by omega); (with_reducible refine c.mono ?_); rintro e wk ⟨v, rfl, ho, hbk⟩; obtain ⟨a_q3, c_q3, rfl, rX⟩ := row_open ho; have Q_q3 := rX.slv; have Q_q2' := Q_q2.below hbk; clear ho rX c))
  refine hK.out _ _ (HK.out _ ((hHeld4).2.2.2.2.trans (hbk.mono (hHeld4).2.2.2.2.size))) (fun hHeld5 => ?_)
  clear hK K
  (try simp only [Act.put, List.setIfInBounds_toArray, List.set_cons_zero, List.set_cons_succ, List.getElem_toArray, List.getElem_cons_succ, List.getElem_cons_zero])
  refine wpAnyH_ready (rs := [23]) (by kernel_rfl) (by simp) ?_
  refine AllReadyH.cons rfl (fun K hK => ?_) AllReadyH.nil
  rw [if_pos (by rfl)]
  go_wp2_with (first | (go_at_call 14; have c := sameInts_any (idSumL La Lb Lc) (idSumL La Lb Lc) a_q2 a_q3 c_q2 c_q3 _ Q_q2' Q_q3 (by omega) (by omega); rw [decide_eq_true (rfl : idSumL La Lb Lc = idSumL La Lb Lc)] at c; (with_reducible refine c.mono ?_); rintro e wk ⟨rfl, hbk⟩; clear c))
  refine hK.out _ _ (HK.out _ ((hHeld5).2.2.2.2.trans (hbk.mono (hHeld5).2.2.2.2.size))) (fun hHeld6 => ?_)
  clear hK K
  (try simp only [Act.put, List.setIfInBounds_toArray, List.set_cons_zero, List.set_cons_succ, List.getElem_toArray, List.getElem_cons_succ, List.getElem_cons_zero])
  refine held_take 24 _ _ rfl (by kernel_rfl) (by kernel_rfl) (by kernel_rfl) (fun _ _ _ h => h) (by rfl) hHeld6 (fun w hSw => by (try dsimp only at hSw); go_simp; try with_reducible rfl) ?_
  (try simp only [Act.put, List.setIfInBounds_toArray, List.set_cons_zero, List.set_cons_succ, List.getElem_toArray, List.getElem_cons_succ, List.getElem_cons_zero])
  refine held_take 25 _ _ rfl (by kernel_rfl) (by kernel_rfl) (by kernel_rfl) (fun _ _ _ h => h) (by rfl) hHeld6 (fun w hSw => by (try dsimp only at hSw); go_simp; try with_reducible rfl) ?_
  (try simp only [Act.put, List.setIfInBounds_toArray, List.set_cons_zero, List.set_cons_succ, List.getElem_toArray, List.getElem_cons_succ, List.getElem_cons_zero])
  refine held_take 26 _ _ rfl (by kernel_rfl) (by kernel_rfl) (by kernel_rfl) (fun _ _ _ h => h) (by rfl) hHeld6 (fun w hSw => by (try dsimp only at hSw); go_simp; try with_reducible rfl) ?_
  (try simp only [Act.put, List.setIfInBounds_toArray, List.set_cons_zero, List.set_cons_succ, List.getElem_toArray, List.getElem_cons_succ, List.getElem_cons_zero])
  refine held_take 27 _ _ rfl (by kernel_rfl) (by kernel_rfl) (by kernel_rfl) (fun _ _ _ h => h) (by rfl) hHeld6 (fun w hSw => by (try dsimp only at hSw); go_simp; try with_reducible rfl) ?_
  (try simp only [Act.put, List.setIfInBounds_toArray, List.set_cons_zero, List.set_cons_succ, List.getElem_toArray, List.getElem_cons_succ, List.getElem_cons_zero])
  refine held_take 28 _ _ rfl (by kernel_rfl) (by kernel_rfl) (by kernel_rfl) (fun _ _ _ h => h) (by rfl) hHeld6 (fun w hSw => by (try dsimp only at hSw); go_simp; try with_reducible rfl) ?_
  (try simp only [Act.put, List.setIfInBounds_toArray, List.set_cons_zero, List.set_cons_succ, List.getElem_toArray, List.getElem_cons_succ, List.getElem_cons_zero])
  refine held_take 29 _ _ rfl (by kernel_rfl) (by kernel_rfl) (by kernel_rfl) (fun _ _ _ h => h) (by rfl) hHeld6 (fun w hSw => by (try dsimp only at hSw); go_simp; try with_reducible rfl) ?_
  (try simp only [Act.put, List.setIfInBounds_toArray, List.set_cons_zero, List.set_cons_succ, List.getElem_toArray, List.getElem_cons_succ, List.getElem_cons_zero])
  refine held_take 31 _ _ rfl (by kernel_rfl) (by kernel_rfl) (by kernel_rfl) (fun _ _ _ h => h) (by rfl) hHeld6 (fun w hSw => by (try dsimp only at hSw); go_simp; try with_reducible rfl) ?_
  (try simp only [Act.put, List.setIfInBounds_toArray, List.set_cons_zero, List.set_cons_succ, List.getElem_toArray, List.getElem_cons_succ, List.getElem_cons_zero])
  refine held_take 32 _ _ rfl (by kernel_rfl) (by kernel_rfl) (by kernel_rfl) (fun _ _ _ h => h) (by rfl) hHeld6 (fun w hSw => by (try dsimp only at hSw); go_simp; try with_reducible rfl) ?_
  (try simp only [Act.put, List.setIfInBounds_toArray, List.set_cons_zero, List.set_cons_succ, List.getElem_toArray, List.getElem_cons_succ, List.getElem_cons_zero])
  refine held_take 33 _ _ rfl (by kernel_rfl) (by kernel_rfl) (by kernel_rfl) (fun _ _ _ h => h) (by rfl) hHeld6 (fun w hSw => by (try dsimp only at hSw); go_simp; try with_reducible rfl) ?_
  (try simp only [Act.put, List.setIfInBounds_toArray, List.set_cons_zero, List.set_cons_succ, List.getElem_toArray, List.getElem_cons_succ, List.getElem_cons_zero])
  refine wpAnyH_ready (rs := [30]) (by kernel_rfl) (by simp) ?_
  refine AllReadyH.cons rfl (fun K hK => ?_) AllReadyH.nil
  rw [if_pos (by rfl)]
  go_wp2_with (first | (go_at_call 16; have c := ci_IdealSum La a_a c_a Lb a_b c_b Lc a_c c_c _ (S_a.out.below (hHeld6).2.2.2.2) (S_b.out.below (hHeld6).2.2.2.2) (S_c.out.below (hHeld6).2.2.2.2) (by omega) (by omega) (by omega); (with_reducible refine c.mono ?_); rintro e wk ⟨v, rfl, ho, hbk⟩; obtain ⟨a_q4, c_q4, rfl, rX⟩ := row_open ho; have Q_q4 := rX.slv; clear ho rX c))
  refine hK.out _ _ (HK.out _ ((hHeld6).2.2.2.2.trans (hbk.mono (hHeld6).2.2.2.2.size))) (fun hHeld7 => ?_)
  clear hK K
  (try simp only [Act.put, List.setIfInBounds_toArray, List.set_cons_zero, List.set_cons_succ, List.getElem_toArray, List.getElem_cons_succ, List.getElem_cons_zero])
  refine wpAnyH_ready (rs := [34]) (by kernel_rfl) (by simp) ?_
  refine AllReadyH.cons rfl (fun K hK => ?_) AllReadyH.nil
  rw [if_pos (by rfl)]
  go_wp2_with (first | (go_at_call 16; have c := ci_IdealSum La a_a c_a Lc a_c c_c Lb a_b c_b _ (S_a.out.below (hHeld7).2.2.2.2) (S_c.out.below (hHeld7).2.2.2.2) (S_b.out.below (hHeld7).2.2.2.2) (by omega) (by omega) (by omega); rw [idSum_comm La Lc Lb] at c; (with_reducible refine c.mono ?_); rintro e wk ⟨v, rfl, ho, hbk⟩; obtain ⟨a_q5, c_q5, rfl, rX⟩ := row_open ho; have Q_q5 := rX.slv; have Q_q4' := Q_q4.below hbk; clear ho rX c))
  refine hK.out _ _ (HK.out _ ((hHeld7).2.2.2.2.trans (hbk.mono (hHeld7).2.2.2.2.size))) (fun hHeld8 => ?_)
  clear hK K
  (try simp only [Act.put, List.setIfInBounds_toArray, List.set_cons_zero, List.set_cons_succ, List.getElem_toArray, List.getElem_cons_succ, List.getElem_cons_zero])
  refine wpAnyH_ready (rs := [35]) (by kernel_rfl) (by simp) ?_
  refine AllReadyH.cons rfl (fun K hK => ?_) AllReadyH.nil
  rw [if_pos (by rfl)]
  go_wp2_with (first | (go_at_call 14; have c := sameInts_any (idSumL La Lb Lc) (idSumL La Lb Lc) a_q4 a_q5 c_q4 c_q5 _ Q_q4' Q_q5 (by omega) (by omega); rw [decide_eq_true (rfl : idSumL La Lb Lc = idSumL La Lb Lc)] at c; (with_reducible refine c.mono ?_); rintro e wk ⟨rfl, hbk⟩; clear c))
  refine hK.out _ _ (HK.out _ ((hHeld8).2.2.2.2.trans (hbk.mono (hHeld8).2.2.2.2.size))) (fun hHeld9 => ?_)
  clear hK K
  (try simp only [Act.put, List.setIfInBounds_toArray, List.set_cons_zero, List.set_cons_succ, List.getElem_toArray, List.getElem_cons_succ, List.getElem_cons_zero])
  refine held_take 36 _ _ rfl (by kernel_rfl) (by kernel_rfl) (by kernel_rfl) (fun _ _ _ h => h) (by rfl) hHeld9 (fun w hSw => by (try dsimp only at hSw); go_simp; try with_reducible rfl) ?_
  (try simp only [Act.put, List.setIfInBounds_toArray, List.set_cons_zero, List.set_cons_succ, List.getElem_toArray, List.getElem_cons_succ, List.getElem_cons_zero])
  refine held_take 37 _ _ rfl (by kernel_rfl) (by kernel_rfl) (by kernel_rfl) (fun _ _ _ h => h) (by rfl) hHeld9 (fun w hSw => by (try dsimp only at hSw); go_simp; try with_reducible rfl) ?_
  (try simp only [Act.put, List.setIfInBounds_toArray, List.set_cons_zero, List.set_cons_succ, List.getElem_toArray, List.getElem_cons_succ, List.getElem_cons_zero])
  refine held_take 38 _ _ rfl (by kernel_rfl) (by kernel_rfl) (by kernel_rfl) (fun _ _ _ h => h) (by rfl) hHeld9 (fun w hSw => by (try dsimp only at hSw); go_simp; try with_reducible rfl) ?_
  (try simp only [Act.put, List.setIfInBounds_toArray, List.set_cons_zero, List.set_cons_succ, List.getElem_toArray, List.getElem_cons_succ, List.getElem_cons_zero])
  refine held_take 39 _ _ rfl (by kernel_rfl) (by kernel_rfl) (by kernel_rfl) (fun _ _ _ h => h) (by rfl) hHeld9 (fun w hSw => by (try dsimp only at hSw); go_simp; try with_reducible rfl) ?_
  (try simp only [Act.put, List.setIfInBounds_toArray, List.set_cons_zero, List.set_cons_succ, List.getElem_toArray, List.getElem_cons_succ, List.getElem_cons_zero])
  refine held_take 40 _ _ rfl (by kernel_rfl) (by kernel_rfl) (by kernel_rfl) (fun _ _ _ h => h) (by rfl) hHeld9 (fun w hSw => by (try dsimp only at hSw); go_simp; try with_reducible rfl) ?_
  (try simp only [Act.put, List.setIfInBounds_toArray, List.set_cons_zero, List.set_cons_succ, List.getElem_toArray, List.getElem_cons_succ, List.getElem_cons_zero])
  refine held_take 41 _ _ rfl (by kernel_rfl) (by kernel_rfl) (by kernel_rfl) (fun _ _ _ h => h) (by rfl) hHeld9 (fun w hSw => by (try dsimp only at hSw); go_simp; try with_reducible rfl) ?_
  (try simp only [Act.put, List.setIfInBounds_toArray, List.set_cons_zero, List.set_cons_succ, List.getElem_toArray, List.getElem_cons_succ, List.getElem_cons_zero])
  refine wpAnyH_ready (rs := [42]) (by kernel_rfl) (by simp) ?_
  refine AllReadyH.cons rfl (fun K hK => ?_) AllReadyH.nil
  rw [if_pos (by rfl)]
  go_wp2_with (first | (go_at_call 18; have c := cs_DualGens Ld a_d c_d Le a_e c_e _ (S_d.out.below (hHeld9).2.2.2.2) (S_e.out.below (hHeld9).2.2.2.2) (by omega) (by omega); (with_reducible refine c.mono ?_); rintro e wk ⟨v, rfl, ho, hbk⟩; obtain ⟨a_q6, c_q6, rfl, rX⟩ := row_open ho; have Q_q6 := rX.slv; clear ho rX c))
  refine hK.out _ _ (HK.out _ ((hHeld9).2.2.2.2.trans (hbk.mono (hHeld9).2.2.2.2.size))) (fun hHeld10 => ?_)
  clear hK K
  (try simp only [Act.put, List.setIfInBounds_toArray, List.set_cons_zero, List.set_cons_succ, List.getElem_toArray, List.getElem_cons_succ, List.getElem_cons_zero])
  refine wpAnyH_ready (rs := [43]) (by kernel_rfl) (by simp) ?_
  refine AllReadyH.cons rfl (fun K hK => ?_) AllReadyH.nil
  rw [if_pos (by rfl)]
  go_wp2_with (first | (go_at_call 14; have c := sameInts_any (dualL Ld Le) (dualL Ld Le) a_u a_q6 c_u c_q6 _ (R_u.out.slv.below (hHeld10).2.2.2.2) Q_q6 (by omega) (by omega); rw [decide_eq_true (rfl : dualL Ld Le = dualL Ld Le)] at c; (with_reducible refine c.mono ?_); rintro e wk ⟨rfl, hbk⟩; clear c))
  refine hK.out _ _ (HK.out _ ((hHeld10).2.2.2.2.trans (hbk.mono (hHeld10).2.2.2.2.size))) (fun hHeld11 => ?_)
  clear hK K
  (try simp only [Act.put, List.setIfInBounds_toArray, List.set_cons_zero, List.set_cons_succ, List.getElem_toArray, List.getElem_cons_succ, List.getElem_cons_zero])
  refine held_take 44 _ _ rfl (by kernel_rfl) (by kernel_rfl) (by kernel_rfl) (fun _ _ _ h => h) (by rfl) hHeld11 (fun w hSw => by (try dsimp only at hSw); go_simp; try with_reducible rfl) ?_
  (try simp only [Act.put, List.setIfInBounds_toArray, List.set_cons_zero, List.set_cons_succ, List.getElem_toArray, List.getElem_cons_succ, List.getElem_cons_zero])
  refine held_take 45 _ _ rfl (by kernel_rfl) (by kernel_rfl) (by kernel_rfl) (fun _ _ _ h => h) (by rfl) hHeld11 (fun w hSw => by (try dsimp only at hSw); go_simp; try with_reducible rfl) ?_
  (try simp only [Act.put, List.setIfInBounds_toArray, List.set_cons_zero, List.set_cons_succ, List.getElem_toArray, List.getElem_cons_succ, List.getElem_cons_zero])
  refine held_take 46 _ _ rfl (by kernel_rfl) (by kernel_rfl) (by kernel_rfl) (fun _ _ _ h => h) (by rfl) hHeld11 (fun w hSw => by (try dsimp only at hSw); go_simp; try with_reducible rfl) ?_
  (try simp only [Act.put, List.setIfInBounds_toArray, List.set_cons_zero, List.set_cons_succ, List.getElem_toArray, List.getElem_cons_succ, List.getElem_cons_zero])
  refine held_take 47 _ _ rfl (by kernel_rfl) (by kernel_rfl) (by kernel_rfl) (fun _ _ _ h => h) (by rfl) hHeld11 (fun w hSw => by (try dsimp only at hSw); go_simp; try with_reducible rfl) ?_
  (try simp only [Act.put, List.setIfInBounds_toArray, List.set_cons_zero, List.set_cons_succ, List.getElem_toArray, List.getElem_cons_succ, List.getElem_cons_zero])
  refine held_take 48 _ _ rfl (by kernel_rfl) (by kernel_rfl) (by kernel_rfl) (fun _ _ _ h => h) (by rfl) hHeld11 (fun w hSw => by (try dsimp only at hSw); go_simp; try with_reducible rfl) ?_
  (try simp only [Act.put, List.setIfInBounds_toArray, List.set_cons_zero, List.set_cons_succ, List.getElem_toArray, List.getElem_cons_succ, List.getElem_cons_zero])
  refine wpAnyH_ready (rs := [49]) (by kernel_rfl) (by simp) ?_
  refine AllReadyH.cons rfl (fun K hK => ?_) AllReadyH.nil
  rw [if_pos (by rfl)]
  go_wp2_with (first | (go_at_call 19; have c := cs_CanonicalGens Lt a_t c_t _ (S_t.out.below (hHeld11).2.2.2.2) (by omega); (with_reducible refine c.mono ?_); rintro e wk ⟨v, rfl, ho, hbk⟩; obtain ⟨a_q7, c_q7, rfl, rX⟩ := row_open ho; have Q_q7 := rX.slv; clear ho rX c))
  refine hK.out _ _ (HK.out _ ((hHeld11).2.2.2.2.trans (hbk.mono (hHeld11).2.2.2.2.size))) (fun hHeld12 => ?_)
  clear hK K
  (try simp only [Act.put, List.setIfInBounds_toArray, List.set_cons_zero, List.set_cons_succ, List.getElem_toArray, List.getElem_cons_succ, List.getElem_cons_zero])
  refine wpAnyH_ready (rs := [50]) (by kernel_rfl) (by simp) ?_
  refine AllReadyH.cons rfl (fun K hK => ?_) AllReadyH.nil
  rw [if_pos (by rfl)]
  go_wp2_with (first | (go_at_call 14; have c := sameInts_any (canonL Lt) (canonL Lt) a_k a_q7 c_k c_q7 _ (R_k.out.slv.below (hHeld12).2.2.2.2) Q_q7 (by omega) (by omega); rw [decide_eq_true (rfl : canonL Lt = canonL Lt)] at c; (with_reducible refine c.mono ?_); rintro e wk ⟨rfl, hbk⟩; clear c))
  refine hK.out _ _ (HK.out _ ((hHeld12).2.2.2.2.trans (hbk.mono (hHeld12).2.2.2.2.size))) (fun hHeld13 => ?_)
  clear hK K
  (try simp only [Act.put, List.setIfInBounds_toArray, List.set_cons_zero, List.set_cons_succ, List.getElem_toArray, List.getElem_cons_succ, List.getElem_cons_zero])
  refine held_take 51 _ _ rfl (by kernel_rfl) (by kernel_rfl) (by kernel_rfl) (fun _ _ _ h => h) (by rfl) hHeld13 (fun w hSw => by (try dsimp only at hSw); go_simp; try with_reducible rfl) ?_
  (try simp only [Act.put, List.setIfInBounds_toArray, List.set_cons_zero, List.set_cons_succ, List.getElem_toArray, List.getElem_cons_succ, List.getElem_cons_zero])
  refine held_take 52 _ _ rfl (by kernel_rfl) (by kernel_rfl) (by kernel_rfl) (fun _ _ _ h => h) (by rfl) hHeld13 (fun w hSw => by (try dsimp only at hSw); go_simp; try with_reducible rfl) ?_
  (try simp only [Act.put, List.setIfInBounds_toArray, List.set_cons_zero, List.set_cons_succ, List.getElem_toArray, List.getElem_cons_succ, List.getElem_cons_zero])
  refine wpAnyH_done (by kernel_rfl) ?_ _
  have hB9 := (hHeld13).2.2.2.2
  clear hS0 HK hHeld13 hsl
  rename World => wq
  have hb := hB9
  replace S_s := Lib.hid (S_s.out.below hb)
  replace S_l := Lib.hid (S_l.out.below hb)
  replace B_bs := Lib.hid (B_bs.out.below hb)
  replace R_g := Lib.hid (R_g.out.below hb)
  replace S_a := Lib.hid (S_a.out.below hb)
  replace S_b := Lib.hid (S_b.out.below hb)
  replace S_c := Lib.hid (S_c.out.below hb)
  replace B_ba := Lib.hid (B_ba.out.below hb)
  replace S_d := Lib.hid (S_d.out.below hb)
  replace S_e := Lib.hid (S_e.out.below hb)
  replace B_bd := Lib.hid (B_bd.out.below hb)
  replace R_u := Lib.hid (R_u.out.below hb)
  replace S_t := Lib.hid (S_t.out.below hb)
  replace B_bt := Lib.hid (B_bt.out.below hb)
  replace R_k := Lib.hid (R_k.out.below hb)
  have z14 := hb.size
  replace hW := hW.trans (hb.mono hW.size)
  clear hb hB9 HR hl hl_bs hl_ba hl_bd hl_bt
  clear S_a
  clear S_b
  clear S_c
  clear B_ba
  have hl_bs : w2.heap.size < wq.heap.size := B_bs.out.lt
  have HC_bs := Lib.hid (B_bs.out.cell 0)
  have hl_bd : w8.heap.size < wq.heap.size := B_bd.out.lt
  have HC_bd := Lib.hid (B_bd.out.cell 0)
  have hl_bt : w11.heap.size < wq.heap.size := B_bt.out.lt
  have HC_bt := Lib.hid (B_bt.out.cell 0)
  have hWz := hW.size
  clear B_bs B_bd B_bt
  have hcs := HC_bs.out
  go_upto_region 13 with fail
  go_cut [117] (fun s117 wx => s117 = Value.bool false ∧ Below wq.heap.size wq wx)
  case first =>
    by_cases hne : (idGensL Ls Ll) = []
    · have hg0 : ¬ (0 : Int) < ((idGensL Ls Ll).length : Int) := by rw [hne]; simp
      have hgd := decide_eq_false hg0
      clear hne
      go_wp2_with fail
      go_meet
      exact ⟨rfl, Below.refl _ _⟩
    · have hg0 : (0 : Int) < ((idGensL Ls Ll).length : Int) := by have := List.length_pos_iff.2 hne; omega
      have hgd := decide_eq_true hg0
      have c := ci_InIdeal Ls a_s c_s (idGensL Ls Ll) a_g c_g x wq S_s.out R_g.out.slw (by omega) (by omega) hx64.1 hx64.2
      rw [idGens_in hne, HIV.out] at c
      clear hne
      go_wp2_with fail
      refine c.mono ?_
      rintro e wk ⟨rfl, hbk⟩
      go_wp2_with fail
      go_meet
      exact ⟨rfl, hbk⟩
  case rest =>
    rename World => wz
    obtain ⟨rfl, hbz⟩ := hcut
    clear hcs hii HIV hx64 S_s S_l R_g hgl hl_s hl_l HC_bs hl_bs
    have hzz := hbz.size
    have HD0 := Lib.hid (S_d.out.below hbz)
    have HE0 := Lib.hid (S_e.out.below hbz)
    have HU0 := Lib.hid (R_u.out.slw.below hbz)
    have HK0 := Lib.hid (R_k.out.slw.below hbz)
    have HT0 := Lib.hid (S_t.out.below hbz)
    have hcd : Hid (∀ w', Below wz.heap.size wz w' → w'.cell? ⟨w8.heap.size, 0, none⟩ = some (.slice a_d Ld.length c_d)) := Lib.hid fun w' h => ((hbz.trans (h.mono hzz)).cell (p := ⟨w8.heap.size, 0, none⟩) hl_bd).trans HC_bd.out
    have hct : Hid (∀ w', Below wz.heap.size wz w' → w'.cell? ⟨w11.heap.size, 0, none⟩ = some (.slice a_t Lt.length c_t)) := Lib.hid fun w' h => ((hbz.trans (h.mono hzz)).cell (p := ⟨w11.heap.size, 0, none⟩) hl_bt).trans HC_bt.out
    replace hW := hW.trans (hbz.mono hWz)
    clear S_d S_e R_u R_k S_t HC_bd HC_bt hl_bd hl_bt hbz
    go_wp2_with fail
    go_loopw [16] (fun z wr => ∃ j : Nat, j ≤ 13 ∧ z = .int .i64 (-30 + 7 * (j : Int)) ∧ Below wz.heap.size wz wr) (fun z _ => (70 - intOf z).toNat)
    case atStart => exact ⟨0, by omega, rfl, Below.refl _ _⟩
    case round =>
      rename World => wr
      obtain ⟨j, hj, rfl, hbel⟩ := hrel
      have hbz := hbel.size
      obtain ⟨y, hy⟩ : ∃ y : Int, y = -30 + 7 * (j : Int) := ⟨_, rfl⟩
      rw [← hy]
      have HY := Lib.hid hy
      have hyb : -30 ≤ y ∧ y ≤ 61 := by omega
      have hj60 : y ≤ 60 → j + 1 ≤ 13 := by omega
      clear hy
      go_upto_region 16 with fail
      go_cut [144] (fun s144 wx => (∃ q : Bool, s144 = Value.bool q ∧ (q = true → y ≤ 60 ∧ isSgB Ld = true ∧ (∀ e ∈ Le, -200 ≤ e ∧ e ≤ 200) ∧ (dualL Ld Le) ≠ [] ∧ (dualL Ld Le).length ≤ 20 ∧ ∀ y, -1000 ≤ y → y ≤ 1000 → inIdB Ld (dualL Ld Le) y = Le.all fun e => hasN Ld (y + e))) ∧ Below wz.heap.size wz wx)
      case first =>
        by_cases h60 : y ≤ 60
        · have h60d := decide_eq_true h60
          by_cases hne : (dualL Ld Le) = []
          · have hu0 : ¬ (0 : Int) < ((dualL Ld Le).length : Int) := by rw [hne]; simp
            clear hne
            go_wp2_with fail
            go_meet
            exact ⟨⟨false, rfl, fun h => by cases h⟩, hbel⟩
          · have hu0 : (0 : Int) < ((dualL Ld Le).length : Int) := by have := List.length_pos_iff.2 hne; omega
            by_cases h20 : (dualL Ld Le).length ≤ 20
            · have h20i : ((dualL Ld Le).length : Int) ≤ 20 := by omega
              obtain ⟨l1, hl1⟩ : ∃ l1 : Nat, (dualL Ld Le).length - 1 = l1 := ⟨_, rfl⟩
              have hw1 : ((dualL Ld Le).length : Int) - 1 = (l1 : Int) := by omega
              have hl1i : (l1 : Int) < ((dualL Ld Le).length : Int) := by omega
              have hl1n : (0 : Int) ≤ (l1 : Int) := by omega
              have hl1k : l1 < (dualL Ld Le).length := by omega
              have h0k : 0 < (dualL Ld Le).length := by omega
              clear hl1
              obtain ⟨b, off, hau, hbs, hcl⟩ := (HU0.out.sl.below hbel).open (by simpa using hne)
              have hc0 : wr.cell? ⟨b, off, none⟩ = some (.int .i64 (dualL Ld Le)[0]) := hcl 0 _ (by simp [h0k])
              have hc1 : wr.cell? ⟨b, off + l1, none⟩ = some (.int .i64 (dualL Ld Le)[l1]) := hcl l1 _ (by simp [hl1k])
              have HAS := Lib.hid (dual_ends Ld Le h0k hl1k (by omega))
              subst hau
              clear hcl
              generalize (dualL Ld Le)[0] = e0 at *
              generalize (dualL Ld Le)[l1] = e1 at *
              by_cases he0 : -200 ≤ e0
              · by_cases he1 : e1 ≤ 200
                · obtain ⟨hsg, hv, hin⟩ := HAS.out hne he0 he1 h20
                  have HG : Hid (y ≤ 60 ∧ isSgB Ld = true ∧ (∀ e ∈ Le, -200 ≤ e ∧ e ≤ 200) ∧ (dualL Ld Le) ≠ [] ∧ (dualL Ld Le).length ≤ 20 ∧ ∀ y, -1000 ≤ y → y ≤ 1000 → inIdB Ld (dualL Ld Le) y = Le.all fun e => hasN Ld (y + e)) := Lib.hid ⟨h60, hsg, (validB_iff.1 hv).1, hne, h20, hin⟩
                  clear HAS hin hsg hv
                  go_wp2_with fail
                  go_meet
                  exact ⟨⟨true, rfl, fun _ => HG.out⟩, hbel⟩
                · go_wp2_with fail
                  go_meet
                  exact ⟨⟨false, rfl, fun h => by cases h⟩, hbel⟩
              · go_wp2_with fail
                go_meet
                exact ⟨⟨false, rfl, fun h => by cases h⟩, hbel⟩
            · have h20i : ¬ ((dualL Ld Le).length : Int) ≤ 20 := by omega
              go_wp2_with fail
              go_meet
              exact ⟨⟨false, rfl, fun h => by cases h⟩, hbel⟩
        · have h60d := decide_eq_false h60
          go_wp2_with fail
          go_meet
          exact ⟨⟨false, rfl, fun h => by cases h⟩, hbel⟩
      case rest =>
          rename World => wr1
          obtain ⟨⟨q, rfl, hq⟩, hby⟩ := hcut
          have hyz := hby.size
          clear hbel hbz
          cases q
          · clear hq
            have hWz2 := hW.size
            have hcty := hct.out _ hby
            have c1 := cs_IsSemigroup Lt a_t c_t wr1 (HT0.out.below hby) (by omega)
            cases hsg : isSgB Lt
            · rw [hsg] at c1
              have hk0 : canonL Lt = [] := by unfold canonL; rw [hsg]; rfl
              have hkz : (((canonL Lt).length : Int) == 0) = true := by rw [hk0]; rfl
              clear hk0
              go_wp2_with fail
              refine c1.mono ?_
              rintro e wx ⟨rfl, hb8⟩
              go_wp2_with fail
              go_ret
              exact ⟨rfl, hW.trans ((hby.trans (hb8.mono hyz)).mono hWz2)⟩
            · rw [hsg] at c1
              have hfb : -1 ≤ frobN Lt ∧ frobN Lt ≤ 199 := by have := frob_cond hsg; have := condNat_le Lt; omega
              have hkb := canon_bnd hsg
              have HCI := Lib.hid (canon_iff hsg)
              have HCL := Lib.hid (canon_len hsg (psfL_asc Lt))
              have HSG := Lib.hid hsg
              have c2 := fun w' (h : SlV w' a_t (Lt.map (Value.int .i64))) => spec_FrobeniusOf Lt a_t c_t w' h (by omega)
              generalize hf : frobN Lt = f at *
              have HF := Lib.hid hf
              clear hsg hf
              go_wp2_with fail
              refine c1.mono ?_
              rintro e wx ⟨rfl, hb8⟩
              have hb8z := hby.trans (hb8.mono hyz)
              have hctx := hct.out _ hb8z
              clear c1 hcty hb8
              go_wp2_with fail
              refine (c2 _ (HT0.out.sl.below hb8z)).mono ?_
              rintro e wv ⟨rfl, hb9⟩
              have hb9z := hb8z.trans (hb9.mono hb8z.size)
              clear c2 hctx hb9 hb8z
              have hwf : IntKind.i64.wrap (f + 5) = f + 5 := IntWalk.i64_in _ (by omega)
              go_wp2_with fail
              go_loopw [20] (fun z wr => ∃ j : Nat, (j : Int) ≤ f + 11 ∧ z = .int .i64 (-5 + (j : Int)) ∧ Below wz.heap.size wz wr) (fun z _ => (f + 20 - intOf z).toNat)
              case atStart => exact ⟨0, by omega, rfl, hb9z⟩
              case round =>
                rename World => wr
                clear hb9z
                obtain ⟨j, hj, rfl, hbel⟩ := hrel
                have hbz := hbel.size
                have hcr := hct.out _ hbel
                obtain ⟨y, hy⟩ : ∃ y : Int, y = -5 + (j : Int) := ⟨_, rfl⟩
                rw [← hy]
                have HY := Lib.hid hy
                have hyb : -5 ≤ y ∧ y ≤ f + 6 := by omega
                have hjf : y ≤ f + 5 → ((j + 1 : Nat) : Int) ≤ f + 11 := by omega
                clear hy
                by_cases hyf : y ≤ f + 5
                · have hyd := decide_eq_true hyf
                  by_cases h20 : (canonL Lt).length ≤ 20
                  · have h20i : ((canonL Lt).length : Int) ≤ 20 := by omega
                    have hyy := y_bnd hyf hfb.2 (by omega)
                    have HQ := Lib.hid (canon_in HSG.out hkb h20 (y := y) hyy.1 hyy.2)
                    have hwy : IntKind.i64.wrap (f - y) = f - y := IntWalk.i64_in _ (by omega)
                    have c4 := ci_InIdeal Lt a_t c_t (canonL Lt) a_k c_k y wr (HT0.out.below hbel) (HK0.out.below hbel) (by omega) (by omega) (by omega) (by omega)
                    have hci := HCI.out y
                    by_cases hfy : 0 ≤ f - y
                    · have hfd := decide_eq_true hfy
                      have c5 := fun w' (h : SlV w' a_t (Lt.map (Value.int .i64))) => spec_Contains Lt (f - y) a_t c_t w' h (by omega)
                      cases hh : hasN Lt (f - y)
                      · have hI : inIdB Lt (canonL Lt) y = true := by rw [HQ.out]; exact decide_eq_true (hci.2 (fun h => by rw [hh] at h; cases h.2))
                        rw [hI] at c4
                        clear hI hci HQ
                        rw [hh] at c5
                        clear hh
                        go_wp2_with fail
                        refine c4.mono ?_
                        rintro e w8 ⟨rfl, hb8⟩
                        have hb8z := hbel.trans (hb8.mono hbz)
                        have hct8 := hct.out _ hb8z
                        clear c4
                        go_wp2_with fail
                        refine (c5 _ (HT0.out.sl.below hb8z)).mono ?_
                        rintro e w9 ⟨rfl, hb9⟩
                        have hbF := hb8z.trans (hb9.mono hb8z.size)
                        go_wp2_with fail
                        go_roundw
                        case rel => exact ⟨j + 1, by omega, by rw [HY.out]; go_num, hbF⟩
                        case measure => simp [intOf]; omega
                      · have hI : inIdB Lt (canonL Lt) y = false := by rw [HQ.out]; exact decide_eq_false (fun h => hci.1 h ⟨hfy, hh⟩)
                        rw [hI] at c4
                        clear hI hci HQ
                        rw [hh] at c5
                        clear hh
                        go_wp2_with fail
                        refine c4.mono ?_
                        rintro e w8 ⟨rfl, hb8⟩
                        have hb8z := hbel.trans (hb8.mono hbz)
                        have hct8 := hct.out _ hb8z
                        clear c4
                        go_wp2_with fail
                        refine (c5 _ (HT0.out.sl.below hb8z)).mono ?_
                        rintro e w9 ⟨rfl, hb9⟩
                        have hbF := hb8z.trans (hb9.mono hb8z.size)
                        go_wp2_with fail
                        go_roundw
                        case rel => exact ⟨j + 1, by omega, by rw [HY.out]; go_num, hbF⟩
                        case measure => simp [intOf]; omega
                    · have hfd := decide_eq_false hfy
                      have hI : inIdB Lt (canonL Lt) y = true := by rw [HQ.out]; exact decide_eq_true (hci.2 (fun h => hfy h.1))
                      rw [hI] at c4
                      clear hI hci HQ
                      go_wp2_with fail
                      refine c4.mono ?_
                      rintro e w8 ⟨rfl, hb8⟩
                      have hbF := hbel.trans (hb8.mono hbz)
                      clear c4
                      go_wp2_with fail
                      go_roundw
                      case rel => exact ⟨j + 1, by omega, by rw [HY.out]; go_num, hbF⟩
                      case measure => simp [intOf]; omega
                  · have h20i : ¬ ((canonL Lt).length : Int) ≤ 20 := by omega
                    go_wp2_with fail
                    have c3 := spec_IsSymmetric Lt a_t c_t wr (HT0.out.sl.below hbel) (by omega)
                    cases hsy : symB Lt
                    · have hk1 : (((canonL Lt).length : Int) == 1) = false := by rw [beq_eq_false_iff_ne]; intro h; have := HCL.out.1 (by omega); rw [hsy] at this; cases this
                      rw [hsy] at c3
                      clear hsy
                      go_wp2_with fail
                      refine c3.mono ?_
                      rintro e wk ⟨rfl, hbk⟩
                      go_wp2_with fail
                      go_ret
                      exact ⟨rfl, hW.trans ((hbel.trans (hbk.mono hbz)).mono hWz2)⟩
                    · have hk1 : (((canonL Lt).length : Int) == 1) = true := by rw [beq_iff_eq]; have := HCL.out.2 hsy; omega
                      rw [hsy] at c3
                      clear hsy
                      go_wp2_with fail
                      refine c3.mono ?_
                      rintro e wk ⟨rfl, hbk⟩
                      go_wp2_with fail
                      go_ret
                      exact ⟨rfl, hW.trans ((hbel.trans (hbk.mono hbz)).mono hWz2)⟩
                · have hyd := decide_eq_false hyf
                  go_wp2_with fail
                  have c3 := spec_IsSymmetric Lt a_t c_t wr (HT0.out.sl.below hbel) (by omega)
                  cases hsy : symB Lt
                  · have hk1 : (((canonL Lt).length : Int) == 1) = false := by rw [beq_eq_false_iff_ne]; intro h; have := HCL.out.1 (by omega); rw [hsy] at this; cases this
                    rw [hsy] at c3
                    clear hsy
                    go_wp2_with fail
                    refine c3.mono ?_
                    rintro e wk ⟨rfl, hbk⟩
                    go_wp2_with fail
                    go_ret
                    exact ⟨rfl, hW.trans ((hbel.trans (hbk.mono hbz)).mono hWz2)⟩
                  · have hk1 : (((canonL Lt).length : Int) == 1) = true := by rw [beq_iff_eq]; have := HCL.out.2 hsy; omega
                    rw [hsy] at c3
                    clear hsy
                    go_wp2_with fail
                    refine c3.mono ?_
                    rintro e wk ⟨rfl, hbk⟩
                    go_wp2_with fail
                    go_ret
                    exact ⟨rfl, hW.trans ((hbel.trans (hbk.mono hbz)).mono hWz2)⟩
          · obtain ⟨h60, hsg, hm, hne, h20, hin⟩ := hq rfl
            have HM := Lib.hid hm
            have HIN := Lib.hid (hin y (by omega) (by omega))
            have HZ := Lib.hid (fun z h1 h2 => zero_in (G := Ld) hsg (z := z) h1 h2)
            obtain ⟨b, off, hau, -, -⟩ := HU0.out.sl.open (by simpa using hne)
            subst hau
            clear hin hsg hne hm hq
            go_wp2_with fail
            go_loopw [17, 18] (fun v z w2 => ∃ i : Nat, i ≤ Le.length ∧ z = .int .i64 (i : Int) ∧ v = .bool ((Le.take i).all fun e => hasN Ld (y + e)) ∧ Below wz.heap.size wz w2) (fun _ z _ => Le.length - (intOf z).toNat)
            case atStart => exact ⟨0, Nat.zero_le _, rfl, rfl, hby⟩
            case round =>
              rename World => wr2
              obtain ⟨i, hi, rfl, rfl, hbel2⟩ := hrel
              have hbz2 := hbel2.size
              by_cases hil : i < Le.length
              · have hii : (i : Int) < (Le.length : Int) := by omega
                have hem := HM.out Le[i] (List.getElem_mem hil)
                obtain ⟨be, oe, hae, hbe, hce⟩ := HE0.out.sl.open (by intro h; rw [List.map_eq_nil_iff] at h; rw [h] at hil; simp at hil)
                have hcc : wz.cell? ⟨be, oe + i, none⟩ = some (.int .i64 Le[i]) := hce i _ (by simp [hil])
                have HT := Lib.hid (all_take (fun e => hasN Ld (y + e)) hil)
                subst hae
                clear hce
                generalize Le[i] = e at *
                have HKS : Hid (∀ w', Below wz.heap.size wz w' → w'.cell? ⟨w8.heap.size, 0, none⟩ = some (.slice a_d Ld.length c_d) ∧ w'.cell? ⟨be, oe + i, none⟩ = some (.int .i64 e) ∧ Below wz.heap.size wz w') := Lib.hid fun w' h => ⟨hcd.out _ h, (h.cell (p := ⟨be, oe + i, none⟩) hbe).trans hcc, h⟩
                clear hcc hbe
                have hwe : IntKind.i64.wrap (y + e) = y + e := IntWalk.i64_in _ (by omega)
                generalize (Le.take i).all (fun e => hasN Ld (y + e)) = q at *
                have hS0 := HKS.out _ hbel2.drew
                cases q
                · go_wp2_with fail
                  refine wp_region_held_drew (S := fun w' => w'.cell? ⟨w8.heap.size, 0, none⟩ = some (.slice a_d Ld.length c_d) ∧ w'.cell? ⟨be, oe + i, none⟩ = some (.int .i64 e) ∧ Below wz.heap.size wz w') (by kernel_rfl) hS0 (fun hHeld => ?_)
                  refine held_take 0 _ _ rfl (by kernel_rfl) (by kernel_rfl) (by kernel_rfl) (fun _ _ _ h => h) (by rfl) hHeld (fun w hSw => by (try dsimp only at hSw); go_simp; try with_reducible rfl) ?_
                  (try simp only [Act.put, List.setIfInBounds_toArray, List.set_cons_zero, List.set_cons_succ, List.getElem_toArray, List.getElem_cons_zero])
                  refine held_take 1 _ _ rfl (by kernel_rfl) (by kernel_rfl) (by kernel_rfl) (fun _ _ _ h => h) (by rfl) hHeld (fun w hSw => by (try dsimp only at hSw); go_simp; try with_reducible rfl) ?_
                  (try simp only [Act.put, List.setIfInBounds_toArray, List.set_cons_zero, List.set_cons_succ, List.getElem_toArray, List.getElem_cons_succ, List.getElem_cons_zero])
                  refine held_skip 2 _ rfl (by kernel_rfl) (by kernel_rfl) (by kernel_rfl) (fun _ _ _ h => h) (by rfl) hHeld ?_
                  (try simp only [Act.put, List.setIfInBounds_toArray, List.set_cons_zero, List.set_cons_succ, List.getElem_toArray, List.getElem_cons_succ, List.getElem_cons_zero])
                  refine held_skip 3 _ rfl (by kernel_rfl) (by kernel_rfl) (by kernel_rfl) (fun _ _ _ h => h) (by rfl) hHeld ?_
                  (try simp only [Act.put, List.setIfInBounds_toArray, List.set_cons_zero, List.set_cons_succ, List.getElem_toArray, List.getElem_cons_succ, List.getElem_cons_zero])
                  refine held_skip 4 _ rfl (by kernel_rfl) (by kernel_rfl) (by kernel_rfl) (fun _ _ _ h => h) (by rfl) hHeld ?_
                  (try simp only [Act.put, List.setIfInBounds_toArray, List.set_cons_zero, List.set_cons_succ, List.getElem_toArray, List.getElem_cons_succ, List.getElem_cons_zero])
                  refine held_skip 5 _ rfl (by kernel_rfl) (by kernel_rfl) (by kernel_rfl) (fun _ _ _ h => h) (by rfl) hHeld ?_
                  (try simp only [Act.put, List.setIfInBounds_toArray, List.set_cons_zero, List.set_cons_succ, List.getElem_toArray, List.getElem_cons_succ, List.getElem_cons_zero])
                  refine held_skip 6 _ rfl (by kernel_rfl) (by kernel_rfl) (by kernel_rfl) (fun _ _ _ h => h) (by rfl) hHeld ?_
                  (try simp only [Act.put, List.setIfInBounds_toArray, List.set_cons_zero, List.set_cons_succ, List.getElem_toArray, List.getElem_cons_succ, List.getElem_cons_zero])
                  refine held_skip 7 _ rfl (by kernel_rfl) (by kernel_rfl) (by kernel_rfl) (fun _ _ _ h => h) (by rfl) hHeld ?_
                  (try simp only [Act.put, List.setIfInBounds_toArray, List.set_cons_zero, List.set_cons_succ, List.getElem_toArray, List.getElem_cons_succ, List.getElem_cons_zero])
                  refine held_skip 8 _ rfl (by kernel_rfl) (by kernel_rfl) (by kernel_rfl) (fun _ _ _ h => h) (by rfl) hHeld ?_
                  (try simp only [Act.put, List.setIfInBounds_toArray, List.set_cons_zero, List.set_cons_succ, List.getElem_toArray, List.getElem_cons_succ, List.getElem_cons_zero])
                  refine held_skip 9 _ rfl (by kernel_rfl) (by kernel_rfl) (by kernel_rfl) (fun _ _ _ h => h) (by rfl) hHeld ?_
                  (try simp only [Act.put, List.setIfInBounds_toArray, List.set_cons_zero, List.set_cons_succ, List.getElem_toArray, List.getElem_cons_succ, List.getElem_cons_zero])
                  refine held_skip 10 _ rfl (by kernel_rfl) (by kernel_rfl) (by kernel_rfl) (fun _ _ _ h => h) (by rfl) hHeld ?_
                  (try simp only [Act.put, List.setIfInBounds_toArray, List.set_cons_zero, List.set_cons_succ, List.getElem_toArray, List.getElem_cons_succ, List.getElem_cons_zero])
                  refine held_take 11 _ _ rfl (by kernel_rfl) (by kernel_rfl) (by kernel_rfl) (fun _ _ _ h => h) (by rfl) hHeld (fun w hSw => by (try dsimp only at hSw); go_simp; try with_reducible rfl) ?_
                  (try simp only [Act.put, List.setIfInBounds_toArray, List.set_cons_zero, List.set_cons_succ, List.getElem_toArray, List.getElem_cons_succ, List.getElem_cons_zero])
                  refine held_take 12 _ _ rfl (by kernel_rfl) (by kernel_rfl) (by kernel_rfl) (fun _ _ _ h => h) (by rfl) hHeld (fun w hSw => by (try dsimp only at hSw); go_simp; try with_reducible rfl) ?_
                  (try simp only [Act.put, List.setIfInBounds_toArray, List.set_cons_zero, List.set_cons_succ, List.getElem_toArray, List.getElem_cons_succ, List.getElem_cons_zero])
                  refine wpAnyH_done (by kernel_rfl) ?_ _
                  have hbF := (hHeld).2.2
                  clear hS0 hHeld HKS
                  go_wp2_with fail
                  go_roundw
                  case rel => exact ⟨i + 1, by omega, by go_num, by rw [HT.out, Bool.false_and], hbF⟩
                  case measure => simp [intOf]; omega
                · go_wp2_with fail
                  refine wp_region_held_drew (S := fun w' => w'.cell? ⟨w8.heap.size, 0, none⟩ = some (.slice a_d Ld.length c_d) ∧ w'.cell? ⟨be, oe + i, none⟩ = some (.int .i64 e) ∧ Below wz.heap.size wz w') (by kernel_rfl) hS0 (fun hHeld => ?_)
                  refine held_take 0 _ _ rfl (by kernel_rfl) (by kernel_rfl) (by kernel_rfl) (fun _ _ _ h => h) (by rfl) hHeld (fun w hSw => by (try dsimp only at hSw); go_simp; try with_reducible rfl) ?_
                  (try simp only [Act.put, List.setIfInBounds_toArray, List.set_cons_zero, List.set_cons_succ, List.getElem_toArray, List.getElem_cons_zero])
                  refine held_take 1 _ _ rfl (by kernel_rfl) (by kernel_rfl) (by kernel_rfl) (fun _ _ _ h => h) (by rfl) hHeld (fun w hSw => by (try dsimp only at hSw); go_simp; try with_reducible rfl) ?_
                  (try simp only [Act.put, List.setIfInBounds_toArray, List.set_cons_zero, List.set_cons_succ, List.getElem_toArray, List.getElem_cons_succ, List.getElem_cons_zero])
                  refine held_take 2 _ _ rfl (by kernel_rfl) (by kernel_rfl) (by kernel_rfl) (fun _ _ _ h => h) (by rfl) hHeld (fun w hSw => by (try dsimp only at hSw); go_simp; try with_reducible rfl) ?_
                  (try simp only [Act.put, List.setIfInBounds_toArray, List.set_cons_zero, List.set_cons_succ, List.getElem_toArray, List.getElem_cons_succ, List.getElem_cons_zero])
                  refine held_take 4 _ _ rfl (by kernel_rfl) (by kernel_rfl) (by kernel_rfl) (fun _ _ _ h => h) (by rfl) hHeld (fun w hSw => by (try dsimp only at hSw); go_simp; try with_reducible rfl) ?_
                  (try simp only [Act.put, List.setIfInBounds_toArray, List.set_cons_zero, List.set_cons_succ, List.getElem_toArray, List.getElem_cons_succ, List.getElem_cons_zero])
                  refine held_take 5 _ _ rfl (by kernel_rfl) (by kernel_rfl) (by kernel_rfl) (fun _ _ _ h => h) (by rfl) hHeld (fun w hSw => by (try dsimp only at hSw); go_simp; try with_reducible rfl) ?_
                  (try simp only [Act.put, List.setIfInBounds_toArray, List.set_cons_zero, List.set_cons_succ, List.getElem_toArray, List.getElem_cons_succ, List.getElem_cons_zero])
                  refine held_take 6 _ _ rfl (by kernel_rfl) (by kernel_rfl) (by kernel_rfl) (fun _ _ _ h => h) (by rfl) hHeld (fun w hSw => by (try dsimp only at hSw); go_simp; try with_reducible rfl) ?_
                  (try simp only [Act.put, List.setIfInBounds_toArray, List.set_cons_zero, List.set_cons_succ, List.getElem_toArray, List.getElem_cons_succ, List.getElem_cons_zero])
                  refine held_take 7 _ _ rfl (by kernel_rfl) (by kernel_rfl) (by kernel_rfl) (fun _ _ _ h => h) (by rfl) hHeld (fun w hSw => by (try dsimp only at hSw); go_simp; try with_reducible rfl) ?_
                  (try simp only [Act.put, List.setIfInBounds_toArray, List.set_cons_zero, List.set_cons_succ, List.getElem_toArray, List.getElem_cons_succ, List.getElem_cons_zero])
                  refine held_take 8 _ _ rfl (by kernel_rfl) (by kernel_rfl) (by kernel_rfl) (fun _ _ _ h => h) (by rfl) hHeld (fun w hSw => by (try dsimp only at hSw); go_simp; try with_reducible rfl) ?_
                  (try simp only [Act.put, List.setIfInBounds_toArray, List.set_cons_zero, List.set_cons_succ, List.getElem_toArray, List.getElem_cons_succ, List.getElem_cons_zero])
                  refine held_take 9 _ _ rfl (by kernel_rfl) (by kernel_rfl) (by kernel_rfl) (fun _ _ _ h => h) (by rfl) hHeld (fun w hSw => by (try dsimp only at hSw); go_simp; try with_reducible rfl) ?_
                  (try simp only [Act.put, List.setIfInBounds_toArray, List.set_cons_zero, List.set_cons_succ, List.getElem_toArray, List.getElem_cons_succ, List.getElem_cons_zero])
                  refine wpAnyH_ready (rs := [3]) (by kernel_rfl) (by simp) ?_
                  refine AllReadyH.cons rfl (fun K hK => ?_) AllReadyH.nil
                  rw [if_pos (by rfl)]
                  have hz0 : SlW ((wr2.alloc (.cells #[.int .i64 0] 3)).drew) (some ⟨wr2.heap.size, 0, none⟩) 1 (([0] : List Int).map (Value.int .i64)) := (zeroAt hbel2).below (Below.refl _ _).drew
                  go_wp2_with fail
                  refine hK.out _ _ (HKS.out _ ((hHeld).2.2.alloc (hHeld).2.2.size _)) (fun hHeld1 => ?_)
                  clear hK K
                  (try simp only [Act.put, List.setIfInBounds_toArray, List.set_cons_zero, List.set_cons_succ, List.getElem_toArray, List.getElem_cons_succ, List.getElem_cons_zero])
                  refine wpAnyH_ready (rs := [10]) (by kernel_rfl) (by simp) ?_
                  refine AllReadyH.cons rfl (fun K hK => ?_) AllReadyH.nil
                  rw [if_pos (by rfl)]
                  go_wp2_with (first | (go_at_call 6; (refine (ci_InIdeal Ld a_d c_d [0] _ 1 (y + e) _ (HD0.out.below (hHeld1).2.2) hz0 (by omega) (by simp) (by omega) (by omega)).mono ?_); rintro e wk ⟨rfl, hbk⟩))
                  refine hK.out _ _ (HKS.out _ ((hHeld1).2.2.trans (hbk.mono (hHeld1).2.2.size))) (fun hHeld2 => ?_)
                  clear hK K
                  (try simp only [Act.put, List.setIfInBounds_toArray, List.set_cons_zero, List.set_cons_succ, List.getElem_toArray, List.getElem_cons_succ, List.getElem_cons_zero])
                  refine held_take 11 _ _ rfl (by kernel_rfl) (by kernel_rfl) (by kernel_rfl) (fun _ _ _ h => h) (by rfl) hHeld2 (fun w hSw => by (try dsimp only at hSw); go_simp; try with_reducible rfl) ?_
                  (try simp only [Act.put, List.setIfInBounds_toArray, List.set_cons_zero, List.set_cons_succ, List.getElem_toArray, List.getElem_cons_succ, List.getElem_cons_zero])
                  refine held_take 12 _ _ rfl (by kernel_rfl) (by kernel_rfl) (by kernel_rfl) (fun _ _ _ h => h) (by rfl) hHeld2 (fun w hSw => by (try dsimp only at hSw); go_simp; try with_reducible rfl) ?_
                  (try simp only [Act.put, List.setIfInBounds_toArray, List.set_cons_zero, List.set_cons_succ, List.getElem_toArray, List.getElem_cons_succ, List.getElem_cons_zero])
                  refine wpAnyH_done (by kernel_rfl) ?_ _
                  have hbF := (hHeld2).2.2
                  clear hS0 hHeld2 HKS hz0
                  go_wp2_with fail
                  go_roundw
                  case rel => exact ⟨i + 1, by omega, by go_num, by rw [HT.out, Bool.true_and, HZ.out _ (by omega) (by omega)], hbF⟩
                  case measure => simp [intOf]; omega
              · have hie : i = Le.length := by omega
                have hii : ¬ (i : Int) < (Le.length : Int) := by omega
                rw [hie, List.take_length]
                have c := ci_InIdeal Ld a_d c_d (dualL Ld Le) (some ⟨b, off, none⟩) c_u y wr2 (HD0.out.below hbel2) (HU0.out.below hbel2) (by omega) (by omega) (by omega) (by omega)
                rw [HIN.out] at c
                have hcb := hcd.out _ hbel2
                generalize Le.all (fun e => hasN Ld (y + e)) = q at *
                have hqq : (q != q) = false := by cases q <;> rfl
                clear hie
                go_wp2_with fail
                refine c.mono ?_
                rintro e wk ⟨rfl, hbk⟩
                have hbF := hbel2.trans (hbk.mono hbz2)
                clear c hcb
                go_wp2_with fail
                go_roundw
                case rel => exact ⟨j + 1, by omega, by rw [HY.out]; go_num, hbF⟩
                case measure => simp [intOf]; omega

set_option maxRecDepth 100000 in
set_option maxHeartbeats 800000 in
theorem FnIdeals.walk (p0 : Option Addr) (len0 cap0 : Nat) (z0 : List Int) (W : World) (r0 : IsRow .u8 W p0 len0 cap0 z0) (_ : W.ShapedOpen Tryz.prog) :
    Calls Tryz.prog 3 #[.slice p0 len0 cap0] W fun e w' => e = .returned (.bool true) ∧ Below W.heap.size W w' := by
  by_cases hl : len0 ≤ 1048576
  · exact fnIdeals_small p0 len0 cap0 z0 W r0 hl
  · have cb := big_any p0 len0 cap0 W (row_maxLen r0)
    rw [decide_eq_true (show 1048576 < len0 by omega)] at cb
    go_enter Tryz.func3, Tryz.ntmps3
    go_wp2_with fail
    refine cb.mono ?_
    rintro e w0 ⟨rfl, rfl⟩
    go_wp2_with fail
    go_ret
    exact ⟨rfl, Below.refl _ _⟩
end Go.Proofs.YtopnehkhigacpaaGreat
