/-
  THE WALK OF THE LAW FnOrder: at every drawn code both sides agree; every number of a list is above one of the least; what exceeds the modulus are the pseudo-Frobenius numbers (written by fn_order.py of the verifier's own).
-/
import Derived.Test.YtclhpggejppadaaRows
import Derived.Test.YtclhpggejppadaaDrw16
import Derived.Test.YtclhpggejppadaaC10
import Derived.Test.YtclhpggejppadaaL29
namespace Go.Proofs.Ytclhpggejppadaa
open Go Go.RowKit

theorem keepO {W wr w1 : World} {b1 b2 b3 : Nat} {v1 v2 v3 : Value} (h1 : b1 < W.heap.size) (h2 : b2 < W.heap.size) (h3 : b3 < W.heap.size)
    (h : wr.cell? ⟨b1, 0, none⟩ = some v1 ∧ wr.cell? ⟨b2, 0, none⟩ = some v2 ∧ wr.cell? ⟨b3, 0, none⟩ = some v3 ∧ Below W.heap.size W wr) (hb : Below wr.heap.size wr w1) :
    w1.cell? ⟨b1, 0, none⟩ = some v1 ∧ w1.cell? ⟨b2, 0, none⟩ = some v2 ∧ w1.cell? ⟨b3, 0, none⟩ = some v3 ∧ Below W.heap.size W w1 := by
  obtain ⟨e1, e2, e3, hB⟩ := h
  have hs := hB.size
  exact ⟨(hb.cell (p := ⟨b1, 0, none⟩) (Nat.lt_of_lt_of_le h1 hs)).trans e1, (hb.cell (p := ⟨b2, 0, none⟩) (Nat.lt_of_lt_of_le h2 hs)).trans e2, (hb.cell (p := ⟨b3, 0, none⟩) (Nat.lt_of_lt_of_le h3 hs)).trans e3, hB.trans (hb.mono hs)⟩
theorem keep93' {W wr w1 : World} {b1 b2 b3 o2 o3 : Nat} {v1 v2 v3 : Value} (h1 : b1 < W.heap.size) (h2 : b2 < W.heap.size) (h3 : b3 < W.heap.size)
    (h : wr.cell? ⟨b1, 0, none⟩ = some v1 ∧ wr.cell? ⟨b2, o2, none⟩ = some v2 ∧ wr.cell? ⟨b3, o3, none⟩ = some v3 ∧ Below W.heap.size W wr) (hb : Below wr.heap.size wr w1) : w1.cell? ⟨b1, 0, none⟩ = some v1 ∧ w1.cell? ⟨b2, o2, none⟩ = some v2 ∧ w1.cell? ⟨b3, o3, none⟩ = some v3 ∧ Below W.heap.size W w1 := by
  obtain ⟨e1, e2, e3, hB⟩ := h
  have hs := hB.size
  exact ⟨(hb.cell (p := ⟨b1, 0, none⟩) (Nat.lt_of_lt_of_le h1 hs)).trans e1, (hb.cell (p := ⟨b2, o2, none⟩) (Nat.lt_of_lt_of_le h2 hs)).trans e2, (hb.cell (p := ⟨b3, o3, none⟩) (Nat.lt_of_lt_of_le h3 hs)).trans e3, hB.trans (hb.mono hs)⟩
theorem genus_bounds (G : List Int) : -1 ≤ genusN G ∧ genusN G ≤ 200 := by
  have := gapsL_length_le G
  unfold genusN
  split <;> omega
theorem top_law (La Ll : List Int) : ∀ z ∈ Ll, topL La Ll true ≠ [] → (topL La Ll true).any (fun k => belowB La k z) = true := by
  intro z hz hne
  cases hs : isSgB La
  · exact absurd (topL_no (.inl hs)) hne
  · cases hL : Ll.all small
    · exact absurd (topL_no (.inr hL)) hne
    · obtain ⟨k, hk, hzk⟩ := top_over (dn := true) hs hL hz
      refine List.any_eq_true.2 ⟨k, hk, ?_⟩
      have hkl := ((mem_topL hs hL).1 hk).1
      have h1 := List.all_eq_true.1 hL k hkl
      have h2 := List.all_eq_true.1 hL z hz
      unfold belowB
      rw [h1, h2]
      unfold behN at hzk
      simpa using hzk
theorem psfL_asc (G : List Int) : Asc (psfL G) := by
  unfold psfL
  split
  · intro i j hj hij
    rw [List.length_map] at hj
    rw [List.getElem_map, List.getElem_map]
    have h : (upB (psf G) 200).Pairwise (· < ·) := by unfold upB; exact List.Pairwise.filter _ List.pairwise_lt_range
    have := (List.pairwise_iff_getElem.1 h) i j (by omega) hj hij
    simp only [Int.ofNat_eq_natCast]; omega
  · intro i j hj hij; simp at hj
theorem exc_law (G : List Int) (n : Int) (hne : excL G n ≠ []) : (genusN G = 0 ∧ excL G n = [-1]) ∨ (genusN G ≠ 0 ∧ excL G n = psfL G) := by
  rcases aperyL_cases G n with h | ⟨N, rfl, hA, -⟩
  · exfalso
    apply hne
    unfold excL
    have := topL_len G [] false
    rw [h]
    cases ht : topL G [] false with
    | nil => rfl
    | cons a l => rw [ht] at this; simp at this
  · have hs := hA.sg
    have hpos := hA.pos
    have hg := genus_len hs
    by_cases hc : condNat G = 0
    · left
      have hall : ∀ m, sumB G m = true := fun m => sg_from hs m (by omega)
      have h0 : gapsL G = [] := by
        unfold gapsL
        rw [if_pos hs]
        have : (upB (fun n => !sumB G n) 200).length = 0 := upB_none.2 fun x _ => by rw [hall x]; rfl
        rw [List.length_eq_zero_iff.1 this]; rfl
      refine ⟨by rw [hg, h0]; rfl, ?_⟩
      have hm : ∀ x, x ∈ excL G (N : Int) ↔ x ∈ [(-1 : Int)] := fun x => by
        rw [exc_mem hA, List.mem_singleton]
        constructor
        · rintro ⟨y, rfl, -, h2, h3⟩
          have h4 : y < N := Nat.lt_of_not_le fun h => by have := h2 h; rw [hall] at this; cases this
          have := (h3 1 (Nat.le_refl _) (hall 1)).1
          omega
        · rintro rfl
          exact ⟨N - 1, by omega, hall _, fun h => by omega, fun s hs1 _ => ⟨by omega, hall _⟩⟩
      have h1 := sortL_eq (excL_asc (G := G) (n := (N : Int))) hm
      have h2 : [(-1 : Int)] = sortL [-1] := sortL_eq (by intro i j hj hij; simp at hj; omega) fun _ => Iff.rfl
      rw [h1, ← h2]
    · right
      have hend : sumB G (condNat G - 1) = false := end_gap hc
      refine ⟨fun h => ?_, ?_⟩
      · have h0 : (gapsL G).length = 0 := by omega
        unfold gapsL at h0
        rw [if_pos hs, List.length_map] at h0
        have := upB_none.1 h0 (condNat G - 1) (by have := condNat_le G; omega)
        rw [hend] at this; cases this
      · have hm : ∀ x, x ∈ excL G (N : Int) ↔ x ∈ psfL G := fun x => by
          rw [exc_mem hA]
          constructor
          · rintro ⟨y, rfl, h1, h2, h3⟩
            have hNy : N ≤ y := Nat.le_of_not_lt fun h => by
              have h4 := h3 (condNat G - 1 + N - y) (by omega) (sg_from hs _ (by omega))
              rw [show y + (condNat G - 1 + N - y) - N = condNat G - 1 by omega, hend] at h4
              cases h4.2
            have e : (y : Int) - (N : Int) = ((y - N : Nat) : Int) := by omega
            rw [e, mem_psfL hs]
            unfold psf
            rw [h2 hNy, Bool.not_false, Bool.true_and, List.all_eq_true]
            intro g hgG
            have hp := sg_pos hs g hgG
            have h5 := h3 g.toNat (by omega) (sumB_iff.2 (IsSum.gen (by rw [Int.toNat_of_nonneg (by omega)]; exact hgG)))
            rw [show y - N + g.toNat = y + g.toNat - N by omega]; exact h5.2
          · intro hx
            obtain ⟨m, rfl⟩ : ∃ m : Nat, x = (m : Int) := by
              unfold psfL at hx
              rw [if_pos hs, List.mem_map] at hx
              obtain ⟨m, -, rfl⟩ := hx
              exact ⟨m, rfl⟩
            have hp := (mem_psfL hs m).1 hx
            refine ⟨m + N, by omega, sumB_iff.2 (psf_plus hp hA.mem hpos), fun _ => ?_, fun s hs1 hss => ⟨by omega, ?_⟩⟩
            · rw [Nat.add_sub_cancel]; exact psf_gap hp
            · rw [show m + N + s - N = m + s by omega]; exact sumB_iff.2 (psf_plus hp (sumB_iff.1 hss) hs1)
        rw [sortL_eq (excL_asc (G := G) (n := (N : Int))) hm]
        exact (sortL_eq (psfL_asc G) fun _ => Iff.rfl).symm

set_option maxRecDepth 100000 in
set_option maxHeartbeats 12800000 in
theorem fnOrder_small (p0 : Option Addr) (len0 cap0 : Nat) (z0 : List Int) (W : World) (r0 : IsRow .u8 W p0 len0 cap0 z0) (hl : len0 ≤ 1048576) :
    Calls Try.prog 3 #[.slice p0 len0 cap0] W fun e w' => e = .returned (.bool true) ∧ Below W.heap.size W w' := by
  have HR := Lib.hid r0
  clear r0
  have hW : Below W.heap.size W W := Below.refl _ _
  go_enter Try.func3, Try.ntmps3
  have c := big_b p0 len0 cap0 W (by unfold maxLen; omega)
  rw [decide_eq_false (show ¬ 1048576 < len0 by omega)] at c
  go_wp2_with fail
  refine c.mono ?_
  rintro e w1 ⟨rfl, hb⟩
  clear c
  have z1 := hb.size
  replace hW := hW.trans (hb.mono hW.size)
  clear hb
  have c := DrawExceedingOf_any w1 p0 len0 cap0 z0 (HR.out.below hW) hl
  go_wp2_with fail
  refine c.mono ?_
  rintro e w2 ⟨Ls, a_s, c_s, n, hl_s, hB_s, hn64, rfl, hs, hb⟩
  clear c
  have z2 := hb.size
  replace hW := hW.trans (hb.mono hW.size)
  have S_s := Lib.hid hs
  clear hs hb hB_s
  obtain ⟨w3, hwb⟩ : ∃ wb, wb = w2.alloc (.cells #[.slice a_s Ls.length c_s] 26) := ⟨_, rfl⟩
  have hb : Below w2.heap.size w2 w3 := by rw [hwb]; exact box_below _ _
  have hA : Arr w3 w2.heap.size 26 [.slice a_s Ls.length c_s] := by rw [hwb]; exact Arr.new _ _ _
  replace S_s := Lib.hid (S_s.out.below hb)
  have z3 := hb.size
  replace hW := hW.trans (hb.mono hW.size)
  have y3 : w2.heap.size < w3.heap.size := hA.lt
  have B_bs := Lib.hid hA
  have H_w3 := Lib.hid hwb
  clear hwb hb hA
  have he60 : (excL Ls n).length ≤ 60 := by unfold excL; rw [List.length_map]; exact exc_len Ls n
  have c := ci_ExceedingOf Ls a_s c_s n w3 S_s.out (by omega) hn64.1 hn64.2
  have hk_bs : w3.cell? ⟨w2.heap.size, 0, none⟩ = some (.slice a_s Ls.length c_s) := B_bs.out.cell 0
  rw [H_w3.out] at hk_bs
  go_wp2_with fail
  rw [← H_w3.out]
  refine c.mono ?_
  rintro e w4 ⟨v, rfl, ho, hb⟩
  clear c
  clear hk_bs
  obtain ⟨a_e, c_e, rfl, rX⟩ := row_open ho
  clear ho
  replace S_s := Lib.hid (S_s.out.below hb)
  replace B_bs := Lib.hid (B_bs.out.below hb)
  have z4 := hb.size
  replace hW := hW.trans (hb.mono hW.size)
  have R_e := Lib.hid rX
  clear rX
  clear hb
  have c := DrawMaximalOf_any w4 p0 len0 cap0 z0 (HR.out.below hW) hl
  have hk_bs : w4.cell? ⟨w2.heap.size, 0, none⟩ = some (.slice a_s Ls.length c_s) := B_bs.out.cell 0
  go_wp2_with fail
  refine c.mono ?_
  rintro e w5 ⟨La, a_a, c_a, Ll, v, hl_a, hB_a, hl_l, hB_l, rfl, hs, ho, hb⟩
  clear c
  clear hk_bs
  obtain ⟨a_l, c_l, rfl, rX⟩ := row_open ho
  clear ho
  replace S_s := Lib.hid (S_s.out.below hb)
  replace B_bs := Lib.hid (B_bs.out.below hb)
  replace R_e := Lib.hid (R_e.out.below hb)
  have z5 := hb.size
  replace hW := hW.trans (hb.mono hW.size)
  have S_a := Lib.hid hs
  have R_l := Lib.hid rX
  clear hs hb hB_a hB_l rX
  obtain ⟨w6, hwb⟩ : ∃ wb, wb = w5.alloc (.cells #[.slice a_a La.length c_a] 26) := ⟨_, rfl⟩
  have hb : Below w5.heap.size w5 w6 := by rw [hwb]; exact box_below _ _
  have hA : Arr w6 w5.heap.size 26 [.slice a_a La.length c_a] := by rw [hwb]; exact Arr.new _ _ _
  replace S_s := Lib.hid (S_s.out.below hb)
  replace B_bs := Lib.hid (B_bs.out.below hb)
  replace R_e := Lib.hid (R_e.out.below hb)
  replace S_a := Lib.hid (S_a.out.below hb)
  replace R_l := Lib.hid (R_l.out.below hb)
  have z6 := hb.size
  replace hW := hW.trans (hb.mono hW.size)
  have y6 : w5.heap.size < w6.heap.size := hA.lt
  have B_ba := Lib.hid hA
  have H_w6 := Lib.hid hwb
  clear hwb hb hA
  have ht6 := topL_len La Ll false
  have hm6 := topL_len La Ll true
  have c := ci_MaximalOf La a_a c_a Ll a_l c_l w6 S_a.out R_l.out.slw (by omega) (by omega)
  have hk_bs : w6.cell? ⟨w2.heap.size, 0, none⟩ = some (.slice a_s Ls.length c_s) := B_bs.out.cell 0
  have hk_ba : w6.cell? ⟨w5.heap.size, 0, none⟩ = some (.slice a_a La.length c_a) := B_ba.out.cell 0
  rw [H_w6.out] at hk_bs hk_ba
  go_wp2_with fail
  rw [← H_w6.out]
  refine c.mono ?_
  rintro e w7 ⟨v, rfl, ho, hb⟩
  clear c
  clear hk_bs hk_ba
  obtain ⟨a_t, c_t, rfl, rX⟩ := row_open ho
  clear ho
  replace S_s := Lib.hid (S_s.out.below hb)
  replace B_bs := Lib.hid (B_bs.out.below hb)
  replace R_e := Lib.hid (R_e.out.below hb)
  replace S_a := Lib.hid (S_a.out.below hb)
  replace R_l := Lib.hid (R_l.out.below hb)
  replace B_ba := Lib.hid (B_ba.out.below hb)
  have z7 := hb.size
  replace hW := hW.trans (hb.mono hW.size)
  have R_t := Lib.hid rX
  clear rX
  clear hb
  have c := ci_MinimalIn La a_a c_a Ll a_l c_l w7 S_a.out R_l.out.slw (by omega) (by omega)
  have hk_bs : w7.cell? ⟨w2.heap.size, 0, none⟩ = some (.slice a_s Ls.length c_s) := B_bs.out.cell 0
  have hk_ba : w7.cell? ⟨w5.heap.size, 0, none⟩ = some (.slice a_a La.length c_a) := B_ba.out.cell 0
  go_wp2_with fail
  refine c.mono ?_
  rintro e w8 ⟨v, rfl, ho, hb⟩
  clear c
  clear hk_bs hk_ba
  obtain ⟨a_m, c_m, rfl, rX⟩ := row_open ho
  clear ho
  replace S_s := Lib.hid (S_s.out.below hb)
  replace B_bs := Lib.hid (B_bs.out.below hb)
  replace R_e := Lib.hid (R_e.out.below hb)
  replace S_a := Lib.hid (S_a.out.below hb)
  replace R_l := Lib.hid (R_l.out.below hb)
  replace B_ba := Lib.hid (B_ba.out.below hb)
  replace R_t := Lib.hid (R_t.out.below hb)
  have z8 := hb.size
  replace hW := hW.trans (hb.mono hW.size)
  have R_m := Lib.hid rX
  clear rX
  clear hb
  have c := DrawIsBelow_any w8 p0 len0 cap0 z0 (HR.out.below hW) hl
  have hk_bs : w8.cell? ⟨w2.heap.size, 0, none⟩ = some (.slice a_s Ls.length c_s) := B_bs.out.cell 0
  have hk_ba : w8.cell? ⟨w5.heap.size, 0, none⟩ = some (.slice a_a La.length c_a) := B_ba.out.cell 0
  go_wp2_with fail
  refine c.mono ?_
  rintro e w9 ⟨Lb, a_b, c_b, x, y, hl_b, hB_b, hx64, hy64, rfl, hs, hb⟩
  clear c
  clear hk_bs hk_ba
  replace S_s := Lib.hid (S_s.out.below hb)
  replace B_bs := Lib.hid (B_bs.out.below hb)
  replace R_e := Lib.hid (R_e.out.below hb)
  replace S_a := Lib.hid (S_a.out.below hb)
  replace R_l := Lib.hid (R_l.out.below hb)
  replace B_ba := Lib.hid (B_ba.out.below hb)
  replace R_t := Lib.hid (R_t.out.below hb)
  replace R_m := Lib.hid (R_m.out.below hb)
  have z9 := hb.size
  replace hW := hW.trans (hb.mono hW.size)
  have S_b := Lib.hid hs
  clear hs hb hB_b HR hl
  obtain ⟨w10, hwb⟩ : ∃ wb, wb = w9.alloc (.cells #[.slice a_b Lb.length c_b] 26) := ⟨_, rfl⟩
  have hb : Below w9.heap.size w9 w10 := by rw [hwb]; exact box_below _ _
  have hA : Arr w10 w9.heap.size 26 [.slice a_b Lb.length c_b] := by rw [hwb]; exact Arr.new _ _ _
  replace S_s := Lib.hid (S_s.out.below hb)
  replace B_bs := Lib.hid (B_bs.out.below hb)
  replace R_e := Lib.hid (R_e.out.below hb)
  replace S_a := Lib.hid (S_a.out.below hb)
  replace R_l := Lib.hid (R_l.out.below hb)
  replace B_ba := Lib.hid (B_ba.out.below hb)
  replace R_t := Lib.hid (R_t.out.below hb)
  replace R_m := Lib.hid (R_m.out.below hb)
  replace S_b := Lib.hid (S_b.out.below hb)
  have z10 := hb.size
  replace hW := hW.trans (hb.mono hW.size)
  have y10 : w9.heap.size < w10.heap.size := hA.lt
  have B_bb := Lib.hid hA
  have H_w10 := Lib.hid hwb
  clear hwb hb hA
  have HLAW := Lib.hid (exc_law Ls n)
  have HTOP : Hid (∀ z ∈ Ll, topL La Ll true ≠ [] → (topL La Ll true).any (fun k => belowB La k z) = true) := Lib.hid (top_law La Ll)
  have hl_bs : w2.heap.size < w10.heap.size := B_bs.out.lt
  have hl_ba : w5.heap.size < w10.heap.size := B_ba.out.lt
  have hl_bb : w9.heap.size < w10.heap.size := B_bb.out.lt
  have hS0 : Hid (w10.drew.cell? ⟨w2.heap.size, 0, none⟩ = some (.slice a_s Ls.length c_s) ∧ w10.drew.cell? ⟨w5.heap.size, 0, none⟩ = some (.slice a_a La.length c_a) ∧ w10.drew.cell? ⟨w9.heap.size, 0, none⟩ = some (.slice a_b Lb.length c_b) ∧ Below w10.heap.size w10 w10.drew) := Lib.hid ⟨B_bs.out.cell 0, B_ba.out.cell 0, B_bb.out.cell 0, (Below.refl _ _).drew⟩
  have hk_bs : w10.cell? ⟨w2.heap.size, 0, none⟩ = some (.slice a_s Ls.length c_s) := B_bs.out.cell 0
  have hk_ba : w10.cell? ⟨w5.heap.size, 0, none⟩ = some (.slice a_a La.length c_a) := B_ba.out.cell 0
  have hk_bb : w10.cell? ⟨w9.heap.size, 0, none⟩ = some (.slice a_b Lb.length c_b) := B_bb.out.cell 0
  rw [H_w10.out] at hk_bs hk_ba hk_bb
  go_wp2_with fail
  rw [← H_w10.out]
  clear hk_bs hk_ba hk_bb
  have fr : ∀ w', (w'.cell? ⟨w2.heap.size, 0, none⟩ = some (.slice a_s Ls.length c_s) ∧ w'.cell? ⟨w5.heap.size, 0, none⟩ = some (.slice a_a La.length c_a) ∧ w'.cell? ⟨w9.heap.size, 0, none⟩ = some (.slice a_b Lb.length c_b) ∧ Below w10.heap.size w10 w') → Below w10.heap.size w10 w' := fun w' h => h.2.2.2
  refine wp_region_held_drew (S := fun w' => w'.cell? ⟨w2.heap.size, 0, none⟩ = some (.slice a_s Ls.length c_s) ∧ w'.cell? ⟨w5.heap.size, 0, none⟩ = some (.slice a_a La.length c_a) ∧ w'.cell? ⟨w9.heap.size, 0, none⟩ = some (.slice a_b Lb.length c_b) ∧ Below w10.heap.size w10 w') (by kernel_rfl) hS0.out (fun hHeld => ?_)
  refine held_take 0 _ _ rfl (by kernel_rfl) (by kernel_rfl) (by kernel_rfl) (fun _ _ _ h => h) (by rfl) hHeld (fun w hSw => by (try dsimp only at hSw); go_simp; try with_reducible rfl) ?_
  (try simp only [Act.put, List.setIfInBounds_toArray, List.set_cons_zero, List.set_cons_succ, List.getElem_toArray, List.getElem_cons_zero])
  refine held_take 1 _ _ rfl (by kernel_rfl) (by kernel_rfl) (by kernel_rfl) (fun _ _ _ h => h) (by rfl) hHeld (fun w hSw => by (try dsimp only at hSw); go_simp; try with_reducible rfl) ?_
  (try simp only [Act.put, List.setIfInBounds_toArray, List.set_cons_zero, List.set_cons_succ, List.getElem_toArray, List.getElem_cons_succ, List.getElem_cons_zero])
  refine held_take 2 _ _ rfl (by kernel_rfl) (by kernel_rfl) (by kernel_rfl) (fun _ _ _ h => h) (by rfl) hHeld (fun w hSw => by (try dsimp only at hSw); go_simp; try with_reducible rfl) ?_
  (try simp only [Act.put, List.setIfInBounds_toArray, List.set_cons_zero, List.set_cons_succ, List.getElem_toArray, List.getElem_cons_succ, List.getElem_cons_zero])
  refine wpAnyH_ready (rs := [3]) (by kernel_rfl) (by simp) ?_
  refine AllReadyH.cons rfl (fun K hK => ?_) AllReadyH.nil
  rw [if_pos (by rfl)]
  go_wp2_with (first | (go_at_call 17; have c := cs_ExceedingOf Ls a_s c_s n _ (S_s.out.below (fr _ hHeld)) (by omega) hn64.1 hn64.2; (with_reducible refine c.mono ?_); rintro e wk ⟨v, rfl, ho, hbk⟩; obtain ⟨a_q1, c_q1, rfl, rX⟩ := row_open ho; have Q_q1 := rX.slv; clear ho rX c))
  refine hK.out _ _ (keepO hl_bs hl_ba hl_bb hHeld hbk) (fun hHeld1 => ?_)
  clear hK K
  (try simp only [Act.put, List.setIfInBounds_toArray, List.set_cons_zero, List.set_cons_succ, List.getElem_toArray, List.getElem_cons_succ, List.getElem_cons_zero])
  refine wpAnyH_ready (rs := [4]) (by kernel_rfl) (by simp) ?_
  refine AllReadyH.cons rfl (fun K hK => ?_) AllReadyH.nil
  rw [if_pos (by rfl)]
  go_wp2_with (first | (go_at_call 16; have c := sameInts_any (excL Ls n) (excL Ls n) a_e a_q1 c_e c_q1 _ (R_e.out.slv.below (fr _ hHeld1)) Q_q1 (by omega) (by omega); rw [decide_eq_true (rfl : (excL Ls n) = (excL Ls n))] at c; (with_reducible refine c.mono ?_); rintro e wk ⟨rfl, hbk⟩; clear c))
  refine hK.out _ _ (keepO hl_bs hl_ba hl_bb hHeld1 hbk) (fun hHeld2 => ?_)
  clear hK K
  (try simp only [Act.put, List.setIfInBounds_toArray, List.set_cons_zero, List.set_cons_succ, List.getElem_toArray, List.getElem_cons_succ, List.getElem_cons_zero])
  refine held_take 5 _ _ rfl (by kernel_rfl) (by kernel_rfl) (by kernel_rfl) (fun _ _ _ h => h) (by rfl) hHeld2 (fun w hSw => by (try dsimp only at hSw); go_simp; try with_reducible rfl) ?_
  (try simp only [Act.put, List.setIfInBounds_toArray, List.set_cons_zero, List.set_cons_succ, List.getElem_toArray, List.getElem_cons_succ, List.getElem_cons_zero])
  refine held_take 6 _ _ rfl (by kernel_rfl) (by kernel_rfl) (by kernel_rfl) (fun _ _ _ h => h) (by rfl) hHeld2 (fun w hSw => by (try dsimp only at hSw); go_simp; try with_reducible rfl) ?_
  (try simp only [Act.put, List.setIfInBounds_toArray, List.set_cons_zero, List.set_cons_succ, List.getElem_toArray, List.getElem_cons_succ, List.getElem_cons_zero])
  refine held_take 7 _ _ rfl (by kernel_rfl) (by kernel_rfl) (by kernel_rfl) (fun _ _ _ h => h) (by rfl) hHeld2 (fun w hSw => by (try dsimp only at hSw); go_simp; try with_reducible rfl) ?_
  (try simp only [Act.put, List.setIfInBounds_toArray, List.set_cons_zero, List.set_cons_succ, List.getElem_toArray, List.getElem_cons_succ, List.getElem_cons_zero])
  refine held_take 8 _ _ rfl (by kernel_rfl) (by kernel_rfl) (by kernel_rfl) (fun _ _ _ h => h) (by rfl) hHeld2 (fun w hSw => by (try dsimp only at hSw); go_simp; try with_reducible rfl) ?_
  (try simp only [Act.put, List.setIfInBounds_toArray, List.set_cons_zero, List.set_cons_succ, List.getElem_toArray, List.getElem_cons_succ, List.getElem_cons_zero])
  refine held_take 9 _ _ rfl (by kernel_rfl) (by kernel_rfl) (by kernel_rfl) (fun _ _ _ h => h) (by rfl) hHeld2 (fun w hSw => by (try dsimp only at hSw); go_simp; try with_reducible rfl) ?_
  (try simp only [Act.put, List.setIfInBounds_toArray, List.set_cons_zero, List.set_cons_succ, List.getElem_toArray, List.getElem_cons_succ, List.getElem_cons_zero])
  refine wpAnyH_ready (rs := [10]) (by kernel_rfl) (by simp) ?_
  refine AllReadyH.cons rfl (fun K hK => ?_) AllReadyH.nil
  rw [if_pos (by rfl)]
  go_wp2_with (first | (go_at_call 18; have c := cs_MaximalOf La a_a c_a Ll a_l c_l _ (S_a.out.below (fr _ hHeld2)) (R_l.out.slw.below (fr _ hHeld2)) (by omega) (by omega); (with_reducible refine c.mono ?_); rintro e wk ⟨v, rfl, ho, hbk⟩; obtain ⟨a_q2, c_q2, rfl, rX⟩ := row_open ho; have Q_q2 := rX.slv; clear ho rX c))
  refine hK.out _ _ (keepO hl_bs hl_ba hl_bb hHeld2 hbk) (fun hHeld3 => ?_)
  clear hK K
  (try simp only [Act.put, List.setIfInBounds_toArray, List.set_cons_zero, List.set_cons_succ, List.getElem_toArray, List.getElem_cons_succ, List.getElem_cons_zero])
  refine wpAnyH_ready (rs := [11]) (by kernel_rfl) (by simp) ?_
  refine AllReadyH.cons rfl (fun K hK => ?_) AllReadyH.nil
  rw [if_pos (by rfl)]
  go_wp2_with (first | (go_at_call 16; have c := sameInts_any (topL La Ll false) (topL La Ll false) a_t a_q2 c_t c_q2 _ (R_t.out.slv.below (fr _ hHeld3)) Q_q2 (by omega) (by omega); rw [decide_eq_true (rfl : (topL La Ll false) = (topL La Ll false))] at c; (with_reducible refine c.mono ?_); rintro e wk ⟨rfl, hbk⟩; clear c))
  refine hK.out _ _ (keepO hl_bs hl_ba hl_bb hHeld3 hbk) (fun hHeld4 => ?_)
  clear hK K
  (try simp only [Act.put, List.setIfInBounds_toArray, List.set_cons_zero, List.set_cons_succ, List.getElem_toArray, List.getElem_cons_succ, List.getElem_cons_zero])
  refine held_take 12 _ _ rfl (by kernel_rfl) (by kernel_rfl) (by kernel_rfl) (fun _ _ _ h => h) (by rfl) hHeld4 (fun w hSw => by (try dsimp only at hSw); go_simp; try with_reducible rfl) ?_
  (try simp only [Act.put, List.setIfInBounds_toArray, List.set_cons_zero, List.set_cons_succ, List.getElem_toArray, List.getElem_cons_succ, List.getElem_cons_zero])
  refine held_take 13 _ _ rfl (by kernel_rfl) (by kernel_rfl) (by kernel_rfl) (fun _ _ _ h => h) (by rfl) hHeld4 (fun w hSw => by (try dsimp only at hSw); go_simp; try with_reducible rfl) ?_
  (try simp only [Act.put, List.setIfInBounds_toArray, List.set_cons_zero, List.set_cons_succ, List.getElem_toArray, List.getElem_cons_succ, List.getElem_cons_zero])
  refine held_take 14 _ _ rfl (by kernel_rfl) (by kernel_rfl) (by kernel_rfl) (fun _ _ _ h => h) (by rfl) hHeld4 (fun w hSw => by (try dsimp only at hSw); go_simp; try with_reducible rfl) ?_
  (try simp only [Act.put, List.setIfInBounds_toArray, List.set_cons_zero, List.set_cons_succ, List.getElem_toArray, List.getElem_cons_succ, List.getElem_cons_zero])
  refine held_take 15 _ _ rfl (by kernel_rfl) (by kernel_rfl) (by kernel_rfl) (fun _ _ _ h => h) (by rfl) hHeld4 (fun w hSw => by (try dsimp only at hSw); go_simp; try with_reducible rfl) ?_
  (try simp only [Act.put, List.setIfInBounds_toArray, List.set_cons_zero, List.set_cons_succ, List.getElem_toArray, List.getElem_cons_succ, List.getElem_cons_zero])
  refine held_take 16 _ _ rfl (by kernel_rfl) (by kernel_rfl) (by kernel_rfl) (fun _ _ _ h => h) (by rfl) hHeld4 (fun w hSw => by (try dsimp only at hSw); go_simp; try with_reducible rfl) ?_
  (try simp only [Act.put, List.setIfInBounds_toArray, List.set_cons_zero, List.set_cons_succ, List.getElem_toArray, List.getElem_cons_succ, List.getElem_cons_zero])
  refine held_take 17 _ _ rfl (by kernel_rfl) (by kernel_rfl) (by kernel_rfl) (fun _ _ _ h => h) (by rfl) hHeld4 (fun w hSw => by (try dsimp only at hSw); go_simp; try with_reducible rfl) ?_
  (try simp only [Act.put, List.setIfInBounds_toArray, List.set_cons_zero, List.set_cons_succ, List.getElem_toArray, List.getElem_cons_succ, List.getElem_cons_zero])
  refine wpAnyH_ready (rs := [18]) (by kernel_rfl) (by simp) ?_
  refine AllReadyH.cons rfl (fun K hK => ?_) AllReadyH.nil
  rw [if_pos (by rfl)]
  go_wp2_with (first | (go_at_call 19; have c := cs_MinimalIn La a_a c_a Ll a_l c_l _ (S_a.out.below (fr _ hHeld4)) (R_l.out.slw.below (fr _ hHeld4)) (by omega) (by omega); (with_reducible refine c.mono ?_); rintro e wk ⟨v, rfl, ho, hbk⟩; obtain ⟨a_q3, c_q3, rfl, rX⟩ := row_open ho; have Q_q3 := rX.slv; clear ho rX c))
  refine hK.out _ _ (keepO hl_bs hl_ba hl_bb hHeld4 hbk) (fun hHeld5 => ?_)
  clear hK K
  (try simp only [Act.put, List.setIfInBounds_toArray, List.set_cons_zero, List.set_cons_succ, List.getElem_toArray, List.getElem_cons_succ, List.getElem_cons_zero])
  refine wpAnyH_ready (rs := [19]) (by kernel_rfl) (by simp) ?_
  refine AllReadyH.cons rfl (fun K hK => ?_) AllReadyH.nil
  rw [if_pos (by rfl)]
  go_wp2_with (first | (go_at_call 16; have c := sameInts_any (topL La Ll true) (topL La Ll true) a_m a_q3 c_m c_q3 _ (R_m.out.slv.below (fr _ hHeld5)) Q_q3 (by omega) (by omega); rw [decide_eq_true (rfl : (topL La Ll true) = (topL La Ll true))] at c; (with_reducible refine c.mono ?_); rintro e wk ⟨rfl, hbk⟩; clear c))
  refine hK.out _ _ (keepO hl_bs hl_ba hl_bb hHeld5 hbk) (fun hHeld6 => ?_)
  clear hK K
  (try simp only [Act.put, List.setIfInBounds_toArray, List.set_cons_zero, List.set_cons_succ, List.getElem_toArray, List.getElem_cons_succ, List.getElem_cons_zero])
  refine held_take 20 _ _ rfl (by kernel_rfl) (by kernel_rfl) (by kernel_rfl) (fun _ _ _ h => h) (by rfl) hHeld6 (fun w hSw => by (try dsimp only at hSw); go_simp; try with_reducible rfl) ?_
  (try simp only [Act.put, List.setIfInBounds_toArray, List.set_cons_zero, List.set_cons_succ, List.getElem_toArray, List.getElem_cons_succ, List.getElem_cons_zero])
  refine held_take 21 _ _ rfl (by kernel_rfl) (by kernel_rfl) (by kernel_rfl) (fun _ _ _ h => h) (by rfl) hHeld6 (fun w hSw => by (try dsimp only at hSw); go_simp; try with_reducible rfl) ?_
  (try simp only [Act.put, List.setIfInBounds_toArray, List.set_cons_zero, List.set_cons_succ, List.getElem_toArray, List.getElem_cons_succ, List.getElem_cons_zero])
  refine held_take 22 _ _ rfl (by kernel_rfl) (by kernel_rfl) (by kernel_rfl) (fun _ _ _ h => h) (by rfl) hHeld6 (fun w hSw => by (try dsimp only at hSw); go_simp; try with_reducible rfl) ?_
  (try simp only [Act.put, List.setIfInBounds_toArray, List.set_cons_zero, List.set_cons_succ, List.getElem_toArray, List.getElem_cons_succ, List.getElem_cons_zero])
  refine held_take 23 _ _ rfl (by kernel_rfl) (by kernel_rfl) (by kernel_rfl) (fun _ _ _ h => h) (by rfl) hHeld6 (fun w hSw => by (try dsimp only at hSw); go_simp; try with_reducible rfl) ?_
  (try simp only [Act.put, List.setIfInBounds_toArray, List.set_cons_zero, List.set_cons_succ, List.getElem_toArray, List.getElem_cons_succ, List.getElem_cons_zero])
  refine held_take 24 _ _ rfl (by kernel_rfl) (by kernel_rfl) (by kernel_rfl) (fun _ _ _ h => h) (by rfl) hHeld6 (fun w hSw => by (try dsimp only at hSw); go_simp; try with_reducible rfl) ?_
  (try simp only [Act.put, List.setIfInBounds_toArray, List.set_cons_zero, List.set_cons_succ, List.getElem_toArray, List.getElem_cons_succ, List.getElem_cons_zero])
  refine held_take 25 _ _ rfl (by kernel_rfl) (by kernel_rfl) (by kernel_rfl) (fun _ _ _ h => h) (by rfl) hHeld6 (fun w hSw => by (try dsimp only at hSw); go_simp; try with_reducible rfl) ?_
  (try simp only [Act.put, List.setIfInBounds_toArray, List.set_cons_zero, List.set_cons_succ, List.getElem_toArray, List.getElem_cons_succ, List.getElem_cons_zero])
  refine held_take 27 _ _ rfl (by kernel_rfl) (by kernel_rfl) (by kernel_rfl) (fun _ _ _ h => h) (by rfl) hHeld6 (fun w hSw => by (try dsimp only at hSw); go_simp; try with_reducible rfl) ?_
  (try simp only [Act.put, List.setIfInBounds_toArray, List.set_cons_zero, List.set_cons_succ, List.getElem_toArray, List.getElem_cons_succ, List.getElem_cons_zero])
  refine held_take 28 _ _ rfl (by kernel_rfl) (by kernel_rfl) (by kernel_rfl) (fun _ _ _ h => h) (by rfl) hHeld6 (fun w hSw => by (try dsimp only at hSw); go_simp; try with_reducible rfl) ?_
  (try simp only [Act.put, List.setIfInBounds_toArray, List.set_cons_zero, List.set_cons_succ, List.getElem_toArray, List.getElem_cons_succ, List.getElem_cons_zero])
  refine held_take 29 _ _ rfl (by kernel_rfl) (by kernel_rfl) (by kernel_rfl) (fun _ _ _ h => h) (by rfl) hHeld6 (fun w hSw => by (try dsimp only at hSw); go_simp; try with_reducible rfl) ?_
  (try simp only [Act.put, List.setIfInBounds_toArray, List.set_cons_zero, List.set_cons_succ, List.getElem_toArray, List.getElem_cons_succ, List.getElem_cons_zero])
  refine wpAnyH_ready (rs := [26]) (by kernel_rfl) (by simp) ?_
  refine AllReadyH.cons rfl (fun K hK => ?_) AllReadyH.nil
  rw [if_pos (by rfl)]
  go_wp2_with (first | (go_at_call 20; have c := ci_IsBelow Lb a_b c_b x y _ (S_b.out.below (fr _ hHeld6)) (by omega) hx64.1 hx64.2 hy64.1 hy64.2; (with_reducible refine c.mono ?_); rintro e wk ⟨rfl, hbk⟩; clear c))
  refine hK.out _ _ (keepO hl_bs hl_ba hl_bb hHeld6 hbk) (fun hHeld7 => ?_)
  clear hK K
  (try simp only [Act.put, List.setIfInBounds_toArray, List.set_cons_zero, List.set_cons_succ, List.getElem_toArray, List.getElem_cons_succ, List.getElem_cons_zero])
  refine wpAnyH_ready (rs := [30]) (by kernel_rfl) (by simp) ?_
  refine AllReadyH.cons rfl (fun K hK => ?_) AllReadyH.nil
  rw [if_pos (by rfl)]
  go_wp2_with (first | (go_at_call 21; have c := cs_IsBelow Lb a_b c_b x y _ (S_b.out.below (fr _ hHeld7)) (by omega) hx64.1 hx64.2 hy64.1 hy64.2; (with_reducible refine c.mono ?_); rintro e wk ⟨rfl, hbk⟩; clear c))
  refine hK.out _ _ (keepO hl_bs hl_ba hl_bb hHeld7 hbk) (fun hHeld8 => ?_)
  clear hK K
  (try simp only [Act.put, List.setIfInBounds_toArray, List.set_cons_zero, List.set_cons_succ, List.getElem_toArray, List.getElem_cons_succ, List.getElem_cons_zero])
  refine held_take 31 _ _ rfl (by kernel_rfl) (by kernel_rfl) (by kernel_rfl) (fun _ _ _ h => h) (by rfl) hHeld8 (fun w hSw => by (try dsimp only at hSw); go_simp; try with_reducible rfl) ?_
  (try simp only [Act.put, List.setIfInBounds_toArray, List.set_cons_zero, List.set_cons_succ, List.getElem_toArray, List.getElem_cons_succ, List.getElem_cons_zero])
  refine held_take 32 _ _ rfl (by kernel_rfl) (by kernel_rfl) (by kernel_rfl) (fun _ _ _ h => h) (by rfl) hHeld8 (fun w hSw => by (try dsimp only at hSw); go_simp; try with_reducible rfl) ?_
  (try simp only [Act.put, List.setIfInBounds_toArray, List.set_cons_zero, List.set_cons_succ, List.getElem_toArray, List.getElem_cons_succ, List.getElem_cons_zero])
  refine wpAnyH_done (by kernel_rfl) ?_ _
  have hB9 := hHeld8.2.2.2
  clear hS0 fr hHeld8 Q_q1 Q_q2 Q_q3
  rename World => wq
  have hb := hB9
  replace S_s := Lib.hid (S_s.out.below hb)
  replace B_bs := Lib.hid (B_bs.out.below hb)
  replace R_e := Lib.hid (R_e.out.below hb)
  replace S_a := Lib.hid (S_a.out.below hb)
  replace R_l := Lib.hid (R_l.out.below hb)
  replace B_ba := Lib.hid (B_ba.out.below hb)
  replace R_t := Lib.hid (R_t.out.below hb)
  replace R_m := Lib.hid (R_m.out.below hb)
  replace S_b := Lib.hid (S_b.out.below hb)
  replace B_bb := Lib.hid (B_bb.out.below hb)
  have z11 := hb.size
  replace hW := hW.trans (hb.mono hW.size)
  clear hb hB9 S_b
  clear B_bb hl_bb hl_bs hl_ba R_t
  have hW9 := hW.size
  have hlba : w5.heap.size < wq.heap.size := B_ba.out.lt
  have hlbs : w2.heap.size < wq.heap.size := B_bs.out.lt
  go_wp2_with fail
  go_loopw [13] (fun i wr => ∃ k : Nat, k ≤ Ll.length ∧ i = .int .i64 (k : Int) ∧ Below wq.heap.size wq wr) (fun i _ => Ll.length - (intOf i).toNat)
  case atStart => exact ⟨0, Nat.zero_le _, rfl, Below.refl _ _⟩
  case round =>
      obtain ⟨k, hk, rfl, hbel⟩ := hrel
      have hbz := hbel.size
      by_cases hgo : k < Ll.length ∧ topL La Ll true ≠ []
      · obtain ⟨hlt, hne⟩ := hgo
        have hlti : (k : Int) < (Ll.length : Int) := by omega
        have hp : 0 < (topL La Ll true).length := by rcases hq : topL La Ll true with _ | ⟨a, r⟩; exact absurd hq hne; simp
        have hpi : (0 : Int) < ((topL La Ll true).length : Int) := by omega
        have hdp := decide_eq_true hp
        have HANY := Lib.hid (HTOP.out Ll[k] (List.getElem_mem hlt) hne)
        obtain ⟨bl, ol, rfl, hbs, hcl⟩ := (R_l.out.slv).open (by intro h; rw [List.map_eq_nil_iff] at h; subst h; simp at hlt)
        have hcl2 : wq.cell? ⟨bl, ol + k, none⟩ = some (.int .i64 Ll[k]) := hcl k _ (by simp [hlt])
        have hk0 : (0 : Int) ≤ (k : Int) := by omega
        clear hcl hne
        generalize Ll[k] = z at *
        have RM := Lib.hid R_m.out.slv
        have hMl : (topL La Ll true).length ≤ 6 := by omega
        generalize topL La Ll true = M at *
        clear R_m
        go_wp2_with fail
        go_loopw [14, 15] (fun f i w2 => ∃ j : Nat, j ≤ M.length ∧ i = .int .i64 (j : Int) ∧ f = .bool ((M.take j).any fun q => belowB La q z) ∧ Below wr.heap.size wr w2) (fun _ i _ => M.length - (intOf i).toNat)
        case atStart => exact ⟨0, Nat.zero_le _, rfl, by simp, Below.refl _ _⟩
        case round =>
          rename World => w2
          obtain ⟨j, hj, rfl, rfl, hb2⟩ := hrel
          have hbel2 := hbel.trans (hb2.mono hbz)
          have hcz : w2.cell? ⟨bl, ol + k, none⟩ = some (.int .i64 z) := (hbel2.cell (p := ⟨bl, ol + k, none⟩) hbs).trans hcl2
          by_cases hln : j < M.length
          · have hlni : (j : Int) < (M.length : Int) := by omega
            obtain ⟨bm, om, rfl, hbm, hcm⟩ := (RM.out).open (by intro h; rw [List.map_eq_nil_iff] at h; subst h; simp at hln)
            have hcm2 : w2.cell? ⟨bm, om + j, none⟩ = some (.int .i64 M[j]) := (hbel2.cell (p := ⟨bm, om + j, none⟩) hbm).trans (hcm j _ (by simp [hln]))
            have HT : Hid ((M.take (j + 1)).any (fun q => belowB La q z) = ((M.take j).any (fun q => belowB La q z) || belowB La M[j] z)) := Lib.hid (by rw [List.take_add_one, List.getElem?_eq_getElem hln, Option.toList_some, List.any_append]; simp)
            have hca : w2.cell? ⟨w5.heap.size, 0, none⟩ = some (.slice a_a La.length c_a) := (hbel2.cell (p := ⟨w5.heap.size, 0, none⟩) hlba).trans (B_ba.out.cell 0)
            have hl1 : w5.heap.size < w2.heap.size := Nat.lt_of_lt_of_le hlba hbel2.size
            have hl2 : bm < w2.heap.size := Nat.lt_of_lt_of_le hbm hbel2.size
            have hl3 : bl < w2.heap.size := Nat.lt_of_lt_of_le hbs hbel2.size
            have hj0 : (0 : Int) ≤ (j : Int) := by omega
            have hSA := S_a.out.below hbel2
            clear hcm
            generalize hMj : M[j] = q at *
            clear hMj
            generalize (M.take j).any (fun q => belowB La q z) = fi at *
            have ISB := fun w' (h : SlW w' a_a c_a (La.map (Value.int .i64))) => impl_IsBelow La q z a_a c_a w' h.sl (by omega)
            generalize belowB La q z = hh at *
            cases fi
            · skip
              have hS0 : w2.drew.cell? ⟨w5.heap.size, 0, none⟩ = some (.slice a_a La.length c_a) ∧ w2.drew.cell? ⟨bm, om + j, none⟩ = some (.int .i64 q) ∧ w2.drew.cell? ⟨bl, ol + k, none⟩ = some (.int .i64 z) ∧ Below w2.heap.size w2 w2.drew := ⟨hca, hcm2, hcz, (Below.refl _ _).drew⟩
              go_wp2_with fail
              refine wp_region_held_drew (S := fun w' => w'.cell? ⟨w5.heap.size, 0, none⟩ = some (.slice a_a La.length c_a) ∧ w'.cell? ⟨bm, om + j, none⟩ = some (.int .i64 q) ∧ w'.cell? ⟨bl, ol + k, none⟩ = some (.int .i64 z) ∧ Below w2.heap.size w2 w') (by kernel_rfl) hS0 (fun hHeld => ?_)
              refine held_take 0 _ _ rfl (by kernel_rfl) (by kernel_rfl) (by kernel_rfl) (fun _ _ _ h => h) (by rfl) hHeld (fun w hSw => by (try dsimp only at hSw); go_simp; try with_reducible rfl) ?_
              (try simp only [Act.put, List.setIfInBounds_toArray, List.set_cons_zero, List.set_cons_succ, List.getElem_toArray, List.getElem_cons_zero])
              refine held_take 1 _ _ rfl (by kernel_rfl) (by kernel_rfl) (by kernel_rfl) (fun _ _ _ h => h) (by rfl) hHeld (fun w hSw => by (try dsimp only at hSw); go_simp; try with_reducible rfl) ?_
              (try simp only [Act.put, List.setIfInBounds_toArray, List.set_cons_zero, List.set_cons_succ, List.getElem_toArray, List.getElem_cons_succ, List.getElem_cons_zero])
              refine held_take 2 _ _ rfl (by kernel_rfl) (by kernel_rfl) (by kernel_rfl) (fun _ _ _ h => h) (by rfl) hHeld (fun w hSw => by (try dsimp only at hSw); go_simp; try with_reducible rfl) ?_
              (try simp only [Act.put, List.setIfInBounds_toArray, List.set_cons_zero, List.set_cons_succ, List.getElem_toArray, List.getElem_cons_succ, List.getElem_cons_zero])
              refine held_take 3 _ _ rfl (by kernel_rfl) (by kernel_rfl) (by kernel_rfl) (fun _ _ _ h => h) (by rfl) hHeld (fun w hSw => by (try dsimp only at hSw); go_simp; try with_reducible rfl) ?_
              (try simp only [Act.put, List.setIfInBounds_toArray, List.set_cons_zero, List.set_cons_succ, List.getElem_toArray, List.getElem_cons_succ, List.getElem_cons_zero])
              refine held_take 4 _ _ rfl (by kernel_rfl) (by kernel_rfl) (by kernel_rfl) (fun _ _ _ h => h) (by rfl) hHeld (fun w hSw => by (try dsimp only at hSw); go_simp; try with_reducible rfl) ?_
              (try simp only [Act.put, List.setIfInBounds_toArray, List.set_cons_zero, List.set_cons_succ, List.getElem_toArray, List.getElem_cons_succ, List.getElem_cons_zero])
              refine held_take 5 _ _ rfl (by kernel_rfl) (by kernel_rfl) (by kernel_rfl) (fun _ _ _ h => h) (by rfl) hHeld (fun w hSw => by (try dsimp only at hSw); go_simp; try with_reducible rfl) ?_
              (try simp only [Act.put, List.setIfInBounds_toArray, List.set_cons_zero, List.set_cons_succ, List.getElem_toArray, List.getElem_cons_succ, List.getElem_cons_zero])
              refine held_take 6 _ _ rfl (by kernel_rfl) (by kernel_rfl) (by kernel_rfl) (fun _ _ _ h => h) (by rfl) hHeld (fun w hSw => by (try dsimp only at hSw); go_simp; try with_reducible rfl) ?_
              (try simp only [Act.put, List.setIfInBounds_toArray, List.set_cons_zero, List.set_cons_succ, List.getElem_toArray, List.getElem_cons_succ, List.getElem_cons_zero])
              refine held_take 7 _ _ rfl (by kernel_rfl) (by kernel_rfl) (by kernel_rfl) (fun _ _ _ h => h) (by rfl) hHeld (fun w hSw => by (try dsimp only at hSw); go_simp; try with_reducible rfl) ?_
              (try simp only [Act.put, List.setIfInBounds_toArray, List.set_cons_zero, List.set_cons_succ, List.getElem_toArray, List.getElem_cons_succ, List.getElem_cons_zero])
              refine held_take 8 _ _ rfl (by kernel_rfl) (by kernel_rfl) (by kernel_rfl) (fun _ _ _ h => h) (by rfl) hHeld (fun w hSw => by (try dsimp only at hSw); go_simp; try with_reducible rfl) ?_
              (try simp only [Act.put, List.setIfInBounds_toArray, List.set_cons_zero, List.set_cons_succ, List.getElem_toArray, List.getElem_cons_succ, List.getElem_cons_zero])
              refine held_take 9 _ _ rfl (by kernel_rfl) (by kernel_rfl) (by kernel_rfl) (fun _ _ _ h => h) (by rfl) hHeld (fun w hSw => by (try dsimp only at hSw); go_simp; try with_reducible rfl) ?_
              (try simp only [Act.put, List.setIfInBounds_toArray, List.set_cons_zero, List.set_cons_succ, List.getElem_toArray, List.getElem_cons_succ, List.getElem_cons_zero])
              refine held_take 10 _ _ rfl (by kernel_rfl) (by kernel_rfl) (by kernel_rfl) (fun _ _ _ h => h) (by rfl) hHeld (fun w hSw => by (try dsimp only at hSw); go_simp; try with_reducible rfl) ?_
              (try simp only [Act.put, List.setIfInBounds_toArray, List.set_cons_zero, List.set_cons_succ, List.getElem_toArray, List.getElem_cons_succ, List.getElem_cons_zero])
              refine wpAnyH_ready (rs := [11]) (by kernel_rfl) (by simp) ?_
              refine AllReadyH.cons rfl (fun K hK => ?_) AllReadyH.nil
              rw [if_pos (by rfl)]
              go_wp2_with (first | (go_at_call 20; have c := ISB _ (hSA.below (hHeld.2.2.2)); (with_reducible refine c.mono ?_); rintro e wk ⟨rfl, hbk⟩; clear c))
              refine hK.out _ _ (keep93' hl1 hl2 hl3 hHeld hbk) (fun hHeld1 => ?_)
              clear hK K
              (try simp only [Act.put, List.setIfInBounds_toArray, List.set_cons_zero, List.set_cons_succ, List.getElem_toArray, List.getElem_cons_succ, List.getElem_cons_zero])
              refine held_take 12 _ _ rfl (by kernel_rfl) (by kernel_rfl) (by kernel_rfl) (fun _ _ _ h => h) (by rfl) hHeld1 (fun w hSw => by (try dsimp only at hSw); go_simp; try with_reducible rfl) ?_
              (try simp only [Act.put, List.setIfInBounds_toArray, List.set_cons_zero, List.set_cons_succ, List.getElem_toArray, List.getElem_cons_succ, List.getElem_cons_zero])
              refine held_take 13 _ _ rfl (by kernel_rfl) (by kernel_rfl) (by kernel_rfl) (fun _ _ _ h => h) (by rfl) hHeld1 (fun w hSw => by (try dsimp only at hSw); go_simp; try with_reducible rfl) ?_
              (try simp only [Act.put, List.setIfInBounds_toArray, List.set_cons_zero, List.set_cons_succ, List.getElem_toArray, List.getElem_cons_succ, List.getElem_cons_zero])
              refine wpAnyH_done (by kernel_rfl) ?_ _
              have hb3 := hb2.trans ((hHeld1.2.2.2).mono hb2.size)
              clear hS0 hHeld1
              go_wp2_with fail
              go_roundw
              case rel => exact ⟨j + 1, by omega, by go_num, by rw [HT.out, Bool.false_or], hb3⟩
              case measure => simp [intOf]; omega
            · clear ISB
              have hS0 : w2.drew.cell? ⟨w5.heap.size, 0, none⟩ = some (.slice a_a La.length c_a) ∧ w2.drew.cell? ⟨bm, om + j, none⟩ = some (.int .i64 q) ∧ w2.drew.cell? ⟨bl, ol + k, none⟩ = some (.int .i64 z) ∧ Below w2.heap.size w2 w2.drew := ⟨hca, hcm2, hcz, (Below.refl _ _).drew⟩
              go_wp2_with fail
              refine wp_region_held_drew (S := fun w' => w'.cell? ⟨w5.heap.size, 0, none⟩ = some (.slice a_a La.length c_a) ∧ w'.cell? ⟨bm, om + j, none⟩ = some (.int .i64 q) ∧ w'.cell? ⟨bl, ol + k, none⟩ = some (.int .i64 z) ∧ Below w2.heap.size w2 w') (by kernel_rfl) hS0 (fun hHeld => ?_)
              refine held_take 0 _ _ rfl (by kernel_rfl) (by kernel_rfl) (by kernel_rfl) (fun _ _ _ h => h) (by rfl) hHeld (fun w hSw => by (try dsimp only at hSw); go_simp; try with_reducible rfl) ?_
              (try simp only [Act.put, List.setIfInBounds_toArray, List.set_cons_zero, List.set_cons_succ, List.getElem_toArray, List.getElem_cons_zero])
              refine held_take 1 _ _ rfl (by kernel_rfl) (by kernel_rfl) (by kernel_rfl) (fun _ _ _ h => h) (by rfl) hHeld (fun w hSw => by (try dsimp only at hSw); go_simp; try with_reducible rfl) ?_
              (try simp only [Act.put, List.setIfInBounds_toArray, List.set_cons_zero, List.set_cons_succ, List.getElem_toArray, List.getElem_cons_succ, List.getElem_cons_zero])
              refine held_skip 2 _ rfl (by kernel_rfl) (by kernel_rfl) (by kernel_rfl) (fun _ _ _ h => h) (by rfl) hHeld ?_
              (try simp only [Act.put, List.setIfInBounds_toArray, List.set_cons_zero, List.set_cons_succ, List.getElem_toArray, List.getElem_cons_succ, List.getElem_cons_zero])
              refine held_skip 3 _ rfl (by kernel_rfl) (by kernel_rfl) (by kernel_rfl) (fun _ _ _ h => h) (by rfl) hHeld ?_
              (try simp only [Act.put, List.setIfInBounds_toArray, List.set_cons_zero, List.set_cons_succ, List.getElem_toArray, List.getElem_cons_succ, List.getElem_cons_zero])
              refine held_skip 4 _ rfl (by kernel_rfl) (by kernel_rfl) (by kernel_rfl) (fun _ _ _ h => h) (by rfl) hHeld ?_
              (try simp only [Act.put, List.setIfInBounds_toArray, List.set_cons_zero, List.set_cons_succ, List.getElem_toArray, List.getElem_cons_succ, List.getElem_cons_zero])
              refine held_skip 5 _ rfl (by kernel_rfl) (by kernel_rfl) (by kernel_rfl) (fun _ _ _ h => h) (by rfl) hHeld ?_
              (try simp only [Act.put, List.setIfInBounds_toArray, List.set_cons_zero, List.set_cons_succ, List.getElem_toArray, List.getElem_cons_succ, List.getElem_cons_zero])
              refine held_skip 6 _ rfl (by kernel_rfl) (by kernel_rfl) (by kernel_rfl) (fun _ _ _ h => h) (by rfl) hHeld ?_
              (try simp only [Act.put, List.setIfInBounds_toArray, List.set_cons_zero, List.set_cons_succ, List.getElem_toArray, List.getElem_cons_succ, List.getElem_cons_zero])
              refine held_skip 7 _ rfl (by kernel_rfl) (by kernel_rfl) (by kernel_rfl) (fun _ _ _ h => h) (by rfl) hHeld ?_
              (try simp only [Act.put, List.setIfInBounds_toArray, List.set_cons_zero, List.set_cons_succ, List.getElem_toArray, List.getElem_cons_succ, List.getElem_cons_zero])
              refine held_skip 8 _ rfl (by kernel_rfl) (by kernel_rfl) (by kernel_rfl) (fun _ _ _ h => h) (by rfl) hHeld ?_
              (try simp only [Act.put, List.setIfInBounds_toArray, List.set_cons_zero, List.set_cons_succ, List.getElem_toArray, List.getElem_cons_succ, List.getElem_cons_zero])
              refine held_skip 9 _ rfl (by kernel_rfl) (by kernel_rfl) (by kernel_rfl) (fun _ _ _ h => h) (by rfl) hHeld ?_
              (try simp only [Act.put, List.setIfInBounds_toArray, List.set_cons_zero, List.set_cons_succ, List.getElem_toArray, List.getElem_cons_succ, List.getElem_cons_zero])
              refine held_skip 10 _ rfl (by kernel_rfl) (by kernel_rfl) (by kernel_rfl) (fun _ _ _ h => h) (by rfl) hHeld ?_
              (try simp only [Act.put, List.setIfInBounds_toArray, List.set_cons_zero, List.set_cons_succ, List.getElem_toArray, List.getElem_cons_succ, List.getElem_cons_zero])
              refine held_skip 11 _ rfl (by kernel_rfl) (by kernel_rfl) (by kernel_rfl) (fun _ _ _ h => h) (by rfl) hHeld ?_
              (try simp only [Act.put, List.setIfInBounds_toArray, List.set_cons_zero, List.set_cons_succ, List.getElem_toArray, List.getElem_cons_succ, List.getElem_cons_zero])
              refine held_take 12 _ _ rfl (by kernel_rfl) (by kernel_rfl) (by kernel_rfl) (fun _ _ _ h => h) (by rfl) hHeld (fun w hSw => by (try dsimp only at hSw); go_simp; try with_reducible rfl) ?_
              (try simp only [Act.put, List.setIfInBounds_toArray, List.set_cons_zero, List.set_cons_succ, List.getElem_toArray, List.getElem_cons_succ, List.getElem_cons_zero])
              refine held_take 13 _ _ rfl (by kernel_rfl) (by kernel_rfl) (by kernel_rfl) (fun _ _ _ h => h) (by rfl) hHeld (fun w hSw => by (try dsimp only at hSw); go_simp; try with_reducible rfl) ?_
              (try simp only [Act.put, List.setIfInBounds_toArray, List.set_cons_zero, List.set_cons_succ, List.getElem_toArray, List.getElem_cons_succ, List.getElem_cons_zero])
              refine wpAnyH_done (by kernel_rfl) ?_ _
              have hb3 := hb2.trans ((hHeld.2.2.2).mono hb2.size)
              clear hS0 hHeld
              go_wp2_with fail
              go_roundw
              case rel => exact ⟨j + 1, by omega, by go_num, by rw [HT.out, Bool.true_or], hb3⟩
              case measure => simp [intOf]; omega
          · obtain rfl : j = M.length := by omega
            rw [List.take_length, HANY.out]
            have hbel3 := hbel2
            clear hcz
            go_wp2_with fail
            go_roundw
            case rel => exact ⟨k + 1, by omega, by go_num, hbel3⟩
            case measure => simp [intOf]; omega
      · have hdec : k = Ll.length ∨ (topL La Ll true).length = 0 := by
          by_cases h1 : k < Ll.length
          · right
            exact List.length_eq_zero_iff.2 (Classical.not_not.1 fun h => hgo ⟨h1, h⟩)
          · left; omega
        clear hgo HTOP
        have hWz := hW.trans (hbel.mono hW.size)
        have R_e' := Lib.hid (R_e.out.below hbel)
        have S_s' := Lib.hid (S_s.out.below hbel)
        have B_s' := Lib.hid (B_bs.out.below hbel)
        obtain ⟨d1, hd1⟩ : ∃ d, d = (topL La Ll true).length := ⟨_, rfl⟩
        rw [← hd1] at hdec
        rw [← hd1]
        clear hd1 hm6 R_m R_l S_a B_ba R_e S_s B_bs hW hbel
        rcases hdec with rfl | rfl
        · skip
          by_cases he0 : (excL Ls n).length = 0
          · have hez : (((excL Ls n).length : Int) == 0) = true := by rw [beq_iff_eq]; omega
            go_wp2_with fail
            go_ret
            exact ⟨rfl, hWz⟩
          · have hez : (((excL Ls n).length : Int) == 0) = false := by rw [beq_eq_false_iff_ne]; omega
            have hk_s : wr.cell? ⟨w2.heap.size, 0, none⟩ = some (.slice a_s Ls.length c_s) := B_s'.out.cell 0
            have cg := spec_GenusOf Ls a_s c_s wr S_s'.out.sl (by omega)
            have hgb := genus_bounds Ls
            rcases HLAW.out (fun h => he0 (by rw [h]; rfl)) with ⟨hg, h1⟩ | ⟨hg, h1⟩
            · rw [hg] at cg
              rw [h1] at R_e' hez he60 ⊢
              obtain ⟨be, oe, rfl, hbe, hce⟩ := (R_e'.out.slv).open (by simp)
              have hc0 : wr.cell? ⟨be, oe, none⟩ = some (.int .i64 (-1)) := hce 0 _ rfl
              clear hce R_e' h1 hg he0
              go_wp2_with fail
              refine cg.mono ?_
              rintro e w8 ⟨rfl, hb8⟩
              have hc8 := (hb8.cell (p := ⟨be, oe, none⟩) hbe).trans hc0
              have hW8 := hWz.trans (hb8.mono hWz.size)
              clear cg hc0
              go_wp2_with fail
              go_ret
              exact ⟨rfl, hW8⟩
            · have hgz : (genusN Ls == 0) = false := by rw [beq_eq_false_iff_ne]; exact hg
              replace hg := Lib.hid hg
              generalize genusN Ls = gn at *
              rw [h1] at R_e' hez he60 ⊢
              clear h1 he0
              go_wp2_with fail
              refine cg.mono ?_
              rintro e w8 ⟨rfl, hb8⟩
              have hk_8 : w8.cell? ⟨w2.heap.size, 0, none⟩ = some (.slice a_s Ls.length c_s) := (B_s'.out.below hb8).cell 0
              have cp := spec_PseudoFrobenius Ls a_s c_s w8 (S_s'.out.below hb8).sl (by omega)
              have R8 := R_e'.out.slv.below hb8
              have hW8 := hWz.trans (hb8.mono hWz.size)
              clear cg hk_s R_e' hb8
              go_wp2_with fail
              refine cp.mono ?_
              rintro e w9 ⟨v9, rfl, ho9, hb9⟩
              obtain ⟨a9, c9, rfl, r9⟩ := row_open ho9
              have cs := sameInts_any (psfL Ls) (psfL Ls) a_e a9 c_e c9 w9 (R8.below hb9) r9.slv (by omega) (by omega)
              rw [decide_eq_true (rfl : psfL Ls = psfL Ls)] at cs
              have hW9' := hW8.trans (hb9.mono hW8.size)
              clear cp ho9 r9 R8
              go_wp2_with fail
              refine cs.mono ?_
              rintro e w10 ⟨rfl, hb10⟩
              have hW10 := hW9'.trans (hb10.mono hW9'.size)
              clear cs
              go_wp2_with fail
              go_ret
              exact ⟨rfl, hW10⟩
        · by_cases hkl : k < Ll.length
          · have hkli : (k : Int) < (Ll.length : Int) := by omega
            by_cases he0 : (excL Ls n).length = 0
            · have hez : (((excL Ls n).length : Int) == 0) = true := by rw [beq_iff_eq]; omega
              go_wp2_with fail
              go_ret
              exact ⟨rfl, hWz⟩
            · have hez : (((excL Ls n).length : Int) == 0) = false := by rw [beq_eq_false_iff_ne]; omega
              have hk_s : wr.cell? ⟨w2.heap.size, 0, none⟩ = some (.slice a_s Ls.length c_s) := B_s'.out.cell 0
              have cg := spec_GenusOf Ls a_s c_s wr S_s'.out.sl (by omega)
              have hgb := genus_bounds Ls
              rcases HLAW.out (fun h => he0 (by rw [h]; rfl)) with ⟨hg, h1⟩ | ⟨hg, h1⟩
              · rw [hg] at cg
                rw [h1] at R_e' hez he60 ⊢
                obtain ⟨be, oe, rfl, hbe, hce⟩ := (R_e'.out.slv).open (by simp)
                have hc0 : wr.cell? ⟨be, oe, none⟩ = some (.int .i64 (-1)) := hce 0 _ rfl
                clear hce R_e' h1 hg he0
                go_wp2_with fail
                refine cg.mono ?_
                rintro e w8 ⟨rfl, hb8⟩
                have hc8 := (hb8.cell (p := ⟨be, oe, none⟩) hbe).trans hc0
                have hW8 := hWz.trans (hb8.mono hWz.size)
                clear cg hc0
                go_wp2_with fail
                go_ret
                exact ⟨rfl, hW8⟩
              · have hgz : (genusN Ls == 0) = false := by rw [beq_eq_false_iff_ne]; exact hg
                replace hg := Lib.hid hg
                generalize genusN Ls = gn at *
                rw [h1] at R_e' hez he60 ⊢
                clear h1 he0
                go_wp2_with fail
                refine cg.mono ?_
                rintro e w8 ⟨rfl, hb8⟩
                have hk_8 : w8.cell? ⟨w2.heap.size, 0, none⟩ = some (.slice a_s Ls.length c_s) := (B_s'.out.below hb8).cell 0
                have cp := spec_PseudoFrobenius Ls a_s c_s w8 (S_s'.out.below hb8).sl (by omega)
                have R8 := R_e'.out.slv.below hb8
                have hW8 := hWz.trans (hb8.mono hWz.size)
                clear cg hk_s R_e' hb8
                go_wp2_with fail
                refine cp.mono ?_
                rintro e w9 ⟨v9, rfl, ho9, hb9⟩
                obtain ⟨a9, c9, rfl, r9⟩ := row_open ho9
                have cs := sameInts_any (psfL Ls) (psfL Ls) a_e a9 c_e c9 w9 (R8.below hb9) r9.slv (by omega) (by omega)
                rw [decide_eq_true (rfl : psfL Ls = psfL Ls)] at cs
                have hW9' := hW8.trans (hb9.mono hW8.size)
                clear cp ho9 r9 R8
                go_wp2_with fail
                refine cs.mono ?_
                rintro e w10 ⟨rfl, hb10⟩
                have hW10 := hW9'.trans (hb10.mono hW9'.size)
                clear cs
                go_wp2_with fail
                go_ret
                exact ⟨rfl, hW10⟩
          · have hkli : ¬ (k : Int) < (Ll.length : Int) := by omega
            by_cases he0 : (excL Ls n).length = 0
            · have hez : (((excL Ls n).length : Int) == 0) = true := by rw [beq_iff_eq]; omega
              go_wp2_with fail
              go_ret
              exact ⟨rfl, hWz⟩
            · have hez : (((excL Ls n).length : Int) == 0) = false := by rw [beq_eq_false_iff_ne]; omega
              have hk_s : wr.cell? ⟨w2.heap.size, 0, none⟩ = some (.slice a_s Ls.length c_s) := B_s'.out.cell 0
              have cg := spec_GenusOf Ls a_s c_s wr S_s'.out.sl (by omega)
              have hgb := genus_bounds Ls
              rcases HLAW.out (fun h => he0 (by rw [h]; rfl)) with ⟨hg, h1⟩ | ⟨hg, h1⟩
              · rw [hg] at cg
                rw [h1] at R_e' hez he60 ⊢
                obtain ⟨be, oe, rfl, hbe, hce⟩ := (R_e'.out.slv).open (by simp)
                have hc0 : wr.cell? ⟨be, oe, none⟩ = some (.int .i64 (-1)) := hce 0 _ rfl
                clear hce R_e' h1 hg he0
                go_wp2_with fail
                refine cg.mono ?_
                rintro e w8 ⟨rfl, hb8⟩
                have hc8 := (hb8.cell (p := ⟨be, oe, none⟩) hbe).trans hc0
                have hW8 := hWz.trans (hb8.mono hWz.size)
                clear cg hc0
                go_wp2_with fail
                go_ret
                exact ⟨rfl, hW8⟩
              · have hgz : (genusN Ls == 0) = false := by rw [beq_eq_false_iff_ne]; exact hg
                replace hg := Lib.hid hg
                generalize genusN Ls = gn at *
                rw [h1] at R_e' hez he60 ⊢
                clear h1 he0
                go_wp2_with fail
                refine cg.mono ?_
                rintro e w8 ⟨rfl, hb8⟩
                have hk_8 : w8.cell? ⟨w2.heap.size, 0, none⟩ = some (.slice a_s Ls.length c_s) := (B_s'.out.below hb8).cell 0
                have cp := spec_PseudoFrobenius Ls a_s c_s w8 (S_s'.out.below hb8).sl (by omega)
                have R8 := R_e'.out.slv.below hb8
                have hW8 := hWz.trans (hb8.mono hWz.size)
                clear cg hk_s R_e' hb8
                go_wp2_with fail
                refine cp.mono ?_
                rintro e w9 ⟨v9, rfl, ho9, hb9⟩
                obtain ⟨a9, c9, rfl, r9⟩ := row_open ho9
                have cs := sameInts_any (psfL Ls) (psfL Ls) a_e a9 c_e c9 w9 (R8.below hb9) r9.slv (by omega) (by omega)
                rw [decide_eq_true (rfl : psfL Ls = psfL Ls)] at cs
                have hW9' := hW8.trans (hb9.mono hW8.size)
                clear cp ho9 r9 R8
                go_wp2_with fail
                refine cs.mono ?_
                rintro e w10 ⟨rfl, hb10⟩
                have hW10 := hW9'.trans (hb10.mono hW9'.size)
                clear cs
                go_wp2_with fail
                go_ret
                exact ⟨rfl, hW10⟩

set_option maxRecDepth 100000 in
set_option maxHeartbeats 800000 in
theorem FnOrder.walk (p0 : Option Addr) (len0 cap0 : Nat) (z0 : List Int) (W : World) (r0 : IsRow .u8 W p0 len0 cap0 z0) (_ : W.ShapedOpen Try.prog) :
    Calls Try.prog 3 #[.slice p0 len0 cap0] W fun e w' => e = .returned (.bool true) ∧ Below W.heap.size W w' := by
  by_cases hl : len0 ≤ 1048576
  · exact fnOrder_small p0 len0 cap0 z0 W r0 hl
  · have cb := big_any p0 len0 cap0 W (row_maxLen r0)
    rw [decide_eq_true (show 1048576 < len0 by omega)] at cb
    go_enter Try.func3, Try.ntmps3
    go_wp2_with fail
    refine cb.mono ?_
    rintro e w0 ⟨rfl, rfl⟩
    go_wp2_with fail
    go_ret
    exact ⟨rfl, Below.refl _ _⟩
end Go.Proofs.Ytclhpggejppadaa
