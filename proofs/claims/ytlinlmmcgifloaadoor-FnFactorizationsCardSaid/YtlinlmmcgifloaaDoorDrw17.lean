/-
  DRAWS OF CHAPTERS 11, 12: l11Case, DrawFactorizations, DrawLengthsOf, DrawDeltaSet (written by mkD17.py). (Own work.)
-/
import Derived.Test.YtlinlmmcgifloaaDoorDrw10
namespace Go.Proofs.YtlinlmmcgifloaaDoor
open Go Go.RowKit

set_option maxRecDepth 100000 in
set_option maxHeartbeats 3200000 in
theorem l11Case_any (W : World) (a : Option Addr) (len cap : Nat) (zs : List Int) (hr : IsRow .u8 W a len cap zs) (hl : len ≤ 1048576) :
    Calls Tryd.prog 24 #[.slice a len cap] W (DCase W) := by
  have hb0 := box_below W (.cells #[.slice none 0 0] 26)
  have hA0 := Arr.new W 26 [.slice none 0 0]
  have cn := l1New_any (W.alloc (.cells #[.slice none 0 0] 26)) a len cap zs (hr.below hb0) hl
  have hsz : W.heap.size < (W.alloc (.cells #[.slice none 0 0] 26)).heap.size := hA0.lt
  clear hr
  go_enter Tryd.func24, Tryd.ntmps24
  go_wp2_with fail
  refine cn.mono ?_
  rintro e w1 ⟨N, rfl, hd⟩
  have hNb := hd.base
  have hN1 := hd.lt
  have hA1 := hA0.below hd.bel
  have hb1 := hb0.trans (hd.bel.mono (Nat.le_of_lt hsz))
  have hz1 := hd.bel.size
  clear cn hA0
  go_wp2_with fail
  refine (l3Draw_dr hd).mono ?_
  rintro e w2 ⟨L, v, hsg, rfl, ho, hd2, hg2⟩
  obtain ⟨av, cv, rfl, -⟩ := row_open ho
  obtain ⟨hs, hlo⟩ := SlW.of_owns ho
  have hl12 := (isSgB_iff.1 hsg).len
  have hlp := (isSgB_iff.1 hsg).pos
  have HI := Lib.hid (sg_in64 hsg)
  have hl13 : L.length ≤ 13 := by omega
  have hL1 : (1 : Int) ≤ (L.length : Int) := by omega
  obtain ⟨b, off, rfl, -, -⟩ := hs.sl.open (by intro e; rw [List.map_eq_nil_iff] at e; subst e; simp at hlp)
  have hz2 := hg2.size
  have hrN : W.heap.size ≠ N := by omega
  have hR2 := hA1.grownN hg2 hrN
  have hb2 := hb1.grown hg2 hb1.size (fun k hk => by cases hk; omega)
  have hbN : w2.heap.size ≠ N := by omega
  obtain ⟨w3, hw3⟩ : ∃ w3, w3 = w2.alloc (.cells #[.slice (some ⟨b, off, none⟩) L.length cv] 26) := ⟨_, rfl⟩
  have hC3 : CaseAt W (W.alloc (.cells #[.slice none 0 0] 26)) w3 N w2.heap.size a len cap zs L (some ⟨b, off, none⟩) cv := by
    rw [hw3]
    exact ⟨hd2.alloc _, hR2.alloc _, Arr.new w2 26 [.slice (some ⟨b, off, none⟩) L.length cv], hs.below (box_below w2 _), fun p hp => by have := hlo p hp; constructor <;> omega, hb2.alloc hb2.size _, hsz, by omega, hbN⟩
  have HW3 := Lib.hid hw3
  clear hw3 hsg hs hlo hd hd2 hg2 hA1 hb0 hb1 hb2 hR2 ho
  go_wp2_with fail
  rw [← HW3.out]
  refine (l1Once_dr hC3.dr 12 (by decide)).mono ?_
  rintro e w4 ⟨bo, rfl, hd4, hg4⟩
  have hC4 := hC3.grown hd4 hg4
  have hN4 := hC4.dr.lt
  clear hC3 hd4 hg4
  cases bo
  · skip
    go_wp2_with fail
    refine (l1Below_dr hC4.dr 40 (by decide)).mono ?_
    rintro e wa ⟨xa, ⟨ha0, ha⟩, rfl, hda, hga⟩
    have ha1 : xa < 40 := by omega
    have hCa := hC4.grown hda hga
    clear ha hda hga hC4
    go_wp2_with fail
    refine (l1Below_dr hCa.dr 40 (by decide)).mono ?_
    rintro e wb ⟨xb, ⟨hb0, hb⟩, rfl, hdb, hgb⟩
    have hb1 : xb < 40 := by omega
    have hCb := hCa.grown hdb hgb
    clear hb hdb hgb hCa
    go_wp2_with fail
    refine (l1Below_dr hCb.dr 50 (by decide)).mono ?_
    rintro e wc ⟨xc, ⟨hc0, hc⟩, rfl, hdc, hgc⟩
    have hc1 : xc < 50 := by omega
    have hCc := hCb.grown hdc hgc
    clear hc hdc hgc hCb
    have hCd := hCc.below (box_below wc (.cells #[.int .i64 xa, .int .i64 xb, .int .i64 xc, .int .i64 (-1), .int .i64 101] 3))
    have hcp : ∀ (i : Nat) (u : Value), ([xa, xb, xc, -1, 101].map (Value.int .i64))[i]? = some u → (wc.alloc (.cells #[.int .i64 xa, .int .i64 xb, .int .i64 xc, .int .i64 (-1), .int .i64 101] 3)).cell? ⟨wc.heap.size, i, none⟩ = some u := fun i u h => ((Arr.new wc 3 ([xa, xb, xc, -1, 101].map (Value.int .i64))).cell i).trans h
    have hNc := hCc.dr.lt
    have cpk := l1PickInt_dr hCd.dr [xa, xb, xc, -1, 101] wc.heap.size 5 (by simp) (by simp) (by simp) (by omega) hcp
    rw [show [xa, xb, xc, -1, 101].length = 5 from rfl] at cpk
    clear hcp hCc
    go_wp2_with fail
    refine cpk.mono ?_
    rintro e we ⟨y, hy, rfl, hde, hge⟩
    have hCe := hCd.grown hde hge
    have hy64 : InI64 y := by
      unfold InI64
      simp only [List.mem_cons, List.mem_nil_iff, or_false] at hy
      omega
    have h30 : InI64 30 := by unfold InI64; omega
    clear hCd cpk hy hde hge ha0 ha1 hb0 hb1 hc0 hc1
    have hcb : we.cell? ⟨w2.heap.size, 0, none⟩ = some (.slice (some ⟨b, off, none⟩) L.length cv) := hCe.box.cell 0
    by_cases h4 : 4 < L.length
    · have h4i : (4 : Int) < (L.length : Int) := by omega
      have h4d : decide (4 < (L.length : Int)) = true := decide_eq_true h4i
      by_cases h5 : 30 < y
      · have h5d : decide (30 < y) = true := decide_eq_true h5
        by_cases h6 : y < 101
        · have h6d : decide (y < 101) = true := decide_eq_true h6
          clear h4 h5 h6
          have hcr : (we).cell? ⟨W.heap.size, 0, none⟩ = some (.slice none 0 0) := hCe.res.cell 0
          have hfr := hCe.res.frozen 0
          have hbb : (we).cell? ⟨w2.heap.size, 0, none⟩ = some (.slice (some ⟨b, off, none⟩) L.length cv) := hCe.box.cell 0
          have HF := Lib.hid (hCe.fin hl13 HI.out (y := 30) h30)
          have hcf := World.cell?_setCell_same (we) ⟨W.heap.size, 0, none⟩ (.slice (some ⟨b, off, none⟩) L.length cv) hcr
          clear hCe
          go_wp2_with fail
          exact bodyPost_ret (v := .tuple #[.agg #[.slice (some ⟨b, off, none⟩) L.length cv], .int .i64 (30)]) (by simp [results, Tryd.results24, go_sem, hcf]) rfl HF.out
        · have h6d : decide (y < 101) = false := decide_eq_false h6
          have hcr : (we).cell? ⟨W.heap.size, 0, none⟩ = some (.slice none 0 0) := hCe.res.cell 0
          have hfr := hCe.res.frozen 0
          have hbb : (we).cell? ⟨w2.heap.size, 0, none⟩ = some (.slice (some ⟨b, off, none⟩) L.length cv) := hCe.box.cell 0
          have HF := Lib.hid (hCe.fin hl13 HI.out (y := y) hy64)
          have hcf := World.cell?_setCell_same (we) ⟨W.heap.size, 0, none⟩ (.slice (some ⟨b, off, none⟩) L.length cv) hcr
          clear hCe
          go_wp2_with fail
          exact bodyPost_ret (v := .tuple #[.agg #[.slice (some ⟨b, off, none⟩) L.length cv], .int .i64 (y)]) (by simp [results, Tryd.results24, go_sem, hcf]) rfl HF.out
      · have h5d : decide (30 < y) = false := decide_eq_false h5
        have hcr : (we).cell? ⟨W.heap.size, 0, none⟩ = some (.slice none 0 0) := hCe.res.cell 0
        have hfr := hCe.res.frozen 0
        have hbb : (we).cell? ⟨w2.heap.size, 0, none⟩ = some (.slice (some ⟨b, off, none⟩) L.length cv) := hCe.box.cell 0
        have HF := Lib.hid (hCe.fin hl13 HI.out (y := y) hy64)
        have hcf := World.cell?_setCell_same (we) ⟨W.heap.size, 0, none⟩ (.slice (some ⟨b, off, none⟩) L.length cv) hcr
        clear hCe
        go_wp2_with fail
        exact bodyPost_ret (v := .tuple #[.agg #[.slice (some ⟨b, off, none⟩) L.length cv], .int .i64 (y)]) (by simp [results, Tryd.results24, go_sem, hcf]) rfl HF.out
    · have h4i : ¬ (4 : Int) < (L.length : Int) := by omega
      have h4d : decide (4 < (L.length : Int)) = false := decide_eq_false h4i
      have hcr : (we).cell? ⟨W.heap.size, 0, none⟩ = some (.slice none 0 0) := hCe.res.cell 0
      have hfr := hCe.res.frozen 0
      have hbb : (we).cell? ⟨w2.heap.size, 0, none⟩ = some (.slice (some ⟨b, off, none⟩) L.length cv) := hCe.box.cell 0
      have HF := Lib.hid (hCe.fin hl13 HI.out (y := y) hy64)
      have hcf := World.cell?_setCell_same (we) ⟨W.heap.size, 0, none⟩ (.slice (some ⟨b, off, none⟩) L.length cv) hcr
      clear hCe
      go_wp2_with fail
      exact bodyPost_ret (v := .tuple #[.agg #[.slice (some ⟨b, off, none⟩) L.length cv], .int .i64 (y)]) (by simp [results, Tryd.results24, go_sem, hcf]) rfl HF.out
  · go_wp2_with fail
    refine (l3Bent_dr hC4.dr).mono ?_
    rintro e w6 ⟨M, bv, dv, hm13, hMI, rfl, hs6, hf6, hd6, hg6⟩
    have HMI := Lib.hid hMI
    have hC6 := hC4.grown hd6 hg6
    have hz6 := hg6.size
    have hbz := hC4.box.lt
    have hC7 := hC6.put hs6 (fun p hp => by have := hf6 p hp; refine ⟨?_, ?_, ?_⟩ <;> omega)
    have hcb6 : w6.cell? ⟨w2.heap.size, 0, none⟩ = some (.slice (some ⟨b, off, none⟩) L.length cv) := hC6.box.cell 0
    have hfb6 := hC6.box.frozen 0
    clear hC4 hC6 hs6 hf6 hd6 hg6 hMI
    go_wp2_with fail
    refine (l1Below_dr hC7.dr 40 (by decide)).mono ?_
    rintro e wa ⟨xa, ⟨ha0, ha⟩, rfl, hda, hga⟩
    have ha1 : xa < 40 := by omega
    have hCa := hC7.grown hda hga
    clear ha hda hga hC7
    go_wp2_with fail
    refine (l1Below_dr hCa.dr 40 (by decide)).mono ?_
    rintro e wb ⟨xb, ⟨hb0, hb⟩, rfl, hdb, hgb⟩
    have hb1 : xb < 40 := by omega
    have hCb := hCa.grown hdb hgb
    clear hb hdb hgb hCa
    go_wp2_with fail
    refine (l1Below_dr hCb.dr 50 (by decide)).mono ?_
    rintro e wc ⟨xc, ⟨hc0, hc⟩, rfl, hdc, hgc⟩
    have hc1 : xc < 50 := by omega
    have hCc := hCb.grown hdc hgc
    clear hc hdc hgc hCb
    have hCd := hCc.below (box_below wc (.cells #[.int .i64 xa, .int .i64 xb, .int .i64 xc, .int .i64 (-1), .int .i64 101] 3))
    have hcp : ∀ (i : Nat) (u : Value), ([xa, xb, xc, -1, 101].map (Value.int .i64))[i]? = some u → (wc.alloc (.cells #[.int .i64 xa, .int .i64 xb, .int .i64 xc, .int .i64 (-1), .int .i64 101] 3)).cell? ⟨wc.heap.size, i, none⟩ = some u := fun i u h => ((Arr.new wc 3 ([xa, xb, xc, -1, 101].map (Value.int .i64))).cell i).trans h
    have hNc := hCc.dr.lt
    have cpk := l1PickInt_dr hCd.dr [xa, xb, xc, -1, 101] wc.heap.size 5 (by simp) (by simp) (by simp) (by omega) hcp
    rw [show [xa, xb, xc, -1, 101].length = 5 from rfl] at cpk
    clear hcp hCc
    go_wp2_with fail
    refine cpk.mono ?_
    rintro e we ⟨y, hy, rfl, hde, hge⟩
    have hCe := hCd.grown hde hge
    have hy64 : InI64 y := by
      unfold InI64
      simp only [List.mem_cons, List.mem_nil_iff, or_false] at hy
      omega
    have h30 : InI64 30 := by unfold InI64; omega
    clear hCd cpk hy hde hge ha0 ha1 hb0 hb1 hc0 hc1
    have hcb : we.cell? ⟨w2.heap.size, 0, none⟩ = some (.slice bv M.length dv) := hCe.box.cell 0
    by_cases h4 : 4 < M.length
    · have h4i : (4 : Int) < (M.length : Int) := by omega
      have h4d : decide (4 < (M.length : Int)) = true := decide_eq_true h4i
      by_cases h5 : 30 < y
      · have h5d : decide (30 < y) = true := decide_eq_true h5
        by_cases h6 : y < 101
        · have h6d : decide (y < 101) = true := decide_eq_true h6
          clear h4 h5 h6
          have hcr : (we).cell? ⟨W.heap.size, 0, none⟩ = some (.slice none 0 0) := hCe.res.cell 0
          have hfr := hCe.res.frozen 0
          have hbb : (we).cell? ⟨w2.heap.size, 0, none⟩ = some (.slice bv M.length dv) := hCe.box.cell 0
          have HF := Lib.hid (hCe.fin hm13 HMI.out (y := 30) h30)
          have hcf := World.cell?_setCell_same (we) ⟨W.heap.size, 0, none⟩ (.slice bv M.length dv) hcr
          clear hCe
          go_wp2_with fail
          exact bodyPost_ret (v := .tuple #[.agg #[.slice bv M.length dv], .int .i64 (30)]) (by simp [results, Tryd.results24, go_sem, hcf]) rfl HF.out
        · have h6d : decide (y < 101) = false := decide_eq_false h6
          have hcr : (we).cell? ⟨W.heap.size, 0, none⟩ = some (.slice none 0 0) := hCe.res.cell 0
          have hfr := hCe.res.frozen 0
          have hbb : (we).cell? ⟨w2.heap.size, 0, none⟩ = some (.slice bv M.length dv) := hCe.box.cell 0
          have HF := Lib.hid (hCe.fin hm13 HMI.out (y := y) hy64)
          have hcf := World.cell?_setCell_same (we) ⟨W.heap.size, 0, none⟩ (.slice bv M.length dv) hcr
          clear hCe
          go_wp2_with fail
          exact bodyPost_ret (v := .tuple #[.agg #[.slice bv M.length dv], .int .i64 (y)]) (by simp [results, Tryd.results24, go_sem, hcf]) rfl HF.out
      · have h5d : decide (30 < y) = false := decide_eq_false h5
        have hcr : (we).cell? ⟨W.heap.size, 0, none⟩ = some (.slice none 0 0) := hCe.res.cell 0
        have hfr := hCe.res.frozen 0
        have hbb : (we).cell? ⟨w2.heap.size, 0, none⟩ = some (.slice bv M.length dv) := hCe.box.cell 0
        have HF := Lib.hid (hCe.fin hm13 HMI.out (y := y) hy64)
        have hcf := World.cell?_setCell_same (we) ⟨W.heap.size, 0, none⟩ (.slice bv M.length dv) hcr
        clear hCe
        go_wp2_with fail
        exact bodyPost_ret (v := .tuple #[.agg #[.slice bv M.length dv], .int .i64 (y)]) (by simp [results, Tryd.results24, go_sem, hcf]) rfl HF.out
    · have h4i : ¬ (4 : Int) < (M.length : Int) := by omega
      have h4d : decide (4 < (M.length : Int)) = false := decide_eq_false h4i
      have hcr : (we).cell? ⟨W.heap.size, 0, none⟩ = some (.slice none 0 0) := hCe.res.cell 0
      have hfr := hCe.res.frozen 0
      have hbb : (we).cell? ⟨w2.heap.size, 0, none⟩ = some (.slice bv M.length dv) := hCe.box.cell 0
      have HF := Lib.hid (hCe.fin hm13 HMI.out (y := y) hy64)
      have hcf := World.cell?_setCell_same (we) ⟨W.heap.size, 0, none⟩ (.slice bv M.length dv) hcr
      clear hCe
      go_wp2_with fail
      exact bodyPost_ret (v := .tuple #[.agg #[.slice bv M.length dv], .int .i64 (y)]) (by simp [results, Tryd.results24, go_sem, hcf]) rfl HF.out

set_option maxRecDepth 100000 in
set_option maxHeartbeats 1600000 in
theorem DrawFactorizations_any (W : World) (a : Option Addr) (len cap : Nat) (zs : List Int) (hr : IsRow .u8 W a len cap zs) (hl : len ≤ 1048576) :
    Calls Tryd.prog 5 #[.slice a len cap] W (DSgi W) := by
  have hb0 := box_below W (.cells #[.slice none 0 0] 26)
  have hA0 := Arr.new W 26 [.slice none 0 0]
  have c1 := l11Case_any (W.alloc (.cells #[.slice none 0 0] 26)) a len cap zs (hr.below hb0) hl
  have hsz : W.heap.size < (W.alloc (.cells #[.slice none 0 0] 26)).heap.size := hA0.lt
  clear hr
  go_enter Tryd.func5, Tryd.ntmps5
  go_wp2_with fail
  refine c1.mono ?_
  rintro e w1 ⟨L, av, cv, n, hl13, hI, hn, rfl, hs, hf, hb1⟩
  have hA1 := hA0.below hb1
  have hbz := hb0.trans (hb1.mono (Nat.le_of_lt hsz))
  have hb2 := box_below w1 (.cells #[.slice av L.length cv] 26)
  have hs2 := (hs.below hb2).grownN (grownBy_setCell (w1.alloc (.cells #[.slice av L.length cv] 26)) W.heap.size 0 (.slice av L.length cv)) (fun p hp => by have := hf p hp; omega)
  have hA2 := hA1.alloc (.cells #[.slice av L.length cv] 26)
  have hcr : (w1.alloc (.cells #[.slice av L.length cv] 26)).cell? ⟨W.heap.size, 0, none⟩ = some (.slice none 0 0) := hA2.cell 0
  have hfr := hA2.frozen 0
  have hcf := World.cell?_setCell_same (w1.alloc (.cells #[.slice av L.length cv] 26)) ⟨W.heap.size, 0, none⟩ (.slice av L.length cv) hcr
  have HF : Hid (DSgi W (.returned (.tuple #[.agg #[.slice av L.length cv], .int .i64 n])) ((w1.alloc (.cells #[.slice av L.length cv] 26)).setCell ⟨W.heap.size, 0, none⟩ (.slice av L.length cv))) := Lib.hid ⟨L, av, cv, n, hl13, hI, hn, rfl, hs2, (hbz.trans (hb2.mono hbz.size)).setCell (Nat.le_refl _) _⟩
  clear hs hs2 hf hb1 hb0 hbz hb2 hA0 hA1 hA2 hI hn c1
  go_wp2_with fail
  exact bodyPost_ret (v := .tuple #[.agg #[.slice av L.length cv], .int .i64 n]) (by simp [results, Tryd.results5, go_sem, hcf]) rfl HF.out


end Go.Proofs.YtlinlmmcgifloaaDoor
