/-
  CONTRACTS of the draws of chapter 6. (Own work.)
-/
import Derived.Test.YtclhpggejppadaaDrS
import Derived.Test.YtclhpggejppadaaL20
namespace Go.Proofs.Ytclhpggejppadaa
open Go Go.RowKit

theorem slv_cell {w : World} {b off : Nat} {xs : List Value} (h : SlV w (some ⟨b, off, none⟩) xs) {i : Nat} {u : Value} (hi : xs[i]? = some u) : w.cell? ⟨b, off + i, none⟩ = some u := by
  obtain ⟨b', off', e, -, hc⟩ := h.open (by intro e; subst e; simp at hi)
  injection e with e
  injection e with e1 e2
  subst e1 e2
  exact hc i u hi
theorem elem_in64 (G : List Int) (k : Int) : InI64 (elemN G k) := by
  have hb : -1 ≤ elemN G k ∧ elemN G k ≤ 400 := by
    have hc := condNat_le G
    unfold elemN
    split
    · next h =>
      rw [Bool.and_eq_true, decide_eq_true_eq] at h
      unfold nthB
      split
      · next hl =>
        have := (mem_upB.1 (List.getElem_mem hl)).1
        omega
      · omega
    · omega
  unfold InI64
  omega

/-- A draw on its way: the cursor, the result's box, the box of the struct, the row that it holds. -/
structure CaseAt (W W1 w : World) (N B : Nat) (a : Option Addr) (len cap : Nat) (zs : List Int) (L : List Int) (av : Option Addr) (cv : Nat) : Prop where
  dr : Dr W1 w N a len cap zs
  res : Arr w W.heap.size 26 [.slice none 0 0]
  box : Arr w B 26 [.slice av L.length cv]
  sl : SlW w av cv (L.map (Value.int .i64))
  far : ∀ p, av = some p → W.heap.size < p.block ∧ p.block ≠ N
  bel : Below W.heap.size W w
  lo : W.heap.size < W1.heap.size
  bx : W1.heap.size ≤ B
  bn : B ≠ N
/-- A semigroup with a number, its row in new memory. -/
def DCase (W : World) (e : Ending) (w' : World) : Prop :=
  ∃ (L : List Int) (av : Option Addr) (cv : Nat) (n : Int), L.length ≤ 13 ∧ (∀ x ∈ L, InI64 x) ∧ InI64 n ∧ e = .returned (.tuple #[.agg #[.slice av L.length cv], .int .i64 n]) ∧ SlW w' av cv (L.map (Value.int .i64)) ∧ (∀ p, av = some p → W.heap.size ≤ p.block) ∧ Below W.heap.size W w'
section
variable {W W1 w w' : World} {N B : Nat} {a : Option Addr} {len cap : Nat} {zs : List Int} {L : List Int} {av : Option Addr} {cv : Nat}
theorem CaseAt.grown (h : CaseAt W W1 w N B a len cap zs L av cv) (hd : Dr W1 w' N a len cap zs) (hg : w.grownBy w' (some N)) : CaseAt W W1 w' N B a len cap zs L av cv :=
  ⟨hd, h.res.grownN hg (by have := h.dr.base; have := h.lo; omega), h.box.grownN hg h.bn, h.sl.grownN hg (fun p hp => (h.far p hp).2), h.far, h.bel.grown hg h.bel.size (fun k hk => by cases hk; have := h.dr.base; have := h.lo; omega), h.lo, h.bx, h.bn⟩
theorem CaseAt.below (h : CaseAt W W1 w N B a len cap zs L av cv) (hb : Below w.heap.size w w') : CaseAt W W1 w' N B a len cap zs L av cv :=
  ⟨h.dr.belowW hb, h.res.below hb, h.box.below hb, h.sl.below hb, h.far, h.bel.trans (hb.mono h.bel.size), h.lo, h.bx, h.bn⟩
theorem CaseAt.drew (h : CaseAt W W1 w N B a len cap zs L av cv) : CaseAt W W1 w.drew N B a len cap zs L av cv :=
  ⟨h.dr.drewN 1, h.res.drew, h.box.drew, ⟨h.sl.sl, h.sl.nil0, h.sl.le, h.sl.mx⟩, h.far, h.bel.drew, h.lo, h.bx, h.bn⟩
theorem CaseAt.put (h : CaseAt W W1 w N B a len cap zs L av cv) {M : List Int} {bv : Option Addr} {dv : Nat} (hs : SlW w bv dv (M.map (Value.int .i64))) (hf : ∀ p, bv = some p → W.heap.size < p.block ∧ p.block ≠ N ∧ p.block ≠ B) :
    CaseAt W W1 (w.setCell ⟨B, 0, none⟩ (.slice bv M.length dv)) N B a len cap zs M bv dv :=
  ⟨h.dr.grownR (grownBy_setCell w B 0 _) (fun k hk => by cases hk; exact ⟨h.bx, h.bn⟩), h.res.grownN (grownBy_setCell w B 0 _) (by have := h.lo; have := h.bx; omega), h.box.set 0 (.slice bv M.length dv), hs.grownN (grownBy_setCell w B 0 _) (fun p hp => (hf p hp).2.2), fun p hp => ⟨(hf p hp).1, (hf p hp).2.1⟩, h.bel.grown (grownBy_setCell w B 0 _) h.bel.size (fun k hk => by cases hk; have := h.lo; have := h.bx; omega), h.lo, h.bx, h.bn⟩
theorem CaseAt.fin (h : CaseAt W W1 w N B a len cap zs L av cv) (hl : L.length ≤ 13) (hI : ∀ x ∈ L, InI64 x) {y : Int} (hy : InI64 y) :
    DCase W (.returned (.tuple #[.agg #[.slice av L.length cv], .int .i64 y])) (w.setCell ⟨W.heap.size, 0, none⟩ (.slice av L.length cv)) :=
  ⟨L, av, cv, y, hl, hI, hy, rfl, h.sl.grownN (grownBy_setCell w W.heap.size 0 _) (fun p hp => by have := (h.far p hp).1; omega), fun p hp => Nat.le_of_lt (h.far p hp).1, h.bel.setCell (Nat.le_refl _) _⟩
end
def pick6 : List Int := [0, -1, 61, 60, 7]
theorem pick6_in : ∀ x ∈ pick6, InI64 x := by unfold InI64; decide

set_option maxRecDepth 100000 in
set_option maxHeartbeats 3200000 in
theorem l6Case_any (W : World) (a : Option Addr) (len cap : Nat) (zs : List Int) (hr : IsRow .u8 W a len cap zs) (hl : len ≤ 1048576) :
    Calls Try.prog 34 #[.slice a len cap] W (DCase W) := by
  have hb0 := box_below W (.cells #[.slice none 0 0] 26)
  have hA0 := Arr.new W 26 [.slice none 0 0]
  have cn := l1New_any (W.alloc (.cells #[.slice none 0 0] 26)) a len cap zs (hr.below hb0) hl
  have hsz : W.heap.size < (W.alloc (.cells #[.slice none 0 0] 26)).heap.size := hA0.lt
  clear hr
  go_enter Try.func34, Try.ntmps34
  go_wp2_with fail
  refine cn.mono ?_
  rintro e w1 ⟨N, rfl, hd⟩
  have hNb := hd.base
  have hN1 := hd.lt
  have hA1 := hA0.below hd.bel
  have hb1 := hb0.trans (hd.bel.mono (Nat.le_of_lt hsz))
  have hz1 := hd.bel.size
  clear cn hA0
  go_wp2_with fail
  refine (l3Draw_dr hd).mono ?_
  rintro e w2 ⟨L, v, hsg, rfl, ho, hd2, hg2⟩
  obtain ⟨av, cv, rfl, -⟩ := row_open ho
  obtain ⟨hs, hlo⟩ := SlW.of_owns ho
  have hl12 := (isSgB_iff.1 hsg).len
  have hlp := (isSgB_iff.1 hsg).pos
  have HI := Lib.hid (sg_in64 hsg)
  have hl13 : L.length ≤ 13 := by omega
  have hL1 : (1 : Int) ≤ (L.length : Int) := by omega
  obtain ⟨b, off, rfl, -, -⟩ := hs.sl.open (by intro e; rw [List.map_eq_nil_iff] at e; subst e; simp at hlp)
  have hz2 := hg2.size
  have hrN : W.heap.size ≠ N := by omega
  have hR2 := hA1.grownN hg2 hrN
  have hb2 := hb1.grown hg2 hb1.size (fun k hk => by cases hk; omega)
  have hbN : w2.heap.size ≠ N := by omega
  obtain ⟨w3, hw3⟩ : ∃ w3, w3 = w2.alloc (.cells #[.slice (some ⟨b, off, none⟩) L.length cv] 26) := ⟨_, rfl⟩
  have hC3 : CaseAt W (W.alloc (.cells #[.slice none 0 0] 26)) w3 N w2.heap.size a len cap zs L (some ⟨b, off, none⟩) cv := by
    rw [hw3]
    exact ⟨hd2.alloc _, hR2.alloc _, Arr.new w2 26 [.slice (some ⟨b, off, none⟩) L.length cv], hs.below (box_below w2 _), fun p hp => by have := hlo p hp; constructor <;> omega, hb2.alloc hb2.size _, hsz, by omega, hbN⟩
  have hcb : w3.drew.cell? ⟨w2.heap.size, 0, none⟩ = some (.slice (some ⟨b, off, none⟩) L.length cv) := hC3.drew.box.cell 0
  have HW3 := Lib.hid hw3
  clear hw3 hsg hs hlo hd hd2 hg2 hA1 hb0 hb1 hb2 hR2 ho
  go_wp2_with fail
  rw [← HW3.out]
  refine wp_region_held_drew (S := fun w' => w'.cell? ⟨w2.heap.size, 0, none⟩ = some (.slice (some ⟨b, off, none⟩) L.length cv)) (by kernel_rfl) hcb (fun hHeld => ?_)
  refine held_take 0 _ _ rfl (by kernel_rfl) (by kernel_rfl) (by kernel_rfl) (fun _ _ _ h => h) (by rfl) hHeld (fun w hSw => by (try dsimp only at hSw); go_simp; try with_reducible rfl) ?_
  (try simp only [Act.put, List.setIfInBounds_toArray, List.set_cons_zero, List.set_cons_succ, List.getElem_toArray, List.getElem_cons_zero])
  refine held_take 1 _ _ rfl (by kernel_rfl) (by kernel_rfl) (by kernel_rfl) (fun _ _ _ h => h) (by rfl) hHeld (fun w hSw => by (try dsimp only at hSw); go_simp; try with_reducible rfl) ?_
  (try simp only [Act.put, List.setIfInBounds_toArray, List.set_cons_zero, List.set_cons_succ, List.getElem_toArray, List.getElem_cons_succ, List.getElem_cons_zero])
  refine held_take 2 _ _ rfl (by kernel_rfl) (by kernel_rfl) (by kernel_rfl) (fun _ _ _ h => h) (by rfl) hHeld (fun w hSw => by (try dsimp only at hSw); go_simp; try with_reducible rfl) ?_
  (try simp only [Act.put, List.setIfInBounds_toArray, List.set_cons_zero, List.set_cons_succ, List.getElem_toArray, List.getElem_cons_succ, List.getElem_cons_zero])
  refine held_take 3 _ _ rfl (by kernel_rfl) (by kernel_rfl) (by kernel_rfl) (fun _ _ _ h => h) (by rfl) hHeld (fun w hSw => by (try dsimp only at hSw); go_simp; try with_reducible rfl) ?_
  (try simp only [Act.put, List.setIfInBounds_toArray, List.set_cons_zero, List.set_cons_succ, List.getElem_toArray, List.getElem_cons_succ, List.getElem_cons_zero])
  refine held_take 4 _ _ rfl (by kernel_rfl) (by kernel_rfl) (by kernel_rfl) (fun _ _ _ h => h) (by rfl) hHeld (fun w hSw => by (try dsimp only at hSw); go_simp; try with_reducible rfl) ?_
  (try simp only [Act.put, List.setIfInBounds_toArray, List.set_cons_zero, List.set_cons_succ, List.getElem_toArray, List.getElem_cons_succ, List.getElem_cons_zero])
  refine held_take 5 _ _ rfl (by kernel_rfl) (by kernel_rfl) (by kernel_rfl) (fun _ _ _ h => h) (by rfl) hHeld (fun w hSw => by (try dsimp only at hSw); go_simp; try with_reducible rfl) ?_
  (try simp only [Act.put, List.setIfInBounds_toArray, List.set_cons_zero, List.set_cons_succ, List.getElem_toArray, List.getElem_cons_succ, List.getElem_cons_zero])
  refine wpAnyH_ready (rs := [6]) (by kernel_rfl) (by simp) ?_
  refine AllReadyH.cons rfl (fun K hK => ?_) AllReadyH.nil
  rw [if_pos (by rfl)]
  go_wp2_with (first | (go_at_call 42; (with_reducible refine (l1Below_dr hC3.drew.dr (L.length : Int) (by omega)).mono ?_); rintro e w4 ⟨x4, ⟨hx40, hx4⟩, rfl, hd4, hg4⟩; obtain ⟨xn, rfl⟩ : ∃ xn : Nat, x4 = (xn : Int) := ⟨x4.toNat, by omega⟩; have hxl : xn < L.length := (by omega); have hxi : (xn : Int) < (L.length : Int) := (by omega); have hC4 := hC3.drew.grown hd4 hg4; have hcx := slv_cell hC4.sl.sl (i := xn) (u := .int .i64 L[xn]) (by rw [List.getElem?_map, List.getElem?_eq_getElem hxl]; rfl); clear hx4))
  refine hK.out _ _ (hC4.box.cell 0) (fun hHeld1 => ?_)
  clear hK K
  (try simp only [Act.put, List.setIfInBounds_toArray, List.set_cons_zero, List.set_cons_succ, List.getElem_toArray, List.getElem_cons_succ, List.getElem_cons_zero])
  refine held_take 7 _ _ rfl (by kernel_rfl) (by kernel_rfl) (by kernel_rfl) (fun _ _ _ h => h) (by rfl) hHeld1 (fun w hSw => by (try dsimp only at hSw); go_simp; try with_reducible rfl) ?_
  (try simp only [Act.put, List.setIfInBounds_toArray, List.set_cons_zero, List.set_cons_succ, List.getElem_toArray, List.getElem_cons_succ, List.getElem_cons_zero])
  refine wpAnyH_ready (rs := [8]) (by kernel_rfl) (by simp) ?_
  refine AllReadyH.cons rfl (fun K hK => ?_) AllReadyH.nil
  rw [if_pos (by rfl)]
  go_wp2_with fail
  refine hK.out _ _ (hHeld1) (fun hHeld2 => ?_)
  clear hK K
  (try simp only [Act.put, List.setIfInBounds_toArray, List.set_cons_zero, List.set_cons_succ, List.getElem_toArray, List.getElem_cons_succ, List.getElem_cons_zero])
  refine held_take 9 _ _ rfl (by kernel_rfl) (by kernel_rfl) (by kernel_rfl) (fun _ _ _ h => h) (by rfl) hHeld2 (fun w hSw => by (try dsimp only at hSw); go_simp; try with_reducible rfl) ?_
  (try simp only [Act.put, List.setIfInBounds_toArray, List.set_cons_zero, List.set_cons_succ, List.getElem_toArray, List.getElem_cons_succ, List.getElem_cons_zero])
  refine wpAnyH_done (by kernel_rfl) ?_ _
  have hx64 := HI.out L[xn] (List.getElem_mem hxl)
  have hz4 := hC4.dr.lt
  clear hC3 hcx hd4 hg4
  generalize L[xn] = y0 at *
  go_wp2_with fail
  refine (l1Below_dr hC4.dr 8 (by decide)).mono ?_
  rintro e w5 ⟨x5, ⟨hx50, hx5⟩, rfl, hd5, hg5⟩
  have hC5 := hC4.grown hd5 hg5
  have hN5 := hC5.dr.lt
  have hz5 := hg5.size
  have hcs : x5 = 0 ∨ x5 = 1 ∨ x5 = 2 ∨ (x5 == 0) = false ∧ (x5 == 1) = false ∧ (x5 == 2) = false := by
    by_cases h0 : x5 = 0
    · exact .inl h0
    · by_cases h1 : x5 = 1
      · exact .inr (.inl h1)
      · by_cases h2 : x5 = 2
        · exact .inr (.inr (.inl h2))
        · exact .inr (.inr (.inr ⟨by rw [beq_eq_false_iff_ne]; exact h0, by rw [beq_eq_false_iff_ne]; exact h1, by rw [beq_eq_false_iff_ne]; exact h2⟩))
  clear hx5 hd5 hg5 hC4
  rcases hcs with rfl | rfl | rfl | ⟨he0, he1, he2⟩
  · have hC6 := hC5.below (box_below w5 (.cells #[.int .i64 0, .int .i64 (-1), .int .i64 61, .int .i64 60, .int .i64 7] 3))
    have hcp : ∀ (i : Nat) (u : Value), (pick6.map (Value.int .i64))[i]? = some u → (w5.alloc (.cells #[.int .i64 0, .int .i64 (-1), .int .i64 61, .int .i64 60, .int .i64 7] 3)).cell? ⟨w5.heap.size, i, none⟩ = some u := fun i u h => ((Arr.new w5 3 (pick6.map (Value.int .i64))).cell i).trans h
    have cpk := l1PickInt_dr hC6.dr pick6 w5.heap.size 5 (by decide) (by decide) (by simp) (by omega) hcp
    rw [show pick6.length = 5 from rfl] at cpk
    clear hcp hC5
    go_wp2_with fail
    refine cpk.mono ?_
    rintro e w7 ⟨y, hy, rfl, hd7, hg7⟩
    have hy64 := pick6_in y hy
    have hC7 := hC6.grown hd7 hg7
    clear hC6 cpk hy hd7 hg7
    have hcr : (w7).cell? ⟨W.heap.size, 0, none⟩ = some (.slice none 0 0) := hC7.res.cell 0
    have hfr := hC7.res.frozen 0
    have hbb : (w7).cell? ⟨w2.heap.size, 0, none⟩ = some (.slice (some ⟨b, off, none⟩) L.length cv) := hC7.box.cell 0
    have HF := Lib.hid (hC7.fin hl13 HI.out (y := y) hy64)
    have hcf := World.cell?_setCell_same (w7) ⟨W.heap.size, 0, none⟩ (.slice (some ⟨b, off, none⟩) L.length cv) hcr
    clear hC7
    go_wp2_with fail
    exact bodyPost_ret (v := .tuple #[.agg #[.slice (some ⟨b, off, none⟩) L.length cv], .int .i64 (y)]) (by simp [results, Try.results34, go_sem, hcf]) rfl HF.out
  · have hcb5 : w5.drew.cell? ⟨w2.heap.size, 0, none⟩ = some (.slice (some ⟨b, off, none⟩) L.length cv) := hC5.drew.box.cell 0
    go_wp2_with fail
    refine wp_region_held_drew (S := fun w' => w'.cell? ⟨w2.heap.size, 0, none⟩ = some (.slice (some ⟨b, off, none⟩) L.length cv)) (by kernel_rfl) hcb5 (fun hHeld => ?_)
    refine held_take 0 _ _ rfl (by kernel_rfl) (by kernel_rfl) (by kernel_rfl) (fun _ _ _ h => h) (by rfl) hHeld (fun w hSw => by (try dsimp only at hSw); go_simp; try with_reducible rfl) ?_
    (try simp only [Act.put, List.setIfInBounds_toArray, List.set_cons_zero, List.set_cons_succ, List.getElem_toArray, List.getElem_cons_zero])
    refine held_take 1 _ _ rfl (by kernel_rfl) (by kernel_rfl) (by kernel_rfl) (fun _ _ _ h => h) (by rfl) hHeld (fun w hSw => by (try dsimp only at hSw); go_simp; try with_reducible rfl) ?_
    (try simp only [Act.put, List.setIfInBounds_toArray, List.set_cons_zero, List.set_cons_succ, List.getElem_toArray, List.getElem_cons_succ, List.getElem_cons_zero])
    refine wpAnyH_ready (rs := [2]) (by kernel_rfl) (by simp) ?_
    refine AllReadyH.cons rfl (fun K hK => ?_) AllReadyH.nil
    rw [if_pos (by rfl)]
    go_wp2_with (first | (go_at_call 42; (with_reducible refine (l1Below_dr hC5.drew.dr 6 (by decide)).mono ?_); rintro e w6 ⟨x6, ⟨hx60, hx6⟩, rfl, hd6, hg6⟩; have hx6b : x6 < 6 := (by omega); have hC6 := hC5.drew.grown hd6 hg6; have hwx : IntKind.i64.wrap (1 + x6) = 1 + x6 := IntWalk.i64_in _ (by omega); clear hx6))
    refine hK.out _ _ (hC6.box.cell 0) (fun hHeld1 => ?_)
    clear hK K
    (try simp only [Act.put, List.setIfInBounds_toArray, List.set_cons_zero, List.set_cons_succ, List.getElem_toArray, List.getElem_cons_succ, List.getElem_cons_zero])
    refine held_take 3 _ _ rfl (by kernel_rfl) (by kernel_rfl) (by kernel_rfl) (fun _ _ _ h => h) (by rfl) hHeld1 (fun w hSw => by (try dsimp only at hSw); go_simp; try with_reducible rfl) ?_
    (try simp only [Act.put, List.setIfInBounds_toArray, List.set_cons_zero, List.set_cons_succ, List.getElem_toArray, List.getElem_cons_succ, List.getElem_cons_zero])
    refine wpAnyH_ready (rs := [4]) (by kernel_rfl) (by simp) ?_
    refine AllReadyH.cons rfl (fun K hK => ?_) AllReadyH.nil
    rw [if_pos (by rfl)]
    go_wp2_with (first | (go_at_call 60; (with_reducible refine (spec_ElementAt L (1 + x6) (some ⟨b, off, none⟩) cv w6 hC6.sl.sl (by omega)).mono ?_); rintro e w7 ⟨rfl, hb7⟩; have hC7 := hC6.below hb7; have hy64 := elem_in64 L (1 + x6)))
    refine hK.out _ _ (hC7.box.cell 0) (fun hHeld2 => ?_)
    clear hK K
    (try simp only [Act.put, List.setIfInBounds_toArray, List.set_cons_zero, List.set_cons_succ, List.getElem_toArray, List.getElem_cons_succ, List.getElem_cons_zero])
    refine held_take 5 _ _ rfl (by kernel_rfl) (by kernel_rfl) (by kernel_rfl) (fun _ _ _ h => h) (by rfl) hHeld2 (fun w hSw => by (try dsimp only at hSw); go_simp; try with_reducible rfl) ?_
    (try simp only [Act.put, List.setIfInBounds_toArray, List.set_cons_zero, List.set_cons_succ, List.getElem_toArray, List.getElem_cons_succ, List.getElem_cons_zero])
    refine wpAnyH_done (by kernel_rfl) ?_ _
    generalize elemN L (1 + x6) = y7 at *
    have hcr : (w7).cell? ⟨W.heap.size, 0, none⟩ = some (.slice none 0 0) := hC7.res.cell 0
    have hfr := hC7.res.frozen 0
    have hbb : (w7).cell? ⟨w2.heap.size, 0, none⟩ = some (.slice (some ⟨b, off, none⟩) L.length cv) := hC7.box.cell 0
    have HF := Lib.hid (hC7.fin hl13 HI.out (y := y7) hy64)
    have hcf := World.cell?_setCell_same (w7) ⟨W.heap.size, 0, none⟩ (.slice (some ⟨b, off, none⟩) L.length cv) hcr
    clear hC7
    go_wp2_with fail
    exact bodyPost_ret (v := .tuple #[.agg #[.slice (some ⟨b, off, none⟩) L.length cv], .int .i64 (y7)]) (by simp [results, Try.results34, go_sem, hcf]) rfl HF.out
  · go_wp2_with fail
    refine (l3Bent_dr hC5.dr).mono ?_
    rintro e w6 ⟨M, bv, dv, hm13, hMI, rfl, hs6, hf6, hd6, hg6⟩
    have HMI := Lib.hid hMI
    have hC6 := hC5.grown hd6 hg6
    have hz6 := hg6.size
    have hbz := hC5.box.lt
    have hC7 := hC6.put hs6 (fun p hp => by have := hf6 p hp; refine ⟨?_, ?_, ?_⟩ <;> omega)
    have hcb6 : w6.cell? ⟨w2.heap.size, 0, none⟩ = some (.slice (some ⟨b, off, none⟩) L.length cv) := hC6.box.cell 0
    have hfb6 := hC6.box.frozen 0
    clear hC5 hC6 hs6 hf6 hd6 hg6 hMI
    have hcr : (w6.setCell ⟨w2.heap.size, 0, none⟩ (.slice bv M.length dv)).cell? ⟨W.heap.size, 0, none⟩ = some (.slice none 0 0) := hC7.res.cell 0
    have hfr := hC7.res.frozen 0
    have hbb : (w6.setCell ⟨w2.heap.size, 0, none⟩ (.slice bv M.length dv)).cell? ⟨w2.heap.size, 0, none⟩ = some (.slice bv M.length dv) := hC7.box.cell 0
    have HF := Lib.hid (hC7.fin hm13 HMI.out (y := y0) hx64)
    have hcf := World.cell?_setCell_same (w6.setCell ⟨w2.heap.size, 0, none⟩ (.slice bv M.length dv)) ⟨W.heap.size, 0, none⟩ (.slice bv M.length dv) hcr
    clear hC7
    go_wp2_with fail
    exact bodyPost_ret (v := .tuple #[.agg #[.slice bv M.length dv], .int .i64 (y0)]) (by simp [results, Try.results34, go_sem, hcf]) rfl HF.out
  · have hcr : (w5).cell? ⟨W.heap.size, 0, none⟩ = some (.slice none 0 0) := hC5.res.cell 0
    have hfr := hC5.res.frozen 0
    have hbb : (w5).cell? ⟨w2.heap.size, 0, none⟩ = some (.slice (some ⟨b, off, none⟩) L.length cv) := hC5.box.cell 0
    have HF := Lib.hid (hC5.fin hl13 HI.out (y := y0) hx64)
    have hcf := World.cell?_setCell_same (w5) ⟨W.heap.size, 0, none⟩ (.slice (some ⟨b, off, none⟩) L.length cv) hcr
    clear hC5
    go_wp2_with fail
    exact bodyPost_ret (v := .tuple #[.agg #[.slice (some ⟨b, off, none⟩) L.length cv], .int .i64 (y0)]) (by simp [results, Try.results34, go_sem, hcf]) rfl HF.out
end Go.Proofs.Ytclhpggejppadaa
