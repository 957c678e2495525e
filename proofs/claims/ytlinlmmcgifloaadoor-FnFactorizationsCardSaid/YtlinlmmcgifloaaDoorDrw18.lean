/-
  DRAWS OF CHAPTER 11: DrawCountFactorizations, l11List, DrawIsFactorization, DrawValueOf (written by mkD18.py). (Own work.)
-/
import Derived.Test.YtlinlmmcgifloaaDoorDrw17
import Derived.Test.YtlinlmmcgifloaaDoorCh11L
import Derived.Test.YtlinlmmcgifloaaDoorCh11M
namespace Go.Proofs.YtlinlmmcgifloaaDoor
open Go Go.RowKit

def DSgil (W : World) (e : Ending) (w' : World) : Prop :=
  ∃ (L : List Int) (av : Option Addr) (cv : Nat) (n : Int) (M : List Int) (v : Value), L.length ≤ 13 ∧ (∀ x ∈ L, InI64 x) ∧ InI64 n ∧ M.length ≤ 13 ∧ (∀ x ∈ M, InI64 x) ∧ e = .returned (.tuple #[.agg #[.slice av L.length cv], .int .i64 n, v]) ∧ SlW w' av cv (L.map (Value.int .i64)) ∧ (∀ p, av = some p → W.heap.size ≤ p.block) ∧ w'.ownsRow W.heap.size 3 1 v M.length (M.map (Value.int .i64)) ∧ Below W.heap.size W w'
def DSgl2 (W : World) (e : Ending) (w' : World) : Prop :=
  ∃ (L : List Int) (av : Option Addr) (cv : Nat) (M : List Int) (v : Value), L.length ≤ 13 ∧ (∀ x ∈ L, InI64 x) ∧ M.length ≤ 13 ∧ (∀ x ∈ M, InI64 x) ∧ e = .returned (.tuple #[.agg #[.slice av L.length cv], v]) ∧ SlW w' av cv (L.map (Value.int .i64)) ∧ w'.ownsRow W.heap.size 3 1 v M.length (M.map (Value.int .i64)) ∧ Below W.heap.size W w'

set_option maxRecDepth 100000 in
set_option maxHeartbeats 3200000 in
theorem DrawCountFactorizations_any (W : World) (a : Option Addr) (len cap : Nat) (zs : List Int) (hr : IsRow .u8 W a len cap zs) (hl : len ≤ 1048576) :
    Calls Tryd.prog 7 #[.slice a len cap] W (DSgi W) := by
  have hb0 := box_below W (.cells #[.slice none 0 0] 26)
  have hA0 := Arr.new W 26 [.slice none 0 0]
  have cn := l1New_any (W.alloc (.cells #[.slice none 0 0] 26)) a len cap zs (hr.below hb0) hl
  have hsz : W.heap.size < (W.alloc (.cells #[.slice none 0 0] 26)).heap.size := hA0.lt
  clear hr
  go_enter Tryd.func7, Tryd.ntmps7
  go_wp2_with fail
  refine cn.mono ?_
  rintro e w1 ⟨N, rfl, hd⟩
  have hNb := hd.base
  have hN1 := hd.lt
  have hA1 := hA0.below hd.bel
  have hb1 := hb0.trans (hd.bel.mono (Nat.le_of_lt hsz))
  have hz1 := hd.bel.size
  clear cn hA0
  go_wp2_with fail
  refine (l3Bent_dr hd).mono ?_
  rintro e w2 ⟨L, av, cv, hl13, hI, rfl, hs, hf, hd2, hg2⟩
  have HI := Lib.hid hI
  have hrN : W.heap.size ≠ N := by omega
  have hbN : w2.heap.size ≠ N := by have := hg2.size; omega
  have hR2 := hA1.grownN hg2 hrN
  have hb2 := hb1.grown hg2 hb1.size (fun k hk => by cases hk; omega)
  have hz2 := hg2.size
  have hB3 := Arr.new w2 26 [.slice av L.length cv]
  obtain ⟨w3, hw3⟩ : ∃ w3, w3 = w2.alloc (.cells #[.slice av L.length cv] 26) := ⟨_, rfl⟩
  have hd3 : Dr (W.alloc (.cells #[.slice none 0 0] 26)) w3 N a len cap zs := by rw [hw3]; exact hd2.alloc _
  have hR3 : Arr w3 W.heap.size 26 [.slice none 0 0] := by rw [hw3]; exact hR2.alloc _
  have hB3' : Arr w3 w2.heap.size 26 [.slice av L.length cv] := by rw [hw3]; exact hB3
  have hs3 : SlW w3 av cv (L.map (Value.int .i64)) := by rw [hw3]; exact hs.below (box_below w2 _)
  have hb3 : Below W.heap.size W w3 := by rw [hw3]; exact hb2.alloc hb2.size _
  have hcb : w3.drew.cell? ⟨w2.heap.size, 0, none⟩ = some (.slice av L.length cv) := hB3'.cell 0
  have hdd : Dr (W.alloc (.cells #[.slice none 0 0] 26)) w3.drew N a len cap zs := hd3.drewN 1
  have hz3 := hB3'.lt
  have pk : ∀ (x4 x5 : Int) (w6 : World), Dr (W.alloc (.cells #[.slice none 0 0] 26)) w6 N a len cap zs → Calls Tryd.prog 29 #[.pointer (some ⟨N, 0, none⟩), .slice (some ⟨w6.heap.size, 0, none⟩) 5 5] (w6.alloc (.cells #[.int .i64 x4, .int .i64 1000, .int .i64 1001, .int .i64 (-1), .int .i64 x5] 3)) fun e w' => ∃ x ∈ [x4, 1000, 1001, -1, x5], e = .returned (.int .i64 x) ∧ Dr (W.alloc (.cells #[.slice none 0 0] 26)) w' N a len cap zs ∧ (w6.alloc (.cells #[.int .i64 x4, .int .i64 1000, .int .i64 1001, .int .i64 (-1), .int .i64 x5] 3)).grownBy w' (some N) := fun x4 x5 w6 hd6 => l1PickInt_dr (hd6.alloc (.cells #[.int .i64 x4, .int .i64 1000, .int .i64 1001, .int .i64 (-1), .int .i64 x5] 3)) [x4, 1000, 1001, -1, x5] w6.heap.size 5 (by simp) (by simp) (by simp) (by have := hd6.lt; omega) (fun i u h => ((Arr.new w6 3 ([x4, 1000, 1001, -1, x5].map (Value.int .i64))).cell i).trans h)
  have HW3 := Lib.hid hw3
  clear hw3 hI hd hd2 hg2 hA1 hb0 hb1 hb2 hR2 hB3 hs hd3
  go_wp2_with fail
  rw [← HW3.out]
  refine wp_region_held_drew (S := fun w' => w'.cell? ⟨w2.heap.size, 0, none⟩ = some (.slice av L.length cv)) (by kernel_rfl) hcb (fun hHeld => ?_)
  refine held_take 0 _ _ rfl (by kernel_rfl) (by kernel_rfl) (by kernel_rfl) (fun _ _ _ h => h) (by rfl) hHeld (fun w hSw => by (try dsimp only at hSw); go_simp; try with_reducible rfl) ?_
  (try simp only [Act.put, List.setIfInBounds_toArray, List.set_cons_zero, List.set_cons_succ, List.getElem_toArray, List.getElem_cons_zero])
  refine held_take 1 _ _ rfl (by kernel_rfl) (by kernel_rfl) (by kernel_rfl) (fun _ _ _ h => h) (by rfl) hHeld (fun w hSw => by (try dsimp only at hSw); go_simp; try with_reducible rfl) ?_
  (try simp only [Act.put, List.setIfInBounds_toArray, List.set_cons_zero, List.set_cons_succ, List.getElem_toArray, List.getElem_cons_succ, List.getElem_cons_zero])
  refine held_take 2 _ _ rfl (by kernel_rfl) (by kernel_rfl) (by kernel_rfl) (fun _ _ _ h => h) (by rfl) hHeld (fun w hSw => by (try dsimp only at hSw); go_simp; try with_reducible rfl) ?_
  (try simp only [Act.put, List.setIfInBounds_toArray, List.set_cons_zero, List.set_cons_succ, List.getElem_toArray, List.getElem_cons_succ, List.getElem_cons_zero])
  refine held_take 4 _ _ rfl (by kernel_rfl) (by kernel_rfl) (by kernel_rfl) (fun _ _ _ h => h) (by rfl) hHeld (fun w hSw => by (try dsimp only at hSw); go_simp; try with_reducible rfl) ?_
  (try simp only [Act.put, List.setIfInBounds_toArray, List.set_cons_zero, List.set_cons_succ, List.getElem_toArray, List.getElem_cons_succ, List.getElem_cons_zero])
  refine wpAnyH_ready (rs := [3]) (by kernel_rfl) (by simp) ?_
  refine AllReadyH.cons rfl (fun K hK => ?_) AllReadyH.nil
  rw [if_pos (by rfl)]
  go_wp2_with (first | (go_at_call 30; (with_reducible refine (l1Below_dr hdd 100 (by decide)).mono ?_); rintro e w4 ⟨x4, ⟨hx40, hx4⟩, rfl, hd4, hg4⟩; have hx4b : x4 < 100 := (by omega); clear hx4; have hz4' : w3.heap.size ≤ w4.heap.size := hg4.size))
  refine hK.out _ _ ((grown_cell (w := w3.drew) hg4 (by show w2.heap.size < w3.heap.size; omega) hbN).trans hHeld) (fun hHeld1 => ?_)
  clear hK K
  (try simp only [Act.put, List.setIfInBounds_toArray, List.set_cons_zero, List.set_cons_succ, List.getElem_toArray, List.getElem_cons_succ, List.getElem_cons_zero])
  refine wpAnyH_ready (rs := [5]) (by kernel_rfl) (by simp) ?_
  refine AllReadyH.cons rfl (fun K hK => ?_) AllReadyH.nil
  rw [if_pos (by rfl)]
  go_wp2_with (first | (go_at_call 30; (with_reducible refine (l1Below_dr hd4 400 (by decide)).mono ?_); rintro e w5 ⟨x5, ⟨hx50, hx5⟩, rfl, hd5, hg5⟩; have hx5b : x5 < 400 := (by omega); clear hx5; have hz5' : w4.heap.size ≤ w5.heap.size := hg5.size))
  refine hK.out _ _ ((grown_cell (w := w4) hg5 (by show w2.heap.size < w4.heap.size; omega) hbN).trans hHeld1) (fun hHeld2 => ?_)
  clear hK K
  (try simp only [Act.put, List.setIfInBounds_toArray, List.set_cons_zero, List.set_cons_succ, List.getElem_toArray, List.getElem_cons_succ, List.getElem_cons_zero])
  refine wpAnyH_ready (rs := [6]) (by kernel_rfl) (by simp) ?_
  refine AllReadyH.cons rfl (fun K hK => ?_) AllReadyH.nil
  rw [if_pos (by rfl)]
  go_wp2_with fail
  refine hK.out _ _ ((by rw [World.cell?_alloc_lt _ _ _ (show w2.heap.size < w5.heap.size by omega)]; exact hHeld2)) (fun hHeld3 => ?_)
  clear hK K
  (try simp only [Act.put, List.setIfInBounds_toArray, List.set_cons_zero, List.set_cons_succ, List.getElem_toArray, List.getElem_cons_succ, List.getElem_cons_zero])
  refine wpAnyH_ready (rs := [7]) (by kernel_rfl) (by simp) ?_
  refine AllReadyH.cons rfl (fun K hK => ?_) AllReadyH.nil
  rw [if_pos (by rfl)]
  go_wp2_with (first | (go_at_call 29; (with_reducible refine (pk x4 x5 w5 hd5).mono ?_); rintro e w7 ⟨y, hy, rfl, hd7, hg7⟩; have hz7' : w5.heap.size + 1 ≤ w7.heap.size := (by have := hg7.size; simp at this; omega); have hR7 := ((((hR3.drew.grownN hg4 hrN).grownN hg5 hrN).alloc (.cells #[.int .i64 x4, .int .i64 1000, .int .i64 1001, .int .i64 (-1), .int .i64 x5] 3)).grownN hg7 hrN); have hcr7 : w7.cell? ⟨W.heap.size, 0, none⟩ = some (.slice none 0 0) := hR7.cell 0; have hfr7 := hR7.frozen 0))
  refine hK.out _ _ ((grown_cell hg7 (by simp; omega) hbN).trans hHeld3) (fun hHeld4 => ?_)
  clear hK K
  (try simp only [Act.put, List.setIfInBounds_toArray, List.set_cons_zero, List.set_cons_succ, List.getElem_toArray, List.getElem_cons_succ, List.getElem_cons_zero])
  refine wpAnyH_ready (rs := [8]) (by kernel_rfl) (by simp) ?_
  refine AllReadyH.cons rfl (fun K hK => ?_) AllReadyH.nil
  rw [if_pos (by rfl)]
  go_wp2_with fail
  refine hK.out _ _ ((World.cell?_setCell_other _ _ _ _ (by first | (simp; done) | (simp; omega))).trans hHeld4) (fun hHeld5 => ?_)
  clear hK K
  (try simp only [Act.put, List.setIfInBounds_toArray, List.set_cons_zero, List.set_cons_succ, List.getElem_toArray, List.getElem_cons_succ, List.getElem_cons_zero])
  refine held_take 9 _ _ rfl (by kernel_rfl) (by kernel_rfl) (by kernel_rfl) (fun _ _ _ h => h) (by rfl) hHeld5 (fun w hSw => by (try dsimp only at hSw); go_simp; try with_reducible rfl) ?_
  (try simp only [Act.put, List.setIfInBounds_toArray, List.set_cons_zero, List.set_cons_succ, List.getElem_toArray, List.getElem_cons_succ, List.getElem_cons_zero])
  refine wpAnyH_done (by kernel_rfl) ?_ _
  have hNs : ∀ p, av = some p → p.block ≠ N := fun p hp => by have := hf p hp; omega
  have hWN : W.heap.size ≤ N := by omega
  have hs7 := (((SlW.grownN (w := w3.drew) ⟨hs3.sl, hs3.nil0, hs3.le, hs3.mx⟩ hg4 hNs).grownN hg5 hNs).below (box_below w5 (.cells #[.int .i64 x4, .int .i64 1000, .int .i64 1001, .int .i64 (-1), .int .i64 x5] 3))).grownN hg7 hNs
  have hb4 := hb3.drew.grown hg4 hb3.size (fun k hk => by cases hk; exact hWN)
  have hb5 := hb4.grown hg5 hb4.size (fun k hk => by cases hk; exact hWN)
  have hb6' := hb5.alloc hb5.size (.cells #[.int .i64 x4, .int .i64 1000, .int .i64 1001, .int .i64 (-1), .int .i64 x5] 3)
  have hb7 := hb6'.grown hg7 hb6'.size (fun k hk => by cases hk; exact hWN)
  have hy64 : InI64 y := by
    unfold InI64
    simp only [List.mem_cons, List.mem_nil_iff, or_false] at hy
    omega
  have hcf := World.cell?_setCell_same w7 ⟨W.heap.size, 0, none⟩ (.slice av L.length cv) hcr7
  have HF : Hid (DSgi W (.returned (.tuple #[.agg #[.slice av L.length cv], .int .i64 y])) (w7.setCell ⟨W.heap.size, 0, none⟩ (.slice av L.length cv))) := Lib.hid ⟨L, av, cv, y, hl13, HI.out, hy64, rfl, hs7.grownBy (grownBy_setCell w7 W.heap.size 0 _) hf (by omega), hb7.setCell (Nat.le_refl _) _⟩
  go_wp2_with fail
  exact bodyPost_ret (v := .tuple #[.agg #[.slice av L.length cv], .int .i64 y]) (by simp [results, Tryd.results7, go_sem, hcf]) rfl HF.out

set_option maxRecDepth 100000 in
set_option maxHeartbeats 3200000 in
theorem l11List_any (W : World) (a : Option Addr) (len cap : Nat) (zs : List Int) (hr : IsRow .u8 W a len cap zs) (hl : len ≤ 1048576) :
    Calls Tryd.prog 31 #[.slice a len cap] W (DSgil W) := by
  obtain ⟨i0, hi, hz0, hz1, hz2⟩ := info_parts infoIntL
  have hb0 := box_below W (.cells #[.slice none 0 0] 26)
  have hA0 := Arr.new W 26 [.slice none 0 0]
  have c1 := l11Case_any (W.alloc (.cells #[.slice none 0 0] 26)) a len cap zs (hr.below hb0) hl
  have hsz : W.heap.size < (W.alloc (.cells #[.slice none 0 0] 26)).heap.size := hA0.lt
  go_enter Tryd.func31, Tryd.ntmps31
  go_wp2_with fail
  refine c1.mono ?_
  rintro e w1 ⟨L, av, cv, n, hl13, hI, hn, rfl, hs, hf, hb1⟩
  have HI := Lib.hid hI
  have hA1 := hA0.below hb1
  have hbz := hb0.trans (hb1.mono (Nat.le_of_lt hsz))
  have hz1' := hb1.size
  obtain ⟨V, hV⟩ : ∃ V, V = w1.alloc (.cells #[.slice av L.length cv] 26) := ⟨_, rfl⟩
  have hb2 : Below w1.heap.size w1 V := by rw [hV]; exact box_below _ _
  have hbWV := hbz.trans (hb2.mono hbz.size)
  have hRV : Arr V W.heap.size 26 [.slice none 0 0] := by rw [hV]; exact hA1.alloc _
  have hBV : Arr V w1.heap.size 26 [.slice av L.length cv] := by rw [hV]; exact Arr.new _ _ _
  have hsV := hs.below hb2
  have hVz : w1.heap.size < V.heap.size := hBV.lt
  have hfV : ∀ p, av = some p → W.heap.size < p.block := fun p hp => by have := hf p hp; omega
  have cn := l1New_any V a len cap zs (hr.below hbWV) hl
  have HV := Lib.hid hV
  clear hV hs hf hb1 hb2 hb0 hA0 hA1 hI c1 hr hbz
  go_wp2_with fail
  rw [← HV.out]
  refine cn.mono ?_
  rintro e w2 ⟨N, rfl, hd⟩
  have hNb := hd.base
  have hN2 := hd.lt
  have hz2' := hd.bel.size
  have hcb : w2.cell? ⟨w1.heap.size, 0, none⟩ = some (.slice av L.length cv) := (hBV.below hd.bel).cell 0
  have cF := spec_Factorizations L n av cv w2 (hsV.below hd.bel).sl (by omega)
  have hFl := factL_len L n
  have HFW := Lib.hid (factL_width L n)
  have HFE := Lib.hid (fun (M : List Int) (h : M ∈ factL L n) => fact_ent h)
  clear cn
  go_wp2_with fail
  refine cF.mono ?_
  intro e w3 hp
  obtain ⟨a3, c3, vs, rfl, -, hR3, hb3⟩ := hp.opened
  have hd3 := hd.belowW hb3
  have hz3' := hb3.size
  clear cF hp hcb hd
  generalize factL L n = F at *
  by_cases hF0 : F.length = 0
  · have hp : ¬ (0 : Int) < (F.length : Int) := by omega
    have hp2 : ¬ 0 < F.length := by omega
    have hpd : decide (0 < F.length) = false := decide_eq_false hp2
    have hdt := hd3.alloc (.cells #[.int .i64 1, .int .i64 2] 3)
    have hot : (w3.alloc (.cells #[.int .i64 1, .int .i64 2] 3)).ownsRow w3.heap.size 3 1 (.slice (some ⟨w3.heap.size, 0, none⟩) 2 2) ([1, 2] : List Int).length (([1, 2] : List Int).map (Value.int .i64)) := World.ownsRow_lit w3 #[.int .i64 1, .int .i64 2] 2 (Nat.le_refl _) (by first | rfl | decide | simp) rfl
    have hMl : ([1, 2] : List Int).length ≤ 12 := by simp
    have hMI : ∀ x ∈ ([1, 2] : List Int), InI64 x := by unfold InI64; decide
    obtain ⟨base, hba1, hba2⟩ : ∃ b, b ≤ w3.heap.size ∧ w3.heap.size ≤ b := ⟨_, Nat.le_refl _, Nat.le_refl _⟩
    replace hot := ownsBase hot hba1
    have hNb2 : N < base := by omega
    have hbV : V.heap.size ≤ base := by omega
    have hlt9 : base ≤ (w3.alloc (.cells #[.int .i64 1, .int .i64 2] 3)).heap.size := by simp; omega
    try simp only [alloc_sz] at hlt9
    clear hF0 hR3 hd3 HFW HFE
    go_wp2_with fail
    refine (l1Below_dr hdt 10 (by decide)).mono ?_
    rintro e w8 ⟨x, ⟨hx0, hx⟩, rfl, hd8, hg8⟩
    have ho8 := row_kept hot fun j hj => hg8.block j (hot.lt j hj).2 (fun e => by injection e with e; have := (hot.lt j hj).1; omega)
    have hz8 := hd8.bel.size
    have hz8b := hg8.size
    try simp only [alloc_sz] at hz8b
    have hN8 := hd8.lt
    clear hdt hot hg8 hx
    have hcs : x = 0 ∨ x = 1 ∨ (x == 0) = false ∧ (x == 1) = false := by
      by_cases h0 : x = 0
      · exact .inl h0
      · by_cases h1 : x = 1
        · exact .inr (.inl h1)
        · exact .inr (.inr ⟨by rw [beq_eq_false_iff_ne]; exact h0, by rw [beq_eq_false_iff_ne]; exact h1⟩)
    rcases hcs with rfl | rfl | ⟨he0, he1⟩
    · have hbase8 : base ≤ w8.heap.size := by omega
      go_wp2_with (at_builtin; refine wpList_append_own _ rfl _ _ 24 rfl base 3 i0 (Value.int .i64 0) 1 8 Tryd.underlying24 hi hz0 hz1 hz2 rfl (by decide) _ _ _ rfl (ho8.alloc _) ⟨_, 0, none⟩ 1 1 [.int .i64 1] rfl rfl (World.news_of_block (cs := #[.int .i64 1]) (t := 3) (fr := (0, 0)) (heap_alloc_new _ _)) (by simp [Value.oneCell']) (by unfold maxLen; omega) (by omega) (by simp; omega) ?_; intro v9 w9 hown9 hg9 _; have hb9 := (hd8.bel.alloc hd8.bel.size (.cells #[.int .i64 1] 3)).grown hg9 (by simp; omega) (fun j hj => by have := (ho8.lt j hj).1; omega); have hcr : w9.cell? ⟨W.heap.size, 0, none⟩ = some (.slice none 0 0) := (hRV.below hb9).cell 0; have hfr := (hRV.below hb9).frozen 0; have hbb : w9.cell? ⟨w1.heap.size, 0, none⟩ = some (.slice av L.length cv) := (hBV.below hb9).cell 0)
      have hz9 := hb9.size
      have ho9 : w9.ownsRow base 3 1 v9 (([1, 2] : List Int) ++ [1]).length ((([1, 2] : List Int) ++ [1]).map (Value.int .i64)) := by simpa using hown9
      have HMI : ∀ x ∈ ([1, 2] : List Int) ++ [1], InI64 x := fun x hx => by
        rcases List.mem_append.1 hx with h | h
        · exact hMI x h
        · rw [List.mem_singleton] at h; subst h; unfold InI64; omega
      clear hown9 hg9 ho8 hd8 hMI hi hz0 hz1 hz2
      have hs9 := hsV.below hb9
      have hr9 := hRV.below hb9
      have hbx9 := hBV.below hb9
      have hcf := World.cell?_setCell_same (w9) ⟨W.heap.size, 0, none⟩ (.slice av L.length cv) hcr
      have HF : Hid (DSgil W (.returned (.tuple #[.agg #[.slice av L.length cv], .int .i64 n, v9])) ((w9).setCell ⟨W.heap.size, 0, none⟩ (.slice av L.length cv))) := Lib.hid ⟨L, av, cv, n, (([1, 2] : List Int) ++ [1]), v9, hl13, HI.out, hn, by first | omega | (simp; done) | (simp; omega), HMI, rfl, hs9.grownN (grownBy_setCell (w9) W.heap.size 0 _) (fun p hp => by have := hfV p hp; omega), fun p hp => Nat.le_of_lt (hfV p hp), owns_wider (ownsRow_setCell_below ho9 (a := ⟨W.heap.size, 0, none⟩) (by show W.heap.size < _; omega) _) (by omega), (hbWV.trans (hb9.mono hbWV.size)).setCell (Nat.le_refl _) _⟩
      clear hs9 hr9 hbx9 HMI
      exact bodyPost_ret (v := .tuple #[.agg #[.slice av L.length cv], .int .i64 n, v9]) (by simp [results, Tryd.results31, go_sem, hcf]) rfl HF.out
    · have HMI := hMI
      have hcp : ∀ (i : Nat) (u : Value), (([-1, 1000000, 1000001, 3] : List Int).map (Value.int .i64))[i]? = some u → (w8.alloc (.cells #[.int .i64 (-1), .int .i64 1000000, .int .i64 1000001, .int .i64 3] 3)).cell? ⟨w8.heap.size, i, none⟩ = some u := fun i u h => ((Arr.new w8 3 (([-1, 1000000, 1000001, 3] : List Int).map (Value.int .i64))).cell i).trans h
      have cpk := l1PickInt_dr (hd8.alloc (.cells #[.int .i64 (-1), .int .i64 1000000, .int .i64 1000001, .int .i64 3] 3)) [-1, 1000000, 1000001, 3] w8.heap.size 4 (by simp) (by simp) (by simp) (by omega) hcp
      rw [show ([-1, 1000000, 1000001, 3] : List Int).length = 4 from rfl] at cpk
      clear hcp
      go_wp2_with fail
      refine cpk.mono ?_
      rintro e w9 ⟨y, hy, rfl, hd9, hg9⟩
      have hy64 : InI64 y := by
        unfold InI64
        simp only [List.mem_cons, List.mem_nil_iff, or_false] at hy
        omega
      have hoA := ho8.alloc (.cells #[.int .i64 (-1), .int .i64 1000000, .int .i64 1000001, .int .i64 3] 3)
      have ho9 := row_kept hoA fun j hj => hg9.block j (hoA.lt j hj).2 (fun e => by injection e with e; have := (hoA.lt j hj).1; omega)
      have hgl := ho9.lt w3.heap.size (by simp [Value.ownBlock])
      have hst := (ho9.stored 0 (.int .i64 y)).1
      rw [← List.map_set] at hst
      have hfz := ho9.frozenAt 0
      obtain ⟨u, hu⟩ : ∃ u, w9.cell? ⟨w3.heap.size, 0, none⟩ = some u := by rw [ho9.cellAt 0 (by first | omega | simp)]; exact ⟨_, List.getElem?_eq_getElem (by first | (simp; done) | (simp; omega))⟩
      have hb9 := (hd9.bel).setCell (p := ⟨w3.heap.size, 0, none⟩) (show V.heap.size ≤ w3.heap.size by omega) (.int .i64 y)
      have hz9 := hb9.size
      have hms : (([1, 2] : List Int).set 0 y).length = ([1, 2] : List Int).length := List.length_set
      have ho10 : (w9.setCell ⟨w3.heap.size, 0, none⟩ (.int .i64 y)).ownsRow base 3 1 (.slice (some ⟨w3.heap.size, 0, none⟩) 2 2) (([1, 2] : List Int).set 0 y).length ((([1, 2] : List Int).set 0 y).map (Value.int .i64)) := by rw [hms]; exact hst
      replace HMI : ∀ x ∈ ([1, 2] : List Int).set 0 y, InI64 x := fun x hx => by
        rcases List.mem_or_eq_of_mem_set hx with h | h
        · exact hMI x h
        · subst h; exact hy64
      clear cpk hy hd9 hg9 hoA ho9 hst ho8 hd8 hMI hy64 hi hz0 hz1 hz2
      have hs9 := hsV.below hb9
      have hr9 := hRV.below hb9
      have hbx9 := hBV.below hb9
      have hcr : (w9.setCell ⟨w3.heap.size, 0, none⟩ (.int .i64 y)).cell? ⟨W.heap.size, 0, none⟩ = some (.slice none 0 0) := hr9.cell 0
      have hfr := hr9.frozen 0
      have hbb : (w9.setCell ⟨w3.heap.size, 0, none⟩ (.int .i64 y)).cell? ⟨w1.heap.size, 0, none⟩ = some (.slice av L.length cv) := hbx9.cell 0
      have hcf := World.cell?_setCell_same (w9.setCell ⟨w3.heap.size, 0, none⟩ (.int .i64 y)) ⟨W.heap.size, 0, none⟩ (.slice av L.length cv) hcr
      have HF : Hid (DSgil W (.returned (.tuple #[.agg #[.slice av L.length cv], .int .i64 n, (.slice (some ⟨w3.heap.size, 0, none⟩) 2 2)])) ((w9.setCell ⟨w3.heap.size, 0, none⟩ (.int .i64 y)).setCell ⟨W.heap.size, 0, none⟩ (.slice av L.length cv))) := Lib.hid ⟨L, av, cv, n, (([1, 2] : List Int).set 0 y), (.slice (some ⟨w3.heap.size, 0, none⟩) 2 2), hl13, HI.out, hn, by rw [hms]; first | omega | (simp; done), HMI, rfl, hs9.grownN (grownBy_setCell (w9.setCell ⟨w3.heap.size, 0, none⟩ (.int .i64 y)) W.heap.size 0 _) (fun p hp => by have := hfV p hp; omega), fun p hp => Nat.le_of_lt (hfV p hp), owns_wider (ownsRow_setCell_below ho10 (a := ⟨W.heap.size, 0, none⟩) (by show W.heap.size < _; omega) _) (by omega), (hbWV.trans (hb9.mono hbWV.size)).setCell (Nat.le_refl _) _⟩
      clear hs9 hr9 hbx9 HMI
      go_wp2_with fail
      exact bodyPost_ret (v := .tuple #[.agg #[.slice av L.length cv], .int .i64 n, (.slice (some ⟨w3.heap.size, 0, none⟩) 2 2)]) (by simp [results, Tryd.results31, go_sem, hcf]) rfl HF.out
    · have HMI := hMI
      have hb9 := hd8.bel
      clear hd8 hMI hi hz0 hz1 hz2
      have hs9 := hsV.below hb9
      have hr9 := hRV.below hb9
      have hbx9 := hBV.below hb9
      have hcr : (w8).cell? ⟨W.heap.size, 0, none⟩ = some (.slice none 0 0) := hr9.cell 0
      have hfr := hr9.frozen 0
      have hbb : (w8).cell? ⟨w1.heap.size, 0, none⟩ = some (.slice av L.length cv) := hbx9.cell 0
      have hcf := World.cell?_setCell_same (w8) ⟨W.heap.size, 0, none⟩ (.slice av L.length cv) hcr
      have HF : Hid (DSgil W (.returned (.tuple #[.agg #[.slice av L.length cv], .int .i64 n, (.slice (some ⟨w3.heap.size, 0, none⟩) 2 2)])) ((w8).setCell ⟨W.heap.size, 0, none⟩ (.slice av L.length cv))) := Lib.hid ⟨L, av, cv, n, ([1, 2] : List Int), (.slice (some ⟨w3.heap.size, 0, none⟩) 2 2), hl13, HI.out, hn, by first | omega | (simp; done) | (simp; omega), HMI, rfl, hs9.grownN (grownBy_setCell (w8) W.heap.size 0 _) (fun p hp => by have := hfV p hp; omega), fun p hp => Nat.le_of_lt (hfV p hp), owns_wider (ownsRow_setCell_below ho8 (a := ⟨W.heap.size, 0, none⟩) (by show W.heap.size < _; omega) _) (by omega), (hbWV.trans (hb9.mono hbWV.size)).setCell (Nat.le_refl _) _⟩
      clear hs9 hr9 hbx9 HMI
      go_wp2_with fail
      exact bodyPost_ret (v := .tuple #[.agg #[.slice av L.length cv], .int .i64 n, (.slice (some ⟨w3.heap.size, 0, none⟩) 2 2)]) (by simp [results, Tryd.results31, go_sem, hcf]) rfl HF.out
  · have hp : (0 : Int) < (F.length : Int) := by omega
    have hp2 : 0 < F.length := by omega
    have hpd : decide (0 < F.length) = true := decide_eq_true hp2
    have hd4 := hd3.alloc (.cells #[.int .i64 1, .int .i64 2] 3)
    have hR4 := hR3.below (box_below w3 (.cells #[.int .i64 1, .int .i64 2] 3))
    clear hF0 hd3 hR3
    go_wp2_with fail
    refine (l1Below_dr hd4 (F.length : Int) (by omega)).mono ?_
    rintro e w5 ⟨x5, ⟨hx50, hx5⟩, rfl, hd5, hg5⟩
    obtain ⟨j, rfl⟩ : ∃ j : Nat, x5 = (j : Int) := ⟨x5.toNat, by omega⟩
    have hj : j < F.length := by omega
    have hji : (j : Int) < (F.length : Int) := by omega
    have hj0 : (0 : Int) ≤ (j : Int) := by omega
    have hR5 := hR4.grown hg5 (fun q hq => by cases hq; left; omega)
    obtain ⟨b, o, u, d, rfl, -, hcell, -⟩ := hR5.sl2n.at hj
    have hjv : j < vs.length := by rw [hR5.len, List.length_map]; exact hj
    have hrow := hR5.inn j hjv (by rw [List.length_map]; exact hj)
    rw [List.getElem_map] at hrow
    have hvj : vs[j] = .slice u F[j].length d := by
      have h1 := (row2_cells hR5 j vs[j] (List.getElem?_eq_getElem hjv))
      rw [addr_add, hcell] at h1
      injection h1 with h1
      exact h1.symm
    rw [hvj, List.length_map] at hrow
    have hot := hrow.own
    have hMl := HFW.out F[j] (List.getElem_mem hj)
    have hMI : ∀ x ∈ F[j], InI64 x := fun x hx => by have := HFE.out F[j] (List.getElem_mem hj) x hx; unfold InI64; omega
    have hdt := hd5
    obtain ⟨base, hba1, hba2⟩ : ∃ b, b ≤ w2.heap.size ∧ w2.heap.size ≤ b := ⟨_, Nat.le_refl _, Nat.le_refl _⟩
    replace hot := ownsBase hot hba1
    have hNb2 : N < base := by omega
    have hbV : V.heap.size ≤ base := by omega
    have hlt9 : base ≤ w5.heap.size := by have := hg5.size; simp at this; omega
    clear hx5 hd4 hd5 hg5 hR4 hR5 hrow hvj HFW HFE
    generalize hMF : F[j] = M at *
    clear hMF
    go_wp2_with fail
    refine (l1Below_dr hdt 10 (by decide)).mono ?_
    rintro e w8 ⟨x, ⟨hx0, hx⟩, rfl, hd8, hg8⟩
    have ho8 := row_kept hot fun j hj => hg8.block j (hot.lt j hj).2 (fun e => by injection e with e; have := (hot.lt j hj).1; omega)
    have hz8 := hd8.bel.size
    have hz8b := hg8.size
    try simp only [alloc_sz] at hz8b
    have hN8 := hd8.lt
    clear hdt hot hg8 hx
    have hcs : x = 0 ∨ x = 1 ∨ (x == 0) = false ∧ (x == 1) = false := by
      by_cases h0 : x = 0
      · exact .inl h0
      · by_cases h1 : x = 1
        · exact .inr (.inl h1)
        · exact .inr (.inr ⟨by rw [beq_eq_false_iff_ne]; exact h0, by rw [beq_eq_false_iff_ne]; exact h1⟩)
    rcases hcs with rfl | rfl | ⟨he0, he1⟩
    · have hbase8 : base ≤ w8.heap.size := by omega
      go_wp2_with (at_builtin; refine wpList_append_own _ rfl _ _ 24 rfl base 3 i0 (Value.int .i64 0) 1 8 Tryd.underlying24 hi hz0 hz1 hz2 rfl (by decide) _ _ _ rfl (ho8.alloc _) ⟨_, 0, none⟩ 1 1 [.int .i64 1] rfl rfl (World.news_of_block (cs := #[.int .i64 1]) (t := 3) (fr := (0, 0)) (heap_alloc_new _ _)) (by simp [Value.oneCell']) (by unfold maxLen; omega) (by omega) (by simp; omega) ?_; intro v9 w9 hown9 hg9 _; have hb9 := (hd8.bel.alloc hd8.bel.size (.cells #[.int .i64 1] 3)).grown hg9 (by simp; omega) (fun j hj => by have := (ho8.lt j hj).1; omega); have hcr : w9.cell? ⟨W.heap.size, 0, none⟩ = some (.slice none 0 0) := (hRV.below hb9).cell 0; have hfr := (hRV.below hb9).frozen 0; have hbb : w9.cell? ⟨w1.heap.size, 0, none⟩ = some (.slice av L.length cv) := (hBV.below hb9).cell 0)
      have hz9 := hb9.size
      have ho9 : w9.ownsRow base 3 1 v9 (M ++ [1]).length ((M ++ [1]).map (Value.int .i64)) := by simpa using hown9
      have HMI : ∀ x ∈ M ++ [1], InI64 x := fun x hx => by
        rcases List.mem_append.1 hx with h | h
        · exact hMI x h
        · rw [List.mem_singleton] at h; subst h; unfold InI64; omega
      clear hown9 hg9 ho8 hd8 hMI hi hz0 hz1 hz2
      have hs9 := hsV.below hb9
      have hr9 := hRV.below hb9
      have hbx9 := hBV.below hb9
      have hcf := World.cell?_setCell_same (w9) ⟨W.heap.size, 0, none⟩ (.slice av L.length cv) hcr
      have HF : Hid (DSgil W (.returned (.tuple #[.agg #[.slice av L.length cv], .int .i64 n, v9])) ((w9).setCell ⟨W.heap.size, 0, none⟩ (.slice av L.length cv))) := Lib.hid ⟨L, av, cv, n, (M ++ [1]), v9, hl13, HI.out, hn, by first | omega | (simp; done) | (simp; omega), HMI, rfl, hs9.grownN (grownBy_setCell (w9) W.heap.size 0 _) (fun p hp => by have := hfV p hp; omega), fun p hp => Nat.le_of_lt (hfV p hp), owns_wider (ownsRow_setCell_below ho9 (a := ⟨W.heap.size, 0, none⟩) (by show W.heap.size < _; omega) _) (by omega), (hbWV.trans (hb9.mono hbWV.size)).setCell (Nat.le_refl _) _⟩
      clear hs9 hr9 hbx9 HMI
      exact bodyPost_ret (v := .tuple #[.agg #[.slice av L.length cv], .int .i64 n, v9]) (by simp [results, Tryd.results31, go_sem, hcf]) rfl HF.out
    · have HMI := hMI
      by_cases hm0 : M.length = 0
      · have hp : ¬ (0 : Int) < (M.length : Int) := by omega
        have hp2 : ¬ 0 < M.length := by omega
        have hpd : decide (0 < M.length) = false := decide_eq_false hp2
        have hb9 := hd8.bel
        clear hm0 hd8 hMI hi hz0 hz1 hz2
        have hs9 := hsV.below hb9
        have hr9 := hRV.below hb9
        have hbx9 := hBV.below hb9
        have hcr : (w8).cell? ⟨W.heap.size, 0, none⟩ = some (.slice none 0 0) := hr9.cell 0
        have hfr := hr9.frozen 0
        have hbb : (w8).cell? ⟨w1.heap.size, 0, none⟩ = some (.slice av L.length cv) := hbx9.cell 0
        have hcf := World.cell?_setCell_same (w8) ⟨W.heap.size, 0, none⟩ (.slice av L.length cv) hcr
        have HF : Hid (DSgil W (.returned (.tuple #[.agg #[.slice av L.length cv], .int .i64 n, (.slice u M.length d)])) ((w8).setCell ⟨W.heap.size, 0, none⟩ (.slice av L.length cv))) := Lib.hid ⟨L, av, cv, n, M, (.slice u M.length d), hl13, HI.out, hn, by first | omega | (simp; done) | (simp; omega), HMI, rfl, hs9.grownN (grownBy_setCell (w8) W.heap.size 0 _) (fun p hp => by have := hfV p hp; omega), fun p hp => Nat.le_of_lt (hfV p hp), owns_wider (ownsRow_setCell_below ho8 (a := ⟨W.heap.size, 0, none⟩) (by show W.heap.size < _; omega) _) (by omega), (hbWV.trans (hb9.mono hbWV.size)).setCell (Nat.le_refl _) _⟩
        clear hs9 hr9 hbx9 HMI
        go_wp2_with fail
        exact bodyPost_ret (v := .tuple #[.agg #[.slice av L.length cv], .int .i64 n, (.slice u M.length d)]) (by simp [results, Tryd.results31, go_sem, hcf]) rfl HF.out
      · have hp : (0 : Int) < (M.length : Int) := by omega
        have hp2 : 0 < M.length := by omega
        have hpd : decide (0 < M.length) = true := decide_eq_true hp2
        obtain ⟨g, cl, e1, -⟩ := owns_open ho8 (by intro h; injection h with _ h2 _; omega)
        injection e1 with e1 _ e2
        subst e1 e2
        have hcp : ∀ (i : Nat) (u : Value), (([-1, 1000000, 1000001, 3] : List Int).map (Value.int .i64))[i]? = some u → (w8.alloc (.cells #[.int .i64 (-1), .int .i64 1000000, .int .i64 1000001, .int .i64 3] 3)).cell? ⟨w8.heap.size, i, none⟩ = some u := fun i u h => ((Arr.new w8 3 (([-1, 1000000, 1000001, 3] : List Int).map (Value.int .i64))).cell i).trans h
        have cpk := l1PickInt_dr (hd8.alloc (.cells #[.int .i64 (-1), .int .i64 1000000, .int .i64 1000001, .int .i64 3] 3)) [-1, 1000000, 1000001, 3] w8.heap.size 4 (by simp) (by simp) (by simp) (by omega) hcp
        rw [show ([-1, 1000000, 1000001, 3] : List Int).length = 4 from rfl] at cpk
        clear hcp
        go_wp2_with fail
        refine cpk.mono ?_
        rintro e w9 ⟨y, hy, rfl, hd9, hg9⟩
        have hy64 : InI64 y := by
          unfold InI64
          simp only [List.mem_cons, List.mem_nil_iff, or_false] at hy
          omega
        have hoA := ho8.alloc (.cells #[.int .i64 (-1), .int .i64 1000000, .int .i64 1000001, .int .i64 3] 3)
        have ho9 := row_kept hoA fun j hj => hg9.block j (hoA.lt j hj).2 (fun e => by injection e with e; have := (hoA.lt j hj).1; omega)
        have hgl := ho9.lt g (by simp [Value.ownBlock])
        have hst := (ho9.stored 0 (.int .i64 y)).1
        rw [← List.map_set] at hst
        have hfz := ho9.frozenAt 0
        obtain ⟨u, hu⟩ : ∃ u, w9.cell? ⟨g, 0, none⟩ = some u := by rw [ho9.cellAt 0 (by first | omega | simp)]; exact ⟨_, List.getElem?_eq_getElem (by first | (simp; done) | (simp; omega))⟩
        have hb9 := (hd9.bel).setCell (p := ⟨g, 0, none⟩) (show V.heap.size ≤ g by omega) (.int .i64 y)
        have hz9 := hb9.size
        have hms : (M.set 0 y).length = M.length := List.length_set
        have ho10 : (w9.setCell ⟨g, 0, none⟩ (.int .i64 y)).ownsRow base 3 1 (.slice (some ⟨g, 0, none⟩) M.length d) (M.set 0 y).length ((M.set 0 y).map (Value.int .i64)) := by rw [hms]; exact hst
        replace HMI : ∀ x ∈ M.set 0 y, InI64 x := fun x hx => by
          rcases List.mem_or_eq_of_mem_set hx with h | h
          · exact hMI x h
          · subst h; exact hy64
        clear cpk hy hd9 hg9 hoA ho9 hst ho8 hd8 hMI hy64 hi hz0 hz1 hz2 hm0
        have hs9 := hsV.below hb9
        have hr9 := hRV.below hb9
        have hbx9 := hBV.below hb9
        have hcr : (w9.setCell ⟨g, 0, none⟩ (.int .i64 y)).cell? ⟨W.heap.size, 0, none⟩ = some (.slice none 0 0) := hr9.cell 0
        have hfr := hr9.frozen 0
        have hbb : (w9.setCell ⟨g, 0, none⟩ (.int .i64 y)).cell? ⟨w1.heap.size, 0, none⟩ = some (.slice av L.length cv) := hbx9.cell 0
        have hcf := World.cell?_setCell_same (w9.setCell ⟨g, 0, none⟩ (.int .i64 y)) ⟨W.heap.size, 0, none⟩ (.slice av L.length cv) hcr
        have HF : Hid (DSgil W (.returned (.tuple #[.agg #[.slice av L.length cv], .int .i64 n, (.slice (some ⟨g, 0, none⟩) M.length d)])) ((w9.setCell ⟨g, 0, none⟩ (.int .i64 y)).setCell ⟨W.heap.size, 0, none⟩ (.slice av L.length cv))) := Lib.hid ⟨L, av, cv, n, (M.set 0 y), (.slice (some ⟨g, 0, none⟩) M.length d), hl13, HI.out, hn, by rw [hms]; first | omega | (simp; done), HMI, rfl, hs9.grownN (grownBy_setCell (w9.setCell ⟨g, 0, none⟩ (.int .i64 y)) W.heap.size 0 _) (fun p hp => by have := hfV p hp; omega), fun p hp => Nat.le_of_lt (hfV p hp), owns_wider (ownsRow_setCell_below ho10 (a := ⟨W.heap.size, 0, none⟩) (by show W.heap.size < _; omega) _) (by omega), (hbWV.trans (hb9.mono hbWV.size)).setCell (Nat.le_refl _) _⟩
        clear hs9 hr9 hbx9 HMI
        go_wp2_with fail
        exact bodyPost_ret (v := .tuple #[.agg #[.slice av L.length cv], .int .i64 n, (.slice (some ⟨g, 0, none⟩) M.length d)]) (by simp [results, Tryd.results31, go_sem, hcf]) rfl HF.out
    · have HMI := hMI
      have hb9 := hd8.bel
      clear hd8 hMI hi hz0 hz1 hz2
      have hs9 := hsV.below hb9
      have hr9 := hRV.below hb9
      have hbx9 := hBV.below hb9
      have hcr : (w8).cell? ⟨W.heap.size, 0, none⟩ = some (.slice none 0 0) := hr9.cell 0
      have hfr := hr9.frozen 0
      have hbb : (w8).cell? ⟨w1.heap.size, 0, none⟩ = some (.slice av L.length cv) := hbx9.cell 0
      have hcf := World.cell?_setCell_same (w8) ⟨W.heap.size, 0, none⟩ (.slice av L.length cv) hcr
      have HF : Hid (DSgil W (.returned (.tuple #[.agg #[.slice av L.length cv], .int .i64 n, (.slice u M.length d)])) ((w8).setCell ⟨W.heap.size, 0, none⟩ (.slice av L.length cv))) := Lib.hid ⟨L, av, cv, n, M, (.slice u M.length d), hl13, HI.out, hn, by first | omega | (simp; done) | (simp; omega), HMI, rfl, hs9.grownN (grownBy_setCell (w8) W.heap.size 0 _) (fun p hp => by have := hfV p hp; omega), fun p hp => Nat.le_of_lt (hfV p hp), owns_wider (ownsRow_setCell_below ho8 (a := ⟨W.heap.size, 0, none⟩) (by show W.heap.size < _; omega) _) (by omega), (hbWV.trans (hb9.mono hbWV.size)).setCell (Nat.le_refl _) _⟩
      clear hs9 hr9 hbx9 HMI
      go_wp2_with fail
      exact bodyPost_ret (v := .tuple #[.agg #[.slice av L.length cv], .int .i64 n, (.slice u M.length d)]) (by simp [results, Tryd.results31, go_sem, hcf]) rfl HF.out

set_option maxRecDepth 100000 in
set_option maxHeartbeats 1600000 in
theorem DrawIsFactorization_any (W : World) (a : Option Addr) (len cap : Nat) (zs : List Int) (hr : IsRow .u8 W a len cap zs) (hl : len ≤ 1048576) :
    Calls Tryd.prog 8 #[.slice a len cap] W (DSgil W) := by
  have hb0 := box_below W (.cells #[.slice none 0 0] 26)
  have hA0 := Arr.new W 26 [.slice none 0 0]
  have c1 := l11List_any (W.alloc (.cells #[.slice none 0 0] 26)) a len cap zs (hr.below hb0) hl
  have hsz : W.heap.size < (W.alloc (.cells #[.slice none 0 0] 26)).heap.size := hA0.lt
  clear hr
  go_enter Tryd.func8, Tryd.ntmps8
  go_wp2_with fail
  refine c1.mono ?_
  rintro e w1 ⟨L, av, cv, n, M, mv, hl13, hI, hn, hm13, hMI, rfl, hs, hf, ho, hb1⟩
  have hA1 := hA0.below hb1
  have hbz := hb0.trans (hb1.mono (Nat.le_of_lt hsz))
  have hb2 := box_below w1 (.cells #[.slice av L.length cv] 26)
  have hs2 := (hs.below hb2).grownN (grownBy_setCell (w1.alloc (.cells #[.slice av L.length cv] 26)) W.heap.size 0 (.slice av L.length cv)) (fun p hp => by have := hf p hp; omega)
  have hA2 := hA1.alloc (.cells #[.slice av L.length cv] 26)
  have ho2 := owns_below ho hb2
  have hcr : (w1.alloc (.cells #[.slice av L.length cv] 26)).cell? ⟨W.heap.size, 0, none⟩ = some (.slice none 0 0) := hA2.cell 0
  have hfr := hA2.frozen 0
  have hcf := World.cell?_setCell_same (w1.alloc (.cells #[.slice av L.length cv] 26)) ⟨W.heap.size, 0, none⟩ (.slice av L.length cv) hcr
  have HF : Hid (DSgil W (.returned (.tuple #[.agg #[.slice av L.length cv], .int .i64 n, mv])) ((w1.alloc (.cells #[.slice av L.length cv] 26)).setCell ⟨W.heap.size, 0, none⟩ (.slice av L.length cv))) := Lib.hid ⟨L, av, cv, n, M, mv, hl13, hI, hn, hm13, hMI, rfl, hs2, fun p hp => by have := hf p hp; omega, owns_wider (ownsRow_setCell_below ho2 (a := ⟨W.heap.size, 0, none⟩) hsz _) (Nat.le_of_lt hsz), (hbz.trans (hb2.mono hbz.size)).setCell (Nat.le_refl _) _⟩
  clear hs hs2 hf hb1 hb0 hbz hb2 hA0 hA1 hA2 hI hn c1 ho ho2 hMI
  go_wp2_with fail
  exact bodyPost_ret (v := .tuple #[.agg #[.slice av L.length cv], .int .i64 n, mv]) (by simp [results, Tryd.results8, go_sem, hcf]) rfl HF.out

set_option maxRecDepth 100000 in
set_option maxHeartbeats 1600000 in
theorem DrawValueOf_any (W : World) (a : Option Addr) (len cap : Nat) (zs : List Int) (hr : IsRow .u8 W a len cap zs) (hl : len ≤ 1048576) :
    Calls Tryd.prog 9 #[.slice a len cap] W (DSgl2 W) := by
  have hb0 := box_below W (.cells #[.slice none 0 0] 26)
  have hA0 := Arr.new W 26 [.slice none 0 0]
  have c1 := l11List_any (W.alloc (.cells #[.slice none 0 0] 26)) a len cap zs (hr.below hb0) hl
  have hsz : W.heap.size < (W.alloc (.cells #[.slice none 0 0] 26)).heap.size := hA0.lt
  clear hr
  go_enter Tryd.func9, Tryd.ntmps9
  go_wp2_with fail
  refine c1.mono ?_
  rintro e w1 ⟨L, av, cv, n, M, mv, hl13, hI, hn, hm13, hMI, rfl, hs, hf, ho, hb1⟩
  have hA1 := hA0.below hb1
  have hbz := hb0.trans (hb1.mono (Nat.le_of_lt hsz))
  have hb2 := box_below w1 (.cells #[.slice av L.length cv] 26)
  have hs2 := (hs.below hb2).grownN (grownBy_setCell (w1.alloc (.cells #[.slice av L.length cv] 26)) W.heap.size 0 (.slice av L.length cv)) (fun p hp => by have := hf p hp; omega)
  have hA2 := hA1.alloc (.cells #[.slice av L.length cv] 26)
  have ho2 := owns_below ho hb2
  have hcr : (w1.alloc (.cells #[.slice av L.length cv] 26)).cell? ⟨W.heap.size, 0, none⟩ = some (.slice none 0 0) := hA2.cell 0
  have hfr := hA2.frozen 0
  have hcf := World.cell?_setCell_same (w1.alloc (.cells #[.slice av L.length cv] 26)) ⟨W.heap.size, 0, none⟩ (.slice av L.length cv) hcr
  have HF : Hid (DSgl2 W (.returned (.tuple #[.agg #[.slice av L.length cv], mv])) ((w1.alloc (.cells #[.slice av L.length cv] 26)).setCell ⟨W.heap.size, 0, none⟩ (.slice av L.length cv))) := Lib.hid ⟨L, av, cv, M, mv, hl13, hI, hm13, hMI, rfl, hs2, owns_wider (ownsRow_setCell_below ho2 (a := ⟨W.heap.size, 0, none⟩) hsz _) (Nat.le_of_lt hsz), (hbz.trans (hb2.mono hbz.size)).setCell (Nat.le_refl _) _⟩
  clear hs hs2 hf hb1 hb0 hbz hb2 hA0 hA1 hA2 hI hn c1 ho ho2 hMI
  go_wp2_with fail
  exact bodyPost_ret (v := .tuple #[.agg #[.slice av L.length cv], mv]) (by simp [results, Tryd.results9, go_sem, hcf]) rfl HF.out
end Go.Proofs.YtlinlmmcgifloaaDoor
