/-
  CONTRACTS of the program's chapter 4, fourth part: GenusOf, ElementAt, IndexOfElement. (Own work.)
-/
import Derived.Test.YtdjjagpecbflnaaI17
namespace Go.Proofs.Ytdjjagpecbflnaa
open Go Go.RowKit
attribute [local go_sem] Oper.semAt_some

set_option maxRecDepth 100000 in
set_option maxHeartbeats 1600000 in
theorem impl_GenusOf (G : List Int) (a : Option Addr) (cap : Nat) (w : World) (hr : SlV w a (G.map (Value.int .i64))) (hb : G.length ≤ 1048576) :
    Calls Try.prog 26 #[.agg #[.slice a G.length cap]] w fun e w' => e = .returned (.int .i64 (genusN G)) ∧ Below w.heap.size w w' := by
  have hb0 := box_below w (.cells #[.slice a G.length cap] 26)
  have hc0 := box_cell w (.slice a G.length cap)
  have c1 := impl_elementsOf G a cap _ (hr.below hb0) hb
  have HT := fun f => Lib.hid (tabB_one f 260)
  clear hr
  go_enter Try.func26, Try.ntmps26
  cases hs : isSgB G
  · have HR := Lib.hid (show genusN G = -1 by unfold genusN; rw [hs]; rfl)
    unfold ElPost at c1
    rw [hs] at c1
    clear hs
    go_wp2_with fail
    refine c1.mono ?_
    rintro e w1 ⟨rfl, hb1⟩
    have hbz := hb0.trans (hb1.mono hb0.size)
    have hA := Arr.new w1 48 (tabB (fun _ => false) 260)
    have hbz2 := hbz.alloc (o := .cells (tabB (fun _ => false) 260).toArray 48) hbz.size
    have hzw := hb1.size
    rw [World.size_alloc] at hzw
    clear c1 hc0 hb1 hb0
    go_wp2_with (first
      | (refine wpList_alloc_arr 48 (tabB (fun _ => false) 260) zeroT rfl rfl ?_)
      | (refine wpList_store_arr 48 (.tmp 3) (.tmp 8) w1.heap.size (tabB (fun _ => false) 260) (tabB (elF G) 260) rfl rfl rfl rfl hA (by rw [tabB_length, tabB_length]) (sizeTl _) (HT _).out ?_; intro w3 hB hg3 hz3))
    have hb3 := hbz2.grown hg3 hbz2.size (fun k hk => by cases hk; exact hbz.size)
    go_ret
    exact ⟨by rw [HR.out]; rfl, hb3⟩
  · have cg : ∀ w, Calls Try.prog 47 #[.agg (tabB (elF G) 260).toArray, .int .i64 200] w fun e w' => e = .returned (.int .i64 (genusN G)) ∧ Below w.heap.size w w' := fun w => by
      have h := impl_gapsBelow (elF G) 200 w
      rw [show (gapsB (elF G) 200).filter (fun x => decide (x < 200)) = gapsL G from (gapsB_below (elF G) (Nat.le_refl 200)).trans (gaps_el200 hs)] at h
      rw [show genusN G = ((gapsL G).length : Int) by unfold genusN; rw [if_pos hs]]
      exact h
    unfold ElPost at c1
    rw [hs] at c1
    clear hs
    go_wp2_with fail
    refine c1.mono ?_
    rintro e w1 ⟨rfl, hb1⟩
    have hbz := hb0.trans (hb1.mono hb0.size)
    have hA := Arr.new w1 48 (tabB (fun _ => false) 260)
    have hbz2 := hbz.alloc (o := .cells (tabB (fun _ => false) 260).toArray 48) hbz.size
    have hzw := hb1.size
    rw [World.size_alloc] at hzw
    clear c1 hc0 hb1 hb0
    go_wp2_with (first
      | (refine wpList_alloc_arr 48 (tabB (fun _ => false) 260) zeroT rfl rfl ?_)
      | (refine wpList_store_arr 48 (.tmp 3) (.tmp 8) w1.heap.size (tabB (fun _ => false) 260) (tabB (elF G) 260) rfl rfl rfl rfl hA (by rw [tabB_length, tabB_length]) (sizeTl _) (HT _).out ?_; intro w3 hB hg3 hz3)
      | (refine wpList_load_arr 48 (.tmp 3) w1.heap.size (tabB (elF G) 260) (.array 260 4) rfl rfl rfl hB undT rfl (sizeTl _) ?_))
    have hb3 := hbz2.grown hg3 hbz2.size (fun k hk => by cases hk; exact hbz.size)
    refine (cg _).mono ?_
    rintro e w4 ⟨rfl, hb4⟩
    go_wp2_with fail
    go_ret
    exact ⟨rfl, hb3.trans (hb4.mono hb3.size)⟩
set_option maxRecDepth 100000 in
set_option maxHeartbeats 1600000 in
theorem impl_IndexOfElement (G : List Int) (n : Int) (a : Option Addr) (cap : Nat) (w : World) (hr : SlV w a (G.map (Value.int .i64))) (hb : G.length ≤ 1048576) (_ : -9223372036854775808 ≤ n) (_ : n ≤ 9223372036854775807) :
    Calls Try.prog 18 #[.agg #[.slice a G.length cap], .int .i64 n] w fun e w' => e = .returned (.int .i64 (indexN G n)) ∧ Below w.heap.size w w' := by
  have hb0 := box_below w (.cells #[.slice a G.length cap] 26)
  have hc0 := box_cell w (.slice a G.length cap)
  have c1 := impl_elementsOf G a cap _ (hr.below hb0) hb
  have HT := fun f => Lib.hid (tabB_one f 260)
  clear hr
  go_enter Try.func18, Try.ntmps18
  cases hs : isSgB G
  · have HR := Lib.hid (show indexN G n = -1 by unfold indexN; rw [hasN_not hs]; rfl)
    unfold ElPost at c1
    rw [hs] at c1
    clear hs
    go_wp2_with fail
    refine c1.mono ?_
    rintro e w1 ⟨rfl, hb1⟩
    have hbz := hb0.trans (hb1.mono hb0.size)
    have hA := Arr.new w1 48 (tabB (fun _ => false) 260)
    have hbz2 := hbz.alloc (o := .cells (tabB (fun _ => false) 260).toArray 48) hbz.size
    have hzw := hb1.size
    rw [World.size_alloc] at hzw
    clear c1 hc0 hb1 hb0
    go_wp2_with (first
      | (refine wpList_alloc_arr 48 (tabB (fun _ => false) 260) zeroT rfl rfl ?_)
      | (refine wpList_store_arr 48 (.tmp 5) (.tmp 10) w1.heap.size (tabB (fun _ => false) 260) (tabB (elF G) 260) rfl rfl rfl rfl hA (by rw [tabB_length, tabB_length]) (sizeTl _) (HT _).out ?_; intro w3 hB hg3 hz3))
    have hb3 := hbz2.grown hg3 hbz2.size (fun k hk => by cases hk; exact hbz.size)
    go_ret
    exact ⟨by rw [HR.out]; rfl, hb3⟩
  · by_cases h2 : 200 < n
    · have HR := Lib.hid (show indexN G n = -1 by unfold indexN; rw [decide_eq_false (by omega : ¬ n ≤ 200), Bool.and_false]; rfl)
      unfold ElPost at c1
      rw [hs] at c1
      clear hs
      go_wp2_with fail
      refine c1.mono ?_
      rintro e w1 ⟨rfl, hb1⟩
      have hbz := hb0.trans (hb1.mono hb0.size)
      have hA := Arr.new w1 48 (tabB (fun _ => false) 260)
      have hbz2 := hbz.alloc (o := .cells (tabB (fun _ => false) 260).toArray 48) hbz.size
      have hzw := hb1.size
      rw [World.size_alloc] at hzw
      clear c1 hc0 hb1 hb0
      go_wp2_with (first
        | (refine wpList_alloc_arr 48 (tabB (fun _ => false) 260) zeroT rfl rfl ?_)
        | (refine wpList_store_arr 48 (.tmp 5) (.tmp 10) w1.heap.size (tabB (fun _ => false) 260) (tabB (elF G) 260) rfl rfl rfl rfl hA (by rw [tabB_length, tabB_length]) (sizeTl _) (HT _).out ?_; intro w3 hB hg3 hz3)
        | (refine wpList_load_arr 48 (.tmp 5) w1.heap.size (tabB (elF G) 260) (.array 260 4) rfl rfl rfl hB undT rfl (sizeTl _) ?_))
      have hb3 := hbz2.grown hg3 hbz2.size (fun k hk => by cases hk; exact hbz.size)
      go_ret
      exact ⟨by rw [HR.out]; rfl, hb3⟩
    · have hn2 : n ≤ 200 := by omega
      have ch := fun w => impl_has (elF G) n (hasN G n) w (hasN_way G n hs)
      have HX : Hid (hasN G n = true → 0 ≤ n ∧ 0 ≤ n - (((gapsB (elF G) 200).filter (fun x => decide (x < n))).length : Int) ∧ n - (((gapsB (elF G) 200).filter (fun x => decide (x < n))).length : Int) ≤ 200 ∧ indexN G n = n - (((gapsB (elF G) 200).filter (fun x => decide (x < n))).length : Int)) := Lib.hid fun hh => by
        have hn0 : 0 ≤ n := by
          rcases Int.lt_or_le n 0 with h | h
          · rw [hasN_neg h] at hh; cases hh
          · exact h
        obtain ⟨N, rfl⟩ := Int.eq_ofNat_of_zero_le hn0
        have e1 : (gapsB (elF G) 200).filter (fun x => decide (x < (N : Int))) = gapsB (elF G) N := gapsB_below (elF G) (by omega)
        have e2 := upB_not_add (sumB G) N
        have e3 : (gapsB (elF G) N).length = (upB (fun m => !sumB G m) N).length := by rw [gaps_el hs, List.length_map]
        have e4 : indexN G (N : Int) = ((upB (sumB G) N).length : Int) := by unfold indexN; rw [hh, decide_eq_true hn2, Bool.and_self, if_pos rfl, Int.toNat_natCast]
        rw [e1, e3, e4]
        omega
      have HN : Hid (hasN G n = false → indexN G n = -1) := Lib.hid fun hh => by unfold indexN; rw [hh]; rfl
      generalize hasN G n = q at *
      have hd2 : decide (200 < n) = false := decide_eq_false (by omega)
      unfold ElPost at c1
      rw [hs] at c1
      clear hs
      go_wp2_with fail
      refine c1.mono ?_
      rintro e w1 ⟨rfl, hb1⟩
      have hbz := hb0.trans (hb1.mono hb0.size)
      have hA := Arr.new w1 48 (tabB (fun _ => false) 260)
      have hbz2 := hbz.alloc (o := .cells (tabB (fun _ => false) 260).toArray 48) hbz.size
      have hzw := hb1.size
      rw [World.size_alloc] at hzw
      clear c1 hc0 hb1 hb0
      go_wp2_with (first
        | (refine wpList_alloc_arr 48 (tabB (fun _ => false) 260) zeroT rfl rfl ?_)
        | (refine wpList_store_arr 48 (.tmp 5) (.tmp 10) w1.heap.size (tabB (fun _ => false) 260) (tabB (elF G) 260) rfl rfl rfl rfl hA (by rw [tabB_length, tabB_length]) (sizeTl _) (HT _).out ?_; intro w3 hB hg3 hz3))
      have hb3 := hbz2.grown hg3 hbz2.size (fun k hk => by cases hk; exact hbz.size)
      refine wp_load_mid 48 (.tmp 5) rfl w1.heap.size 0 rfl (tabB (elF G) 260) (.array 260 4) hB.range undT rfl (sizeTl _) ?_
      go_wp2_with fail
      refine (ch _).mono ?_
      rintro e w4 ⟨rfl, hb4⟩
      have hB4 := hB.below hb4
      have hbz4 := hb3.trans (hb4.mono hb3.size)
      cases q
      · go_wp2_with fail
        go_ret
        exact ⟨by rw [HN.out (by simp)]; rfl, hbz4⟩
      · have cg := fun w => impl_gapsBelow (elF G) n w
        obtain ⟨hq0, hq1, hq2, hq3⟩ := HX.out (by simp)
        have HR := Lib.hid hq3
        clear hq3
        generalize (((gapsB (elF G) 200).filter (fun x => decide (x < n))).length : Int) = m at *
        have hw1 : IntKind.i64.wrap (n - m) = n - m := IntWalk.i64_in _ (by omega)
        go_wp2_with (first
          | (refine wpList_load_arr 48 (.tmp 5) w1.heap.size (tabB (elF G) 260) (.array 260 4) rfl rfl rfl hB4 undT rfl (sizeTl _) ?_))
        refine (cg _).mono ?_
        rintro e w5 ⟨rfl, hb5⟩
        go_wp2_with fail
        go_ret
        exact ⟨by rw [HR.out]; rfl, hbz4.trans (hb5.mono hbz4.size)⟩
set_option maxRecDepth 100000 in
set_option maxHeartbeats 1600000 in
theorem impl_ElementAt (G : List Int) (n : Int) (a : Option Addr) (cap : Nat) (w : World) (hr : SlV w a (G.map (Value.int .i64))) (hb : G.length ≤ 1048576) (_ : -9223372036854775808 ≤ n) (_ : n ≤ 9223372036854775807) :
    Calls Try.prog 16 #[.agg #[.slice a G.length cap], .int .i64 n] w fun e w' => e = .returned (.int .i64 (elemN G n)) ∧ Below w.heap.size w w' := by
  have hb0 := box_below w (.cells #[.slice a G.length cap] 26)
  have hc0 := box_cell w (.slice a G.length cap)
  have c1 := impl_elementsOf G a cap _ (hr.below hb0) hb
  have HT := fun f => Lib.hid (tabB_one f 260)
  clear hr
  refine (callsIn_wide (n := 3)).1 (callsIn_of_wp_marks Try.func16 rfl trivial (wpIn_wide.2 ?_) rfl)
  simp only [Try.ntmps16, List.size_toArray, List.length_cons, List.length_nil, Nat.reduceAdd, Nat.reduceSub, Array.replicate_succ, Array.replicate_zero, List.push_toArray, List.append_toArray, List.nil_append, List.cons_append]
  cases hs : isSgB G
  · have HR := Lib.hid (show elemN G n = -1 by unfold elemN; rw [hs]; rfl)
    unfold ElPost at c1
    rw [hs] at c1
    clear hs
    go_wp2_with fail
    refine c1.mono ?_
    rintro e w1 ⟨rfl, hb1⟩
    have hbz := hb0.trans (hb1.mono hb0.size)
    have hA := Arr.new w1 48 (tabB (fun _ => false) 260)
    have hbz2 := hbz.alloc (o := .cells (tabB (fun _ => false) 260).toArray 48) hbz.size
    have hzw := hb1.size
    rw [World.size_alloc] at hzw
    clear c1 hc0 hb1 hb0
    go_wp2_with (first
      | (refine wpList_alloc_arr 48 (tabB (fun _ => false) 260) zeroT rfl rfl ?_)
      | (refine wpList_store_arr 48 (.tmp 5) (.tmp 12) w1.heap.size (tabB (fun _ => false) 260) (tabB (elF G) 260) rfl rfl rfl rfl hA (by rw [tabB_length, tabB_length]) (sizeTl _) (HT _).out ?_; intro w3 hB hg3 hz3))
    have hb3 := hbz2.grown hg3 hbz2.size (fun k hk => by cases hk; exact hbz.size)
    exact ⟨_, results_tmp rfl _ _ _, by rw [HR.out]; rfl, hb3⟩
  · by_cases h0 : n < 0
    · have HR := Lib.hid (show elemN G n = -1 by unfold elemN; rw [decide_eq_false (by omega : ¬ 0 ≤ n)]; simp)
      unfold ElPost at c1
      rw [hs] at c1
      clear hs
      go_wp2_with fail
      refine c1.mono ?_
      rintro e w1 ⟨rfl, hb1⟩
      have hbz := hb0.trans (hb1.mono hb0.size)
      have hA := Arr.new w1 48 (tabB (fun _ => false) 260)
      have hbz2 := hbz.alloc (o := .cells (tabB (fun _ => false) 260).toArray 48) hbz.size
      have hzw := hb1.size
      rw [World.size_alloc] at hzw
      clear c1 hc0 hb1 hb0
      go_wp2_with (first
        | (refine wpList_alloc_arr 48 (tabB (fun _ => false) 260) zeroT rfl rfl ?_)
        | (refine wpList_store_arr 48 (.tmp 5) (.tmp 12) w1.heap.size (tabB (fun _ => false) 260) (tabB (elF G) 260) rfl rfl rfl rfl hA (by rw [tabB_length, tabB_length]) (sizeTl _) (HT _).out ?_; intro w3 hB hg3 hz3)
        | (refine wpList_load_arr 48 (.tmp 5) w1.heap.size (tabB (elF G) 260) (.array 260 4) rfl rfl rfl hB undT rfl (sizeTl _) ?_))
      have hb3 := hbz2.grown hg3 hbz2.size (fun k hk => by cases hk; exact hbz.size)
      exact ⟨_, results_tmp rfl _ _ _, by rw [HR.out]; rfl, hb3⟩
    by_cases h2 : 200 < n
    · have HR := Lib.hid (show elemN G n = -1 by unfold elemN; rw [decide_eq_false (by omega : ¬ n ≤ 200)]; simp)
      unfold ElPost at c1
      rw [hs] at c1
      clear hs
      go_wp2_with fail
      refine c1.mono ?_
      rintro e w1 ⟨rfl, hb1⟩
      have hbz := hb0.trans (hb1.mono hb0.size)
      have hA := Arr.new w1 48 (tabB (fun _ => false) 260)
      have hbz2 := hbz.alloc (o := .cells (tabB (fun _ => false) 260).toArray 48) hbz.size
      have hzw := hb1.size
      rw [World.size_alloc] at hzw
      clear c1 hc0 hb1 hb0
      go_wp2_with (first
        | (refine wpList_alloc_arr 48 (tabB (fun _ => false) 260) zeroT rfl rfl ?_)
        | (refine wpList_store_arr 48 (.tmp 5) (.tmp 12) w1.heap.size (tabB (fun _ => false) 260) (tabB (elF G) 260) rfl rfl rfl rfl hA (by rw [tabB_length, tabB_length]) (sizeTl _) (HT _).out ?_; intro w3 hB hg3 hz3)
        | (refine wpList_load_arr 48 (.tmp 5) w1.heap.size (tabB (elF G) 260) (.array 260 4) rfl rfl rfl hB undT rfl (sizeTl _) ?_))
      have hb3 := hbz2.grown hg3 hbz2.size (fun k hk => by cases hk; exact hbz.size)
      exact ⟨_, results_tmp rfl _ _ _, by rw [HR.out]; rfl, hb3⟩
    obtain ⟨K, rfl⟩ : ∃ K : Nat, n = (K : Int) := ⟨n.toNat, by omega⟩
    have HG := Lib.hid (gaps_el200 hs)
    have hlenL : (gapsL G).length ≤ 200 := by rw [← HG.out]; exact gapsB_len_le _ _
    have HE : Hid (∀ q : List Int, (∀ y ∈ q, y < (K : Int) + (q.length : Int)) → (q = gapsL G ∨ ∃ x, q ++ [x] <+: gapsL G ∧ (K : Int) + (q.length : Int) < x) → elemN G (K : Int) = (K : Int) + (q.length : Int)) := Lib.hid fun q hl hq => by
      have hE := elF_at hs
      rw [← gaps_el200 hs, hE] at hq
      obtain ⟨e1, e2⟩ := elem_stop (p := sumB G) (fun m hm => sg_from hs m (Nat.le_trans (condNat_le G) hm)) hl hq
      have e3 := nthB_count (sg_from hs) e1
      rw [e2] at e3
      unfold elemN
      rw [hs, decide_eq_true (by omega : (0 : Int) ≤ (K : Int)), decide_eq_true (by omega : (K : Int) ≤ 200), Bool.and_self, Bool.and_self, if_pos rfl, Int.toNat_natCast, e3, Int.natCast_add]
    have h2' : (K : Int) ≤ 200 := by omega
    unfold ElPost at c1
    rw [hs] at c1
    clear hs
    go_wp2_with fail
    refine c1.mono ?_
    rintro e w1 ⟨rfl, hb1⟩
    have hbz := hb0.trans (hb1.mono hb0.size)
    have hA := Arr.new w1 48 (tabB (fun _ => false) 260)
    have hbz2 := hbz.alloc (o := .cells (tabB (fun _ => false) 260).toArray 48) hbz.size
    have hzw := hb1.size
    rw [World.size_alloc] at hzw
    clear c1 hc0 hb1 hb0
    go_wp2_with (first
      | (refine wpList_alloc_arr 48 (tabB (fun _ => false) 260) zeroT rfl rfl ?_)
      | (refine wpList_store_arr 48 (.tmp 5) (.tmp 12) w1.heap.size (tabB (fun _ => false) 260) (tabB (elF G) 260) rfl rfl rfl rfl hA (by rw [tabB_length, tabB_length]) (sizeTl _) (HT _).out ?_; intro w3 hB hg3 hz3)
      | (refine wpList_load_arr 48 (.tmp 5) w1.heap.size (tabB (elF G) 260) (.array 260 4) rfl rfl rfl (hB.alloc _) undT rfl (sizeTl _) ?_))
    have hb3 := hbz2.grown hg3 hbz2.size (fun k hk => by cases hk; exact hbz.size)
    have hz4 : w3.heap.size = w1.heap.size + 1 := by rw [hz3]; simp
    have bC := Boxed.new w3 3 (.int .i64 (K : Int))
    rw [hz4] at bC
    have hb4 := hb3.alloc (o := .cells #[.int .i64 (K : Int)] 3) hb3.size
    generalize hW4 : w3.alloc (.cells #[.int .i64 (K : Int)] 3) = W4 at bC hb4 ⊢
    have hzz : W4.heap.size = w1.heap.size + 2 := by rw [← hW4]; simp [hz4]
    have hit := impl_gaps (elF G)
    rw [HG.out] at hit
    have hsw := hbz.size
    clear hW4 hB hg3 hz3 hA hbz2 hb3 hbz hz4
    refine wp_range_method 43 (.agg (tabB (elF G) 260).toArray) (gapsL G) 0 rfl (enters_of Try.func43 (by kernel_rfl) rfl) hit
      (fun pre W => Boxed W (w1.heap.size + 1) 3 (.int .i64 ((K : Int) + (pre.length : Int))) ∧ (∀ y ∈ pre, y < (K : Int) + (pre.length : Int)) ∧ Below w.heap.size w W)
      (fun pre W => ∃ q x, pre = q ++ [x] ∧ (∀ y ∈ q, y < (K : Int) + (q.length : Int)) ∧ (K : Int) + (q.length : Int) < x ∧ Boxed W (w1.heap.size + 1) 3 (.int .i64 ((K : Int) + (q.length : Int))) ∧ Below w.heap.size w W)
      (fun pre A B row ⟨h1, h3, h2⟩ hg hr => ⟨own_boxed h1 hg hr, h3, own_below h2 hg hr (Nat.le_refl _) (by omega)⟩)
      (fun pre A B row ⟨q, x, h1, h2, h3, h4, h5⟩ hg hr => ⟨q, x, h1, h2, h3, own_boxed h4 hg hr, own_below h5 hg hr (Nat.le_refl _) (by omega)⟩)
      ⟨by simpa using bC, by simp, hb4⟩
      ?a1 ?assign ?body ?done ?stop
    case assign =>
      intro l x W K hK
      gi_wp2
      exact hK
    case body =>
      rintro l pre x W hsz ⟨bC, hlt, hB⟩ hp
      have cC := bC.cell
      have fC := bC.frozen
      have hlen : pre.length < 200 := by
        have h1 := hp.length_le
        simp at h1; omega
      have hsz' : w1.heap.size + 2 + 2 < W.heap.size := by omega
      by_cases hx : (K : Int) + (pre.length : Int) < x
      · gi_wp2
        exact ⟨rfl, Lies3.refl _ _, pre, x, rfl, hlt, hx, bC, hB⟩
      · have hw1 : IntKind.i64.wrap ((K : Int) + (pre.length : Int) + 1) = (K : Int) + (pre.length : Int) + 1 := IntWalk.i64_in _ (by omega)
        gi_wp2
        refine ⟨Lies3.grown (grownBy_setCell' W _ _) (fun r e => by cases e; left; omega), ?_, fun y hy => ?_, hB.setCell (p := ⟨w1.heap.size + 1, 0, none⟩) (by show w.heap.size ≤ w1.heap.size + 1; omega) _⟩
        · rw [List.length_append, List.length_singleton, Int.natCast_add, Int.natCast_one, ← Int.add_assoc]
          exact bC.set _
        · rw [List.length_append, List.length_singleton]
          rw [List.mem_append, List.mem_singleton] at hy
          rcases hy with h | rfl
          · have := hlt y h; omega
          · omega
    case done =>
      rintro W ⟨bC, hlt, hB⟩ hK
      have cC := bC.cell
      have HR := Lib.hid (HE.out _ hlt (.inl rfl))
      rw [hzz] at hK
      go_wp2_with fail
      refine leave_mark hK ?_
      exact ⟨_, results_tmp rfl _ _ _, by rw [HR.out]; rfl, below_mark hB (by omega)⟩
    case stop =>
      rintro pre W hp ⟨q, x, rfl, hlt, hx, bC, hB⟩ hK
      have cC := bC.cell
      have HR := Lib.hid (HE.out _ hlt (.inr ⟨x, hp, hx⟩))
      rw [hzz] at hK
      go_wp2_with fail
      refine leave_mark hK ?_
      exact ⟨_, results_tmp rfl _ _ _, by rw [HR.out]; rfl, below_mark hB (by omega)⟩
end Go.Proofs.Ytdjjagpecbflnaa
