/-
  CONTRACTS of the program's chapters 17 and 18: isDivisor, ScaledElements, IsWithin. (Own work: mkI58.py.)
-/
import Derived.Test.YtljfiiohiolbnaaI51
import Derived.Test.YtljfiiohiolbnaaSgId
import Derived.Test.YtljfiiohiolbnaaCh4I
import Derived.Test.YtljfiiohiolbnaaHta
namespace Go.Proofs.Ytljfiiohiolbnaa
open Go Go.RowKit
attribute [local go_sem] Oper.semAt_some

theorem ne_apart2 {b : Option Nat} {t : Nat} (h : b = none ∨ b ≠ some t) : some t ≠ b := by
  rcases h with h | h
  · rw [h]; simp
  · exact Ne.symm h
set_option maxRecDepth 100000 in
set_option maxHeartbeats 400000 in
theorem impl_isDivisor (d : Int) (w : World) : Calls Try.prog 43 #[.int .i64 d] w fun e w' => e = .returned (.bool (inB d 1 20)) ∧ w' = w := by
  by_cases h0 : 1 ≤ d
  · have hd := decide_eq_true h0
    by_cases h1 : d ≤ 20
    · have hd2 := decide_eq_true h1
      have HR : Hid (inB d 1 20 = true) := Lib.hid (by unfold inB; rw [Bool.and_eq_true, decide_eq_true_eq, decide_eq_true_eq]; omega)
      go_enter Try.func43, Try.ntmps43
      go_wp2_with fail
      go_ret
      exact ⟨by rw [HR.out]; rfl, rfl⟩
    · have hd2 := decide_eq_false h1
      have HR : Hid (inB d 1 20 = false) := Lib.hid (by unfold inB; rw [hd2, Bool.and_false])
      go_enter Try.func43, Try.ntmps43
      go_wp2_with fail
      go_ret
      exact ⟨by rw [HR.out]; rfl, rfl⟩
  · have hd := decide_eq_false h0
    have HR : Hid (inB d 1 20 = false) := Lib.hid (by unfold inB; rw [hd]; rfl)
    go_enter Try.func43, Try.ntmps43
    go_wp2_with fail
    go_ret
    exact ⟨by rw [HR.out]; rfl, rfl⟩

set_option maxRecDepth 100000 in
set_option maxHeartbeats 1600000 in
theorem impl_ScaledElements (G : List Int) (d x : Int) (a : Option Addr) (cap : Nat) (w : World) (hr : SlV w a (G.map (Value.int .i64))) (hb : G.length ≤ 1048576) :
    Calls Try.prog 17 #[.agg #[.slice a G.length cap], .int .i64 d, .int .i64 x] w (SlPost (scaledL G d x) w) := by
  obtain ⟨i0, hi, hz0, hz1, hz2⟩ := info_parts infoIntL
  have cd := fun w => impl_isDivisor d w
  obtain ⟨V, hV⟩ : ∃ V, V = w.alloc (.cells #[.slice a G.length cap] 26) := ⟨_, rfl⟩
  have hbV : Below w.heap.size w V := by rw [hV]; exact box_below _ _
  have hc0 : V.cell? ⟨w.heap.size, 0, none⟩ = some (.slice a G.length cap) := by rw [hV]; exact box_cell w _
  have hVs : w.heap.size < V.heap.size := by rw [hV]; simp
  have HV := Lib.hid hV
  have HKV : Hid (∀ w2, Below V.heap.size V w2 → w2.cell? ⟨w.heap.size, 0, none⟩ = some (.slice a G.length cap)) := Lib.hid fun w2 h => (h.cell (p := ⟨w.heap.size, 0, none⟩) hVs).trans hc0
  clear hV
  have c1 := impl_elementsOf G a cap V (hr.below hbV) hb
  have HT := fun f => Lib.hid (tabB_one f 260)
  unfold ElPost at c1
  cases hs : isSgB G
  · have HE : Hid (scaledL G d x = []) := Lib.hid (by unfold scaledL; rw [hs]; rfl)
    rw [hs] at c1
    clear hs hr hi hz0 hz1 hz2 cd
    go_enter Try.func17, Try.ntmps17
    go_wp2_with fail
    rw [← HV.out]
    refine c1.mono ?_
    rintro e w1 ⟨rfl, hb1⟩
    have hA := Arr.new w1 54 (tabB (fun _ => false) 260)
    have hbA := hb1.alloc (o := .cells (tabB (fun _ => false) 260).toArray 54) hb1.size
    clear c1
    go_wp2_with (first | (refine wpList_alloc_arr 54 (tabB (fun _ => false) 260) zeroT rfl rfl ?_) | (refine wpList_store_arr 54 (.tmp 7) (.tmp 14) w1.heap.size (tabB (fun _ => false) 260) (tabB (elF G) 260) rfl rfl rfl rfl hA (by rw [tabB_length, tabB_length]) (sizeTl _) (HT _).out ?_; intro w3 hB hg3 hz3; clear hz3; have hb3 := hbA.grown hg3 hbA.size (fun k hk => by cases hk; exact hb1.size); have hc3 := HKV.out _ hb3; clear hg3 hA hbA))
    go_ret
    exact ⟨_, rfl, by rw [HE.out]; exact World.ownsRow_nil _ _ _ _, hbV.trans (hb3.mono hbV.size)⟩
  · rw [hs] at c1
    cases hd : inB d 1 20
    · have HE : Hid (scaledL G d x = []) := Lib.hid (by unfold scaledL; rw [hs, hd]; rfl)
      rw [hd] at cd
      clear hs hd hr hi hz0 hz1 hz2
      go_enter Try.func17, Try.ntmps17
      go_wp2_with fail
      rw [← HV.out]
      refine c1.mono ?_
      rintro e w1 ⟨rfl, hb1⟩
      have hA := Arr.new w1 54 (tabB (fun _ => false) 260)
      have hbA := hb1.alloc (o := .cells (tabB (fun _ => false) 260).toArray 54) hb1.size
      clear c1
      go_wp2_with (first | (refine wpList_alloc_arr 54 (tabB (fun _ => false) 260) zeroT rfl rfl ?_) | (refine wpList_store_arr 54 (.tmp 7) (.tmp 14) w1.heap.size (tabB (fun _ => false) 260) (tabB (elF G) 260) rfl rfl rfl rfl hA (by rw [tabB_length, tabB_length]) (sizeTl _) (HT _).out ?_; intro w3 hB hg3 hz3; clear hz3; have hb3 := hbA.grown hg3 hbA.size (fun k hk => by cases hk; exact hb1.size); have hc3 := HKV.out _ hb3; clear hg3 hA hbA))
      refine (cd _).mono ?_
      rintro e w4 ⟨rfl, hww⟩
      rw [hww]
      clear hww
      go_wp2_with fail
      go_ret
      exact ⟨_, rfl, by rw [HE.out]; exact World.ownsRow_nil _ _ _ _, hbV.trans (hb3.mono hbV.size)⟩
    · rw [hd] at cd
      by_cases h0 : x < 0
      · have HE : Hid (scaledL G d x = []) := Lib.hid (by unfold scaledL; rw [show inB x 0 200 = false by unfold inB; rw [decide_eq_false (by omega : ¬ 0 ≤ x)]; simp]; simp)
        have hd0 := decide_eq_true h0
        clear hs hd h0 hr hi hz0 hz1 hz2
        go_enter Try.func17, Try.ntmps17
        go_wp2_with fail
        rw [← HV.out]
        refine c1.mono ?_
        rintro e w1 ⟨rfl, hb1⟩
        have hA := Arr.new w1 54 (tabB (fun _ => false) 260)
        have hbA := hb1.alloc (o := .cells (tabB (fun _ => false) 260).toArray 54) hb1.size
        clear c1
        go_wp2_with (first | (refine wpList_alloc_arr 54 (tabB (fun _ => false) 260) zeroT rfl rfl ?_) | (refine wpList_store_arr 54 (.tmp 7) (.tmp 14) w1.heap.size (tabB (fun _ => false) 260) (tabB (elF G) 260) rfl rfl rfl rfl hA (by rw [tabB_length, tabB_length]) (sizeTl _) (HT _).out ?_; intro w3 hB hg3 hz3; clear hz3; have hb3 := hbA.grown hg3 hbA.size (fun k hk => by cases hk; exact hb1.size); have hc3 := HKV.out _ hb3; clear hg3 hA hbA))
        refine (cd _).mono ?_
        rintro e w4 ⟨rfl, hww⟩
        rw [hww]
        clear hww
        go_wp2_with fail
        go_ret
        exact ⟨_, rfl, by rw [HE.out]; exact World.ownsRow_nil _ _ _ _, hbV.trans (hb3.mono hbV.size)⟩
      · have hd0 := decide_eq_false h0
        by_cases h1 : 200 < x
        · have HE : Hid (scaledL G d x = []) := Lib.hid (by unfold scaledL; rw [show inB x 0 200 = false by unfold inB; rw [decide_eq_false (by omega : ¬ x ≤ 200)]; simp]; simp)
          have hd1 := decide_eq_true h1
          clear hs hd h1 hr hi hz0 hz1 hz2
          go_enter Try.func17, Try.ntmps17
          go_wp2_with fail
          rw [← HV.out]
          refine c1.mono ?_
          rintro e w1 ⟨rfl, hb1⟩
          have hA := Arr.new w1 54 (tabB (fun _ => false) 260)
          have hbA := hb1.alloc (o := .cells (tabB (fun _ => false) 260).toArray 54) hb1.size
          clear c1
          go_wp2_with (first | (refine wpList_alloc_arr 54 (tabB (fun _ => false) 260) zeroT rfl rfl ?_) | (refine wpList_store_arr 54 (.tmp 7) (.tmp 14) w1.heap.size (tabB (fun _ => false) 260) (tabB (elF G) 260) rfl rfl rfl rfl hA (by rw [tabB_length, tabB_length]) (sizeTl _) (HT _).out ?_; intro w3 hB hg3 hz3; clear hz3; have hb3 := hbA.grown hg3 hbA.size (fun k hk => by cases hk; exact hb1.size); have hc3 := HKV.out _ hb3; clear hg3 hA hbA))
          refine (cd _).mono ?_
          rintro e w4 ⟨rfl, hww⟩
          rw [hww]
          clear hww
          go_wp2_with fail
          go_ret
          exact ⟨_, rfl, by rw [HE.out]; exact World.ownsRow_nil _ _ _ _, hbV.trans (hb3.mono hbV.size)⟩
        · have hd1 := decide_eq_false h1
          obtain ⟨q, rfl⟩ := Int.eq_ofNat_of_zero_le (by omega : 0 ≤ x)
          obtain ⟨hdl, hdh⟩ := inB_true hd
          have hq : q ≤ 200 := by omega
          have HE : Hid (scaledL G d (q : Int) = (upB (sumB G) (q + 1)).map fun (k : Nat) => (k : Int) * d) := Lib.hid (by unfold scaledL; rw [hs, hd, show inB (q : Int) 0 200 = true by unfold inB; rw [Bool.and_eq_true, decide_eq_true_eq, decide_eq_true_eq]; omega, Int.toNat_natCast]; rfl)
          have ch : ∀ (k : Nat) W, Calls Try.prog 44 #[.agg (tabB (elF G) 260).toArray, .int .i64 (k : Int)] W fun e w' => e = .returned (.bool (sumB G k)) ∧ Below W.heap.size W w' := fun k W => by
            have c := impl_has (elF G) (k : Int) _ W (hasN_way G (k : Int) hs)
            rw [hasN_in hs] at c
            exact c
          clear hs hd hr h0 h1
          go_enter Try.func17, Try.ntmps17
          go_wp2_with fail
          rw [← HV.out]
          refine c1.mono ?_
          rintro e w1 ⟨rfl, hb1⟩
          have hA := Arr.new w1 54 (tabB (fun _ => false) 260)
          have hbA := hb1.alloc (o := .cells (tabB (fun _ => false) 260).toArray 54) hb1.size
          clear c1
          go_wp2_with (first | (refine wpList_alloc_arr 54 (tabB (fun _ => false) 260) zeroT rfl rfl ?_) | (refine wpList_store_arr 54 (.tmp 7) (.tmp 14) w1.heap.size (tabB (fun _ => false) 260) (tabB (elF G) 260) rfl rfl rfl rfl hA (by rw [tabB_length, tabB_length]) (sizeTl _) (HT _).out ?_; intro w3 hB hg3 hz3; clear hz3; have hb3 := hbA.grown hg3 hbA.size (fun k hk => by cases hk; exact hb1.size); have hc3 := HKV.out _ hb3; clear hg3 hA hbA))
          refine (cd _).mono ?_
          rintro e w4 ⟨rfl, hww⟩
          rw [hww]
          clear hww
          go_wp2_with fail
          have hz13 := hB.lt
          have hzV := hb3.size
          go_loopw [9, 33] (fun v i wr => ∃ (k : Nat) (M : List Int), k ≤ q + 1 ∧ i = .int .i64 (k : Int) ∧ Hid (M = (upB (sumB G) k).map fun (k : Nat) => (k : Int) * d) ∧ M.length ≤ k ∧ wr.ownsRow w3.heap.size 3 1 v M.length (M.map (Value.int .i64)) ∧ Arr wr w1.heap.size 54 (tabB (elF G) 260) ∧ w3.heap.size ≤ wr.heap.size ∧ Below V.heap.size V wr) (fun _ i _ => q + 1 - (intOf i).toNat)
          case atStart => exact ⟨0, [], Nat.zero_le _, rfl, Lib.hid rfl, by simp, World.ownsRow_nil _ _ _ _, hB, Nat.le_refl _, hb3⟩
          case round =>
            clear hB hb3
            obtain ⟨k, M, hk, rfl, HMe, hMk, hown, hB, hsz, hbel⟩ := hrel
            by_cases hlt : k < q + 1
            · have c3 := ch k wr
              have hlti : (k : Int) < (q : Int) + 1 := by omega
              have hp0 : 0 ≤ (k : Int) * d := Int.mul_nonneg (by omega) (by omega)
              have hp1 : (k : Int) * d ≤ 200 * 20 := Int.mul_le_mul (by omega) (by omega) (by omega) (by omega)
              go_wp2_with (first | (refine wpList_load_arr 54 (.tmp 7) w1.heap.size (tabB (elF G) 260) (.array 260 4) rfl rfl rfl hB undT rfl (sizeTl _) ?_))
              refine c3.mono ?_
              rintro e w5 ⟨rfl, hb5⟩
              have hB5 := hB.below hb5
              have hown5 := owns_below hown hb5
              have hbel5 := hbel.trans (hb5.mono hbel.size)
              have hsz5 := Nat.le_trans hsz hb5.size
              have hne5 := own_ne hown5 (g := w1.heap.size) (.inl (by omega))
              clear c3 hb5 hB hown hbel hsz
              cases hp : sumB G k
              · have HMN : Hid (M = (upB (sumB G) (k + 1)).map fun (k : Nat) => (k : Int) * d) := Lib.hid (by rw [HMe.out, upB_succ, hp]; rfl)
                clear hp
                go_wp2_with fail
                go_roundw
                case rel => exact ⟨k + 1, M, by omega, by go_num, HMN, by omega, hown5, hB5, hsz5, hbel5⟩
                case measure => simp [intOf]; omega
              · have HMN : Hid (M ++ [(k : Int) * d] = (upB (sumB G) (k + 1)).map fun (k : Nat) => (k : Int) * d) := Lib.hid (by rw [HMe.out, upB_succ, hp, if_pos rfl, List.map_append]; rfl)
                clear hp
                go_wp2_with (first | (at_builtin; refine wpList_append_own _ rfl (.tmp 39) (.tmp 43) 24 rfl w3.heap.size 3 i0 (Value.int .i64 0) 1 8 Try.underlying24 hi hz0 hz1 hz2 rfl (by decide) _ _ _ rfl (hown5.alloc _) ⟨_, 0, none⟩ 1 1 [.int .i64 ((k : Int) * d)] rfl rfl (World.news_of_block (cs := #[.int .i64 ((k : Int) * d)]) (t := 3) (fr := (0, 0)) (heap_alloc_new _ _)) (by simp [Value.oneCell']) (by unfold maxLen; omega) (by omega) (by simp; omega) ?_; intro v6 w6 hown6 hg6 _))
                have hB6 := (hB5.alloc (.cells #[.int .i64 ((k : Int) * d)] 3)).grown hg6 (ne_apart2 hne5)
                have hbel6 := (hbel5.alloc hbel5.size (.cells #[.int .i64 ((k : Int) * d)] 3)).grown hg6 (Nat.le_trans hbel5.size (by simp)) (fun j hj => Nat.le_trans hzV (hown5.lt j hj).1)
                have hsz6 : w3.heap.size ≤ w6.heap.size := Nat.le_trans hsz5 (Nat.le_trans (by simp) hg6.size)
                have HO := Lib.hid hown6
                clear hown5 hown6 hg6 hB5 hbel5
                go_wp2_with fail
                go_roundw
                case rel => exact ⟨k + 1, M ++ [(k : Int) * d], by omega, by go_num, HMN, by rw [List.length_append, List.length_singleton]; omega, by rw [List.length_append, List.length_singleton, List.map_append]; exact HO.out, hB6, hsz6, hbel6⟩
                case measure => simp [intOf]; omega
            · have hke : k = q + 1 := by omega
              have hlti : ¬ (k : Int) < (q : Int) + 1 := by omega
              rw [hke] at HMe
              clear hke
              have HO := Lib.hid (owns_wider hown (Nat.le_trans hbV.size hzV))
              have hbF := hbV.trans (hbel.mono hbV.size)
              have HF : Hid (scaledL G d (q : Int) = M) := Lib.hid (by rw [HE.out]; exact HMe.out.symm)
              clear hown HMe
              go_wp2_with fail
              go_ret
              exact ⟨_, rfl, by rw [HF.out]; exact HO.out, hbF⟩
set_option maxRecDepth 100000 in
set_option maxHeartbeats 1600000 in
theorem impl_IsWithin (A B : List Int) (a : Option Addr) (ca : Nat) (b : Option Addr) (cb : Nat) (w : World) (hra : SlV w a (A.map (Value.int .i64))) (hrb : SlV w b (B.map (Value.int .i64))) (hba : A.length ≤ 1048576) (hbb : B.length ≤ 1048576) :
    Calls Try.prog 28 #[.agg #[.slice a A.length ca], .agg #[.slice b B.length cb]] w fun e w' => e = .returned (.bool (withinB A B)) ∧ Below w.heap.size w w' := by
  obtain ⟨V, hV⟩ : ∃ V, V = ((w.alloc (.cells #[.slice a A.length ca] 26)).alloc (.cells #[.slice b B.length cb] 26)) := ⟨_, rfl⟩
  have hbV : Below w.heap.size w V := by rw [hV]; exact (box_below _ _).alloc (by simp) _
  have hVe : V.heap.size = w.heap.size + 2 := by rw [hV]; simp
  have hcA : V.cell? ⟨w.heap.size, 0, none⟩ = some (.slice a A.length ca) := by rw [hV]; exact (World.cell?_alloc_lt _ _ ⟨w.heap.size, 0, none⟩ (by simp)).trans (box_cell w _)
  have hcB : V.cell? ⟨w.heap.size + 1, 0, none⟩ = some (.slice b B.length cb) := by rw [hV]; have := box_cell (w.alloc (.cells #[.slice a A.length ca] 26)) (.slice b B.length cb); rw [show (w.alloc (.cells #[.slice a A.length ca] 26)).heap.size = w.heap.size + 1 by simp] at this; exact this
  have HKV : Hid (∀ w2, Below V.heap.size V w2 → w2.cell? ⟨w.heap.size, 0, none⟩ = some (.slice a A.length ca) ∧ w2.cell? ⟨w.heap.size + 1, 0, none⟩ = some (.slice b B.length cb)) := Lib.hid fun w2 h => ⟨(h.cell (p := ⟨w.heap.size, 0, none⟩) (show w.heap.size < V.heap.size by omega)).trans hcA, (h.cell (p := ⟨w.heap.size + 1, 0, none⟩) (show w.heap.size + 1 < V.heap.size by omega)).trans hcB⟩
  have HV := Lib.hid hV
  clear hV hVe
  have c1 := impl_elementsOf B b cb V (hrb.below hbV) hbb
  have HT := fun f => Lib.hid (tabB_one f 260)
  unfold ElPost at c1
  have ci := fun W (h : Below V.heap.size V W) => impl_IsSemigroup A a ca W (hra.below (hbV.trans (h.mono hbV.size))) hba
  cases hsb : isSgB B
  · have HE : Hid (withinB A B = false) := Lib.hid (by unfold withinB; rw [hsb]; simp)
    rw [hsb] at c1
    clear hsb hra hrb ci
    go_enter Try.func28, Try.ntmps28
    go_wp2_with fail
    rw [← HV.out]
    refine c1.mono ?_
    rintro e w1 ⟨rfl, hb1⟩
    have hA := Arr.new w1 54 (tabB (fun _ => false) 260)
    have hbA := hb1.alloc (o := .cells (tabB (fun _ => false) 260).toArray 54) hb1.size
    clear c1
    go_wp2_with (first | (refine wpList_alloc_arr 54 (tabB (fun _ => false) 260) zeroT rfl rfl ?_) | (refine wpList_store_arr 54 (.tmp 5) (.tmp 10) w1.heap.size (tabB (fun _ => false) 260) (tabB (elF B) 260) rfl rfl rfl rfl hA (by rw [tabB_length, tabB_length]) (sizeTl _) (HT _).out ?_; intro w3 hB hg3 hz3; clear hz3; have hb3 := hbA.grown hg3 hbA.size (fun k hk => by cases hk; exact hb1.size); obtain ⟨hc3, hc4⟩ := HKV.out _ hb3; clear hg3 hA hbA))
    go_ret
    exact ⟨by rw [HE.out]; rfl, hbV.trans (hb3.mono hbV.size)⟩
  · rw [hsb] at c1
    cases hsa : isSgB A
    · have HE : Hid (withinB A B = false) := Lib.hid (by unfold withinB; rw [hsa]; rfl)
      rw [hsa] at ci
      clear hsa hsb hra hrb
      go_enter Try.func28, Try.ntmps28
      go_wp2_with fail
      rw [← HV.out]
      refine c1.mono ?_
      rintro e w1 ⟨rfl, hb1⟩
      have hA := Arr.new w1 54 (tabB (fun _ => false) 260)
      have hbA := hb1.alloc (o := .cells (tabB (fun _ => false) 260).toArray 54) hb1.size
      clear c1
      go_wp2_with (first | (refine wpList_alloc_arr 54 (tabB (fun _ => false) 260) zeroT rfl rfl ?_) | (refine wpList_store_arr 54 (.tmp 5) (.tmp 10) w1.heap.size (tabB (fun _ => false) 260) (tabB (elF B) 260) rfl rfl rfl rfl hA (by rw [tabB_length, tabB_length]) (sizeTl _) (HT _).out ?_; intro w3 hB hg3 hz3; clear hz3; have hb3 := hbA.grown hg3 hbA.size (fun k hk => by cases hk; exact hb1.size); obtain ⟨hc3, hc4⟩ := HKV.out _ hb3; clear hg3 hA hbA))
      refine (ci _ hb3).mono ?_
      rintro e w4 ⟨rfl, hb4⟩
      have hB4 := hB.below hb4
      have hb04 := hb3.trans (hb4.mono hb3.size)
      obtain ⟨hc5, hc6⟩ := HKV.out _ hb04
      clear ci hB hc3 hc4 hb3 hb4
      go_wp2_with fail
      go_ret
      exact ⟨by rw [HE.out]; rfl, hbV.trans (hb04.mono hbV.size)⟩
    · rw [hsa] at ci
      have hSA := isSgB_iff.1 hsa
      have HE : Hid (withinB A B = A.all fun g => hasN B (0 + g)) := Lib.hid (by unfold withinB; rw [hsa, hsb]; simp)
      have ch := fun W (h : Below V.heap.size V W) => impl_hasSums_any B hsb 0 (by omega) (by omega) A hba (fun y hy => by have := hSA.bounds y hy; omega) a ca W (hra.below (hbV.trans (h.mono hbV.size)))
      clear hsa hsb hra hrb hSA
      generalize (A.all fun g => hasN B (0 + g)) = q at *
      go_enter Try.func28, Try.ntmps28
      go_wp2_with fail
      rw [← HV.out]
      refine c1.mono ?_
      rintro e w1 ⟨rfl, hb1⟩
      have hA := Arr.new w1 54 (tabB (fun _ => false) 260)
      have hbA := hb1.alloc (o := .cells (tabB (fun _ => false) 260).toArray 54) hb1.size
      clear c1
      go_wp2_with (first | (refine wpList_alloc_arr 54 (tabB (fun _ => false) 260) zeroT rfl rfl ?_) | (refine wpList_store_arr 54 (.tmp 5) (.tmp 10) w1.heap.size (tabB (fun _ => false) 260) (tabB (elF B) 260) rfl rfl rfl rfl hA (by rw [tabB_length, tabB_length]) (sizeTl _) (HT _).out ?_; intro w3 hB hg3 hz3; clear hz3; have hb3 := hbA.grown hg3 hbA.size (fun k hk => by cases hk; exact hb1.size); obtain ⟨hc3, hc4⟩ := HKV.out _ hb3; clear hg3 hA hbA))
      refine (ci _ hb3).mono ?_
      rintro e w4 ⟨rfl, hb4⟩
      have hB4 := hB.below hb4
      have hb04 := hb3.trans (hb4.mono hb3.size)
      obtain ⟨hc5, hc6⟩ := HKV.out _ hb04
      clear ci hB hc3 hc4 hb3 hb4
      go_wp2_with fail
      refine wp_load_mid 54 (.tmp 5) rfl w1.heap.size 0 rfl (tabB (elF B) 260) (.array 260 4) hB4.range undT rfl (sizeTl _) ?_
      go_wp2_with fail
      refine (ch _ hb04).mono ?_
      rintro e w5 ⟨rfl, hb5⟩
      have hb05 := hb04.trans (hb5.mono hb04.size)
      clear ch hB4 hc5 hc6
      go_wp2_with fail
      go_ret
      exact ⟨by rw [HE.out]; rfl, hbV.trans (hb05.mono hbV.size)⟩
end Go.Proofs.Ytljfiiohiolbnaa
