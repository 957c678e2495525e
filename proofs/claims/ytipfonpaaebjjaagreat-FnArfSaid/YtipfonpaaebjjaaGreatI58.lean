/-
  CONTRACTS of the program's chapters 17 and 18: isDivisor, ScaledElements, IsWithin. (Own work: mkI58.py.)
-/
import Derived.Test.YtipfonpaaebjjaaGreatI51
import Derived.Test.YtipfonpaaebjjaaGreatSgId
import Derived.Test.YtipfonpaaebjjaaGreatCh4I
import Derived.Test.YtipfonpaaebjjaaGreatHta
namespace Go.Proofs.YtipfonpaaebjjaaGreat
open Go Go.RowKit
attribute [local go_sem] Oper.semAt_some

theorem ne_apart2 {b : Option Nat} {t : Nat} (h : b = none ∨ b ≠ some t) : some t ≠ b := by
  rcases h with h | h
  · rw [h]; simp
  · exact Ne.symm h

set_option maxRecDepth 100000 in
set_option maxHeartbeats 1600000 in
theorem impl_IsWithin (A B : List Int) (a : Option Addr) (ca : Nat) (b : Option Addr) (cb : Nat) (w : World) (hra : SlV w a (A.map (Value.int .i64))) (hrb : SlV w b (B.map (Value.int .i64))) (hba : A.length ≤ 1048576) (hbb : B.length ≤ 1048576) :
    Calls Tryz.prog 34 #[.agg #[.slice a A.length ca], .agg #[.slice b B.length cb]] w fun e w' => e = .returned (.bool (withinB A B)) ∧ Below w.heap.size w w' := by
  obtain ⟨V, hV⟩ : ∃ V, V = ((w.alloc (.cells #[.slice a A.length ca] 26)).alloc (.cells #[.slice b B.length cb] 26)) := ⟨_, rfl⟩
  have hbV : Below w.heap.size w V := by rw [hV]; exact (box_below _ _).alloc (by simp) _
  have hVe : V.heap.size = w.heap.size + 2 := by rw [hV]; simp
  have hcA : V.cell? ⟨w.heap.size, 0, none⟩ = some (.slice a A.length ca) := by rw [hV]; exact (World.cell?_alloc_lt _ _ ⟨w.heap.size, 0, none⟩ (by simp)).trans (box_cell w _)
  have hcB : V.cell? ⟨w.heap.size + 1, 0, none⟩ = some (.slice b B.length cb) := by rw [hV]; have := box_cell (w.alloc (.cells #[.slice a A.length ca] 26)) (.slice b B.length cb); rw [show (w.alloc (.cells #[.slice a A.length ca] 26)).heap.size = w.heap.size + 1 by simp] at this; exact this
  have HKV : Hid (∀ w2, Below V.heap.size V w2 → w2.cell? ⟨w.heap.size, 0, none⟩ = some (.slice a A.length ca) ∧ w2.cell? ⟨w.heap.size + 1, 0, none⟩ = some (.slice b B.length cb)) := Lib.hid fun w2 h => ⟨(h.cell (p := ⟨w.heap.size, 0, none⟩) (show w.heap.size < V.heap.size by omega)).trans hcA, (h.cell (p := ⟨w.heap.size + 1, 0, none⟩) (show w.heap.size + 1 < V.heap.size by omega)).trans hcB⟩
  have HV := Lib.hid hV
  clear hV hVe
  have c1 := impl_elementsOf B b cb V (hrb.below hbV) hbb
  have HT := fun f => Lib.hid (tabB_one f 260)
  unfold ElPost at c1
  have ci := fun W (h : Below V.heap.size V W) => impl_IsSemigroup A a ca W (hra.below (hbV.trans (h.mono hbV.size))) hba
  cases hsb : isSgB B
  · have HE : Hid (withinB A B = false) := Lib.hid (by unfold withinB; rw [hsb]; simp)
    rw [hsb] at c1
    clear hsb hra hrb ci
    go_enter Tryz.func34, Tryz.ntmps34
    go_wp2_with fail
    rw [← HV.out]
    refine c1.mono ?_
    rintro e w1 ⟨rfl, hb1⟩
    have hA := Arr.new w1 64 (tabB (fun _ => false) 260)
    have hbA := hb1.alloc (o := .cells (tabB (fun _ => false) 260).toArray 64) hb1.size
    clear c1
    go_wp2_with (first | (refine wpList_alloc_arr 64 (tabB (fun _ => false) 260) zeroT rfl rfl ?_) | (refine wpList_store_arr 64 (.tmp 5) (.tmp 10) w1.heap.size (tabB (fun _ => false) 260) (tabB (elF B) 260) rfl rfl rfl rfl hA (by rw [tabB_length, tabB_length]) (sizeTl _) (HT _).out ?_; intro w3 hB hg3 hz3; clear hz3; have hb3 := hbA.grown hg3 hbA.size (fun k hk => by cases hk; exact hb1.size); obtain ⟨hc3, hc4⟩ := HKV.out _ hb3; clear hg3 hA hbA))
    go_ret
    exact ⟨by rw [HE.out]; rfl, hbV.trans (hb3.mono hbV.size)⟩
  · rw [hsb] at c1
    cases hsa : isSgB A
    · have HE : Hid (withinB A B = false) := Lib.hid (by unfold withinB; rw [hsa]; rfl)
      rw [hsa] at ci
      clear hsa hsb hra hrb
      go_enter Tryz.func34, Tryz.ntmps34
      go_wp2_with fail
      rw [← HV.out]
      refine c1.mono ?_
      rintro e w1 ⟨rfl, hb1⟩
      have hA := Arr.new w1 64 (tabB (fun _ => false) 260)
      have hbA := hb1.alloc (o := .cells (tabB (fun _ => false) 260).toArray 64) hb1.size
      clear c1
      go_wp2_with (first | (refine wpList_alloc_arr 64 (tabB (fun _ => false) 260) zeroT rfl rfl ?_) | (refine wpList_store_arr 64 (.tmp 5) (.tmp 10) w1.heap.size (tabB (fun _ => false) 260) (tabB (elF B) 260) rfl rfl rfl rfl hA (by rw [tabB_length, tabB_length]) (sizeTl _) (HT _).out ?_; intro w3 hB hg3 hz3; clear hz3; have hb3 := hbA.grown hg3 hbA.size (fun k hk => by cases hk; exact hb1.size); obtain ⟨hc3, hc4⟩ := HKV.out _ hb3; clear hg3 hA hbA))
      refine (ci _ hb3).mono ?_
      rintro e w4 ⟨rfl, hb4⟩
      have hB4 := hB.below hb4
      have hb04 := hb3.trans (hb4.mono hb3.size)
      obtain ⟨hc5, hc6⟩ := HKV.out _ hb04
      clear ci hB hc3 hc4 hb3 hb4
      go_wp2_with fail
      go_ret
      exact ⟨by rw [HE.out]; rfl, hbV.trans (hb04.mono hbV.size)⟩
    · rw [hsa] at ci
      have hSA := isSgB_iff.1 hsa
      have HE : Hid (withinB A B = A.all fun g => hasN B (0 + g)) := Lib.hid (by unfold withinB; rw [hsa, hsb]; simp)
      have ch := fun W (h : Below V.heap.size V W) => impl_hasSums_any B hsb 0 (by omega) (by omega) A hba (fun y hy => by have := hSA.bounds y hy; omega) a ca W (hra.below (hbV.trans (h.mono hbV.size)))
      clear hsa hsb hra hrb hSA
      generalize (A.all fun g => hasN B (0 + g)) = q at *
      go_enter Tryz.func34, Tryz.ntmps34
      go_wp2_with fail
      rw [← HV.out]
      refine c1.mono ?_
      rintro e w1 ⟨rfl, hb1⟩
      have hA := Arr.new w1 64 (tabB (fun _ => false) 260)
      have hbA := hb1.alloc (o := .cells (tabB (fun _ => false) 260).toArray 64) hb1.size
      clear c1
      go_wp2_with (first | (refine wpList_alloc_arr 64 (tabB (fun _ => false) 260) zeroT rfl rfl ?_) | (refine wpList_store_arr 64 (.tmp 5) (.tmp 10) w1.heap.size (tabB (fun _ => false) 260) (tabB (elF B) 260) rfl rfl rfl rfl hA (by rw [tabB_length, tabB_length]) (sizeTl _) (HT _).out ?_; intro w3 hB hg3 hz3; clear hz3; have hb3 := hbA.grown hg3 hbA.size (fun k hk => by cases hk; exact hb1.size); obtain ⟨hc3, hc4⟩ := HKV.out _ hb3; clear hg3 hA hbA))
      refine (ci _ hb3).mono ?_
      rintro e w4 ⟨rfl, hb4⟩
      have hB4 := hB.below hb4
      have hb04 := hb3.trans (hb4.mono hb3.size)
      obtain ⟨hc5, hc6⟩ := HKV.out _ hb04
      clear ci hB hc3 hc4 hb3 hb4
      go_wp2_with fail
      refine wp_load_mid 64 (.tmp 5) rfl w1.heap.size 0 rfl (tabB (elF B) 260) (.array 260 4) hB4.range undT rfl (sizeTl _) ?_
      go_wp2_with fail
      refine (ch _ hb04).mono ?_
      rintro e w5 ⟨rfl, hb5⟩
      have hb05 := hb04.trans (hb5.mono hb04.size)
      clear ch hB4 hc5 hc6
      go_wp2_with fail
      go_ret
      exact ⟨by rw [HE.out]; rfl, hbV.trans (hb05.mono hbV.size)⟩
end Go.Proofs.YtipfonpaaebjjaaGreat
