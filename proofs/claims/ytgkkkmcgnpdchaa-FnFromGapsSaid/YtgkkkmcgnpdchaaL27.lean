/-
  CHAPTER 8 OF THE REFERENCE: FromElements. (Own work.)
-/
import Derived.Test.YtgkkkmcgnpdchaaL26
namespace Go.Proofs.Ytgkkkmcgnpdchaa
open Go Go.RowKit

theorem missL_len (S : List Int) (n : Nat) : (missL S n).length ≤ n := by unfold missL; rw [List.length_map]; exact upB_len_le _ _
theorem smallL_len (G : List Int) : (smallL G).length ≤ 200 := by
  unfold smallL
  split
  · rw [List.length_map]; exact Nat.le_trans (upB_len_le _ _) (condNat_le G)
  · exact Nat.zero_le _
theorem missL_one (S : List Int) : missL S 1 = [] := by rw [missL_succ]; rfl

set_option maxRecDepth 100000 in
set_option maxHeartbeats 3200000 in
theorem spec_FromElements (L : List Int) (c : Int) (a : Option Addr) (cap : Nat) (w : World) (hr : SlV w a (L.map (Value.int .i64))) (hb : L.length ≤ 1048576) (hc1 : -9223372036854775808 ≤ c) (hc2 : c ≤ 9223372036854775807) :
    Calls Try.prog 32 #[.slice a L.length cap, .int .i64 c] w (SgPost (fromElL L c) (fromElB L c) w) := by
  obtain ⟨i0, hi, hz0, hz1, hz2⟩ := info_parts infoIntL
  obtain ⟨dS, hdS, hrS⟩ := undSg
  obtain ⟨W, hW⟩ : ∃ W, W = w.alloc (.cells [Value.slice none 0 0].toArray 26) := ⟨_, rfl⟩
  have hbW : Below w.heap.size w W := by rw [hW]; exact box_below _ _
  have hAW : Arr W w.heap.size 26 [Value.slice none 0 0] := by rw [hW]; exact Arr.new _ _ _
  have HW := Lib.hid hW
  clear hW
  have c1 := l1In_any c 0 200 W
  have hsW := hbW.size
  have hlW := hAW.lt
  go_enter Try.func32, Try.ntmps32
  go_wp2_with (first
    | (refine wpList_alloc_arr 26 [Value.slice none 0 0] zeroSg rfl rfl ?_; rw [← HW.out]))
  cases hin : inB c 0 200
  · have hF : fromElB L c = false := by
      cases h : fromElB L c
      · rfl
      · rw [inB_iff.2 (fromEl_cond h)] at hin; cases hin
    have HF := Lib.hid hF
    rw [hin] at c1
    clear hF hin hr
    refine c1.mono ?_
    rintro e w1 ⟨rfl, rfl⟩
    go_wp2_with (first
      | (refine wpList_store_arr 26 (.tmp 4) (.tmp 13) w.heap.size [Value.slice none 0 0] [Value.slice none 0 0] rfl rfl rfl rfl hAW rfl sizeSg (by simp [Value.oneCell']) ?_; intro w9 hA9 hg9 hz9; clear hz9))
    have hb9 := hbW.grown hg9 hbW.size (fun k hk => by cases hk; exact Nat.le_refl _)
    exact bodyPost_ret (results_arr_tmp rfl _ _ w.heap.size [Value.slice none 0 0] dS rfl hA9 hdS hrS sizeSg) rfl ⟨_, by rw [HF.out]; rfl, by rw [fromElL_no HF.out]; exact World.ownsRow_nil _ _ _ _, hb9⟩
  · have hcb := inB_iff.1 hin
    obtain ⟨C, rfl⟩ := Int.eq_ofNat_of_zero_le hcb.1
    rw [hin] at c1
    clear hin
    refine c1.mono ?_
    rintro e w1 ⟨rfl, hw1⟩
    obtain rfl := hw1
    clear c1
    have hown0 : (w1.alloc (.cells #[] 3)).ownsRow w1.heap.size 3 1 (.slice (some ⟨w1.heap.size, 0, none⟩) 0 0) 0 [] := World.ownsRow_lit w1 #[] 0 (Nat.le_refl _) (by simp) rfl
    have hA4 := hAW.alloc (.cells #[] 3)
    have hSW := hr.below hbW
    have HR : Hid (∀ {w' : World}, Below w.heap.size w w' → SlV w' a (L.map (Value.int .i64))) := Lib.hid fun h => hr.below h
    clear hr
    go_wp2_with fail
    go_loopw [6, 7] (fun v i wr => ∃ (n : Nat) (M : List Int), 1 ≤ n ∧ (n ≤ C ∨ n = 1) ∧ i = .int .i64 (n : Int) ∧ Hid (M = missL L n) ∧ M.length ≤ n ∧ wr.ownsRow w1.heap.size 3 1 v M.length (M.map (Value.int .i64)) ∧
        Arr wr w.heap.size 26 [Value.slice none 0 0] ∧ w1.heap.size ≤ wr.heap.size ∧ Below w1.heap.size w1 wr) (fun _ i _ => C - (intOf i).toNat)
    case atStart => exact ⟨1, [], Nat.le_refl _, .inr rfl, rfl, Lib.hid (missL_one L).symm, by simp, hown0, hA4, by simp, box_below _ _⟩
    case round =>
      clear hown0 hA4
      obtain ⟨n, M, hn1, hnC, rfl, HM, hMl, hown, hA, hsz, hbel⟩ := hrel
      have hSr := hSW.below hbel
      by_cases hlt : n < C
      · have hlti : (n : Int) < (C : Int) := by omega
        have c2 := spec_HasNumber L (n : Int) a cap wr hSr (by unfold maxLen; omega)
        have hq0 : hasB L (n : Int) = isIn L n := rfl
        rw [hq0] at c2
        have hMS := missL_succ L n
        rw [decide_eq_true hn1, Bool.true_and, ← HM.out] at hMS
        clear hq0 hSr hnC
        cases hq : isIn L n
        · have HY : Hid (M ++ [(n : Int)] = missL L (n + 1)) := Lib.hid (by rw [hMS, hq]; rfl)
          rw [hq] at c2
          clear hq hMS
          go_wp2_with fail
          refine c2.mono ?_
          rintro e w5 ⟨rfl, rfl⟩
          go_wp2_with (first
            | (at_builtin; refine wpList_append_own _ rfl (.tmp 24) (.tmp 26) 24 rfl w1.heap.size 3 i0 (Value.int .i64 0) 1 8 Try.underlying24 hi hz0 hz1 hz2 rfl (by decide) _ _ _ rfl (hown.alloc _) ⟨_, 0, none⟩ 1 1 [.int .i64 (n : Int)] rfl rfl (World.news_of_block (cs := #[.int .i64 (n : Int)]) (t := 3) (fr := (0, 0)) (heap_alloc_new _ _)) (by simp [Value.oneCell']) (by unfold maxLen; omega) (by omega) (by simp; omega) ?_; intro v6 w6 hown6 hg6 _))
          have hA6 := Arr.grown (hA.alloc (.cells #[.int .i64 (n : Int)] 3)) hg6 (fun e => by have := hown.lt w.heap.size e.symm; omega)
          have hbel6 := (hbel.alloc hsz (.cells #[.int .i64 (n : Int)] 3)).grown hg6 (by simp; omega) (fun j hj => (hown.lt j hj).1)
          have HO := Lib.hid hown6
          clear hown6 hg6
          go_roundw
          case rel => exact ⟨n + 1, M ++ [(n : Int)], by omega, .inl hlt, by go_num, HY.out, by rw [List.length_append, List.length_singleton]; omega, by rw [List.length_append, List.length_singleton, List.map_append]; exact HO.out, hA6, hbel6.size, hbel6⟩
          case measure => simp [intOf]; omega
        · have HY : Hid (M = missL L (n + 1)) := Lib.hid (by rw [hMS, hq]; simp)
          rw [hq] at c2
          clear hq hMS
          go_wp2_with fail
          refine c2.mono ?_
          rintro e w5 ⟨rfl, rfl⟩
          go_wp2_with fail
          go_roundw
          case rel => exact ⟨n + 1, M, by omega, .inl hlt, by go_num, HY.out, by omega, hown, hA, hsz, hbel⟩
          case measure => simp [intOf]; omega
      · have hnl : ¬ (n : Int) < (C : Int) := by omega
        have HMC : Hid (M = missL L C) := Lib.hid (by
          rw [HM.out]
          rcases Nat.eq_zero_or_pos C with h0 | h0
          · rw [show n = 1 by omega, missL_one, h0]; rfl
          · rw [show n = C by omega])
        obtain ⟨hW1, hW2⟩ := fromEl_way (S := L) (C := C)
        rw [← HMC.out] at hW1 hW2
        have HW1 := Lib.hid hW1
        have HW2 := Lib.hid hW2
        obtain ⟨a1, k1, rfl, rX⟩ := row_open hown
        have hbw := hbW.trans (hbel.mono hsW)
        have c2 := spec_FromGaps M a1 k1 wr rX.slv (by omega)
        have hml := fromGpL_len M
        have hsm := smallL_len (fromGpL M)
        clear hW1 hW2 HM hown rX hbel hlt hSr
        go_wp2_with fail
        clear hnl
        refine c2.mono ?_
        rintro e w4 ⟨v4, rfl, ho4, hb4⟩
        obtain ⟨a4, k4, rfl, rX4⟩ := row_open ho4
        have hA4 := hA.below hb4
        have hbw4 := hbw.trans (hb4.mono hbw.size)
        have hs4 := hb4.size
        have hN := Arr.new w4 26 [Value.slice none 0 0]
        have hA4c := hA4.alloc (.cells [Value.slice none 0 0].toArray 26)
        have hbw5 := hbw4.alloc (o := .cells [Value.slice none 0 0].toArray 26) hbw4.size
        have ho4c := ho4.alloc (.cells [Value.slice none 0 0].toArray 26)
        have hlt4 := hA4.lt
        have hsw4 := hbw4.size
        have hn4 := own_apart ho4 (g := w4.heap.size) (.inr (Nat.le_refl _))
        have hn5 := own_apart ho4 (g := w.heap.size) (.inl (by omega))
        clear c2 hA hbw hb4 rX4
        generalize hK : fromGpL M = K at *
        cases hf : fromGpB M
        · have HF : Hid (fromElB L (C : Int) = false) := Lib.hid (by rw [HW1.out, hf]; rfl)
          clear hf
          go_wp2_with (first
            | (refine wpList_alloc_arr 26 [Value.slice none 0 0] zeroSg rfl rfl ?_)
            | (refine wpList_store_arr 26 (.tmp 8) (.tmp 31) w4.heap.size [Value.slice none 0 0] [Value.slice a4 K.length k4] rfl rfl rfl rfl hN rfl sizeSg (by simp [Value.oneCell']) ?_; intro w6 hN6 hg6 hz6; clear hz6)
            | (refine wpList_store_arr 26 (.tmp 4) (.tmp 48) w.heap.size [Value.slice none 0 0] [Value.slice none 0 0] rfl rfl rfl rfl (hA4c.grown hg6 (by simp; omega)) rfl sizeSg (by simp [Value.oneCell']) ?_; intro w9 hA9 hg9 hz9; clear hz9))
          have hb6 := hbw5.grown hg6 hbw5.size (fun k hk => by cases hk; exact hsw4)
          have hb9 := hb6.grown hg9 hb6.size (fun k hk => by cases hk; exact Nat.le_refl _)
          exact bodyPost_ret (results_arr_tmp rfl _ _ w.heap.size [Value.slice none 0 0] dS rfl hA9 hdS hrS sizeSg) rfl ⟨_, by rw [HF.out]; rfl, by rw [fromElL_no HF.out]; exact World.ownsRow_nil _ _ _ _, hb9⟩
        · have c5 := fun w' (h : SlV w' a4 (K.map (Value.int .i64))) => spec_ConductorOf K a4 k4 w' h (by omega)
          have c6 := fun w' (h : SlV w' a4 (K.map (Value.int .i64))) => spec_SmallElements K a4 k4 w' h (by omega)
          rw [hf, Bool.true_and] at HW1
          clear hf
          go_wp2_with (first
            | (refine wpList_alloc_arr 26 [Value.slice none 0 0] zeroSg rfl rfl ?_)
            | (refine wpList_store_arr 26 (.tmp 8) (.tmp 31) w4.heap.size [Value.slice none 0 0] [Value.slice a4 K.length k4] rfl rfl rfl rfl hN rfl sizeSg (by simp [Value.oneCell']) ?_; intro w6 hN6 hg6 hz6; clear hz6; have hcN := hN6.cell 0))
          have hb6 := hbw5.grown hg6 hbw5.size (fun k hk => by cases hk; exact hsw4)
          have hA6 := hA4c.grown hg6 (by simp; omega)
          have ho6 := ho4c.kept hg6 hn4
          obtain ⟨a6, k6, e6, rX6⟩ := row_open ho6
          cases e6
          have hs6 := hb6.size
          have d5 := c5 w6 rX6.slv
          clear hN hA4c hbw5 ho4c hg6 rX6 c5 ho4 hA4
          by_cases hcd : condN K = (C : Int)
          · rw [decide_eq_true hcd, Bool.true_and] at HW1
            rw [hcd] at d5
            clear hcd
            refine d5.mono ?_
            rintro e w7 ⟨rfl, hb7⟩
            have hA7 := hA6.below hb7
            have hN7 := hN6.below hb7
            have ho7 := owns_below ho6 hb7
            have hbw7 := hb6.trans (hb7.mono hs6)
            have hs7 := hbw7.size
            obtain ⟨a7, k7, e7, rX7⟩ := row_open ho7
            cases e7
            have d6 := c6 w7 rX7.slv
            have hcN7 := hN7.cell 0
            clear d5 hcN hA6 hN6 ho6 hb6 hb7 rX7 c6
            have hne : ((C : Int) != (C : Int)) = false := by simp
            go_wp2_with fail
            refine d6.mono ?_
            rintro e w8 ⟨v8, rfl, ho8, hb8⟩
            obtain ⟨a8, k8, rfl, rX8⟩ := row_open ho8
            have hA8 := hA7.below hb8
            have hN8 := hN7.below hb8
            have hoK8 := owns_below ho7 hb8
            have hbw8 := hbw7.trans (hb8.mono hs7)
            have hs8 := hbw8.size
            have c7 := spec_l2Same (smallL K) L a8 a k8 cap w8 rX8.slv (HR.out hbw8) (by omega) (by omega)
            clear d6 hcN7 hA7 hN7 ho7 hbw7 hb8 rX8 ho8
            by_cases hsl : smallL K = L
            · have HF : Hid (fromElB L (C : Int) = true) := Lib.hid (by rw [HW1.out, decide_eq_true hsl])
              have HG : Hid (fromElL L (C : Int) = K) := Lib.hid (HW2.out HF.out)
              rw [decide_eq_true hsl] at c7
              clear hsl
              go_wp2_with fail
              refine c7.mono ?_
              rintro e w9 ⟨rfl, hb9⟩
              have hA9 := hA8.below hb9
              have hN9 := hN8.below hb9
              have hoK9 := owns_below hoK8 hb9
              have hbw9 := hbw8.trans (hb9.mono hs8)
              have hcN9 := hN9.cell 0
              clear c7 hA8 hN8 hoK8 hbw8 hb9
              generalize hKn : K.length = Kn at *
              go_wp2_with (first
                | (refine wpList_load_arr 26 (.tmp 8) w4.heap.size [Value.slice a4 Kn k4] dS rfl rfl rfl hN9 hdS hrS sizeSg ?_)
                | (refine wpList_store_arr 26 (.tmp 4) (.tmp 49) w.heap.size [Value.slice none 0 0] [Value.slice a4 Kn k4] rfl rfl rfl rfl hA9 rfl sizeSg (by simp [Value.oneCell']) ?_; intro wx hAx hgx hzx; clear hzx))
              have hbx := hbw9.grown hgx hbw9.size (fun k hk => by cases hk; exact Nat.le_refl _)
              have hox := hoK9.kept hgx hn5
              refine bodyPost_ret (results_arr_tmp rfl _ _ w.heap.size [Value.slice a4 Kn k4] dS rfl hAx hdS hrS sizeSg) rfl ⟨_, by rw [HF.out]; rfl, ?_, hbx⟩
              rw [HG.out, hKn]
              exact owns_wider hox (by omega)
            · have HF : Hid (fromElB L (C : Int) = false) := Lib.hid (by rw [HW1.out, decide_eq_false hsl])
              rw [decide_eq_false hsl] at c7
              clear hsl
              go_wp2_with fail
              refine c7.mono ?_
              rintro e w10 ⟨rfl, hb10⟩
              have hA10 := hA8.below hb10
              have hbw10 := hbw8.trans (hb10.mono hs8)
              clear c7 hA8 hN8 hoK8 hbw8 hb10
              go_wp2_with (first
                | (refine wpList_store_arr 26 (.tmp 4) (.tmp 48) w.heap.size [Value.slice none 0 0] [Value.slice none 0 0] rfl rfl rfl rfl hA10 rfl sizeSg (by simp [Value.oneCell']) ?_; intro w9 hA9 hg9 hz9; clear hz9))
              have hb9 := hbw10.grown hg9 hbw10.size (fun k hk => by cases hk; exact Nat.le_refl _)
              exact bodyPost_ret (results_arr_tmp rfl _ _ w.heap.size [Value.slice none 0 0] dS rfl hA9 hdS hrS sizeSg) rfl ⟨_, by rw [HF.out]; rfl, by rw [fromElL_no HF.out]; exact World.ownsRow_nil _ _ _ _, hb9⟩
          · have HF : Hid (fromElB L (C : Int) = false) := Lib.hid (by rw [HW1.out, decide_eq_false hcd]; rfl)
            have hne : (condN K != (C : Int)) = true := by rw [bne_iff_ne]; exact hcd
            generalize condN K = cK at *
            clear hcd
            refine d5.mono ?_
            rintro e w7 ⟨rfl, hb7⟩
            have hA7 := hA6.below hb7
            have hbw7 := hb6.trans (hb7.mono hs6)
            clear d5
            go_wp2_with (first
              | (refine wpList_store_arr 26 (.tmp 4) (.tmp 48) w.heap.size [Value.slice none 0 0] [Value.slice none 0 0] rfl rfl rfl rfl hA7 rfl sizeSg (by simp [Value.oneCell']) ?_; intro w9 hA9 hg9 hz9; clear hz9))
            have hb9 := hbw7.grown hg9 hbw7.size (fun k hk => by cases hk; exact Nat.le_refl _)
            exact bodyPost_ret (results_arr_tmp rfl _ _ w.heap.size [Value.slice none 0 0] dS rfl hA9 hdS hrS sizeSg) rfl ⟨_, by rw [HF.out]; rfl, by rw [fromElL_no HF.out]; exact World.ownsRow_nil _ _ _ _, hb9⟩
end Go.Proofs.Ytgkkkmcgnpdchaa
