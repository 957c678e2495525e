/-
  CONTRACTS of the program's chapter 8, fourth part: FromElements. (Own work.)
-/
import Derived.Test.YtgkkkmcgnpdchaaI32
import Derived.Test.YtgkkkmcgnpdchaaL27
namespace Go.Proofs.Ytgkkkmcgnpdchaa
open Go Go.RowKit
attribute [local go_sem] Oper.semAt_some

set_option maxRecDepth 100000 in
set_option maxHeartbeats 3200000 in
theorem impl_FromElements (L : List Int) (c : Int) (a : Option Addr) (cap : Nat) (w : World) (hr : SlV w a (L.map (Value.int .i64))) (hb : L.length ≤ 1048576) :
    Calls Try.prog 31 #[.slice a L.length cap, .int .i64 c] w (SgPost (fromElL L c) (fromElB L c) w) := by
  obtain ⟨i0, hi, hz0, hz1, hz2⟩ := info_parts infoIntL
  obtain ⟨dS, hdS, hrS⟩ := undSg
  obtain ⟨W, hW⟩ : ∃ W, W = w.alloc (.cells [Value.slice none 0 0].toArray 26) := ⟨_, rfl⟩
  have hbW : Below w.heap.size w W := by rw [hW]; exact box_below _ _
  have hAW : Arr W w.heap.size 26 [Value.slice none 0 0] := by rw [hW]; exact Arr.new _ _ _
  have HW := Lib.hid hW
  clear hW
  have hsW := hbW.size
  have hlW := hAW.lt
  go_enter Try.func31, Try.ntmps31
  by_cases hin : 0 ≤ c ∧ c ≤ 200
  · obtain ⟨hc0, hc1⟩ := hin
    obtain ⟨C, rfl⟩ := Int.eq_ofNat_of_zero_le hc0
    have hd1 : decide ((C : Int) < 0) = false := decide_eq_false (by omega)
    have hd2 : decide ((200 : Int) < (C : Int)) = false := decide_eq_false (by omega)
    have HR : Hid (∀ {w' : World}, Below w.heap.size w w' → SlV w' a (L.map (Value.int .i64))) := Lib.hid fun h => hr.below h
    clear hr
    go_wp2_with (first
      | (refine wpList_alloc_arr 26 [Value.slice none 0 0] zeroSg rfl rfl ?_; rw [← HW.out]))
    clear hd1 hd2
    go_loopw [6, 18] (fun v i wr => ∃ (n : Nat) (M : List Int), n ≤ C ∧ i = .int .i64 (n : Int) ∧ Hid (M = missA L n) ∧ M.length ≤ n ∧ wr.ownsRow W.heap.size 3 1 v M.length (M.map (Value.int .i64)) ∧
        W.heap.size ≤ wr.heap.size ∧ Below W.heap.size W wr) (fun _ i _ => C - (intOf i).toNat)
    case atStart => exact ⟨0, [], Nat.zero_le _, rfl, Lib.hid (missA_zero L).symm, by simp, World.ownsRow_nil _ _ _ _, Nat.le_refl _, Below.refl _ _⟩
    case round =>
      obtain ⟨n, M, hnC, rfl, HM, hMl, hown, hsz, hbel⟩ := hrel
      by_cases hlt : n < C
      · have hlti : (n : Int) < (C : Int) := by omega
        have c2 := impl_HasNumber L (n : Int) a cap wr (HR.out (hbW.trans (hbel.mono hsW))) (by unfold maxLen; omega)
        have hq0 : hasB L (n : Int) = isIn L n := rfl
        rw [hq0] at c2
        have hMS := missA_succ L n
        rw [← HM.out] at hMS
        clear hq0 hnC
        cases hq : isIn L n
        · have HY : Hid (M ++ [(n : Int)] = missA L (n + 1)) := Lib.hid (by rw [hMS, hq]; rfl)
          rw [hq] at c2
          clear hq hMS
          go_wp2_with fail
          refine c2.mono ?_
          rintro e w5 ⟨rfl, rfl⟩
          go_wp2_with (first
            | (at_builtin; refine wpList_append_own _ rfl (.tmp 25) (.tmp 27) 24 rfl W.heap.size 3 i0 (Value.int .i64 0) 1 8 Try.underlying24 hi hz0 hz1 hz2 rfl (by decide) _ _ _ rfl (hown.alloc _) ⟨_, 0, none⟩ 1 1 [.int .i64 (n : Int)] rfl rfl (World.news_of_block (cs := #[.int .i64 (n : Int)]) (t := 3) (fr := (0, 0)) (heap_alloc_new _ _)) (by simp [Value.oneCell']) (by unfold maxLen; omega) (by omega) (by simp; omega) ?_; intro v6 w6 hown6 hg6 _))
          have hbel6 := (hbel.alloc hsz (.cells #[.int .i64 (n : Int)] 3)).grown hg6 (by simp; omega) (fun j hj => (hown.lt j hj).1)
          have HO := Lib.hid hown6
          clear hown6 hg6
          go_roundw
          case rel => exact ⟨n + 1, M ++ [(n : Int)], by omega, by go_num, HY, by rw [List.length_append, List.length_singleton]; omega, by rw [List.length_append, List.length_singleton, List.map_append]; exact HO.out, hbel6.size, hbel6⟩
          case measure => simp [intOf]; omega
        · have HY : Hid (M = missA L (n + 1)) := Lib.hid (by rw [hMS, hq]; simp)
          rw [hq] at c2
          clear hq hMS
          go_wp2_with fail
          refine c2.mono ?_
          rintro e w5 ⟨rfl, rfl⟩
          go_wp2_with fail
          go_roundw
          case rel => exact ⟨n + 1, M, by omega, by go_num, HY, by omega, hown, hsz, hbel⟩
          case measure => simp [intOf]; omega
      · have hne : n = C := by omega
        have hnl : ¬ (n : Int) < (C : Int) := by omega
        rw [hne] at HM
        obtain ⟨hW1, hW2⟩ := fromEl_go (S := L) (C := C)
        rw [← HM.out] at hW1 hW2
        have HW1 := Lib.hid hW1
        have HW2 := Lib.hid hW2
        obtain ⟨a1, k1, rfl, rX⟩ := row_open hown
        have hbw := hbW.trans (hbel.mono hsW)
        have hA := hAW.below hbel
        have c2 := impl_FromGaps M a1 k1 wr rX.slv (by omega)
        have hml := fromGpL_len M
        have hsm := smallL_len (fromGpL M)
        clear hW1 hW2 HM hown rX hbel hlt hne
        go_wp2_with fail
        clear hnl
        refine c2.mono ?_
        rintro e w4 ⟨v4, rfl, ho4, hb4⟩
        obtain ⟨a4, k4, rfl, -⟩ := row_open ho4
        have hA4 := hA.below hb4
        have hbw4 := hbw.trans (hb4.mono hbw.size)
        have hs4 := hb4.size
        have hN := Arr.new w4 26 [Value.slice none 0 0]
        have hA4c := hA4.alloc (.cells [Value.slice none 0 0].toArray 26)
        have hbw5 := hbw4.alloc (o := .cells [Value.slice none 0 0].toArray 26) hbw4.size
        have ho4c := ho4.alloc (.cells [Value.slice none 0 0].toArray 26)
        have hlt4 := hA4.lt
        have hsw4 := hbw4.size
        have hn4 := own_apart ho4 (g := w4.heap.size) (.inr (Nat.le_refl _))
        have hn5 := own_apart ho4 (g := w.heap.size) (.inl (by omega))
        clear c2 hA hbw hb4
        generalize hK : fromGpL M = K at *
        cases hf : fromGpB M
        · have HF : Hid (fromElB L (C : Int) = false) := Lib.hid (by rw [HW1.out, hf]; rfl)
          clear hf
          go_wp2_with (first
            | (refine wpList_alloc_arr 26 [Value.slice none 0 0] zeroSg rfl rfl ?_)
            | (refine wpList_store_arr 26 (.tmp 8) (.tmp 33) w4.heap.size [Value.slice none 0 0] [Value.slice a4 K.length k4] rfl rfl rfl rfl hN rfl sizeSg (by simp [Value.oneCell']) ?_; intro w6 hN6 hg6 hz6; clear hz6)
            | (refine wpList_store_arr 26 (.tmp 4) (.tmp 44) w.heap.size [Value.slice none 0 0] [Value.slice none 0 0] rfl rfl rfl rfl (hA4c.grown hg6 (by simp; omega)) rfl sizeSg (by simp [Value.oneCell']) ?_; intro w9 hA9 hg9 hz9; clear hz9))
          have hb6 := hbw5.grown hg6 hbw5.size (fun k hk => by cases hk; exact hsw4)
          have hb9 := hb6.grown hg9 hb6.size (fun k hk => by cases hk; exact Nat.le_refl _)
          exact bodyPost_ret (results_arr_tmp rfl _ _ w.heap.size [Value.slice none 0 0] dS rfl hA9 hdS hrS sizeSg) rfl ⟨_, by rw [HF.out]; rfl, by rw [fromElL_no HF.out]; exact World.ownsRow_nil _ _ _ _, hb9⟩
        · have c6 := fun w' (h : SlV w' a4 (K.map (Value.int .i64))) => impl_SmallElements K a4 k4 w' h (by omega)
          rw [hf, Bool.true_and] at HW1
          clear hf
          have hs8 := hN.cell 0
          go_wp2_with (first
            | (refine wpList_alloc_arr 26 [Value.slice none 0 0] zeroSg rfl rfl ?_)
            | (refine wpList_store_arr 26 (.tmp 8) (.tmp 33) w4.heap.size [Value.slice none 0 0] [Value.slice a4 K.length k4] rfl rfl rfl rfl hN rfl sizeSg (by simp [Value.oneCell']) ?_; intro w6 hN6 hg6 hz6; clear hz6; have hcN := hN6.cell 0))
          have hb6 := hbw5.grown hg6 hbw5.size (fun k hk => by cases hk; exact hsw4)
          have hA6 := hA4c.grown hg6 (by simp; omega)
          have ho6 := ho4c.kept hg6 hn4
          obtain ⟨a6, k6, e6, rX6⟩ := row_open ho6
          cases e6
          have hs6 := hb6.size
          have d6 := c6 w6 rX6.slv
          clear hN hA4c hbw5 ho4c hg6 rX6 c6 ho4 hA4 hs8
          refine d6.mono ?_
          rintro e w8 ⟨v8, rfl, ho8, hb8⟩
          obtain ⟨a8, k8, rfl, rX8⟩ := row_open ho8
          have hA8 := hA6.below hb8
          have hN8 := hN6.below hb8
          have hoK8 := owns_below ho6 hb8
          have hbw8 := hb6.trans (hb8.mono hs6)
          have hs8 := hbw8.size
          have c7 := impl_same (smallL K) L a8 a k8 cap w8 rX8.slv (HR.out hbw8) (by omega) (by omega)
          clear d6 hcN hA6 hN6 ho6 hb6 hb8 rX8 ho8
          by_cases hsl : smallL K = L
          · have HF : Hid (fromElB L (C : Int) = true) := Lib.hid (by rw [HW1.out, decide_eq_true hsl])
            have HG : Hid (fromElL L (C : Int) = K) := Lib.hid (HW2.out HF.out)
            rw [decide_eq_true hsl] at c7
            clear hsl
            go_wp2_with fail
            refine c7.mono ?_
            rintro e w9 ⟨rfl, hb9⟩
            have hA9 := hA8.below hb9
            have hN9 := hN8.below hb9
            have hoK9 := owns_below hoK8 hb9
            have hbw9 := hbw8.trans (hb9.mono hs8)
            have hcN9 := hN9.cell 0
            clear c7 hA8 hN8 hoK8 hbw8 hb9
            generalize hKn : K.length = Kn at *
            go_wp2_with (first
              | (refine wpList_load_arr 26 (.tmp 8) w4.heap.size [Value.slice a4 Kn k4] dS rfl rfl rfl hN9 hdS hrS sizeSg ?_)
              | (refine wpList_store_arr 26 (.tmp 4) (.tmp 45) w.heap.size [Value.slice none 0 0] [Value.slice a4 Kn k4] rfl rfl rfl rfl hA9 rfl sizeSg (by simp [Value.oneCell']) ?_; intro wx hAx hgx hzx; clear hzx))
            have hbx := hbw9.grown hgx hbw9.size (fun k hk => by cases hk; exact Nat.le_refl _)
            have hox := hoK9.kept hgx hn5
            refine bodyPost_ret (results_arr_tmp rfl _ _ w.heap.size [Value.slice a4 Kn k4] dS rfl hAx hdS hrS sizeSg) rfl ⟨_, by rw [HF.out]; rfl, ?_, hbx⟩
            rw [HG.out, hKn]
            exact owns_wider hox (by omega)
          · have HF : Hid (fromElB L (C : Int) = false) := Lib.hid (by rw [HW1.out, decide_eq_false hsl])
            rw [decide_eq_false hsl] at c7
            clear hsl
            go_wp2_with fail
            refine c7.mono ?_
            rintro e w10 ⟨rfl, hb10⟩
            have hA10 := hA8.below hb10
            have hbw10 := hbw8.trans (hb10.mono hs8)
            clear c7 hA8 hN8 hoK8 hbw8 hb10
            go_wp2_with (first
              | (refine wpList_store_arr 26 (.tmp 4) (.tmp 44) w.heap.size [Value.slice none 0 0] [Value.slice none 0 0] rfl rfl rfl rfl hA10 rfl sizeSg (by simp [Value.oneCell']) ?_; intro w9 hA9 hg9 hz9; clear hz9))
            have hb9 := hbw10.grown hg9 hbw10.size (fun k hk => by cases hk; exact Nat.le_refl _)
            exact bodyPost_ret (results_arr_tmp rfl _ _ w.heap.size [Value.slice none 0 0] dS rfl hA9 hdS hrS sizeSg) rfl ⟨_, by rw [HF.out]; rfl, by rw [fromElL_no HF.out]; exact World.ownsRow_nil _ _ _ _, hb9⟩
  · have HF : Hid (fromElB L c = false) := Lib.hid (by
      cases h : fromElB L c
      · rfl
      · exact absurd (fromEl_cond h) hin)
    clear hr
    by_cases h0 : c < 0
    · have hd1 := decide_eq_true h0
      go_wp2_with (first
        | (refine wpList_alloc_arr 26 [Value.slice none 0 0] zeroSg rfl rfl ?_; rw [← HW.out])
        | (refine wpList_store_arr 26 (.tmp 4) (.tmp 16) w.heap.size [Value.slice none 0 0] [Value.slice none 0 0] rfl rfl rfl rfl hAW rfl sizeSg (by simp [Value.oneCell']) ?_; intro w9 hA9 hg9 hz9; clear hz9))
      have hb9 := hbW.grown hg9 hbW.size (fun k hk => by cases hk; exact Nat.le_refl _)
      exact bodyPost_ret (results_arr_tmp rfl _ _ w.heap.size [Value.slice none 0 0] dS rfl hA9 hdS hrS sizeSg) rfl ⟨_, by rw [HF.out]; rfl, by rw [fromElL_no HF.out]; exact World.ownsRow_nil _ _ _ _, hb9⟩
    · have hd1 := decide_eq_false h0
      have hd2 : decide ((200 : Int) < c) = true := decide_eq_true (by omega)
      go_wp2_with (first
        | (refine wpList_alloc_arr 26 [Value.slice none 0 0] zeroSg rfl rfl ?_; rw [← HW.out])
        | (refine wpList_store_arr 26 (.tmp 4) (.tmp 16) w.heap.size [Value.slice none 0 0] [Value.slice none 0 0] rfl rfl rfl rfl hAW rfl sizeSg (by simp [Value.oneCell']) ?_; intro w9 hA9 hg9 hz9; clear hz9))
      have hb9 := hbW.grown hg9 hbW.size (fun k hk => by cases hk; exact Nat.le_refl _)
      exact bodyPost_ret (results_arr_tmp rfl _ _ w.heap.size [Value.slice none 0 0] dS rfl hA9 hdS hrS sizeSg) rfl ⟨_, by rw [HF.out]; rfl, by rw [fromElL_no HF.out]; exact World.ownsRow_nil _ _ _ _, hb9⟩
end Go.Proofs.Ytgkkkmcgnpdchaa
