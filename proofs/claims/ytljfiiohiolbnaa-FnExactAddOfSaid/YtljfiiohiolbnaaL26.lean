/-
  CHAPTER 8 OF THE REFERENCE: FromGaps. (Own work.)
-/
import Derived.Test.YtljfiiohiolbnaaSgP
import Derived.Test.YtljfiiohiolbnaaL24
import Derived.Test.YtljfiiohiolbnaaL25
namespace Go.Proofs.Ytljfiiohiolbnaa
open Go Go.RowKit

theorem primL_yes {L : List Int} {n : Nat} (h1 : 1 ≤ n) (h2 : isIn L n = false) (h3 : sumB (primL L n) n = false) : primL L (n + 1) = primL L n ++ [(n : Int)] := by
  rw [primL, if_pos (by rw [decide_eq_true h1, h2, h3]; rfl)]
theorem primL_no {L : List Int} {n : Nat} (h : isIn L n = true ∨ sumB (primL L n) n = true) : primL L (n + 1) = primL L n := by
  rw [primL, if_neg]
  rcases h with h | h <;> rw [h] <;> simp
set_option maxRecDepth 100000 in
set_option maxHeartbeats 3200000 in
theorem spec_FromGaps (L : List Int) (a : Option Addr) (cap : Nat) (w : World) (hr : SlV w a (L.map (Value.int .i64))) (hb : L.length ≤ 1048576) :
    Calls Try.prog 51 #[.slice a L.length cap] w (SgPost (fromGpL L) (fromGpB L) w) := by
  obtain ⟨i0, hi, hz0, hz1, hz2⟩ := info_parts infoIntL
  obtain ⟨dS, hdS, hrS⟩ := undSg
  obtain ⟨W, hW⟩ : ∃ W, W = w.alloc (.cells [Value.slice none 0 0].toArray 26) := ⟨_, rfl⟩
  have hbW : Below w.heap.size w W := by rw [hW]; exact box_below _ _
  have hAW : Arr W w.heap.size 26 [Value.slice none 0 0] := by rw [hW]; exact Arr.new _ _ _
  have HW := Lib.hid hW
  clear hW
  have c1 := spec_GapClash L a cap W (hr.below hbW) hb
  have cg := fun w' (h : SlV w' a (L.map (Value.int .i64))) => spec_l8Gaps L a cap w' h hb
  go_enter Try.func51, Try.ntmps51
  go_wp2_with (first
    | (refine wpList_alloc_arr 26 [Value.slice none 0 0] zeroSg rfl rfl ?_; rw [← HW.out]))
  refine c1.mono ?_
  rintro e w1 ⟨rfl, hb1⟩
  have hb01 := hbW.trans (hb1.mono hbW.size)
  have hA1 := hAW.below hb1
  have hz01 := hA1.lt
  have hC := Arr.new w1 79 [Value.int .i64 0, Value.int .i64 0]
  have hbC := hb01.alloc (o := .cells [Value.int .i64 0, Value.int .i64 0].toArray 79) hb01.size
  have hA1c := hA1.alloc (.cells [Value.int .i64 0, Value.int .i64 0].toArray 79)
  have hs01 := hb01.size
  clear c1 hAW hb1 hbW
  go_wp2_with (first
    | (refine wpList_alloc_arr 79 [Value.int .i64 0, Value.int .i64 0] zeroC rfl rfl ?_)
    | (refine wpList_store_arr 79 (.tmp 4) (.tmp 13) w1.heap.size [Value.int .i64 0, Value.int .i64 0] [Value.int .i64 (gapA L), Value.int .i64 (gapB' L)] rfl rfl rfl rfl hC rfl sizeC (by simp [Value.oneCell']) ?_; intro w2 hC2 hg2 hz2'; clear hz2'))
  have hb2 := hbC.grown hg2 hbC.size (fun k hk => by cases hk; exact hs01)
  have hA2 := hA1c.grown hg2 (by simp; omega)
  have hs2 := hb2.size
  have c2 := cg w2 (hr.below hb2)
  clear hC hbC hA1c hg2 hC2 hA1 cg
  refine c2.mono ?_
  rintro e w3 ⟨rfl, hb3⟩
  have hA3 := hA2.below hb3
  have hb03 := hb2.trans (hb3.mono hs2)
  have hs3 := hb03.size
  have hlt3 := hA3.lt
  clear c2 hA2 hb2 hb3
  by_cases hbad : okGp L = false ∨ gapQ L = true
  · have hF : fromGpB L = false := by
      cases h : fromGpB L
      · rfl
      · obtain ⟨h1, h2⟩ := fromGp_clash h
        rcases hbad with h3 | h3
        · rw [h1] at h3; cases h3
        · unfold gapQ at h3; rw [h2] at h3; cases h3
    have HF := Lib.hid hF
    clear hF hr
    cases hok : okGp L
    · clear hok hbad
      go_wp2_with (first
        | (refine wpList_store_arr 26 (.tmp 2) (.tmp 21) w.heap.size [Value.slice none 0 0] [Value.slice none 0 0] rfl rfl rfl rfl hA3 rfl sizeSg (by simp [Value.oneCell']) ?_; intro w4 hA4 hg4 hz4; clear hz4))
      have hb4 := hb03.grown hg4 hb03.size (fun k hk => by cases hk; exact Nat.le_refl _)
      exact bodyPost_ret (results_arr_tmp rfl _ _ w.heap.size [Value.slice none 0 0] dS rfl hA4 hdS hrS sizeSg) rfl ⟨_, by rw [HF.out]; rfl, by rw [fromGpL_no HF.out]; exact World.ownsRow_nil _ _ _ _, hb4⟩
    · have hq : gapQ L = true := by
        rcases hbad with h | h
        · rw [hok] at h; cases h
        · exact h
      rw [hq]
      clear hok hbad hq
      go_wp2_with (first
        | (refine wpList_store_arr 26 (.tmp 2) (.tmp 21) w.heap.size [Value.slice none 0 0] [Value.slice none 0 0] rfl rfl rfl rfl hA3 rfl sizeSg (by simp [Value.oneCell']) ?_; intro w4 hA4 hg4 hz4; clear hz4))
      have hb4 := hb03.grown hg4 hb03.size (fun k hk => by cases hk; exact Nat.le_refl _)
      exact bodyPost_ret (results_arr_tmp rfl _ _ w.heap.size [Value.slice none 0 0] dS rfl hA4 hdS hrS sizeSg) rfl ⟨_, by rw [HF.out]; rfl, by rw [fromGpL_no HF.out]; exact World.ownsRow_nil _ _ _ _, hb4⟩
  · have hok : okGp L = true := by
      cases h : okGp L
      · exact absurd (.inl h) hbad
      · rfl
    have hq : gapQ L = false := by
      cases h : gapQ L
      · rfl
      · exact absurd (.inr h) hbad
    have hno : gapR L = none := by
      unfold gapQ at hq
      cases h : gapR L with
      | none => rfl
      | some p => rw [h] at hq; cases hq
    rw [hok, hq]
    clear hbad hq
    by_cases hn : L = []
    · have hl0 : decide ((0 : Int) < (L.length : Int)) = false := by rw [hn]; rfl
      have hl0' : decide (0 < L.length) = false := by rw [hn]; rfl
      obtain ⟨hF1, hF2⟩ := fromGp_prim hok hno (m := 0) (fun n h => by rw [hn] at h; simp [isIn] at h)
      have HF1 := Lib.hid hF1
      have HF2 := Lib.hid hF2
      have hlM := primL_len L (2 * 0 + 3)
      have hown0 : (w3.alloc (.cells #[] 3)).ownsRow w3.heap.size 3 1 (.slice (some ⟨w3.heap.size, 0, none⟩) 0 0) 0 [] := World.ownsRow_lit w3 #[] 0 (Nat.le_refl _) (by simp) rfl
      have hA4 := hA3.alloc (.cells #[] 3)
      have hSW := hr.below hb03
      clear hr hF1 hF2 hok hno hn
      go_wp2_with fail
      go_loopw [6, 8] (fun v i wr => ∃ (n : Nat) (M : List Int), 1 ≤ n ∧ n ≤ 2 * 0 + 3 ∧ i = .int .i64 (n : Int) ∧ Hid (M = primL L n) ∧ M.length ≤ n ∧ wr.ownsRow w3.heap.size 3 1 v M.length (M.map (Value.int .i64)) ∧
          Arr wr w.heap.size 26 [Value.slice none 0 0] ∧ w3.heap.size ≤ wr.heap.size ∧ Below w3.heap.size w3 wr) (fun _ i _ => 2 * 0 + 3 - (intOf i).toNat)
      case atStart => exact ⟨1, [], Nat.le_refl _, by omega, rfl, Lib.hid (by simp [primL]), by simp, hown0, hA4, by simp, box_below _ _⟩
      case round =>
        clear hown0 hA4
        obtain ⟨n, M, hn1, hnm, rfl, HM, hMl, hown, hA, hsz, hbel⟩ := hrel
        have hSr := hSW.below hbel
        by_cases hlt : n ≤ 2 * 0 + 2
        · have hcmp : (n : Int) ≤ 2 := by omega
          have hcmp' := decide_eq_true hcmp
          have c1 := spec_HasNumber L (n : Int) a cap wr hSr (by unfold maxLen; omega)
          have hq0 : hasB L (n : Int) = isIn L n := rfl
          rw [hq0] at c1
          clear hq0 hSr
          cases hq : isIn L n
          · rw [hq] at c1
            obtain ⟨a1, k1, rfl, rX⟩ := row_open hown
            by_cases hM0 : M.length = 0
            · have HPY : Hid (M ++ [(n : Int)] = primL L (n + 1)) := Lib.hid (by
                rw [primL_yes hn1 hq, HM.out]
                rw [← HM.out, List.eq_nil_of_length_eq_zero hM0]
                exact sumB_false.2 fun h => by have := isSum_nil h; omega)
              have hm0' : decide ((0 : Int) < (M.length : Int)) = false := decide_eq_false (by omega)
              have hm0'' : decide (0 < M.length) = false := decide_eq_false (by omega)
              clear hq rX hM0 hlt
              go_wp2_with fail
              refine c1.mono ?_
              rintro e w5 ⟨rfl, rfl⟩

              go_wp2_with (first
                | (at_builtin; refine wpList_append_own _ rfl (.tmp 55) (.tmp 57) 24 rfl w3.heap.size 3 i0 (Value.int .i64 0) 1 8 Try.underlying24 hi hz0 hz1 hz2 rfl (by decide) _ _ _ rfl (hown.alloc _) ⟨_, 0, none⟩ 1 1 [.int .i64 (n : Int)] rfl rfl (World.news_of_block (cs := #[.int .i64 (n : Int)]) (t := 3) (fr := (0, 0)) (heap_alloc_new _ _)) (by simp [Value.oneCell']) (by unfold maxLen; omega) (by omega) (by simp; omega) ?_; intro v6 w6 hown6 hg6 _))
              have hA6 := Arr.grown (hA.alloc (.cells #[.int .i64 (n : Int)] 3)) hg6 (fun e => by have := hown.lt w.heap.size e.symm; omega)
              have hbel6 := (hbel.alloc hsz (.cells #[.int .i64 (n : Int)] 3)).grown hg6 (by simp; omega) (fun j hj => (hown.lt j hj).1)
              have HO := Lib.hid hown6
              clear hown6 hg6
              go_roundw
              case rel => exact ⟨n + 1, M ++ [(n : Int)], by omega, by omega, by go_num, HPY.out, by rw [List.length_append, List.length_singleton]; omega, by rw [List.length_append, List.length_singleton, List.map_append]; exact HO.out, hA6, hbel6.size, hbel6⟩
              case measure => simp [intOf]; omega
            · have hm0 : (0 : Int) < (M.length : Int) := by omega
              have hm0' := decide_eq_true hm0
              have hm0'' : decide (0 < M.length) = true := decide_eq_true (by omega)
              have c2 := spec_l3Table M a1 k1 n wr rX.slv (by omega) (fun x hx => by rw [HM.out] at hx; exact (primL_lt hx).1) (by omega)
              have hn0 : (0 : Int) ≤ (n : Int) := by omega
              have hn9 : (n : Int) < (n : Int) + 1 := by omega
              have hn8 : (n : Int) < ((n + 1 : Nat) : Int) := by omega
              have HPN : Hid (sumB M n = true → M = primL L (n + 1)) := Lib.hid fun h => by rw [primL_no (.inr (by rw [← HM.out]; exact h)), HM.out]
              have HPY : Hid (sumB M n = false → M ++ [(n : Int)] = primL L (n + 1)) := Lib.hid fun h => by rw [primL_yes hn1 hq (by rw [← HM.out]; exact h), HM.out]
              clear hq rX hM0 hlt
              go_wp2_with fail
              refine c1.mono ?_
              rintro e w5 ⟨rfl, rfl⟩
              go_wp2_with fail
              refine c2.mono ?_
              rintro e w5 ⟨v5, rfl, ho5, hb5⟩
              obtain ⟨g, cg, rfl, ht⟩ := tab_last ho5
              have hcT := ht n (Nat.le_refl _)
              have hown5 := owns_below hown hb5
              have hA5 := hA.below hb5
              have hbel5 := hbel.trans (hb5.mono hsz)
              have hsz5 := Nat.le_trans hsz hb5.size
              clear c1 c2 ht ho5 hb5 hown hA hbel hsz
              cases hs : sumB M n
              · rw [hs] at hcT
                replace HPY := Lib.hid (HPY.out hs)
                clear HPN hs

                go_wp2_with (first
                  | (at_builtin; refine wpList_append_own _ rfl (.tmp 55) (.tmp 57) 24 rfl w3.heap.size 3 i0 (Value.int .i64 0) 1 8 Try.underlying24 hi hz0 hz1 hz2 rfl (by decide) _ _ _ rfl (hown5.alloc _) ⟨_, 0, none⟩ 1 1 [.int .i64 (n : Int)] rfl rfl (World.news_of_block (cs := #[.int .i64 (n : Int)]) (t := 3) (fr := (0, 0)) (heap_alloc_new _ _)) (by simp [Value.oneCell']) (by unfold maxLen; omega) (by omega) (by simp; omega) ?_; intro v6 w6 hown6 hg6 _))
                have hA6 := Arr.grown (hA5.alloc (.cells #[.int .i64 (n : Int)] 3)) hg6 (fun e => by have := hown5.lt w.heap.size e.symm; omega)
                have hbel6 := (hbel5.alloc hsz5 (.cells #[.int .i64 (n : Int)] 3)).grown hg6 (by simp; omega) (fun j hj => (hown5.lt j hj).1)
                have HO := Lib.hid hown6
                clear hown6 hg6
                go_roundw
                case rel => exact ⟨n + 1, M ++ [(n : Int)], by omega, by omega, by go_num, HPY.out, by rw [List.length_append, List.length_singleton]; omega, by rw [List.length_append, List.length_singleton, List.map_append]; exact HO.out, hA6, hbel6.size, hbel6⟩
                case measure => simp [intOf]; omega
              · rw [hs] at hcT
                replace HPN := Lib.hid (HPN.out hs)
                clear HPY hs

                go_wp2_with fail
                go_roundw
                case rel => exact ⟨n + 1, M, by omega, by omega, by go_num, HPN.out, by omega, hown5, hA5, hbel5.size, hbel5⟩
                case measure => simp [intOf]; omega
          · rw [hq] at c1
            have HPN : Hid (M = primL L (n + 1)) := Lib.hid (by rw [primL_no (.inl hq), HM.out])
            clear hq hlt
            go_wp2_with fail
            refine c1.mono ?_
            rintro e w5 ⟨rfl, rfl⟩

            go_wp2_with fail
            go_roundw
            case rel => exact ⟨n + 1, M, by omega, by omega, by go_num, HPN.out, by omega, hown, hA, hbel.size, hbel⟩
            case measure => simp [intOf]; omega
        · have hcmp : ¬ (n : Int) ≤ 2 := by omega
          have hcmp' := decide_eq_false hcmp
          have hne : n = 2 * 0 + 3 := by omega
          have hbw := hb03.trans (hbel.mono hs3)
          rw [hne] at HM
          rw [← HM.out] at HF1 HF2 hlM
          obtain ⟨a1, k1, rfl, rX⟩ := row_open hown
          have hN := Arr.new wr 26 [Value.slice none 0 0]
          have hAc := hA.alloc (.cells [Value.slice none 0 0].toArray 26)
          have hbwc := hbw.alloc (o := .cells [Value.slice none 0 0].toArray 26) hbw.size
          have hownc := hown.alloc (.cells [Value.slice none 0 0].toArray 26)
          have hltA := hA.lt
          have hn4 := own_apart hown (g := wr.heap.size) (.inr (Nat.le_refl _))
          have hn5 := own_apart hown (g := w.heap.size) (.inl (by omega))
          have hsv := rX.slv
          have hs5 := hbw.size
          clear hbel hSr hlt hne HM hA hbw hown rX
          go_wp2_with (first
            | (refine wpList_alloc_arr 26 [Value.slice none 0 0] zeroSg rfl rfl ?_)
            | (refine wpList_store_arr 26 (.tmp 9) (.tmp 60) wr.heap.size [Value.slice none 0 0] [Value.slice a1 M.length k1] rfl rfl rfl rfl hN rfl sizeSg (by simp [Value.oneCell']) ?_; intro w6 hN6 hg6 hz6; clear hz6)
            | (refine wpList_load_arr 26 (.tmp 9) wr.heap.size [Value.slice a1 M.length k1] dS rfl rfl rfl hN6 hdS hrS sizeSg ?_))
          have hb6 := hbwc.grown hg6 hbwc.size (fun k hk => by cases hk; exact hs5)
          have hA6 := hAc.grown hg6 (by simp; omega)
          have hown6 := hownc.kept hg6 hn4
          have hs6 := hb6.size
          obtain ⟨a1', k1', e1, rX6⟩ := row_open hown6
          cases e1
          have c4 := spec_IsSemigroup M a1 k1 w6 rX6.slv (by omega)
          rw [HF1.out] at c4
          have hlN := hN6.lt
          clear hN hAc hbwc hownc hg6 hsv rX6
          refine c4.mono ?_
          rintro e w7 ⟨rfl, hb7⟩
          have hA7 := hA6.below hb7
          have hN7 := hN6.below hb7
          have hown7 := owns_below hown6 hb7
          have hbw7 := hb6.trans (hb7.mono hs6)
          clear c4 hA6 hN6 hown6 hb6 hb7
          cases hf : fromGpB L
          · have HF := Lib.hid hf
            clear hf
            go_wp2_with (first
              | (refine wpList_store_arr 26 (.tmp 2) (.tmp 64) w.heap.size [Value.slice none 0 0] [Value.slice none 0 0] rfl rfl rfl rfl hA7 rfl sizeSg (by simp [Value.oneCell']) ?_; intro w8 hA8 hg8 hz8; clear hz8))
            have hb8 := hbw7.grown hg8 hbw7.size (fun k hk => by cases hk; exact Nat.le_refl _)
            exact bodyPost_ret (results_arr_tmp rfl _ _ w.heap.size [Value.slice none 0 0] dS rfl hA8 hdS hrS sizeSg) rfl ⟨_, by rw [HF.out]; rfl, by rw [fromGpL_no HF.out]; exact World.ownsRow_nil _ _ _ _, hb8⟩
          · have HF := Lib.hid hf
            have HG := Lib.hid (HF2.out hf)
            clear hf
            generalize hK : M.length = K at *
            go_wp2_with (first
              | (refine wpList_load_arr 26 (.tmp 9) wr.heap.size [Value.slice a1 K k1] dS rfl rfl rfl hN7 hdS hrS sizeSg ?_)
              | (refine wpList_store_arr 26 (.tmp 2) (.tmp 65) w.heap.size [Value.slice none 0 0] [Value.slice a1 K k1] rfl rfl rfl rfl hA7 rfl sizeSg (by simp [Value.oneCell']) ?_; intro w8 hA8 hg8 hz8; clear hz8))
            have hb8 := hbw7.grown hg8 hbw7.size (fun k hk => by cases hk; exact Nat.le_refl _)
            have hown8 := hown7.kept hg8 hn5
            refine bodyPost_ret (results_arr_tmp rfl _ _ w.heap.size [Value.slice a1 K k1] dS rfl hA8 hdS hrS sizeSg) rfl ⟨_, by rw [HF.out]; rfl, ?_, hb8⟩
            rw [HG.out, hK]
            exact owns_wider hown8 (by omega)
    · obtain ⟨m, hm1, hm2, hm3, hm4, hm5⟩ := okGp_last hok hn
      have hp := List.length_pos_iff.2 hn
      have hl0 : (0 : Int) < (L.length : Int) := by omega
      obtain ⟨b, off, rfl, hbs, hc⟩ := (hr.below hb03).open (by intro h; rw [List.map_eq_nil_iff] at h; exact hn h)
      have hcl : w3.cell? ⟨b, off + (L.length - 1), none⟩ = some (.int .i64 (m : Int)) := hc (L.length - 1) _ (by rw [List.getElem?_map, hm1]; rfl)
      obtain ⟨l1, hl1⟩ : ∃ l1, l1 = L.length - 1 := ⟨_, rfl⟩
      rw [← hl1] at hcl
      have hcl' : (w3.alloc (.cells #[] 3)).cell? ⟨b, off + l1, none⟩ = some (.int .i64 (m : Int)) := (World.cell?_alloc_lt w3 _ ⟨b, off + l1, none⟩ hbs).trans hcl
      have hwl : (L.length : Int) - 1 = (l1 : Int) := by omega
      have hv1 : (0 : Int) ≤ (l1 : Int) := by omega
      have hv2 : (l1 : Int) < (L.length : Int) := by omega
      clear hc hm1 hl1
      obtain ⟨hF1, hF2⟩ := fromGp_prim hok hno hm5
      have HF1 := Lib.hid hF1
      have HF2 := Lib.hid hF2
      have hw1 : IntKind.i64.wrap (2 * (m : Int)) = 2 * (m : Int) := IntWalk.i64_in _ (by omega)
      have hw2 : IntKind.i64.wrap (2 * (m : Int) + 2) = 2 * (m : Int) + 2 := IntWalk.i64_in _ (by omega)
      have hlM := primL_len L (2 * m + 3)
      have hown0 : (w3.alloc (.cells #[] 3)).ownsRow w3.heap.size 3 1 (.slice (some ⟨w3.heap.size, 0, none⟩) 0 0) 0 [] := World.ownsRow_lit w3 #[] 0 (Nat.le_refl _) (by simp) rfl
      have hA4 := hA3.alloc (.cells #[] 3)
      have hSW := hr.below hb03
      clear hr hF1 hF2 hok hno
      go_wp2_with fail
      go_loopw [6, 8] (fun v i wr => ∃ (n : Nat) (M : List Int), 1 ≤ n ∧ n ≤ 2 * m + 3 ∧ i = .int .i64 (n : Int) ∧ Hid (M = primL L n) ∧ M.length ≤ n ∧ wr.ownsRow w3.heap.size 3 1 v M.length (M.map (Value.int .i64)) ∧
          Arr wr w.heap.size 26 [Value.slice none 0 0] ∧ w3.heap.size ≤ wr.heap.size ∧ Below w3.heap.size w3 wr) (fun _ i _ => 2 * m + 3 - (intOf i).toNat)
      case atStart => exact ⟨1, [], Nat.le_refl _, by omega, rfl, Lib.hid (by simp [primL]), by simp, hown0, hA4, by simp, box_below _ _⟩
      case round =>
        clear hown0 hA4
        obtain ⟨n, M, hn1, hnm, rfl, HM, hMl, hown, hA, hsz, hbel⟩ := hrel
        have hSr := hSW.below hbel
        by_cases hlt : n ≤ 2 * m + 2
        · have hcmp : (n : Int) ≤ 2 * (m : Int) + 2 := by omega
          have hcmp' := decide_eq_true hcmp
          have c1 := spec_HasNumber L (n : Int) (some ⟨b, off, none⟩) cap wr hSr (by unfold maxLen; omega)
          have hq0 : hasB L (n : Int) = isIn L n := rfl
          rw [hq0] at c1
          clear hq0 hSr
          cases hq : isIn L n
          · rw [hq] at c1
            obtain ⟨a1, k1, rfl, rX⟩ := row_open hown
            by_cases hM0 : M.length = 0
            · have HPY : Hid (M ++ [(n : Int)] = primL L (n + 1)) := Lib.hid (by
                rw [primL_yes hn1 hq, HM.out]
                rw [← HM.out, List.eq_nil_of_length_eq_zero hM0]
                exact sumB_false.2 fun h => by have := isSum_nil h; omega)
              have hm0' : decide ((0 : Int) < (M.length : Int)) = false := decide_eq_false (by omega)
              have hm0'' : decide (0 < M.length) = false := decide_eq_false (by omega)
              clear hq rX hM0 hlt
              go_wp2_with fail
              refine c1.mono ?_
              rintro e w5 ⟨rfl, rfl⟩

              go_wp2_with (first
                | (at_builtin; refine wpList_append_own _ rfl (.tmp 55) (.tmp 57) 24 rfl w3.heap.size 3 i0 (Value.int .i64 0) 1 8 Try.underlying24 hi hz0 hz1 hz2 rfl (by decide) _ _ _ rfl (hown.alloc _) ⟨_, 0, none⟩ 1 1 [.int .i64 (n : Int)] rfl rfl (World.news_of_block (cs := #[.int .i64 (n : Int)]) (t := 3) (fr := (0, 0)) (heap_alloc_new _ _)) (by simp [Value.oneCell']) (by unfold maxLen; omega) (by omega) (by simp; omega) ?_; intro v6 w6 hown6 hg6 _))
              have hA6 := Arr.grown (hA.alloc (.cells #[.int .i64 (n : Int)] 3)) hg6 (fun e => by have := hown.lt w.heap.size e.symm; omega)
              have hbel6 := (hbel.alloc hsz (.cells #[.int .i64 (n : Int)] 3)).grown hg6 (by simp; omega) (fun j hj => (hown.lt j hj).1)
              have HO := Lib.hid hown6
              clear hown6 hg6
              go_roundw
              case rel => exact ⟨n + 1, M ++ [(n : Int)], by omega, by omega, by go_num, HPY.out, by rw [List.length_append, List.length_singleton]; omega, by rw [List.length_append, List.length_singleton, List.map_append]; exact HO.out, hA6, hbel6.size, hbel6⟩
              case measure => simp [intOf]; omega
            · have hm0 : (0 : Int) < (M.length : Int) := by omega
              have hm0' := decide_eq_true hm0
              have hm0'' : decide (0 < M.length) = true := decide_eq_true (by omega)
              have c2 := spec_l3Table M a1 k1 n wr rX.slv (by omega) (fun x hx => by rw [HM.out] at hx; exact (primL_lt hx).1) (by omega)
              have hn0 : (0 : Int) ≤ (n : Int) := by omega
              have hn9 : (n : Int) < (n : Int) + 1 := by omega
              have hn8 : (n : Int) < ((n + 1 : Nat) : Int) := by omega
              have HPN : Hid (sumB M n = true → M = primL L (n + 1)) := Lib.hid fun h => by rw [primL_no (.inr (by rw [← HM.out]; exact h)), HM.out]
              have HPY : Hid (sumB M n = false → M ++ [(n : Int)] = primL L (n + 1)) := Lib.hid fun h => by rw [primL_yes hn1 hq (by rw [← HM.out]; exact h), HM.out]
              clear hq rX hM0 hlt
              go_wp2_with fail
              refine c1.mono ?_
              rintro e w5 ⟨rfl, rfl⟩
              go_wp2_with fail
              refine c2.mono ?_
              rintro e w5 ⟨v5, rfl, ho5, hb5⟩
              obtain ⟨g, cg, rfl, ht⟩ := tab_last ho5
              have hcT := ht n (Nat.le_refl _)
              have hown5 := owns_below hown hb5
              have hA5 := hA.below hb5
              have hbel5 := hbel.trans (hb5.mono hsz)
              have hsz5 := Nat.le_trans hsz hb5.size
              clear c1 c2 ht ho5 hb5 hown hA hbel hsz
              cases hs : sumB M n
              · rw [hs] at hcT
                replace HPY := Lib.hid (HPY.out hs)
                clear HPN hs

                go_wp2_with (first
                  | (at_builtin; refine wpList_append_own _ rfl (.tmp 55) (.tmp 57) 24 rfl w3.heap.size 3 i0 (Value.int .i64 0) 1 8 Try.underlying24 hi hz0 hz1 hz2 rfl (by decide) _ _ _ rfl (hown5.alloc _) ⟨_, 0, none⟩ 1 1 [.int .i64 (n : Int)] rfl rfl (World.news_of_block (cs := #[.int .i64 (n : Int)]) (t := 3) (fr := (0, 0)) (heap_alloc_new _ _)) (by simp [Value.oneCell']) (by unfold maxLen; omega) (by omega) (by simp; omega) ?_; intro v6 w6 hown6 hg6 _))
                have hA6 := Arr.grown (hA5.alloc (.cells #[.int .i64 (n : Int)] 3)) hg6 (fun e => by have := hown5.lt w.heap.size e.symm; omega)
                have hbel6 := (hbel5.alloc hsz5 (.cells #[.int .i64 (n : Int)] 3)).grown hg6 (by simp; omega) (fun j hj => (hown5.lt j hj).1)
                have HO := Lib.hid hown6
                clear hown6 hg6
                go_roundw
                case rel => exact ⟨n + 1, M ++ [(n : Int)], by omega, by omega, by go_num, HPY.out, by rw [List.length_append, List.length_singleton]; omega, by rw [List.length_append, List.length_singleton, List.map_append]; exact HO.out, hA6, hbel6.size, hbel6⟩
                case measure => simp [intOf]; omega
              · rw [hs] at hcT
                replace HPN := Lib.hid (HPN.out hs)
                clear HPY hs

                go_wp2_with fail
                go_roundw
                case rel => exact ⟨n + 1, M, by omega, by omega, by go_num, HPN.out, by omega, hown5, hA5, hbel5.size, hbel5⟩
                case measure => simp [intOf]; omega
          · rw [hq] at c1
            have HPN : Hid (M = primL L (n + 1)) := Lib.hid (by rw [primL_no (.inl hq), HM.out])
            clear hq hlt
            go_wp2_with fail
            refine c1.mono ?_
            rintro e w5 ⟨rfl, rfl⟩

            go_wp2_with fail
            go_roundw
            case rel => exact ⟨n + 1, M, by omega, by omega, by go_num, HPN.out, by omega, hown, hA, hbel.size, hbel⟩
            case measure => simp [intOf]; omega
        · have hcmp : ¬ (n : Int) ≤ 2 * (m : Int) + 2 := by omega
          have hcmp' := decide_eq_false hcmp
          have hne : n = 2 * m + 3 := by omega
          have hbw := hb03.trans (hbel.mono hs3)
          rw [hne] at HM
          rw [← HM.out] at HF1 HF2 hlM
          obtain ⟨a1, k1, rfl, rX⟩ := row_open hown
          have hN := Arr.new wr 26 [Value.slice none 0 0]
          have hAc := hA.alloc (.cells [Value.slice none 0 0].toArray 26)
          have hbwc := hbw.alloc (o := .cells [Value.slice none 0 0].toArray 26) hbw.size
          have hownc := hown.alloc (.cells [Value.slice none 0 0].toArray 26)
          have hltA := hA.lt
          have hn4 := own_apart hown (g := wr.heap.size) (.inr (Nat.le_refl _))
          have hn5 := own_apart hown (g := w.heap.size) (.inl (by omega))
          have hsv := rX.slv
          have hs5 := hbw.size
          clear hbel hSr hlt hne HM hA hbw hown rX
          go_wp2_with (first
            | (refine wpList_alloc_arr 26 [Value.slice none 0 0] zeroSg rfl rfl ?_)
            | (refine wpList_store_arr 26 (.tmp 9) (.tmp 60) wr.heap.size [Value.slice none 0 0] [Value.slice a1 M.length k1] rfl rfl rfl rfl hN rfl sizeSg (by simp [Value.oneCell']) ?_; intro w6 hN6 hg6 hz6; clear hz6)
            | (refine wpList_load_arr 26 (.tmp 9) wr.heap.size [Value.slice a1 M.length k1] dS rfl rfl rfl hN6 hdS hrS sizeSg ?_))
          have hb6 := hbwc.grown hg6 hbwc.size (fun k hk => by cases hk; exact hs5)
          have hA6 := hAc.grown hg6 (by simp; omega)
          have hown6 := hownc.kept hg6 hn4
          have hs6 := hb6.size
          obtain ⟨a1', k1', e1, rX6⟩ := row_open hown6
          cases e1
          have c4 := spec_IsSemigroup M a1 k1 w6 rX6.slv (by omega)
          rw [HF1.out] at c4
          have hlN := hN6.lt
          clear hN hAc hbwc hownc hg6 hsv rX6
          refine c4.mono ?_
          rintro e w7 ⟨rfl, hb7⟩
          have hA7 := hA6.below hb7
          have hN7 := hN6.below hb7
          have hown7 := owns_below hown6 hb7
          have hbw7 := hb6.trans (hb7.mono hs6)
          clear c4 hA6 hN6 hown6 hb6 hb7
          cases hf : fromGpB L
          · have HF := Lib.hid hf
            clear hf
            go_wp2_with (first
              | (refine wpList_store_arr 26 (.tmp 2) (.tmp 64) w.heap.size [Value.slice none 0 0] [Value.slice none 0 0] rfl rfl rfl rfl hA7 rfl sizeSg (by simp [Value.oneCell']) ?_; intro w8 hA8 hg8 hz8; clear hz8))
            have hb8 := hbw7.grown hg8 hbw7.size (fun k hk => by cases hk; exact Nat.le_refl _)
            exact bodyPost_ret (results_arr_tmp rfl _ _ w.heap.size [Value.slice none 0 0] dS rfl hA8 hdS hrS sizeSg) rfl ⟨_, by rw [HF.out]; rfl, by rw [fromGpL_no HF.out]; exact World.ownsRow_nil _ _ _ _, hb8⟩
          · have HF := Lib.hid hf
            have HG := Lib.hid (HF2.out hf)
            clear hf
            generalize hK : M.length = K at *
            go_wp2_with (first
              | (refine wpList_load_arr 26 (.tmp 9) wr.heap.size [Value.slice a1 K k1] dS rfl rfl rfl hN7 hdS hrS sizeSg ?_)
              | (refine wpList_store_arr 26 (.tmp 2) (.tmp 65) w.heap.size [Value.slice none 0 0] [Value.slice a1 K k1] rfl rfl rfl rfl hA7 rfl sizeSg (by simp [Value.oneCell']) ?_; intro w8 hA8 hg8 hz8; clear hz8))
            have hb8 := hbw7.grown hg8 hbw7.size (fun k hk => by cases hk; exact Nat.le_refl _)
            have hown8 := hown7.kept hg8 hn5
            refine bodyPost_ret (results_arr_tmp rfl _ _ w.heap.size [Value.slice a1 K k1] dS rfl hA8 hdS hrS sizeSg) rfl ⟨_, by rw [HF.out]; rfl, ?_, hb8⟩
            rw [HG.out, hK]
            exact owns_wider hown8 (by omega)
end Go.Proofs.Ytljfiiohiolbnaa
