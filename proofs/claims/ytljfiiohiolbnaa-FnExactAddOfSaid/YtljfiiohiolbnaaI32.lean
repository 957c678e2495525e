/-
  CONTRACTS of the program's chapter 8, third part: FromGaps. (Own work.)
-/
import Derived.Test.YtljfiiohiolbnaaI31
import Derived.Test.YtljfiiohiolbnaaSgQ
import Derived.Test.YtljfiiohiolbnaaL26
import Derived.Test.YtljfiiohiolbnaaCh4I
namespace Go.Proofs.Ytljfiiohiolbnaa
open Go Go.RowKit
attribute [local go_sem] Oper.semAt_some

theorem missL_next (L : List Int) {n : Nat} (hn : 1 ≤ n) : missL L (n + 1) = if isIn L n then missL L n else missL L n ++ [(n : Int)] := by
  rw [missL_succ, decide_eq_true hn, Bool.true_and]
  cases isIn L n <;> simp
theorem missL_len' (S : List Int) (n : Nat) : (missL S n).length ≤ n := by unfold missL; rw [List.length_map]; exact upB_len_le _ _
theorem gapsL_len (G : List Int) : (gapsL G).length ≤ 200 := by
  unfold gapsL
  split
  · rw [List.length_map]; exact upB_len_le _ _
  · exact Nat.zero_le _

set_option maxRecDepth 100000 in
set_option maxHeartbeats 3200000 in
theorem impl_FromGaps (L : List Int) (a : Option Addr) (cap : Nat) (w : World) (hr : SlV w a (L.map (Value.int .i64))) (hb : L.length ≤ 1048576) :
    Calls Try.prog 70 #[.slice a L.length cap] w (SgPost (fromGpL L) (fromGpB L) w) := by
  obtain ⟨i0, hi, hz0, hz1, hz2⟩ := info_parts infoIntL
  obtain ⟨dS, hdS, hrS⟩ := undSg
  obtain ⟨W, hW⟩ : ∃ W, W = w.alloc (.cells [Value.slice none 0 0].toArray 26) := ⟨_, rfl⟩
  have hbW : Below w.heap.size w W := by rw [hW]; exact box_below _ _
  have hAW : Arr W w.heap.size 26 [Value.slice none 0 0] := by rw [hW]; exact Arr.new _ _ _
  have HW := Lib.hid hW
  clear hW
  have c1 := impl_areGaps L a cap W (hr.below hbW) hb
  have HT := fun f => Lib.hid (tabB_one f 260)
  go_enter Try.func70, Try.ntmps70
  go_wp2_with (first
    | (refine wpList_alloc_arr 26 [Value.slice none 0 0] zeroSg rfl rfl ?_; rw [← HW.out]))
  refine c1.mono ?_
  rintro e w1 ⟨rfl, hb1⟩
  have hbw1 := hbW.trans (hb1.mono hbW.size)
  have hA1 := hAW.below hb1
  clear c1 hb1 hAW hbW
  cases hok : okGp L
  · have HF := Lib.hid (fromGp_ok hok)
    clear hok hr
    go_wp2_with (first
      | (refine wpList_store_arr 26 (.tmp 2) (.tmp 13) w.heap.size [Value.slice none 0 0] [Value.slice none 0 0] rfl rfl rfl rfl hA1 rfl sizeSg (by simp [Value.oneCell']) ?_; intro w3 hA3 hg3 hz3; clear hz3))
    have hb3 := hbw1.grown hg3 hbw1.size (fun k hk => by cases hk; exact Nat.le_refl _)
    exact bodyPost_ret (results_arr_tmp rfl _ _ w.heap.size [Value.slice none 0 0] dS rfl hA3 hdS hrS sizeSg) rfl ⟨_, by rw [HF.out]; rfl, by rw [fromGpL_no HF.out]; exact World.ownsRow_nil _ _ _ _, hb3⟩
  · have c2 := impl_otherThan L a cap w1 (hr.below hbw1) hb hok
    have hfar : ∀ m, 200 ≤ m → isIn L m = false := fun m hm => by
      cases h : isIn L m
      · rfl
      · have := (okGp_lt hok h).2; omega
    have HF := Lib.hid hfar
    clear hok hfar
    go_wp2_with fail
    refine c2.mono ?_
    rintro e w2 ⟨rfl, hT, hb2⟩
    have hbw2 := hbw1.trans (hb2.mono hbw1.size)
    have hA2 := hA1.below hb2
    have hs2 := hbw2.size
    have hlA := hA2.lt
    clear c2 hb2 hA1 hbw1
    go_wp2_with fail
    go_loopw [5, 6] (fun v i wr => ∃ (n : Nat) (M : List Int), 1 ≤ n ∧ n ≤ 61 ∧ i = .int .i64 (n : Int) ∧ Hid (M = missL L n) ∧ M.length ≤ n ∧ wr.ownsRow w2.heap.size 3 1 v M.length (M.map (Value.int .i64)) ∧
        w2.heap.size ≤ wr.heap.size ∧ Below w2.heap.size w2 wr) (fun _ i _ => 61 - (intOf i).toNat)
    case atStart => exact ⟨1, [], Nat.le_refl _, by omega, rfl, Lib.hid (by rw [missL_succ]; rfl), by simp, World.ownsRow_nil _ _ _ _, Nat.le_refl _, Below.refl _ _⟩
    case round =>
      obtain ⟨n, M, hn1, hnm, rfl, HM, hMl, hown, hsz, hbel⟩ := hrel
      by_cases hlt : n ≤ 60
      · have hlti : (n : Int) ≤ 60 := by omega
        have ce := impl_isElement (isIn L) n w1.heap.size wr (hT.below hbel) (by omega) HF.out
        have hMS := missL_next L hn1
        rw [← HM.out] at hMS
        cases hq : isIn L n
        · have HY : Hid (M ++ [(n : Int)] = missL L (n + 1)) := Lib.hid (by rw [hMS, hq]; rfl)
          rw [hq] at ce
          clear hq hMS
          go_wp2_with fail
          refine ce.mono ?_
          rintro e w5 ⟨rfl, rfl⟩
          go_wp2_with (first
            | (at_builtin; refine wpList_append_own _ rfl (.tmp 23) (.tmp 25) 24 rfl w2.heap.size 3 i0 (Value.int .i64 0) 1 8 Try.underlying24 hi hz0 hz1 hz2 rfl (by decide) _ _ _ rfl (hown.alloc _) ⟨_, 0, none⟩ 1 1 [.int .i64 (n : Int)] rfl rfl (World.news_of_block (cs := #[.int .i64 (n : Int)]) (t := 3) (fr := (0, 0)) (heap_alloc_new _ _)) (by simp [Value.oneCell']) (by unfold maxLen; omega) (by omega) (by simp; omega) ?_; intro v6 w6 hown6 hg6 _))
          have hbel6 := (hbel.alloc hsz (.cells #[.int .i64 (n : Int)] 3)).grown hg6 (by simp; omega) (fun j hj => (hown.lt j hj).1)
          have HO := Lib.hid hown6
          clear hown6 hg6
          go_roundw
          case rel => exact ⟨n + 1, M ++ [(n : Int)], by omega, by omega, by go_num, HY, by rw [List.length_append, List.length_singleton]; omega, by rw [List.length_append, List.length_singleton, List.map_append]; exact HO.out, hbel6.size, hbel6⟩
          case measure => simp [intOf]; omega
        · have HY : Hid (M = missL L (n + 1)) := Lib.hid (by rw [hMS, hq]; simp)
          rw [hq] at ce
          clear hq hMS
          go_wp2_with fail
          refine ce.mono ?_
          rintro e w5 ⟨rfl, rfl⟩
          go_wp2_with fail
          go_roundw
          case rel => exact ⟨n + 1, M, by omega, by omega, by go_num, HY, by omega, hown, hsz, hbel⟩
          case measure => simp [intOf]; omega
      · have hlti : ¬ (n : Int) ≤ 60 := by omega
        have hne : n = 61 := by omega
        rw [hne] at HM
        have hbw := hbw2.trans (hbel.mono hs2)
        have hA := hA2.below hbel
        obtain ⟨a1, k1, rfl, rX⟩ := row_open hown
        have c3 := impl_tableOfSums_any M a1 k1 wr rX.slv (by rw [HM.out]; exact missL_asc L 61) (fun x hx => by rw [HM.out] at hx; exact missL_pos L 61 x hx) (by omega)
        have hKe : keptL M = genGp L := by rw [HM.out]; rfl
        have hKl := genGp_len L
        unfold TabPostK at c3
        rw [hKe] at c3
        have HW1 := Lib.hid (genGp_way L)
        have HW2 : Hid (fromGpB L = true → fromGpL L = genGp L) := Lib.hid genGp_of
        clear hown rX hKe HM hbel hT hA2 hbw2
        generalize genGp L = K at *
        generalize sumB M = S at *
        go_wp2_with fail
        refine c3.mono ?_
        rintro e w4 ⟨v4, rfl, ho4, hb4⟩
        have hA4 := hA.below hb4
        have hbw4 := hbw.trans (hb4.mono hbw.size)
        have hs4 := hbw4.size
        have hszr := hbw.size
        clear c3 hb4 hA hlti
        obtain ⟨a4, k4, rfl, -⟩ := row_open ho4
        have hN := Arr.new w4 54 (tabB (fun _ => false) 260)
        have hA4c := hA4.alloc (.cells (tabB (fun _ => false) 260).toArray 54)
        have hbw5 := hbw4.alloc (o := .cells (tabB (fun _ => false) 260).toArray 54) hbw4.size
        have ho4c := ho4.alloc (.cells (tabB (fun _ => false) 260).toArray 54)
        have hn4 := own_apart ho4 (g := w4.heap.size) (.inr (Nat.le_refl _))
        have hn0 := own_apart ho4 (g := w.heap.size) (.inl (by omega))
        have hltA := hA4.lt
        go_wp2_with (first
          | (refine wpList_alloc_arr 54 (tabB (fun _ => false) 260) zeroT rfl rfl ?_)
          | (refine wpList_store_arr 54 (.tmp 7) (.tmp 30) w4.heap.size (tabB (fun _ => false) 260) (tabB S 260) rfl rfl rfl rfl hN (by rw [tabB_length, tabB_length]) (sizeTl _) (HT _).out ?_; intro w5 hN5 hg5 hz5; clear hz5)
          | (refine wpList_alloc_arr 26 [Value.slice none 0 0] zeroSg rfl rfl ?_)
          | (refine wpList_store_arr 26 (.tmp 9) (.tmp 33) w5.heap.size [Value.slice none 0 0] [Value.slice a4 K.length k4] rfl rfl rfl rfl (Arr.new w5 26 [Value.slice none 0 0]) rfl sizeSg (by simp [Value.oneCell']) ?_; intro w6 hN6 hg6 hz6; clear hz6)
          | (refine wpList_load_arr 26 (.tmp 9) w5.heap.size [Value.slice a4 K.length k4] dS rfl rfl rfl hN6 hdS hrS sizeSg ?_))
        have hb5 := hbw5.grown hg5 hbw5.size (fun k hk => by cases hk; exact hs4)
        have hs5 := hb5.size
        have hA5 := hA4c.grown hg5 (by simp; omega)
        have ho5 := ho4c.kept hg5 hn4
        have hn6 := own_apart ho5 (g := w5.heap.size) (.inr (Nat.le_refl _))
        have hltA5 := hA5.lt
        have hb6 := (hb5.alloc (o := .cells [Value.slice none 0 0].toArray 26) hs5).grown hg6 (by simp; omega) (fun k hk => by cases hk; exact hs5)
        have hA6 := (hA5.alloc (.cells [Value.slice none 0 0].toArray 26)).grown hg6 (by simp; omega)
        have ho6 := (ho5.alloc (.cells [Value.slice none 0 0].toArray 26)).kept hg6 hn6
        have hs6 := hb6.size
        obtain ⟨a6, k6, e6, rX6⟩ := row_open ho6
        cases e6
        have c4 := impl_IsSemigroup K a4 k4 w6 rX6.slv (by omega)
        clear hN hA4 hA4c hbw4 hbw5 ho4 ho4c hN5 hg5 hb5 hA5 ho5 hg6 rX6 hn4 hn6 hltA5 hltA
        refine c4.mono ?_
        rintro e w7 ⟨rfl, hb7⟩
        have hA7 := hA6.below hb7
        have hN7 := hN6.below hb7
        have ho7 := owns_below ho6 hb7
        have hbw7 := hb6.trans (hb7.mono hs6)
        have hs7 := hbw7.size
        clear c4 hb7 hA6 hN6 ho6 hb6
        cases hsg : isSgB K
        · have HFF : Hid (fromGpB L = false) := Lib.hid (by rw [HW1.out, hsg]; rfl)
          clear hsg hr
          go_wp2_with (first
            | (refine wpList_store_arr 26 (.tmp 2) (.tmp 44) w.heap.size [Value.slice none 0 0] [Value.slice none 0 0] rfl rfl rfl rfl hA7 rfl sizeSg (by simp [Value.oneCell']) ?_; intro w8 hA8 hg8 hz8; clear hz8))
          have hb8 := hbw7.grown hg8 hbw7.size (fun k hk => by cases hk; exact Nat.le_refl _)
          exact bodyPost_ret (results_arr_tmp rfl _ _ w.heap.size [Value.slice none 0 0] dS rfl hA8 hdS hrS sizeSg) rfl ⟨_, by rw [HFF.out]; rfl, by rw [fromGpL_no HFF.out]; exact World.ownsRow_nil _ _ _ _, hb8⟩
        · rw [hsg, Bool.true_and] at HW1
          obtain ⟨a7, k7, e7, rX7⟩ := row_open ho7
          cases e7
          have c5 := impl_Gaps K a4 k4 w7 rX7.slv (by omega)
          have hcN := hN7.cell 0
          have hgl := gapsL_len K
          clear hsg rX7
          go_wp2_with fail
          refine c5.mono ?_
          rintro e w8 ⟨v8, rfl, ho8, hb8⟩
          obtain ⟨a8, k8, rfl, rX8⟩ := row_open ho8
          have hA8 := hA7.below hb8
          have hN8 := hN7.below hb8
          have hoK8 := owns_below ho7 hb8
          have hbw8 := hbw7.trans (hb8.mono hs7)
          have hs8 := hbw8.size
          have c7 := impl_same (gapsL K) L a8 a k8 cap w8 rX8.slv (hr.below hbw8) (by omega) (by omega)
          clear c5 hcN hA7 hN7 ho7 hbw7 hb8 rX8 ho8 hr
          by_cases hsl : gapsL K = L
          · have HFF : Hid (fromGpB L = true) := Lib.hid (by rw [HW1.out, decide_eq_true hsl])
            have HG := Lib.hid (HW2.out HFF.out)
            rw [decide_eq_true hsl] at c7
            clear hsl
            go_wp2_with fail
            refine c7.mono ?_
            rintro e w9 ⟨rfl, hb9⟩
            have hA9 := hA8.below hb9
            have hN9 := hN8.below hb9
            have hoK9 := owns_below hoK8 hb9
            have hbw9 := hbw8.trans (hb9.mono hs8)
            clear c7 hA8 hN8 hoK8 hbw8 hb9
            generalize hKn : K.length = Kn at *
            go_wp2_with (first
              | (refine wpList_load_arr 26 (.tmp 9) w5.heap.size [Value.slice a4 Kn k4] dS rfl rfl rfl hN9 hdS hrS sizeSg ?_)
              | (refine wpList_store_arr 26 (.tmp 2) (.tmp 45) w.heap.size [Value.slice none 0 0] [Value.slice a4 Kn k4] rfl rfl rfl rfl hA9 rfl sizeSg (by simp [Value.oneCell']) ?_; intro wx hAx hgx hzx; clear hzx))
            have hbx := hbw9.grown hgx hbw9.size (fun k hk => by cases hk; exact Nat.le_refl _)
            have hox := hoK9.kept hgx hn0
            refine bodyPost_ret (results_arr_tmp rfl _ _ w.heap.size [Value.slice a4 Kn k4] dS rfl hAx hdS hrS sizeSg) rfl ⟨_, by rw [HFF.out]; rfl, ?_, hbx⟩
            rw [HG.out, hKn]
            exact owns_wider hox (by omega)
          · have HFF : Hid (fromGpB L = false) := Lib.hid (by rw [HW1.out, decide_eq_false hsl])
            rw [decide_eq_false hsl] at c7
            clear hsl
            go_wp2_with fail
            refine c7.mono ?_
            rintro e w10 ⟨rfl, hb10⟩
            have hA10 := hA8.below hb10
            have hbw10 := hbw8.trans (hb10.mono hs8)
            clear c7 hA8 hN8 hoK8 hbw8 hb10
            go_wp2_with (first
              | (refine wpList_store_arr 26 (.tmp 2) (.tmp 44) w.heap.size [Value.slice none 0 0] [Value.slice none 0 0] rfl rfl rfl rfl hA10 rfl sizeSg (by simp [Value.oneCell']) ?_; intro w9 hA9 hg9 hz9; clear hz9))
            have hb9 := hbw10.grown hg9 hbw10.size (fun k hk => by cases hk; exact Nat.le_refl _)
            exact bodyPost_ret (results_arr_tmp rfl _ _ w.heap.size [Value.slice none 0 0] dS rfl hA9 hdS hrS sizeSg) rfl ⟨_, by rw [HFF.out]; rfl, by rw [fromGpL_no HFF.out]; exact World.ownsRow_nil _ _ _ _, hb9⟩
end Go.Proofs.Ytljfiiohiolbnaa
