/-
  CONTRACTS of the program's chapters 17 and 18: fromMembership, MeetOf, QuotientOf. (Own work: mkI59.py.)
-/
import Derived.Test.YtljfiiohiolbnaaI58
import Derived.Test.YtljfiiohiolbnaaSgQm
import Derived.Test.YtljfiiohiolbnaaI32
import Derived.Test.YtljfiiohiolbnaaIWg
namespace Go.Proofs.Ytljfiiohiolbnaa
open Go Go.RowKit
attribute [local go_sem] Oper.semAt_some

set_option maxRecDepth 100000 in
set_option maxHeartbeats 1600000 in
theorem impl_fromMembership_Q (p1 p2 : Nat) (φ : Nat → Bool) (V w : World) (hVw : Below V.heap.size V w) (hφ : ∀ (n : Nat) W, n < 200 → Below V.heap.size V W → Calls Try.prog 47 #[.int .i64 (n : Int), .pointer (some ⟨p1, 0, none⟩), .pointer (some ⟨p2, 0, none⟩)] W fun e w' => e = .returned (.bool (φ n)) ∧ Below W.heap.size W w') :
    Calls Try.prog 46 #[.func (.func 47) #[] #[.pointer (some ⟨p1, 0, none⟩), .pointer (some ⟨p2, 0, none⟩)]] w (SgPost (fromGpL (memK φ 200)) (fromGpB (memK φ 200)) w) := by
  obtain ⟨i0, hi, hz0, hz1, hz2⟩ := info_parts infoIntL
  obtain ⟨dS, hdS, hrS⟩ := undSg
  obtain ⟨U, hU⟩ : ∃ U, U = w.alloc (.cells [Value.slice none 0 0].toArray 26) := ⟨_, rfl⟩
  have hbU : Below w.heap.size w U := by rw [hU]; exact box_below _ _
  have hAU : Arr U w.heap.size 26 [Value.slice none 0 0] := by rw [hU]; exact Arr.new _ _ _
  have HU := Lib.hid hU
  have HP := Lib.hid hφ
  clear hU hφ
  have hVU : Below V.heap.size V U := hVw.trans (hbU.mono hVw.size)
  go_enter Try.func46, Try.ntmps46
  go_wp2_with (first | (refine wpList_alloc_arr 26 [Value.slice none 0 0] zeroSg rfl rfl ?_; rw [← HU.out]))
  go_loopw [4, 6] (fun v i wr => ∃ (k : Nat) (M : List Int), k ≤ 200 ∧ i = .int .i64 (k : Int) ∧ Hid (M = memK φ k) ∧ M.length ≤ k ∧ wr.ownsRow U.heap.size 3 1 v M.length (M.map (Value.int .i64)) ∧ U.heap.size ≤ wr.heap.size ∧ Below U.heap.size U wr) (fun _ i _ => 200 - (intOf i).toNat)
  case atStart => exact ⟨0, [], Nat.zero_le _, rfl, Lib.hid rfl, by simp, World.ownsRow_nil _ _ _ _, Nat.le_refl _, Below.refl _ _⟩
  case round =>
    obtain ⟨k, M, hk, rfl, HM, hMl, hown, hsz, hbel⟩ := hrel
    by_cases hlt : k < 200
    · have hlti : (k : Int) < 200 := by omega
      have c := HP.out k wr hlt (hVU.trans (hbel.mono hVU.size))
      have hms := memK_succ φ k
      rw [← HM.out] at hms
      have HMS := Lib.hid hms
      clear hms
      generalize φ k = q at *
      go_wp2_with fail
      refine c.mono ?_
      rintro e w5 ⟨rfl, hb5⟩
      have hown5 := owns_below hown hb5
      have hbel5 := hbel.trans (hb5.mono hsz)
      have hsz5 := Nat.le_trans hsz hb5.size
      clear c hown hbel hb5
      cases q
      · have HY : Hid (M ++ [(k : Int)] = memK φ (k + 1)) := Lib.hid (by rw [HMS.out]; rfl)
        clear HMS
        go_wp2_with (first | (at_builtin; refine wpList_append_own _ rfl (.tmp 13) (.tmp 15) 24 rfl U.heap.size 3 i0 (Value.int .i64 0) 1 8 Try.underlying24 hi hz0 hz1 hz2 rfl (by decide) _ _ _ rfl (hown5.alloc _) ⟨_, 0, none⟩ 1 1 [.int .i64 (k : Int)] rfl rfl (World.news_of_block (cs := #[.int .i64 (k : Int)]) (t := 3) (fr := (0, 0)) (heap_alloc_new _ _)) (by simp [Value.oneCell']) (by unfold maxLen; omega) (by omega) (by simp; omega) ?_; intro v6 w6 hown6 hg6 _))
        have hbel6 := (hbel5.alloc hsz5 (.cells #[.int .i64 (k : Int)] 3)).grown hg6 (by simp; omega) (fun j hj => (hown5.lt j hj).1)
        have HO := Lib.hid hown6
        clear hown6 hg6
        go_wp2_with fail
        go_roundw
        case rel => exact ⟨k + 1, M ++ [(k : Int)], by omega, by go_num, HY, by rw [List.length_append, List.length_singleton]; omega, by rw [List.length_append, List.length_singleton, List.map_append]; exact HO.out, hbel6.size, hbel6⟩
        case measure => simp [intOf]; omega
      · have HY : Hid (M = memK φ (k + 1)) := Lib.hid (by rw [HMS.out]; rfl)
        clear HMS
        go_wp2_with fail
        go_roundw
        case rel => exact ⟨k + 1, M, by omega, by go_num, HY, by omega, hown5, hsz5, hbel5⟩
        case measure => simp [intOf]; omega
    · have hlti : ¬ (k : Int) < 200 := by omega
      have hke : k = 200 := by omega
      rw [hke] at HM
      have HL : Hid (fromGpL (memK φ 200) = fromGpL M) := Lib.hid (by rw [HM.out])
      have HB : Hid (fromGpB (memK φ 200) = fromGpB M) := Lib.hid (by rw [HM.out])
      obtain ⟨a1, k1, rfl, rX⟩ := row_open hown
      have c := impl_FromGaps M a1 k1 wr rX.slv (by omega)
      have hA := hAU.below hbel
      have hbw := hbU.trans (hbel.mono hbU.size)
      clear hown rX hbel hke HM
      generalize fromGpL M = K at *
      generalize fromGpB M = q at *
      go_wp2_with fail
      refine c.mono ?_
      rintro e w5 ⟨v5, rfl, ho5, hb5⟩
      obtain ⟨a5, k5, rfl, -⟩ := row_open ho5
      have hA5 := hA.below hb5
      have hn5 := own_apart ho5 (g := w.heap.size) (.inl hA.lt)
      have hbw5 := hbw.trans (hb5.mono hbw.size)
      have hzw := hbw.size
      clear c hA hb5 hbw
      go_wp2_with (first | (refine wpList_store_arr 26 (.tmp 2) (.tmp 20) w.heap.size [Value.slice none 0 0] [Value.slice a5 K.length k5] rfl rfl rfl rfl hA5 rfl sizeSg (by simp [Value.oneCell']) ?_; intro w9 hA9 hg9 hz9; clear hz9))
      have hb9 := hbw5.grown hg9 hbw5.size (fun k hk => by cases hk; exact Nat.le_refl _)
      exact bodyPost_ret (results_arr_tmp rfl _ _ w.heap.size [Value.slice a5 K.length k5] dS rfl hA9 hdS hrS sizeSg) rfl ⟨_, by rw [HB.out]; rfl, by rw [HL.out]; exact owns_wider (ho5.kept hg9 hn5) hzw, hb9⟩

set_option maxRecDepth 100000 in
set_option maxHeartbeats 1600000 in
theorem impl_fromMembership_M (p1 p2 : Nat) (φ : Nat → Bool) (V w : World) (hVw : Below V.heap.size V w) (hφ : ∀ (n : Nat) W, n < 200 → Below V.heap.size V W → Calls Try.prog 55 #[.int .i64 (n : Int), .pointer (some ⟨p1, 0, none⟩), .pointer (some ⟨p2, 0, none⟩)] W fun e w' => e = .returned (.bool (φ n)) ∧ Below W.heap.size W w') :
    Calls Try.prog 46 #[.func (.func 55) #[] #[.pointer (some ⟨p1, 0, none⟩), .pointer (some ⟨p2, 0, none⟩)]] w (SgPost (fromGpL (memK φ 200)) (fromGpB (memK φ 200)) w) := by
  obtain ⟨i0, hi, hz0, hz1, hz2⟩ := info_parts infoIntL
  obtain ⟨dS, hdS, hrS⟩ := undSg
  obtain ⟨U, hU⟩ : ∃ U, U = w.alloc (.cells [Value.slice none 0 0].toArray 26) := ⟨_, rfl⟩
  have hbU : Below w.heap.size w U := by rw [hU]; exact box_below _ _
  have hAU : Arr U w.heap.size 26 [Value.slice none 0 0] := by rw [hU]; exact Arr.new _ _ _
  have HU := Lib.hid hU
  have HP := Lib.hid hφ
  clear hU hφ
  have hVU : Below V.heap.size V U := hVw.trans (hbU.mono hVw.size)
  go_enter Try.func46, Try.ntmps46
  go_wp2_with (first | (refine wpList_alloc_arr 26 [Value.slice none 0 0] zeroSg rfl rfl ?_; rw [← HU.out]))
  go_loopw [4, 6] (fun v i wr => ∃ (k : Nat) (M : List Int), k ≤ 200 ∧ i = .int .i64 (k : Int) ∧ Hid (M = memK φ k) ∧ M.length ≤ k ∧ wr.ownsRow U.heap.size 3 1 v M.length (M.map (Value.int .i64)) ∧ U.heap.size ≤ wr.heap.size ∧ Below U.heap.size U wr) (fun _ i _ => 200 - (intOf i).toNat)
  case atStart => exact ⟨0, [], Nat.zero_le _, rfl, Lib.hid rfl, by simp, World.ownsRow_nil _ _ _ _, Nat.le_refl _, Below.refl _ _⟩
  case round =>
    obtain ⟨k, M, hk, rfl, HM, hMl, hown, hsz, hbel⟩ := hrel
    by_cases hlt : k < 200
    · have hlti : (k : Int) < 200 := by omega
      have c := HP.out k wr hlt (hVU.trans (hbel.mono hVU.size))
      have hms := memK_succ φ k
      rw [← HM.out] at hms
      have HMS := Lib.hid hms
      clear hms
      generalize φ k = q at *
      go_wp2_with fail
      refine c.mono ?_
      rintro e w5 ⟨rfl, hb5⟩
      have hown5 := owns_below hown hb5
      have hbel5 := hbel.trans (hb5.mono hsz)
      have hsz5 := Nat.le_trans hsz hb5.size
      clear c hown hbel hb5
      cases q
      · have HY : Hid (M ++ [(k : Int)] = memK φ (k + 1)) := Lib.hid (by rw [HMS.out]; rfl)
        clear HMS
        go_wp2_with (first | (at_builtin; refine wpList_append_own _ rfl (.tmp 13) (.tmp 15) 24 rfl U.heap.size 3 i0 (Value.int .i64 0) 1 8 Try.underlying24 hi hz0 hz1 hz2 rfl (by decide) _ _ _ rfl (hown5.alloc _) ⟨_, 0, none⟩ 1 1 [.int .i64 (k : Int)] rfl rfl (World.news_of_block (cs := #[.int .i64 (k : Int)]) (t := 3) (fr := (0, 0)) (heap_alloc_new _ _)) (by simp [Value.oneCell']) (by unfold maxLen; omega) (by omega) (by simp; omega) ?_; intro v6 w6 hown6 hg6 _))
        have hbel6 := (hbel5.alloc hsz5 (.cells #[.int .i64 (k : Int)] 3)).grown hg6 (by simp; omega) (fun j hj => (hown5.lt j hj).1)
        have HO := Lib.hid hown6
        clear hown6 hg6
        go_wp2_with fail
        go_roundw
        case rel => exact ⟨k + 1, M ++ [(k : Int)], by omega, by go_num, HY, by rw [List.length_append, List.length_singleton]; omega, by rw [List.length_append, List.length_singleton, List.map_append]; exact HO.out, hbel6.size, hbel6⟩
        case measure => simp [intOf]; omega
      · have HY : Hid (M = memK φ (k + 1)) := Lib.hid (by rw [HMS.out]; rfl)
        clear HMS
        go_wp2_with fail
        go_roundw
        case rel => exact ⟨k + 1, M, by omega, by go_num, HY, by omega, hown5, hsz5, hbel5⟩
        case measure => simp [intOf]; omega
    · have hlti : ¬ (k : Int) < 200 := by omega
      have hke : k = 200 := by omega
      rw [hke] at HM
      have HL : Hid (fromGpL (memK φ 200) = fromGpL M) := Lib.hid (by rw [HM.out])
      have HB : Hid (fromGpB (memK φ 200) = fromGpB M) := Lib.hid (by rw [HM.out])
      obtain ⟨a1, k1, rfl, rX⟩ := row_open hown
      have c := impl_FromGaps M a1 k1 wr rX.slv (by omega)
      have hA := hAU.below hbel
      have hbw := hbU.trans (hbel.mono hbU.size)
      clear hown rX hbel hke HM
      generalize fromGpL M = K at *
      generalize fromGpB M = q at *
      go_wp2_with fail
      refine c.mono ?_
      rintro e w5 ⟨v5, rfl, ho5, hb5⟩
      obtain ⟨a5, k5, rfl, -⟩ := row_open ho5
      have hA5 := hA.below hb5
      have hn5 := own_apart ho5 (g := w.heap.size) (.inl hA.lt)
      have hbw5 := hbw.trans (hb5.mono hbw.size)
      have hzw := hbw.size
      clear c hA hb5 hbw
      go_wp2_with (first | (refine wpList_store_arr 26 (.tmp 2) (.tmp 20) w.heap.size [Value.slice none 0 0] [Value.slice a5 K.length k5] rfl rfl rfl rfl hA5 rfl sizeSg (by simp [Value.oneCell']) ?_; intro w9 hA9 hg9 hz9; clear hz9))
      have hb9 := hbw5.grown hg9 hbw5.size (fun k hk => by cases hk; exact Nat.le_refl _)
      exact bodyPost_ret (results_arr_tmp rfl _ _ w.heap.size [Value.slice a5 K.length k5] dS rfl hA9 hdS hrS sizeSg) rfl ⟨_, by rw [HB.out]; rfl, by rw [HL.out]; exact owns_wider (ho5.kept hg9 hn5) hzw, hb9⟩

set_option maxRecDepth 100000 in
set_option maxHeartbeats 1600000 in
theorem impl_QuotientOf1 (G : List Int) (hs : isSgB G = true) (d : Int) (n p1 p2 : Nat) (w : World) (hn : n < 200) (hd0 : 1 ≤ d) (hd1 : d ≤ 20) (hA : Arr w p1 54 (tabB (elF G) 260)) (hc : w.cell? ⟨p2, 0, none⟩ = some (.int .i64 d)) :
    Calls Try.prog 47 #[.int .i64 (n : Int), .pointer (some ⟨p1, 0, none⟩), .pointer (some ⟨p2, 0, none⟩)] w fun e w' => e = .returned (.bool (hasN G ((n : Int) * d))) ∧ Below w.heap.size w w' := by
  have c := impl_has (elF G) ((n : Int) * d) _ w (hasN_way G ((n : Int) * d) hs)
  have hp0 : 0 ≤ (n : Int) * d := Int.mul_nonneg (by omega) (by omega)
  have hp1 : (n : Int) * d ≤ 200 * 20 := Int.mul_le_mul (by omega) (by omega) (by omega) (by omega)
  clear hs
  go_enter Try.func47, Try.ntmps47
  go_wp2_with (first | (refine wpList_load_arr 54 (.tmp 1) p1 (tabB (elF G) 260) (.array 260 4) rfl rfl rfl hA undT rfl (sizeTl _) ?_))
  refine c.mono ?_
  rintro e w5 ⟨rfl, hb5⟩
  go_wp2_with fail
  go_ret
  exact ⟨rfl, hb5⟩

set_option maxRecDepth 100000 in
set_option maxHeartbeats 1600000 in
theorem impl_MeetOf1 (A B : List Int) (ha : isSgB A = true) (hb : isSgB B = true) (n p1 p2 : Nat) (w : World) (hA : Arr w p1 54 (tabB (elF A) 260)) (hB : Arr w p2 54 (tabB (elF B) 260)) :
    Calls Try.prog 55 #[.int .i64 (n : Int), .pointer (some ⟨p1, 0, none⟩), .pointer (some ⟨p2, 0, none⟩)] w fun e w' => e = .returned (.bool (hasN A (n : Int) && hasN B (n : Int))) ∧ Below w.heap.size w w' := by
  have c := impl_has (elF A) (n : Int) _ w (hasN_way A (n : Int) ha)
  have c2 := fun W => impl_has (elF B) (n : Int) _ W (hasN_way B (n : Int) hb)
  clear ha hb
  generalize hasN A (n : Int) = q at *
  generalize hasN B (n : Int) = r at *
  go_enter Try.func55, Try.ntmps55
  cases q
  · go_wp2_with (first | (refine wpList_load_arr 54 (.tmp 1) p1 (tabB (elF A) 260) (.array 260 4) rfl rfl rfl hA undT rfl (sizeTl _) ?_))
    refine c.mono ?_
    rintro e w5 ⟨rfl, hb5⟩
    go_wp2_with fail
    go_ret
    exact ⟨rfl, hb5⟩
  · go_wp2_with (first | (refine wpList_load_arr 54 (.tmp 1) p1 (tabB (elF A) 260) (.array 260 4) rfl rfl rfl hA undT rfl (sizeTl _) ?_))
    refine c.mono ?_
    rintro e w5 ⟨rfl, hb5⟩
    have hB5 := hB.below hb5
    go_wp2_with fail
    refine wp_load_mid 54 (.tmp 2) rfl p2 0 rfl (tabB (elF B) 260) (.array 260 4) hB5.range undT rfl (sizeTl _) ?_
    go_wp2_with fail
    refine (c2 _).mono ?_
    rintro e w6 ⟨rfl, hb6⟩
    go_wp2_with fail
    go_ret
    exact ⟨by rw [Bool.true_and]; rfl, hb5.trans (hb6.mono hb5.size)⟩

set_option maxRecDepth 100000 in
set_option maxHeartbeats 1600000 in
theorem impl_MeetOf (A B : List Int) (a : Option Addr) (ca : Nat) (b : Option Addr) (cb : Nat) (w : World) (hra : SlV w a (A.map (Value.int .i64))) (hrb : SlV w b (B.map (Value.int .i64))) (hba : A.length ≤ 1048576) (hbb : B.length ≤ 1048576) :
    Calls Try.prog 22 #[.agg #[.slice a A.length ca], .agg #[.slice b B.length cb]] w (SgPost (meetL A B) (meetB A B) w) := by
  obtain ⟨dS, hdS, hrS⟩ := undSg
  obtain ⟨U, hU⟩ : ∃ U, U = ((w.alloc (.cells #[.slice a A.length ca] 26)).alloc (.cells #[.slice b B.length cb] 26)) := ⟨_, rfl⟩
  obtain ⟨V, hV⟩ : ∃ V, V = U.alloc (.cells [Value.slice none 0 0].toArray 26) := ⟨_, rfl⟩
  have hbU : Below w.heap.size w U := by rw [hU]; exact (box_below _ _).alloc (by simp) _
  have hUe : U.heap.size = w.heap.size + 2 := by rw [hU]; simp
  have hcAU : U.cell? ⟨w.heap.size, 0, none⟩ = some (.slice a A.length ca) := by rw [hU]; exact (World.cell?_alloc_lt _ _ ⟨w.heap.size, 0, none⟩ (by simp)).trans (box_cell w _)
  have hcBU : U.cell? ⟨w.heap.size + 1, 0, none⟩ = some (.slice b B.length cb) := by rw [hU]; have := box_cell (w.alloc (.cells #[.slice a A.length ca] 26)) (.slice b B.length cb); rw [show (w.alloc (.cells #[.slice a A.length ca] 26)).heap.size = w.heap.size + 1 by simp] at this; exact this
  have hbUV : Below U.heap.size U V := by rw [hV]; exact box_below _ _
  have hbV := hbU.trans (hbUV.mono hbU.size)
  have hAV : Arr V (w.heap.size + 2) 26 [Value.slice none 0 0] := by rw [hV, ← hUe]; exact Arr.new _ _ _
  have hVs : w.heap.size + 2 < V.heap.size := hAV.lt
  have HAV := Lib.hid hAV
  have HV : Hid (V = (((w.alloc (.cells #[.slice a A.length ca] 26)).alloc (.cells #[.slice b B.length cb] 26)).alloc (.cells [Value.slice none 0 0].toArray 26))) := Lib.hid (by rw [hV, hU])
  have HKV : Hid (∀ w2, Below V.heap.size V w2 → w2.cell? ⟨w.heap.size, 0, none⟩ = some (.slice a A.length ca) ∧ w2.cell? ⟨w.heap.size + 1, 0, none⟩ = some (.slice b B.length cb)) := Lib.hid fun w2 h => ⟨((h.cell (p := ⟨w.heap.size, 0, none⟩) (show w.heap.size < V.heap.size by omega)).trans (hbUV.cell (p := ⟨w.heap.size, 0, none⟩) (show w.heap.size < U.heap.size by omega))).trans hcAU, ((h.cell (p := ⟨w.heap.size + 1, 0, none⟩) (show w.heap.size + 1 < V.heap.size by omega)).trans (hbUV.cell (p := ⟨w.heap.size + 1, 0, none⟩) (show w.heap.size + 1 < U.heap.size by omega))).trans hcBU⟩
  obtain ⟨hkA, hkB⟩ := HKV.out V (Below.refl _ _)
  clear hU hV hbU hbUV hcAU hcBU hAV hUe
  have HT := fun f => Lib.hid (tabB_one f 260)
  have c1 := impl_elementsOf A a ca V (hra.below hbV) hba
  have c2 := fun w' (h : Below V.heap.size V w') => impl_elementsOf B b cb w' (hrb.below (hbV.trans (h.mono hbV.size))) hbb
  unfold ElPost at c1 c2
  cases hsa : isSgB A
  · have HB : Hid (meetB A B = false) := Lib.hid (by unfold meetB; rw [hsa]; simp)
    have HL : Hid (meetL A B = []) := Lib.hid (by unfold meetL; rw [hsa]; simp)
    rw [hsa] at c1
    clear hsa hra hrb
    go_enter Try.func22, Try.ntmps22
    go_wp2_with (first | (refine wpList_alloc_arr 26 [Value.slice none 0 0] zeroSg rfl rfl ?_; rw [← HV.out]))
    refine c1.mono ?_
    rintro e w1 ⟨rfl, hb1⟩
    clear c1 hkA hkB
    have hAw3 := Arr.new w1 54 (tabB (fun _ => false) 260)
    have hbAw3 := hb1.alloc (o := .cells (tabB (fun _ => false) 260).toArray 54) hb1.size
    go_wp2_with (first | (refine wpList_alloc_arr 54 (tabB (fun _ => false) 260) zeroT rfl rfl ?_) | (refine wpList_store_arr 54 (.tmp 6) (.tmp 13) w1.heap.size (tabB (fun _ => false) 260) (tabB (elF A) 260) rfl rfl rfl rfl hAw3 (by rw [tabB_length, tabB_length]) (sizeTl _) (HT _).out ?_; intro w3 hB1 hg3 hz3; clear hz3; have hb3 := hbAw3.grown hg3 hbAw3.size (fun k hk => by cases hk; exact hb1.size); obtain ⟨hcw3, hdw3⟩ := HKV.out _ hb3; clear hg3 hAw3 hbAw3))
    refine (c2 _ hb3).mono ?_
    rintro e w4 ⟨rfl, hb4⟩
    have hb4V := hb3.trans (hb4.mono hb3.size)
    have hB1x := hB1.below hb4
    have hz14 : w1.heap.size < w4.heap.size := hB1x.lt
    have hB1y := hB1x.alloc (.cells (tabB (fun _ => false) 260).toArray 54)
    clear c2 hB1 hB1x hb4 hb3 hcw3 hdw3
    have hAw6 := Arr.new w4 54 (tabB (fun _ => false) 260)
    have hbAw6 := hb4V.alloc (o := .cells (tabB (fun _ => false) 260).toArray 54) hb4V.size
    go_wp2_with (first | (refine wpList_alloc_arr 54 (tabB (fun _ => false) 260) zeroT rfl rfl ?_) | (refine wpList_store_arr 54 (.tmp 8) (.tmp 18) w4.heap.size (tabB (fun _ => false) 260) (tabB (elF B) 260) rfl rfl rfl rfl hAw6 (by rw [tabB_length, tabB_length]) (sizeTl _) (HT _).out ?_; intro w6 hB2 hg3 hz3; clear hz3; have hb6 := hbAw6.grown hg3 hbAw6.size (fun k hk => by cases hk; exact hb4V.size); obtain ⟨hcw6, hdw6⟩ := HKV.out _ hb6; have hB1z := hB1y.grown hg3 (fun e => by have h : w1.heap.size = w4.heap.size := Option.some.inj e; omega); clear hg3 hAw6 hbAw6; have hA9' := HAV.out.below hb6) | (refine wpList_store_arr 26 (.tmp 4) (.tmp 26) (w.heap.size + 2) [Value.slice none 0 0] [Value.slice none 0 0] rfl rfl rfl rfl hA9' rfl sizeSg (by simp [Value.oneCell']) ?_; intro w9 hA9 hg9 hz9; clear hz9))
    have hb9 := (hbV.trans (hb6.mono hbV.size)).grown hg9 (hbV.trans (hb6.mono hbV.size)).size (fun k hk => by cases hk; omega)
    exact bodyPost_ret (results_arr_tmp rfl _ _ (w.heap.size + 2) [Value.slice none 0 0] dS rfl hA9 hdS hrS sizeSg) rfl ⟨_, by rw [HB.out]; rfl, by rw [HL.out]; exact World.ownsRow_nil _ _ _ _, hb9⟩
  · rw [hsa] at c1
    cases hsb : isSgB B
    · have HB : Hid (meetB A B = false) := Lib.hid (by unfold meetB; rw [hsb]; simp)
      have HL : Hid (meetL A B = []) := Lib.hid (by unfold meetL; rw [hsb]; simp)
      rw [hsb] at c2
      clear hsa hsb hra hrb
      go_enter Try.func22, Try.ntmps22
      go_wp2_with (first | (refine wpList_alloc_arr 26 [Value.slice none 0 0] zeroSg rfl rfl ?_; rw [← HV.out]))
      refine c1.mono ?_
      rintro e w1 ⟨rfl, hb1⟩
      clear c1 hkA hkB
      have hAw3 := Arr.new w1 54 (tabB (fun _ => false) 260)
      have hbAw3 := hb1.alloc (o := .cells (tabB (fun _ => false) 260).toArray 54) hb1.size
      go_wp2_with (first | (refine wpList_alloc_arr 54 (tabB (fun _ => false) 260) zeroT rfl rfl ?_) | (refine wpList_store_arr 54 (.tmp 6) (.tmp 13) w1.heap.size (tabB (fun _ => false) 260) (tabB (elF A) 260) rfl rfl rfl rfl hAw3 (by rw [tabB_length, tabB_length]) (sizeTl _) (HT _).out ?_; intro w3 hB1 hg3 hz3; clear hz3; have hb3 := hbAw3.grown hg3 hbAw3.size (fun k hk => by cases hk; exact hb1.size); obtain ⟨hcw3, hdw3⟩ := HKV.out _ hb3; clear hg3 hAw3 hbAw3))
      refine (c2 _ hb3).mono ?_
      rintro e w4 ⟨rfl, hb4⟩
      have hb4V := hb3.trans (hb4.mono hb3.size)
      have hB1x := hB1.below hb4
      have hz14 : w1.heap.size < w4.heap.size := hB1x.lt
      have hB1y := hB1x.alloc (.cells (tabB (fun _ => false) 260).toArray 54)
      clear c2 hB1 hB1x hb4 hb3 hcw3 hdw3
      have hAw6 := Arr.new w4 54 (tabB (fun _ => false) 260)
      have hbAw6 := hb4V.alloc (o := .cells (tabB (fun _ => false) 260).toArray 54) hb4V.size
      go_wp2_with (first | (refine wpList_alloc_arr 54 (tabB (fun _ => false) 260) zeroT rfl rfl ?_) | (refine wpList_store_arr 54 (.tmp 8) (.tmp 18) w4.heap.size (tabB (fun _ => false) 260) (tabB (elF B) 260) rfl rfl rfl rfl hAw6 (by rw [tabB_length, tabB_length]) (sizeTl _) (HT _).out ?_; intro w6 hB2 hg3 hz3; clear hz3; have hb6 := hbAw6.grown hg3 hbAw6.size (fun k hk => by cases hk; exact hb4V.size); obtain ⟨hcw6, hdw6⟩ := HKV.out _ hb6; have hB1z := hB1y.grown hg3 (fun e => by have h : w1.heap.size = w4.heap.size := Option.some.inj e; omega); clear hg3 hAw6 hbAw6; have hA9' := HAV.out.below hb6) | (refine wpList_store_arr 26 (.tmp 4) (.tmp 26) (w.heap.size + 2) [Value.slice none 0 0] [Value.slice none 0 0] rfl rfl rfl rfl hA9' rfl sizeSg (by simp [Value.oneCell']) ?_; intro w9 hA9 hg9 hz9; clear hz9))
      have hb9 := (hbV.trans (hb6.mono hbV.size)).grown hg9 (hbV.trans (hb6.mono hbV.size)).size (fun k hk => by cases hk; omega)
      exact bodyPost_ret (results_arr_tmp rfl _ _ (w.heap.size + 2) [Value.slice none 0 0] dS rfl hA9 hdS hrS sizeSg) rfl ⟨_, by rw [HB.out]; rfl, by rw [HL.out]; exact World.ownsRow_nil _ _ _ _, hb9⟩
    · have HB : Hid (meetB A B = fromGpB (memK (fun n => hasN A (n : Int) && hasN B (n : Int)) 200)) := Lib.hid (by rw [← meet_mem hsa hsb]; unfold meetB; rw [hsa, hsb]; rfl)
      have HL : Hid (meetL A B = fromGpL (memK (fun n => hasN A (n : Int) && hasN B (n : Int)) 200)) := Lib.hid (by rw [← meet_mem hsa hsb]; unfold meetL; rw [hsa, hsb]; rfl)
      rw [hsb] at c2
      have cm := fun n p1 p2 W => impl_MeetOf1 A B hsa hsb n p1 p2 W
      clear hsa hsb hra hrb
      go_enter Try.func22, Try.ntmps22
      go_wp2_with (first | (refine wpList_alloc_arr 26 [Value.slice none 0 0] zeroSg rfl rfl ?_; rw [← HV.out]))
      refine c1.mono ?_
      rintro e w1 ⟨rfl, hb1⟩
      clear c1 hkA hkB
      have hAw3 := Arr.new w1 54 (tabB (fun _ => false) 260)
      have hbAw3 := hb1.alloc (o := .cells (tabB (fun _ => false) 260).toArray 54) hb1.size
      go_wp2_with (first | (refine wpList_alloc_arr 54 (tabB (fun _ => false) 260) zeroT rfl rfl ?_) | (refine wpList_store_arr 54 (.tmp 6) (.tmp 13) w1.heap.size (tabB (fun _ => false) 260) (tabB (elF A) 260) rfl rfl rfl rfl hAw3 (by rw [tabB_length, tabB_length]) (sizeTl _) (HT _).out ?_; intro w3 hB1 hg3 hz3; clear hz3; have hb3 := hbAw3.grown hg3 hbAw3.size (fun k hk => by cases hk; exact hb1.size); obtain ⟨hcw3, hdw3⟩ := HKV.out _ hb3; clear hg3 hAw3 hbAw3))
      refine (c2 _ hb3).mono ?_
      rintro e w4 ⟨rfl, hb4⟩
      have hb4V := hb3.trans (hb4.mono hb3.size)
      have hB1x := hB1.below hb4
      have hz14 : w1.heap.size < w4.heap.size := hB1x.lt
      have hB1y := hB1x.alloc (.cells (tabB (fun _ => false) 260).toArray 54)
      clear c2 hB1 hB1x hb4 hb3 hcw3 hdw3
      have hAw6 := Arr.new w4 54 (tabB (fun _ => false) 260)
      have hbAw6 := hb4V.alloc (o := .cells (tabB (fun _ => false) 260).toArray 54) hb4V.size
      go_wp2_with (first | (refine wpList_alloc_arr 54 (tabB (fun _ => false) 260) zeroT rfl rfl ?_) | (refine wpList_store_arr 54 (.tmp 8) (.tmp 18) w4.heap.size (tabB (fun _ => false) 260) (tabB (elF B) 260) rfl rfl rfl rfl hAw6 (by rw [tabB_length, tabB_length]) (sizeTl _) (HT _).out ?_; intro w6 hB2 hg3 hz3; clear hz3; have hb6 := hbAw6.grown hg3 hbAw6.size (fun k hk => by cases hk; exact hb4V.size); obtain ⟨hcw6, hdw6⟩ := HKV.out _ hb6; have hB1z := hB1y.grown hg3 (fun e => by have h : w1.heap.size = w4.heap.size := Option.some.inj e; omega); clear hg3 hAw6 hbAw6))
      have cf := impl_fromMembership_M w1.heap.size w4.heap.size (fun n => hasN A (n : Int) && hasN B (n : Int)) w6 w6 (Below.refl _ _) (fun n W _ h => cm n _ _ W (hB1z.below h) (hB2.below h))
      clear cm hB1y hB1z hB2
      generalize fromGpL (memK (fun n => hasN A (n : Int) && hasN B (n : Int)) 200) = K at *
      generalize fromGpB (memK (fun n => hasN A (n : Int) && hasN B (n : Int)) 200) = q at *
      go_wp2_with fail
      refine cf.mono ?_
      rintro e w7 ⟨v5, rfl, ho5, hb7⟩
      have hb7V := hb6.trans (hb7.mono hb6.size)
      clear cf hb7 hcw6 hdw6
      have hA5 := HAV.out.below hb7V
      obtain ⟨a5, k5, rfl, -⟩ := row_open ho5
      have hn5 := own_apart ho5 (g := w.heap.size + 2) (.inl (Nat.lt_of_lt_of_le hVs hb6.size))
      have hbw5 := hbV.trans (hb7V.mono hbV.size)
      have hzw := Nat.le_trans hbV.size hb6.size
      go_wp2_with (first | (refine wpList_store_arr 26 (.tmp 4) (.tmp 29) (w.heap.size + 2) [Value.slice none 0 0] [Value.slice a5 K.length k5] rfl rfl rfl rfl hA5 rfl sizeSg (by simp [Value.oneCell']) ?_; intro w9 hA9 hg9 hz9; clear hz9))
      have hb9 := hbw5.grown hg9 hbw5.size (fun k hk => by cases hk; omega)
      exact bodyPost_ret (results_arr_tmp rfl _ _ (w.heap.size + 2) [Value.slice a5 K.length k5] dS rfl hA9 hdS hrS sizeSg) rfl ⟨_, by rw [HB.out]; rfl, by rw [HL.out]; exact owns_wider (ho5.kept hg9 hn5) hzw, hb9⟩

set_option maxRecDepth 100000 in
set_option maxHeartbeats 1600000 in
theorem impl_QuotientOf (G : List Int) (d : Int) (a : Option Addr) (cap : Nat) (w : World) (hr : SlV w a (G.map (Value.int .i64))) (hb : G.length ≤ 1048576) :
    Calls Try.prog 12 #[.agg #[.slice a G.length cap], .int .i64 d] w (SgPost (quotL G d) (quotB G d) w) := by
  obtain ⟨dS, hdS, hrS⟩ := undSg
  have cd := fun w => impl_isDivisor d w
  obtain ⟨U, hU⟩ : ∃ U, U = ((w.alloc (.cells #[.slice a G.length cap] 26)).alloc (.cells #[.int .i64 d] 3)) := ⟨_, rfl⟩
  obtain ⟨V, hV⟩ : ∃ V, V = U.alloc (.cells [Value.slice none 0 0].toArray 26) := ⟨_, rfl⟩
  have hbU : Below w.heap.size w U := by rw [hU]; exact (box_below _ _).alloc (by simp) _
  have hUe : U.heap.size = w.heap.size + 2 := by rw [hU]; simp
  have hcAU : U.cell? ⟨w.heap.size, 0, none⟩ = some (.slice a G.length cap) := by rw [hU]; exact (World.cell?_alloc_lt _ _ ⟨w.heap.size, 0, none⟩ (by simp)).trans (box_cell w _)
  have hcBU : U.cell? ⟨w.heap.size + 1, 0, none⟩ = some (.int .i64 d) := by rw [hU]; have := (Arr.new (w.alloc (.cells #[.slice a G.length cap] 26)) 3 [.int .i64 d]).cell 0; rw [show (w.alloc (.cells #[.slice a G.length cap] 26)).heap.size = w.heap.size + 1 by simp] at this; exact this
  have hbUV : Below U.heap.size U V := by rw [hV]; exact box_below _ _
  have hbV := hbU.trans (hbUV.mono hbU.size)
  have hAV : Arr V (w.heap.size + 2) 26 [Value.slice none 0 0] := by rw [hV, ← hUe]; exact Arr.new _ _ _
  have hVs : w.heap.size + 2 < V.heap.size := hAV.lt
  have HAV := Lib.hid hAV
  have HV : Hid (V = (((w.alloc (.cells #[.slice a G.length cap] 26)).alloc (.cells #[.int .i64 d] 3)).alloc (.cells [Value.slice none 0 0].toArray 26))) := Lib.hid (by rw [hV, hU])
  have HKV : Hid (∀ w2, Below V.heap.size V w2 → w2.cell? ⟨w.heap.size, 0, none⟩ = some (.slice a G.length cap) ∧ w2.cell? ⟨w.heap.size + 1, 0, none⟩ = some (.int .i64 d)) := Lib.hid fun w2 h => ⟨((h.cell (p := ⟨w.heap.size, 0, none⟩) (show w.heap.size < V.heap.size by omega)).trans (hbUV.cell (p := ⟨w.heap.size, 0, none⟩) (show w.heap.size < U.heap.size by omega))).trans hcAU, ((h.cell (p := ⟨w.heap.size + 1, 0, none⟩) (show w.heap.size + 1 < V.heap.size by omega)).trans (hbUV.cell (p := ⟨w.heap.size + 1, 0, none⟩) (show w.heap.size + 1 < U.heap.size by omega))).trans hcBU⟩
  obtain ⟨hkA, hkB⟩ := HKV.out V (Below.refl _ _)
  clear hU hV hbU hbUV hcAU hcBU hAV hUe
  have HT := fun f => Lib.hid (tabB_one f 260)
  have c1 := impl_elementsOf G a cap V (hr.below hbV) hb
  unfold ElPost at c1
  cases hs : isSgB G
  · have HB : Hid (quotB G d = false) := Lib.hid (by unfold quotB; rw [hs]; simp)
    have HL : Hid (quotL G d = []) := Lib.hid (by unfold quotL; rw [hs]; simp)
    rw [hs] at c1
    clear hs hr cd
    go_enter Try.func12, Try.ntmps12
    go_wp2_with (first | (refine wpList_alloc_arr 26 [Value.slice none 0 0] zeroSg rfl rfl ?_; rw [← HV.out]))
    refine c1.mono ?_
    rintro e w1 ⟨rfl, hb1⟩
    clear c1 hkA hkB
    have hAw3 := Arr.new w1 54 (tabB (fun _ => false) 260)
    have hbAw3 := hb1.alloc (o := .cells (tabB (fun _ => false) 260).toArray 54) hb1.size
    go_wp2_with (first | (refine wpList_alloc_arr 54 (tabB (fun _ => false) 260) zeroT rfl rfl ?_) | (refine wpList_store_arr 54 (.tmp 6) (.tmp 11) w1.heap.size (tabB (fun _ => false) 260) (tabB (elF G) 260) rfl rfl rfl rfl hAw3 (by rw [tabB_length, tabB_length]) (sizeTl _) (HT _).out ?_; intro w3 hB1 hg3 hz3; clear hz3; have hb3 := hbAw3.grown hg3 hbAw3.size (fun k hk => by cases hk; exact hb1.size); obtain ⟨hcw3, hdw3⟩ := HKV.out _ hb3; clear hg3 hAw3 hbAw3; have hA9' := HAV.out.below hb3) | (refine wpList_store_arr 26 (.tmp 4) (.tmp 25) (w.heap.size + 2) [Value.slice none 0 0] [Value.slice none 0 0] rfl rfl rfl rfl hA9' rfl sizeSg (by simp [Value.oneCell']) ?_; intro w9 hA9 hg9 hz9; clear hz9))
    have hb9 := (hbV.trans (hb3.mono hbV.size)).grown hg9 (hbV.trans (hb3.mono hbV.size)).size (fun k hk => by cases hk; omega)
    exact bodyPost_ret (results_arr_tmp rfl _ _ (w.heap.size + 2) [Value.slice none 0 0] dS rfl hA9 hdS hrS sizeSg) rfl ⟨_, by rw [HB.out]; rfl, by rw [HL.out]; exact World.ownsRow_nil _ _ _ _, hb9⟩
  · rw [hs] at c1
    cases hd : inB d 1 20
    · have HB : Hid (quotB G d = false) := Lib.hid (by unfold quotB; rw [hd]; simp)
      have HL : Hid (quotL G d = []) := Lib.hid (by unfold quotL; rw [hd]; simp)
      rw [hd] at cd
      clear hs hd hr
      go_enter Try.func12, Try.ntmps12
      go_wp2_with (first | (refine wpList_alloc_arr 26 [Value.slice none 0 0] zeroSg rfl rfl ?_; rw [← HV.out]))
      refine c1.mono ?_
      rintro e w1 ⟨rfl, hb1⟩
      clear c1 hkA hkB
      have hAw3 := Arr.new w1 54 (tabB (fun _ => false) 260)
      have hbAw3 := hb1.alloc (o := .cells (tabB (fun _ => false) 260).toArray 54) hb1.size
      go_wp2_with (first | (refine wpList_alloc_arr 54 (tabB (fun _ => false) 260) zeroT rfl rfl ?_) | (refine wpList_store_arr 54 (.tmp 6) (.tmp 11) w1.heap.size (tabB (fun _ => false) 260) (tabB (elF G) 260) rfl rfl rfl rfl hAw3 (by rw [tabB_length, tabB_length]) (sizeTl _) (HT _).out ?_; intro w3 hB1 hg3 hz3; clear hz3; have hb3 := hbAw3.grown hg3 hbAw3.size (fun k hk => by cases hk; exact hb1.size); obtain ⟨hcw3, hdw3⟩ := HKV.out _ hb3; clear hg3 hAw3 hbAw3))
      refine (cd _).mono ?_
      rintro e w4 ⟨rfl, hww⟩
      rw [hww]
      clear hww
      have hA9' := HAV.out.below hb3
      go_wp2_with (first | (refine wpList_store_arr 26 (.tmp 4) (.tmp 25) (w.heap.size + 2) [Value.slice none 0 0] [Value.slice none 0 0] rfl rfl rfl rfl hA9' rfl sizeSg (by simp [Value.oneCell']) ?_; intro w9 hA9 hg9 hz9; clear hz9))
      have hb9 := (hbV.trans (hb3.mono hbV.size)).grown hg9 (hbV.trans (hb3.mono hbV.size)).size (fun k hk => by cases hk; omega)
      exact bodyPost_ret (results_arr_tmp rfl _ _ (w.heap.size + 2) [Value.slice none 0 0] dS rfl hA9 hdS hrS sizeSg) rfl ⟨_, by rw [HB.out]; rfl, by rw [HL.out]; exact World.ownsRow_nil _ _ _ _, hb9⟩
    · rw [hd] at cd
      obtain ⟨hd0, hd1⟩ := inB_true hd
      have HB0 : Hid (quotB G d = fromGpB (quotGaps G d)) := Lib.hid (by unfold quotB; rw [hs, hd]; rfl)
      have HL0 : Hid (quotL G d = fromGpL (quotGaps G d)) := Lib.hid (by unfold quotL; rw [hs, hd]; rfl)
      have ch : ∀ W, Calls Try.prog 44 #[.agg (tabB (elF G) 260).toArray, .int .i64 d] W fun e w' => e = .returned (.bool (hasN G d)) ∧ Below W.heap.size W w' := fun W =>
        impl_has (elF G) d _ W (hasN_way G d hs)
      cases hq : hasN G d
      · have HB : Hid (quotB G d = fromGpB (memK (fun n => hasN G ((n : Int) * d)) 200)) := Lib.hid (by rw [HB0.out, quotGaps_mem hs])
        have HL : Hid (quotL G d = fromGpL (memK (fun n => hasN G ((n : Int) * d)) 200)) := Lib.hid (by rw [HL0.out, quotGaps_mem hs])
        rw [hq] at ch
        have cq := fun n p1 p2 W (hn : n < 200) => impl_QuotientOf1 G hs d n p1 p2 W hn hd0 hd1
        clear hs hd hr hq HB0 HL0
        go_enter Try.func12, Try.ntmps12
        go_wp2_with (first | (refine wpList_alloc_arr 26 [Value.slice none 0 0] zeroSg rfl rfl ?_; rw [← HV.out]))
        refine c1.mono ?_
        rintro e w1 ⟨rfl, hb1⟩
        clear c1 hkA hkB
        have hAw3 := Arr.new w1 54 (tabB (fun _ => false) 260)
        have hbAw3 := hb1.alloc (o := .cells (tabB (fun _ => false) 260).toArray 54) hb1.size
        go_wp2_with (first | (refine wpList_alloc_arr 54 (tabB (fun _ => false) 260) zeroT rfl rfl ?_) | (refine wpList_store_arr 54 (.tmp 6) (.tmp 11) w1.heap.size (tabB (fun _ => false) 260) (tabB (elF G) 260) rfl rfl rfl rfl hAw3 (by rw [tabB_length, tabB_length]) (sizeTl _) (HT _).out ?_; intro w3 hB1 hg3 hz3; clear hz3; have hb3 := hbAw3.grown hg3 hbAw3.size (fun k hk => by cases hk; exact hb1.size); obtain ⟨hcw3, hdw3⟩ := HKV.out _ hb3; clear hg3 hAw3 hbAw3))
        refine (cd _).mono ?_
        rintro e w4 ⟨rfl, hww⟩
        rw [hww]
        clear hww
        go_wp2_with (first | (refine wpList_load_arr 54 (.tmp 6) w1.heap.size (tabB (elF G) 260) (.array 260 4) rfl rfl rfl hB1 undT rfl (sizeTl _) ?_))
        refine (ch _).mono ?_
        rintro e w6 ⟨rfl, hb5⟩
        have hb6 := hb3.trans (hb5.mono hb3.size)
        have hB6 := hB1.below hb5
        obtain ⟨-, hc6⟩ := HKV.out _ hb6
        have cf := impl_fromMembership_Q w1.heap.size (w.heap.size + 1) (fun n => hasN G ((n : Int) * d)) w6 w6 (Below.refl _ _) (fun n W hn h => cq n _ _ W hn (hB6.below h) ((HKV.out W (hb6.trans (h.mono hb6.size))).2))
        clear cq ch cd hB6 hB1 hc6 hb5
        generalize fromGpL (memK (fun n => hasN G ((n : Int) * d)) 200) = K at *
        generalize fromGpB (memK (fun n => hasN G ((n : Int) * d)) 200) = q at *
        go_wp2_with fail
        refine cf.mono ?_
        rintro e w7 ⟨v5, rfl, ho5, hb7⟩
        have hb7V := hb6.trans (hb7.mono hb6.size)
        clear cf hb7
        have hA5 := HAV.out.below hb7V
        obtain ⟨a5, k5, rfl, -⟩ := row_open ho5
        have hn5 := own_apart ho5 (g := w.heap.size + 2) (.inl (Nat.lt_of_lt_of_le hVs hb6.size))
        have hbw5 := hbV.trans (hb7V.mono hbV.size)
        have hzw := Nat.le_trans hbV.size hb6.size
        go_wp2_with (first | (refine wpList_store_arr 26 (.tmp 4) (.tmp 15) (w.heap.size + 2) [Value.slice none 0 0] [Value.slice a5 K.length k5] rfl rfl rfl rfl hA5 rfl sizeSg (by simp [Value.oneCell']) ?_; intro w9 hA9 hg9 hz9; clear hz9))
        have hb9 := hbw5.grown hg9 hbw5.size (fun k hk => by cases hk; omega)
        exact bodyPost_ret (results_arr_tmp rfl _ _ (w.heap.size + 2) [Value.slice a5 K.length k5] dS rfl hA9 hdS hrS sizeSg) rfl ⟨_, by rw [HB.out]; rfl, by rw [HL.out]; exact owns_wider (ho5.kept hg9 hn5) hzw, hb9⟩
      · have HB : Hid (quotB G d = true) := Lib.hid (by rw [HB0.out, quot_in hs (by omega) hq]; exact fromGp_nil.1)
        have HL : Hid (quotL G d = [1]) := Lib.hid (by rw [HL0.out, quot_in hs (by omega) hq]; exact fromGp_nil.2)
        rw [hq] at ch
        clear hs hd hr hq HB0 HL0
        go_enter Try.func12, Try.ntmps12
        go_wp2_with (first | (refine wpList_alloc_arr 26 [Value.slice none 0 0] zeroSg rfl rfl ?_; rw [← HV.out]))
        refine c1.mono ?_
        rintro e w1 ⟨rfl, hb1⟩
        clear c1 hkA hkB
        have hAw3 := Arr.new w1 54 (tabB (fun _ => false) 260)
        have hbAw3 := hb1.alloc (o := .cells (tabB (fun _ => false) 260).toArray 54) hb1.size
        go_wp2_with (first | (refine wpList_alloc_arr 54 (tabB (fun _ => false) 260) zeroT rfl rfl ?_) | (refine wpList_store_arr 54 (.tmp 6) (.tmp 11) w1.heap.size (tabB (fun _ => false) 260) (tabB (elF G) 260) rfl rfl rfl rfl hAw3 (by rw [tabB_length, tabB_length]) (sizeTl _) (HT _).out ?_; intro w3 hB1 hg3 hz3; clear hz3; have hb3 := hbAw3.grown hg3 hbAw3.size (fun k hk => by cases hk; exact hb1.size); obtain ⟨hcw3, hdw3⟩ := HKV.out _ hb3; clear hg3 hAw3 hbAw3))
        refine (cd _).mono ?_
        rintro e w4 ⟨rfl, hww⟩
        rw [hww]
        clear hww
        go_wp2_with (first | (refine wpList_load_arr 54 (.tmp 6) w1.heap.size (tabB (elF G) 260) (.array 260 4) rfl rfl rfl hB1 undT rfl (sizeTl _) ?_))
        refine (ch _).mono ?_
        rintro e w5 ⟨rfl, hb5⟩
        have hb5V := hb3.trans (hb5.mono hb3.size)
        have cw := impl_withoutGaps w5
        clear ch cd hb5
        go_wp2_with fail
        refine cw.mono ?_
        rintro e w6 ⟨v6, rfl, ho5, hb6'⟩
        obtain ⟨a6, k6, rfl, -⟩ := row_open ho5
        have hb6 := hb5V.trans (hb6'.mono hb5V.size)
        have hzV5 := hb5V.size
        have hA5 := HAV.out.below hb6
        have hn5 := own_apart ho5 (g := w.heap.size + 2) (.inl (Nat.lt_of_lt_of_le hVs hzV5))
        have hbw5 := hbV.trans (hb6.mono hbV.size)
        have hzw := Nat.le_trans hbV.size hzV5
        clear cw hb6'
        go_wp2_with (first | (refine wpList_store_arr 26 (.tmp 4) (.tmp 30) (w.heap.size + 2) [Value.slice none 0 0] [Value.slice a6 1 k6] rfl rfl rfl rfl hA5 rfl sizeSg (by simp [Value.oneCell']) ?_; intro w9 hA9 hg9 hz9; clear hz9))
        have hb9 := hbw5.grown hg9 hbw5.size (fun k hk => by cases hk; omega)
        exact bodyPost_ret (results_arr_tmp rfl _ _ (w.heap.size + 2) [Value.slice a6 1 k6] dS rfl hA9 hdS hrS sizeSg) rfl ⟨_, by rw [HB.out]; rfl, by rw [HL.out]; exact owns_wider (ho5.kept hg9 hn5) hzw, hb9⟩
end Go.Proofs.Ytljfiiohiolbnaa
