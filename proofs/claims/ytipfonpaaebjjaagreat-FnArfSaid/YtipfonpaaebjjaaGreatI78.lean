/-
  CONTRACTS of the program's chapter 24: ArfClosure. (Own work: mk78.py.)
-/
import Derived.Test.YtipfonpaaebjjaaGreatSgAc
import Derived.Test.YtipfonpaaebjjaaGreatI76
import Derived.Test.YtipfonpaaebjjaaGreatI32
import Derived.Deep.LoopGhost
namespace Go.Proofs.YtipfonpaaebjjaaGreat
open Go Go.RowKit
attribute [local go_sem] Oper.semAt_some

theorem firstT_ex {bad : Nat → Nat → Nat → Bool} {n i j k : Nat} (hi : i < n) (hj : j ≤ i) (hk : k ≤ j) (h : bad i j k = true) : ∃ a b c, FirstT bad n a b c := by
  obtain ⟨a, ⟨b, c, hb, hc, hbad, hai⟩, hamin⟩ := least_of (P := fun a => ∃ b c, b ≤ a ∧ c ≤ b ∧ bad a b c = true ∧ a ≤ i) ⟨j, k, hj, hk, h, Nat.le_refl _⟩
  obtain ⟨b2, ⟨c2, hb2, hc2, hbad2⟩, hbmin⟩ := least_of (P := fun b => ∃ c, b ≤ a ∧ c ≤ b ∧ bad a b c = true) ⟨c, hb, hc, hbad⟩
  obtain ⟨c3, ⟨hc3, hbad3⟩, hcmin⟩ := least_of (P := fun c => c ≤ b2 ∧ bad a b2 c = true) ⟨hc2, hbad2⟩
  refine ⟨a, b2, c3, hc3, hb2, by omega, hbad3, fun c hc => ?_, fun b c hb hc => ?_, fun a' b c ha hb hc => ?_⟩
  · rw [Bool.eq_false_iff]; intro e; exact hcmin c hc ⟨by omega, e⟩
  · rw [Bool.eq_false_iff]; intro e; exact hbmin b hb ⟨c, by omega, hc, e⟩
  · rw [Bool.eq_false_iff]; intro e; exact hamin a' ha ⟨b, c, hb, hc, e, by omega⟩
theorem arf_some {S : List Int} {p : Int → Bool} (h : arfQ S p = true) : ∃ i j k, FirstT (badT S p) S.length i j k := by
  unfold arfQ arfT firstT at h
  split at h
  · next hex => obtain ⟨t, ht⟩ := hex; exact ⟨_, _, _, ht⟩
  · cases h
theorem arf_all {S : List Int} {p : Int → Bool} (h : arfQ S p = false) : ∀ i j k, i < S.length → j ≤ i → k ≤ j → badT S p i j k = false := by
  intro i j k hi hj hk
  rw [Bool.eq_false_iff]
  intro e
  obtain ⟨a, b, c, hf⟩ := firstT_ex hi hj hk e
  rw [(arf_hit hf).2.2.2] at h
  cases h
theorem smallT_asc (T : Nat → Bool) : Asc (smallT T) := upB_asc T _
theorem smallT_get {T : Nat → Bool} {i : Nat} (h : i < (smallT T).length) : ∃ n : Nat, (smallT T).getD i 0 = (n : Int) ∧ T n = true ∧ n < condT T := by
  have hm : (smallT T)[i] ∈ smallT T := List.getElem_mem h
  unfold smallT at hm
  obtain ⟨n, hn, e⟩ := List.mem_map.1 hm
  obtain ⟨h1, h2⟩ := mem_upB.1 hn
  exact ⟨n, by rw [show (smallT T).getD i 0 = (smallT T)[i] by simp [List.getD, h]]; exact e.symm, h2, h1⟩
theorem smallT_at {T : Nat → Bool} {n : Nat} (h : T n = true) (hc : n < condT T) : ∃ i, i < (smallT T).length ∧ (smallT T).getD i 0 = (n : Int) := by
  have hm : (n : Int) ∈ smallT T := List.mem_map.2 ⟨n, mem_upB.2 ⟨hc, h⟩, rfl⟩
  obtain ⟨i, hi, e⟩ := List.getElem_of_mem hm
  exact ⟨i, hi, by simp [List.getD, hi, e]⟩
theorem asc_le {S : List Int} (h : Asc S) {i j : Nat} (hi : i < S.length) (hj : j ≤ i) : S.getD j 0 ≤ S.getD i 0 := by
  have hjl : j < S.length := by omega
  rw [show S.getD j 0 = S[j] by simp [List.getD, hjl], show S.getD i 0 = S[i] by simp [List.getD, hi]]
  rcases Nat.lt_or_ge j i with e | e
  · have := h j i hi e; omega
  · have : j = i := by omega
    subst this; exact Int.le_refl _
theorem asc_ix {S : List Int} (h : Asc S) {i j : Nat} (hi : i < S.length) (hj : j < S.length) (hle : S.getD j 0 ≤ S.getD i 0) : j ≤ i := by
  rcases Nat.lt_or_ge i j with e | e
  · have := h i j hj e
    rw [show S.getD j 0 = S[j] by simp [List.getD, hj], show S.getD i 0 = S[i] by simp [List.getD, hi]] at hle
    omega
  · exact e
theorem condT_gap {T : Nat → Bool} {n : Nat} (hn : n < 200) (h : T n = false) : n < condT T := by
  have hm : (n : Int) ∈ gapsB T 200 := mem_gapsB.2 ⟨by omega, by omega, by rw [Int.toNat_natCast]; exact h⟩
  have hc := (condT_int T).1
  cases e : (gapsB T 200).getLast? with
  | none => rw [List.getLast?_eq_none_iff] at e; rw [e] at hm; cases hm
  | some l =>
    rw [e, Option.getD_some] at hc
    obtain ⟨ys, hys⟩ := List.getLast?_eq_some_iff.1 e
    have ha := gapsB_asc T 200
    rw [hys] at ha hm
    rcases List.mem_append.1 hm with h1 | h1
    · have := (List.pairwise_append.1 ha).2.2 _ h1 l (by simp)
      omega
    · have := List.mem_singleton.1 h1
      omega
theorem arfT_step {T : Nat → Bool} (h0 : T 0 = true) (h : arfQ (smallT T) (hasT T) = true) : ∃ x y z : Nat, arfX (smallT T) (hasT T) = (x : Int) ∧ arfY (smallT T) (hasT T) = (y : Int) ∧ arfZ (smallT T) (hasT T) = (z : Int) ∧
    T x = true ∧ T y = true ∧ T z = true ∧ z ≤ y ∧ y ≤ x ∧ x < 200 ∧ 1 ≤ x + y - z ∧ x + y - z < 200 ∧ T (x + y - z) = false := by
  obtain ⟨i, j, k, hf⟩ := arf_some h
  obtain ⟨e1, e2, e3, -⟩ := arf_hit hf
  obtain ⟨x, hx, tx, cx⟩ := smallT_get hf.lt
  obtain ⟨y, hy, ty, cy⟩ := smallT_get (T := T) (i := j) (by have := hf.lt; have := hf.ji; omega)
  obtain ⟨z, hz, tz, cz⟩ := smallT_get (T := T) (i := k) (by have := hf.lt; have := hf.ji; have := hf.kj; omega)
  have l1 := asc_le (smallT_asc T) hf.lt hf.ji
  have l2 := asc_le (smallT_asc T) (i := j) (j := k) (by have := hf.lt; have := hf.ji; omega) hf.kj
  have hc := (condT_int T).2
  have hb := hf.hit
  unfold badT at hb
  rw [hx, hy] at l1
  rw [hy, hz] at l2
  rw [hx, hy, hz, show (x : Int) + (y : Int) - (z : Int) = ((x + y - z : Nat) : Int) by omega] at hb
  have hh : hasT T ((x + y - z : Nat) : Int) = false := by simpa using hb
  unfold hasT at hh
  have hm : x + y - z < 200 := by
    rcases Nat.lt_or_ge (x + y - z) 200 with e | e
    · exact e
    · rw [if_pos (by omega)] at hh; cases hh
  rw [if_neg (by omega), if_pos (by omega), Int.toNat_natCast] at hh
  refine ⟨x, y, z, e1.trans hx, e2.trans hy, e3.trans hz, tx, ty, tz, by omega, by omega, by omega, ?_, hm, hh⟩
  rcases Nat.eq_zero_or_pos (x + y - z) with e | e
  · rw [e, h0] at hh; cases hh
  · exact e
theorem clo_tab {G : List Int} {T : Nat → Bool} (hT : ArfTab G T) (h : arfQ (smallT T) (hasT T) = false) : memK (fun n => hasT T (n : Int)) 200 = cloG G := by
  unfold cloG
  refine memK_cong fun n hn => ?_
  show hasT T (n : Int) = arfP G n
  unfold hasT
  rw [if_neg (by omega), if_pos (by omega), Int.toNat_natCast, Bool.eq_iff_iff, arfP_iff]
  constructor
  · exact hT.arf n
  · intro ha
    have hall := arf_all h
    rcases arf_complete (G := G) (c := condT T) (is := T) (fun m hm => .inr (hT.sub m hm)) (fun x y z hx hyx hzy tx ty tz hm => by
      obtain ⟨i, hi, ei⟩ := smallT_at tx hx
      obtain ⟨j, hj, ej⟩ := smallT_at ty (by omega)
      obtain ⟨k, hk, ek⟩ := smallT_at tz (by omega)
      have hji := asc_ix (smallT_asc T) hi hj (by rw [ei, ej]; omega)
      have hkj := asc_ix (smallT_asc T) hj hk (by rw [ej, ek]; omega)
      have hb := hall i j k hi hji hkj
      unfold badT at hb
      rw [ei, ej, ek, show (x : Int) + (y : Int) - (z : Int) = ((x + y - z : Nat) : Int) by omega] at hb
      have hh : hasT T ((x + y - z : Nat) : Int) = true := by simpa using hb
      have hc := (condT_int T).2
      unfold hasT at hh
      rw [if_neg (by omega), if_pos (by omega), Int.toNat_natCast] at hh
      exact hh) n ha with e | e
    · rcases Bool.eq_false_or_eq_true (T n) with e2 | e2
      · exact e2
      · have := condT_gap hn e2; omega
    · exact e
theorem assEndE (v : Value) (w : World) : (Instr.typeAssert (.iface 74 v) 68 74 true).run Tryz.prog w = .ok (.tuple #[v, .bool true]) w := by kernel_rfl
theorem zeroEnd : (Tryz.prog.info? 74).map (·.zero) = some (some (.agg ([] : List Value).toArray)) := by kernel_rfl
theorem sizeEnd : (Tryz.prog.info? 74).map (·.size) = some 0 := by kernel_rfl

set_option maxRecDepth 100000 in
set_option maxHeartbeats 1600000 in
theorem impl_fromMembership_H (T : Nat → Bool) (φ : Nat → Bool) (V w : World) (hVw : Below V.heap.size V w) (hφ : ∀ (n : Nat) W, n < 200 → Below V.heap.size V W → Calls Tryz.prog 66 #[.agg (tabB T 260).toArray, .int .i64 (n : Int)] W fun e w' => e = .returned (.bool (φ n)) ∧ Below W.heap.size W w') :
    Calls Tryz.prog 65 #[.func (.func 66) #[.agg (tabB T 260).toArray] #[]] w (SgPost (fromGpL (memK φ 200)) (fromGpB (memK φ 200)) w) := by
  obtain ⟨i0, hi, hz0, hz1, hz2⟩ := info_parts infoIntL
  obtain ⟨dS, hdS, hrS⟩ := undSg
  obtain ⟨U, hU⟩ : ∃ U, U = w.alloc (.cells [Value.slice none 0 0].toArray 26) := ⟨_, rfl⟩
  have hbU : Below w.heap.size w U := by rw [hU]; exact box_below _ _
  have hAU : Arr U w.heap.size 26 [Value.slice none 0 0] := by rw [hU]; exact Arr.new _ _ _
  have HU := Lib.hid hU
  have HP := Lib.hid hφ
  clear hU hφ
  have hVU : Below V.heap.size V U := hVw.trans (hbU.mono hVw.size)
  go_enter Tryz.func65, Tryz.ntmps65
  go_wp2_with (first | (refine wpList_alloc_arr 26 [Value.slice none 0 0] zeroSg rfl rfl ?_; rw [← HU.out]))
  go_loopw [4, 6] (fun v i wr => ∃ (k : Nat) (M : List Int), k ≤ 200 ∧ i = .int .i64 (k : Int) ∧ Hid (M = memK φ k) ∧ M.length ≤ k ∧ wr.ownsRow U.heap.size 3 1 v M.length (M.map (Value.int .i64)) ∧ U.heap.size ≤ wr.heap.size ∧ Below U.heap.size U wr) (fun _ i _ => 200 - (intOf i).toNat)
  case atStart => exact ⟨0, [], Nat.zero_le _, rfl, Lib.hid rfl, by simp, World.ownsRow_nil _ _ _ _, Nat.le_refl _, Below.refl _ _⟩
  case round =>
    obtain ⟨k, M, hk, rfl, HM, hMl, hown, hsz, hbel⟩ := hrel
    by_cases hlt : k < 200
    · have hlti : (k : Int) < 200 := by omega
      have c := HP.out k wr hlt (hVU.trans (hbel.mono hVU.size))
      have hms := memK_succ φ k
      rw [← HM.out] at hms
      have HMS := Lib.hid hms
      clear hms
      generalize φ k = q at *
      go_wp2_with fail
      refine c.mono ?_
      rintro e w5 ⟨rfl, hb5⟩
      have hown5 := owns_below hown hb5
      have hbel5 := hbel.trans (hb5.mono hsz)
      have hsz5 := Nat.le_trans hsz hb5.size
      clear c hown hbel hb5
      cases q
      · have HY : Hid (M ++ [(k : Int)] = memK φ (k + 1)) := Lib.hid (by rw [HMS.out]; rfl)
        clear HMS
        go_wp2_with (first | (at_builtin; refine wpList_append_own _ rfl (.tmp 13) (.tmp 15) 24 rfl U.heap.size 3 i0 (Value.int .i64 0) 1 8 Tryz.underlying24 hi hz0 hz1 hz2 rfl (by decide) _ _ _ rfl (hown5.alloc _) ⟨_, 0, none⟩ 1 1 [.int .i64 (k : Int)] rfl rfl (World.news_of_block (cs := #[.int .i64 (k : Int)]) (t := 3) (fr := (0, 0)) (heap_alloc_new _ _)) (by simp [Value.oneCell']) (by unfold maxLen; omega) (by omega) (by simp; omega) ?_; intro v6 w6 hown6 hg6 _))
        have hbel6 := (hbel5.alloc hsz5 (.cells #[.int .i64 (k : Int)] 3)).grown hg6 (by simp; omega) (fun j hj => (hown5.lt j hj).1)
        have HO := Lib.hid hown6
        clear hown6 hg6
        go_wp2_with fail
        go_roundw
        case rel => exact ⟨k + 1, M ++ [(k : Int)], by omega, by go_num, HY, by rw [List.length_append, List.length_singleton]; omega, by rw [List.length_append, List.length_singleton, List.map_append]; exact HO.out, hbel6.size, hbel6⟩
        case measure => simp [intOf]; omega
      · have HY : Hid (M = memK φ (k + 1)) := Lib.hid (by rw [HMS.out]; rfl)
        clear HMS
        go_wp2_with fail
        go_roundw
        case rel => exact ⟨k + 1, M, by omega, by go_num, HY, by omega, hown5, hsz5, hbel5⟩
        case measure => simp [intOf]; omega
    · have hlti : ¬ (k : Int) < 200 := by omega
      have hke : k = 200 := by omega
      rw [hke] at HM
      have HL : Hid (fromGpL (memK φ 200) = fromGpL M) := Lib.hid (by rw [HM.out])
      have HB : Hid (fromGpB (memK φ 200) = fromGpB M) := Lib.hid (by rw [HM.out])
      obtain ⟨a1, k1, rfl, rX⟩ := row_open hown
      have c := impl_FromGaps M a1 k1 wr rX.slv (by omega)
      have hA := hAU.below hbel
      have hbw := hbU.trans (hbel.mono hbU.size)
      clear hown rX hbel hke HM
      generalize fromGpL M = K at *
      generalize fromGpB M = q at *
      go_wp2_with fail
      refine c.mono ?_
      rintro e w5 ⟨v5, rfl, ho5, hb5⟩
      obtain ⟨a5, k5, rfl, -⟩ := row_open ho5
      have hA5 := hA.below hb5
      have hn5 := own_apart ho5 (g := w.heap.size) (.inl hA.lt)
      have hbw5 := hbw.trans (hb5.mono hbw.size)
      have hzw := hbw.size
      clear c hA hb5 hbw
      go_wp2_with (first | (refine wpList_store_arr 26 (.tmp 2) (.tmp 20) w.heap.size [Value.slice none 0 0] [Value.slice a5 K.length k5] rfl rfl rfl rfl hA5 rfl sizeSg (by simp [Value.oneCell']) ?_; intro w9 hA9 hg9 hz9; clear hz9))
      have hb9 := hbw5.grown hg9 hbw5.size (fun k hk => by cases hk; exact Nat.le_refl _)
      exact bodyPost_ret (results_arr_tmp rfl _ _ w.heap.size [Value.slice a5 K.length k5] dS rfl hA9 hdS hrS sizeSg) rfl ⟨_, by rw [HB.out]; rfl, by rw [HL.out]; exact owns_wider (ho5.kept hg9 hn5) hzw, hb9⟩

set_option maxRecDepth 100000 in
set_option maxHeartbeats 1600000 in
theorem impl_ArfClosure (G : List Int) (a : Option Addr) (cap : Nat) (w : World) (hr : SlV w a (G.map (Value.int .i64))) (hb : G.length ≤ 1048576) :
    Calls Tryz.prog 21 #[.agg #[.slice a G.length cap]] w (SgPost (cloL G) (cloB G) w) := by
  have HT := fun f => Lib.hid (tabB_one f 260)
  have hta := assAdd
  have hte := assEnd
  have htf := assEndE
  have c1 := fun w2 (h : SlV w2 a (G.map (Value.int .i64))) => impl_elementsOf G a cap w2 h hb
  obtain ⟨dS, hdS, hrS⟩ := undSg
  obtain ⟨U, hU⟩ : ∃ U, U = (w.alloc (.cells #[.slice a G.length cap] 26)) := ⟨_, rfl⟩
  obtain ⟨V, hV⟩ : ∃ V, V = U.alloc (.cells [Value.slice none 0 0].toArray 26) := ⟨_, rfl⟩
  have hbU : Below w.heap.size w U := by rw [hU]; exact box_below _ _
  have hbUV : Below U.heap.size U V := by rw [hV]; exact box_below _ _
  have hbV := hbU.trans (hbUV.mono hbU.size)
  have hUe : U.heap.size = w.heap.size + 1 := by rw [hU]; simp
  have hcV : V.cell? ⟨w.heap.size, 0, none⟩ = some (.slice a G.length cap) := by rw [hV]; exact (World.cell?_alloc_lt _ _ ⟨w.heap.size, 0, none⟩ (show w.heap.size < U.heap.size by omega)).trans (by rw [hU]; exact box_cell w _)
  have hAV : Arr V (w.heap.size + 1) 26 [Value.slice none 0 0] := by rw [hV, ← hUe]; exact Arr.new _ _ _
  have hVs : w.heap.size + 1 < V.heap.size := hAV.lt
  have HV : Hid (V = (w.alloc (.cells #[.slice a G.length cap] 26)).alloc (.cells [Value.slice none 0 0].toArray 26)) := Lib.hid (by rw [hV, hU])
  have HRS := Lib.hid (fun w2 (h : Below V.heap.size V w2) => hr.below (hbV.trans (h.mono hbV.size)))
  have HKC := Lib.hid (fun w2 (h : Below V.heap.size V w2) => (h.cell (p := ⟨w.heap.size, 0, none⟩) (show w.heap.size < V.heap.size by omega)).trans hcV)
  have HAV := Lib.hid hAV
  clear hU hV hUe hbU hbUV hr hAV
  have c1 := c1 V (HRS.out V (Below.refl _ _))
  unfold ElPost at c1
  cases hs : isSgB G
  · have HB : Hid (cloB G = false) := Lib.hid (by unfold cloB; rw [hs]; rfl)
    have HL : Hid (cloL G = []) := Lib.hid (by unfold cloL; rw [hs]; rfl)
    rw [hs] at c1
    clear hs
    go_enter Tryz.func21, Tryz.ntmps21
    go_wp2_with (first | (refine wpList_alloc_arr 26 [Value.slice none 0 0] zeroSg rfl rfl ?_; rw [← HV.out]))
    go_wp2_with fail
    refine c1.mono ?_
    rintro e w1 ⟨rfl, hb1⟩
    clear c1 hcV
    have hA0 := Arr.new w1 64 (tabB (fun _ => false) 260)
    have hbA := hb1.alloc (o := .cells (tabB (fun _ => false) 260).toArray 64) hb1.size
    go_wp2_with (first | (refine wpList_alloc_arr 64 (tabB (fun _ => false) 260) zeroT rfl rfl ?_) | (refine wpList_store_arr 64 (.tmp 4) (.tmp 11) w1.heap.size (tabB (fun _ => false) 260) (tabB (elF G) 260) rfl rfl rfl rfl hA0 (by rw [tabB_length, tabB_length]) (sizeTl _) (HT _).out ?_; intro w3 hB hg3 hz3; clear hz3; have hb3 := hbA.grown hg3 hbA.size (fun k hk => by cases hk; exact hb1.size); have hA9' := HAV.out.below hb3; clear hg3 hA0 hbA) | (refine wpList_store_arr 26 (.tmp 2) (.tmp 15) (w.heap.size + 1) [Value.slice none 0 0] [Value.slice none 0 0] rfl rfl rfl rfl hA9' rfl sizeSg (by simp [Value.oneCell']) ?_; intro w9 hA9 hg9 hz9; clear hz9))
    have hbw9 := hbV.trans (hb3.mono hbV.size)
    have hb9 := hbw9.grown hg9 hbw9.size (fun k hk => by cases hk; omega)
    exact bodyPost_ret (results_arr_tmp rfl _ _ (w.heap.size + 1) [Value.slice none 0 0] dS rfl hA9 hdS hrS sizeSg) rfl ⟨_, by rw [HB.out]; rfl, by rw [HL.out]; exact World.ownsRow_nil _ _ _ _, hb9⟩
  · rw [hs] at c1
    have HB : Hid (cloB G = fromGpB (cloG G)) := Lib.hid (by unfold cloB; rw [hs]; rfl)
    have HL : Hid (cloL G = fromGpL (cloG G)) := Lib.hid (by unfold cloL; rw [hs]; rfl)
    have HST : Hid (ArfTab G (elF G)) := Lib.hid (by rw [elF_at hs]; exact ArfTab.start G)
    clear hs
    go_enter Tryz.func21, Tryz.ntmps21
    go_wp2_with (first | (refine wpList_alloc_arr 26 [Value.slice none 0 0] zeroSg rfl rfl ?_; rw [← HV.out]))
    go_wp2_with fail
    refine c1.mono ?_
    rintro e w1 ⟨rfl, hb1⟩
    have hp1 := hb1.size
    clear c1 hcV
    have hA0 := Arr.new w1 64 (tabB (fun _ => false) 260)
    have hbA := hb1.alloc (o := .cells (tabB (fun _ => false) 260).toArray 64) hb1.size
    go_wp2_with (first | (refine wpList_alloc_arr 64 (tabB (fun _ => false) 260) zeroT rfl rfl ?_) | (refine wpList_store_arr 64 (.tmp 4) (.tmp 11) w1.heap.size (tabB (fun _ => false) 260) (tabB (elF G) 260) rfl rfl rfl rfl hA0 (by rw [tabB_length, tabB_length]) (sizeTl _) (HT _).out ?_; intro w3 hB hg3 hz3; clear hz3; have hb3 := hbA.grown hg3 hbA.size (fun k hk => by cases hk; exact hb1.size); have hA9' := HAV.out.below hb3; clear hg3 hA0 hbA))
    clear hA9'
    go_loopg [] (lackN (elF G)) (fun k wr => ∃ T, Hid (ArfTab G T) ∧ Hid (k = lackN T) ∧ Arr wr w1.heap.size 64 (tabB T 260) ∧ Below V.heap.size V wr)
    case atStart => exact ⟨elF G, HST, Lib.hid rfl, hB, hb3⟩
    case round =>
      clear hb3 hB
      obtain ⟨T, HTT, HKN, hA, hbel⟩ := hrel
      have hsz := hbel.size
      have cs := impl_arfStep T wr
      have h0 : T 0 = true := HTT.out.sub 0 .zero
      cases hQ : arfQ (smallT T) (hasT T)
      · have HCL := Lib.hid (clo_tab HTT.out hQ)
        rw [hQ, if_neg (by simp)] at cs
        clear hQ
        go_wp2_with (first | (refine wpList_load_arr 64 (.tmp 4) w1.heap.size (tabB T 260) (.array 260 4) rfl rfl rfl hA undT rfl (sizeTl _) ?_))
        refine cs.mono ?_
        rintro e w5 ⟨rfl, hb5⟩
        have hA5 := hA.below hb5
        have hb5V := hbel.trans (hb5.mono hsz)
        have hN := Arr.new w5 74 []
        have hA6 := hA5.alloc (.cells ([] : List Value).toArray 74)
        have hb6V := hb5V.alloc (o := .cells ([] : List Value).toArray 74) hb5V.size
        clear cs hA hb5
        go_wp2_with (first
          | (refine wpList_alloc_arr 74 [] zeroEnd rfl rfl ?_)
          | (refine wpList_store_arr 74 (.tmp 7) (.tmp 33) w5.heap.size [] [] rfl rfl rfl rfl hN rfl sizeEnd (by simp) ?_; intro w7 hN7 hg7 hz7; clear hz7; have hA7 := hA6.grown hg7 (by have := hA5.lt; simp; omega); have hb7V := hb6V.grown hg7 hb6V.size (fun k hk => by cases hk; exact hb5V.size))
          | (refine wpList_load_arr 64 (.tmp 4) w1.heap.size (tabB T 260) (.array 260 4) rfl rfl rfl hA7 undT rfl (sizeTl _) ?_))
        have cf := impl_fromMembership_H T (fun n => hasT T (n : Int)) w7 w7 (Below.refl _ _) (fun n W hn _ => impl_has T (n : Int) (hasT T (n : Int)) W rfl)
        rw [HCL.out] at cf
        clear hA7 hA5 hA6 hN
        generalize fromGpB (cloG G) = q at *
        generalize hK : fromGpL (cloG G) = K at *
        clear hK
        refine cf.mono ?_
        rintro e w8 ⟨v8, rfl, ho8, hb8⟩
        have hb8V := hb7V.trans (hb8.mono hb7V.size)
        clear cf
        obtain ⟨a9, k9, rfl, -⟩ := row_open ho8
        have hA8 := HAV.out.below hb8V
        have hbw8 := hbV.trans (hb8V.mono hbV.size)
        have hsw8 := hb8V.size
        have hsb8 := hb7V.size
        have hn7 := own_apart ho8 (g := w.heap.size + 1) (.inl (by omega))
        go_wp2_with (first | (refine wpList_store_arr 26 (.tmp 2) (.tmp 37) (w.heap.size + 1) [Value.slice none 0 0] [Value.slice a9 K.length k9] rfl rfl rfl rfl hA8 rfl sizeSg (by simp [Value.oneCell']) ?_; intro w9 hA9 hg9 hz9; clear hz9))
        have hb9 := hbw8.grown hg9 hbw8.size (fun k hk => by cases hk; omega)
        exact bodyPost_ret (results_arr_tmp rfl _ _ (w.heap.size + 1) [Value.slice a9 K.length k9] dS rfl hA9 hdS hrS sizeSg) rfl ⟨_, by rw [HB.out]; rfl, by rw [HL.out]; exact ownsBase (ho8.kept hg9 hn7) (by omega), hb9⟩
      · obtain ⟨x, y, z, e1, e2, e3, tx, ty, tz, hzy, hyx, hx2, hm1, hm2, htm⟩ := arfT_step h0 hQ
        rw [hQ, if_pos rfl, e1, e2, e3] at cs
        have HN := Lib.hid (HTT.out.next tx ty tz hzy hyx)
        have HM := Lib.hid (withT_less h0 hm2 htm)
        have cw := fun W => impl_with T (withT T (x + y - z)) (x + y - z) W hm1 (fun j hj _ => withT_lo hj) (fun j hj _ => withT_mid hj)
        have hw1 : IntKind.i64.wrap ((x : Int) + (y : Int)) = (x : Int) + (y : Int) := IntWalk.i64_in _ (by omega)
        have hw2 : IntKind.i64.wrap ((x : Int) + (y : Int) - (z : Int)) = ((x + y - z : Nat) : Int) := by rw [IntWalk.i64_in _ (by omega)]; omega
        clear hQ e1 e2 e3 tx ty tz htm h0
        generalize x + y - z = m at *
        go_wp2_with (first | (refine wpList_load_arr 64 (.tmp 4) w1.heap.size (tabB T 260) (.array 260 4) rfl rfl rfl hA undT rfl (sizeTl _) ?_))
        refine cs.mono ?_
        rintro e w5 ⟨rfl, hb5⟩
        have hA5 := hA.below hb5
        have hb5V := hbel.trans (hb5.mono hsz)
        have hN := Arr.new w5 71 [Value.int .i64 0, Value.int .i64 0, Value.int .i64 0]
        have hA6 := hA5.alloc (.cells [Value.int .i64 0, Value.int .i64 0, Value.int .i64 0].toArray 71)
        have hb6V := hb5V.alloc (o := .cells [Value.int .i64 0, Value.int .i64 0, Value.int .i64 0].toArray 71) hb5V.size
        clear cs hA hb5
        go_wp2_with (first
          | (refine wpList_alloc_arr 71 [Value.int .i64 0, Value.int .i64 0, Value.int .i64 0] zeroAdd rfl rfl ?_)
          | (refine wpList_store_arr 71 (.tmp 6) (.tmp 20) w5.heap.size [Value.int .i64 0, Value.int .i64 0, Value.int .i64 0] [Value.int .i64 (x : Int), Value.int .i64 (y : Int), Value.int .i64 (z : Int)] rfl rfl rfl rfl hN rfl sizeAdd (by simp [Value.oneCell']) ?_; intro w7 hN7 hg7 hz7; clear hz7; have hA7 := hA6.grown hg7 (by have := hA5.lt; simp; omega); have hb7V := hb6V.grown hg7 hb6V.size (fun k hk => by cases hk; exact hb5V.size); have hs0 := hN7.cell 0; have hs1 := hN7.cell 1; have hs2 := hN7.cell 2)
          | (refine wpList_load_arr 64 (.tmp 4) w1.heap.size (tabB T 260) (.array 260 4) rfl rfl rfl hA7 undT rfl (sizeTl _) ?_))
        refine (cw _).mono ?_
        rintro e w8 ⟨rfl, hb8⟩
        have hA8 := hA7.below hb8
        have hb8V := hb7V.trans (hb8.mono hb7V.size)
        clear cw hA7 hA5 hA6 hN hs0 hs1 hs2 hb8
        go_wp2_with (first
          | (refine wpList_store_arr 64 (.tmp 4) (.tmp 30) w1.heap.size (tabB T 260) (tabB (withT T m) 260) rfl rfl rfl rfl hA8 (by rw [tabB_length, tabB_length]) (sizeTl _) (HT _).out ?_; intro w9 hA9 hg9 hz9; clear hz9))
        have hb9V := hb8V.grown hg9 hb8V.size (fun k hk => by cases hk; exact hp1)
        try simp only [Act.put]
        go_roundg (lackN (withT T m))
        case measure => rw [HKN.out]; exact HM.out
        case rel => exact ⟨withT T m, HN, Lib.hid rfl, hA9, hb9V⟩

end Go.Proofs.YtipfonpaaebjjaaGreat
