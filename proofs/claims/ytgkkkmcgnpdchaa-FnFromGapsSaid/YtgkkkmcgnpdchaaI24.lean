/-
  CONTRACTS of the program's chapter 6, second part: positiveOf, FromApery. (Own work.)
-/
import Derived.Test.YtgkkkmcgnpdchaaI23
namespace Go.Proofs.Ytgkkkmcgnpdchaa
open Go Go.RowKit
attribute [local go_sem] Oper.semAt_some

theorem posL_take {L : List Int} {k : Nat} {x : Int} (hx : L[k]? = some x) : posL (L.take (k + 1)) = posL (L.take k) ++ (if 0 < x then [x] else []) := by
  unfold posL
  rw [List.take_add_one, hx, List.filter_append]
  congr 1
  show List.filter _ [x] = _
  rw [List.filter_cons]
  by_cases h : 0 < x
  · rw [if_pos (decide_eq_true h), if_pos h]; rfl
  · rw [if_neg (by simpa using h), if_neg h]; rfl

set_option maxRecDepth 100000 in
set_option maxHeartbeats 1600000 in
theorem impl_positiveOf (L : List Int) (a : Option Addr) (cap : Nat) (w : World) (hr : SlV w a (L.map (Value.int .i64))) (hb : L.length ≤ 1048576) :
    Calls Try.prog 89 #[.slice a L.length cap] w (SlPost (posL L) w) := by
  obtain ⟨i0, hi, hz0, hz1, hz2⟩ := info_parts infoIntL
  go_enter Try.func89, Try.ntmps89
  go_wp2_with fail
  go_loopw [3, 8] (fun v i wr => ∃ (k : Nat) (M : List Int), k ≤ L.length ∧ i = .int .i64 (k : Int) ∧ M = posL (L.take k) ∧ M.length ≤ k ∧
      wr.ownsRow w.heap.size 3 1 v M.length (M.map (Value.int .i64)) ∧ Below w.heap.size w wr) (fun _ i _ => L.length - (intOf i).toNat)
  case atStart => exact ⟨0, [], Nat.zero_le _, rfl, rfl, by simp, World.ownsRow_nil _ _ _ _, Below.refl _ _⟩
  case round =>
    obtain ⟨k, M, hk, rfl, hMe, hMk, hown, hbel⟩ := hrel
    have HMe := Lib.hid hMe
    clear hMe
    have hsz := hbel.size
    by_cases hlt : k < L.length
    · obtain ⟨b, off, rfl, hbs, hc⟩ := hr.open (by intro h; rw [List.map_eq_nil_iff] at h; subst h; simp at hlt)
      have hcell : wr.cell? ⟨b, off + k, none⟩ = some (.int .i64 L[k]) := by rw [hbel.cell (p := ⟨b, off + k, none⟩) hbs]; exact hc k _ (by simp [hlt])
      have hst := posL_take (List.getElem?_eq_getElem hlt)
      rw [← HMe.out] at hst
      clear hc hr
      generalize L[k] = x at *
      by_cases hx : 0 < x
      · have HN : Hid (M ++ [x] = posL (L.take (k + 1))) := Lib.hid (by rw [hst, if_pos hx])
        clear hst
        go_wp2_with (first
          | (at_builtin; refine wpList_append_own _ rfl (.tmp 14) (.tmp 16) 24 rfl w.heap.size 3 i0 (Value.int .i64 0) 1 8 Try.underlying24 hi hz0 hz1 hz2 rfl (by decide) _ _ _ rfl (hown.alloc _) ⟨_, 0, none⟩ 1 1 [.int .i64 x] rfl rfl (World.news_of_block (cs := #[.int .i64 x]) (t := 3) (fr := (0, 0)) (heap_alloc_new _ _)) (by simp [Value.oneCell']) (by unfold maxLen; omega) (by omega) (by simp; omega) ?_; intro v6 w6 hown6 hg6 _))
        have hbel6 := (hbel.alloc hbel.size (.cells #[.int .i64 x] 3)).grown hg6 (by simp; omega) (fun j hj => (hown.lt j hj).1)
        have HO := Lib.hid hown6
        clear hown6 hg6 hown
        go_roundw
        case rel => exact ⟨k + 1, M ++ [x], by omega, by go_num, HN.out, by rw [List.length_append, List.length_singleton]; omega, by rw [List.length_append, List.length_singleton, List.map_append]; exact HO.out, hbel6⟩
        case measure => simp [intOf]; omega
      · have HN : Hid (M = posL (L.take (k + 1))) := Lib.hid (by rw [hst, if_neg hx, List.append_nil])
        clear hst
        go_wp2_with fail
        go_roundw
        case rel => exact ⟨k + 1, M, by omega, by go_num, HN.out, by omega, hown, hbel⟩
        case measure => simp [intOf]; omega
    · obtain rfl : k = L.length := by omega
      have HE : Hid (posL L = M) := Lib.hid (by rw [HMe.out, List.take_of_length_le (Nat.le_refl _)])
      go_wp2_with fail
      go_ret
      exact ⟨_, rfl, by rw [HE.out]; exact hown, hbel⟩

set_option maxRecDepth 100000 in
set_option maxHeartbeats 1600000 in
theorem impl_FromApery (L : List Int) (a : Option Addr) (cap : Nat) (w : World) (hr : SlW w a cap (L.map (Value.int .i64))) (hb : L.length ≤ 1048576) :
    Calls Try.prog 53 #[.slice a L.length cap] w (SgPost (fromApL L) (fromApB L) w) := by
  obtain ⟨i0, hi, hz0, hz1, hz2⟩ := info_parts infoIntL
  have hb0 := box_below w (.cells #[.slice none 0 0] 26)
  have hsz : w.heap.size < (w.alloc (.cells #[.slice none 0 0] 26)).heap.size := by simp
  by_cases hlen : 1 ≤ L.length ∧ L.length ≤ 60
  · obtain ⟨hl1, hl2⟩ := hlen
    have hd1 : decide ((L.length : Int) < 1) = false := decide_eq_false (by omega)
    have hd2 : decide (60 < (L.length : Int)) = false := decide_eq_false (by omega)
    have c1 := impl_positiveOf L a cap (w.alloc (.cells #[.slice none 0 0] 26)) (hr.sl.below hb0) hb
    have hrs := hr.sl
    have hpl := posL_len L
    have c2 := fun w' a' c' (h : SlW w' a' c' ((posL L ++ [(L.length : Int)]).map (Value.int .i64))) => impl_SortList (posL L ++ [(L.length : Int)]) a' c' w' h (by rw [List.length_append, List.length_singleton]; omega)
    have hsl := sortL_length_le (posL L ++ [(L.length : Int)])
    have ct := fun w' a' c' (h : SlV w' a' ((sortL (posL L ++ [(L.length : Int)])).map (Value.int .i64))) => impl_tableOfSums_any (sortL (posL L ++ [(L.length : Int)])) a' c' w' h (sortL_spec _).1
      (fun x hx => by
        have hx := ((sortL_spec _).2 x).1 hx
        rw [List.mem_append, List.mem_singleton] at hx
        rcases hx with h1 | h1
        · have h2 := (List.mem_filter.1 h1).2
          rw [decide_eq_true_eq] at h2
          omega
        · omega) (by rw [List.length_append, List.length_singleton] at hsl; omega)
    rw [List.length_append, List.length_singleton] at hsl
    have hkl := apKept_len L
    have hKK : Hid (keptL (sortL (posL L ++ [(L.length : Int)])) = apKept L) := Lib.hid rfl
    have HW := Lib.hid (fromAp_way hl1)
    have HY : Hid (fromApB L = true → apKept L = fromApL L) := Lib.hid apKept_of
    have hal := aperyL_len_le (apKept L) (L.length : Int)
    have hc0 := box_cell w (.slice none 0 0)
    have hf0 : (w.alloc (.cells #[.slice none 0 0] 26)).frozen? ⟨w.heap.size, 0, none⟩ = false := (Arr.new w 26 [.slice none 0 0]).frozen 0
    have HT := fun f => Lib.hid (tabB_one f 260)
    clear hr
    go_enter Try.func53, Try.ntmps53
    go_wp2_with fail
    refine c1.mono ?_
    rintro e w1 ⟨v, rfl, ho, hb1⟩
    have hzA := Nat.lt_of_lt_of_le hsz hb1.size
    have hbz1 := hb0.trans (hb1.mono hb0.size)
    have hcA : w1.cell? ⟨w.heap.size, 0, none⟩ = some (.slice none 0 0) := (hb1.cell (p := ⟨w.heap.size, 0, none⟩) hsz).trans hc0
    have hfA : w1.frozen? ⟨w.heap.size, 0, none⟩ = false := (hb1.frozen (p := ⟨w.heap.size, 0, none⟩) hsz).trans hf0
    have hs1 := hb1.size
    clear c1 hc0 hf0 hb1 hb0
    rw [size_alloc] at ho hs1
    go_wp2_with (at_builtin; refine wpList_append_own _ rfl (.tmp 19) (.tmp 21) 24 rfl (w.heap.size + 1) 3 i0 (Value.int .i64 0) 1 8 Try.underlying24 hi hz0 hz1 hz2 rfl (by decide) _ _ _ rfl (ho.alloc _) ⟨_, 0, none⟩ 1 1 [.int .i64 (L.length : Int)] rfl rfl (World.news_of_block (cs := #[.int .i64 (L.length : Int)]) (t := 3) (fr := (0, 0)) (heap_alloc_new _ _)) (by simp [Value.oneCell']) (by unfold maxLen; omega) (by omega) (by rw [size_alloc]; omega) ?_; intro v6 w6 hown6 hg6 hxx; clear hxx)
    have hbz6 := (hbz1.alloc hbz1.size (.cells #[.int .i64 (L.length : Int)] 3)).grown hg6 (by simp; omega) (fun j hj => by have := (ho.lt j hj).1; omega)
    have hne6 : some w.heap.size ≠ v.ownBlock := own_row (own_ne ho (g := w.heap.size) (.inl (by omega)))
    have hcB : w6.cell? ⟨w.heap.size, 0, none⟩ = some (.slice none 0 0) := by
      refine (World.cell?_of_block (a := ⟨w.heap.size, 0, none⟩) (hg6.block w.heap.size (by simp; omega) hne6)).trans ?_
      exact (World.cell?_of_block (a := ⟨w.heap.size, 0, none⟩) (heap_alloc_old w1 _ hzA)).trans hcA
    have hfB : w6.frozen? ⟨w.heap.size, 0, none⟩ = false := by
      have e := (hg6.block w.heap.size (by simp; omega) hne6).trans (heap_alloc_old w1 (.cells #[.int .i64 (L.length : Int)] 3) hzA)
      unfold World.frozen? at hfA ⊢
      rw [show w6.heap[(⟨w.heap.size, 0, none⟩ : Addr).block]? = w1.heap[(⟨w.heap.size, 0, none⟩ : Addr).block]? from e]
      exact hfA
    have hz6 : w.heap.size < w6.heap.size := by have := hg6.size; simp at this; omega
    have e6 : ((posL L).map (Value.int .i64)) ++ [.int .i64 (L.length : Int)] = (posL L ++ [(L.length : Int)]).map (Value.int .i64) := by rw [List.map_append]; rfl
    have e7 : (posL L).length + 1 = (posL L ++ [(L.length : Int)]).length := by rw [List.length_append, List.length_singleton]
    rw [e6, e7] at hown6
    obtain ⟨a6, k6, rfl, rX6⟩ := row_open hown6
    have hx6 := c2 w6 a6 k6 rX6.slw
    clear c2 hbz1 hcA hfA ho hg6 hown6 rX6 e6 e7 hs1 hzA hne6
    generalize (posL L ++ [(L.length : Int)]) = PN at *
    go_wp2_with fail
    refine hx6.mono ?_
    rintro e w7 ⟨v7, rfl, ho7, hb7⟩
    obtain ⟨a7, k7, rfl, rX7⟩ := row_open ho7
    have hx7 := ct w7 a7 k7 rX7.slv
    have hcC : w7.cell? ⟨w.heap.size, 0, none⟩ = some (.slice none 0 0) := (hb7.cell (p := ⟨w.heap.size, 0, none⟩) hz6).trans hcB
    have hfC : w7.frozen? ⟨w.heap.size, 0, none⟩ = false := (hb7.frozen (p := ⟨w.heap.size, 0, none⟩) hz6).trans hfB
    have hz7 := Nat.lt_of_lt_of_le hz6 hb7.size
    have hbz7 := hbz6.trans (hb7.mono hbz6.size)
    clear hx6 ct ho7 rX7 hcB hfB hb7 hz6 hbz6
    go_wp2_with fail
    refine hx7.mono ?_
    rintro e w2 ⟨v2, rfl, ho, hb2⟩
    rw [hKK.out] at ho
    obtain ⟨a2, k2, rfl, rX⟩ := row_open ho
    have hc2 : w2.cell? ⟨w.heap.size, 0, none⟩ = some (.slice none 0 0) := (hb2.cell (p := ⟨w.heap.size, 0, none⟩) hz7).trans hcC
    have hf2 : w2.frozen? ⟨w.heap.size, 0, none⟩ = false := (hb2.frozen (p := ⟨w.heap.size, 0, none⟩) hz7).trans hfC
    have hz2 := Nat.lt_of_lt_of_le hz7 hb2.size
    have hbz2 := hbz7.trans (hb2.mono hbz7.size)
    have hA := Arr.new w2 65 (tabB (fun _ => false) 260)
    have hba := box_below w2 (.cells (tabB (fun _ => false) 260).toArray 65)
    clear hx7 hcC hfC hbz7 hb2
    go_wp2_with (first
      | (refine wpList_alloc_arr 65 (tabB (fun _ => false) 260) zeroT rfl rfl ?_)
      | (refine wpList_store_arr 65 (.tmp 5) (.tmp 25) w2.heap.size (tabB (fun _ => false) 260) (tabB (sumB (sortL PN)) 260) rfl rfl rfl rfl hA (by rw [tabB_length, tabB_length]) (sizeTl _) (HT _).out ?_; intro w3 hB hg3 hz3; clear hz3; have hbx := hba.grown hg3 hba.size (fun k hk => by cases hk; exact Nat.le_refl _)))
    have hc3 : w3.cell? ⟨w.heap.size, 0, none⟩ = some (.slice none 0 0) := (hbx.cell (p := ⟨w.heap.size, 0, none⟩) hz2).trans hc2
    have hf3 : w3.frozen? ⟨w.heap.size, 0, none⟩ = false := (hbx.frozen (p := ⟨w.heap.size, 0, none⟩) hz2).trans hf2
    have hz3 := Nat.lt_of_lt_of_le hz2 hbx.size
    have hbz3 := hbz2.trans (hbx.mono hbz2.size)
    have hbs := box_below w3 (.cells #[.slice a2 (apKept L).length k2] 26)
    have hcs := box_cell w3 (.slice a2 (apKept L).length k2)
    have hsl3 := (rX.slv.below hbx).below hbs
    have c3 := impl_AperySet (apKept L) (L.length : Int) a2 k2 (w3.alloc (.cells #[.slice a2 (apKept L).length k2] 26)) hsl3 (by omega) (by omega) (by omega)
    have hzs : w3.heap.size < (w3.alloc (.cells #[.slice a2 (apKept L).length k2] 26)).heap.size := by simp
    have hc12 : (w3.alloc (.cells #[.slice a2 (apKept L).length k2] 26)).cell? ⟨w.heap.size, 0, none⟩ = some (.slice none 0 0) := (hbs.cell (p := ⟨w.heap.size, 0, none⟩) hz3).trans hc3
    have hf12 : (w3.alloc (.cells #[.slice a2 (apKept L).length k2] 26)).frozen? ⟨w.heap.size, 0, none⟩ = false := (hbs.frozen (p := ⟨w.heap.size, 0, none⟩) hz3).trans hf3
    have hbzs := hbz3.trans (hbs.mono hbz3.size)
    have hzz := Nat.lt_trans hz3 hzs
    have HO := Lib.hid ho
    clear hA hba hg3 hB hc2 hf2 hc3 hf3 rX hsl3 ho
    refine c3.mono ?_
    rintro e w4 ⟨v4, rfl, ho4, hb4⟩
    obtain ⟨a4, k4, rfl, rX4⟩ := row_open ho4
    have hc4 : w4.cell? ⟨w.heap.size, 0, none⟩ = some (.slice none 0 0) := (hb4.cell (p := ⟨w.heap.size, 0, none⟩) hzz).trans hc12
    have hf4 : w4.frozen? ⟨w.heap.size, 0, none⟩ = false := (hb4.frozen (p := ⟨w.heap.size, 0, none⟩) hzz).trans hf12
    have hcs4 : w4.cell? ⟨w3.heap.size, 0, none⟩ = some (.slice a2 (apKept L).length k2) := (hb4.cell (p := ⟨w3.heap.size, 0, none⟩) hzs).trans hcs
    have hz4 := Nat.lt_of_lt_of_le hzz hb4.size
    have hbz4 := hbzs.trans (hb4.mono hbzs.size)
    have hzb4 := hb4.size
    have hs4 := hrs.below hbz4
    have c5 := impl_same (aperyL (apKept L) (L.length : Int)) L a4 a k4 cap w4 rX4.slv hs4 (by omega) (by omega)
    rw [← HW.out] at c5
    have HB4 := Lib.hid hb4
    clear c3 hc12 hf12 hcs ho4 rX4 hs4 hrs HW
    go_wp2_with fail
    refine c5.mono ?_
    rintro e w5 ⟨rfl, hb5⟩
    have hc5 : w5.cell? ⟨w.heap.size, 0, none⟩ = some (.slice none 0 0) := (hb5.cell (p := ⟨w.heap.size, 0, none⟩) hz4).trans hc4
    have hf5 : w5.frozen? ⟨w.heap.size, 0, none⟩ = false := (hb5.frozen (p := ⟨w.heap.size, 0, none⟩) hz4).trans hf4
    have hcs5 : w5.cell? ⟨w3.heap.size, 0, none⟩ = some (.slice a2 (apKept L).length k2) := (hb5.cell (p := ⟨w3.heap.size, 0, none⟩) (Nat.lt_of_lt_of_le hzs hzb4)).trans hcs4
    have hbz5 := hbz4.trans (hb5.mono hbz4.size)
    have HB5 := Lib.hid hb5
    clear c5 hb5 hc4 hf4 hcs4
    cases hq : fromApB L
    · have HR := Lib.hid hq
      clear hq HY
      go_wp2_with fail
      have hcf := World.cell?_setCell_same w5 ⟨w.heap.size, 0, none⟩ (.slice none 0 0) hc5
      exact bodyPost_ret (v := .tuple #[.agg #[.slice none 0 0], .bool false]) (by simp [results, Try.results53, go_sem, hcf]) rfl ⟨_, by rw [HR.out], by rw [fromApL_no HR.out]; exact World.ownsRow_nil _ _ _ _, hbz5.setCell (Nat.le_refl _) _⟩
    · have HR := Lib.hid hq
      have hG := HY.out hq
      clear HY hkl
      clear hq
      generalize hN : (apKept L).length = N at *
      have HN := Lib.hid hN
      clear hN
      go_wp2_with fail
      have hcf := World.cell?_setCell_same w5 ⟨w.heap.size, 0, none⟩ (.slice a2 N k2) hc5
      refine bodyPost_ret (v := .tuple #[.agg #[.slice a2 N k2], .bool true]) (by simp [results, Try.results53, go_sem, hcf]) rfl ⟨_, by rw [HR.out], ?_, hbz5.setCell (Nat.le_refl _) _⟩
      rw [← hG]
      obtain rfl := HN.out
      have ho := HO.out
      have hb4 := HB4.out
      have hb5 := HB5.out
      refine ownsBase (row_kept ho fun j hj => ?_) (Nat.le_of_lt hz7)
      obtain ⟨hj1, hj2⟩ := ho.lt j hj
      have hj3 := Nat.lt_trans (Nat.lt_of_lt_of_le hj2 hbx.size) hzs
      rw [heap_setCell_other w5 ⟨w.heap.size, 0, none⟩ j _ (by show j ≠ w.heap.size; omega), hb5.block j (Nat.lt_of_lt_of_le hj3 hzb4), hb4.block j hj3, hbs.block j (Nat.lt_of_lt_of_le hj2 hbx.size), hbx.block j hj2]
  · have hf : fromApB L = false := by
      unfold fromApB
      rcases Nat.lt_or_ge L.length 1 with h | h
      · unfold inB; rw [decide_eq_false (by omega : ¬ (1 : Int) ≤ L.length)]; rfl
      · unfold inB; rw [decide_eq_false (by omega : ¬ (L.length : Int) ≤ 60), Bool.and_false]; rfl
    have HR := Lib.hid hf
    clear hr hf
    have HC : Hid ((L.length : Int) < 1 ∨ 60 < (L.length : Int)) := Lib.hid (by omega)
    go_enter Try.func53, Try.ntmps53
    by_cases h1 : (L.length : Int) < 1
    · have hd1 : decide ((L.length : Int) < 1) = true := decide_eq_true h1
      clear hlen
      go_wp2_with fail
      exact bodyPost_ret (v := .tuple #[.agg #[.slice none 0 0], .bool false]) (by simp [results, Try.results53, go_sem]) rfl ⟨_, by rw [HR.out], by rw [fromApL_no HR.out]; exact World.ownsRow_nil _ _ _ _, hb0⟩
    · have hd1 : decide ((L.length : Int) < 1) = false := decide_eq_false h1
      have h2 : 60 < (L.length : Int) := HC.out.resolve_left h1
      have hd2 : decide (60 < (L.length : Int)) = true := decide_eq_true h2
      clear hlen
      go_wp2_with fail
      exact bodyPost_ret (v := .tuple #[.agg #[.slice none 0 0], .bool false]) (by simp [results, Try.results53, go_sem]) rfl ⟨_, by rw [HR.out], by rw [fromApL_no HR.out]; exact World.ownsRow_nil _ _ _ _, hb0⟩
end Go.Proofs.Ytgkkkmcgnpdchaa
