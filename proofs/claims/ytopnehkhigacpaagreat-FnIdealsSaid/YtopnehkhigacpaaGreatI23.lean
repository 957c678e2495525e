/-
  CONTRACTS of the program's chapter 6, first part: leastOfClasses (a map), AperySet. (Own work.)
-/
import Derived.Test.YtopnehkhigacpaaGreatI22
namespace Go.Proofs.YtopnehkhigacpaaGreat
open Go Go.RowKit
attribute [local go_sem] Oper.semAt_some

theorem elF_sum {G : List Int} (h : isSgB G = true) : elF G = sumB G := funext fun j => by unfold elF; rw [h, Bool.true_and]
theorem undI : Tryz.prog.underlying 3 = some (.int .i64) := by kernel_rfl
theorem undMap : Tryz.prog.underlying 87 = some (.map 3 3) := by kernel_rfl
theorem zeroI (w : World) : (zeroValue 3).run Tryz.prog w = .ok (.int .i64 0) w := by kernel_rfl
theorem keyedI : Maps.Keyed Tryz.prog 3 := Maps.int_keyed undI
theorem keyOf_nat (n : Nat) (h : n ≤ 1000000) : keyOf Tryz.prog 3 (.int .i64 (n : Int)) = some (keyR n) := Maps.keyOf_int_mk undI (WalkArith.wf_i64 (by omega))
section
variable {P : Program} {ops : Array Oper} {rest : List Oper} {o : Oper} {a : Act} {w : World} {Q : Exit → Act → World → Prop}
/-- A place of an array value of bools. -/
theorem wpList_index_bools (t e : TypeId) (n : Nat) (x y : Operand) (f : Nat → Bool) (k : Nat) (hg : o.guard = none) (ho : o.op = .index t x y) (hx : a.eval x = .agg (tabB f n).toArray) (hy : a.eval y = .int .i64 (k : Int))
    (ht : P.underlying t = some (.array n e)) (he : P.underlying e = some .bool) (hsz : ∀ w, (sizeOf e).run P w = .ok 1 w) (hk : k < n)
    (h : wpList P ops Q rest (a.put o.dst (.bool (f k))) w) : wpList P ops Q (o :: rest) a w := by
  refine wpList_plain hg fun K hK => ?_
  have e1 : (Instr.index t (.agg (tabB f n).toArray) (.int .i64 (k : Int))).run P w = .ok (.bool (f k)) w := by
    have hc := tabB_get f n k hk
    simp [Instr.index, asIntOf, run_underlying ht, hsz, hk, part, isAgg, run_underlying he, hc]
  unfold Oper.wp execOp
  simp only [ho, hx, hy, Sem.run_bind, e1, Result.andThen_ok]
  exact hK _ _ h
end

set_option maxRecDepth 100000 in
set_option maxHeartbeats 1600000 in
theorem impl_leastOfClasses (T : Nat → Bool) (n : Nat) (w : World) (h1 : 1 ≤ n) (h60 : n ≤ 60) :
    Calls Tryz.prog 100 #[.agg (tabB T 260).toArray, .int .i64 (n : Int)] w fun e w' => ∃ b D, e = .returned (.map (some b)) ∧ w'.ownsMap Tryz.prog 3 (plainElem Tryz.prog 3) b 260 D ∧ w.heap.size ≤ b ∧ LeastMap T n 260 D ∧ Below w.heap.size w w' := by
  have hmm := @run_makeMap Tryz.prog
  have hA := Arr.new w 49 (tabB T 260)
  have hA2 := hA.alloc (.map #[] 0)
  have hb0 := box_below w (.cells (tabB T 260).toArray 49)
  have hb1 := hb0.alloc (o := .map #[] 0) hb0.size
  have hmap := World.ownsMap_made (H := Unit) (w.alloc (.cells (tabB T 260).toArray 49)) Tryz.prog 3 (plainElem Tryz.prog 3)
  rw [show (w.alloc (.cells (tabB T 260).toArray 49)).heap.size = w.heap.size + 1 by simp] at hmap
  go_enter Tryz.func100, Tryz.ntmps100
  go_wp2_with (first
    | (refine wpList_box_arr 49 (.tmp 0) (tabB T 260) rfl rfl rfl ?_)
    | (refine wpList_load_arr 49 (.tmp 2) w.heap.size (tabB T 260) (.array 260 4) rfl rfl rfl hA2 undT rfl (sizeTl _) ?_))
  have hmap' : Hid (_ ∧ _) := Lib.hid ⟨hmap, hb1⟩
  clear hmap hb1 hb0 hA hA2 hmm
  go_loopw [12] (fun i wr => ∃ (k : Nat) (D : DataW Unit), k ≤ 260 ∧ i = .int .i64 (k : Int) ∧ wr.ownsMap Tryz.prog 3 (plainElem Tryz.prog 3) (w.heap.size + 1) k D ∧ LeastMap T n k D ∧ Below w.heap.size w wr) (fun i _ => 260 - (intOf i).toNat)
  case atStart => exact ⟨0, _, Nat.zero_le _, rfl, hmap'.out.1, LeastMap.start T n, hmap'.out.2⟩
  case round =>
    clear hmap'
    obtain ⟨k, D, hk, rfl, hown, hl, hbel⟩ := hrel
    by_cases hlt : k < 260
    · have hkey : keyOf Tryz.prog 3 (.int .i64 ((k : Int) % (n : Int))) = some (keyR (k % n)) := by
        rw [← Int.natCast_emod]; exact keyOf_nat _ (by have := Nat.mod_lt k (show 0 < n by omega); omega)
      cases hT : T k
      · have HL := Lib.hid (hl.stay h1 (fun h => by rw [hT] at h; cases h))
        go_wp2_with (first
          | (refine wpList_index_bools 49 4 260 (.tmp 11) (.tmp 12) T k rfl rfl rfl rfl undT undBool sizeBool hlt ?_; rw [hT])
          | (at_lookup; refine wpList_lookup_own_ok_int _ rfl _ _ 87 rfl 3 3 .i64 keyedI undMap undI (zeroI _) (w.heap.size + 1) k D rfl hown _ _ rfl hkey ?_; intro c hat hwc))
        go_roundw
        case rel => exact ⟨k + 1, D, by omega, by go_num, hown.mono (by omega), HL.out, hbel⟩
        case measure => simp [intOf]; omega
      · cases hh : Maps.has D (keyR (k % n))
        · have HL := Lib.hid (hl.put h1 hT hh)
          go_wp2_with (first
            | (refine wpList_index_bools 49 4 260 (.tmp 11) (.tmp 12) T k rfl rfl rfl rfl undT undBool sizeBool hlt ?_; rw [hT])
            | (at_lookup; refine wpList_lookup_own_ok_int _ rfl _ _ 87 rfl 3 3 .i64 keyedI undMap undI (zeroI _) (w.heap.size + 1) k D rfl hown _ _ rfl hkey ?_; intro c hat hwc; rw [hh])
            | (at_mapUpdate; refine wpList_mapUpdate_own _ rfl _ _ _ 87 rfl 3 3 keyedI undMap _ (w.heap.size + 1) k D rfl hown (by unfold maxLen; omega) _ _ _ rfl rfl hkey _ [] (plainElem_int undI (WalkArith.wf_i64 (by omega))) ?_; intro w1 hown1 hg1))
          have hbel1 := hbel.grown hg1 hbel.size (fun j hj => by cases hj; omega)
          go_roundw
          case rel => exact ⟨k + 1, _, by omega, by go_num, hown1, HL.out, hbel1⟩
          case measure => simp [intOf]; omega
        · have HL := Lib.hid (hl.stay h1 (fun _ => hh))
          go_wp2_with (first
            | (refine wpList_index_bools 49 4 260 (.tmp 11) (.tmp 12) T k rfl rfl rfl rfl undT undBool sizeBool hlt ?_; rw [hT])
            | (at_lookup; refine wpList_lookup_own_ok_int _ rfl _ _ 87 rfl 3 3 .i64 keyedI undMap undI (zeroI _) (w.heap.size + 1) k D rfl hown _ _ rfl hkey ?_; intro c hat hwc; rw [hh]))
          go_roundw
          case rel => exact ⟨k + 1, D, by omega, by go_num, hown.mono (by omega), HL.out, hbel⟩
          case measure => simp [intOf]; omega
    · obtain rfl : k = 260 := by omega
      go_wp2_with fail
      go_ret
      exact ⟨_, D, rfl, hown, by omega, hl, hbel⟩

set_option maxRecDepth 100000 in
set_option maxHeartbeats 1600000 in
theorem impl_AperySet (G : List Int) (n : Int) (a : Option Addr) (cap : Nat) (w : World) (hr : SlV w a (G.map (Value.int .i64))) (hb : G.length ≤ 1048576) (_ : -9223372036854775808 ≤ n) (_ : n ≤ 9223372036854775807) :
    Calls Tryz.prog 73 #[.agg #[.slice a G.length cap], .int .i64 n] w (SlPost (aperyL G n) w) := by
  obtain ⟨i0, hi, hz0, hz1, hz2⟩ := info_parts infoIntL
  have hb0 := box_below w (.cells #[.slice a G.length cap] 26)
  have hc0 := box_cell w (.slice a G.length cap)
  have c1 := impl_elementsOf G a cap _ (hr.below hb0) hb
  have HT := fun f => Lib.hid (tabB_one f 260)
  clear hr
  go_enter Tryz.func73, Tryz.ntmps73
  cases hs : isSgB G
  · have HR := Lib.hid (show aperyL G n = [] from aperyL_no (by rw [hasN_not hs]; rfl))
    unfold ElPost at c1
    rw [hs] at c1
    clear hs
    go_wp2_with fail
    refine c1.mono ?_
    rintro e w1 ⟨rfl, hb1⟩
    have hbz := hb0.trans (hb1.mono hb0.size)
    have hA := Arr.new w1 49 (tabB (fun _ => false) 260)
    have hbz2 := hbz.alloc (o := .cells (tabB (fun _ => false) 260).toArray 49) hbz.size
    have hzw := hb1.size
    rw [World.size_alloc] at hzw
    clear c1 hc0 hb1 hb0
    go_wp2_with (first
      | (refine wpList_alloc_arr 49 (tabB (fun _ => false) 260) zeroT rfl rfl ?_)
      | (refine wpList_store_arr 49 (.tmp 5) (.tmp 13) w1.heap.size (tabB (fun _ => false) 260) (tabB (elF G) 260) rfl rfl rfl rfl hA (by rw [tabB_length, tabB_length]) (sizeTl _) (HT _).out ?_; intro w3 hB hg3 hz3))
    have hb3 := hbz2.grown hg3 hbz2.size (fun k hk => by cases hk; exact hbz.size)
    go_ret
    exact ⟨_, rfl, by rw [HR.out]; exact World.ownsRow_nil _ _ _ _, hb3⟩
  · by_cases h2 : n < 1
    · have HR := Lib.hid (show aperyL G n = [] from aperyL_no (by unfold inB; rw [decide_eq_false (by omega : ¬ 1 ≤ n), Bool.false_and, Bool.and_false]))
      have hd2 : decide (n < 1) = true := decide_eq_true h2
      unfold ElPost at c1
      rw [hs] at c1
      clear hs
      go_wp2_with fail
      refine c1.mono ?_
      rintro e w1 ⟨rfl, hb1⟩
      have hbz := hb0.trans (hb1.mono hb0.size)
      have hA := Arr.new w1 49 (tabB (fun _ => false) 260)
      have hbz2 := hbz.alloc (o := .cells (tabB (fun _ => false) 260).toArray 49) hbz.size
      have hzw := hb1.size
      rw [World.size_alloc] at hzw
      clear c1 hc0 hb1 hb0
      go_wp2_with (first
        | (refine wpList_alloc_arr 49 (tabB (fun _ => false) 260) zeroT rfl rfl ?_)
        | (refine wpList_store_arr 49 (.tmp 5) (.tmp 13) w1.heap.size (tabB (fun _ => false) 260) (tabB (elF G) 260) rfl rfl rfl rfl hA (by rw [tabB_length, tabB_length]) (sizeTl _) (HT _).out ?_; intro w3 hB hg3 hz3)
        | (refine wpList_load_arr 49 (.tmp 5) w1.heap.size (tabB (elF G) 260) (.array 260 4) rfl rfl rfl hB undT rfl (sizeTl _) ?_))
      have hb3 := hbz2.grown hg3 hbz2.size (fun k hk => by cases hk; exact hbz.size)
      go_ret
      exact ⟨_, rfl, by rw [HR.out]; exact World.ownsRow_nil _ _ _ _, hb3⟩
    · have hd2 : decide (n < 1) = false := decide_eq_false h2
      by_cases h3 : 60 < n
      · have HR := Lib.hid (show aperyL G n = [] from aperyL_no (by unfold inB; rw [decide_eq_false (by omega : ¬ n ≤ 60), Bool.and_false, Bool.and_false]))
        have hd3 : decide (60 < n) = true := decide_eq_true h3
        unfold ElPost at c1
        rw [hs] at c1
        clear hs
        go_wp2_with fail
        refine c1.mono ?_
        rintro e w1 ⟨rfl, hb1⟩
        have hbz := hb0.trans (hb1.mono hb0.size)
        have hA := Arr.new w1 49 (tabB (fun _ => false) 260)
        have hbz2 := hbz.alloc (o := .cells (tabB (fun _ => false) 260).toArray 49) hbz.size
        have hzw := hb1.size
        rw [World.size_alloc] at hzw
        clear c1 hc0 hb1 hb0
        go_wp2_with (first
          | (refine wpList_alloc_arr 49 (tabB (fun _ => false) 260) zeroT rfl rfl ?_)
          | (refine wpList_store_arr 49 (.tmp 5) (.tmp 13) w1.heap.size (tabB (fun _ => false) 260) (tabB (elF G) 260) rfl rfl rfl rfl hA (by rw [tabB_length, tabB_length]) (sizeTl _) (HT _).out ?_; intro w3 hB hg3 hz3)
          | (refine wpList_load_arr 49 (.tmp 5) w1.heap.size (tabB (elF G) 260) (.array 260 4) rfl rfl rfl hB undT rfl (sizeTl _) ?_))
        have hb3 := hbz2.grown hg3 hbz2.size (fun k hk => by cases hk; exact hbz.size)
        go_ret
        exact ⟨_, rfl, by rw [HR.out]; exact World.ownsRow_nil _ _ _ _, hb3⟩
      · have hd3 : decide (60 < n) = false := decide_eq_false h3
        obtain ⟨N, rfl⟩ := Int.eq_ofNat_of_zero_le (show 0 ≤ n by omega)
        have hN1 : 1 ≤ N := by omega
        have hN6 : N ≤ 60 := by omega
        have ch := fun w => impl_has (elF G) (N : Int) (hasN G (N : Int)) w (hasN_way G _ hs)
        have cl := fun w => impl_leastOfClasses (elF G) N w hN1 hN6
        have HE := Lib.hid (elF_sum hs)
        have HN : Hid (hasN G (N : Int) = false → aperyL G (N : Int) = []) := Lib.hid fun hh => aperyL_no (by rw [hh]; rfl)
        have HY : Hid (hasN G (N : Int) = true → ApIn G N) := Lib.hid fun hh => by
          obtain ⟨N', hN', h⟩ := apIn_of (G := G) (n := (N : Int)) (by rw [hh, inB_mk (by omega) (by omega)]; rfl)
          obtain rfl : N = N' := by omega
          exact h
        generalize hasN G (N : Int) = q at *
        unfold ElPost at c1
        rw [hs] at c1
        clear hs
        go_wp2_with fail
        refine c1.mono ?_
        rintro e w1 ⟨rfl, hb1⟩
        have hbz := hb0.trans (hb1.mono hb0.size)
        have hA := Arr.new w1 49 (tabB (fun _ => false) 260)
        have hbz2 := hbz.alloc (o := .cells (tabB (fun _ => false) 260).toArray 49) hbz.size
        have hzw := hb1.size
        rw [World.size_alloc] at hzw
        clear c1 hc0 hb1 hb0
        go_wp2_with (first
          | (refine wpList_alloc_arr 49 (tabB (fun _ => false) 260) zeroT rfl rfl ?_)
          | (refine wpList_store_arr 49 (.tmp 5) (.tmp 13) w1.heap.size (tabB (fun _ => false) 260) (tabB (elF G) 260) rfl rfl rfl rfl hA (by rw [tabB_length, tabB_length]) (sizeTl _) (HT _).out ?_; intro w3 hB hg3 hz3))
        have hb3 := hbz2.grown hg3 hbz2.size (fun k hk => by cases hk; exact hbz.size)
        refine wp_load_mid 49 (.tmp 5) rfl w1.heap.size 0 rfl (tabB (elF G) 260) (.array 260 4) hB.range undT rfl (sizeTl _) ?_
        go_wp2_with fail
        refine (ch _).mono ?_
        rintro e w4 ⟨rfl, hb4⟩
        have hB4 := hB.below hb4
        have hbz4 := hb3.trans (hb4.mono hb3.size)
        cases q
        · have HR := Lib.hid (HN.out (by simp))
          go_wp2_with fail
          go_ret
          exact ⟨_, rfl, by rw [HR.out]; exact World.ownsRow_nil _ _ _ _, hbz4⟩
        · have HA := Lib.hid (HY.out (by simp))
          go_wp2_with (first
            | (refine wpList_load_arr 49 (.tmp 5) w1.heap.size (tabB (elF G) 260) (.array 260 4) rfl rfl rfl hB4 undT rfl (sizeTl _) ?_))
          refine (cl _).mono ?_
          rintro e w5 ⟨b, D, rfl, hmap, hbb, hlm, hb5⟩
          have hbz5 := hbz4.trans (hb5.mono hbz4.size)
          have hzz5 := hbz5.size
          clear hB hg3 hz3 hA hb3 hb4 hB4 hbz4 hb5 hbz2 hbz hzw HN HY ch cl h2 h3
          go_wp2_with (at_make; refine wpList_make_full _ rfl _ _ 24 rfl w5.heap.size 3 i0 (Value.int .i64 0) 1 Tryz.underlying24 hi hz0 hz1 .i64 .i64 _ _ N rfl rfl rfl rfl (by rw [hz2]; omega) (by unfold maxLen; omega) (Nat.le_refl _) ?_; intro w6 hown hgrow)
          have hb6 : Below w.heap.size w w6 := hbz5.grown hgrow hzz5 (fun k h => by cases h)
          have hmap6 := hmap.kept hgrow (by simp)
          have hAL := aperyL_length HA.out
          have hown' : w6.ownsRow w5.heap.size 3 1 (.slice (some ⟨w5.heap.size, 0, none⟩) N N) N (filled ((aperyL G (N : Int)).map (Value.int .i64)) (Value.int .i64 0) 0) := by
            rw [filled_zero, List.length_map, hAL]
            have e : (madeCells (Value.int .i64 0).cells (N * 1)).toList = List.replicate N (Value.int .i64 0) := by rw [Nat.mul_one]; exact toList_madeCells_one _ _
            rw [← e]; exact hown
          have hbl : b < w5.heap.size := hmap.lt
          clear hown hgrow hi hz0 hz1 hz2 hmap hbz5
          go_wp2_with fail
          go_loopw [38] (fun i wr => ∃ k : Nat, k ≤ N ∧ i = .int .i64 (k : Int) ∧
              wr.ownsRow w5.heap.size 3 1 (.slice (some ⟨w5.heap.size, 0, none⟩) N N) N (filled ((aperyL G (N : Int)).map (Value.int .i64)) (Value.int .i64 0) k) ∧ wr.ownsMap Tryz.prog 3 (plainElem Tryz.prog 3) b 260 D ∧ Below w.heap.size w wr) (fun i _ => N - (intOf i).toNat)
          case atStart => exact ⟨0, Nat.zero_le _, rfl, hown', hmap6, hb6⟩
          case round =>
            clear hown' hmap6 hb6
            obtain ⟨k, hk, rfl, hown, hmap, hbel⟩ := hrel
            by_cases hlt : k < N
            · have HX : Hid (((aperyL G (N : Int)).map (Value.int .i64))[k]? = some (Value.int .i64 (apOf (sumB G) N k : Int))) := Lib.hid (by
                rw [aperyL_in HA.out, List.getElem?_map, List.getElem?_eq_getElem (by rw [apL_length]; exact hlt), apL_get]; rfl)
              have hst := hown.stored k (.int .i64 (apOf (sumB G) N k : Int))
              rw [filled_set _ _ _ _ HX.out] at hst
              have HS := Lib.hid hst
              have hlen : (filled ((aperyL G (N : Int)).map (Value.int .i64)) (Value.int .i64 0) k).length = N := by have := hown.1; omega
              obtain ⟨u, hu⟩ : ∃ u, wr.cell? ⟨w5.heap.size, k, none⟩ = some u := by
                rw [hown.cellAt k (by omega)]; exact ⟨_, List.getElem?_eq_getElem (by omega)⟩
              have hfz := hown.frozenAt k
              have HB := Lib.hid (hbel.setCell (p := ⟨w5.heap.size, k, none⟩) hzz5 (.int .i64 (apOf (sumB G) N k : Int)))
              have HM := Lib.hid (hmap.setCell (a := ⟨w5.heap.size, k, none⟩) (by show b ≠ w5.heap.size; omega) (.int .i64 (apOf (sumB G) N k : Int)))
              have HL : Hid (∀ c : Int, D.atKey (keyR k) (.lit (.int .i64 0)) = .lit (.int .i64 c) → c = (apOf (sumB G) N k : Int)) := Lib.hid fun c hc => by
                have h := hlm
                rw [HE.out] at h
                exact h.done HA.out.far hN1 hN6 hlt hc
              have hkey := keyOf_nat k (by omega)
              clear hst hown hlen hbel
              generalize hx : (apOf (sumB G) N k : Int) = x at *
              clear hx
              go_wp2_with (first
                | (at_lookup; refine wpList_lookup_own_int _ rfl _ _ 87 rfl 3 3 .i64 keyedI undMap undI (zeroI _) b 260 D rfl hmap _ _ rfl hkey ?_; intro c hat hwc; obtain rfl := HL.out c hat))
              go_roundw
              case rel => exact ⟨k + 1, by omega, by go_num, HS.out.1, HM.out, HB.out⟩
              case measure => simp [intOf]; omega
            · obtain rfl : k = N := by omega
              have e := filled_all ((aperyL G (k : Int)).map (Value.int .i64)) (Value.int .i64 0)
              rw [List.length_map, hAL] at e
              rw [e] at hown
              have HO := Lib.hid hown
              clear hown e hlm
              go_wp2_with fail
              go_ret
              exact ⟨_, rfl, by rw [hAL]; exact owns_wider HO.out hzz5, hbel⟩
end Go.Proofs.YtopnehkhigacpaaGreat
