/-
  CONTRACTS of the program's chapter 7, third part: CoordinateClash, CoordinatesOf, FromCoordinates. (Own work.)
-/
import Derived.Test.YtgkkkmcgnpdchaaI27
import Derived.Test.YtgkkkmcgnpdchaaL22
import Derived.Test.YtgkkkmcgnpdchaaL24
namespace Go.Proofs.Ytgkkkmcgnpdchaa
open Go Go.RowKit
attribute [local go_sem] Oper.semAt_some

set_option maxRecDepth 100000 in
set_option maxHeartbeats 1600000 in
theorem impl_CoordinateClash (L : List Int) (a : Option Addr) (cap : Nat) (w : World) (hr : SlV w a (L.map (Value.int .i64))) (hb : L.length ≤ 1048576) :
    Calls Try.prog 17 #[.slice a L.length cap] w (ClPost (clashA L) (clashB L) (clashQ L) w) := by
  obtain ⟨dC, hdC, hrC⟩ := undC
  have hA2 := Arr.new w 33 [Value.int .i64 0, Value.int .i64 0]
  have hb2 := box_below w (.cells [Value.int .i64 0, Value.int .i64 0].toArray 33)
  have c1 := impl_firstBeyondLimits L a cap _ (hr.below hb2) hb
  have hqE := run_eqC
  have hqN := run_neC
  have hqG := run_guardC
  have hz := clash_zero L
  go_enter Try.func17, Try.ntmps17
  rcases badA_clash L with ⟨hB0, hNo⟩ | ⟨hB1, hB2, hBs⟩
  · have c2 := fun w' h => impl_firstOfSums L a cap w' h hb hNo
    rw [hB0] at c1
    clear hB0 hNo
    have HZ := Lib.hid hz
    clear hz
    go_wp2_with (first
      | (refine wpList_alloc_arr 33 [Value.int .i64 0, Value.int .i64 0] zeroC rfl rfl ?_))
    refine c1.mono ?_
    rintro e w1 ⟨rfl, hb1⟩
    have hA21 := hA2.below hb1
    have hbw1 := hb2.trans (hb1.mono hb2.size)
    clear c1 hb1 hA2
    have hA5 := Arr.new w1 33 [Value.int .i64 0, Value.int .i64 0]
    have hA25 := hA21.alloc (.cells [Value.int .i64 0, Value.int .i64 0].toArray 33)
    have hbw2 := hbw1.alloc (o := .cells [Value.int .i64 0, Value.int .i64 0].toArray 33) hbw1.size
    have hlt := hA21.lt
    go_wp2_with (first
      | (refine wpList_alloc_arr 33 [Value.int .i64 0, Value.int .i64 0] zeroC rfl rfl ?_)
      | (refine wpList_store_arr 33 (.tmp 5) (.tmp 8) w1.heap.size [Value.int .i64 0, Value.int .i64 0] [Value.int .i64 0, Value.int .i64 0] rfl rfl rfl rfl hA5 rfl sizeC (by simp [Value.oneCell']) ?_; intro w3 hA53 hg3 hz3)
      | (refine wpList_load_arr 33 (.tmp 5) w1.heap.size [Value.int .i64 0, Value.int .i64 0] dC rfl rfl rfl hA53 hdC hrC sizeC ?_))
    have hb3 := hbw2.grown hg3 hbw2.size (fun k hk => by cases hk; exact Nat.le_of_lt hlt)
    have hA23 := hA25.grown hg3 (by simp; omega)
    refine (c2 w3 (hr.below hb3)).mono ?_
    rintro e w4 ⟨rfl, hb4⟩
    have hA24 := hA23.below hb4
    have hA54 := hA53.below hb4
    have hbw4 := hb3.trans (hb4.mono hb3.size)
    clear c2 hb3 hb4 hA23 hA53 hg3 hz3 hA5 hA25 hbw2
    have hqz := HZ.out
    generalize clashA L = A at *
    generalize clashB L = B at *
    generalize clashQ L = q at *
    go_wp2_with (first
      | (refine wpList_store_arr 33 (.tmp 5) (.tmp 13) w1.heap.size [Value.int .i64 0, Value.int .i64 0] [Value.int .i64 A, Value.int .i64 B] rfl rfl rfl rfl hA54 rfl sizeC (by simp [Value.oneCell']) ?_; intro w5 hA55 hg5 hz5))
    have hA2 := hA24.grown hg5 (by simp; omega)
    have hbw5 := hbw4.grown hg5 hbw4.size (fun k hk => by cases hk; exact Nat.le_of_lt hlt)
    have k0 := hA55.cell 0
    have k1 := hA55.cell 1
    have k2 := hA2.cell 0
    have k3 := hA2.cell 1
    have f2 := hA2.frozen 0
    have f3 := hA2.frozen 1
    have hAf : Arr ((w5.setCell ⟨w.heap.size, 0, none⟩ (.int .i64 A)).setCell ⟨w.heap.size, 1, none⟩ (.int .i64 B)).drew w.heap.size 33 [Value.int .i64 A, Value.int .i64 B] := ((hA2.set 0 (.int .i64 A)).set 1 (.int .i64 B)).drew
    have hbf : Below w.heap.size w ((w5.setCell ⟨w.heap.size, 0, none⟩ (.int .i64 A)).setCell ⟨w.heap.size, 1, none⟩ (.int .i64 B)).drew := ((hbw5.setCell (Nat.le_refl _) _).setCell (Nat.le_refl _) _).drew
    go_region
    all_goals go_wp2_with fail
    all_goals exact bodyPost_ret (results_arr_tmp rfl _ _ w.heap.size [Value.int .i64 A, Value.int .i64 B] dC rfl hAf hdC hrC sizeC) rfl ⟨rfl, hbf⟩
  · obtain ⟨hA, hB, hQ⟩ := clash_some hBs
    have hz' : ((badA L : Int) == 0) = false := by rw [beq_eq_false_iff_ne]; omega
    have HA := Lib.hid hA
    have HB := Lib.hid hB
    have HQ := Lib.hid hQ
    clear hA hB hQ hz hBs hB1 hB2 hr
    generalize (badA L : Int) = A at *
    go_wp2_with (first
      | (refine wpList_alloc_arr 33 [Value.int .i64 0, Value.int .i64 0] zeroC rfl rfl ?_))
    refine c1.mono ?_
    rintro e w1 ⟨rfl, hb1⟩
    have hA21 := hA2.below hb1
    have hbw1 := hb2.trans (hb1.mono hb2.size)
    clear c1 hb1 hA2
    have hA5 := Arr.new w1 33 [Value.int .i64 0, Value.int .i64 0]
    have hA25 := hA21.alloc (.cells [Value.int .i64 0, Value.int .i64 0].toArray 33)
    have hbw2 := hbw1.alloc (o := .cells [Value.int .i64 0, Value.int .i64 0].toArray 33) hbw1.size
    have hlt := hA21.lt
    go_wp2_with (first
      | (refine wpList_alloc_arr 33 [Value.int .i64 0, Value.int .i64 0] zeroC rfl rfl ?_)
      | (refine wpList_store_arr 33 (.tmp 5) (.tmp 8) w1.heap.size [Value.int .i64 0, Value.int .i64 0] [Value.int .i64 A, Value.int .i64 0] rfl rfl rfl rfl hA5 rfl sizeC (by simp [Value.oneCell']) ?_; intro w5 hA55 hg5 hz5)
      | (refine wpList_load_arr 33 (.tmp 5) w1.heap.size [Value.int .i64 A, Value.int .i64 0] dC rfl rfl rfl hA55 hdC hrC sizeC ?_))
    have hA2 := hA25.grown hg5 (by simp; omega)
    have hbw5 := hbw2.grown hg5 hbw2.size (fun k hk => by cases hk; exact Nat.le_of_lt hlt)
    have k0 := hA55.cell 0
    have k1 := hA55.cell 1
    have k2 := hA2.cell 0
    have k3 := hA2.cell 1
    have f2 := hA2.frozen 0
    have f3 := hA2.frozen 1
    have hAf : Arr ((w5.setCell ⟨w.heap.size, 0, none⟩ (.int .i64 A)).setCell ⟨w.heap.size, 1, none⟩ (.int .i64 0)).drew w.heap.size 33 [Value.int .i64 A, Value.int .i64 0] := ((hA2.set 0 (.int .i64 A)).set 1 (.int .i64 0)).drew
    have hbf : Below w.heap.size w ((w5.setCell ⟨w.heap.size, 0, none⟩ (.int .i64 A)).setCell ⟨w.heap.size, 1, none⟩ (.int .i64 0)).drew := ((hbw5.setCell (Nat.le_refl _) _).setCell (Nat.le_refl _) _).drew
    go_region
    all_goals go_wp2_with fail
    all_goals exact bodyPost_ret (results_arr_tmp rfl _ _ w.heap.size [Value.int .i64 A, Value.int .i64 0] dC rfl hAf hdC hrC sizeC) rfl ⟨by rw [HA.out, HB.out, HQ.out]; rfl, hbf⟩

set_option maxRecDepth 100000 in
set_option maxHeartbeats 1600000 in
theorem impl_CoordinatesOf (G : List Int) (a : Option Addr) (cap : Nat) (w : World) (hr : SlV w a (G.map (Value.int .i64))) (hb : G.length ≤ 1048576) :
    Calls Try.prog 13 #[.agg #[.slice a G.length cap]] w (SlPost (coordL G) w) := by
  obtain ⟨i0, hi, hz0, hz1, hz2⟩ := info_parts infoIntL
  have hb0 := box_below w (.cells #[.slice a G.length cap] 26)
  have hc0 := box_cell w (.slice a G.length cap)
  have c1 := impl_MultiplicityOf G a cap _ (hr.below hb0) hb
  have hz : w.heap.size < (w.alloc (.cells #[.slice a G.length cap] 26)).heap.size := by simp
  go_enter Try.func13, Try.ntmps13
  cases hs : isSgB G
  · have HR := Lib.hid (coordL_no hs)
    have hm : multN G = 0 := by unfold multN; rw [hs]; rfl
    have c2 := fun w' h => impl_AperySet G 0 a cap w' h hb (by omega) (by omega)
    have he : aperyL G 0 = [] := aperyL_no (by rw [hasN_not hs]; rfl)
    rw [he] at c2
    rw [hm] at c1
    clear hs hm he
    go_wp2_with fail
    refine c1.mono ?_
    rintro e w1 ⟨rfl, hb1⟩
    have hbel1 := hb0.trans (hb1.mono hb0.size)
    have hc1 : w1.cell? ⟨w.heap.size, 0, none⟩ = some (.slice a G.length cap) := (hb1.cell (p := ⟨w.heap.size, 0, none⟩) hz).trans hc0
    clear c1 hc0 hb1
    go_wp2_with fail
    refine (c2 _ (hr.below hbel1)).mono ?_
    rintro e w2 ⟨v2, rfl, ho2, hb2⟩
    obtain ⟨g, k2, rfl, rX⟩ := row_open ho2
    have hbel2 := hbel1.trans (hb2.mono hbel1.size)
    clear c2 hr hc1 ho2 rX hb2 hbel1 hb0
    go_wp2_with fail
    refine wp_loop_rounds 1 ?_
    rw [rounds_succ]
    go_wp2_with fail
    go_ret
    exact ⟨_, rfl, by rw [HR.out]; exact World.ownsRow_nil _ _ _ _, hbel2⟩
  · obtain ⟨m, hm, hA, -⟩ := mult_of hs
    rw [hm] at c1
    have hp := hA.pos
    have h60 := hA.le
    have HA := Lib.hid hA
    have HT : Hid (∀ r, 1 ≤ r → r < m → (coordL G).take r = (coordL G).take (r - 1) ++ [((apOf (sumB G) m r / m : Nat) : Int)]) := Lib.hid fun r h1 h2 => coord_take hm hA h1 h2
    have HLn := Lib.hid (coordL_at hm hA).1
    have HG : Hid (∀ r, r < m → (aperyL G (m : Int))[r]? = some (apOf (sumB G) m r : Int) ∧ apOf (sumB G) m r < 260) := Lib.hid fun r h2 => ⟨by rw [aperyL_in hA, List.getElem?_eq_getElem (by rw [apL_length]; exact h2), apL_get], by have := apOf_lt hA.far hp h2; omega⟩
    have hal := aperyL_length hA
    have c2 := fun w' h => impl_AperySet G (m : Int) a cap w' h hb (by omega) (by omega)
    have hm0 : ((m : Int) == 0) = false := by rw [beq_eq_false_iff_ne]; omega
    clear hs hA hm HA
    generalize aperyL G (m : Int) = P at *
    subst hal
    have HP := Lib.hid hp
    go_wp2_with fail
    refine c1.mono ?_
    rintro e w1 ⟨rfl, hb1⟩
    have hbel1 := hb0.trans (hb1.mono hb0.size)
    have hc1 : w1.cell? ⟨w.heap.size, 0, none⟩ = some (.slice a G.length cap) := (hb1.cell (p := ⟨w.heap.size, 0, none⟩) hz).trans hc0
    have hzA := Nat.lt_of_lt_of_le hz hb1.size
    clear c1 hc0 hb1
    go_wp2_with fail
    refine (c2 _ (hr.below hbel1)).mono ?_
    rintro e w2 ⟨v2, rfl, ho2, hb2⟩
    obtain ⟨g, k2, rfl, rX⟩ := row_open ho2
    obtain ⟨g2, off2, rfl, hg2, hcl⟩ := rX.slv.open (by intro h; rw [List.map_eq_nil_iff] at h; rw [h] at hp; simp at hp)
    have hbel2 := hbel1.trans (hb2.mono hbel1.size)
    have HC := Lib.hid hcl
    have hs2 := hbel2.size
    clear c2 hr hc1 ho2 rX hcl hb2 hbel1 hb0 hzA hz
    go_wp2_with fail
    go_loopw [4, 13] (fun v i wr => ∃ (k : Nat) (M : List Int), k ≤ P.length ∧ i = .int .i64 (k : Int) ∧ Hid (M = (coordL G).take (k - 1)) ∧ M.length ≤ k ∧
        wr.ownsRow w2.heap.size 3 1 v M.length (M.map (Value.int .i64)) ∧ Below w2.heap.size w2 wr) (fun _ i _ => P.length - (intOf i).toNat)
    case atStart => exact ⟨0, [], Nat.zero_le _, rfl, Lib.hid (by simp), by simp, World.ownsRow_nil _ _ _ _, Below.refl _ _⟩
    case round =>
      obtain ⟨k, M, hk, rfl, HMe, hML, hown, hbel⟩ := hrel
      have hsz := hbel.size
      by_cases hlt : k < P.length
      · obtain ⟨hx1, hx2⟩ := HG.out k hlt
        have hcell : wr.cell? ⟨g2, off2 + k, none⟩ = some (.int .i64 (apOf (sumB G) P.length k : Int)) := (hbel.cell (p := ⟨g2, off2 + k, none⟩) hg2).trans (HC.out k _ (by rw [List.getElem?_map, hx1]; rfl))
        clear hx1
        rcases Nat.eq_zero_or_pos k with rfl | hk1
        · rw [Nat.add_zero] at hcell
          generalize apOf (sumB G) P.length 0 = X at *
          go_wp2_with fail
          go_roundw
          case rel => exact ⟨0 + 1, M, by omega, by go_num, HMe, by omega, hown, hbel⟩
          case measure => simp [intOf]; omega
        · have HMS := Lib.hid (HT.out k hk1 hlt)
          rw [← HMe.out] at HMS
          have hdv : ((apOf (sumB G) P.length k : Nat) : Int) / (P.length : Int) = ((apOf (sumB G) P.length k / P.length : Nat) : Int) := (Int.natCast_ediv _ _).symm
          have hdb : apOf (sumB G) P.length k / P.length ≤ 260 := Nat.le_trans (Nat.div_le_self _ _) (by omega)
          have hr0 : (0 : Int) < (k : Int) := by omega
          generalize apOf (sumB G) P.length k = X at *
          generalize X / P.length = Y at *
          go_wp2_with (first
            | (at_builtin; refine wpList_append_own _ rfl (.tmp 20) (.tmp 24) 24 rfl w2.heap.size 3 i0 (Value.int .i64 0) 1 8 Try.underlying24 hi hz0 hz1 hz2 rfl (by decide) _ _ _ rfl (hown.alloc _) ⟨_, 0, none⟩ 1 1 [.int .i64 (Y : Int)] rfl rfl (World.news_of_block (cs := #[.int .i64 (Y : Int)]) (t := 3) (fr := (0, 0)) (heap_alloc_new _ _)) (by simp [Value.oneCell']) (by unfold maxLen; omega) (by omega) (by simp; omega) ?_; intro v6 w6 hown6 hg6 _))
          have hbel6 := (hbel.alloc hbel.size (.cells #[.int .i64 (Y : Int)] 3)).grown hg6 (by simp; omega) (fun j hj => (hown.lt j hj).1)
          have HO := Lib.hid hown6
          clear hown6 hg6 hown
          go_roundw
          case rel => exact ⟨k + 1, M ++ [(Y : Int)], by omega, by go_num, Lib.hid (by rw [show k + 1 - 1 = k by omega]; exact HMS.out.symm), by rw [List.length_append, List.length_singleton]; omega, by rw [List.length_append, List.length_singleton, List.map_append]; exact HO.out, hbel6⟩
          case measure => simp [intOf]; omega
      · have HE : Hid (coordL G = M) := Lib.hid (by rw [HMe.out, show k - 1 = P.length - 1 by omega, List.take_of_length_le (by rw [HLn.out]; exact Nat.le_refl _)])
        obtain rfl : k = P.length := by omega
        have hbw := hbel2.trans (hbel.mono hs2)
        go_wp2_with fail
        go_ret
        exact ⟨_, rfl, by rw [HE.out]; exact owns_wider hown hs2, hbw⟩
end Go.Proofs.Ytgkkkmcgnpdchaa
