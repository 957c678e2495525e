/-
  CHAPTER 9 OF THE REFERENCE: l9Mirror, IsSymmetric, IsPseudoSymmetric, IsIrreducible. (Own work.)
-/
import Derived.Test.YtipfonpaaebjjaaGreatSgS
import Derived.Test.YtipfonpaaebjjaaGreatCh4L
import Derived.Test.YtipfonpaaebjjaaGreatHta
namespace Go.Proofs.YtipfonpaaebjjaaGreat
open Go Go.RowKit

noncomputable def mirAt (G : List Int) (mid : Bool) (x : Nat) : Bool := (mid && decide (2 * x + 1 = condNat G)) || (sumB G x != sumB G (condNat G - 1 - x))
theorem mirB_no {G : List Int} {mid : Bool} {x : Nat} (hx : x < condNat G) (h : mirAt G mid x = false) : mirB G mid = false := by
  unfold mirB
  exact List.all_eq_false.2 ⟨x, List.mem_range.2 hx, by unfold mirAt at h; rw [h]; simp⟩
theorem mirB_yes {G : List Int} {mid : Bool} (h : ∀ x, x < condNat G → mirAt G mid x = true) : mirB G mid = true := by
  unfold mirB
  exact List.all_eq_true.2 fun x hx => h x (List.mem_range.1 hx)
set_option maxRecDepth 100000 in
set_option maxHeartbeats 3200000 in
theorem spec_l9Mirror (G : List Int) (mid : Bool) (a : Option Addr) (cap : Nat) (w : World) (hr : SlV w a (G.map (Value.int .i64))) (hs : isSgB G = true) (hb : G.length ≤ 1048576) :
    Calls Tryz.prog 58 #[.agg #[.slice a G.length cap], .bool mid] w fun e w' => e = .returned (.bool (mirB G mid)) ∧ Below w.heap.size w w' := by
  obtain ⟨W, hW⟩ : ∃ W, W = w.alloc (.cells #[.slice a G.length cap] 26) := ⟨_, rfl⟩
  have hbW : Below w.heap.size w W := by rw [hW]; exact box_below _ _
  have hc0 : W.cell? ⟨w.heap.size, 0, none⟩ = some (.slice a G.length cap) := by rw [hW]; exact box_cell w _
  have hWs : w.heap.size < W.heap.size := by rw [hW]; simp
  have c1 := spec_FrobeniusOf G a cap W (hr.below hbW) hb
  have hF : frobN G = (condNat G : Int) - 1 := by have := frob_cond hs; omega
  have c2 := fun (n : Int) w' (h : SlV w' a (G.map (Value.int .i64))) => spec_l3Has G n a cap w' h hs
  have HS : Hid (∀ x : Nat, hasN G (x : Int) = sumB G x) := Lib.hid fun x => hasN_in hs x
  have hc200 := condNat_le G
  have HW := Lib.hid hW
  clear hW hs
  rw [hF] at c1
  clear hF
  go_enter Tryz.func58, Tryz.ntmps58
  go_wp2_with fail
  rw [← HW.out]
  refine c1.mono ?_
  rintro e w1 ⟨rfl, hb1⟩
  have hb01 := hbW.trans (hb1.mono hbW.size)
  have hk1 : w1.cell? ⟨w.heap.size, 0, none⟩ = some (.slice a G.length cap) := by rw [hb1.cell (p := ⟨w.heap.size, 0, none⟩) hWs]; exact hc0
  have hz1 : w.heap.size < w1.heap.size := Nat.lt_of_lt_of_le hWs hb1.size
  clear c1 hc0 hWs hbW hb1
  go_wp2_with fail
  go_loopw [6] (fun i wr => ∃ x : Nat, x ≤ condNat G ∧ i = .int .i64 (x : Int) ∧ Hid (∀ y, y < x → mirAt G mid y = true) ∧ Below w.heap.size w wr ∧ w.heap.size < wr.heap.size ∧ wr.cell? ⟨w.heap.size, 0, none⟩ = some (.slice a G.length cap)) (fun i _ => condNat G - (intOf i).toNat)
  case atStart => exact ⟨0, Nat.zero_le _, rfl, Lib.hid (fun y h => by omega), hb01, hz1, hk1⟩
  case round =>
    clear hb01 hz1 hk1
    obtain ⟨x, hx, rfl, HB, hbel, hzr, hk⟩ := hrel
    by_cases hlt : x < condNat G
    · have hcmp : (x : Int) ≤ (condNat G : Int) - 1 := by omega
      have hsz := hbel.size
      have HM := Lib.hid (show mirAt G mid x = ((mid && decide (2 * x + 1 = condNat G)) || (sumB G x != sumB G (condNat G - 1 - x))) from rfl)
      have HN := Lib.hid (fun h => mirB_no (G := G) (mid := mid) hlt h)
      have HY : Hid (mirAt G mid x = true → ∀ y, y < x + 1 → mirAt G mid y = true) := Lib.hid fun h y hy => by
        rcases Nat.lt_or_ge y x with h' | h'
        · exact HB.out y h'
        · obtain rfl : y = x := (by omega)
          exact h
      have hS1 := HS.out x
      have hS2 : hasN G ((condNat G : Int) - 1 - (x : Int)) = sumB G (condNat G - 1 - x) := by rw [show (condNat G : Int) - 1 - (x : Int) = ((condNat G - 1 - x : Nat) : Int) by omega, HS.out]
      have c3 := fun w' (h : SlV w' a (G.map (Value.int .i64))) => c2 (x : Int) w' h
      have c4 := fun w' (h : SlV w' a (G.map (Value.int .i64))) => c2 ((condNat G : Int) - 1 - (x : Int)) w' h
      rw [hS1] at c3
      rw [hS2] at c4
      have hrr := hr.below hbel
      clear hS1 hS2 c2 hr
      generalize condNat G = C at *
      generalize sumB G x = p at *
      generalize sumB G (C - 1 - x) = q at *
      by_cases hmid : (mid && decide (2 * x + 1 = C)) = true
      · have HY2 := Lib.hid (HY.out (by rw [HM.out, hmid]; rfl))
        rw [Bool.and_eq_true, decide_eq_true_eq] at hmid
        obtain ⟨rfl, he⟩ := hmid
        have hbe : (2 * (x : Int) == (C : Int) - 1) = true := by rw [beq_iff_eq]; omega
        clear HY HN HM HB c3 c4 hrr
        go_wp2_with fail
        go_roundw
        case rel => exact ⟨x + 1, by omega, by go_num, HY2.out, hbel, hzr, hk⟩
        case measure => simp [intOf]; omega
      · have hm : (mid && decide (2 * x + 1 = C)) = false := by simpa using hmid
        rw [hm, Bool.false_or] at HM
        have hbe : mid = true → (2 * (x : Int) == (C : Int) - 1) = false := fun h => by rw [beq_eq_false_iff_ne]; intro h2; apply hmid; rw [h, Bool.true_and, decide_eq_true_eq]; omega
        cases mid
        · clear hbe
          clear hm hmid
          have hS0 : wr.drew.cell? ⟨w.heap.size, 0, none⟩ = some (.slice a G.length cap) ∧ Below wr.heap.size wr wr.drew := ⟨hk, (Below.refl _ _).drew⟩
          have fr : ∀ w', (w'.cell? ⟨w.heap.size, 0, none⟩ = some (.slice a G.length cap) ∧ Below wr.heap.size wr w') → Below wr.heap.size wr w' := fun w' h => h.2
          go_wp2_with fail
          refine wp_region_held_drew (S := fun w' => w'.cell? ⟨w.heap.size, 0, none⟩ = some (.slice a G.length cap) ∧ Below wr.heap.size wr w') (by kernel_rfl) hS0 (fun hHeld => ?_)
          refine held_take 0 _ _ rfl (by kernel_rfl) (by kernel_rfl) (by kernel_rfl) (fun _ _ _ h => h) (by rfl) hHeld (fun w hSw => by (try dsimp only at hSw); go_simp; try with_reducible rfl) ?_
          (try simp only [Act.put, List.setIfInBounds_toArray, List.set_cons_zero, List.set_cons_succ, List.getElem_toArray, List.getElem_cons_zero])
          refine held_take 1 _ _ rfl (by kernel_rfl) (by kernel_rfl) (by kernel_rfl) (fun _ _ _ h => h) (by rfl) hHeld (fun w hSw => by (try dsimp only at hSw); go_simp; try with_reducible rfl) ?_
          (try simp only [Act.put, List.setIfInBounds_toArray, List.set_cons_zero, List.set_cons_succ, List.getElem_toArray, List.getElem_cons_succ, List.getElem_cons_zero])
          refine held_take 3 _ _ rfl (by kernel_rfl) (by kernel_rfl) (by kernel_rfl) (fun _ _ _ h => h) (by rfl) hHeld (fun w hSw => by (try dsimp only at hSw); go_simp; try with_reducible rfl) ?_
          (try simp only [Act.put, List.setIfInBounds_toArray, List.set_cons_zero, List.set_cons_succ, List.getElem_toArray, List.getElem_cons_succ, List.getElem_cons_zero])
          refine held_take 4 _ _ rfl (by kernel_rfl) (by kernel_rfl) (by kernel_rfl) (fun _ _ _ h => h) (by rfl) hHeld (fun w hSw => by (try dsimp only at hSw); go_simp; try with_reducible rfl) ?_
          (try simp only [Act.put, List.setIfInBounds_toArray, List.set_cons_zero, List.set_cons_succ, List.getElem_toArray, List.getElem_cons_succ, List.getElem_cons_zero])
          refine held_take 5 _ _ rfl (by kernel_rfl) (by kernel_rfl) (by kernel_rfl) (fun _ _ _ h => h) (by rfl) hHeld (fun w hSw => by (try dsimp only at hSw); go_simp; try with_reducible rfl) ?_
          (try simp only [Act.put, List.setIfInBounds_toArray, List.set_cons_zero, List.set_cons_succ, List.getElem_toArray, List.getElem_cons_succ, List.getElem_cons_zero])
          refine held_take 6 _ _ rfl (by kernel_rfl) (by kernel_rfl) (by kernel_rfl) (fun _ _ _ h => h) (by rfl) hHeld (fun w hSw => by (try dsimp only at hSw); go_simp; try with_reducible rfl) ?_
          (try simp only [Act.put, List.setIfInBounds_toArray, List.set_cons_zero, List.set_cons_succ, List.getElem_toArray, List.getElem_cons_succ, List.getElem_cons_zero])
          refine wpAnyH_ready (rs := [2]) (by kernel_rfl) (by simp) ?_
          refine AllReadyH.cons rfl (fun K hK => ?_) AllReadyH.nil
          rw [if_pos (by rfl)]
          go_wp2_with (first | (go_at_call 76; have c := c3 _ (hrr.below (fr _ hHeld)); (with_reducible refine c.mono ?_); rintro e wk ⟨rfl, hbk⟩; clear c))
          refine hK.out _ _ (keep9 hzr hHeld hbk) (fun hHeld1 => ?_)
          clear hK K
          (try simp only [Act.put, List.setIfInBounds_toArray, List.set_cons_zero, List.set_cons_succ, List.getElem_toArray, List.getElem_cons_succ, List.getElem_cons_zero])
          refine wpAnyH_ready (rs := [7]) (by kernel_rfl) (by simp) ?_
          refine AllReadyH.cons rfl (fun K hK => ?_) AllReadyH.nil
          rw [if_pos (by rfl)]
          go_wp2_with (first | (go_at_call 76; have c := c4 _ (hrr.below (fr _ hHeld1)); (with_reducible refine c.mono ?_); rintro e wk ⟨rfl, hbk⟩; clear c))
          refine hK.out _ _ (keep9 hzr hHeld1 hbk) (fun hHeld2 => ?_)
          clear hK K
          (try simp only [Act.put, List.setIfInBounds_toArray, List.set_cons_zero, List.set_cons_succ, List.getElem_toArray, List.getElem_cons_succ, List.getElem_cons_zero])
          refine held_take 8 _ _ rfl (by kernel_rfl) (by kernel_rfl) (by kernel_rfl) (fun _ _ _ h => h) (by rfl) hHeld2 (fun w hSw => by (try dsimp only at hSw); go_simp; try with_reducible rfl) ?_
          (try simp only [Act.put, List.setIfInBounds_toArray, List.set_cons_zero, List.set_cons_succ, List.getElem_toArray, List.getElem_cons_succ, List.getElem_cons_zero])
          refine wpAnyH_done (by kernel_rfl) ?_ _
          have hBz := hHeld2.2
          have hk3 := hHeld2.1
          have hbel3 := hbel.trans (hBz.mono hsz)
          have hz3 := Nat.lt_of_lt_of_le hzr hBz.size
          clear hS0 fr c3 c4 hrr hbel hk hzr hsz hBz hHeld2
          cases p <;> cases q
          · have HR := Lib.hid (HN.out (by rw [HM.out]; rfl))
            clear HY HN HM HB
            go_wp2_with fail
            go_ret
            exact ⟨by rw [HR.out]; rfl, hbel3⟩
          · have HY2 := Lib.hid (HY.out (by rw [HM.out]; rfl))
            clear HY HN HM HB
            go_wp2_with fail
            go_roundw
            case rel => exact ⟨x + 1, by omega, by go_num, HY2.out, hbel3, hz3, hk3⟩
            case measure => simp [intOf]; omega
          · have HY2 := Lib.hid (HY.out (by rw [HM.out]; rfl))
            clear HY HN HM HB
            go_wp2_with fail
            go_roundw
            case rel => exact ⟨x + 1, by omega, by go_num, HY2.out, hbel3, hz3, hk3⟩
            case measure => simp [intOf]; omega
          · have HR := Lib.hid (HN.out (by rw [HM.out]; rfl))
            clear HY HN HM HB
            go_wp2_with fail
            go_ret
            exact ⟨by rw [HR.out]; rfl, hbel3⟩
        · replace hbe := hbe rfl
          clear hm hmid
          have hS0 : wr.drew.cell? ⟨w.heap.size, 0, none⟩ = some (.slice a G.length cap) ∧ Below wr.heap.size wr wr.drew := ⟨hk, (Below.refl _ _).drew⟩
          have fr : ∀ w', (w'.cell? ⟨w.heap.size, 0, none⟩ = some (.slice a G.length cap) ∧ Below wr.heap.size wr w') → Below wr.heap.size wr w' := fun w' h => h.2
          go_wp2_with fail
          refine wp_region_held_drew (S := fun w' => w'.cell? ⟨w.heap.size, 0, none⟩ = some (.slice a G.length cap) ∧ Below wr.heap.size wr w') (by kernel_rfl) hS0 (fun hHeld => ?_)
          refine held_take 0 _ _ rfl (by kernel_rfl) (by kernel_rfl) (by kernel_rfl) (fun _ _ _ h => h) (by rfl) hHeld (fun w hSw => by (try dsimp only at hSw); go_simp; try with_reducible rfl) ?_
          (try simp only [Act.put, List.setIfInBounds_toArray, List.set_cons_zero, List.set_cons_succ, List.getElem_toArray, List.getElem_cons_zero])
          refine held_take 1 _ _ rfl (by kernel_rfl) (by kernel_rfl) (by kernel_rfl) (fun _ _ _ h => h) (by rfl) hHeld (fun w hSw => by (try dsimp only at hSw); go_simp; try with_reducible rfl) ?_
          (try simp only [Act.put, List.setIfInBounds_toArray, List.set_cons_zero, List.set_cons_succ, List.getElem_toArray, List.getElem_cons_succ, List.getElem_cons_zero])
          refine held_take 3 _ _ rfl (by kernel_rfl) (by kernel_rfl) (by kernel_rfl) (fun _ _ _ h => h) (by rfl) hHeld (fun w hSw => by (try dsimp only at hSw); go_simp; try with_reducible rfl) ?_
          (try simp only [Act.put, List.setIfInBounds_toArray, List.set_cons_zero, List.set_cons_succ, List.getElem_toArray, List.getElem_cons_succ, List.getElem_cons_zero])
          refine held_take 4 _ _ rfl (by kernel_rfl) (by kernel_rfl) (by kernel_rfl) (fun _ _ _ h => h) (by rfl) hHeld (fun w hSw => by (try dsimp only at hSw); go_simp; try with_reducible rfl) ?_
          (try simp only [Act.put, List.setIfInBounds_toArray, List.set_cons_zero, List.set_cons_succ, List.getElem_toArray, List.getElem_cons_succ, List.getElem_cons_zero])
          refine held_take 5 _ _ rfl (by kernel_rfl) (by kernel_rfl) (by kernel_rfl) (fun _ _ _ h => h) (by rfl) hHeld (fun w hSw => by (try dsimp only at hSw); go_simp; try with_reducible rfl) ?_
          (try simp only [Act.put, List.setIfInBounds_toArray, List.set_cons_zero, List.set_cons_succ, List.getElem_toArray, List.getElem_cons_succ, List.getElem_cons_zero])
          refine held_take 6 _ _ rfl (by kernel_rfl) (by kernel_rfl) (by kernel_rfl) (fun _ _ _ h => h) (by rfl) hHeld (fun w hSw => by (try dsimp only at hSw); go_simp; try with_reducible rfl) ?_
          (try simp only [Act.put, List.setIfInBounds_toArray, List.set_cons_zero, List.set_cons_succ, List.getElem_toArray, List.getElem_cons_succ, List.getElem_cons_zero])
          refine wpAnyH_ready (rs := [2]) (by kernel_rfl) (by simp) ?_
          refine AllReadyH.cons rfl (fun K hK => ?_) AllReadyH.nil
          rw [if_pos (by rfl)]
          go_wp2_with (first | (go_at_call 76; have c := c3 _ (hrr.below (fr _ hHeld)); (with_reducible refine c.mono ?_); rintro e wk ⟨rfl, hbk⟩; clear c))
          refine hK.out _ _ (keep9 hzr hHeld hbk) (fun hHeld1 => ?_)
          clear hK K
          (try simp only [Act.put, List.setIfInBounds_toArray, List.set_cons_zero, List.set_cons_succ, List.getElem_toArray, List.getElem_cons_succ, List.getElem_cons_zero])
          refine wpAnyH_ready (rs := [7]) (by kernel_rfl) (by simp) ?_
          refine AllReadyH.cons rfl (fun K hK => ?_) AllReadyH.nil
          rw [if_pos (by rfl)]
          go_wp2_with (first | (go_at_call 76; have c := c4 _ (hrr.below (fr _ hHeld1)); (with_reducible refine c.mono ?_); rintro e wk ⟨rfl, hbk⟩; clear c))
          refine hK.out _ _ (keep9 hzr hHeld1 hbk) (fun hHeld2 => ?_)
          clear hK K
          (try simp only [Act.put, List.setIfInBounds_toArray, List.set_cons_zero, List.set_cons_succ, List.getElem_toArray, List.getElem_cons_succ, List.getElem_cons_zero])
          refine held_take 8 _ _ rfl (by kernel_rfl) (by kernel_rfl) (by kernel_rfl) (fun _ _ _ h => h) (by rfl) hHeld2 (fun w hSw => by (try dsimp only at hSw); go_simp; try with_reducible rfl) ?_
          (try simp only [Act.put, List.setIfInBounds_toArray, List.set_cons_zero, List.set_cons_succ, List.getElem_toArray, List.getElem_cons_succ, List.getElem_cons_zero])
          refine wpAnyH_done (by kernel_rfl) ?_ _
          have hBz := hHeld2.2
          have hk3 := hHeld2.1
          have hbel3 := hbel.trans (hBz.mono hsz)
          have hz3 := Nat.lt_of_lt_of_le hzr hBz.size
          clear hS0 fr c3 c4 hrr hbel hk hzr hsz hBz hHeld2
          cases p <;> cases q
          · have HR := Lib.hid (HN.out (by rw [HM.out]; rfl))
            clear HY HN HM HB
            go_wp2_with fail
            go_ret
            exact ⟨by rw [HR.out]; rfl, hbel3⟩
          · have HY2 := Lib.hid (HY.out (by rw [HM.out]; rfl))
            clear HY HN HM HB
            go_wp2_with fail
            go_roundw
            case rel => exact ⟨x + 1, by omega, by go_num, HY2.out, hbel3, hz3, hk3⟩
            case measure => simp [intOf]; omega
          · have HY2 := Lib.hid (HY.out (by rw [HM.out]; rfl))
            clear HY HN HM HB
            go_wp2_with fail
            go_roundw
            case rel => exact ⟨x + 1, by omega, by go_num, HY2.out, hbel3, hz3, hk3⟩
            case measure => simp [intOf]; omega
          · have HR := Lib.hid (HN.out (by rw [HM.out]; rfl))
            clear HY HN HM HB
            go_wp2_with fail
            go_ret
            exact ⟨by rw [HR.out]; rfl, hbel3⟩
    · obtain rfl : x = condNat G := by omega
      have HR := Lib.hid (mirB_yes HB.out)
      clear HB
      go_wp2_with fail
      go_ret
      exact ⟨by rw [HR.out]; rfl, hbel⟩
set_option maxRecDepth 100000 in
set_option maxHeartbeats 1600000 in
theorem spec_IsSymmetric (G : List Int) (a : Option Addr) (cap : Nat) (w : World) (hr : SlV w a (G.map (Value.int .i64))) (hb : G.length ≤ 1048576) :
    Calls Tryz.prog 18 #[.agg #[.slice a G.length cap]] w fun e w' => e = .returned (.bool (symB G)) ∧ Below w.heap.size w w' := by
  obtain ⟨W, hW⟩ : ∃ W, W = w.alloc (.cells #[.slice a G.length cap] 26) := ⟨_, rfl⟩
  have hbW : Below w.heap.size w W := by rw [hW]; exact box_below _ _
  have hc0 : W.cell? ⟨w.heap.size, 0, none⟩ = some (.slice a G.length cap) := by rw [hW]; exact box_cell w _
  have hWs : w.heap.size < W.heap.size := by rw [hW]; simp
  have HW := Lib.hid hW
  clear hW
  have c1 := spec_IsSemigroup G a cap W (hr.below hbW) hb
  go_enter Tryz.func18, Tryz.ntmps18
  cases hs : isSgB G
  · have HR := Lib.hid (symB_no hs)
    rw [hs] at c1
    clear hs hr
    go_wp2_with fail
    rw [← HW.out]
    refine c1.mono ?_
    rintro e w1 ⟨rfl, hb1⟩
    have hb01 := hbW.trans (hb1.mono hbW.size)
    go_wp2_with fail
    go_ret
    exact ⟨by rw [HR.out]; rfl, hb01⟩
  · have HR := Lib.hid (show symB G = mirB G false by unfold symB; rw [hs, Bool.true_and])
    rw [hs] at c1
    go_wp2_with fail
    rw [← HW.out]
    refine c1.mono ?_
    rintro e w1 ⟨rfl, hb1⟩
    have hb01 := hbW.trans (hb1.mono hbW.size)
    have hk1 : w1.cell? ⟨w.heap.size, 0, none⟩ = some (.slice a G.length cap) := by rw [hb1.cell (p := ⟨w.heap.size, 0, none⟩) hWs]; exact hc0
    have c2 := spec_l9Mirror G false a cap w1 (hr.below hb01) hs hb
    have hs01 := hb01.size
    clear hs hr c1 hc0 hWs hb1 hbW
    generalize mirB G false = q at *
    go_wp2_with fail
    refine c2.mono ?_
    rintro e w2 ⟨rfl, hb2⟩
    have hb02 := hb01.trans (hb2.mono hs01)
    clear c2
    go_wp2_with fail
    go_ret
    exact ⟨by rw [HR.out]; rfl, hb02⟩
end Go.Proofs.YtipfonpaaebjjaaGreat
