/-
  CONTRACTS of the program's chapter 8, second part: GapClash. (Own work.)
-/
import Derived.Test.YtgkkkmcgnpdchaaI30
namespace Go.Proofs.Ytgkkkmcgnpdchaa
open Go Go.RowKit
attribute [local go_sem] Oper.semAt_some

theorem gap_some {L : List Int} {a b : Nat} (h : gapR L = some (a, b)) : gapA L = (a : Int) ∧ gapB' L = (b : Int) ∧ gapQ L = true := by
  unfold gapA gapB' gapQ
  rw [h]
  exact ⟨rfl, rfl, rfl⟩
theorem gap_none {L : List Int} (h : gapR L = none) : gapA L = 0 ∧ gapB' L = 0 ∧ gapQ L = false := by
  unfold gapA gapB' gapQ
  rw [h]
  exact ⟨rfl, rfl, rfl⟩

set_option maxRecDepth 100000 in
set_option maxHeartbeats 3200000 in
theorem impl_GapClash (L : List Int) (a : Option Addr) (cap : Nat) (w : World) (hr : SlV w a (L.map (Value.int .i64))) (hb : L.length ≤ 1048576) :
    Calls Try.prog 28 #[.slice a L.length cap] w (ClPost (gapA L) (gapB' L) (gapQ L) w) := by
  obtain ⟨dC, hdC, hrC⟩ := undC
  obtain ⟨W, hW⟩ : ∃ W, W = w.alloc (.cells [Value.int .i64 0, Value.int .i64 0].toArray 33) := ⟨_, rfl⟩
  have hbW : Below w.heap.size w W := by rw [hW]; exact box_below _ _
  have hA : Arr W w.heap.size 33 [Value.int .i64 0, Value.int .i64 0] := by rw [hW]; exact Arr.new _ _ _
  have HW := Lib.hid hW
  clear hW
  have c1 := impl_areGaps L a cap W (hr.below hbW) hb
  go_enter Try.func28, Try.ntmps28
  go_wp2_with (first
    | (refine wpList_alloc_arr 33 [Value.int .i64 0, Value.int .i64 0] zeroC rfl rfl ?_; rw [← HW.out]))
  refine c1.mono ?_
  rintro e w1 ⟨rfl, hb1⟩
  have hbw1 := hbW.trans (hb1.mono hbW.size)
  have hA1 := hA.below hb1
  clear c1 hb1 hA hbW
  cases hok : okGp L
  · have HRR := Lib.hid (gap_none (gapR_no hok))
    clear hok hr
    go_wp2_with (first
      | (refine wpList_store_arr 33 (.tmp 2) (.tmp 10) w.heap.size [Value.int .i64 0, Value.int .i64 0] [Value.int .i64 0, Value.int .i64 0] rfl rfl rfl rfl hA1 rfl sizeC (by simp [Value.oneCell']) ?_; intro w3 hA3 hg3 hz3))
    have hb3 := hbw1.grown hg3 hbw1.size (fun k hk => by cases hk; exact Nat.le_refl _)
    exact bodyPost_ret (results_arr_tmp rfl _ _ w.heap.size [Value.int .i64 0, Value.int .i64 0] dC rfl hA3 hdC hrC sizeC) rfl ⟨by rw [HRR.out.1, HRR.out.2.1, HRR.out.2.2] <;> rfl, hb3⟩
  · have HOK := Lib.hid hok
    have c2 := impl_otherThan L a cap w1 (hr.below hbw1) hb hok
    have hfar : ∀ m, 200 ≤ m → isIn L m = false := fun m hm => by
      cases h : isIn L m
      · rfl
      · have := (okGp_lt hok h).2; omega
    have HF := Lib.hid hfar
    clear hok hr hfar
    go_wp2_with fail
    refine c2.mono ?_
    rintro e w2 ⟨rfl, hT, hb2⟩
    have hbw2 := hbw1.trans (hb2.mono hbw1.size)
    have hA2 := hA1.below hb2
    have ce := fun (n : Nat) (hn : n ≤ 1000000) => impl_isElement (isIn L) n w1.heap.size w2 hT hn HF.out
    clear c2 hb2 hA1 hbw1 hT
    go_wp2_with fail
    go_loopw [5] (fun i wr => ∃ x : Nat, 1 ≤ x ∧ x ≤ 200 ∧ i = .int .i64 (x : Int) ∧ Hid (∀ y z, 1 ≤ y → y < x → y ≤ z → clash8 L y z = false) ∧ wr = w2) (fun i _ => 200 - (intOf i).toNat)
    case atStart => exact ⟨1, Nat.le_refl _, by omega, rfl, Lib.hid (fun y z h1 h2 => by omega), rfl⟩
    case round =>
      obtain ⟨x, hx1, hxm, rfl, HP, rfl⟩ := hrel
      by_cases hlt : x < 200
      · have hlti : (x : Int) < 200 := by omega
        go_wp2_with fail
        go_loopw [6] (fun i wt => ∃ y : Nat, x ≤ y ∧ y ≤ 200 ∧ i = .int .i64 (y : Int) ∧ Hid (∀ z, x ≤ z → z < y → clash8 L x z = false) ∧ wt = wr) (fun i _ => 200 - (intOf i).toNat)
        case atStart => exact ⟨x, Nat.le_refl _, by omega, rfl, Lib.hid (fun z h1 h2 => by omega), rfl⟩
        case round =>
          obtain ⟨y, hxy, hym, rfl, HR, rfl⟩ := hrel
          by_cases hlt2 : x + y < 200
          · have hlti2 : (x : Int) + (y : Int) < 200 := by omega
            have e1 := ce x (by omega)
            have e2 := ce y (by omega)
            have e3 := ce (x + y) (by omega)
            rw [Int.natCast_add] at e3
            have HCL : Hid (clash8 L x y = (!isIn L x && !isIn L y && isIn L (x + y))) := Lib.hid rfl
            have HNO : Hid (clash8 L x y = false → ∀ z, x ≤ z → z < y + 1 → clash8 L x z = false) := Lib.hid fun hq z h1 h2 => by
              rcases Nat.lt_or_ge z y with h | h
              · exact HR.out z h1 h
              · obtain rfl : z = y := (by omega)
                exact hq
            cases q1 : isIn L x
            · rw [q1] at e1 HCL
              cases q2 : isIn L y
              · rw [q2] at e2 HCL
                cases q3 : isIn L (x + y)
                · rw [q3] at e3 HCL
                  have HR2 := Lib.hid (HNO.out HCL.out)
                  clear q1 q2 q3 HCL HNO HR
                  go_wp2_with fail
                  refine e1.mono ?_
                  rintro e w3 ⟨rfl, rfl⟩
                  go_wp2_with fail
                  refine e2.mono ?_
                  rintro e w3 ⟨rfl, rfl⟩
                  go_wp2_with fail
                  refine e3.mono ?_
                  rintro e w3 ⟨rfl, rfl⟩
                  go_wp2_with fail
                  go_roundw
                  case rel => exact ⟨y + 1, by omega, by omega, by go_num, HR2.out, by first | rfl | trivial⟩
                  case measure => simp [intOf]; omega
                · rw [q3] at e3 HCL
                  have HRR := Lib.hid (gap_some (gapR_pair HOK.out hx1 hxy HCL.out (fun y z h1 h2 h3 => HP.out y z h1 h2 h3) HR.out))
                  clear q1 q2 q3 HCL HNO HR
                  go_wp2_with fail
                  refine e1.mono ?_
                  rintro e w3 ⟨rfl, rfl⟩
                  go_wp2_with fail
                  refine e2.mono ?_
                  rintro e w3 ⟨rfl, rfl⟩
                  go_wp2_with fail
                  refine e3.mono ?_
                  rintro e w3 ⟨rfl, rfl⟩
                  go_wp2_with (first
                    | (refine wpList_store_arr 33 (.tmp 2) (.tmp 42) w.heap.size [Value.int .i64 0, Value.int .i64 0] [Value.int .i64 (x : Int), Value.int .i64 (y : Int)] rfl rfl rfl rfl hA2 rfl sizeC (by simp [Value.oneCell']) ?_; intro w3 hA3 hg3 hz3))
                  have hb3 := hbw2.grown hg3 hbw2.size (fun k hk => by cases hk; exact Nat.le_refl _)
                  exact bodyPost_ret (results_arr_tmp rfl _ _ w.heap.size [Value.int .i64 (x : Int), Value.int .i64 (y : Int)] dC rfl hA3 hdC hrC sizeC) rfl ⟨by rw [HRR.out.1, HRR.out.2.1, HRR.out.2.2] <;> rfl, hb3⟩
              · rw [q2] at e2 HCL
                have HR2 := Lib.hid (HNO.out (by rw [HCL.out]; rfl))
                clear q1 q2 HCL HNO HR e3
                go_wp2_with fail
                refine e1.mono ?_
                rintro e w3 ⟨rfl, rfl⟩
                go_wp2_with fail
                refine e2.mono ?_
                rintro e w3 ⟨rfl, rfl⟩
                go_wp2_with fail
                go_roundw
                case rel => exact ⟨y + 1, by omega, by omega, by go_num, HR2.out, by first | rfl | trivial⟩
                case measure => simp [intOf]; omega
            · rw [q1] at e1 HCL
              have HR2 := Lib.hid (HNO.out (by rw [HCL.out]; rfl))
              clear q1 HCL HNO HR e2 e3
              go_wp2_with fail
              refine e1.mono ?_
              rintro e w3 ⟨rfl, rfl⟩
              go_wp2_with fail
              go_roundw
              case rel => exact ⟨y + 1, by omega, by omega, by go_num, HR2.out, by first | rfl | trivial⟩
              case measure => simp [intOf]; omega
          · have hlti2 : ¬ (x : Int) + (y : Int) < 200 := by omega
            have HP2 : Hid (∀ y z, 1 ≤ y → y < x + 1 → y ≤ z → clash8 L y z = false) := Lib.hid fun y' z h1 h2 h3 => by
              rcases Nat.lt_or_ge y' x with h | h
              · exact HP.out y' z h1 h h3
              · obtain rfl : y' = x := (by omega)
                rcases Nat.lt_or_ge z y with h' | h'
                · exact HR.out z h3 h'
                · unfold clash8; rw [HF.out (y' + z) (by omega), Bool.and_false]
            clear HP HR
            go_wp2_with fail
            go_roundw
            case rel => exact ⟨x + 1, by omega, by omega, by go_num, HP2.out, by first | rfl | trivial⟩
            case measure => simp [intOf]; omega
      · have hlti : ¬ (x : Int) < 200 := by omega
        have HRR := Lib.hid (gap_none (gapR_none (L := L) (fun y z h1 h2 => by
          rcases Nat.lt_or_ge y x with h | h
          · exact HP.out y z h1 h h2
          · unfold clash8; rw [HF.out (y + z) (by omega), Bool.and_false])))
        clear HP
        go_wp2_with (first
          | (refine wpList_store_arr 33 (.tmp 2) (.tmp 43) w.heap.size [Value.int .i64 0, Value.int .i64 0] [Value.int .i64 0, Value.int .i64 0] rfl rfl rfl rfl hA2 rfl sizeC (by simp [Value.oneCell']) ?_; intro w3 hA3 hg3 hz3))
        have hb3 := hbw2.grown hg3 hbw2.size (fun k hk => by cases hk; exact Nat.le_refl _)
        exact bodyPost_ret (results_arr_tmp rfl _ _ w.heap.size [Value.int .i64 0, Value.int .i64 0] dC rfl hA3 hdC hrC sizeC) rfl ⟨by rw [HRR.out.1, HRR.out.2.1, HRR.out.2.2] <;> rfl, hb3⟩
end Go.Proofs.Ytgkkkmcgnpdchaa
