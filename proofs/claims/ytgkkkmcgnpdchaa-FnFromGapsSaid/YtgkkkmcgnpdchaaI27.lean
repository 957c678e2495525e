/-
  CONTRACTS of the program's chapter 7, second part: firstBeyondLimits, firstOfSums, CoordinateClash. (Own work.)
-/
import Derived.Test.YtgkkkmcgnpdchaaI26
import Derived.Test.YtgkkkmcgnpdchaaStC
namespace Go.Proofs.Ytgkkkmcgnpdchaa
open Go Go.RowKit
attribute [local go_sem] Oper.semAt_some

theorem clash_some {L : List Int} {p : Nat × Nat} (h : clashR L = some p) : clashA L = (p.1 : Int) ∧ clashB L = (p.2 : Int) ∧ clashQ L = true := by
  unfold clashA clashB clashQ
  rw [h]
  exact ⟨rfl, rfl, rfl⟩
theorem clash_none {L : List Int} (h : clashR L = none) : clashA L = 0 ∧ clashB L = 0 ∧ clashQ L = false := by
  unfold clashA clashB clashQ
  rw [h]
  exact ⟨rfl, rfl, rfl⟩
/-- A clash is not the zero one. -/
theorem clash_zero (L : List Int) : (!(clashA L == 0 && clashB L == 0)) = clashQ L := by
  cases h : clashR L with
  | none => obtain ⟨h1, h2, h3⟩ := clash_none h; rw [h1, h2, h3]; rfl
  | some p =>
    obtain ⟨h1, h2, h3⟩ := clash_some h
    rw [h3]
    have hp : 1 ≤ p.1 := by
      unfold clashR at h
      cases hf : (List.range (L.length + 1)).find? (bad7 L) with
      | some r =>
        rw [hf] at h
        have hb := List.find?_some hf
        unfold bad7 at hb
        rw [Bool.and_eq_true, decide_eq_true_eq] at hb
        injection h with h; rw [← h]; exact hb.1
      | none =>
        rw [hf] at h
        cases hg : (List.range (L.length + 1)).find? (row7 L) with
        | none => simp only [hg] at h; cases h
        | some x =>
          have hb := List.find?_some hg
          unfold row7 at hb
          rw [Bool.and_eq_true, decide_eq_true_eq] at hb
          simp only [hg] at h
          cases hy : (List.range (L.length + 1)).find? (inRow7 L x) with
          | none => rw [hy] at h; cases h
          | some y => rw [hy] at h; injection h with h; rw [← h]; exact hb.1
    rw [h1, show ((p.1 : Int) == 0) = false by rw [beq_eq_false_iff_ne]; omega]; rfl

set_option maxRecDepth 100000 in
set_option maxHeartbeats 1600000 in
theorem impl_firstBeyondLimits (L : List Int) (a : Option Addr) (cap : Nat) (w : World) (hr : SlV w a (L.map (Value.int .i64))) (hb : L.length ≤ 1048576) :
    Calls Try.prog 55 #[.slice a L.length cap] w fun e w' => e = .returned (.agg #[.int .i64 (badA L : Int), .int .i64 0]) ∧ Below w.heap.size w w' := by
  obtain ⟨dC, hdC, hrC⟩ := undC
  obtain ⟨W, hW⟩ : ∃ W, W = w.alloc (.cells [Value.int .i64 0, Value.int .i64 0].toArray 33) := ⟨_, rfl⟩
  have hbW : Below w.heap.size w W := by rw [hW]; exact box_below _ _
  have hA : Arr W w.heap.size 33 [Value.int .i64 0, Value.int .i64 0] := by rw [hW]; exact Arr.new _ _ _
  have HW := Lib.hid hW
  clear hW
  have hrW := hr.below hbW
  have cm := fun w' => impl_modulus L.length a cap w' hb
  go_enter Try.func55, Try.ntmps55
  go_wp2_with (first
    | (refine wpList_alloc_arr 33 [Value.int .i64 0, Value.int .i64 0] zeroC rfl rfl ?_; rw [← HW.out]))
  go_loopw [3] (fun i wr => ∃ r : Nat, 1 ≤ r ∧ r ≤ L.length + 1 ∧ i = .int .i64 (r : Int) ∧ Hid (∀ j, j < r → bad7 L j = false) ∧ wr = W) (fun i _ => L.length + 1 - (intOf i).toNat)
  case atStart => exact ⟨1, Nat.le_refl _, by omega, rfl, Lib.hid (fun j hj => by obtain rfl : j = 0 := (by omega); rfl), rfl⟩
  case round =>
    obtain ⟨r, hr1, hrm, rfl, HB, rfl⟩ := hrel
    have c0 := cm wr
    by_cases hlt : r < L.length + 1
    · have hlti : (r : Int) < (L.length : Int) + 1 := by omega
      have c1 := impl_of L r a cap wr hrW hb hr1 (by omega)
      have HQ : Hid (bad7 L r = !inB (at7 L r) 1 200) := Lib.hid (by unfold bad7; rw [decide_eq_true hr1, Bool.true_and])
      by_cases h1 : at7 L r < 1
      · have hd := decide_eq_true h1
        have HR := Lib.hid (badA_yes hlt (by rw [HQ.out, show inB (at7 L r) 1 200 = false by cases hq : inB (at7 L r) 1 200; rfl; have := (inB_iff.1 hq).1; omega]; rfl) HB.out)
        clear HQ h1
        generalize at7 L r = x at *
        go_wp2_with fail
        refine c0.mono ?_
        rintro e w2 ⟨rfl, rfl⟩
        go_wp2_with fail
        refine c1.mono ?_
        rintro e w2 ⟨rfl, rfl⟩
        go_wp2_with (first
          | (refine wpList_store_arr 33 (.tmp 2) (.tmp 21) w.heap.size [Value.int .i64 0, Value.int .i64 0] [Value.int .i64 (r : Int), Value.int .i64 0] rfl rfl rfl rfl hA rfl sizeC (by simp [Value.oneCell']) ?_; intro w3 hA3 hg3 hz3))
        have hb3 := hbW.grown hg3 hbW.size (fun k hk => by cases hk; exact Nat.le_refl _)
        exact bodyPost_ret (results_arr rfl _ _ w.heap.size [Value.int .i64 (r : Int), Value.int .i64 0] dC rfl hA3 hdC hrC sizeC) rfl ⟨by rw [HR.out] <;> rfl, hb3⟩
      · have hd := decide_eq_false h1
        by_cases h2 : 200 < at7 L r
        · have hd2 := decide_eq_true h2
          have HR := Lib.hid (badA_yes hlt (by rw [HQ.out, show inB (at7 L r) 1 200 = false by cases hq : inB (at7 L r) 1 200; rfl; have := (inB_iff.1 hq).2; omega]; rfl) HB.out)
          clear HQ h1 h2
          generalize at7 L r = x at *
          go_wp2_with fail
          refine c0.mono ?_
          rintro e w2 ⟨rfl, rfl⟩
          go_wp2_with fail
          refine c1.mono ?_
          rintro e w2 ⟨rfl, rfl⟩
          go_wp2_with fail
          refine c1.mono ?_
          rintro e w2 ⟨rfl, rfl⟩
          go_wp2_with (first
            | (refine wpList_store_arr 33 (.tmp 2) (.tmp 21) w.heap.size [Value.int .i64 0, Value.int .i64 0] [Value.int .i64 (r : Int), Value.int .i64 0] rfl rfl rfl rfl hA rfl sizeC (by simp [Value.oneCell']) ?_; intro w3 hA3 hg3 hz3))
          have hb3 := hbW.grown hg3 hbW.size (fun k hk => by cases hk; exact Nat.le_refl _)
          exact bodyPost_ret (results_arr rfl _ _ w.heap.size [Value.int .i64 (r : Int), Value.int .i64 0] dC rfl hA3 hdC hrC sizeC) rfl ⟨by rw [HR.out] <;> rfl, hb3⟩
        · have hd2 := decide_eq_false h2
          have HB2 : Hid (∀ i, i < r + 1 → bad7 L i = false) := Lib.hid fun i hi => by
            rcases Nat.lt_or_ge i r with h | h
            · exact HB.out i h
            · obtain rfl : i = r := (by omega)
              rw [HQ.out, inB_iff.2 ⟨by omega, by omega⟩]; rfl
          clear HQ HB h1 h2
          generalize at7 L r = x at *
          go_wp2_with fail
          refine c0.mono ?_
          rintro e w2 ⟨rfl, rfl⟩
          go_wp2_with fail
          refine c1.mono ?_
          rintro e w2 ⟨rfl, rfl⟩
          go_wp2_with fail
          refine c1.mono ?_
          rintro e w2 ⟨rfl, rfl⟩
          go_wp2_with fail
          go_roundw
          case rel => exact ⟨r + 1, by omega, by omega, by go_num, HB2.out, by first | rfl | trivial⟩
          case measure => simp [intOf]; omega
    · have hlti : ¬ (r : Int) < (L.length : Int) + 1 := by omega
      have HR := Lib.hid (badA_no (L := L) fun j hj => HB.out j (by omega))
      clear HB
      go_wp2_with fail
      refine c0.mono ?_
      rintro e w2 ⟨rfl, rfl⟩
      go_wp2_with (first
        | (refine wpList_store_arr 33 (.tmp 2) (.tmp 22) w.heap.size [Value.int .i64 0, Value.int .i64 0] [Value.int .i64 0, Value.int .i64 0] rfl rfl rfl rfl hA rfl sizeC (by simp [Value.oneCell']) ?_; intro w3 hA3 hg3 hz3))
      have hb3 := hbW.grown hg3 hbW.size (fun k hk => by cases hk; exact Nat.le_refl _)
      exact bodyPost_ret (results_arr rfl _ _ w.heap.size [Value.int .i64 0, Value.int .i64 0] dC rfl hA3 hdC hrC sizeC) rfl ⟨by rw [HR.out] <;> rfl, hb3⟩

set_option maxRecDepth 100000 in
set_option maxHeartbeats 1600000 in
theorem impl_firstOfSums (L : List Int) (a : Option Addr) (cap : Nat) (w : World) (hr : SlV w a (L.map (Value.int .i64))) (hb : L.length ≤ 1048576) (HN : ∀ r, r < L.length + 1 → bad7 L r = false) :
    Calls Try.prog 56 #[.slice a L.length cap] w fun e w' => e = .returned (.agg #[.int .i64 (clashA L), .int .i64 (clashB L)]) ∧ Below w.heap.size w w' := by
  obtain ⟨dC, hdC, hrC⟩ := undC
  obtain ⟨W, hW⟩ : ∃ W, W = w.alloc (.cells [Value.int .i64 0, Value.int .i64 0].toArray 33) := ⟨_, rfl⟩
  have hbW : Below w.heap.size w W := by rw [hW]; exact box_below _ _
  have hA : Arr W w.heap.size 33 [Value.int .i64 0, Value.int .i64 0] := by rw [hW]; exact Arr.new _ _ _
  have HW := Lib.hid hW
  clear hW
  have hrW := hr.below hbW
  have cm := fun w' => impl_modulus L.length a cap w' hb
  have HNB := Lib.hid HN
  have HBB : ∀ j, 1 ≤ j → j < L.length + 1 → 1 ≤ at7 L j ∧ at7 L j ≤ 200 := fun j h1 h2 => by
    have := HN j h2
    unfold bad7 at this
    rw [decide_eq_true h1, Bool.true_and] at this
    simp at this
    exact inB_iff.1 this
  have HBH := Lib.hid HBB
  clear HBB HN
  go_enter Try.func56, Try.ntmps56
  go_wp2_with (first
    | (refine wpList_alloc_arr 33 [Value.int .i64 0, Value.int .i64 0] zeroC rfl rfl ?_; rw [← HW.out]))
  go_loopw [3] (fun i wr => ∃ x : Nat, 1 ≤ x ∧ x ≤ L.length + 1 ∧ i = .int .i64 (x : Int) ∧ Hid (∀ y z, 1 ≤ y → y < x → y ≤ z → z < L.length + 1 → clash7 L y z = false) ∧ wr = W) (fun i _ => L.length + 1 - (intOf i).toNat)
  case atStart => exact ⟨1, Nat.le_refl _, by omega, rfl, Lib.hid (fun y z h1 h2 => by omega), rfl⟩
  case round =>
    obtain ⟨x, hx1, hxm, rfl, HP, rfl⟩ := hrel
    have c0 := cm wr
    by_cases hlt : x < L.length + 1
    · have hlti : (x : Int) < (L.length : Int) + 1 := by omega
      go_wp2_with fail
      refine c0.mono ?_
      rintro e w2 ⟨rfl, rfl⟩
      go_wp2_with fail
      go_loopw [4] (fun i wt => ∃ y : Nat, x ≤ y ∧ y ≤ L.length + 1 ∧ i = .int .i64 (y : Int) ∧ Hid (∀ z, x ≤ z → z < y → clash7 L x z = false) ∧ wt = w2) (fun i _ => L.length + 1 - (intOf i).toNat)
      case atStart => exact ⟨x, Nat.le_refl _, by omega, rfl, Lib.hid (fun z h1 h2 => by omega), rfl⟩
      case round =>
        obtain ⟨y, hxy, hym, rfl, HR, rfl⟩ := hrel
        by_cases hlt2 : y < L.length + 1
        · have hlti2 : (y : Int) < (L.length : Int) + 1 := by omega
          have ct := impl_isTooLittle L x y a cap wr hrW hb hx1 hxy (by omega) HBH.out
          cases hq : clash7 L x y
          · have HR2 : Hid (∀ z, x ≤ z → z < y + 1 → clash7 L x z = false) := Lib.hid fun z h1 h2 => by
              rcases Nat.lt_or_ge z y with h | h
              · exact HR.out z h1 h
              · obtain rfl : z = y := (by omega)
                exact hq
            rw [hq] at ct
            clear hq HR
            go_wp2_with fail
            refine c0.mono ?_
            rintro e w3 ⟨rfl, rfl⟩
            go_wp2_with fail
            refine ct.mono ?_
            rintro e w3 ⟨rfl, rfl⟩
            go_wp2_with fail
            go_roundw
            case rel => exact ⟨y + 1, by omega, by omega, by go_num, HR2.out, by first | rfl | trivial⟩
            case measure => simp [intOf]; omega
          · have hsome := clash_some (clashR_pair (L := L) (a := x) (b := y) hx1 hxy hlt2 hq HNB.out (fun y z h1 h2 h3 h4 => HP.out y z h1 h2 h3 h4) HR.out)
            have HRR := Lib.hid hsome
            rw [hq] at ct
            clear hq HR hsome
            go_wp2_with fail
            refine c0.mono ?_
            rintro e w3 ⟨rfl, rfl⟩
            go_wp2_with fail
            refine ct.mono ?_
            rintro e w3 ⟨rfl, rfl⟩
            go_wp2_with (first
              | (refine wpList_store_arr 33 (.tmp 2) (.tmp 24) w.heap.size [Value.int .i64 0, Value.int .i64 0] [Value.int .i64 (x : Int), Value.int .i64 (y : Int)] rfl rfl rfl rfl hA rfl sizeC (by simp [Value.oneCell']) ?_; intro w3 hA3 hg3 hz3))
            have hb3 := hbW.grown hg3 hbW.size (fun k hk => by cases hk; exact Nat.le_refl _)
            exact bodyPost_ret (results_arr rfl _ _ w.heap.size [Value.int .i64 (x : Int), Value.int .i64 (y : Int)] dC rfl hA3 hdC hrC sizeC) rfl ⟨by rw [HRR.out.1, HRR.out.2.1] <;> rfl, hb3⟩
        · have hlti2 : ¬ (y : Int) < (L.length : Int) + 1 := by omega
          have HP2 : Hid (∀ y z, 1 ≤ y → y < x + 1 → y ≤ z → z < L.length + 1 → clash7 L y z = false) := Lib.hid fun y' z h1 h2 h3 h4 => by
            rcases Nat.lt_or_ge y' x with h | h
            · exact HP.out y' z h1 h h3 h4
            · obtain rfl : y' = x := (by omega)
              exact HR.out z h3 (by omega)
          clear HP HR
          go_wp2_with fail
          refine c0.mono ?_
          rintro e w3 ⟨rfl, rfl⟩
          go_wp2_with fail
          go_roundw
          case rel => exact ⟨x + 1, by omega, by omega, by go_num, HP2.out, by first | rfl | trivial⟩
          case measure => simp [intOf]; omega
    · have hlti : ¬ (x : Int) < (L.length : Int) + 1 := by omega
      have HRR := Lib.hid (clash_none (clashR_none (L := L) HNB.out (fun y z h1 h2 h3 => HP.out y z h1 (by omega) h2 h3)))
      clear HP
      go_wp2_with fail
      refine c0.mono ?_
      rintro e w2 ⟨rfl, rfl⟩
      go_wp2_with (first
        | (refine wpList_store_arr 33 (.tmp 2) (.tmp 25) w.heap.size [Value.int .i64 0, Value.int .i64 0] [Value.int .i64 0, Value.int .i64 0] rfl rfl rfl rfl hA rfl sizeC (by simp [Value.oneCell']) ?_; intro w3 hA3 hg3 hz3))
      have hb3 := hbW.grown hg3 hbW.size (fun k hk => by cases hk; exact Nat.le_refl _)
      exact bodyPost_ret (results_arr rfl _ _ w.heap.size [Value.int .i64 0, Value.int .i64 0] dC rfl hA3 hdC hrC sizeC) rfl ⟨by rw [HRR.out.1, HRR.out.2.1] <;> rfl, hb3⟩
end Go.Proofs.Ytgkkkmcgnpdchaa
