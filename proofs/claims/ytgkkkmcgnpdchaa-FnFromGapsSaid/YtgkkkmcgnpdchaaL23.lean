/-
  CHAPTER 7 OF THE REFERENCE: CoordinateClash. (Own work.)
-/
import Derived.Test.YtgkkkmcgnpdchaaSgK
namespace Go.Proofs.Ytgkkkmcgnpdchaa
open Go Go.RowKit

/-- A call gave two numbers and a bool. -/
def ClPost (A B : Int) (Q : Bool) (w : World) (e : Ending) (w' : World) : Prop :=
  e = .returned (.tuple #[.agg #[.int .i64 A, .int .i64 B], .bool Q]) ∧ Below w.heap.size w w'
theorem zeroC : (Try.prog.info? 33).map (·.zero) = some (some (.agg [Value.int .i64 0, Value.int .i64 0].toArray)) := by kernel_rfl
theorem sizeC : (Try.prog.info? 33).map (·.size) = some 2 := by kernel_rfl
theorem undC : ∃ d, Try.prog.underlying 33 = some d ∧ d.isRow = true := by
  have h : ((Try.prog.underlying 33).map (·.isRow)) = some true := by kernel_rfl
  cases hd : Try.prog.underlying 33 with
  | none => rw [hd] at h; cases h
  | some d => rw [hd] at h; exact ⟨d, rfl, by simpa using h⟩

set_option maxRecDepth 100000 in
set_option maxHeartbeats 3200000 in
theorem spec_CoordinateClash (L : List Int) (a : Option Addr) (cap : Nat) (w : World) (hr : SlV w a (L.map (Value.int .i64))) (hb : L.length ≤ 1048576) :
    Calls Try.prog 18 #[.slice a L.length cap] w (ClPost (clashA L) (clashB L) (clashQ L) w) := by
  obtain ⟨dC, hdC, hrC⟩ := undC
  obtain ⟨W, hW⟩ : ∃ W, W = w.alloc (.cells [Value.int .i64 0, Value.int .i64 0].toArray 33) := ⟨_, rfl⟩
  have hbW : Below w.heap.size w W := by rw [hW]; exact box_below _ _
  have hA : Arr W w.heap.size 33 [Value.int .i64 0, Value.int .i64 0] := by rw [hW]; exact Arr.new _ _ _
  have HW := Lib.hid hW
  clear hW
  have hrW := hr.below hbW
  have ci := fun (x : Int) w => l1In_any x 1 200 w
  go_enter Try.func18, Try.ntmps18
  go_wp2_with (first
    | (refine wpList_alloc_arr 33 [Value.int .i64 0, Value.int .i64 0] zeroC rfl rfl ?_; rw [← HW.out]))
  go_loopw [5] (fun i wr => ∃ r : Nat, 1 ≤ r ∧ r ≤ L.length + 1 ∧ i = .int .i64 (r : Int) ∧ Hid (∀ j, j < r → bad7 L j = false) ∧ wr = W) (fun i _ => L.length + 1 - (intOf i).toNat)
  case atStart => exact ⟨1, Nat.le_refl _, by omega, rfl, Lib.hid (fun j hj => by obtain rfl : j = 0 := (by omega); rfl), rfl⟩
  case round =>
    obtain ⟨r, hr1, hrm, rfl, HB, rfl⟩ := hrel
    by_cases hlt : r < L.length + 1
    · obtain ⟨j, rfl⟩ : ∃ j, r = j + 1 := ⟨r - 1, by omega⟩
      obtain ⟨b, off, rfl, hbs, hc⟩ := hrW.open (by intro h; rw [List.map_eq_nil_iff] at h; subst h; simp at hlt)
      have hcell : wr.cell? ⟨b, off + j, none⟩ = some (.int .i64 L[j]) := hc j _ (by simp [show j < L.length by omega])
      have hw1 : IntKind.i64.wrap (((j + 1 : Nat) : Int) - 1) = (j : Int) := by rw [IntWalk.i64_in _ (by omega)]; omega
      have hw2 : ((j + 1 : Nat) : Int) - 1 = (j : Int) := by omega
      have c1 := ci L[j] wr
      have HQ : Hid (bad7 L (j + 1) = !inB L[j] 1 200) := Lib.hid (by
        unfold bad7 at7
        rw [decide_eq_true (show 1 ≤ j + 1 by omega), Bool.true_and, show j + 1 - 1 = j by omega, List.getD_eq_getElem?_getD, List.getElem?_eq_getElem (by omega)]; rfl)
      clear hc
      cases hq : inB L[j] 1 200
      · rw [hq] at c1
        have HR := Lib.hid (clashR_bad (L := L) (r := j + 1) (by omega) (by rw [HQ.out, hq]; rfl) HB.out)
        clear hq HQ
        generalize L[j] = x at *
        go_wp2_with fail
        refine c1.mono ?_
        rintro e w2 ⟨rfl, rfl⟩
        go_wp2_with (first
          | (refine wpList_store_arr 33 (.tmp 2) (.tmp 25) w.heap.size [Value.int .i64 0, Value.int .i64 0] [Value.int .i64 ((j + 1 : Nat) : Int), Value.int .i64 0] rfl rfl rfl rfl hA rfl sizeC (by simp [Value.oneCell']) ?_; intro w3 hA3 hg3 hz3))
        have hb3 := hbW.grown hg3 hbW.size (fun k hk => by cases hk; exact Nat.le_refl _)
        exact bodyPost_ret (results_arr_tmp rfl _ _ w.heap.size [Value.int .i64 ((j + 1 : Nat) : Int), Value.int .i64 0] dC rfl hA3 hdC hrC sizeC) rfl ⟨by unfold clashA clashB clashQ; rw [HR.out]; rfl, hb3⟩
      · rw [hq] at c1
        have HB2 : Hid (∀ i, i < j + 1 + 1 → bad7 L i = false) := Lib.hid fun i hi => by
          rcases Nat.lt_or_ge i (j + 1) with h | h
          · exact HB.out i h
          · obtain rfl : i = j + 1 := (by omega)
            rw [HQ.out, hq]; rfl
        clear hq HQ HB
        generalize L[j] = x at *
        go_wp2_with fail
        refine c1.mono ?_
        rintro e w2 ⟨rfl, rfl⟩
        go_wp2_with fail
        go_roundw
        case rel => exact ⟨j + 1 + 1, by omega, by omega, by go_num, HB2.out, by first | rfl | trivial⟩
        case measure => simp [intOf]; omega
    · have hre : r = L.length + 1 := by omega
      have HNB : Hid (∀ j, j < L.length + 1 → bad7 L j = false) := Lib.hid fun j hj => HB.out j (by omega)
      have HBB : Hid (∀ j, 1 ≤ j → j < L.length + 1 → 1 ≤ at7 L j ∧ at7 L j ≤ 200) := Lib.hid fun j h1 h2 => by
        have := HNB.out j h2
        unfold bad7 at this
        rw [decide_eq_true h1, Bool.true_and] at this
        simp at this
        exact inB_iff.1 this
      clear hre HB
      go_wp2_with fail
      clear hlt hrm hr1
      go_loopw [6] (fun i ws => ∃ x : Nat, 1 ≤ x ∧ x ≤ L.length + 1 ∧ i = .int .i64 (x : Int) ∧ Hid (∀ y z, 1 ≤ y → y < x → y ≤ z → z < L.length + 1 → clash7 L y z = false) ∧ Below w.heap.size w ws ∧ Arr ws w.heap.size 33 [Value.int .i64 0, Value.int .i64 0] ∧ SlV ws a (L.map (Value.int .i64))) (fun i _ => L.length + 1 - (intOf i).toNat)
      case atStart => exact ⟨1, Nat.le_refl _, by omega, rfl, Lib.hid (fun y z h1 h2 => by omega), hbW, hA, hrW⟩
      case round =>
        obtain ⟨x, hx1, hxm, rfl, HP, hbel, hA, hS⟩ := hrel
        by_cases hlt : x < L.length + 1
        · have hlti : (x : Int) < (L.length : Int) + 1 := by omega
          have hltd := decide_eq_true hlti
          go_wp2_with fail
          go_loopw [7] (fun i wt => ∃ y : Nat, x ≤ y ∧ y ≤ L.length + 1 ∧ i = .int .i64 (y : Int) ∧ Hid (∀ z, x ≤ z → z < y → clash7 L x z = false) ∧ Below w.heap.size w wt ∧ Arr wt w.heap.size 33 [Value.int .i64 0, Value.int .i64 0] ∧ SlV wt a (L.map (Value.int .i64))) (fun i _ => L.length + 1 - (intOf i).toNat)
          case atStart => exact ⟨x, Nat.le_refl _, by omega, rfl, Lib.hid (fun z h1 h2 => by omega), hbel, hA, hS⟩
          case round =>
            clear hbel hA hS
            obtain ⟨y, hxy, hym, rfl, HR, hbel, hA, hS⟩ := hrel
            by_cases hlt2 : y < L.length + 1
            · obtain ⟨i1, hi1⟩ : ∃ j, x = j + 1 := ⟨x - 1, by omega⟩
              obtain ⟨i2, hi2⟩ : ∃ j, y = j + 1 := ⟨y - 1, by omega⟩
              have hw1 : (x : Int) - 1 = (i1 : Int) := by omega
              have hw2 : (y : Int) - 1 = (i2 : Int) := by omega
              have hv1 : (0 : Int) ≤ (i1 : Int) := by omega
              have hv2 : (0 : Int) ≤ (i2 : Int) := by omega
              have hv3 : (i1 : Int) < (L.length : Int) := by omega
              have hv4 : (i2 : Int) < (L.length : Int) := by omega
              obtain ⟨b, off, rfl, hbs, hc⟩ := hS.open (by intro h; rw [List.map_eq_nil_iff] at h; subst h; simp at hv3; omega)
              have hget : ∀ j (hj : j < L.length), at7 L (j + 1) = L[j] := fun j hj => by
                unfold at7
                rw [show j + 1 - 1 = j by omega, List.getD_eq_getElem?_getD, List.getElem?_eq_getElem hj]; rfl
              have hk1 : wr.cell? ⟨b, off + i1, none⟩ = some (.int .i64 (at7 L x)) := by rw [hi1, hget i1 (by omega)]; exact hc i1 _ (by simp [show i1 < L.length by omega])
              have hk2 : wr.cell? ⟨b, off + i2, none⟩ = some (.int .i64 (at7 L y)) := by rw [hi2, hget i2 (by omega)]; exact hc i2 _ (by simp [show i2 < L.length by omega])
              obtain ⟨p1, p2⟩ := HBB.out x (by omega) (by omega)
              obtain ⟨q1, q2⟩ := HBB.out y (by omega) (by omega)
              have HCL : Hid (clash7 L x y = ((decide (x + y < L.length + 1) && decide (at7 L x + at7 L y < at7 L (x + y))) || (decide (L.length + 1 < x + y) && decide (at7 L x + at7 L y + 1 < at7 L (x + y - (L.length + 1)))))) := Lib.hid rfl
              by_cases h3 : i1 + i2 + 1 < L.length
              · have hk3 : wr.cell? ⟨b, off + (i1 + i2 + 1), none⟩ = some (.int .i64 (at7 L (x + y))) := by
                  rw [show x + y = i1 + i2 + 1 + 1 by omega, hget _ h3]; exact hc _ _ (by simp [h3])
                obtain ⟨r1, r2⟩ := HBB.out (x + y) (by omega) (by omega)
                obtain ⟨k, hk⟩ : ∃ k, k = i1 + i2 + 1 := ⟨_, rfl⟩
                rw [← hk] at hk3 h3
                have hw5 : (x : Int) + (y : Int) - 1 = (k : Int) := by omega
                have hd1 : (x : Int) + (y : Int) < (L.length : Int) + 1 := by omega
                have hd1' := decide_eq_true hd1
                have hd2 : ¬ (L.length : Int) + 1 < (x : Int) + (y : Int) := by omega
                have hd2' := decide_eq_false hd2
                rw [show (decide (x + y < L.length + 1)) = true from decide_eq_true (by omega), show (decide (L.length + 1 < x + y)) = false from decide_eq_false (by omega), Bool.true_and, Bool.false_and, Bool.or_false] at HCL
                clear hc hget hk
                by_cases h4 : at7 L x + at7 L y < at7 L (x + y)
                · have hd4 := decide_eq_true h4
                  have HRR := Lib.hid (clashR_pair (L := L) (a := x) (b := y) (by omega) (by omega) (by omega) (by rw [HCL.out, hd4]) HNB.out (fun y z h1 h2 h3 h4 => HP.out y z h1 h2 h3 h4) HR.out)
                  clear HCL hi1 hi2
                  generalize at7 L x = p at *
                  generalize at7 L y = q at *
                  generalize at7 L (x + y) = r at *
                  go_wp2_with fail
                  go_quiet (fail)
                  have hk4 : (wr.drewN nq).cell? ⟨b, off + k, none⟩ = some (.int .i64 r) := hk3
                  go_wp2_with (first
                    | (refine wpList_store_arr 33 (.tmp 2) (.tmp 87) w.heap.size [Value.int .i64 0, Value.int .i64 0] [Value.int .i64 (x : Int), Value.int .i64 (y : Int)] rfl rfl rfl rfl (hA.drewN nq) rfl sizeC (by simp [Value.oneCell']) ?_; intro w3 hA3 hg3 hz3))
                  have hb3 := (below_drewN hbel nq).grown hg3 (below_drewN hbel nq).size (fun k hk => by cases hk; exact Nat.le_refl _)
                  exact bodyPost_ret (results_arr_tmp rfl _ _ w.heap.size [Value.int .i64 (x : Int), Value.int .i64 (y : Int)] dC rfl hA3 hdC hrC sizeC) rfl ⟨by unfold clashA clashB clashQ; rw [HRR.out]; rfl, hb3⟩
                · have hd4 := decide_eq_false h4
                  have HR2 : Hid (∀ z, x ≤ z → z < y + 1 → clash7 L x z = false) := Lib.hid fun z h1 h2 => by
                    rcases Nat.lt_or_ge z y with h | h
                    · exact HR.out z h1 h
                    · obtain rfl : z = y := (by omega)
                      exact (by rw [HCL.out, hd4])
                  clear HCL hi1 hi2
                  generalize at7 L x = p at *
                  generalize at7 L y = q at *
                  generalize at7 L (x + y) = r at *
                  go_wp2_with fail
                  go_quiet (fail)
                  have hk4 : (wr.drewN nq).cell? ⟨b, off + k, none⟩ = some (.int .i64 r) := hk3
                  go_wp2_with fail
                  go_roundw
                  case rel => exact ⟨y + 1, by omega, by omega, by go_num, HR2.out, below_drewN hbel nq, hA.drewN nq, hS⟩
                  case measure => simp [intOf]; omega
              · have hd1 : ¬ (x : Int) + (y : Int) < (L.length : Int) + 1 := by omega
                have hd1' := decide_eq_false hd1
                rw [show (decide (x + y < L.length + 1)) = false from decide_eq_false (by omega), Bool.false_and, Bool.false_or] at HCL
                by_cases h5 : i1 + i2 + 1 = L.length
                · have hd2 : ¬ (L.length : Int) + 1 < (x : Int) + (y : Int) := by omega
                  have hd2' := decide_eq_false hd2
                  rw [show (decide (L.length + 1 < x + y)) = false from decide_eq_false (by omega), Bool.false_and] at HCL
                  clear hc hget
                  have HR2 : Hid (∀ z, x ≤ z → z < y + 1 → clash7 L x z = false) := Lib.hid fun z h1 h2 => by
                    rcases Nat.lt_or_ge z y with h | h
                    · exact HR.out z h1 h
                    · obtain rfl : z = y := (by omega)
                      exact HCL.out
                  clear HCL hi1 hi2
                  generalize at7 L x = p at *
                  generalize at7 L y = q at *
                  go_wp2_with fail
                  go_quiet (fail)
                  go_wp2_with fail
                  go_roundw
                  case rel => exact ⟨y + 1, by omega, by omega, by go_num, HR2.out, below_drewN hbel nq, hA.drewN nq, hS⟩
                  case measure => simp [intOf]; omega
                · obtain ⟨k, hk⟩ : ∃ k, i1 + i2 + 1 = L.length + k + 1 := ⟨i1 + i2 - L.length, by omega⟩
                  have hk3 : wr.cell? ⟨b, off + k, none⟩ = some (.int .i64 (at7 L (x + y - (L.length + 1)))) := by
                    rw [show x + y - (L.length + 1) = k + 1 by omega, hget _ (by omega)]; exact hc _ _ (by simp [show k < L.length by omega])
                  obtain ⟨r1, r2⟩ := HBB.out (x + y - (L.length + 1)) (by omega) (by omega)
                  have hw6 : (x : Int) + (y : Int) - ((L.length : Int) + 1) = (k : Int) + 1 := by omega
                  have hd2 : (L.length : Int) + 1 < (x : Int) + (y : Int) := by omega
                  have hd2' := decide_eq_true hd2
                  have hk0 : (0 : Int) ≤ (k : Int) := by omega
                  have hk5 : (k : Int) < (L.length : Int) := by omega
                  rw [show (decide (L.length + 1 < x + y)) = true from decide_eq_true (by omega), Bool.true_and] at HCL
                  clear hc hget
                  by_cases h4 : at7 L x + at7 L y + 1 < at7 L (x + y - (L.length + 1))
                  · have hd4 := decide_eq_true h4
                    have HRR := Lib.hid (clashR_pair (L := L) (a := x) (b := y) (by omega) (by omega) (by omega) (by rw [HCL.out, hd4]) HNB.out (fun y z h1 h2 h3 h4 => HP.out y z h1 h2 h3 h4) HR.out)
                    clear HCL hi1 hi2
                    generalize at7 L x = p at *
                    generalize at7 L y = q at *
                    generalize at7 L (x + y - (L.length + 1)) = r at *
                    go_wp2_with fail
                    go_quiet (fail)
                    have hk4 : (wr.drewN nq).cell? ⟨b, off + k, none⟩ = some (.int .i64 r) := hk3
                    go_wp2_with (first
                      | (refine wpList_store_arr 33 (.tmp 2) (.tmp 87) w.heap.size [Value.int .i64 0, Value.int .i64 0] [Value.int .i64 (x : Int), Value.int .i64 (y : Int)] rfl rfl rfl rfl (hA.drewN nq) rfl sizeC (by simp [Value.oneCell']) ?_; intro w3 hA3 hg3 hz3))
                    have hb3 := (below_drewN hbel nq).grown hg3 (below_drewN hbel nq).size (fun k hk => by cases hk; exact Nat.le_refl _)
                    exact bodyPost_ret (results_arr_tmp rfl _ _ w.heap.size [Value.int .i64 (x : Int), Value.int .i64 (y : Int)] dC rfl hA3 hdC hrC sizeC) rfl ⟨by unfold clashA clashB clashQ; rw [HRR.out]; rfl, hb3⟩
                  · have hd4 := decide_eq_false h4
                    have HR2 : Hid (∀ z, x ≤ z → z < y + 1 → clash7 L x z = false) := Lib.hid fun z h1 h2 => by
                      rcases Nat.lt_or_ge z y with h | h
                      · exact HR.out z h1 h
                      · obtain rfl : z = y := (by omega)
                        exact (by rw [HCL.out, hd4])
                    clear HCL hi1 hi2
                    generalize at7 L x = p at *
                    generalize at7 L y = q at *
                    generalize at7 L (x + y - (L.length + 1)) = r at *
                    go_wp2_with fail
                    go_quiet (fail)
                    have hk4 : (wr.drewN nq).cell? ⟨b, off + k, none⟩ = some (.int .i64 r) := hk3
                    go_wp2_with fail
                    go_roundw
                    case rel => exact ⟨y + 1, by omega, by omega, by go_num, HR2.out, below_drewN hbel nq, hA.drewN nq, hS⟩
                    case measure => simp [intOf]; omega
            · have hye : y = L.length + 1 := by omega
              have HP2 : Hid (∀ y z, 1 ≤ y → y < x + 1 → y ≤ z → z < L.length + 1 → clash7 L y z = false) := Lib.hid fun y z h1 h2 h3 h4 => by
                rcases Nat.lt_or_ge y x with h | h
                · exact HP.out y z h1 h h3 h4
                · obtain rfl : y = x := (by omega)
                  exact HR.out z h3 (by omega)
              clear HP HR hye
              go_wp2_with fail
              go_roundw
              case rel => exact ⟨x + 1, by omega, by omega, by go_num, HP2.out, hbel, hA, hS⟩
              case measure => simp [intOf]; omega
        · have hxe : x = L.length + 1 := by omega
          have HRR := Lib.hid (clashR_none (L := L) HNB.out (fun y z h1 h2 h3 => HP.out y z h1 (by omega) h2 h3))
          clear HP hxe
          go_wp2_with (first
            | (refine wpList_store_arr 33 (.tmp 2) (.tmp 88) w.heap.size [Value.int .i64 0, Value.int .i64 0] [Value.int .i64 0, Value.int .i64 0] rfl rfl rfl rfl hA rfl sizeC (by simp [Value.oneCell']) ?_; intro w3 hA3 hg3 hz3))
          have hb3 := hbel.grown hg3 hbel.size (fun k hk => by cases hk; exact Nat.le_refl _)
          exact bodyPost_ret (results_arr_tmp rfl _ _ w.heap.size [Value.int .i64 0, Value.int .i64 0] dC rfl hA3 hdC hrC sizeC) rfl ⟨by unfold clashA clashB clashQ; rw [HRR.out]; rfl, hb3⟩
end Go.Proofs.Ytgkkkmcgnpdchaa
