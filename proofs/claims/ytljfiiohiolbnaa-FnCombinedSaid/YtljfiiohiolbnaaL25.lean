/-
  CHAPTER 8 OF THE REFERENCE: l8Gaps, GapClash. (Own work.)
-/
import Derived.Test.YtljfiiohiolbnaaSgF
import Derived.Test.YtljfiiohiolbnaaL23
namespace Go.Proofs.Ytljfiiohiolbnaa
open Go Go.RowKit

theorem okGp_no {L : List Int} {k : Nat} (hk : k < L.length) (h : inB L[k] 1 199 = false) : okGp L = false := by
  unfold okGp
  rw [show (L.all fun x => inB x 1 199) = false from List.all_eq_false.2 ⟨L[k], List.getElem_mem hk, by rw [h]; simp⟩]; rfl
theorem okGp_all {L : List Int} (h : ∀ (k : Nat) (hk : k < L.length), inB L[k] 1 199 = true) : okGp L = ascB L := by
  unfold okGp
  rw [show (L.all fun x => inB x 1 199) = true from List.all_eq_true.2 fun x hx => by obtain ⟨i, hi, rfl⟩ := List.getElem_of_mem hx; exact h i hi, Bool.true_and]
set_option maxRecDepth 100000 in
set_option maxHeartbeats 1600000 in
theorem spec_l8Gaps (L : List Int) (a : Option Addr) (cap : Nat) (w : World) (hr : SlV w a (L.map (Value.int .i64))) (hb : L.length ≤ 1048576) :
    Calls Try.prog 78 #[.slice a L.length cap] w fun e w' => e = .returned (.bool (okGp L)) ∧ Below w.heap.size w w' := by
  have ci := fun (x : Int) w => l1In_any x 1 199 w
  have cA := spec_IsAscending L a cap w hr (by unfold maxLen; omega)
  go_enter Try.func78, Try.ntmps78
  go_wp2_with fail
  go_loopw [3] (fun i wr => ∃ k : Nat, k ≤ L.length ∧ i = .int .i64 (k : Int) ∧ Hid (∀ (j : Nat) (hj : j < L.length), j < k → inB L[j] 1 199 = true) ∧ wr = w) (fun i _ => L.length - (intOf i).toNat)
  case atStart => exact ⟨0, Nat.zero_le _, rfl, Lib.hid (fun j _ h => by omega), rfl⟩
  case round =>
    obtain ⟨k, hk, rfl, HB, rfl⟩ := hrel
    by_cases hlt : k < L.length
    · obtain ⟨b, off, rfl, hbs, hc⟩ := hr.open (by intro h; rw [List.map_eq_nil_iff] at h; subst h; simp at hlt)
      have hcell : wr.cell? ⟨b, off + k, none⟩ = some (.int .i64 L[k]) := hc k _ (by simp [hlt])
      have c1 := ci L[k] wr
      clear hc ci cA
      cases hq : inB L[k] 1 199
      · have HR := Lib.hid (okGp_no hlt hq)
        rw [hq] at c1
        clear hq
        generalize L[k] = x at *
        go_wp2_with fail
        refine c1.mono ?_
        rintro e w2 ⟨rfl, rfl⟩
        go_wp2_with fail
        go_ret
        exact ⟨by rw [HR.out]; rfl, Below.refl _ _⟩
      · have HB2 : Hid (∀ (j : Nat) (hj : j < L.length), j < k + 1 → inB L[j] 1 199 = true) := Lib.hid fun j hj h => by
          rcases Nat.lt_or_ge j k with h' | h'
          · exact HB.out j hj h'
          · obtain rfl : j = k := (by omega)
            exact hq
        rw [hq] at c1
        clear hq HB
        generalize L[k] = x at *
        go_wp2_with fail
        refine c1.mono ?_
        rintro e w2 ⟨rfl, rfl⟩
        go_wp2_with fail
        go_roundw
        case rel => exact ⟨k + 1, by omega, by go_num, HB2.out, by first | rfl | trivial⟩
        case measure => simp [intOf]; omega
    · have HR := Lib.hid (okGp_all (L := L) fun j hj => HB.out j hj (by omega))
      obtain rfl : k = L.length := by omega
      clear HB
      go_wp2_with fail
      refine cA.mono ?_
      rintro e w2 ⟨rfl, hb2⟩
      go_wp2_with fail
      go_ret
      exact ⟨by rw [HR.out]; rfl, hb2⟩

/-! ### Tables of bools by a function -/
def tab8 (f : Nat → Bool) (T : Nat) : List Value := (List.range T).map fun j => Value.bool (f j)
theorem tab8_get (f : Nat → Bool) (T j : Nat) (hj : j < T) : (tab8 f T)[j]? = some (.bool (f j)) := by
  unfold tab8; rw [List.getElem?_map, List.getElem?_range hj]; rfl
theorem tab8_len (f : Nat → Bool) (T : Nat) : (tab8 f T).length = T := by simp [tab8]
theorem tab8_set (f g : Nat → Bool) (T m : Nat) (b : Bool) (h : ∀ j, j < T → g j = if j = m then b else f j) : (tab8 f T).set m (.bool b) = tab8 g T := by
  apply List.ext_getElem?
  intro j
  by_cases hj : j < T
  · rw [List.getElem?_set, tab8_get g T j hj, h j hj]
    by_cases e : m = j
    · subst e; rw [if_pos rfl, if_pos (by rw [tab8_len]; exact hj), if_pos rfl]
    · rw [if_neg e, tab8_get f T j hj, if_neg (Ne.symm e)]
  · rw [List.getElem?_eq_none (by rw [List.length_set, tab8_len]; omega), List.getElem?_eq_none (by rw [tab8_len]; omega)]
theorem tab8_zero (T : Nat) : tab8 (fun _ => false) T = List.replicate T (Value.bool false) := by
  apply List.ext_getElem?
  intro j
  by_cases hj : j < T
  · rw [tab8_get _ T j hj, List.getElem?_replicate, if_pos hj]
  · rw [List.getElem?_eq_none (by rw [tab8_len]; omega), List.getElem?_eq_none (by simp; omega)]
theorem isIn_take_succ {L : List Int} {k X : Nat} (hk : L[k]? = some (X : Int)) (j : Nat) : isIn (L.take (k + 1)) j = if j = X then true else isIn (L.take k) j := by
  unfold isIn
  rw [List.take_add_one, hk]
  by_cases h : j = X
  · subst h; simp
  · rw [if_neg h, Bool.eq_iff_iff]; simp; omega

theorem gapR_nil : gapR [] = none := gapR_none fun x y _ _ => by
  unfold clash8
  rw [show isIn [] (x + y) = false from isIn_false.2 (by simp), Bool.and_false]
theorem okGp_last {L : List Int} (hok : okGp L = true) (h : L ≠ []) : ∃ m : Nat, L[L.length - 1]? = some (m : Int) ∧ 1 ≤ m ∧ m < 200 ∧ isIn L m = true ∧ ∀ n, isIn L n = true → n ≤ m := by
  have hp := List.length_pos_iff.2 h
  obtain ⟨h1, h2⟩ := okGp_iff.1 hok
  have hb := h1 L[L.length - 1] (List.getElem_mem _)
  refine ⟨(L[L.length - 1]).toNat, ?_, by omega, by omega, isIn_iff.2 ?_, fun n hn => ?_⟩
  · rw [List.getElem?_eq_getElem (by omega)]; congr 1; omega
  · rw [show (((L[L.length - 1]).toNat : Nat) : Int) = L[L.length - 1] by omega]; exact List.getElem_mem _
  · obtain ⟨i, hi, e⟩ := List.getElem_of_mem (isIn_iff.1 hn)
    rcases Nat.lt_or_ge i (L.length - 1) with h' | h'
    · have := asc_of_ascB h2 i (L.length - 1) (by omega) h'; omega
    · have e2 : L[i] = L[L.length - 1] := by congr 1; omega
      omega

set_option maxRecDepth 100000 in
set_option maxHeartbeats 3200000 in
theorem spec_GapClash (L : List Int) (a : Option Addr) (cap : Nat) (w : World) (hr : SlV w a (L.map (Value.int .i64))) (hb : L.length ≤ 1048576) :
    Calls Try.prog 77 #[.slice a L.length cap] w (ClPost (gapA L) (gapB' L) (gapQ L) w) := by
  obtain ⟨i0, hi, hz0, hz1, hz2⟩ := info_parts infoBool
  obtain ⟨dC, hdC, hrC⟩ := undC
  obtain ⟨W, hW⟩ : ∃ W, W = w.alloc (.cells [Value.int .i64 0, Value.int .i64 0].toArray 79) := ⟨_, rfl⟩
  have hbW : Below w.heap.size w W := by rw [hW]; exact box_below _ _
  have hAW : Arr W w.heap.size 79 [Value.int .i64 0, Value.int .i64 0] := by rw [hW]; exact Arr.new _ _ _
  have HW := Lib.hid hW
  clear hW
  have c1 := spec_l8Gaps L a cap W (hr.below hbW) hb
  go_enter Try.func77, Try.ntmps77
  go_wp2_with (first
    | (refine wpList_alloc_arr 79 [Value.int .i64 0, Value.int .i64 0] zeroC rfl rfl ?_; rw [← HW.out]))
  refine c1.mono ?_
  rintro e w1 ⟨rfl, hb1⟩
  have hb01 := hbW.trans (hb1.mono hbW.size)
  have hA1 := hAW.below hb1
  have hlt1 := hA1.lt
  have hs01 := hb01.size
  clear c1 hAW hb1 hbW
  cases hok : okGp L
  · have HRR := Lib.hid (gapR_no hok)
    clear hok hr
    go_wp2_with (first
      | (refine wpList_store_arr 79 (.tmp 2) (.tmp 17) w.heap.size [Value.int .i64 0, Value.int .i64 0] [Value.int .i64 0, Value.int .i64 0] rfl rfl rfl rfl hA1 rfl sizeC (by simp [Value.oneCell']) ?_; intro w3 hA3 hg3 hz3; clear hz3))
    have hb3 := hb01.grown hg3 hb01.size (fun k hk => by cases hk; exact Nat.le_refl _)
    exact bodyPost_ret (results_arr_tmp rfl _ _ w.heap.size [Value.int .i64 0, Value.int .i64 0] dC rfl hA3 hdC hrC sizeC) rfl ⟨by unfold gapA gapB' gapQ; rw [HRR.out]; rfl, hb3⟩
  · by_cases hn : L = []
    · have HRR : Hid (gapR L = none) := Lib.hid (by rw [hn]; exact gapR_nil)
      have hl0 : ((L.length : Int) == 0) = true := by rw [hn]; rfl
      clear hok hr hn
      go_wp2_with (first
        | (refine wpList_store_arr 79 (.tmp 2) (.tmp 17) w.heap.size [Value.int .i64 0, Value.int .i64 0] [Value.int .i64 0, Value.int .i64 0] rfl rfl rfl rfl hA1 rfl sizeC (by simp [Value.oneCell']) ?_; intro w3 hA3 hg3 hz3; clear hz3))
      have hb3 := hb01.grown hg3 hb01.size (fun k hk => by cases hk; exact Nat.le_refl _)
      exact bodyPost_ret (results_arr_tmp rfl _ _ w.heap.size [Value.int .i64 0, Value.int .i64 0] dC rfl hA3 hdC hrC sizeC) rfl ⟨by unfold gapA gapB' gapQ; rw [HRR.out]; rfl, hb3⟩
    · obtain ⟨m, hm1, hm2, hm3, hm4, hm5⟩ := okGp_last hok hn
      have hp := List.length_pos_iff.2 hn
      have hl0 : ((L.length : Int) == 0) = false := by rw [beq_eq_false_iff_ne]; omega
      obtain ⟨b, off, rfl, hbs, hc⟩ := (hr.below hb01).open (by intro h; rw [List.map_eq_nil_iff] at h; exact hn h)
      have hcl : w1.cell? ⟨b, off + (L.length - 1), none⟩ = some (.int .i64 (m : Int)) := hc (L.length - 1) _ (by rw [List.getElem?_map, hm1]; rfl)
      obtain ⟨l1, hl1⟩ : ∃ l1, l1 = L.length - 1 := ⟨_, rfl⟩
      rw [← hl1] at hcl
      have hw1 : (L.length : Int) - 1 = (l1 : Int) := by omega
      have hv1 : (0 : Int) ≤ (l1 : Int) := by omega
      have hv2 : (l1 : Int) < (L.length : Int) := by omega
      have hw2 : IntKind.i64.wrap (2 * (m : Int)) = 2 * (m : Int) := IntWalk.i64_in _ (by omega)
      have hw3 : IntKind.i64.wrap (2 * (m : Int) + 1) = ((2 * m + 1 : Nat) : Int) := by rw [IntWalk.i64_in _ (by omega)]; omega
      have HOK := Lib.hid hok
      have HC := Lib.hid hc
      have HM := Lib.hid hm5
      clear hok hn hr hc hm1 hl1 hm5
      go_wp2_with (at_make; refine wpList_make_full _ rfl _ _ 75 rfl w1.heap.size 4 i0 (Value.bool false) 1 Try.underlying75 hi hz0 hz1 .i64 .i64 _ _ (2 * m + 1) rfl rfl (by first | rfl | (simp; done) | omega) (by first | rfl | (simp; done) | omega) (by rw [hz2]; omega) (by unfold maxLen; omega) (Nat.le_refl _) ?_; intro w2 hown hgrow)
      have hb2 : Below w.heap.size w w2 := hb01.grown hgrow hs01 (fun k h => by cases h)
      have hA2 := hA1.grown hgrow (by simp)
      have hg2 : w1.heap.size < w2.heap.size := (owns_facts hown).2.1
      have hown' : w2.ownsRow w1.heap.size 4 1 (.slice (some ⟨w1.heap.size, 0, none⟩) (2 * m + 1) (2 * m + 1)) (2 * m + 1) (tab8 (isIn (L.take 0)) (2 * m + 1)) := by
        have e : (madeCells (Value.bool false).cells ((2 * m + 1) * 1)).toList = List.replicate (2 * m + 1) (Value.bool false) := by rw [Nat.mul_one]; exact toList_madeCells_one _ _
        rw [show isIn (L.take 0) = fun _ => false from funext fun j => isIn_false.2 (by simp), tab8_zero, ← e]; exact hown
      have HC2 : Hid (∀ k x, L[k]? = some x → w2.cell? ⟨b, off + k, none⟩ = some (.int .i64 x)) := Lib.hid fun k x h => by
        rw [World.cell?_of_block (a := ⟨b, off + k, none⟩) (hgrow.block b hbs (by simp))]
        exact HC.out k _ (by rw [List.getElem?_map, h]; rfl)
      have hbs2 : b < w1.heap.size := hbs
      have HX : Hid (∀ k, k < L.length → ∃ X : Nat, L[k]? = some (X : Int) ∧ X ≤ m) := Lib.hid fun k hk => by
        have h1 := (okGp_iff.1 HOK.out).1 L[k] (List.getElem_mem hk)
        refine ⟨(L[k]).toNat, by rw [List.getElem?_eq_getElem hk]; congr 1; omega, HM.out _ (isIn_iff.2 ?_)⟩
        rw [show (((L[k]).toNat : Nat) : Int) = L[k] by omega]; exact List.getElem_mem _
      clear hown hgrow HC hA1 hb01 hcl hw2 hw3 hi hz0 hz1 hz2
      go_loopw [6] (fun i wr => ∃ k : Nat, k ≤ L.length ∧ i = .int .i64 (k : Int) ∧ wr.ownsRow w1.heap.size 4 1 (.slice (some ⟨w1.heap.size, 0, none⟩) (2 * m + 1) (2 * m + 1)) (2 * m + 1) (tab8 (isIn (L.take k)) (2 * m + 1)) ∧ Arr wr w.heap.size 79 [Value.int .i64 0, Value.int .i64 0] ∧
          Hid (∀ k x, L[k]? = some x → wr.cell? ⟨b, off + k, none⟩ = some (.int .i64 x)) ∧ Below w.heap.size w wr) (fun i _ => L.length - (intOf i).toNat)
      case atStart => exact ⟨0, Nat.zero_le _, rfl, hown', hA2, HC2, hb2⟩
      case round =>
        clear hown' hA2 HC2 hb2
        obtain ⟨k, hk, rfl, hown, hA, HC, hbel⟩ := hrel
        by_cases hlt : k < L.length
        · obtain ⟨X, hX, hXm⟩ := HX.out k hlt
          have hcell := HC.out k _ hX
          have hst := hown.stored X (.bool true)
          rw [tab8_set (isIn (L.take k)) (isIn (L.take (k + 1))) (2 * m + 1) X true (fun j _ => isIn_take_succ hX j)] at hst
          have HS := Lib.hid hst.1
          obtain ⟨u, hu⟩ : ∃ u, wr.cell? ⟨w1.heap.size, X, none⟩ = some u := by
            rw [hown.cellAt X (by omega)]; exact ⟨_, tab8_get _ _ X (by omega)⟩
          have hfz := hown.frozenAt X
          have HA := Lib.hid (hA.grown (grownBy_setCell wr w1.heap.size X (.bool true)) (by simp; omega))
          have HB := Lib.hid (hbel.setCell (p := ⟨w1.heap.size, X, none⟩) hs01 (.bool true))
          have HC3 : Hid (∀ k x, L[k]? = some x → (wr.setCell ⟨w1.heap.size, X, none⟩ (.bool true)).cell? ⟨b, off + k, none⟩ = some (.int .i64 x)) := Lib.hid fun k x h => by
            rw [World.cell?_of_block (a := ⟨b, off + k, none⟩) (heap_setCell_other wr ⟨w1.heap.size, X, none⟩ b _ (by show b ≠ w1.heap.size; omega))]
            exact HC.out k x h
          have hX0 : (0 : Int) ≤ (X : Int) := by omega
          have hX1 : (X : Int) < ((2 * m + 1 : Nat) : Int) := by omega
          clear hst hown hX hA hbel HC
          go_wp2_with fail
          go_roundw
          case rel => exact ⟨k + 1, by omega, by go_num, HS.out, HA.out, HC3.out, HB.out⟩
          case measure => simp [intOf]; omega
        · have hke : k = L.length := by omega
          rw [hke, List.take_of_length_le (Nat.le_refl _)] at hown
          have HT : Hid (∀ j, j < 2 * m + 1 → wr.cell? ⟨w1.heap.size, j, none⟩ = some (.bool (isIn L j))) := Lib.hid fun j hj => by
            rw [hown.cellAt j (by omega)]; exact tab8_get _ _ j hj
          have hnl : ¬ (k : Int) < (L.length : Int) := by omega
          clear hown HC HX hlt hke
          go_wp2_with fail
          clear hnl
          go_loopw [7] (fun i ws => ∃ x : Nat, 1 ≤ x ∧ x ≤ m + 1 ∧ i = .int .i64 (x : Int) ∧ Hid (∀ y z, 1 ≤ y → y < x → y ≤ z → clash8 L y z = false) ∧ ws = wr) (fun i _ => m + 1 - (intOf i).toNat)
          case atStart => exact ⟨1, Nat.le_refl _, by omega, rfl, Lib.hid (fun y z h1 h2 => by omega), rfl⟩
          case round =>
            obtain ⟨x, hx1, hxm, rfl, HP, rfl⟩ := hrel
            by_cases hlt : x ≤ m
            · have hlti : (x : Int) ≤ (m : Int) := by omega
              have hltd := decide_eq_true hlti
              go_wp2_with fail
              go_loopw [8] (fun i ws => ∃ y : Nat, x ≤ y ∧ y ≤ m + 1 ∧ i = .int .i64 (y : Int) ∧ Hid (∀ z, x ≤ z → z < y → clash8 L x z = false) ∧ ws = wr) (fun i _ => m + 1 - (intOf i).toNat)
              case atStart => exact ⟨x, Nat.le_refl _, by omega, rfl, Lib.hid (fun z h1 h2 => by omega), rfl⟩
              case round =>
                obtain ⟨y, hxy, hym, rfl, HR, rfl⟩ := hrel
                by_cases hxyl : x + y ≤ m
                · have hd := show (x : Int) + (y : Int) ≤ (m : Int) by omega
                  have hd' := decide_eq_true hd
                  have hkx := HT.out x (by omega)
                  have hky := HT.out y (by omega)
                  have hks := HT.out (x + y) (by omega)
                  rw [show ((x + y : Nat)) = x + y from rfl] at hks
                  have hx0 : (0 : Int) ≤ (x : Int) := by omega
                  have hx9 : (x : Int) < ((2 * m + 1 : Nat) : Int) := by omega
                  have hy0 : (0 : Int) ≤ (y : Int) := by omega
                  have hy9 : (y : Int) < ((2 * m + 1 : Nat) : Int) := by omega
                  obtain ⟨s, hs⟩ : ∃ s, s = x + y := ⟨_, rfl⟩
                  rw [← hs] at hks
                  have hws : (x : Int) + (y : Int) = (s : Int) := by omega
                  have hs0 : (0 : Int) ≤ (s : Int) := by omega
                  have hs9 : (s : Int) < ((2 * m + 1 : Nat) : Int) := by omega
                  have hds : (s : Int) ≤ (m : Int) := by omega
                  have hds' := decide_eq_true hds
                  have HS := Lib.hid hs
                  clear hs hd hd'
                  cases hqx : isIn L x
                  · cases hqy : isIn L y
                    · cases hqs : isIn L s
                      · have hc0 : clash8 L x y = false := by unfold clash8; rw [← HS.out, hqs, Bool.and_false]
                        rw [hqx] at hkx
                        rw [hqy] at hky
                        rw [hqs] at hks
                        have HR2 : Hid (∀ z, x ≤ z → z < y + 1 → clash8 L x z = false) := Lib.hid fun z h1 h2 => by
                          rcases Nat.lt_or_ge z y with h | h
                          · exact HR.out z h1 h
                          · obtain rfl : z = y := (by omega)
                            exact hc0
                        clear hqx hqy hqs hc0
                        go_wp2_with fail
                        go_roundw
                        case rel => exact ⟨y + 1, by omega, by omega, by go_num, HR2.out, by first | rfl | trivial⟩
                        case measure => simp [intOf]; omega
                      · have hc0 : clash8 L x y = true := by unfold clash8; rw [← HS.out, hqs, hqx, hqy]; rfl
                        have HRR := Lib.hid (gapR_pair HOK.out hx1 hxy hc0 (fun y z h1 h2 h3 => HP.out y z h1 h2 h3) HR.out)
                        rw [hqx] at hkx
                        rw [hqy] at hky
                        rw [hqs] at hks
                        clear hqx hqy hqs hc0
                        go_wp2_with (first
                          | (refine wpList_store_arr 79 (.tmp 2) (.tmp 75) w.heap.size [Value.int .i64 0, Value.int .i64 0] [Value.int .i64 (x : Int), Value.int .i64 (y : Int)] rfl rfl rfl rfl hA rfl sizeC (by simp [Value.oneCell']) ?_; intro w3 hA3 hg3 hz3; clear hz3))
                        have hb3 := hbel.grown hg3 hbel.size (fun k hk => by cases hk; exact Nat.le_refl _)
                        exact bodyPost_ret (results_arr_tmp rfl _ _ w.heap.size [Value.int .i64 (x : Int), Value.int .i64 (y : Int)] dC rfl hA3 hdC hrC sizeC) rfl ⟨by unfold gapA gapB' gapQ; rw [HRR.out]; rfl, hb3⟩
                    · have hc0 : clash8 L x y = false := by unfold clash8; rw [hqy]; simp
                      rw [hqx] at hkx
                      rw [hqy] at hky
                      have HR2 : Hid (∀ z, x ≤ z → z < y + 1 → clash8 L x z = false) := Lib.hid fun z h1 h2 => by
                        rcases Nat.lt_or_ge z y with h | h
                        · exact HR.out z h1 h
                        · obtain rfl : z = y := (by omega)
                          exact hc0
                      clear hqx hqy hc0 hks
                      go_wp2_with fail
                      go_roundw
                      case rel => exact ⟨y + 1, by omega, by omega, by go_num, HR2.out, by first | rfl | trivial⟩
                      case measure => simp [intOf]; omega
                  · have hc0 : ∀ z, clash8 L x z = false := fun z => by unfold clash8; rw [hqx]; simp
                    rw [hqx] at hkx
                    have HP2 : Hid (∀ y z, 1 ≤ y → y < x + 1 → y ≤ z → clash8 L y z = false) := Lib.hid fun y' z h1 h2 h3 => by
                      rcases Nat.lt_or_ge y' x with h | h
                      · exact HP.out y' z h1 h h3
                      · obtain rfl : y' = x := (by omega)
                        exact hc0 z
                    clear hqx hc0 hks hky
                    go_wp2_with fail
                    go_roundw
                    case rel => exact ⟨x + 1, by omega, by omega, by go_num, HP2.out, by first | rfl | trivial⟩
                    case measure => simp [intOf]; omega
                · have hd := show ¬ (x : Int) + (y : Int) ≤ (m : Int) by omega
                  have hd' := decide_eq_false hd
                  have HP2 : Hid (∀ y z, 1 ≤ y → y < x + 1 → y ≤ z → clash8 L y z = false) := Lib.hid fun y' z h1 h2 h3 => by
                    rcases Nat.lt_or_ge y' x with h | h
                    · exact HP.out y' z h1 h h3
                    · obtain rfl : y' = x := (by omega)
                      rcases Nat.lt_or_ge z y with h' | h'
                      · exact HR.out z h3 h'
                      · unfold clash8
                        rw [show isIn L (y' + z) = false from by
                          cases hq : isIn L (y' + z)
                          · rfl
                          · have := HM.out _ hq; omega, Bool.and_false]
                  clear HP HR
                  go_wp2_with fail
                  go_roundw
                  case rel => exact ⟨x + 1, by omega, by omega, by go_num, HP2.out, by first | rfl | trivial⟩
                  case measure => simp [intOf]; omega
            · have HRR := Lib.hid (gapR_none (L := L) fun a' b' h1 h2 => by
                rcases Nat.lt_or_ge a' x with h | h
                · exact HP.out a' b' h1 h h2
                · unfold clash8
                  rw [show isIn L (a' + b') = false from by
                    cases hq : isIn L (a' + b')
                    · rfl
                    · have := HM.out _ hq; omega, Bool.and_false])
              have hnl : ¬ (x : Int) ≤ (m : Int) := by omega
              clear HP
              go_wp2_with (first
                | (refine wpList_store_arr 79 (.tmp 2) (.tmp 76) w.heap.size [Value.int .i64 0, Value.int .i64 0] [Value.int .i64 0, Value.int .i64 0] rfl rfl rfl rfl hA rfl sizeC (by simp [Value.oneCell']) ?_; intro w3 hA3 hg3 hz3; clear hz3))
              have hb3 := hbel.grown hg3 hbel.size (fun k hk => by cases hk; exact Nat.le_refl _)
              exact bodyPost_ret (results_arr_tmp rfl _ _ w.heap.size [Value.int .i64 0, Value.int .i64 0] dC rfl hA3 hdC hrC sizeC) rfl ⟨by unfold gapA gapB' gapQ; rw [HRR.out]; rfl, hb3⟩
end Go.Proofs.Ytljfiiohiolbnaa
