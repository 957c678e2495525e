/-
  CONTRACTS of the program's chapter 15: oneIf, areCoefficients, IsPalindrome, SeriesFrom. (Own work.)
-/
import Derived.Test.YtlinlmmcgifloaaSgSr
import Derived.Test.YtlinlmmcgifloaaCh2
import Derived.Test.YtlinlmmcgifloaaCh3I
import Derived.Test.YtlinlmmcgifloaaL56
namespace Go.Proofs.Ytlinlmmcgifloaa
open Go Go.RowKit

set_option maxRecDepth 100000 in
set_option maxHeartbeats 400000 in
theorem impl_oneIf (b : Bool) (w : World) : Calls Try.prog 86 #[.bool b] w fun e w' => e = .returned (.int .i64 (bitI b)) ∧ w' = w := by
  cases b
  · go_enter Try.func86, Try.ntmps86
    go_wp2_with fail
    go_ret
    exact ⟨rfl, rfl⟩
  · go_enter Try.func86, Try.ntmps86
    go_wp2_with fail
    go_ret
    exact ⟨rfl, rfl⟩

set_option maxRecDepth 100000 in
set_option maxHeartbeats 400000 in
theorem impl_areCoefficients (L : List Int) (a : Option Addr) (cap : Nat) (w : World) (hb : L.length ≤ 1048576) : Calls Try.prog 99 #[.slice a L.length cap] w fun e w' => e = .returned (.bool (inB (L.length : Int) 1 500)) ∧ w' = w := by
  by_cases h0 : 0 < L.length
  · have hd : decide ((0 : Int) < (L.length : Int)) = true := decide_eq_true (by omega)
    by_cases h1 : L.length ≤ 500
    · have hd2 : decide ((L.length : Int) ≤ 500) = true := decide_eq_true (by omega)
      have HR : Hid (inB (L.length : Int) 1 500 = true) := Lib.hid (by unfold inB; rw [Bool.and_eq_true, decide_eq_true_eq, decide_eq_true_eq]; omega)
      go_enter Try.func99, Try.ntmps99
      go_wp2_with fail
      go_ret
      exact ⟨by rw [HR.out]; rfl, rfl⟩
    · have hd2 : decide ((L.length : Int) ≤ 500) = false := decide_eq_false (by omega)
      have HR : Hid (inB (L.length : Int) 1 500 = false) := Lib.hid (by unfold inB; rw [decide_eq_false (by omega : ¬ (L.length : Int) ≤ 500), Bool.and_false])
      go_enter Try.func99, Try.ntmps99
      go_wp2_with fail
      go_ret
      exact ⟨by rw [HR.out]; rfl, rfl⟩
  · have hd : decide ((0 : Int) < (L.length : Int)) = false := decide_eq_false (by omega)
    have HR : Hid (inB (L.length : Int) 1 500 = false) := Lib.hid (by unfold inB; rw [decide_eq_false (by omega : ¬ 1 ≤ (L.length : Int))]; rfl)
    go_enter Try.func99, Try.ntmps99
    go_wp2_with fail
    go_ret
    exact ⟨by rw [HR.out]; rfl, rfl⟩

theorem pal_half {L : List Int} (h : ∀ k (hk : k < L.length / 2), L[k]'(by omega) = L[L.length - 1 - k]'(by omega)) : palB L = true := by
  refine pal_true fun k hk => ?_
  by_cases h1 : k < L.length / 2
  · exact h k h1
  · by_cases h2 : L.length - 1 - k < L.length / 2
    · have := h (L.length - 1 - k) h2
      have e : L.length - 1 - (L.length - 1 - k) = k := by omega
      simp only [e] at this
      exact this.symm
    · have e : L.length - 1 - k = k := by omega
      simp only [e]

set_option maxRecDepth 100000 in
set_option maxHeartbeats 800000 in
theorem impl_IsPalindrome (L : List Int) (a : Option Addr) (cap : Nat) (w : World) (hr : SlV w a (L.map (Value.int .i64))) (hb : L.length ≤ 1048576) :
    Calls Try.prog 34 #[.slice a L.length cap] w fun e w' => e = .returned (.bool (palB L)) ∧ Below w.heap.size w w' := by
  obtain ⟨H, hH⟩ : ∃ H, H = L.length / 2 := ⟨_, rfl⟩
  have hq : (L.length : Int) / 2 = (H : Int) := by omega
  have HQ := Lib.hid hq
  clear hq
  go_enter Try.func34, Try.ntmps34
  go_wp2_with fail
  go_loopw [7] (fun i wr => ∃ k : Nat, k ≤ H ∧ i = .int .i64 (k : Int) ∧ (∀ j (_ : j < k) (hj : j < L.length), L[j] = L[L.length - 1 - j]) ∧ Below w.heap.size w wr) (fun i _ => H - (intOf i).toNat)
  case atStart => exact ⟨0, Nat.zero_le _, rfl, fun j h _ => by omega, Below.refl _ _⟩
  case round =>
    obtain ⟨k, hk, rfl, hpal, hbel⟩ := hrel
    have HP := Lib.hid hpal
    clear hpal
    by_cases hlt : k < H
    · obtain ⟨b, off, rfl, hbs, hc⟩ := hr.open (by intro h; rw [List.map_eq_nil_iff] at h; subst h; simp at hH; omega)
      obtain ⟨j, hj1, hj2⟩ : ∃ j, j ≤ L.length - 1 - k ∧ L.length - 1 - k ≤ j := ⟨_, Nat.le_refl _, Nat.le_refl _⟩
      have hkl : k < L.length := by omega
      have hjl : j < L.length := by omega
      have HJ : Hid (L.length - 1 - k = j) := Lib.hid (by omega)
      have hlti : (k : Int) < (L.length : Int) / 2 := by rw [HQ.out]; omega
      have hk0 : (0 : Int) ≤ (k : Int) := by omega
      have hj0 : (0 : Int) ≤ (j : Int) := by omega
      have hkli : (k : Int) < (L.length : Int) := by omega
      have hjli : (j : Int) < (L.length : Int) := by omega
      have hcell : wr.cell? ⟨b, off + k, none⟩ = some (.int .i64 L[k]) := by rw [hbel.cell (p := ⟨b, off + k, none⟩) hbs]; exact hc k _ (by simp [hkl])
      have hcell2 : wr.cell? ⟨b, off + j, none⟩ = some (.int .i64 L[j]) := by rw [hbel.cell (p := ⟨b, off + j, none⟩) hbs]; exact hc j _ (by simp [hjl])
      have hw1 : IntKind.i64.wrap ((L.length : Int) - 1) = (L.length : Int) - 1 := IntWalk.i64_in _ (by omega)
      have hw2 : IntKind.i64.wrap ((L.length : Int) - 1 - (k : Int)) = (j : Int) := by rw [IntWalk.i64_in _ (by omega)]; omega
      clear hc hr hH
      by_cases he : L[k] = L[j]
      · have HS : Hid (∀ i (_ : i < k + 1) (hi : i < L.length), L[i] = L[L.length - 1 - i]) := Lib.hid (fun i hi hil => by
          by_cases e : i < k
          · exact HP.out i e hil
          · obtain rfl : i = k := by omega
            simp only [HJ.out]; exact he)
        have hq : (L[k] == L[j]) = true := by rw [beq_iff_eq]; exact he
        have hq2 : (L[k] != L[j]) = false := by rw [bne, hq]; rfl
        clear he
        generalize L[k] = x at *
        generalize L[j] = y at *
        go_wp2_with fail
        go_quiet (fail)
        go_wp2_with fail
        go_roundw
        case rel => exact ⟨k + 1, by omega, by go_num, HS.out, by first | exact hbel | exact below_drewN hbel _⟩
        case measure => simp [intOf]; omega
      · have HR := Lib.hid (pal_false hkl (by simp only [HJ.out]; exact he))
        have hq : (L[k] == L[j]) = false := by rw [beq_eq_false_iff_ne]; exact he
        have hq2 : (L[k] != L[j]) = true := by rw [bne, hq]; rfl
        clear he
        generalize L[k] = x at *
        generalize L[j] = y at *
        go_wp2_with fail
        go_quiet (fail)
        go_wp2_with fail
        go_ret
        exact ⟨by rw [HR.out]; rfl, by first | exact hbel | exact below_drewN hbel _⟩
    · have HR := Lib.hid (pal_half (L := L) (fun j hj => HP.out j (by omega) (by omega)))
      have hlti : ¬ (k : Int) < (L.length : Int) / 2 := by rw [HQ.out]; omega
      clear hr hH
      go_wp2_with fail
      go_ret
      exact ⟨by rw [HR.out]; rfl, hbel⟩

def serT (L : List Int) (k i : Nat) : Int := if i < k then wsum (L.take (i + 1)) else 0
theorem serT_set (L : List Int) (k M : Nat) : (tabJ (serT L k) M).set k (.int .i64 (wsum (L.take (k + 1)))) = tabJ (serT L (k + 1)) M :=
  tabJ_set _ (by unfold serT; rw [if_pos (by omega)]) fun i hi => by
    unfold serT
    by_cases h : i < k
    · rw [if_pos h, if_pos (by omega)]
    · rw [if_neg h, if_neg (by omega)]
theorem serT_all {L : List Int} {n : Nat} (h : inB (n : Int) 0 1000 = true) : (seriesL L (n : Int)).length = n ∧ (seriesL L (n : Int)).map (Value.int .i64) = tabJ (serT L n) n := by
  rw [seriesL_yes h]
  refine ⟨by simp, ?_⟩
  rw [List.map_map]
  unfold tabJ
  refine List.map_congr_left fun i hi => ?_
  have : i < n := by simpa using hi
  show Value.int .i64 _ = Value.int .i64 (serT L n i)
  unfold serT; rw [if_pos this]
/-- The new table of zeros. -/
theorem tab0J {w w1 : World} (M base : Nat) (_hb : base ≤ w.heap.size) (hown : w1.ownsRow w.heap.size 3 1 (.slice (some ⟨w.heap.size, 0, none⟩) M M) M (madeCells (Value.int .i64 0).cells (M * 1)).toList) (hgrow : w.grownBy w1 none) :
    Hid (w1.ownsRow w.heap.size 3 1 (.slice (some ⟨w.heap.size, 0, none⟩) M M) M (tabJ (fun _ => 0) M)) ∧ Hid (Below w.heap.size w w1) := by
  refine ⟨Lib.hid ?_, Lib.hid ((Below.refl _ w).grown hgrow (Nat.le_refl _) (fun k h => by cases h))⟩
  have e : (madeCells (Value.int .i64 0).cells (M * 1)).toList = List.replicate M (Value.int .i64 0) := by rw [Nat.mul_one]; exact toList_madeCells_one _ _
  have e2 : tabJ (fun _ => 0) M = List.replicate M (Value.int .i64 0) := by
    unfold tabJ; exact List.map_const' .. |>.trans (by rw [List.length_range])
  rw [e2, ← e]; exact hown

set_option maxRecDepth 100000 in
set_option maxHeartbeats 800000 in
theorem impl_SeriesFrom (L : List Int) (x : Int) (a : Option Addr) (cap : Nat) (w : World) (hr : SlV w a (L.map (Value.int .i64))) (_hb : L.length ≤ 1048576) :
    Calls Try.prog 32 #[.slice a L.length cap, .int .i64 x] w (SlPost (seriesL L x) w) := by
  obtain ⟨i0, hi, hz0, hz1, hz2⟩ := info_parts infoIntL
  by_cases h0 : x < 0
  · have HR := Lib.hid (seriesL_no (L := L) (n := x) (by unfold inB; rw [decide_eq_false (by omega : ¬ 0 ≤ x)]; rfl))
    have hd := decide_eq_true h0
    clear hr
    go_enter Try.func32, Try.ntmps32
    go_wp2_with fail
    go_ret
    exact ⟨_, rfl, by rw [HR.out]; exact World.ownsRow_nil _ _ _ _, Below.refl _ _⟩
  · have hd := decide_eq_false h0
    by_cases h1 : 1000 < x
    · have HR := Lib.hid (seriesL_no (L := L) (n := x) (by unfold inB; rw [decide_eq_false (by omega : ¬ x ≤ 1000), Bool.and_false]))
      have hd1 := decide_eq_true h1
      clear hr
      go_enter Try.func32, Try.ntmps32
      go_wp2_with fail
      go_ret
      exact ⟨_, rfl, by rw [HR.out]; exact World.ownsRow_nil _ _ _ _, Below.refl _ _⟩
    · have hd1 := decide_eq_false h1
      obtain ⟨n, rfl⟩ := Int.eq_ofNat_of_zero_le (by omega : 0 ≤ x)
      have HR := Lib.hid (serT_all (L := L) (n := n) (by unfold inB; rw [Bool.and_eq_true, decide_eq_true_eq, decide_eq_true_eq]; omega))
      have hn0 : (0 : Int) ≤ (n : Int) := by omega
      have hn1 : n ≤ 1000 := by omega
      go_enter Try.func32, Try.ntmps32
      go_wp2_with (at_make; refine wpList_make_full _ rfl _ _ 24 rfl w.heap.size 3 i0 (Value.int .i64 0) 1 Try.underlying24 hi hz0 hz1 .i64 .i64 _ _ n rfl rfl (by first | rfl | (simp; done) | omega) (by first | rfl | (simp; done) | omega) (by rw [hz2]; omega) (by unfold maxLen; omega) (Nat.le_refl _) ?_; intro w1 hown hgrow; obtain ⟨HO, HB⟩ := tab0J n w.heap.size (Nat.le_refl _) hown hgrow; clear hown hgrow)
      clear hi hz0 hz1 hz2 hd hd1 h0 h1
      go_loopw [6, 18] (fun s i wr => ∃ k : Nat, k ≤ n ∧ i = .int .i64 (k : Int) ∧ s = .int .i64 (wsum (L.take k)) ∧ wr.ownsRow w.heap.size 3 1 (.slice (some ⟨w.heap.size, 0, none⟩) n n) n (tabJ (serT L k) n) ∧ Below w.heap.size w wr) (fun _ i _ => n - (intOf i).toNat)
      case atStart => exact ⟨0, Nat.zero_le _, rfl, rfl, by have := HO.out; rwa [tabJ_congr (g := serT L 0) (fun i _ => by unfold serT; rw [if_neg (by omega)])] at this, HB.out⟩
      case round =>
        clear HO HB
        obtain ⟨k, hk, rfl, rfl, hown, hbel⟩ := hrel
        by_cases hlt : k < n
        · have hlti : (k : Int) < (n : Int) := by omega
          have hk0 : (0 : Int) ≤ (k : Int) := by omega
          have hct : wr.cell? ⟨w.heap.size, k, none⟩ = some (.int .i64 (serT L k k)) := by have := hown.cellAt k (by omega); rw [tabJ_get _ hlt] at this; exact this
          have hfz : wr.frozen? ⟨w.heap.size, k, none⟩ = false := hown.frozenAt k
          have hst := hown.stored k (.int .i64 (wsum (L.take (k + 1))))
          rw [serT_set] at hst
          have HST := Lib.hid hst.1
          have HB2 := Lib.hid (hbel.setCell (p := ⟨w.heap.size, k, none⟩) (Nat.le_refl _) (.int .i64 (wsum (L.take (k + 1)))))
          clear hst hown
          by_cases hin : k < L.length
          · obtain ⟨b, off, rfl, hbs, hc⟩ := hr.open (by intro h; rw [List.map_eq_nil_iff] at h; subst h; simp at hin)
            have hcell : wr.cell? ⟨b, off + k, none⟩ = some (.int .i64 L[k]) := by rw [hbel.cell (p := ⟨b, off + k, none⟩) hbs]; exact hc k _ (by simp [hin])
            have hini : (k : Int) < (L.length : Int) := by omega
            have HT := Lib.hid (wsum_take hin)
            rw [HT.out] at HST HB2
            clear hc hr hbel
            generalize L[k] = y at *
            generalize serT L k k = cj at *
            generalize wsum (L.take k) = s at *
            have hw : wrap64 (s + y) = IntKind.i64.wrap (s + y) := (IntWalk.i64_left _).symm
            generalize IntKind.i64.wrap (s + y) = z at *
            go_wp2_with fail
            go_roundw
            case rel => exact ⟨k + 1, by omega, by go_num, by rw [HT.out, hw], HST.out, HB2.out⟩
            case measure => simp [intOf]; omega
          · have hini : ¬ (k : Int) < (L.length : Int) := by omega
            have HT := Lib.hid (wsum_far (L := L) (k := k) (by omega))
            rw [HT.out] at HST HB2
            clear hr hbel
            generalize serT L k k = cj at *
            generalize wsum (L.take k) = s at *
            go_wp2_with fail
            go_roundw
            case rel => exact ⟨k + 1, by omega, by go_num, by rw [HT.out], HST.out, HB2.out⟩
            case measure => simp [intOf]; omega
        · obtain rfl : k = n := by omega
          have hlti : ¬ ((k : Nat) : Int) < (k : Int) := by omega
          rw [← HR.out.2] at hown
          have HO := Lib.hid hown
          clear hown hr
          go_wp2_with fail
          go_ret
          exact ⟨_, rfl, by rw [HR.out.1]; exact HO.out, hbel⟩
end Go.Proofs.Ytlinlmmcgifloaa
