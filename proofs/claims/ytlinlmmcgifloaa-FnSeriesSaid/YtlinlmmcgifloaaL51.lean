/-
  CONTRACTS of the reference's chapter 15: membership of any number, SeriesFrom, IsPalindrome. (Own work.)
-/
import Derived.Test.YtlinlmmcgifloaaSgSr
import Derived.Test.YtlinlmmcgifloaaSgL
import Derived.Maps.AppendAt
import Derived.WalkMore
namespace Go.Proofs.Ytlinlmmcgifloaa
open Go Go.RowKit

set_option maxRecDepth 100000 in
set_option maxHeartbeats 400000 in
theorem l1Bit_any (b : Bool) (w : World) : Calls Try.prog 97 #[.bool b] w fun e w' => e = .returned (.int .i64 (bitI b)) ∧ w' = w := by
  cases b
  · go_enter Try.func97, Try.ntmps97
    go_wp2_with fail
    go_ret
    exact ⟨rfl, rfl⟩
  · go_enter Try.func97, Try.ntmps97
    go_wp2_with fail
    go_ret
    exact ⟨rfl, rfl⟩
set_option maxRecDepth 100000 in
set_option maxHeartbeats 800000 in
theorem spec_l15Has (G : List Int) (n : Int) (a : Option Addr) (cap : Nat) (w : World) (hr : SlV w a (G.map (Value.int .i64))) (hs : isSgB G = true) :
    Calls Try.prog 98 #[.agg #[.slice a G.length cap], .int .i64 n] w fun e w' => e = .returned (.bool (hasN G n)) ∧ Below w.heap.size w w' := by
  obtain ⟨W, hW⟩ : ∃ W, W = w.alloc (.cells #[.slice a G.length cap] 26) := ⟨_, rfl⟩
  have hbW : Below w.heap.size w W := by rw [hW]; exact box_below _ _
  have hc0 : W.cell? ⟨w.heap.size, 0, none⟩ = some (.slice a G.length cap) := by rw [hW]; exact box_cell w _
  have c1 := spec_l3Has G n a cap W (hr.below hbW) hs
  have hz := hasZ_sg hs n
  have HW := Lib.hid hW
  clear hW hr
  by_cases h0 : n = 0
  · have HR : Hid (hasN G n = true) := Lib.hid (by rw [← hz]; unfold hasZ; rw [decide_eq_true h0]; rfl)
    have hd : (n == 0) = true := by rw [beq_iff_eq]; exact h0
    clear h0 hz hs c1
    go_enter Try.func98, Try.ntmps98
    go_wp2_with fail
    rw [← HW.out]
    go_ret
    exact ⟨by rw [HR.out]; rfl, hbW⟩
  · have hd : (n == 0) = false := by rw [beq_eq_false_iff_ne]; exact h0
    clear h0 hz hs
    generalize hasN G n = q at *
    go_enter Try.func98, Try.ntmps98
    go_wp2_with fail
    rw [← HW.out]
    refine c1.mono ?_
    rintro e w1 ⟨rfl, hb1⟩
    have hb01 := hbW.trans (hb1.mono hbW.size)
    go_wp2_with fail
    go_ret
    exact ⟨rfl, hb01⟩
noncomputable def serK (L : List Int) (k : Nat) : List Int := (List.range k).map fun j => wsum (L.take (j + 1))
theorem serK_succ (L : List Int) (k : Nat) : serK L (k + 1) = serK L k ++ [wsum (L.take (k + 1))] := by unfold serK; rw [List.range_succ, List.map_append]; rfl
theorem serK_len (L : List Int) (k : Nat) : (serK L k).length = k := by unfold serK; simp
set_option maxRecDepth 100000 in
set_option maxHeartbeats 800000 in
theorem spec_SeriesFrom (L : List Int) (x : Int) (a : Option Addr) (cap : Nat) (w : World) (hr : SlV w a (L.map (Value.int .i64))) (hb : L.length ≤ 1048576) :
    Calls Try.prog 33 #[.slice a L.length cap, .int .i64 x] w (SlPost (seriesL L x) w) := by
  obtain ⟨i0, hi, hz0, hz1, hz2⟩ := info_parts infoIntL
  have hown0 : (w.alloc (.cells #[] 3)).ownsRow w.heap.size 3 1 (.slice (some ⟨w.heap.size, 0, none⟩) 0 0) 0 [] := World.ownsRow_lit w #[] 0 (Nat.le_refl _) (by simp) rfl
  have hbel0 : Below w.heap.size w (w.alloc (.cells #[] 3)) := (Below.refl _ _).alloc (Nat.le_refl _) _
  have ci := fun w => l1In_any x 0 1000 w
  cases hx : inB x 0 1000
  · have HR := Lib.hid (seriesL_no (L := L) hx)
    rw [hx] at ci
    clear hx hr
    have HO := Lib.hid hown0
    clear hown0
    go_enter Try.func33, Try.ntmps33
    go_wp2_with fail
    refine (ci _).mono ?_
    rintro e w2 ⟨rfl, rfl⟩
    go_wp2_with fail
    go_ret
    exact ⟨_, rfl, by rw [HR.out]; exact HO.out, hbel0⟩
  · obtain ⟨hx0, hx1⟩ := inB_true hx
    rw [hx] at ci
    obtain ⟨n, rfl⟩ := Int.eq_ofNat_of_zero_le hx0
    have HR : Hid (seriesL L (n : Int) = serK L n) := Lib.hid (seriesL_yes hx)
    have HO := Lib.hid hown0
    have HB := Lib.hid hbel0
    clear hx hown0 hbel0
    go_enter Try.func33, Try.ntmps33
    go_wp2_with fail
    refine (ci _).mono ?_
    rintro e w2 ⟨rfl, rfl⟩
    clear ci
    go_wp2_with fail
    go_loopw [5, 6, 7] (fun v s i wr => ∃ k : Nat, k ≤ n ∧ i = .int .i64 (k : Int) ∧ s = .int .i64 (wsum (L.take k)) ∧ wr.ownsRow w.heap.size 3 1 v (serK L k).length ((serK L k).map (Value.int .i64)) ∧ Below w.heap.size w wr) (fun _ _ i _ => n - (intOf i).toNat)
    case atStart => exact ⟨0, Nat.zero_le _, rfl, rfl, HO.out, HB.out⟩
    case round =>
      clear HO HB
      obtain ⟨k, hk, rfl, rfl, hown, hbel⟩ := hrel
      have hsz := hbel.size
      have hkl := serK_len L k
      by_cases hlt : k < n
      · have hlti : (k : Int) < (n : Int) := by omega
        have HS := Lib.hid (serK_succ L k)
        have hk1 : (serK L k).length ≤ 1000 := by omega
        clear hkl
        generalize serK L k = M at *
        by_cases hin : k < L.length
        · obtain ⟨b, off, rfl, hbs, hc⟩ := hr.open (by intro h; rw [List.map_eq_nil_iff] at h; subst h; simp at hin)
          have hcell : wr.cell? ⟨b, off + k, none⟩ = some (.int .i64 L[k]) := by rw [hbel.cell (p := ⟨b, off + k, none⟩) hbs]; exact hc k _ (by simp [hin])
          have hini : (k : Int) < (L.length : Int) := by omega
          have HT := Lib.hid (wsum_take hin)
          rw [HT.out] at HS
          clear hc hr
          generalize L[k] = y at *
          generalize wsum (L.take k) = s at *
          have hw : wrap64 (s + y) = IntKind.i64.wrap (s + y) := (IntWalk.i64_left _).symm
          generalize IntKind.i64.wrap (s + y) = z at *
          go_wp2_with (at_builtin; refine wpList_append_own _ rfl _ _ 24 rfl w.heap.size 3 i0 (Value.int .i64 0) 1 8 Try.underlying24 hi hz0 hz1 hz2 rfl (by decide) _ _ _ rfl (hown.alloc _) ⟨_, 0, none⟩ 1 1 [.int .i64 z] rfl rfl (World.news_of_block (cs := #[.int .i64 z]) (t := 3) (fr := (0, 0)) (heap_alloc_new _ _)) (by simp [Value.oneCell']) (by unfold maxLen; omega) (by omega) (by simp; omega) ?_; intro v2 w2 hown2 hgrow2 _)
          have hb2 := (hbel.alloc hsz _).grown hgrow2 (by simp; omega) (fun j hj => (hown.lt j hj).1)
          have HO2 := Lib.hid hown2
          clear hown hown2 hgrow2 hcell hw
          go_wp2_with fail
          go_roundw
          case rel => exact ⟨k + 1, by omega, by go_num, by rw [HT.out], by rw [HS.out]; have := HO2.out; simpa using this, hb2⟩
          case measure => simp [intOf]; omega
        · have hini : ¬ (k : Int) < (L.length : Int) := by omega
          have HT := Lib.hid (wsum_far (L := L) (k := k) (by omega))
          rw [HT.out] at HS
          clear hr
          generalize wsum (L.take k) = s at *
          go_wp2_with (at_builtin; refine wpList_append_own _ rfl _ _ 24 rfl w.heap.size 3 i0 (Value.int .i64 0) 1 8 Try.underlying24 hi hz0 hz1 hz2 rfl (by decide) _ _ _ rfl (hown.alloc _) ⟨_, 0, none⟩ 1 1 [.int .i64 s] rfl rfl (World.news_of_block (cs := #[.int .i64 s]) (t := 3) (fr := (0, 0)) (heap_alloc_new _ _)) (by simp [Value.oneCell']) (by unfold maxLen; omega) (by omega) (by simp; omega) ?_; intro v2 w2 hown2 hgrow2 _)
          have hb2 := (hbel.alloc hsz _).grown hgrow2 (by simp; omega) (fun j hj => (hown.lt j hj).1)
          have HO2 := Lib.hid hown2
          clear hown hown2 hgrow2
          go_wp2_with fail
          go_roundw
          case rel => exact ⟨k + 1, by omega, by go_num, by rw [HT.out], by rw [HS.out]; have := HO2.out; simpa using this, hb2⟩
          case measure => simp [intOf]; omega
      · obtain rfl : k = n := by omega
        have hlti : ¬ ((k : Nat) : Int) < (k : Int) := by omega
        have HO := Lib.hid hown
        clear hown hr hkl
        go_wp2_with fail
        go_ret
        exact ⟨_, rfl, by rw [HR.out]; exact HO.out, hbel⟩
set_option maxRecDepth 100000 in
set_option maxHeartbeats 800000 in
theorem spec_IsPalindrome (L : List Int) (a : Option Addr) (cap : Nat) (w : World) (hr : SlV w a (L.map (Value.int .i64))) (hb : L.length ≤ 1048576) :
    Calls Try.prog 35 #[.slice a L.length cap] w fun e w' => e = .returned (.bool (palB L)) ∧ Below w.heap.size w w' := by
  go_enter Try.func35, Try.ntmps35
  go_wp2_with fail
  go_loopw [3] (fun i wr => ∃ k : Nat, k ≤ L.length ∧ i = .int .i64 (k : Int) ∧ (∀ j (_ : j < k) (hj : j < L.length), L[j] = L[L.length - 1 - j]) ∧ Below w.heap.size w wr) (fun i _ => L.length - (intOf i).toNat)
  case atStart => exact ⟨0, Nat.zero_le _, rfl, fun j h _ => by omega, Below.refl _ _⟩
  case round =>
    obtain ⟨k, hk, rfl, hpal, hbel⟩ := hrel
    have HP := Lib.hid hpal
    clear hpal
    by_cases hlt : k < L.length
    · obtain ⟨b, off, rfl, hbs, hc⟩ := hr.open (by intro h; rw [List.map_eq_nil_iff] at h; subst h; simp at hlt)
      obtain ⟨j, hj1, hj2⟩ : ∃ j, j ≤ L.length - 1 - k ∧ L.length - 1 - k ≤ j := ⟨_, Nat.le_refl _, Nat.le_refl _⟩
      have hjl : j < L.length := by omega
      have HJ : Hid (L.length - 1 - k = j) := Lib.hid (by omega)
      have hlti : (k : Int) < (L.length : Int) := by omega
      have hk0 : (0 : Int) ≤ (k : Int) := by omega
      have hj0 : (0 : Int) ≤ (j : Int) := by omega
      have hjli : (j : Int) < (L.length : Int) := by omega
      have hcell : wr.cell? ⟨b, off + k, none⟩ = some (.int .i64 L[k]) := by rw [hbel.cell (p := ⟨b, off + k, none⟩) hbs]; exact hc k _ (by simp [hlt])
      have hcell2 : wr.cell? ⟨b, off + j, none⟩ = some (.int .i64 L[j]) := by rw [hbel.cell (p := ⟨b, off + j, none⟩) hbs]; exact hc j _ (by simp [hjl])
      have hw1 : IntKind.i64.wrap ((L.length : Int) - 1) = (L.length : Int) - 1 := IntWalk.i64_in _ (by omega)
      have hw2 : IntKind.i64.wrap ((L.length : Int) - 1 - (k : Int)) = (j : Int) := by rw [IntWalk.i64_in _ (by omega)]; omega
      clear hc hr
      by_cases he : L[k] = L[j]
      · have HS : Hid (∀ i (_ : i < k + 1) (hi : i < L.length), L[i] = L[L.length - 1 - i]) := Lib.hid (fun i hi hil => by
          by_cases e : i < k
          · exact HP.out i e hil
          · obtain rfl : i = k := by omega
            simp only [HJ.out]; exact he)
        have hq : (L[k] == L[j]) = true := by rw [beq_iff_eq]; exact he
        have hq2 : (L[k] != L[j]) = false := by rw [bne, hq]; rfl
        clear he
        generalize L[k] = x at *
        generalize L[j] = y at *
        go_wp2_with fail
        go_quiet (fail)
        go_wp2_with fail
        go_roundw
        case rel => exact ⟨k + 1, by omega, by go_num, HS.out, by first | exact hbel | exact below_drewN hbel _⟩
        case measure => simp [intOf]; omega
      · have HR := Lib.hid (pal_false hlt (by simp only [HJ.out]; exact he))
        have hq : (L[k] == L[j]) = false := by rw [beq_eq_false_iff_ne]; exact he
        have hq2 : (L[k] != L[j]) = true := by rw [bne, hq]; rfl
        clear he
        generalize L[k] = x at *
        generalize L[j] = y at *
        go_wp2_with fail
        go_quiet (fail)
        go_wp2_with fail
        go_ret
        exact ⟨by rw [HR.out]; rfl, by first | exact hbel | exact below_drewN hbel _⟩
    · have HR := Lib.hid (pal_true (L := L) (fun j hj => HP.out j (by omega) hj))
      clear hr
      go_wp2_with fail
      go_ret
      exact ⟨by rw [HR.out]; rfl, hbel⟩
end Go.Proofs.Ytlinlmmcgifloaa
