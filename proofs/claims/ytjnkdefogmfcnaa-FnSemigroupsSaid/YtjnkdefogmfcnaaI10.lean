/-
  CONTRACTS of the program's chapter 3, third part: slices.Index, Contains, Equal at its types; has; elementsOf; IsSemigroup, Contains, MultiplicityOf, DimensionOf, EqualSemigroup.
-/
import Derived.Test.YtjnkdefogmfcnaaI9
import Derived.Test.YtjnkdefogmfcnaaL12
namespace Go.Proofs.Ytjnkdefogmfcnaa
open Go Go.RowKit

/-- All of the first n are true. -/
def allT (f : Nat → Bool) (n : Nat) : Bool := (List.range n).all f
theorem allT_true {f : Nat → Bool} {n : Nat} : allT f n = true ↔ ∀ j, j < n → f j = true := by
  unfold allT; rw [List.all_eq_true]
  exact ⟨fun h j hj => h j (List.mem_range.2 hj), fun h j hj => h j (List.mem_range.1 hj)⟩
def IdxPost (f : Nat → Bool) (n : Nat) (w : World) (e : Ending) (w' : World) : Prop :=
  ∃ r : Int, e = .returned (.int .i64 r) ∧ decide (0 ≤ r) = !(allT f n) ∧ w' = w

set_option maxRecDepth 100000 in
set_option maxHeartbeats 400000 in
theorem impl_idxFalse (f : Nat → Bool) (g o n cap : Nat) (w : World) (hc : ∀ j, j < n → w.cell? ⟨g, o + j, none⟩ = some (.bool (f j))) (hn : n ≤ 100000) :
    Calls Try.prog 81 #[.slice (some ⟨g, o, none⟩) n cap, .bool false] w (IdxPost f n w) := by
  have HC := Lib.hid hc
  clear hc
  go_enter Try.func81, Try.ntmps81
  go_wp2_with fail
  go_loop [8] (fun i => ∃ k : Nat, k ≤ n ∧ i = .int .i64 (k : Int) ∧ ∀ j, j < k → f j = true) (fun i => n - (intOf i).toNat)
  case atStart => exact ⟨0, Nat.zero_le _, rfl, fun j h => by omega⟩
  case round =>
    obtain ⟨k, hk, rfl, hal⟩ := hrel
    have HA := Lib.hid hal
    clear hal
    by_cases hlt : k < n
    · have hcell := HC.out k hlt
      have hk0 : (0 : Int) ≤ (k : Int) := by omega
      have hk1 : (k : Int) < (n : Int) := by omega
      cases hf : f k
      · have HR : Hid (decide ((0 : Int) ≤ (k : Int)) = !(allT f n)) := Lib.hid (by
          rw [decide_eq_true hk0]
          cases h : allT f n
          · rfl
          · have := allT_true.1 h k hlt; rw [hf] at this; cases this)
        rw [hf] at hcell
        clear hf
        go_wp2_with fail
        go_ret
        exact ⟨_, rfl, HR.out, rfl⟩
      · have HN : Hid (∀ j, j < k + 1 → f j = true) := Lib.hid (fun j h => by
          by_cases e : j < k
          · exact HA.out j e
          · obtain rfl : j = k := by omega
            exact hf)
        rw [hf] at hcell
        clear hf
        go_wp2_with fail
        go_round
        case rel => exact ⟨k + 1, by omega, by go_num, HN.out⟩
        case measure => simp [intOf]; omega
    · obtain rfl : k = n := by omega
      have HR : Hid (decide ((0 : Int) ≤ -1) = !(allT f k)) := Lib.hid (by rw [allT_true.2 HA.out]; rfl)
      have hnl : ¬ (k : Int) < (k : Int) := by omega
      go_wp2_with fail
      go_ret
      exact ⟨-1, rfl, HR.out, rfl⟩

set_option maxRecDepth 100000 in
set_option maxHeartbeats 400000 in
theorem impl_hasFalse (f : Nat → Bool) (g o n cap : Nat) (w : World) (hc : ∀ j, j < n → w.cell? ⟨g, o + j, none⟩ = some (.bool (f j))) (hn : n ≤ 100000) :
    Calls Try.prog 72 #[.slice (some ⟨g, o, none⟩) n cap, .bool false] w fun e w' => e = .returned (.bool (!(allT f n))) ∧ w' = w := by
  have c := impl_idxFalse f g o n cap w hc hn
  clear hc
  generalize hq : (!(allT f n)) = q at *
  go_enter Try.func72, Try.ntmps72
  go_wp2_with fail
  refine c.mono ?_
  rintro e w' ⟨r, rfl, hr, rfl⟩
  rw [hq] at hr
  have HR := Lib.hid hr
  clear hr c hq
  go_wp2_with fail
  go_ret
  exact ⟨by rw [← HR.out]; simp, rfl⟩

set_option maxRecDepth 100000 in
set_option maxHeartbeats 400000 in
/-- slices.Equal: whether the two lists are equal. -/
theorem impl_same (L M : List Int) (a c : Option Addr) (cap cap2 : Nat) (w : World) (hr : SlV w a (L.map (Value.int .i64))) (hs : SlV w c (M.map (Value.int .i64))) (hb : L.length ≤ 4611686018427387904) (hb2 : M.length ≤ 4611686018427387904) :
    Calls Try.prog 61 #[.slice a L.length cap, .slice c M.length cap2] w fun e w' => e = .returned (.bool (decide (L = M))) ∧ Below w.heap.size w w' := by
  by_cases hlen : L.length = M.length
  · have hne : ((L.length : Int) != (M.length : Int)) = false := by simp [hlen]
    have HL := Lib.hid hlen
    clear hlen
    go_enter Try.func61, Try.ntmps61
    go_wp2_with fail
    go_loopw [13] (fun i wr => ∃ k : Nat, k ≤ L.length ∧ i = .int .i64 (k : Int) ∧ (∀ j, j < k → L[j]? = M[j]?) ∧ Below w.heap.size w wr) (fun i _ => L.length - (intOf i).toNat)
    case atStart => exact ⟨0, Nat.zero_le _, rfl, fun j h => by omega, Below.refl _ _⟩
    case round =>
      obtain ⟨k, hk, rfl, heq, hbel⟩ := hrel
      have HE := Lib.hid heq
      clear heq
      by_cases hlt : k < L.length
      · have hltM : k < M.length := by have := HL.out; omega
        obtain ⟨b, off, rfl, hbs, hc⟩ := hr.open (by intro h; rw [List.map_eq_nil_iff] at h; subst h; simp at hlt)
        obtain ⟨b2, off2, rfl, hbs2, hc2⟩ := hs.open (by intro h; rw [List.map_eq_nil_iff] at h; subst h; simp at hltM)
        have hcell : wr.cell? ⟨b, off + k, none⟩ = some ((Value.int .i64) L[k]) := by rw [hbel.cell (p := ⟨b, off + k, none⟩) hbs]; exact hc k _ (by simp [hlt])
        have hcell2 : wr.cell? ⟨b2, off2 + k, none⟩ = some ((Value.int .i64) M[k]) := by rw [hbel.cell (p := ⟨b2, off2 + k, none⟩) hbs2]; exact hc2 k _ (by simp [hltM])
        clear hc hc2 hr hs
        have hx0 : (0 : Int) ≤ (k : Int) := by omega
        have hx1 : (k : Int) < (L.length : Int) := by omega
        have hx2 : (k : Int) < (M.length : Int) := by omega
        by_cases he : L[k] = M[k]
        · have HEQ := Lib.hid (show L[k]? = M[k]? by rw [List.getElem?_eq_getElem hlt, List.getElem?_eq_getElem hltM, he])
          rw [← he] at hcell2
          clear he
          generalize L[k] = x at *
          go_wp2_with fail
          go_quiet (fail)
          go_wp2_with fail
          go_roundw
          case rel => exact ⟨k + 1, by omega, by go_num, (fun j hj => by
            by_cases h : j < k
            · exact HE.out j h
            · obtain rfl : j = k := by omega
              exact HEQ.out), by first | exact hbel | exact below_drewN hbel _⟩
          case measure => simp [intOf]; omega
        · have HNE := Lib.hid (decide_eq_false (p := L = M) (fun h => he (by subst h; rfl)))
          have hne2 : (L[k] != M[k]) = true := by rw [bne_iff_ne]; exact he
          clear he
          generalize L[k] = x at *
          generalize M[k] = y at *
          go_wp2_with fail
          go_quiet (fail)
          go_wp2_with fail
          go_ret
          exact ⟨by rw [HNE.out]; rfl, by first | exact hbel | exact below_drewN hbel _⟩
      · obtain rfl : k = L.length := by omega
        have HEQ := Lib.hid (decide_eq_true (p := L = M) (by
          apply List.ext_getElem? 
          intro j
          by_cases hj : j < L.length
          · exact HE.out j hj
          · rw [List.getElem?_eq_none (by omega), List.getElem?_eq_none (by have := HL.out; omega)]))
        clear hr hs
        go_wp2_with fail
        go_ret
        exact ⟨by rw [HEQ.out]; rfl, hbel⟩
  · have hne : ((L.length : Int) != (M.length : Int)) = true := by simp; omega
    have HNE := Lib.hid (decide_eq_false (p := L = M) (fun h => hlen (by rw [h])))
    clear hlen
    go_enter Try.func61, Try.ntmps61
    go_wp2_with fail
    go_ret
    exact ⟨by rw [HNE.out]; rfl, Below.refl _ _⟩

set_option maxRecDepth 100000 in
set_option maxHeartbeats 400000 in
theorem impl_EqualSemigroup (L M : List Int) (a c : Option Addr) (cap cap2 : Nat) (w : World) (hr : SlV w a (L.map (Value.int .i64))) (hs : SlV w c (M.map (Value.int .i64))) (hb : L.length ≤ 4611686018427387904) (hb2 : M.length ≤ 4611686018427387904) :
    Calls Try.prog 26 #[.agg #[.slice a L.length cap], .agg #[.slice c M.length cap2]] w fun e w' => e = .returned (.bool (decide (L = M))) ∧ Below w.heap.size w w' := by
  have hb0 : Below w.heap.size w ((w.alloc (.cells #[.slice a L.length cap] 28)).alloc (.cells #[.slice c M.length cap2] 28)) := ((Below.refl _ _).alloc (Nat.le_refl _) _).alloc (by simp) _
  have c1 := impl_same L M a c cap cap2 _ (hr.below hb0) (hs.below hb0) hb hb2
  clear hr hs
  generalize decide (L = M) = q at *
  go_enter Try.func26, Try.ntmps26
  go_wp2_with fail
  refine c1.mono ?_
  rintro e w1 ⟨rfl, hb1⟩
  have hbz := hb0.trans (hb1.mono hb0.size)
  go_wp2_with fail
  go_ret
  exact ⟨rfl, hbz⟩

set_option maxRecDepth 100000 in
set_option maxHeartbeats 400000 in
theorem impl_has (f : Nat → Bool) (n : Int) (q : Bool) (w : World) (hq : q = if 200 ≤ n then true else if 0 ≤ n then f n.toNat else false) :
    Calls Try.prog 56 #[.agg (tabB f 260).toArray, .int .i64 n] w fun e w' => e = .returned (.bool q) ∧ Below w.heap.size w w' := by
  have hA := Arr.new w 60 (tabB f 260)
  have hb0 := box_below w (.cells (tabB f 260).toArray 60)
  by_cases h2 : 200 ≤ n
  · obtain rfl : q = true := by rw [hq, if_pos h2]
    clear hq hA
    go_enter Try.func56, Try.ntmps56
    go_wp2_with (refine wpList_box_arr 60 (.tmp 0) (tabB f 260) rfl rfl rfl ?_)
    go_ret
    exact ⟨rfl, hb0⟩
  · by_cases h0 : 0 ≤ n
    · obtain ⟨N, rfl⟩ := Int.eq_ofNat_of_zero_le h0
      obtain rfl : q = f N := by rw [hq, if_neg h2, if_pos h0]; simp
      have hc := (hA.cell N).trans (tabB_get f 260 N (by omega))
      have hlt : (N : Int) < 260 := by omega
      clear hq hA
      generalize f N = b at *
      go_enter Try.func56, Try.ntmps56
      go_wp2_with (refine wpList_box_arr 60 (.tmp 0) (tabB f 260) rfl rfl rfl ?_)
      go_ret
      exact ⟨rfl, hb0⟩
    · obtain rfl : q = false := by rw [hq, if_neg h2, if_neg h0]
      clear hq hA
      go_enter Try.func56, Try.ntmps56
      go_wp2_with (refine wpList_box_arr 60 (.tmp 0) (tabB f 260) rfl rfl rfl ?_)
      go_ret
      exact ⟨rfl, hb0⟩
end Go.Proofs.Ytjnkdefogmfcnaa
