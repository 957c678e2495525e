/-
  CONTRACTS of the reference's chapter 2: lists of numbers.
-/
import Derived.Test.YtjahmlaocgcjpaaGreatDoorListM
import Derived.Test.YtjahmlaocgcjpaaGreatDoorSl
import Derived.WalkKit
import Derived.WalkLawsBesides
import Derived.BigQuiet
import Derived.Deep.QuietTactic
import Derived.Outline
namespace Go.Proofs.YtjahmlaocgcjpaaGreatDoor
open Go Go.RowKit

def inB (x lo hi : Int) : Bool := decide (lo ≤ x) && decide (x ≤ hi)
theorem inB_true {x lo hi : Int} (h : inB x lo hi = true) : lo ≤ x ∧ x ≤ hi := by simpa [inB] using h
theorem inB_false {x lo hi : Int} (h : inB x lo hi = false) : x < lo ∨ hi < x := by
  simp [inB] at h; omega
theorem inB_mk {x lo hi : Int} (h : lo ≤ x) (h2 : x ≤ hi) : inB x lo hi = true := by simp [inB, h, h2]
theorem inB_no {x lo hi : Int} (h : x < lo ∨ hi < x) : inB x lo hi = false := by simp [inB]; omega
theorem small_in (x : Int) : small x = inB x (-1000000) 1000000 := rfl

set_option maxRecDepth 100000 in
theorem l1In_any (x lo hi : Int) (w : World) : Calls Tryz.prog 65 #[.int .i64 x, .int .i64 lo, .int .i64 hi] w fun e w' => e = .returned (.bool (inB x lo hi)) ∧ w' = w := by
  by_cases h0 : lo ≤ x
  · by_cases h1 : x ≤ hi
    · rw [inB_mk h0 h1]
      go_enter Tryz.func65, Tryz.ntmps65
      go_wp2_with fail
      go_ret
      exact ⟨rfl, rfl⟩
    · rw [inB_no (by omega)]
      have h1' : ¬ x ≤ hi := h1
      go_enter Tryz.func65, Tryz.ntmps65
      go_wp2_with fail
      go_ret
      exact ⟨rfl, rfl⟩
  · rw [inB_no (by omega)]
    go_enter Tryz.func65, Tryz.ntmps65
    go_wp2_with fail
    go_ret
    exact ⟨rfl, rfl⟩

theorem l2Small_any (x : Int) (w : World) : Calls Tryz.prog 46 #[.int .i64 x] w fun e w' => e = .returned (.bool (small x)) ∧ w' = w := by
  rw [small_in]
  go_enter Tryz.func46, Tryz.ntmps46
  go_wp2_with fail
  refine (l1In_any _ _ _ _).mono ?_
  rintro e w' ⟨rfl, rfl⟩
  go_wp2_with fail
  go_ret
  exact ⟨rfl, rfl⟩

theorem l1Max_neg (x : Int) (h0 : -1000000 ≤ x) (h1 : x ≤ 1000000) (w : World) : Calls Tryz.prog 47 #[.int .i64 x, .int .i64 (-x)] w fun e w' => e = .returned (.int .i64 (x.natAbs : Int)) ∧ w' = w := by
  by_cases h : -x < x
  · obtain ⟨n, rfl⟩ := Int.eq_ofNat_of_zero_le (show 0 ≤ x by omega)
    go_enter Tryz.func47, Tryz.ntmps47
    go_wp2_with fail
    go_ret
    exact ⟨by first | (simp; done) | (simp; rfl), rfl⟩
  · obtain ⟨n, hn⟩ := Int.eq_ofNat_of_zero_le (show 0 ≤ -x by omega)
    obtain rfl : x = -(n : Int) := by omega
    go_enter Tryz.func47, Tryz.ntmps47
    go_wp2_with fail
    go_ret
    exact ⟨by first | (simp; done) | (simp; rfl), rfl⟩

set_option maxRecDepth 100000 in
set_option maxHeartbeats 400000 in
theorem spec_GcdOf (a b : Int) (w : World) : Calls Tryz.prog 16 #[.int .i64 a, .int .i64 b] w fun e w' => e = .returned (.int .i64 (gcdOf a b)) ∧ w' = w := by
  have ca := fun w => l2Small_any a w
  have cb := fun w => l2Small_any b w
  cases hsa : small a
  · rw [gcdOf_out (.inl hsa)]
    rw [hsa] at ca
    clear cb hsa
    go_enter Tryz.func16, Tryz.ntmps16
    go_wp2_with fail
    refine (ca _).mono ?_
    rintro e w' ⟨rfl, rfl⟩
    go_wp2_with fail
    go_ret
    exact ⟨rfl, rfl⟩
  · rw [hsa] at ca
    cases hsb : small b
    · rw [gcdOf_out (.inr hsb)]
      rw [hsb] at cb
      clear hsa hsb
      go_enter Tryz.func16, Tryz.ntmps16
      go_wp2_with fail
      refine (ca _).mono ?_
      rintro e w' ⟨rfl, rfl⟩
      go_wp2_with fail
      refine (cb _).mono ?_
      rintro e w' ⟨rfl, rfl⟩
      go_wp2_with fail
      go_ret
      exact ⟨rfl, rfl⟩
    · rw [gcdOf_in hsa hsb]
      rw [hsb] at cb
      obtain ⟨a0, a1⟩ := small_iff.1 hsa
      obtain ⟨b0, b1⟩ := small_iff.1 hsb
      have ma := l1Max_neg a a0 a1
      have mb := l1Max_neg b b0 b1
      have ha : a.natAbs ≤ 1000000 := by omega
      have hb : b.natAbs ≤ 1000000 := by omega
      clear hsa hsb
      generalize a.natAbs = x at *
      generalize b.natAbs = y at *
      go_enter Tryz.func16, Tryz.ntmps16
      go_wp2_with fail
      refine (ca _).mono ?_
      rintro e w' ⟨rfl, rfl⟩
      go_wp2_with fail
      refine (cb _).mono ?_
      rintro e w' ⟨rfl, rfl⟩
      go_wp2_with fail
      refine (ma _).mono ?_
      rintro e w' ⟨rfl, rfl⟩
      go_wp2_with fail
      refine (mb _).mono ?_
      rintro e w' ⟨rfl, rfl⟩
      clear ca cb ma mb a0 a1 b0 b1
      go_wp2_with fail
      go_loop [0, 1] (fun p q => ∃ (m n : Nat), m ≤ 1000000 ∧ n ≤ 1000000 ∧ p = .int .i64 (m : Int) ∧ q = .int .i64 (n : Int) ∧ Nat.gcd m n = Nat.gcd x y) (fun _ q => (intOf q).toNat)
      case atStart => exact ⟨x, y, ha, hb, rfl, rfl, rfl⟩
      case round =>
        obtain ⟨m, n, hm, hn, rfl, rfl, hg⟩ := hrel
        have HG := Lib.hid hg
        clear hg
        by_cases h0 : n = 0
        · subst h0
          go_wp2_with fail
          go_ret
          exact ⟨by rw [← HG.out, Nat.gcd_zero_right]; rfl, rfl⟩
        · have hp : 0 < n := by omega
          have hp2 : 1 ≤ n := hp
          go_wp2_with fail
          go_round
          case rel => exact ⟨n, m % n, hn, by have := Nat.mod_lt m hp; omega, rfl, by go_num, by rw [gcd_step]; exact HG.out⟩
          case measure => simp [intOf]; have := Nat.mod_lt m hp; omega

set_option maxRecDepth 100000 in
set_option maxHeartbeats 400000 in
theorem spec_GcdOfList (L : List Int) (a : Option Addr) (cap : Nat) (w : World) (hr : SlV w a (L.map (Value.int .i64))) (hb : L.length ≤ maxLen) :
    Calls Tryz.prog 28 #[.slice a L.length cap] w fun e w' => e = .returned (.int .i64 (gcdL L)) ∧ w' = w := by
  unfold maxLen at hb
  go_enter Tryz.func28, Tryz.ntmps28
  go_wp2_with fail
  go_loop [3, 4] (fun o i => ∃ k : Nat, k ≤ L.length ∧ i = .int .i64 (k : Int) ∧ o = .int .i64 (gcdL (L.take k))) (fun _ i => L.length - (intOf i).toNat)
  case atStart => exact ⟨0, Nat.zero_le _, rfl, rfl⟩
  case round =>
    obtain ⟨k, hk, rfl, rfl⟩ := hrel
    by_cases hlt : k < L.length
    · obtain ⟨b, off, rfl, hbs, hc⟩ := hr.open (by intro h; rw [List.map_eq_nil_iff] at h; subst h; simp at hlt)
      have hcell : w.cell? ⟨b, off + k, none⟩ = some (.int .i64 L[k]) := hc k _ (by simp [hlt])
      have HG := Lib.hid (gcdL_take L k hlt)
      clear hc hr
      generalize L[k] = x at *
      go_wp2_with fail
      refine (spec_GcdOf _ _ _).mono ?_
      rintro e w' ⟨rfl, rfl⟩
      go_wp2_with fail
      go_round
      case rel => exact ⟨k + 1, by omega, by go_num, by rw [HG.out]⟩
      case measure => simp [intOf]; omega
    · obtain rfl : k = L.length := by omega
      have HT := Lib.hid (List.take_of_length_le (Nat.le_refl L.length))
      clear hr
      go_wp2_with fail
      go_ret
      exact ⟨by rw [← HT.out]; simp, rfl⟩

/-- Is a number among them. -/
def hasB (L : List Int) (n : Int) : Bool := decide (n ∈ L)

set_option maxRecDepth 100000 in
set_option maxHeartbeats 400000 in
theorem spec_HasNumber (L : List Int) (n : Int) (a : Option Addr) (cap : Nat) (w : World) (hr : SlV w a (L.map (Value.int .i64))) (hb : L.length ≤ maxLen) :
    Calls Tryz.prog 25 #[.slice a L.length cap, .int .i64 n] w fun e w' => e = .returned (.bool (hasB L n)) ∧ w' = w := by
  unfold maxLen at hb
  go_enter Tryz.func25, Tryz.ntmps25
  go_wp2_with fail
  go_loop [5] (fun i => ∃ k : Nat, k ≤ L.length ∧ i = .int .i64 (k : Int) ∧ n ∉ L.take k) (fun i => L.length - (intOf i).toNat)
  case atStart => exact ⟨0, Nat.zero_le _, rfl, by simp⟩
  case round =>
    obtain ⟨k, hk, rfl, hno⟩ := hrel
    have HN := Lib.hid hno
    clear hno
    by_cases hlt : k < L.length
    · obtain ⟨b, off, rfl, hbs, hc⟩ := hr.open (by intro h; rw [List.map_eq_nil_iff] at h; subst h; simp at hlt)
      have hcell : w.cell? ⟨b, off + k, none⟩ = some (.int .i64 L[k]) := hc k _ (by simp [hlt])
      have HM := Lib.hid (List.getElem_mem hlt)
      have HT : Hid (L.take (k + 1) = L.take k ++ [L[k]]) := Lib.hid (by rw [List.take_add_one, List.getElem?_eq_getElem hlt]; rfl)
      clear hc hr
      by_cases he : L[k] = n
      · have HR := Lib.hid (show hasB L n = true from decide_eq_true (by rw [← he]; exact HM.out))
        have hq : (L[k] == n) = true := by rw [beq_iff_eq]; exact he
        clear he HM HT
        generalize L[k] = x at *
        go_wp2_with fail
        go_ret
        exact ⟨by rw [HR.out]; rfl, rfl⟩
      · have hq : (L[k] == n) = false := by rw [beq_eq_false_iff_ne]; exact he
        have HE := Lib.hid he
        clear he HM
        generalize L[k] = x at *
        go_wp2_with fail
        go_round
        case rel => exact ⟨k + 1, by omega, by go_num, by
          rw [HT.out, List.mem_append]
          rintro (h | h)
          · exact HN.out h
          · exact HE.out (List.mem_singleton.1 h).symm⟩
        case measure => simp [intOf]; omega
    · obtain rfl : k = L.length := by omega
      have HR := Lib.hid (show hasB L n = false from decide_eq_false (by have := HN.out; rw [List.take_of_length_le (Nat.le_refl _)] at this; exact this))
      clear hr
      go_wp2_with fail
      go_ret
      exact ⟨by rw [HR.out]; rfl, rfl⟩

/-- Each number is greater than the one before it. -/
def Next (L : List Int) : Prop := ∀ (k : Nat) (hk : k + 1 < L.length), L[k] < L[k + 1]
open Classical in
noncomputable def ascB (L : List Int) : Bool := if Next L then true else false
theorem ascB_true {L : List Int} (h : Next L) : ascB L = true := by unfold ascB; rw [if_pos h]
theorem ascB_false {L : List Int} (h : ¬ Next L) : ascB L = false := by unfold ascB; rw [if_neg h]
theorem asc_of_ascB {L : List Int} (h : ascB L = true) : Asc L := by
  unfold ascB at h
  split at h
  · rename_i hn; exact asc_of_next hn
  · cases h

set_option maxRecDepth 100000 in
set_option maxHeartbeats 400000 in
theorem spec_IsAscending (L : List Int) (a : Option Addr) (cap : Nat) (w : World) (hr : SlV w a (L.map (Value.int .i64))) (hb : L.length ≤ maxLen) :
    Calls Tryz.prog 19 #[.slice a L.length cap] w fun e w' => e = .returned (.bool (ascB L)) ∧ Below w.heap.size w w' := by
  unfold maxLen at hb
  go_enter Tryz.func19, Tryz.ntmps19
  go_wp2_with fail
  go_loopw [3] (fun i wr => ∃ k : Nat, (k ≤ L.length ∨ k = 1) ∧ 1 ≤ k ∧ i = .int .i64 (k : Int) ∧ (∀ (j : Nat) (hj : j + 1 < L.length), j + 1 < k → L[j] < L[j + 1]) ∧ Below w.heap.size w wr) (fun i _ => L.length - (intOf i).toNat)
  case atStart => exact ⟨1, .inr rfl, Nat.le_refl _, rfl, fun j hj h => by omega, Below.refl _ _⟩
  case round =>
    obtain ⟨k, hk, hk1, rfl, hasc, hbel⟩ := hrel
    have HA := Lib.hid hasc
    clear hasc
    by_cases hlt : k < L.length
    · obtain ⟨b, off, rfl, hbs, hc⟩ := hr.open (by intro h; rw [List.map_eq_nil_iff] at h; subst h; simp at hlt)
      have hk' : k - 1 < L.length := by omega
      have hcell : wr.cell? ⟨b, off + k, none⟩ = some (.int .i64 L[k]) := by rw [hbel.cell (p := ⟨b, off + k, none⟩) hbs]; exact hc k _ (by simp [hlt])
      have hcell2 : wr.cell? ⟨b, off + (k - 1), none⟩ = some (.int .i64 L[k - 1]) := by rw [hbel.cell (p := ⟨b, off + (k - 1), none⟩) hbs]; exact hc (k - 1) _ (by simp [hk'])
      have hx0 : (0 : Int) ≤ (k : Int) := by omega
      have hx1 : (k : Int) < (L.length : Int) := by omega
      have hx2 : (0 : Int) ≤ (k : Int) - 1 := by omega
      have hx3 : (k : Int) - 1 < (L.length : Int) := by omega
      have hw1 : IntKind.i64.wrap ((k : Int) - 1) = (k : Int) - 1 := IntWalk.i64_in _ (by omega)
      have ht1 : ((k : Int) - 1).toNat = k - 1 := by omega
      clear hc hr
      by_cases hle : L[k] ≤ L[k - 1]
      · have HR := Lib.hid (ascB_false (L := L) (by
          intro h
          have h1 := h (k - 1) (by omega)
          have e : L[k - 1 + 1] = L[k] := by congr 1; omega
          omega))
        have hq : decide (L[k] ≤ L[k - 1]) = true := decide_eq_true hle
        generalize L[k] = x at *
        generalize L[k - 1] = y at *
        go_wp2_with fail
        go_quiet (fail)
        go_wp2_with fail
        go_ret
        exact ⟨by rw [HR.out]; rfl, by first | exact hbel | exact below_drewN hbel _⟩
      · have hq : decide (L[k] ≤ L[k - 1]) = false := decide_eq_false hle
        have HL := Lib.hid hle
        clear hle
        have HS : Hid (∀ (j : Nat) (hj : j + 1 < L.length), j + 1 < k + 1 → L[j] < L[j + 1]) := Lib.hid (fun j hj h => by
          by_cases e : j + 1 < k
          · exact HA.out j hj e
          · obtain rfl : k = j + 1 := by omega
            have := HL.out
            have e2 : L[j + 1 - 1] = L[j] := by congr 1
            omega)
        generalize L[k] = x at *
        generalize L[k - 1] = y at *
        go_wp2_with fail
        go_quiet (fail)
        go_wp2_with fail
        go_roundw
        case rel => exact ⟨k + 1, .inl (by omega), by omega, by go_num, HS.out, by first | exact hbel | exact below_drewN hbel _⟩
        case measure => simp [intOf]; omega
    · have HR := Lib.hid (ascB_true (L := L) (fun j hj => HA.out j hj (by omega)))
      clear hr
      go_wp2_with fail
      go_ret
      exact ⟨by rw [HR.out]; rfl, hbel⟩
end Go.Proofs.YtjahmlaocgcjpaaGreatDoor
