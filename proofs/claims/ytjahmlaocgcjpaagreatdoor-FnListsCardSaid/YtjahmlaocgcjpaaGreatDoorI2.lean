/-
  CONTRACTS of the program's chapter 2, first half: isWithinMax, magnitude, GcdOf, GcdOfList, IsAscending, areSummands.
-/
import Derived.Test.YtjahmlaocgcjpaaGreatDoorL2
namespace Go.Proofs.YtjahmlaocgcjpaaGreatDoor
open Go Go.RowKit

set_option maxRecDepth 100000 in
theorem impl_isWithinMax (x : Int) (w : World) : Calls Tryz.prog 36 #[.int .i64 x] w fun e w' => e = .returned (.bool (small x)) ∧ w' = w := by
  rw [small_in]
  by_cases h0 : -1000000 ≤ x
  · by_cases h1 : x ≤ 1000000
    · rw [inB_mk h0 h1]
      go_enter Tryz.func36, Tryz.ntmps36
      go_wp2_with fail
      go_ret
      exact ⟨rfl, rfl⟩
    · rw [inB_no (by omega)]
      have h1' : ¬ x ≤ 1000000 := h1
      go_enter Tryz.func36, Tryz.ntmps36
      go_wp2_with fail
      go_ret
      exact ⟨rfl, rfl⟩
  · rw [inB_no (by omega)]
    go_enter Tryz.func36, Tryz.ntmps36
    go_wp2_with fail
    go_ret
    exact ⟨rfl, rfl⟩

theorem impl_magnitude (x : Int) (h0 : -1000000 ≤ x) (h1 : x ≤ 1000000) (w : World) : Calls Tryz.prog 37 #[.int .i64 x] w fun e w' => e = .returned (.int .i64 (x.natAbs : Int)) ∧ w' = w := by
  by_cases h : x < 0
  · obtain ⟨n, hn⟩ := Int.eq_ofNat_of_zero_le (show 0 ≤ -x by omega)
    obtain rfl : x = -(n : Int) := by omega
    go_enter Tryz.func37, Tryz.ntmps37
    go_wp2_with fail
    go_ret
    exact ⟨by first | (simp; done) | (simp; rfl), rfl⟩
  · obtain ⟨n, rfl⟩ := Int.eq_ofNat_of_zero_le (show 0 ≤ x by omega)
    go_enter Tryz.func37, Tryz.ntmps37
    go_wp2_with fail
    go_ret
    exact ⟨by first | (simp; done) | (simp; rfl), rfl⟩

theorem gcd_step0 (m n : Nat) : Nat.gcd (n % m) m = Nat.gcd m n := (Nat.gcd_rec m n).symm

set_option maxRecDepth 100000 in
set_option maxHeartbeats 400000 in
theorem impl_GcdOf (a b : Int) (w : World) : Calls Tryz.prog 6 #[.int .i64 a, .int .i64 b] w fun e w' => e = .returned (.int .i64 (gcdOf a b)) ∧ Below w.heap.size w w' := by
  have ca := fun w => impl_isWithinMax a w
  have cb := fun w => impl_isWithinMax b w
  cases hsa : small a
  · rw [gcdOf_out (.inl hsa)]
    rw [hsa] at ca
    clear hsa cb
    go_enter Tryz.func6, Tryz.ntmps6
    go_wp2_with fail
    refine (ca _).mono ?_
    rintro e w' ⟨rfl, rfl⟩
    go_wp2_with fail
    go_ret
    exact ⟨rfl, Below.refl _ _⟩
  · cases hsb : small b
    · rw [gcdOf_out (.inr hsb)]
      rw [hsa] at ca
      rw [hsb] at cb
      clear hsa hsb
      go_enter Tryz.func6, Tryz.ntmps6
      go_wp2_with fail
      refine (ca _).mono ?_
      rintro e w' ⟨rfl, rfl⟩
      go_wp2_with fail
      refine (cb _).mono ?_
      rintro e w' ⟨rfl, rfl⟩
      go_wp2_with fail
      go_ret
      exact ⟨rfl, Below.refl _ _⟩
    · rw [gcdOf_in hsa hsb]
      obtain ⟨a0, a1⟩ := small_iff.1 hsa
      obtain ⟨b0, b1⟩ := small_iff.1 hsb
      have ma := fun w => impl_magnitude a a0 a1 w
      have mb := fun w => impl_magnitude b b0 b1 w
      have na : a.natAbs ≤ 1000000 := by omega
      have nb : b.natAbs ≤ 1000000 := by omega
      rw [hsa] at ca
      rw [hsb] at cb
      clear hsa hsb
      generalize a.natAbs = p at *
      generalize b.natAbs = q at *
      go_enter Tryz.func6, Tryz.ntmps6
      go_wp2_with fail
      refine (ca _).mono ?_
      rintro e w' ⟨rfl, rfl⟩
      go_wp2_with fail
      refine (cb _).mono ?_
      rintro e w' ⟨rfl, rfl⟩
      go_wp2_with fail
      refine (ma _).mono ?_
      rintro e w' ⟨rfl, rfl⟩
      go_wp2_with fail
      refine (mb _).mono ?_
      rintro e w' ⟨rfl, rfl⟩
      clear ca cb ma mb a0 a1 b0 b1
      go_wp2_with fail
      go_loopw [0, 1] (fun x y wr => ∃ m n : Nat, m ≤ 1000000 ∧ n ≤ 1000000 ∧ x = .int .i64 (m : Int) ∧ y = .int .i64 (n : Int) ∧ Nat.gcd m n = Nat.gcd p q ∧ Below w'.heap.size w' wr) (fun x _ _ => (intOf x).toNat)
      case atStart => exact ⟨p, q, na, nb, rfl, rfl, rfl, Below.refl _ _⟩
      case round =>
        obtain ⟨m, n, hm, hn, rfl, rfl, hg, hbel⟩ := hrel
        have HG := Lib.hid hg
        clear hg
        by_cases h0 : m = 0
        · subst h0
          go_wp2_with fail
          go_ret
          exact ⟨by rw [← HG.out, Nat.gcd_zero_left]; rfl, hbel⟩
        · have hp : 0 < m := by omega
          have hp2 : 1 ≤ m := hp
          have hne : ((m : Int) != 0) = true := by simp; omega
          go_wp2_with fail
          go_roundw
          case rel => exact ⟨n % m, m, by have := Nat.mod_lt n hp; omega, hm, by go_num, rfl, by rw [gcd_step0]; exact HG.out, by first | exact hbel | exact below_drewN hbel _⟩
          case measure => simp [intOf]; have := Nat.mod_lt n hp; omega
end Go.Proofs.YtjahmlaocgcjpaaGreatDoor
