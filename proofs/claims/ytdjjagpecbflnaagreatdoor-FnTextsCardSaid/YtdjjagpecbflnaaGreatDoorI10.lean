/-
  CONTRACTS of the program's chapter 3, third part: slices.Index, Contains, Equal at its types; has; elementsOf; IsSemigroup, Contains, MultiplicityOf, DimensionOf, EqualSemigroup.
-/
import Derived.Test.YtdjjagpecbflnaaGreatDoorI9
import Derived.Test.YtdjjagpecbflnaaGreatDoorL12
namespace Go.Proofs.YtdjjagpecbflnaaGreatDoor
open Go Go.RowKit

/-- All of the first n are true. -/
def allT (f : Nat → Bool) (n : Nat) : Bool := (List.range n).all f
theorem allT_true {f : Nat → Bool} {n : Nat} : allT f n = true ↔ ∀ j, j < n → f j = true := by
  unfold allT; rw [List.all_eq_true]
  exact ⟨fun h j hj => h j (List.mem_range.2 hj), fun h j hj => h j (List.mem_range.1 hj)⟩
def IdxPost (f : Nat → Bool) (n : Nat) (w : World) (e : Ending) (w' : World) : Prop :=
  ∃ r : Int, e = .returned (.int .i64 r) ∧ decide (0 ≤ r) = !(allT f n) ∧ w' = w

set_option maxRecDepth 100000 in
set_option maxHeartbeats 400000 in
theorem impl_idxFalse (f : Nat → Bool) (g o n cap : Nat) (w : World) (hc : ∀ j, j < n → w.cell? ⟨g, o + j, none⟩ = some (.bool (f j))) (hn : n ≤ 100000) :
    Calls Tryz.prog 84 #[.slice (some ⟨g, o, none⟩) n cap, .bool false] w (IdxPost f n w) := by
  have HC := Lib.hid hc
  clear hc
  go_enter Tryz.func84, Tryz.ntmps84
  go_wp2_with fail
  go_loop [8] (fun i => ∃ k : Nat, k ≤ n ∧ i = .int .i64 (k : Int) ∧ ∀ j, j < k → f j = true) (fun i => n - (intOf i).toNat)
  case atStart => exact ⟨0, Nat.zero_le _, rfl, fun j h => by omega⟩
  case round =>
    obtain ⟨k, hk, rfl, hal⟩ := hrel
    have HA := Lib.hid hal
    clear hal
    by_cases hlt : k < n
    · have hcell := HC.out k hlt
      have hk0 : (0 : Int) ≤ (k : Int) := by omega
      have hk1 : (k : Int) < (n : Int) := by omega
      cases hf : f k
      · have HR : Hid (decide ((0 : Int) ≤ (k : Int)) = !(allT f n)) := Lib.hid (by
          rw [decide_eq_true hk0]
          cases h : allT f n
          · rfl
          · have := allT_true.1 h k hlt; rw [hf] at this; cases this)
        rw [hf] at hcell
        clear hf
        go_wp2_with fail
        go_ret
        exact ⟨_, rfl, HR.out, rfl⟩
      · have HN : Hid (∀ j, j < k + 1 → f j = true) := Lib.hid (fun j h => by
          by_cases e : j < k
          · exact HA.out j e
          · obtain rfl : j = k := by omega
            exact hf)
        rw [hf] at hcell
        clear hf
        go_wp2_with fail
        go_round
        case rel => exact ⟨k + 1, by omega, by go_num, HN.out⟩
        case measure => simp [intOf]; omega
    · obtain rfl : k = n := by omega
      have HR : Hid (decide ((0 : Int) ≤ -1) = !(allT f k)) := Lib.hid (by rw [allT_true.2 HA.out]; rfl)
      have hnl : ¬ (k : Int) < (k : Int) := by omega
      go_wp2_with fail
      go_ret
      exact ⟨-1, rfl, HR.out, rfl⟩

set_option maxRecDepth 100000 in
set_option maxHeartbeats 400000 in
theorem impl_hasFalse (f : Nat → Bool) (g o n cap : Nat) (w : World) (hc : ∀ j, j < n → w.cell? ⟨g, o + j, none⟩ = some (.bool (f j))) (hn : n ≤ 100000) :
    Calls Tryz.prog 70 #[.slice (some ⟨g, o, none⟩) n cap, .bool false] w fun e w' => e = .returned (.bool (!(allT f n))) ∧ w' = w := by
  have c := impl_idxFalse f g o n cap w hc hn
  clear hc
  generalize hq : (!(allT f n)) = q at *
  go_enter Tryz.func70, Tryz.ntmps70
  go_wp2_with fail
  refine c.mono ?_
  rintro e w' ⟨r, rfl, hr, rfl⟩
  rw [hq] at hr
  have HR := Lib.hid hr
  clear hr c hq
  go_wp2_with fail
  go_ret
  exact ⟨by rw [← HR.out]; simp, rfl⟩



end Go.Proofs.YtdjjagpecbflnaaGreatDoor
