/-
  CONTRACTS of the program's IsAscending.
-/
import Derived.Test.YtjahmlaocgcjpaaGreatDoorI2
namespace Go.Proofs.YtjahmlaocgcjpaaGreatDoor
open Go Go.RowKit

set_option maxRecDepth 100000 in
set_option maxHeartbeats 400000 in
theorem impl_IsAscending (L : List Int) (a : Option Addr) (cap : Nat) (w : World) (hr : SlV w a (L.map (Value.int .i64))) (hb : L.length ≤ maxLen) :
    Calls Tryz.prog 26 #[.slice a L.length cap] w fun e w' => e = .returned (.bool (ascB L)) ∧ Below w.heap.size w w' := by
  unfold maxLen at hb
  go_enter Tryz.func26, Tryz.ntmps26
  go_wp2_with fail
  go_loopw [3] (fun i wr => ∃ k : Nat, (k ≤ L.length ∨ k = 1) ∧ 1 ≤ k ∧ i = .int .i64 (k : Int) ∧ (∀ (j : Nat) (hj : j + 1 < L.length), j + 1 < k → L[j] < L[j + 1]) ∧ Below w.heap.size w wr) (fun i _ => L.length - (intOf i).toNat)
  case atStart => exact ⟨1, .inr rfl, Nat.le_refl _, rfl, fun j hj h => by omega, Below.refl _ _⟩
  case round =>
    obtain ⟨k, hk, hk1, rfl, hasc, hbel⟩ := hrel
    have HA := Lib.hid hasc
    clear hasc
    by_cases hlt : k < L.length
    · obtain ⟨b, off, rfl, hbs, hc⟩ := hr.open (by intro h; rw [List.map_eq_nil_iff] at h; subst h; simp at hlt)
      have hk' : k - 1 < L.length := by omega
      have hcell : wr.cell? ⟨b, off + k, none⟩ = some (.int .i64 L[k]) := by rw [hbel.cell (p := ⟨b, off + k, none⟩) hbs]; exact hc k _ (by simp [hlt])
      have hcell2 : wr.cell? ⟨b, off + (k - 1), none⟩ = some (.int .i64 L[k - 1]) := by rw [hbel.cell (p := ⟨b, off + (k - 1), none⟩) hbs]; exact hc (k - 1) _ (by simp [hk'])
      have hx0 : (0 : Int) ≤ (k : Int) := by omega
      have hx1 : (k : Int) < (L.length : Int) := by omega
      have hx2 : (0 : Int) ≤ (k : Int) - 1 := by omega
      have hx3 : (k : Int) - 1 < (L.length : Int) := by omega
      have hw1 : IntKind.i64.wrap ((k : Int) - 1) = (k : Int) - 1 := IntWalk.i64_in _ (by omega)
      have ht1 : ((k : Int) - 1).toNat = k - 1 := by omega
      clear hc hr
      by_cases hle : L[k] ≤ L[k - 1]
      · have HR := Lib.hid (ascB_false (L := L) (by
          intro h
          have h1 := h (k - 1) (by omega)
          have e : L[k - 1 + 1] = L[k] := by congr 1; omega
          omega))
        have hq : decide (L[k] ≤ L[k - 1]) = true := decide_eq_true hle
        generalize L[k] = x at *
        generalize L[k - 1] = y at *
        go_wp2_with fail
        go_quiet (fail)
        go_wp2_with fail
        go_ret
        exact ⟨by rw [HR.out]; rfl, by first | exact hbel | exact below_drewN hbel _⟩
      · have hq : decide (L[k] ≤ L[k - 1]) = false := decide_eq_false hle
        have HL := Lib.hid hle
        clear hle
        have HS : Hid (∀ (j : Nat) (hj : j + 1 < L.length), j + 1 < k + 1 → L[j] < L[j + 1]) := Lib.hid (fun j hj h => by
          by_cases e : j + 1 < k
          · exact HA.out j hj e
          · obtain rfl : k = j + 1 := by omega
            have := HL.out
            have e2 : L[j + 1 - 1] = L[j] := by congr 1
            omega)
        generalize L[k] = x at *
        generalize L[k - 1] = y at *
        go_wp2_with fail
        go_quiet (fail)
        go_wp2_with fail
        go_roundw
        case rel => exact ⟨k + 1, .inl (by omega), by omega, by go_num, HS.out, by first | exact hbel | exact below_drewN hbel _⟩
        case measure => simp [intOf]; omega
    · have HR := Lib.hid (ascB_true (L := L) (fun j hj => HA.out j hj (by omega)))
      clear hr
      go_wp2_with fail
      go_ret
      exact ⟨by rw [HR.out]; rfl, hbel⟩
end Go.Proofs.YtjahmlaocgcjpaaGreatDoor
