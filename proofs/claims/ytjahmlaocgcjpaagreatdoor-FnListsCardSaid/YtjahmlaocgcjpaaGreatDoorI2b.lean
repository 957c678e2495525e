/-
  CONTRACTS of the program's GcdOfList, areSummands.
-/
import Derived.Test.YtjahmlaocgcjpaaGreatDoorI2
import Derived.Test.YtjahmlaocgcjpaaGreatDoorL4
namespace Go.Proofs.YtjahmlaocgcjpaaGreatDoor
open Go Go.RowKit

set_option maxRecDepth 100000 in
set_option maxHeartbeats 400000 in
theorem impl_GcdOfList (L : List Int) (a : Option Addr) (cap : Nat) (w : World) (hr : SlV w a (L.map (Value.int .i64))) (hb : L.length ≤ maxLen) :
    Calls Tryz.prog 27 #[.slice a L.length cap] w fun e w' => e = .returned (.int .i64 (gcdL L)) ∧ Below w.heap.size w w' := by
  unfold maxLen at hb
  go_enter Tryz.func27, Tryz.ntmps27
  go_wp2_with fail
  go_loopw [3, 8] (fun o i wr => ∃ k : Nat, k ≤ L.length ∧ i = .int .i64 (k : Int) ∧ o = .int .i64 (gcdL (L.take k)) ∧ Below w.heap.size w wr) (fun _ i _ => L.length - (intOf i).toNat)
  case atStart => exact ⟨0, Nat.zero_le _, rfl, rfl, Below.refl _ _⟩
  case round =>
    obtain ⟨k, hk, rfl, rfl, hbel⟩ := hrel
    by_cases hlt : k < L.length
    · obtain ⟨b, off, rfl, hbs, hc⟩ := hr.open (by intro h; rw [List.map_eq_nil_iff] at h; subst h; simp at hlt)
      have hcell : wr.cell? ⟨b, off + k, none⟩ = some (.int .i64 L[k]) := by rw [hbel.cell (p := ⟨b, off + k, none⟩) hbs]; exact hc k _ (by simp [hlt])
      have HG := Lib.hid (gcdL_take L k hlt)
      have cg := impl_GcdOf (gcdL (L.take k)) L[k] wr
      clear hc hr
      generalize L[k] = x at *
      go_wp2_with fail
      refine cg.mono ?_
      rintro e w' ⟨rfl, hb'⟩
      have hb2 := hbel.trans (hb'.mono hbel.size)
      clear cg hcell hb'
      go_wp2_with fail
      go_roundw
      case rel => exact ⟨k + 1, by omega, by go_num, by rw [HG.out], hb2⟩
      case measure => simp [intOf]; omega
    · obtain rfl : k = L.length := by omega
      have HT := Lib.hid (List.take_of_length_le (Nat.le_refl L.length))
      clear hr
      go_wp2_with fail
      go_ret
      exact ⟨by rw [← HT.out]; simp, hbel⟩

set_option maxRecDepth 100000 in
set_option maxHeartbeats 400000 in
theorem impl_areSummands (L : List Int) (a : Option Addr) (cap : Nat) (w : World) (hr : SlV w a (L.map (Value.int .i64))) (hb : L.length ≤ maxLen) :
    Calls Tryz.prog 48 #[.slice a L.length cap] w fun e w' => e = .returned (.bool (allB L)) ∧ w' = w := by
  unfold maxLen at hb
  by_cases h3 : L.length ≤ 300
  · go_enter Tryz.func48, Tryz.ntmps48
    go_wp2_with fail
    go_loop [10] (fun i => ∃ k : Nat, k ≤ L.length ∧ i = .int .i64 (k : Int) ∧ (L.take k).all small = true) (fun i => L.length - (intOf i).toNat)
    case atStart => exact ⟨0, Nat.zero_le _, rfl, by simp⟩
    case round =>
      obtain ⟨k, hk, rfl, hal⟩ := hrel
      have HA := Lib.hid hal
      clear hal
      by_cases hlt : k < L.length
      · obtain ⟨b, off, rfl, hbs, hc⟩ := hr.open (by intro h; rw [List.map_eq_nil_iff] at h; subst h; simp at hlt)
        have hcell : w.cell? ⟨b, off + k, none⟩ = some (.int .i64 L[k]) := hc k _ (by simp [hlt])
        have HT : Hid (L.take (k + 1) = L.take k ++ [L[k]]) := Lib.hid (by rw [List.take_add_one, List.getElem?_eq_getElem hlt]; rfl)
        have HM := Lib.hid (List.getElem_mem hlt)
        clear hc hr
        have hs := fun w => impl_isWithinMax L[k] w
        cases hsm : small L[k]
        · have HR : Hid (allB L = false) := Lib.hid (by
            unfold allB
            rw [Bool.and_eq_false_iff]
            left
            rw [List.all_eq_false]
            exact ⟨L[k], HM.out, by rw [hsm]; simp⟩)
          rw [hsm] at hs
          clear hsm HM HT
          generalize L[k] = x at *
          go_wp2_with fail
          refine (hs _).mono ?_
          rintro e w' ⟨rfl, rfl⟩
          go_wp2_with fail
          go_ret
          exact ⟨by rw [HR.out]; rfl, rfl⟩
        · have HN : Hid ((L.take (k + 1)).all small = true) := Lib.hid (by rw [HT.out, List.all_append, HA.out]; simp [hsm])
          rw [hsm] at hs
          clear hsm HM HT
          generalize L[k] = x at *
          go_wp2_with fail
          refine (hs _).mono ?_
          rintro e w' ⟨rfl, rfl⟩
          go_wp2_with fail
          go_round
          case rel => exact ⟨k + 1, by omega, by go_num, HN.out⟩
          case measure => simp [intOf]; omega
      · obtain rfl : k = L.length := by omega
        have HR : Hid (allB L = true) := Lib.hid (by
          have := HA.out
          rw [List.take_of_length_le (Nat.le_refl _)] at this
          unfold allB
          rw [this, Bool.true_and]
          exact decide_eq_true h3)
        clear hr
        go_wp2_with fail
        go_ret
        exact ⟨by rw [HR.out]; rfl, rfl⟩
  · have HR : Hid (allB L = false) := Lib.hid (by unfold allB; rw [decide_eq_false h3, Bool.and_false])
    go_enter Tryz.func48, Tryz.ntmps48
    go_wp2_with fail
    go_ret
    exact ⟨by rw [HR.out]; rfl, rfl⟩
end Go.Proofs.YtjahmlaocgcjpaaGreatDoor
