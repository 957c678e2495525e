/-
  THE CONTRACTS OF CHAPTER 2 IN THE CANONICAL FORM (genlaw.py): HasNumber.
-/
import Derived.Test.YtjahmlaocgcjpaaGreatDoorL2
import Derived.Test.YtjahmlaocgcjpaaGreatDoorLaw
import Derived.Test.YtjahmlaocgcjpaaGreatDoorShFind
namespace Go.Proofs.YtjahmlaocgcjpaaGreatDoor
open Go Go.RowKit

theorem hasB_contains (L : List Int) (n : Int) : L.contains n = hasB L n := by
  unfold hasB
  rw [Bool.eq_iff_iff, List.contains_iff_mem, decide_eq_true_eq]

set_option maxRecDepth 100000 in
theorem impl_HasNumber (L : List Int) (n : Int) (a : Option Addr) (cap : Nat) (w : World) (hr : SlV w a (L.map (Value.int .i64))) (hb : L.length ≤ maxLen) :
    Calls Tryz.prog 24 #[.slice a L.length cap, .int .i64 n] w fun e w' => e = .returned (.bool (hasB L n)) ∧ w' = w := by
  unfold maxLen at hb
  by_cases h0 : L = []
  · subst h0
    have c := Tryz.slices_Contains_int_empty a cap n w
    have HR := Lib.hid (show hasB [] n = false from decide_eq_false (by simp))
    clear hr
    go_enter Tryz.func24, Tryz.ntmps24
    go_wp2_with fail
    refine c.mono ?_
    rintro e w' ⟨rfl, rfl⟩
    go_wp2_with fail
    go_ret
    exact ⟨by rw [HR.out]; rfl, rfl⟩
  · obtain ⟨b, off, rfl, hbs, hc⟩ := hr.open (by intro h; rw [List.map_eq_nil_iff] at h; exact h0 h)
    have c := Tryz.slices_Contains_int b off L.length cap L n w (Nat.le_refl _) (by omega) (fun j hj => by
      have := hc j (.int .i64 (L.getD j 0)) (by rw [List.getElem?_map, List.getElem?_eq_getElem hj]; simp [List.getD, List.getElem?_eq_getElem hj])
      exact this)
    rw [List.take_of_length_le (Nat.le_refl _), hasB_contains] at c
    clear hr hc h0
    generalize hasB L n = r at *
    go_enter Tryz.func24, Tryz.ntmps24
    go_wp2_with fail
    refine c.mono ?_
    rintro e w' ⟨rfl, rfl⟩
    go_wp2_with fail
    go_ret
    exact ⟨rfl, rfl⟩

theorem cs_HasNumber (L : List Int) (a : Option Addr) (c : Nat) (x : Int) (w : World) (hr : SlW w a c (L.map (Value.int .i64))) (hb : L.length ≤ 1048576) (_ : -9223372036854775808 ≤ x) (_ : x ≤ 9223372036854775807) :
    Calls Tryz.prog 25 #[.slice a L.length c, .int .i64 x] w fun e w' => e = .returned (.bool (hasB L x)) ∧ Below w.heap.size w w' :=
  (spec_HasNumber L x a c w hr.sl (by unfold maxLen; omega)).mono fun _ _ ⟨he, hw⟩ => ⟨he, by rw [hw]; exact Below.refl _ _⟩
theorem ci_HasNumber (L : List Int) (a : Option Addr) (c : Nat) (x : Int) (w : World) (hr : SlW w a c (L.map (Value.int .i64))) (hb : L.length ≤ 1048576) (_ : -9223372036854775808 ≤ x) (_ : x ≤ 9223372036854775807) :
    Calls Tryz.prog 24 #[.slice a L.length c, .int .i64 x] w fun e w' => e = .returned (.bool (hasB L x)) ∧ Below w.heap.size w w' :=
  (impl_HasNumber L x a c w hr.sl (by unfold maxLen; omega)).mono fun _ _ ⟨he, hw⟩ => ⟨he, by rw [hw]; exact Below.refl _ _⟩
end Go.Proofs.YtjahmlaocgcjpaaGreatDoor
