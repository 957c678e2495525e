/-
  PLAIN LEMMAS: the decimal numeral (Lib.decDigits, Lib.itoa) as the reference's loop builds it, digit by digit from the right. No program in this text.
-/
import Derived.Lib.ItoaNum
namespace Go.Proofs.YtjahmlaocgcjpaaGreatDoor
open Go

/-- What is still to be written ahead of the digits: nothing at 0. -/
def decHead (m : Nat) : List UInt8 := if m = 0 then [] else Lib.decDigits m

theorem decHead_zero : decHead 0 = [] := rfl
theorem decHead_pos {m : Nat} (h : m ≠ 0) : decHead m = Lib.decDigits m := by unfold decHead; rw [if_neg h]
/-- One step of the loop: the last digit. -/
theorem decHead_step {m : Nat} (h : m ≠ 0) : decHead m = decHead (m / 10) ++ [UInt8.ofNat (48 + m % 10)] := by
  rw [decHead_pos h, Lib.decDigits]
  by_cases h10 : m < 10
  · rw [dif_pos h10]
    have : m / 10 = 0 := by omega
    rw [this, decHead_zero, Nat.mod_eq_of_lt h10]; rfl
  · rw [dif_neg h10, decHead_pos (by omega)]

theorem itoa_zero : Lib.itoa 0 = [48] := by
  unfold Lib.itoa; rw [if_neg (by decide)]; show Lib.decDigits 0 = [48]; rw [Lib.decDigits, dif_pos (by decide)]; rfl
theorem itoa_pos {m : Nat} (h : m ≠ 0) : Lib.itoa (m : Int) = decHead m := by
  unfold Lib.itoa; rw [if_neg (by omega), decHead_pos h]; rfl
theorem itoa_neg {m : Nat} (h : m ≠ 0) : Lib.itoa (-(m : Int)) = 45 :: decHead m := by
  unfold Lib.itoa; rw [if_pos (by omega), decHead_pos h, Int.natAbs_neg]; rfl

theorem tmod10 (m : Nat) : (-(m : Int)).tmod 10 = -((m % 10 : Nat) : Int) := by
  rw [Int.neg_tmod]; rfl
theorem tdiv10 (m : Nat) : (-(m : Int)).tdiv 10 = -((m / 10 : Nat) : Int) := by
  rw [Int.neg_tdiv]; rfl
end Go.Proofs.YtjahmlaocgcjpaaGreatDoor
