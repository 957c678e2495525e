/-
  CONTRACT of the reference's FormatInt: it returns the decimal numeral of its argument.
-/
import Derived.Test.YtjahmlaocgcjpaaGreatDoorDec
import Derived.Test.YtjahmlaocgcjpaaGreatDoorProg
import Derived.WalkKit
import Derived.WalkLawsBesides
import Derived.Lib.Hide
import Derived.Below
import Derived.Laws.BytesArg
import Derived.Outline
namespace Go.Proofs.YtjahmlaocgcjpaaGreatDoor
open Go Go.RowKit

/-- 'string([]byte{x})': the conversion of a new slice of one byte. -/
theorem run_convert_one {P : Program} (W : World) (src dst e : TypeId) (x : Int) (hs : P.underlying src = some (.slice e)) (he : P.underlying e = some (.int .u8)) (hd : P.underlying dst = some .string) :
    (convert src dst (.slice (some ⟨W.heap.size, 0, none⟩) 1 1)).run P (W.alloc (.cells #[.int .u8 x] e)) = .ok (.string ⟨#[UInt8.ofNat x.toNat]⟩) (W.alloc (.cells #[.int .u8 x] e)) := by
  have h := run_convert_bytes_arg (P := P) (W.alloc (.cells #[.int .u8 x] e)) src e hs he W.heap.size 0 1 1 [x] rfl (fun i hi => by
    obtain rfl : i = 0 := by omega
    simp) dst hd
  rw [h]; rfl

theorem str_cons (x : UInt8) (l : List UInt8) : Value.string ((⟨#[x]⟩ : ByteArray) ++ ⟨l.toArray⟩) = .string ⟨(x :: l).toArray⟩ := by
  congr 1
theorem ofNat_add48 (n : Nat) : UInt8.ofNat (48 + n) = 48 + UInt8.ofNat n := by
  simp [UInt8.ofNat_add]

theorem ret_str {a b : List UInt8} (h : a = b) : Ending.returned (.string ⟨a.toArray⟩) = .returned (.string ⟨b.toArray⟩) := by rw [h]

set_option maxRecDepth 100000 in
set_option maxHeartbeats 400000 in
theorem spec_FormatInt_pos (m0 : Nat) (hm : 1 ≤ m0) (hb : m0 ≤ 9223372036854775807) (w : World) :
    Calls Tryz.prog 54 #[.int .i64 (m0 : Int)] w fun e w' => e = .returned (.string ⟨(Lib.itoa (m0 : Int)).toArray⟩) ∧ Below w.heap.size w w' := by
  have hne : ((m0 : Int) == 0) = false := by simp; omega
  have hlt : ¬ ((m0 : Int) < 0) := by omega
  go_enter Tryz.func54, Tryz.ntmps54
  go_wp2
  go_loopw [0, 4] (fun n o wr => ∃ (m : Nat) (out : List UInt8), n = .int .i64 (m : Int) ∧ o = .string ⟨out.toArray⟩ ∧ out.length + m ≤ m0 ∧ decHead m ++ out = decHead m0 ∧ Below w.heap.size w wr) (fun n _ _ => (intOf n).toNat)
  case atStart => exact ⟨m0, [], rfl, rfl, Nat.le_of_eq (Nat.zero_add _), by simp, Below.refl _ _⟩
  case round =>
    obtain ⟨m, out, rfl, rfl, hle, hd, hbel⟩ := hrel
    have HD := Lib.hid hd; clear hd
    by_cases hz : m = 0
    · subst hz
      go_wp2
      go_ret
      refine ⟨ret_str ?_, hbel⟩
      rw [itoa_pos (by omega), ← HD.out]; rfl
    · have hne2 : ((m : Int) != 0) = true := by simp; omega
      have hp : 1 ≤ m := by omega
      have kc := fun (W : World) (x : Int) => run_convert_one (P := Tryz.prog) W 22 9 5 x Tryz.underlying22 Tryz.underlying5 Tryz.underlying9
      go_wp2
      go_roundw
      case rel => exact ⟨m / 10, (48 + UInt8.ofNat (m % 10)) :: out, by go_num, str_cons _ _, by simp; omega, by rw [← HD.out, decHead_step hz, ofNat_add48]; simp, hbel.alloc hbel.size _⟩
      case measure => simp [intOf]; omega

set_option maxRecDepth 100000 in
set_option maxHeartbeats 400000 in
theorem spec_FormatInt_neg (m0 : Nat) (hm : 1 ≤ m0) (hb : m0 ≤ 9223372036854775808) (w : World) :
    Calls Tryz.prog 54 #[.int .i64 (-(m0 : Int))] w fun e w' => e = .returned (.string ⟨(Lib.itoa (-(m0 : Int))).toArray⟩) ∧ Below w.heap.size w w' := by
  have hne : ((-(m0 : Int)) == 0) = false := by simp; omega
  have hlt : 0 < m0 := by omega
  go_enter Tryz.func54, Tryz.ntmps54
  go_wp2
  go_loopw [0, 4] (fun n o wr => ∃ (m : Nat) (out : List UInt8), n = .int .i64 (-(m : Int)) ∧ o = .string ⟨out.toArray⟩ ∧ 2 * out.length + m ≤ m0 + 1 ∧ (1 ≤ m → 2 * out.length + m ≤ m0) ∧ decHead m ++ out = decHead m0 ∧ Below w.heap.size w wr) (fun n _ _ => (intOf n).natAbs)
  case atStart => exact ⟨m0, [], rfl, rfl, by simp, by simp, by simp, Below.refl _ _⟩
  case round =>
    obtain ⟨m, out, rfl, rfl, hle1, hle2, hd, hbel⟩ := hrel
    have HD := Lib.hid hd; clear hd
    by_cases hz : m = 0
    · subst hz
      clear hle2
      have hl : out.length ≤ 4611686018427387905 := by omega
      go_wp2
      go_ret
      refine ⟨ret_str ?_, hbel⟩
      rw [itoa_neg (by omega), ← HD.out]; rfl
    · have hne2 : ((-(m : Int)) != 0) = true := by simp; omega
      have hp : 1 ≤ m := by omega
      have hle := hle2 hp
      have hl : out.length ≤ 4611686018427387905 := by omega
      have kc := fun (W : World) (x : Int) => run_convert_one (P := Tryz.prog) W 22 9 5 x Tryz.underlying22 Tryz.underlying5 Tryz.underlying9
      have q2 := tdiv10 m
      clear hle1 hle2
      by_cases h0 : m % 10 = 0
      · have q1 : (-(m : Int)).tmod 10 = 0 := by rw [tmod10, h0]; rfl
        have h0' := Lib.hid h0
        clear h0
        go_wp2
        go_roundw
        case rel => exact ⟨m / 10, 48 :: out, by go_num, str_cons _ _, by simp; omega, by simp; omega, by rw [← HD.out, decHead_step hz, ofNat_add48, h0'.out]; simp, hbel.alloc hbel.size _⟩
        case measure => simp [intOf]; omega
      · have q1 := tmod10 m
        go_wp2
        go_roundw
        case rel => exact ⟨m / 10, (48 + UInt8.ofNat (m % 10)) :: out, by go_num, str_cons _ _, by simp; omega, by simp; omega, by rw [← HD.out, decHead_step hz, ofNat_add48]; simp, hbel.alloc hbel.size _⟩
        case measure => simp [intOf]; omega

set_option maxRecDepth 100000 in
theorem spec_FormatInt_zero (w : World) :
    Calls Tryz.prog 54 #[.int .i64 0] w fun e w' => e = .returned (.string ⟨(Lib.itoa 0).toArray⟩) ∧ Below w.heap.size w w' := by
  rw [itoa_zero]
  go_enter Tryz.func54, Tryz.ntmps54
  go_wp2
  go_ret
  exact ⟨rfl, Below.refl _ _⟩

/-- THE REFERENCE's FormatInt, AT EVERY int. -/
theorem spec_FormatInt (n : Int) (h0 : -9223372036854775808 ≤ n) (h1 : n ≤ 9223372036854775807) (w : World) :
    Calls Tryz.prog 54 #[.int .i64 n] w fun e w' => e = .returned (.string ⟨(Lib.itoa n).toArray⟩) ∧ Below w.heap.size w w' := by
  rcases Int.lt_trichotomy n 0 with h | h | h
  · obtain ⟨m, rfl⟩ : ∃ m : Nat, n = -(m : Int) := ⟨n.natAbs, by omega⟩
    exact spec_FormatInt_neg m (by omega) (by omega) w
  · subst h; exact spec_FormatInt_zero w
  · obtain ⟨m, rfl⟩ : ∃ m : Nat, n = (m : Int) := ⟨n.natAbs, by omega⟩
    exact spec_FormatInt_pos m (by omega) (by omega) w
#print axioms spec_FormatInt
end Go.Proofs.YtjahmlaocgcjpaaGreatDoor
