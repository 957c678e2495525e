/-
  PLAIN LEMMAS: reading a decimal numeral back: 'readOf l lo hi' is the number from lo to hi whose numeral is l, if there is one. No program in this text.
-/
import Derived.Test.YtjahmlaocgcjpaaGreatDoorDec
import Derived.Lib.Atoi
import Derived.Lib.AtoiAll
import Derived.Lib.AtoiAllCases
import Derived.Lib.AtoiTie
namespace Go.Proofs.YtjahmlaocgcjpaaGreatDoor
open Go

theorem decFrom_append (l : List UInt8) : ∀ (acc : Nat) (r : List UInt8), Lib.decFrom acc (l ++ r) = (Lib.decFrom acc l).bind fun n => Lib.decFrom n r := by
  induction l with
  | nil => intro acc r; rfl
  | cons a t ih =>
    intro acc r
    simp only [List.cons_append, Lib.decFrom]
    cases Lib.digitVal a with
    | none => rfl
    | some d => exact ih _ r

theorem digitVal_ofNat {d : Nat} (h : d < 10) : Lib.digitVal (UInt8.ofNat (48 + d)) = some d := by
  unfold Lib.digitVal
  have e : (UInt8.ofNat (48 + d)).toNat = 48 + d := by rw [UInt8.toNat_ofNat']; omega
  rw [e, if_pos (by omega)]
  congr 1; omega

theorem decFrom_decDigits (m : Nat) : Lib.decFrom 0 (Lib.decDigits m) = some m := by
  induction m using Nat.strongRecOn with
  | _ m ih =>
    rw [Lib.decDigits]
    by_cases h : m < 10
    · rw [dif_pos h]; simp only [Lib.decFrom, digitVal_ofNat h]; congr 1; omega
    · rw [dif_neg h, decFrom_append, ih (m / 10) (by omega)]
      simp only [Option.bind_some, Lib.decFrom, digitVal_ofNat (show m % 10 < 10 by omega)]
      congr 1; omega

theorem decDigits_ne (m : Nat) : Lib.decDigits m ≠ [] := by
  rw [Lib.decDigits]; by_cases h : m < 10
  · rw [dif_pos h]; simp
  · rw [dif_neg h]; simp

theorem decDigits_length (k m : Nat) (h : m < 10 ^ (k + 1)) : (Lib.decDigits m).length ≤ k + 1 := by
  induction k generalizing m with
  | zero => rw [Lib.decDigits, dif_pos (by simpa using h)]; simp
  | succ k ih =>
    rw [Lib.decDigits]; by_cases h10 : m < 10
    · rw [dif_pos h10]; simp
    · rw [dif_neg h10, List.length_append]
      have := ih (m / 10) (by rw [Nat.pow_succ] at h; omega)
      simp; omega

theorem decDigits_digit (m : Nat) (c : UInt8) (hc : c ∈ Lib.decDigits m) : 48 ≤ c.toNat ∧ c.toNat ≤ 57 := by
  obtain ⟨k, hk⟩ := List.mem_iff_getElem?.1 hc
  obtain ⟨d, hd⟩ := Lib.digit_of_decFrom _ _ _ (decFrom_decDigits m) k c hk
  have := Lib.digitVal_eq hd
  exact ⟨this.1, this.2.1⟩

theorem decNat_decDigits (m : Nat) : Lib.decNat (Lib.decDigits m) = some m := by
  unfold Lib.decNat
  rw [if_neg (by simp [decDigits_ne]), decFrom_decDigits]

theorem itoa_nonneg {n : Int} (h : 0 ≤ n) : Lib.itoa n = Lib.decDigits n.natAbs := by
  unfold Lib.itoa; rw [if_neg (by omega)]; congr 1; omega
theorem itoa_below {n : Int} (h : n < 0) : Lib.itoa n = 45 :: Lib.decDigits n.natAbs := by
  unfold Lib.itoa; rw [if_pos h]

theorem atoi_itoa (n : Int) : Lib.atoi (Lib.itoa n) = some n := by
  by_cases h : n < 0
  · rw [itoa_below h]
    simp only [Lib.atoi, beq_self_eq_true, if_true, decNat_decDigits, Option.map_some, Option.some.injEq]
    omega
  · rw [itoa_nonneg (by omega)]
    cases hd : Lib.decDigits n.natAbs with
    | nil => exact absurd hd (decDigits_ne _)
    | cons c r =>
      have hc := decDigits_digit n.natAbs c (by rw [hd]; simp)
      have h45 : (c == 45) = false := by
        rw [beq_eq_false_iff_ne]; intro e; subst e; revert hc; decide
      have h43 : (c == 43) = false := by
        rw [beq_eq_false_iff_ne]; intro e; subst e; revert hc; decide
      simp only [Lib.atoi, h45, h43, Bool.false_eq_true, if_false]
      rw [← hd, decNat_decDigits]
      simp; omega

theorem itoa_inj {a b : Int} (h : Lib.itoa a = Lib.itoa b) : a = b := by
  have h1 := atoi_itoa a
  rw [h, atoi_itoa b] at h1
  exact (Option.some.inj h1).symm

open Classical in
/-- THE NUMBER FROM lo TO hi WHOSE NUMERAL IS l. -/
noncomputable def readOf (l : List UInt8) (lo hi : Int) : Option Int := if h : ∃ n, Lib.itoa n = l ∧ lo ≤ n ∧ n ≤ hi then some h.choose else none

theorem readOf_some {l : List UInt8} {lo hi n : Int} (h : Lib.itoa n = l) (h0 : lo ≤ n) (h1 : n ≤ hi) : readOf l lo hi = some n := by
  have hex : ∃ n, Lib.itoa n = l ∧ lo ≤ n ∧ n ≤ hi := ⟨n, h, h0, h1⟩
  unfold readOf
  rw [dif_pos hex]
  congr 1
  exact itoa_inj (hex.choose_spec.1.trans h.symm)
theorem readOf_none {l : List UInt8} {lo hi : Int} (h : ∀ n, Lib.itoa n = l → lo ≤ n → n ≤ hi → False) : readOf l lo hi = none := by
  unfold readOf
  rw [dif_neg]
  rintro ⟨n, a, b, c⟩
  exact h n a b c

/-- A parser's two results. -/
def rdTuple (r : Option Int) : Value := .tuple #[.int .i64 (r.getD 0), .bool r.isSome]

theorem itoa_length {n : Int} (h0 : -999999999999 ≤ n) (h1 : n ≤ 999999999999) : (Lib.itoa n).length ≤ 13 := by
  have hl := decDigits_length 11 n.natAbs (by omega)
  by_cases h : n < 0
  · rw [itoa_below h]; simp; omega
  · rw [itoa_nonneg (by omega)]; omega

theorem atoiAll_itoa {n : Int} (h0 : -999999999999 ≤ n) (h1 : n ≤ 999999999999) : Lib.atoiAll (Lib.itoa n) = .ok n := by
  rw [Lib.atoiAll_short _ (by have := itoa_length h0 h1; omega), atoi_itoa]; rfl

/-- The program's road: what Atoi reads, if its numeral is the text and it is in the range. -/
theorem readOf_ok {l : List UInt8} {lo hi v : Int} (hlo : -999999999999 ≤ lo) (hhi : hi ≤ 999999999999) (h : Lib.atoiAll l = .ok v) (hn : ¬ (Lib.itoa v = l ∧ lo ≤ v ∧ v ≤ hi)) : readOf l lo hi = none := by
  refine readOf_none fun n hl h0 h1 => hn ?_
  subst hl
  rw [atoiAll_itoa (by omega) (by omega)] at h
  cases h
  exact ⟨rfl, h0, h1⟩
theorem readOf_bad {l : List UInt8} {lo hi : Int} (hlo : -999999999999 ≤ lo) (hhi : hi ≤ 999999999999) (h : ∀ v, Lib.atoiAll l ≠ .ok v) : readOf l lo hi = none := by
  refine readOf_none fun n hl h0 h1 => ?_
  subst hl
  exact h n (atoiAll_itoa (by omega) (by omega))

/-- The reference's road: what is left behind a '-'. -/
theorem readOf_digits {l : List UInt8} {n : Int} (hl : Lib.itoa n = l) :
    (n < 0 ∧ l = 45 :: Lib.decDigits n.natAbs) ∨ (0 ≤ n ∧ l = Lib.decDigits n.natAbs) := by
  by_cases h : n < 0
  · exact .inl ⟨h, by rw [← hl, itoa_below h]⟩
  · exact .inr ⟨by omega, by rw [← hl, itoa_nonneg (by omega)]⟩

/-- The text, parted into its sign and what is left. -/
def Parted (l : List UInt8) (neg : Bool) (r : List UInt8) : Prop := (neg = true ∧ l = 45 :: r) ∨ (neg = false ∧ l = r ∧ r.head? ≠ some 45)
def sg (neg : Bool) (m : Nat) : Int := if neg then -(m : Int) else m

theorem parted_itoa {l r : List UInt8} {neg : Bool} {n : Int} (hp : Parted l neg r) (h : Lib.itoa n = l) : r = Lib.decDigits n.natAbs ∧ n = sg neg n.natAbs := by
  rcases hp with ⟨rfl, rfl⟩ | ⟨rfl, rfl, h45⟩
  · rcases readOf_digits h with ⟨hn, he⟩ | ⟨hn, he⟩
    · refine ⟨(List.cons.inj he).2, ?_⟩
      unfold sg; rw [if_pos rfl]; omega
    · have := decDigits_digit n.natAbs 45 (by rw [← he]; simp)
      exact absurd this (by decide)
  · rcases readOf_digits h with ⟨hn, he⟩ | ⟨hn, he⟩
    · rw [he] at h45; exact absurd rfl h45
    · refine ⟨he, ?_⟩
      unfold sg; rw [if_neg (by decide)]; omega

theorem parted_short {l r : List UInt8} {neg : Bool} {lo hi : Int} (hp : Parted l neg r) (h : r.length < 1) : readOf l lo hi = none :=
  readOf_none fun n hn _ _ => by
    have := (parted_itoa hp hn).1
    have h2 := decDigits_ne n.natAbs
    rw [← this] at h2
    cases r with
    | nil => exact h2 rfl
    | cons a b => simp at h
theorem parted_long {l r : List UInt8} {neg : Bool} {k : Nat} (hp : Parted l neg r) (h : k + 1 < r.length) : readOf l (-(10 ^ (k + 1) - 1)) (10 ^ (k + 1) - 1) = none :=
  readOf_none fun n hn h0 h1 => by
    have e := (parted_itoa hp hn).1
    have h2 := decDigits_length k n.natAbs (by
      have : ((10 ^ (k + 1) : Nat) : Int) = (10 : Int) ^ (k + 1) := by simp
      omega)
    rw [← e] at h2
    omega
theorem parted_digit {l r : List UInt8} {neg : Bool} {lo hi : Int} (hp : Parted l neg r) (i : Nat) (hi' : i < r.length) (h : (r[i].toNat : Int) < 48 ∨ 57 < (r[i].toNat : Int)) : readOf l lo hi = none :=
  readOf_none fun n hn _ _ => by
    have e := (parted_itoa hp hn).1
    have := decDigits_digit n.natAbs r[i] (by rw [← e]; exact List.getElem_mem hi')
    omega
theorem parted_not {l r : List UInt8} {neg : Bool} {lo hi : Int} {m : Nat} (hp : Parted l neg r) (hd : Lib.decFrom 0 r = some m) (h : Lib.itoa (sg neg m) ≠ l) : readOf l lo hi = none :=
  readOf_none fun n hn _ _ => by
    obtain ⟨e1, e2⟩ := parted_itoa hp hn
    rw [e1, decFrom_decDigits] at hd
    have e3 := Option.some.inj hd
    rw [← e3, ← e2] at h
    exact h hn
theorem decFrom_pow {r : List UInt8} {m k : Nat} (hd : Lib.decFrom 0 r = some m) (hl : r.length ≤ k) : m < 10 ^ k := by
  have := Lib.decFrom_lt r 0 m hd
  have h2 : 10 ^ r.length ≤ 10 ^ k := Nat.pow_le_pow_right (by decide) hl
  omega
theorem parted_yes {l : List UInt8} {neg : Bool} {m k : Nat} (hm : m < 10 ^ k) (h : Lib.itoa (sg neg m) = l) : readOf l (-(10 ^ k - 1)) (10 ^ k - 1) = some (sg neg m) := by
  have : ((10 ^ k : Nat) : Int) = (10 : Int) ^ k := by simp
  refine readOf_some h ?_ ?_ <;> (unfold sg; split <;> omega)

theorem readOf_sound {l : List UInt8} {lo hi n : Int} (h : readOf l lo hi = some n) : Lib.itoa n = l ∧ lo ≤ n ∧ n ≤ hi := by
  unfold readOf at h
  split at h
  · rename_i hex
    obtain rfl := Option.some.inj h
    exact hex.choose_spec
  · cases h
theorem decDigits_long (k m : Nat) (h : 10 ^ k ≤ m) : k + 1 ≤ (Lib.decDigits m).length := by
  induction k generalizing m with
  | zero =>
    have := decDigits_ne m
    cases hd : Lib.decDigits m with
    | nil => exact absurd hd this
    | cons a b => simp
  | succ k ih =>
    have hp : 1 ≤ 10 ^ k := Nat.one_le_pow _ _ (by decide)
    rw [Nat.pow_succ] at h
    rw [Lib.decDigits, dif_neg (by omega), List.length_append]
    have := ih (m / 10) (by omega)
    simp; omega
end Go.Proofs.YtjahmlaocgcjpaaGreatDoor
