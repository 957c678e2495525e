/-
  CHAPTER 1: contracts of both sides: integers and strings.
-/
import Derived.Test.YtnbnkjmellmmlaaKitA
import Derived.Test.YtnbnkjmellmmlaaProg
import Derived.Test.YtnbnkjmellmmlaaSh
import Derived.Test.YtnbnkjmellmmlaaRows
import Derived.Lib.Atoi
import Derived.Lib.AtoiAll
import Derived.Lib.AtoiAllCases
import Derived.Lib.AtoiTie
import Derived.WalkKit
import Derived.WalkLawsBesides
import Derived.WalkSpells
import Derived.BigQuiet
import Derived.Deep.QuietTactic
import Derived.Lib.Strings
import Derived.Outline
import Derived.Lib.Join
import Derived.Lib.AppendStr
import Derived.Laws.BytesArg
import Derived.Lib.Split
import Derived.Lib.SplitLaws
import Derived.Lib.CountLaws
import Derived.Lib.IndexLaws
import Derived.Lib.LaidTab
import Derived.Lib.ItoaNum
import Derived.LaidSub
import Derived.Stop.LaidErr
import Derived.RowKitTokens
import Derived.Defers
import Derived.Recover
import Derived.Lib.AtoiErrMem

/-
  PLAIN LEMMAS: reading a decimal numeral back: 'readOf l lo hi' is the number from lo to hi whose numeral is l, if there is one. No program in this text.
-/
namespace Go.Proofs.Ytnbnkjmellmmlaa
open Go

theorem decFrom_append (l : List UInt8) : ∀ (acc : Nat) (r : List UInt8), Lib.decFrom acc (l ++ r) = (Lib.decFrom acc l).bind fun n => Lib.decFrom n r := by
  induction l with
  | nil => intro acc r; rfl
  | cons a t ih =>
    intro acc r
    simp only [List.cons_append, Lib.decFrom]
    cases Lib.digitVal a with
    | none => rfl
    | some d => exact ih _ r

theorem digitVal_ofNat {d : Nat} (h : d < 10) : Lib.digitVal (UInt8.ofNat (48 + d)) = some d := by
  unfold Lib.digitVal
  have e : (UInt8.ofNat (48 + d)).toNat = 48 + d := by rw [UInt8.toNat_ofNat']; omega
  rw [e, if_pos (by omega)]
  congr 1; omega

theorem decFrom_decDigits (m : Nat) : Lib.decFrom 0 (Lib.decDigits m) = some m := by
  induction m using Nat.strongRecOn with
  | _ m ih =>
    rw [Lib.decDigits]
    by_cases h : m < 10
    · rw [dif_pos h]; simp only [Lib.decFrom, digitVal_ofNat h]; congr 1; omega
    · rw [dif_neg h, decFrom_append, ih (m / 10) (by omega)]
      simp only [Option.bind_some, Lib.decFrom, digitVal_ofNat (show m % 10 < 10 by omega)]
      congr 1; omega

theorem decDigits_ne (m : Nat) : Lib.decDigits m ≠ [] := by
  rw [Lib.decDigits]; by_cases h : m < 10
  · rw [dif_pos h]; simp
  · rw [dif_neg h]; simp

theorem decDigits_length (k m : Nat) (h : m < 10 ^ (k + 1)) : (Lib.decDigits m).length ≤ k + 1 := by
  induction k generalizing m with
  | zero => rw [Lib.decDigits, dif_pos (by simpa using h)]; simp
  | succ k ih =>
    rw [Lib.decDigits]; by_cases h10 : m < 10
    · rw [dif_pos h10]; simp
    · rw [dif_neg h10, List.length_append]
      have := ih (m / 10) (by rw [Nat.pow_succ] at h; omega)
      simp; omega

theorem decDigits_digit (m : Nat) (c : UInt8) (hc : c ∈ Lib.decDigits m) : 48 ≤ c.toNat ∧ c.toNat ≤ 57 := by
  obtain ⟨k, hk⟩ := List.mem_iff_getElem?.1 hc
  obtain ⟨d, hd⟩ := Lib.digit_of_decFrom _ _ _ (decFrom_decDigits m) k c hk
  have := Lib.digitVal_eq hd
  exact ⟨this.1, this.2.1⟩

theorem decNat_decDigits (m : Nat) : Lib.decNat (Lib.decDigits m) = some m := by
  unfold Lib.decNat
  rw [if_neg (by simp [decDigits_ne]), decFrom_decDigits]

theorem itoa_nonneg {n : Int} (h : 0 ≤ n) : Lib.itoa n = Lib.decDigits n.natAbs := by
  unfold Lib.itoa; rw [if_neg (by omega)]; congr 1; omega
theorem itoa_below {n : Int} (h : n < 0) : Lib.itoa n = 45 :: Lib.decDigits n.natAbs := by
  unfold Lib.itoa; rw [if_pos h]

theorem atoi_itoa (n : Int) : Lib.atoi (Lib.itoa n) = some n := by
  by_cases h : n < 0
  · rw [itoa_below h]
    simp only [Lib.atoi, beq_self_eq_true, if_true, decNat_decDigits, Option.map_some, Option.some.injEq]
    omega
  · rw [itoa_nonneg (by omega)]
    cases hd : Lib.decDigits n.natAbs with
    | nil => exact absurd hd (decDigits_ne _)
    | cons c r =>
      have hc := decDigits_digit n.natAbs c (by rw [hd]; simp)
      have h45 : (c == 45) = false := by
        rw [beq_eq_false_iff_ne]; intro e; subst e; revert hc; decide
      have h43 : (c == 43) = false := by
        rw [beq_eq_false_iff_ne]; intro e; subst e; revert hc; decide
      simp only [Lib.atoi, h45, h43, Bool.false_eq_true, if_false]
      rw [← hd, decNat_decDigits]
      simp; omega

theorem itoa_inj {a b : Int} (h : Lib.itoa a = Lib.itoa b) : a = b := by
  have h1 := atoi_itoa a
  rw [h, atoi_itoa b] at h1
  exact (Option.some.inj h1).symm

open Classical in
/-- THE NUMBER FROM lo TO hi WHOSE NUMERAL IS l. -/
noncomputable def readOf (l : List UInt8) (lo hi : Int) : Option Int := if h : ∃ n, Lib.itoa n = l ∧ lo ≤ n ∧ n ≤ hi then some h.choose else none

theorem readOf_some {l : List UInt8} {lo hi n : Int} (h : Lib.itoa n = l) (h0 : lo ≤ n) (h1 : n ≤ hi) : readOf l lo hi = some n := by
  have hex : ∃ n, Lib.itoa n = l ∧ lo ≤ n ∧ n ≤ hi := ⟨n, h, h0, h1⟩
  unfold readOf
  rw [dif_pos hex]
  congr 1
  exact itoa_inj (hex.choose_spec.1.trans h.symm)
theorem readOf_none {l : List UInt8} {lo hi : Int} (h : ∀ n, Lib.itoa n = l → lo ≤ n → n ≤ hi → False) : readOf l lo hi = none := by
  unfold readOf
  rw [dif_neg]
  rintro ⟨n, a, b, c⟩
  exact h n a b c

/-- A parser's two results. -/
def rdTuple (r : Option Int) : Value := .tuple #[.int .i64 (r.getD 0), .bool r.isSome]

theorem itoa_length {n : Int} (h0 : -999999999999 ≤ n) (h1 : n ≤ 999999999999) : (Lib.itoa n).length ≤ 13 := by
  have hl := decDigits_length 11 n.natAbs (by omega)
  by_cases h : n < 0
  · rw [itoa_below h]; simp; omega
  · rw [itoa_nonneg (by omega)]; omega

theorem atoiAll_itoa {n : Int} (h0 : -999999999999 ≤ n) (h1 : n ≤ 999999999999) : Lib.atoiAll (Lib.itoa n) = .ok n := by
  rw [Lib.atoiAll_short _ (by have := itoa_length h0 h1; omega), atoi_itoa]; rfl

/-- The program's road: what Atoi reads, if its numeral is the text and it is in the range. -/
theorem readOf_ok {l : List UInt8} {lo hi v : Int} (hlo : -999999999999 ≤ lo) (hhi : hi ≤ 999999999999) (h : Lib.atoiAll l = .ok v) (hn : ¬ (Lib.itoa v = l ∧ lo ≤ v ∧ v ≤ hi)) : readOf l lo hi = none := by
  refine readOf_none fun n hl h0 h1 => hn ?_
  subst hl
  rw [atoiAll_itoa (by omega) (by omega)] at h
  cases h
  exact ⟨rfl, h0, h1⟩
theorem readOf_bad {l : List UInt8} {lo hi : Int} (hlo : -999999999999 ≤ lo) (hhi : hi ≤ 999999999999) (h : ∀ v, Lib.atoiAll l ≠ .ok v) : readOf l lo hi = none := by
  refine readOf_none fun n hl h0 h1 => ?_
  subst hl
  exact h n (atoiAll_itoa (by omega) (by omega))

/-- The reference's road: what is left behind a '-'. -/
theorem readOf_digits {l : List UInt8} {n : Int} (hl : Lib.itoa n = l) :
    (n < 0 ∧ l = 45 :: Lib.decDigits n.natAbs) ∨ (0 ≤ n ∧ l = Lib.decDigits n.natAbs) := by
  by_cases h : n < 0
  · exact .inl ⟨h, by rw [← hl, itoa_below h]⟩
  · exact .inr ⟨by omega, by rw [← hl, itoa_nonneg (by omega)]⟩

/-- The text, parted into its sign and what is left. -/
def Parted (l : List UInt8) (neg : Bool) (r : List UInt8) : Prop := (neg = true ∧ l = 45 :: r) ∨ (neg = false ∧ l = r ∧ r.head? ≠ some 45)
def sg (neg : Bool) (m : Nat) : Int := if neg then -(m : Int) else m

theorem parted_itoa {l r : List UInt8} {neg : Bool} {n : Int} (hp : Parted l neg r) (h : Lib.itoa n = l) : r = Lib.decDigits n.natAbs ∧ n = sg neg n.natAbs := by
  rcases hp with ⟨rfl, rfl⟩ | ⟨rfl, rfl, h45⟩
  · rcases readOf_digits h with ⟨hn, he⟩ | ⟨hn, he⟩
    · refine ⟨(List.cons.inj he).2, ?_⟩
      unfold sg; rw [if_pos rfl]; omega
    · have := decDigits_digit n.natAbs 45 (by rw [← he]; simp)
      exact absurd this (by decide)
  · rcases readOf_digits h with ⟨hn, he⟩ | ⟨hn, he⟩
    · rw [he] at h45; exact absurd rfl h45
    · refine ⟨he, ?_⟩
      unfold sg; rw [if_neg (by decide)]; omega

theorem parted_short {l r : List UInt8} {neg : Bool} {lo hi : Int} (hp : Parted l neg r) (h : r.length < 1) : readOf l lo hi = none :=
  readOf_none fun n hn _ _ => by
    have := (parted_itoa hp hn).1
    have h2 := decDigits_ne n.natAbs
    rw [← this] at h2
    cases r with
    | nil => exact h2 rfl
    | cons a b => simp at h
theorem parted_long {l r : List UInt8} {neg : Bool} {k : Nat} (hp : Parted l neg r) (h : k + 1 < r.length) : readOf l (-(10 ^ (k + 1) - 1)) (10 ^ (k + 1) - 1) = none :=
  readOf_none fun n hn h0 h1 => by
    have e := (parted_itoa hp hn).1
    have h2 := decDigits_length k n.natAbs (by
      have : ((10 ^ (k + 1) : Nat) : Int) = (10 : Int) ^ (k + 1) := by simp
      omega)
    rw [← e] at h2
    omega
theorem parted_digit {l r : List UInt8} {neg : Bool} {lo hi : Int} (hp : Parted l neg r) (i : Nat) (hi' : i < r.length) (h : (r[i].toNat : Int) < 48 ∨ 57 < (r[i].toNat : Int)) : readOf l lo hi = none :=
  readOf_none fun n hn _ _ => by
    have e := (parted_itoa hp hn).1
    have := decDigits_digit n.natAbs r[i] (by rw [← e]; exact List.getElem_mem hi')
    omega
theorem parted_not {l r : List UInt8} {neg : Bool} {lo hi : Int} {m : Nat} (hp : Parted l neg r) (hd : Lib.decFrom 0 r = some m) (h : Lib.itoa (sg neg m) ≠ l) : readOf l lo hi = none :=
  readOf_none fun n hn _ _ => by
    obtain ⟨e1, e2⟩ := parted_itoa hp hn
    rw [e1, decFrom_decDigits] at hd
    have e3 := Option.some.inj hd
    rw [← e3, ← e2] at h
    exact h hn
theorem decFrom_pow {r : List UInt8} {m k : Nat} (hd : Lib.decFrom 0 r = some m) (hl : r.length ≤ k) : m < 10 ^ k := by
  have := Lib.decFrom_lt r 0 m hd
  have h2 : 10 ^ r.length ≤ 10 ^ k := Nat.pow_le_pow_right (by decide) hl
  omega
theorem parted_yes {l : List UInt8} {neg : Bool} {m k : Nat} (hm : m < 10 ^ k) (h : Lib.itoa (sg neg m) = l) : readOf l (-(10 ^ k - 1)) (10 ^ k - 1) = some (sg neg m) := by
  have : ((10 ^ k : Nat) : Int) = (10 : Int) ^ k := by simp
  refine readOf_some h ?_ ?_ <;> (unfold sg; split <;> omega)

theorem readOf_sound {l : List UInt8} {lo hi n : Int} (h : readOf l lo hi = some n) : Lib.itoa n = l ∧ lo ≤ n ∧ n ≤ hi := by
  unfold readOf at h
  split at h
  · rename_i hex
    obtain rfl := Option.some.inj h
    exact hex.choose_spec
  · cases h
theorem decDigits_long (k m : Nat) (h : 10 ^ k ≤ m) : k + 1 ≤ (Lib.decDigits m).length := by
  induction k generalizing m with
  | zero =>
    have := decDigits_ne m
    cases hd : Lib.decDigits m with
    | nil => exact absurd hd this
    | cons a b => simp
  | succ k ih =>
    have hp : 1 ≤ 10 ^ k := Nat.one_le_pow _ _ (by decide)
    rw [Nat.pow_succ] at h
    rw [Lib.decDigits, dif_neg (by omega), List.length_append]
    have := ih (m / 10) (by omega)
    simp; omega
end Go.Proofs.Ytnbnkjmellmmlaa

/-
  CONTRACTS of the reference's l1Read, ParseInt and ParseNumber: what 'readOf' says.
-/
namespace Go.Proofs.Ytnbnkjmellmmlaa
open Go Go.RowKit

theorem byte_get (s : ByteArray) (k : Nat) (h : k < s.size) : s.data.toList[k]'(by simpa using h) = s[k] := by simp; rfl
theorem sg_true (m : Nat) : sg true m = -(m : Int) := rfl
theorem sg_false (m : Nat) : sg false m = (m : Int) := rfl
theorem decFrom_more {s : ByteArray} {k m : Nat} (h : k < s.size) (hd : Lib.decFrom 0 (s.data.toList.take k) = some m) (g0 : 48 ≤ (s[k].toNat : Int)) (g1 : (s[k].toNat : Int) ≤ 57) :
    Lib.decFrom 0 (s.data.toList.take (k + 1)) = some (m * 10 + (s[k].toNat - 48)) := by
  refine Lib.decFrom_take _ k 0 m s[k] _ hd ?_ ?_
  · rw [List.getElem?_eq_getElem (by simpa using h), byte_get s k h]
  · unfold Lib.digitVal; rw [if_pos (by omega)]




theorem head_drop : ∀ (l : List UInt8) (c : UInt8), l[0]? = some c → l = c :: l.drop 1
  | [], _, h => by simp at h
  | a :: t, c, h => by simp at h; subst h; simp



theorem readOf_from0 (l : List UInt8) (hi : Int) (h : 0 ≤ hi) : readOf l 0 hi = (readOf l (-hi) hi).bind fun n => if n < 0 then none else some n := by
  by_cases hx : ∃ n, Lib.itoa n = l ∧ -hi ≤ n ∧ n ≤ hi
  · obtain ⟨n, h1, h2, h3⟩ := hx
    rw [readOf_some h1 h2 h3, Option.bind_some]
    by_cases hn : n < 0
    · rw [if_pos hn]
      refine readOf_none fun m hm h0 _ => ?_
      have := itoa_inj (hm.trans h1.symm)
      omega
    · rw [if_neg hn]; exact readOf_some h1 (by omega) h3
  · rw [readOf_none (lo := -hi) fun n a b c => hx ⟨n, a, b, c⟩]
    exact readOf_none fun n a b c => hx ⟨n, a, by omega, c⟩

end Go.Proofs.Ytnbnkjmellmmlaa

/-
  PLAIN LEMMAS for joining: what stands written after k elements; sizes; the conversion of owned bytes to a string.
-/
namespace Go.Proofs.Ytnbnkjmellmmlaa
open Go Go.RowKit

/-- Bytes as a slice's cells. -/
def bytesV (l : List UInt8) : List Value := l.map fun b => .int .u8 (b.toNat : Int)
theorem bytesV_append (l m : List UInt8) : bytesV (l ++ m) = bytesV l ++ bytesV m := by simp [bytesV]
theorem bytesV_str (s : ByteArray) : Lib.strCells s = bytesV s.data.toList := rfl

/-- 'string(b)' of a slice of bytes that is owned. -/
theorem conv_owned {P : Program} {w : World} {base : Nat} {src dst e : TypeId} {v : Value} {n : Nat} {l : List UInt8} (hs : P.underlying src = some (.slice e)) (he : P.underlying e = some (.int .u8)) (hd : P.underlying dst = some .string)
    (h : w.ownsRow base e 1 v n (bytesV l)) : (convert src dst v).run P w = .ok (.string ⟨l.toArray⟩) w := by
  have hn : (bytesV l).length = n := by have := h.1; omega
  obtain ⟨a, cap, rfl, -, -, hsl, -⟩ := SlV.of_owns h
  by_cases h0 : bytesV l = []
  · have hl : l = [] := by simpa [bytesV] using h0
    subst hl
    have : n = 0 := by rw [← hn]; rfl
    subst this
    rcases h.2 with ⟨e1, -⟩ | ⟨g, cap2, cur, e1, -⟩
    · simp only [Value.slice.injEq] at e1
      rw [e1.1]
      exact run_convert_bytes_nil w src e hs he _ _ dst hd
    · simp only [Value.slice.injEq] at e1
      rw [e1.1]
      exact run_convert_bytes_arg w src e hs he g 0 0 _ [] rfl (fun i hi => by omega) dst hd
  · obtain ⟨b, off, rfl, -, hc⟩ := hsl.open h0
    have hr := run_convert_bytes_arg (P := P) w src e hs he b off n cap (l.map fun b => (b.toNat : Int)) (by rw [← hn]; simp [bytesV]) (fun i hi => by
      have hi2 : i < l.length := by rw [← hn] at hi; simpa [bytesV] using hi
      rw [hc i (.int .u8 (l[i].toNat : Int)) (by simp [bytesV, hi2])]
      simp [List.getD, hi2]) dst hd
    rw [hr]
    congr 2
    unfold strOfNums
    congr 1
    simp [List.map_map, Function.comp_def]

/-- What stands written after k elements. -/
def J (L : List ByteArray) (sep : ByteArray) (k : Nat) : List UInt8 := Lib.join ((L.take k).map (·.data.toList)) sep.data.toList
def sizes (L : List ByteArray) : Nat := (L.map (·.size)).sum
theorem lens_sizes (L : List ByteArray) : Lib.lens (L.map (·.data.toList)) = sizes L := by
  unfold Lib.lens sizes; rw [List.map_map]; congr 1
theorem J_zero (L : List ByteArray) (sep : ByteArray) : J L sep 0 = [] := by simp [J, Lib.join_nil]
theorem J_one (L : List ByteArray) (sep : ByteArray) (h : 0 < L.length) : J L sep 1 = L[0].data.toList := by
  cases L with
  | nil => simp at h
  | cons x r => simp [J, Lib.join_one]
theorem J_succ (L : List ByteArray) (sep : ByteArray) (k : Nat) (h0 : 1 ≤ k) (h : k < L.length) : J L sep (k + 1) = J L sep k ++ sep.data.toList ++ L[k].data.toList := by
  cases L with
  | nil => simp at h
  | cons x r =>
    obtain ⟨j, rfl⟩ : ∃ j, k = j + 1 := ⟨k - 1, by omega⟩
    have hj : j < r.length := by simpa using h
    simp only [J, List.take_succ_cons, List.map_cons, Lib.join_cons, List.getElem_cons_succ, List.map_take]
    rw [Lib.joinTail_take_succ _ _ _ (r[j].data.toList) (by simp [hj])]
    simp [List.append_assoc]
theorem J_all (L : List ByteArray) (sep : ByteArray) : J L sep L.length = Lib.join (L.map (·.data.toList)) sep.data.toList := by simp [J]
theorem J_length (L : List ByteArray) (sep : ByteArray) (k : Nat) (h1 : L.length ≤ 1048576) (h2 : sizes L ≤ 1048576) (h3 : sep.size ≤ 1048576) : (J L sep k).length ≤ 1099513724928 := by
  have hk : (L.take k).length ≤ L.length := by rw [List.length_take]; omega
  have hs : Lib.lens ((L.take k).map (·.data.toList)) ≤ sizes L := by rw [← lens_sizes, List.map_take]; exact Lib.lens_take_le _ _
  unfold J
  cases hL : L.take k with
  | nil => simp [Lib.join_nil]
  | cons x r =>
    rw [hL] at hk hs
    simp only [List.map_cons, Lib.join_cons, List.length_append, Lib.joinTail_length, List.length_map]
    simp only [List.map_cons, Lib.lens, List.sum_cons] at hs
    have hm : sep.data.toList.length * r.length ≤ 1048576 * 1048576 := Nat.mul_le_mul (by simpa using h3) (by simp at hk; omega)
    unfold Lib.lens
    simp at hs hm ⊢
    omega

theorem J_lengthW (L : List ByteArray) (sep : ByteArray) (k : Nat) (h1 : L.length ≤ 1048576) (h2 : sizes L ≤ 1099511627776) (h3 : sep.size ≤ 1048576) : (J L sep k).length ≤ 2199024304128 := by
  have hk : (L.take k).length ≤ L.length := by rw [List.length_take]; omega
  have hs : Lib.lens ((L.take k).map (·.data.toList)) ≤ sizes L := by rw [← lens_sizes, List.map_take]; exact Lib.lens_take_le _ _
  unfold J
  cases hL : L.take k with
  | nil => simp [Lib.join_nil]
  | cons x r =>
    rw [hL] at hk hs
    simp only [List.map_cons, Lib.join_cons, List.length_append, Lib.joinTail_length, List.length_map]
    simp only [List.map_cons, Lib.lens, List.sum_cons] at hs
    have hm : sep.data.toList.length * r.length ≤ 1048576 * 1048576 := Nat.mul_le_mul (by simpa using h3) (by simp at hk; omega)
    unfold Lib.lens
    simp at hs hm ⊢
    omega

theorem sizes_append (L M : List ByteArray) : sizes (L ++ M) = sizes L + sizes M := by simp [sizes]
theorem sizes_take (L : List ByteArray) (k : Nat) (h : k < L.length) : sizes (L.take (k + 1)) = sizes (L.take k) + L[k].size := by
  rw [List.take_add_one, List.getElem?_eq_getElem h, sizes_append]
  congr 1
theorem sizes_take_le (L : List ByteArray) (k : Nat) : sizes (L.take k) ≤ sizes L := by
  conv => rhs; rw [← List.take_append_drop k L, sizes_append]
  omega
theorem size_le_sizes (L : List ByteArray) (k : Nat) (h : k < L.length) : sizes (L.take k) + L[k].size ≤ sizes L := by
  rw [← sizes_take L k h]; exact sizes_take_le L (k + 1)

end Go.Proofs.Ytnbnkjmellmmlaa

/-
  CONTRACTS of szStringS and of the reference's Join.
-/
namespace Go.Proofs.Ytnbnkjmellmmlaa
open Go Go.RowKit

theorem infoByte : (Try.prog.info? 5).map (fun i => (i.zero, i.size, i.bytes)) = some (some (.int .u8 0), 1, 1) := by kernel_rfl



/-- What szStringS gives back: not negative only where all fits. -/
def SzPost (L : List ByteArray) (left : Nat) (w : World) (e : Ending) (w' : World) : Prop :=
  ∃ r : Int, e = .returned (.int .i64 r) ∧ (0 ≤ r → L.length + sizes L ≤ left) ∧ w' = w

end Go.Proofs.Ytnbnkjmellmmlaa

/-
  PLAIN LEMMAS: a text parted at every occurrence of one byte. No program in this text.
-/
namespace Go.Proofs.Ytnbnkjmellmmlaa
open Go

/-- The parts of a text between the occurrences of c. -/
def splitL (c : UInt8) : List UInt8 → List (List UInt8)
  | [] => [[]]
  | b :: r => if b = c then [] :: splitL c r else match splitL c r with
    | [] => [[b]]
    | p :: ps => (b :: p) :: ps

theorem splitL_ne (c : UInt8) (l : List UInt8) : splitL c l ≠ [] := by
  cases l with
  | nil => simp [splitL]
  | cons b r =>
    simp only [splitL]
    split
    · simp
    · split <;> simp
theorem splitL_none (c : UInt8) : ∀ p : List UInt8, (∀ x ∈ p, x ≠ c) → splitL c p = [p]
  | [], _ => rfl
  | b :: r, h => by
    have hb : b ≠ c := h b (by simp)
    simp only [splitL, if_neg hb, splitL_none c r (fun x hx => h x (by simp [hx]))]
theorem splitL_hit (c : UInt8) (r : List UInt8) : ∀ p : List UInt8, (∀ x ∈ p, x ≠ c) → splitL c (p ++ c :: r) = p :: splitL c r
  | [], _ => by simp [splitL]
  | b :: p, h => by
    have hb : b ≠ c := h b (by simp)
    simp only [List.cons_append, splitL, if_neg hb, splitL_hit c r p (fun x hx => h x (by simp [hx]))]

theorem first_occ (c : UInt8) : ∀ s : List UInt8, (∀ x ∈ s, x ≠ c) ∨ ∃ p r, s = p ++ c :: r ∧ ∀ x ∈ p, x ≠ c
  | [] => .inl (by simp)
  | b :: s => by
    by_cases hb : b = c
    · exact .inr ⟨[], s, by simp [hb], by simp⟩
    · rcases first_occ c s with h | ⟨p, r, rfl, h⟩
      · exact .inl (by intro x hx; rcases List.mem_cons.1 hx with rfl | hx; exact hb; exact h x hx)
      · exact .inr ⟨b :: p, r, rfl, by intro x hx; rcases List.mem_cons.1 hx with rfl | hx; exact hb; exact h x hx⟩

theorem occ_one (s : List UInt8) (c : UInt8) (j : Nat) : Lib.occAt s [c] j = (s[j]? == some c) := by
  unfold Lib.occAt
  rw [← List.head?_drop]
  cases s.drop j with
  | nil => rfl
  | cons a t => simp only [List.isPrefixOf, Bool.and_true, List.head?_cons]; exact BEq.comm

theorem index_no (c : UInt8) (s : List UInt8) (h : ∀ x ∈ s, x ≠ c) : Lib.index s [c] = -1 :=
  Lib.index_none fun j _ => by
    rw [occ_one, beq_eq_false_iff_ne]
    intro e
    exact h c (List.mem_of_getElem? e) rfl
theorem index_at (c : UInt8) (p r : List UInt8) (h : ∀ x ∈ p, x ≠ c) : Lib.index (p ++ c :: r) [c] = p.length :=
  Lib.index_first (by simp) (by rw [occ_one]; simp) fun j hj => by
    rw [occ_one, beq_eq_false_iff_ne, List.getElem?_append_left hj, List.getElem?_eq_getElem hj]
    intro e
    exact h _ (List.getElem_mem hj) (Option.some.inj e)

theorem splitK_one (c : UInt8) : ∀ (n : Nat) (s : List UInt8), s.length ≤ n → Lib.splitK [c] 0 (Lib.count s [c]) s = splitL c s
  | n, s, hn => by
    rcases first_occ c s with h | ⟨p, r, rfl, h⟩
    · rw [Lib.count_miss (index_no c s h), splitL_none c s h]; rfl
    · have hi := index_at c p r h
      have hd : (p ++ c :: r).drop (p.length + 1) = r := by rw [← List.drop_drop]; simp
      rw [Lib.count_hit (by simp) hi, splitL_hit c r p h, Nat.add_comm, Lib.splitK, hi, if_neg (by rw [beq_iff_eq]; omega)]
      have e1 : ((p.length : Int).toNat + 0) = p.length := by omega
      have e2 : ((p.length : Int).toNat + [c].length) = p.length + 1 := by simp
      rw [e1, e2, show p.length + [c].length = p.length + 1 from rfl, hd, List.take_left]
      cases n with
      | zero => simp at hn
      | succ n => rw [splitK_one c n r (by simp at hn; omega)]

theorem splitB_one (c : UInt8) (s : ByteArray) : (Lib.splitB ⟨#[c]⟩ 0 (Lib.countB s ⟨#[c]⟩) s).map (·.data.toList) = splitL c s.data.toList := by
  rw [Lib.splitB_data]
  exact splitK_one c _ s.data.toList (Nat.le_refl _)

theorem bytes_inj {a b : ByteArray} (h : a.data.toList = b.data.toList) : a = b := ByteArray.ext (Array.toList_inj.1 h)
theorem parts_inj : ∀ (M N : List ByteArray), M.map (·.data.toList) = N.map (·.data.toList) → M = N
  | [], [], _ => rfl
  | [], _ :: _, h => by simp at h
  | _ :: _, [], h => by simp at h
  | a :: M, b :: N, h => by
    simp only [List.map_cons, List.cons.injEq] at h
    rw [bytes_inj h.1, parts_inj M N h.2]

theorem splitL_length (c : UInt8) : ∀ l : List UInt8, (splitL c l).length ≤ l.length + 1
  | [] => by simp [splitL]
  | b :: r => by
    have := splitL_length c r
    simp only [splitL]
    split
    · simp; omega
    · split
      · simp
      · rename_i h; rw [h] at this; simp at this ⊢; omega

theorem splitL_join (c : UInt8) (l : List UInt8) : Lib.join (splitL c l) [c] = l := by
  suffices h : ∀ l : List UInt8, ∃ p ps, splitL c l = p :: ps ∧ p ++ Lib.joinTail [c] ps = l by
    obtain ⟨p, ps, h1, h2⟩ := h l
    rw [h1, Lib.join_cons, h2]
  intro l
  induction l with
  | nil => exact ⟨[], [], rfl, rfl⟩
  | cons b r ih =>
    obtain ⟨p, ps, h1, h2⟩ := ih
    by_cases hb : b = c
    · refine ⟨[], p :: ps, by rw [splitL, if_pos hb, h1], ?_⟩
      rw [hb, List.nil_append]
      show ([c] ++ p) ++ Lib.joinTail [c] ps = c :: r
      rw [List.append_assoc, h2]; rfl
    · exact ⟨b :: p, ps, by rw [splitL, if_neg hb, h1], by rw [List.cons_append, h2]⟩
theorem splitL_parts (c : UInt8) : ∀ (l : List UInt8) (p : List UInt8), p ∈ splitL c l → ∀ x ∈ p, x ≠ c
  | [], p, hp, x, hx => by simp [splitL] at hp; subst hp; cases hx
  | b :: r, p, hp, x, hx => by
    by_cases hb : b = c
    · rw [splitL, if_pos hb] at hp
      rcases List.mem_cons.1 hp with rfl | hp
      · cases hx
      · exact splitL_parts c r p hp x hx
    · cases h : splitL c r with
      | nil => exact absurd h (splitL_ne c r)
      | cons q qs =>
        have ih := splitL_parts c r
        rw [h] at ih
        rw [splitL, if_neg hb, h] at hp
        rcases List.mem_cons.1 hp with rfl | hp
        · rcases List.mem_cons.1 hx with rfl | hx
          · exact hb
          · exact ih q (by simp) x hx
        · exact ih p (by simp [hp]) x hx
theorem splitL_lens (c : UInt8) (l : List UInt8) : Lib.lens (splitL c l) ≤ l.length := by
  have h := congrArg List.length (splitL_join c l)
  cases hs : splitL c l with
  | nil => simp [Lib.lens]
  | cons p ps =>
    rw [hs, Lib.join_cons, List.length_append, Lib.joinTail_length] at h
    simp only [Lib.lens, List.map_cons, List.sum_cons] at h ⊢
    omega
end Go.Proofs.Ytnbnkjmellmmlaa

/-
  CONTRACTS of the two SplitByte: the parts of the text between the occurrences of the byte.
-/
namespace Go.Proofs.Ytnbnkjmellmmlaa
open Go Go.RowKit

def SplitPost (s : ByteArray) (c : UInt8) (w : World) (e : Ending) (w' : World) : Prop :=
  ∃ (M : List ByteArray) (v : Value), M.map (·.data.toList) = splitL c s.data.toList ∧ e = .returned v ∧ w'.ownsRow w.heap.size 9 1 v M.length (M.map Value.string) ∧ Below w.heap.size w w'


theorem heap_new2 (w : World) (o o' : Obj) : ((w.alloc o).alloc o').heap[w.heap.size + 1]? = some o' := by
  have e : w.heap.size + 1 = (w.alloc o).heap.size := by simp
  rw [e]; exact heap_alloc_new _ _


theorem infoStrS : (Try.prog.info? 9).map (fun i => (i.zero, i.size, i.bytes)) = some (some (Value.string ByteArray.empty), 1, 16) := by kernel_rfl

/-- THE REFERENCE's loop: what stands in 'out' when i bytes were looked at and the open part begins at k. -/
def SpInv (l : List UInt8) (c : UInt8) (M : List ByteArray) (k i : Nat) : Prop :=
  k ≤ i ∧ M.map (·.data.toList) ++ splitL c (l.drop k) = splitL c l ∧ ∀ x ∈ (l.drop k).take (i - k), x ≠ c
theorem spInv_start (l : List UInt8) (c : UInt8) : SpInv l c [] 0 0 := ⟨Nat.le_refl _, by simp, by simp⟩
theorem spInv_skip {l : List UInt8} {c : UInt8} {M : List ByteArray} {k i : Nat} (h : SpInv l c M k i) (hi : i < l.length) (hne : l[i] ≠ c) : SpInv l c M k (i + 1) := by
  obtain ⟨hk, he, hx⟩ := h
  refine ⟨by omega, he, fun x hm => ?_⟩
  have e1 : i + 1 - k = (i - k) + 1 := by omega
  rw [e1, List.take_add_one, List.mem_append] at hm
  rcases hm with hm | hm
  · exact hx x hm
  · have e2 : k + (i - k) = i := by omega
    rw [List.getElem?_drop, e2, List.getElem?_eq_getElem hi] at hm
    simp at hm
    rw [hm]; exact hne
theorem spInv_hit {s : ByteArray} {c : UInt8} {M : List ByteArray} {k i : Nat} (h : SpInv s.data.toList c M k i) (hi : i < s.data.toList.length) (he : s.data.toList[i] = c) : SpInv s.data.toList c (M ++ [s.extract k i]) (i + 1) (i + 1) := by
  obtain ⟨hk, hq, hx⟩ := h
  refine ⟨Nat.le_refl _, ?_, by simp⟩
  have e : s.data.toList.drop k = (s.data.toList.drop k).take (i - k) ++ c :: s.data.toList.drop (i + 1) := by
    conv => lhs; rw [← List.take_append_drop (i - k) (s.data.toList.drop k)]
    congr 1
    rw [List.drop_drop, show k + (i - k) = i by omega, List.drop_eq_getElem_cons hi, he]
  rw [e, splitL_hit c _ _ hx] at hq
  rw [← hq, List.map_append, List.append_assoc]
  congr 1
  simp
theorem spInv_end {s : ByteArray} {c : UInt8} {M : List ByteArray} {k i : Nat} (h : SpInv s.data.toList c M k i) (hi : i = s.data.toList.length) : (M ++ [s.extract k i]).map (·.data.toList) = splitL c s.data.toList := by
  obtain ⟨hk, hq, hx⟩ := h
  subst hi
  have e : (s.data.toList.drop k).take (s.data.toList.length - k) = s.data.toList.drop k := List.take_of_length_le (by simp)
  rw [e] at hx
  rw [splitL_none c _ hx] at hq
  rw [← hq, List.map_append]
  congr 1
  simp only [List.map_cons, List.map_nil, Lib.extract_data]
  rw [e]

theorem new_one (w : World) (x : Value) (t : TypeId) : ∀ (j : Nat) (u : Value), [x][j]? = some u → (w.alloc (.cells #[x] t)).cell? ((⟨w.heap.size, 0, none⟩ : Addr).add j) = some u := by
  intro j u hj
  match j, hj with
  | 0, hj => simp at hj; subst hj; simp [Addr.add]
theorem one_cell (x : ByteArray) : ∀ u ∈ [Value.string x], u.oneCell' = true := by intro u hu; simp at hu; subst hu; rfl

theorem byte_at (s : ByteArray) (k : Nat) (h : k < s.size) : s.data.toList[k]'(by simpa using h) = s[k] := by simp; rfl


/-- A list of parts that the call made: opened. -/
theorem parts_open {w w' : World} {s : ByteArray} {c : UInt8} {M : List ByteArray} {v : Value} (hM : M.map (·.data.toList) = splitL c s.data.toList) (ho : w'.ownsRow w.heap.size 9 1 v M.length (M.map Value.string)) :
    ∃ g cap, v = .slice (some ⟨g, 0, none⟩) M.length cap ∧ w.heap.size ≤ g ∧ SlV w' (some ⟨g, 0, none⟩) (M.map Value.string) ∧ M.length ≤ s.size + 1 ∧ g < w'.heap.size ∧ M.length ≤ cap := by
  have hlen : M.length = (splitL c s.data.toList).length := by rw [← hM]; simp
  have hne : M ≠ [] := by
    intro h
    rw [h] at hM
    exact splitL_ne c _ hM.symm
  have hl := splitL_length c s.data.toList
  have hlt := ho.lt
  obtain ⟨a, cap, rfl, -, hcap, hs, h | ⟨g, rfl, hg⟩⟩ := SlV.of_owns ho
  · simp at h; exact absurd h hne
  · refine ⟨g, cap, rfl, hg, hs, ?_, (hlt g rfl).2, hcap⟩
    simp at hl
    omega
end Go.Proofs.Ytnbnkjmellmmlaa

/-
  FROM THE ROWS' LISTED VARIABLES TO THE FACTS THAT THE LIBRARY's CONTRACTS ASK.
-/
namespace Go.Proofs.Ytnbnkjmellmmlaa
open Go Go.RowKit



end Go.Proofs.Ytnbnkjmellmmlaa

/-
  FROM THE ROWS' LISTED SENTINELS TO THE FACTS THAT strconv.Atoi's CONTRACTS ASK.
-/
namespace Go.Proofs.Ytnbnkjmellmmlaa
open Go Go.RowKit



theorem varIs_below {W W' : World} {n : String} {g : Nat} {cs : Array Value} (hg : Try.prog.globalNamed n = some g) (h : W.var? Try.prog n = some cs) (hb : Below W.heap.size W W') : W'.var? Try.prog n = some cs := by
  have hlt : g < W.heap.size := by
    unfold World.var? at h
    rw [hg] at h
    simp only [Option.bind_some] at h
    rcases Nat.lt_or_ge g W.heap.size with h1 | h1
    · exact h1
    · rw [Array.getElem?_eq_none h1] at h; cases h
  exact var?_below hb hg hlt h
end Go.Proofs.Ytnbnkjmellmmlaa

/-
  CONTRACTS of impl.mustParse, impl.ParseInt and impl.ParseNumber: what 'readOf' says; a malformed text is a panic of mustParse that the two recover.
-/
namespace Go.Proofs.Ytnbnkjmellmmlaa
open Go Go.RowKit




def Panicked (w : World) (e : Ending) (w' : World) : Prop := (∃ v, e = .panicked [{ v := .iface 9 v, recovered := false }]) ∧ Below w.heap.size w w'













end Go.Proofs.Ytnbnkjmellmmlaa

/-
  CONTRACT of impl.Join (strings.Join).
-/
namespace Go.Proofs.Ytnbnkjmellmmlaa
open Go Go.RowKit


end Go.Proofs.Ytnbnkjmellmmlaa

/-
  WHAT THE PROGRAM's CONTRACTS ASK OF GO's LIBRARY's VARIABLES, in one word each, kept from world to world.
-/
namespace Go.Proofs.Ytnbnkjmellmmlaa
open Go Go.RowKit


end Go.Proofs.Ytnbnkjmellmmlaa
