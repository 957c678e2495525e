/-
  CHAPTER 23 WITHOUT THE PROGRAM: pairs and runs, and in how many ways a number is a sum of two. (Own work.)
-/
import Derived.Test.YtopnehkhigacpaaSgA
namespace Go.Proofs.Ytopnehkhigacpaa
open Go Go.RowKit

def pairB (a b : Int) : Bool := inB a 1 1000 && inB b 1 1000 && decide (gcdOf a b = 1)
def pairF (a b : Int) : Int := if pairB a b then a * b - a - b else -1
def pairG (a b : Int) : Int := if pairB a b then (a - 1) * (b - 1) / 2 else -1
def runF (a d k : Int) : Int := if pairB a d && decide (1 ≤ k) && decide (k < a) then (a - 2) / k * a + d * (a - 1) else -1
/-- x times a leaves a multiple of b. -/
def wayB (a b n x : Nat) : Bool := decide (x * a ≤ n) && decide ((n - x * a) % b = 0)
def pairW (a b n : Int) : Int := if pairB a b && inB n 0 1000000 then ((upB (wayB a.toNat b.toNat n.toNat) (n.toNat / a.toNat + 1)).length : Int) else -1
theorem pairB_iff {a b : Int} : pairB a b = true ↔ (1 ≤ a ∧ a ≤ 1000) ∧ (1 ≤ b ∧ b ≤ 1000) ∧ gcdOf a b = 1 := by
  unfold pairB; rw [Bool.and_eq_true, Bool.and_eq_true, inB_iff, inB_iff, decide_eq_true_eq, and_assoc]
theorem upB_mod (b c : Nat) (hc : c < b) : ∀ X, (upB (fun x => decide (x % b = c)) X).length = (X + b - 1 - c) / b := by
  intro X
  induction X with
  | zero => rw [upB_zero, List.length_nil, Nat.div_eq_of_lt (by omega)]
  | succ m ih =>
    rw [upB_succ, div_step (by omega) hc, ← ih]
    by_cases h : m % b = c
    · simp [h]
    · simp [h]
theorem upB_cong {p q : Nat → Bool} {n : Nat} (h : ∀ x, x < n → p x = q x) : upB p n = upB q n := by
  unfold upB
  exact List.filter_congr fun x hx => h x (List.mem_range.1 hx)
theorem way_step {a b n c x : Nat} (hg : Nat.gcd a b = 1) (hc : wayB a b n c = true) (hx : x * a ≤ n) (hcx : c ≤ x) : wayB a b n x = true ↔ (x - c) % b = 0 := by
  unfold wayB at hc ⊢
  rw [Bool.and_eq_true, decide_eq_true_eq, decide_eq_true_eq] at hc ⊢
  obtain ⟨h1, h2⟩ := hc
  have e : n - c * a = (n - x * a) + (x - c) * a := by
    rw [Nat.sub_mul]
    have := Nat.mul_le_mul_right a hcx
    omega
  have d1 := Nat.dvd_of_mod_eq_zero h2
  rw [e] at d1
  constructor
  · rintro ⟨-, h3⟩
    have d2 := Nat.dvd_of_mod_eq_zero h3
    have d3 : b ∣ (x - c) * a := (Nat.dvd_add_right d2).1 d1
    have d4 : b ∣ x - c := (show Nat.Coprime b a by rw [Nat.Coprime, Nat.gcd_comm]; exact hg).dvd_of_dvd_mul_right d3
    exact Nat.mod_eq_zero_of_dvd d4
  · intro h3
    refine ⟨hx, Nat.mod_eq_zero_of_dvd ?_⟩
    have d2 := Nat.dvd_mul_left_of_dvd (Nat.dvd_of_mod_eq_zero h3) a
    rw [Nat.mul_comm] at d2
    exact (Nat.dvd_add_left d2).1 d1
theorem way_less {a b n x : Nat} (hb : b ≤ x) (h : wayB a b n x = true) : wayB a b n (x - b) = true := by
  unfold wayB at h ⊢
  rw [Bool.and_eq_true, decide_eq_true_eq, decide_eq_true_eq] at h ⊢
  obtain ⟨h1, h2⟩ := h
  have h3 := Nat.mul_le_mul_right a (Nat.sub_le x b)
  refine ⟨by omega, ?_⟩
  have h4 := Nat.mul_le_mul_right a hb
  have e : n - (x - b) * a = (n - x * a) + b * a := by rw [Nat.sub_mul]; omega
  rw [e, Nat.add_mul_mod_self_left]
  exact h2
theorem way_none {a b n : Nat} (hb : 1 ≤ b) (h : ∀ c, c < b → wayB a b n c = false) : ∀ x, wayB a b n x = false := by
  intro x
  induction x using Nat.strongRecOn with
  | _ x ih =>
    by_cases hx : x < b
    · exact h x hx
    · rw [Bool.eq_false_iff]
      intro hw
      have := way_less (by omega) hw
      rw [ih (x - b) (by omega)] at this
      cases this
theorem ways_no {a b n : Nat} (hb : 1 ≤ b) (h : ∀ c, c < b → wayB a b n c = false) (X : Nat) : (upB (wayB a b n) X).length = 0 := by
  rw [List.length_eq_zero_iff, List.eq_nil_iff_forall_not_mem]
  intro x hx
  have := (mem_upB.1 hx).2
  rw [way_none hb h x] at this
  cases this
theorem ways_at {a b n c : Nat} (ha : 1 ≤ a) (hg : Nat.gcd a b = 1) (hcb : c < b) (hc : wayB a b n c = true) (hl : ∀ x, x < c → wayB a b n x = false) :
    (upB (wayB a b n) (n / a + 1)).length = (n - c * a) / (a * b) + 1 := by
  have h1 : c * a ≤ n := by unfold wayB at hc; rw [Bool.and_eq_true, decide_eq_true_eq] at hc; exact hc.1
  have h2 : c ≤ n / a := (Nat.le_div_iff_mul_le ha).2 h1
  have e : upB (wayB a b n) (n / a + 1) = upB (fun x => decide (x % b = c)) (n / a + 1) := upB_cong fun x hx => by
    have hxa : x * a ≤ n := (Nat.le_div_iff_mul_le ha).1 (by omega)
    rcases Nat.lt_or_ge x c with h | h
    · rw [hl x h]
      symm
      rw [decide_eq_false_iff_not, Nat.mod_eq_of_lt (by omega)]
      omega
    · have hs := way_step hg hc hxa h
      have hm : (x - c) % b = 0 ↔ x % b = c := by
        have e : x = c + (x - c) := by omega
        constructor
        · intro h0
          obtain ⟨k, hk⟩ := Nat.dvd_of_mod_eq_zero h0
          rw [e, hk, Nat.add_mul_mod_self_left, Nat.mod_eq_of_lt hcb]
        · intro h0
          have : x = b * (x / b) + c := by rw [← h0]; exact (Nat.div_add_mod x b).symm
          rw [show x - c = b * (x / b) by omega, Nat.mul_mod_right]
      rw [Bool.eq_iff_iff, decide_eq_true_eq]
      exact hs.trans hm
  rw [e, upB_mod b c hcb]
  have e2 : n / a + 1 + b - 1 - c = (n / a - c) + b := by omega
  rw [e2, Nat.add_div_right _ (by omega), ← Nat.div_div_eq_div_mul]
  have e3 : (n - c * a) / a = n / a - c := by
    obtain ⟨m, rfl⟩ := Nat.exists_eq_add_of_le h1
    have e4 : (c * a + m) / a = m / a + c := by rw [Nat.add_comm, Nat.add_mul_div_right _ _ (by omega)]
    rw [Nat.add_sub_cancel_left, e4, Nat.add_sub_cancel]
  rw [e3]
theorem pairW_at {a b n : Nat} {c : Nat} (hp : pairB (a : Int) (b : Int) = true) (hn : n ≤ 1000000) (hcb : c < b) (hc : wayB a b n c = true) (hl : ∀ x, x < c → wayB a b n x = false) :
    pairW (a : Int) (b : Int) (n : Int) = (((n - c * a) / (a * b) + 1 : Nat) : Int) := by
  obtain ⟨⟨h1, h2⟩, ⟨h3, h4⟩, h5⟩ := pairB_iff.1 hp
  have hg : Nat.gcd a b = 1 := by
    rw [gcdOf_in (small_iff.2 ⟨by omega, by omega⟩) (small_iff.2 ⟨by omega, by omega⟩)] at h5
    exact_mod_cast h5
  unfold pairW
  rw [hp, inB_iff.2 ⟨by omega, by omega⟩, Bool.and_true, if_pos rfl]
  simp only [Int.toNat_natCast]
  rw [ways_at (by omega) hg hcb hc hl]
theorem pairW_no {a b n : Nat} (hp : pairB (a : Int) (b : Int) = true) (hn : n ≤ 1000000) (h : ∀ c, c < b → wayB a b n c = false) : pairW (a : Int) (b : Int) (n : Int) = 0 := by
  obtain ⟨⟨h1, h2⟩, ⟨h3, h4⟩, h5⟩ := pairB_iff.1 hp
  unfold pairW
  rw [hp, inB_iff.2 ⟨by omega, by omega⟩, Bool.and_true, if_pos rfl]
  simp only [Int.toNat_natCast]
  rw [ways_no (by omega) h]
  rfl
theorem prod2 {a b : Int} (h1 : 1 ≤ a ∧ a ≤ 1000) (h2 : 1 ≤ b ∧ b ≤ 1000) : 1 ≤ a * b ∧ a * b ≤ 1000000 := by
  have e1 := Int.mul_le_mul h1.1 h2.1 (by omega) (by omega)
  have e2 := Int.mul_le_mul h1.2 h2.2 (by omega) (by omega)
  omega
theorem prod0 {a b : Int} (h1 : 0 ≤ a ∧ a ≤ 998) (h2 : 1 ≤ b ∧ b ≤ 1000) : 0 ≤ a * b ∧ a * b ≤ 998000 := by
  have e2 := Int.mul_le_mul h1.2 h2.2 (by omega) (by omega)
  exact ⟨Int.mul_nonneg h1.1 (by omega), by omega⟩
theorem prod1 {a b : Int} (h1 : 1 ≤ a ∧ a ≤ 1000) (h2 : 1 ≤ b ∧ b ≤ 1000) : 0 ≤ (a - 1) * (b - 1) ∧ (a - 1) * (b - 1) ≤ 998001 := by
  have e2 := Int.mul_le_mul (show a - 1 ≤ 999 by omega) (show b - 1 ≤ 999 by omega) (by omega) (by omega)
  exact ⟨Int.mul_nonneg (by omega) (by omega), by omega⟩
theorem prod3 {d a : Int} (h1 : 1 ≤ d ∧ d ≤ 1000) (h2 : 1 ≤ a ∧ a ≤ 1000) : 0 ≤ d * (a - 1) ∧ d * (a - 1) ≤ 999000 := by
  have e2 := Int.mul_le_mul h1.2 (show a - 1 ≤ 999 by omega) (by omega) (by omega)
  exact ⟨Int.mul_nonneg (by omega) (by omega), by omega⟩
theorem div_le2 {x d b : Int} (hx : 0 ≤ x ∧ x ≤ b) (hd : 1 ≤ d) : 0 ≤ x / d ∧ x / d ≤ b := by
  refine ⟨Int.ediv_nonneg hx.1 (by omega), ?_⟩
  have := Int.ediv_le_self d hx.1
  omega
end Go.Proofs.Ytopnehkhigacpaa
