/-
  CONTRACTS of the program's chapter 7, first part: modulus, of, isTooLittle, firstBeyondLimits, firstOfSums. (Own work.)
-/
import Derived.Test.YtgkkkmcgnpdchaaL23
import Derived.Test.YtgkkkmcgnpdchaaI24
namespace Go.Proofs.Ytgkkkmcgnpdchaa
open Go Go.RowKit
attribute [local go_sem] Oper.semAt_some

/-- The first number out of bounds (0: none). -/
def badA (L : List Int) : Nat := ((List.range (L.length + 1)).find? (bad7 L)).getD 0
theorem badA_yes {L : List Int} {r : Nat} (hr : r < L.length + 1) (hb : bad7 L r = true) (hlo : ∀ j, j < r → bad7 L j = false) : badA L = r := by
  unfold badA; rw [find_range hr hb hlo]; rfl
theorem badA_no {L : List Int} (h : ∀ r, r < L.length + 1 → bad7 L r = false) : badA L = 0 := by
  unfold badA; rw [find_range_none h]; rfl
/-- What the first search says of the clash. -/
theorem badA_clash (L : List Int) : (badA L = 0 ∧ ∀ r, r < L.length + 1 → bad7 L r = false) ∨ (1 ≤ badA L ∧ badA L ≤ L.length ∧ clashR L = some (badA L, 0)) := by
  cases h : (List.range (L.length + 1)).find? (bad7 L) with
  | none =>
    have h0 := List.find?_eq_none.1 h
    refine .inl ⟨by unfold badA; rw [h]; rfl, fun r hr => ?_⟩
    have := h0 r (List.mem_range.2 hr)
    cases hb : bad7 L r
    · rfl
    · rw [hb] at this; exact absurd rfl this
  | some r =>
    have h1 := List.find?_some h
    have h2 := List.mem_range.1 (List.mem_of_find?_eq_some h)
    have e : badA L = r := by unfold badA; rw [h]; rfl
    refine .inr ⟨?_, by omega, ?_⟩
    · rw [e]
      unfold bad7 at h1
      rw [Bool.and_eq_true, decide_eq_true_eq] at h1
      exact h1.1
    · unfold clashR
      rw [h, e]

theorem impl_modulus (n : Nat) (a : Option Addr) (cap : Nat) (w : World) (hb : n ≤ 1048576) :
    Calls Try.prog 52 #[.slice a n cap] w fun e w' => e = .returned (.int .i64 ((n : Int) + 1)) ∧ w' = w := by
  go_enter Try.func52, Try.ntmps52
  go_wp2_with fail
  go_ret
  exact ⟨rfl, rfl⟩

theorem at7_cell {L : List Int} {w : World} {a : Option Addr} (hr : SlV w a (L.map (Value.int .i64))) {j : Nat} (hj : j < L.length) : ∃ b off, a = some ⟨b, off, none⟩ ∧ w.cell? ⟨b, off + j, none⟩ = some (.int .i64 (at7 L (j + 1))) := by
  obtain ⟨b, off, rfl, -, hc⟩ := hr.open (by intro h; rw [List.map_eq_nil_iff] at h; subst h; simp at hj)
  refine ⟨b, off, rfl, ?_⟩
  rw [hc j (.int .i64 L[j]) (by simp [hj])]
  unfold at7
  rw [show j + 1 - 1 = j by omega, List.getD_eq_getElem?_getD, List.getElem?_eq_getElem hj]; rfl

set_option maxRecDepth 100000 in
set_option maxHeartbeats 400000 in
theorem impl_of (L : List Int) (r : Nat) (a : Option Addr) (cap : Nat) (w : World) (hr : SlV w a (L.map (Value.int .i64))) (hb : L.length ≤ 1048576) (h1 : 1 ≤ r) (h2 : r ≤ L.length) :
    Calls Try.prog 92 #[.slice a L.length cap, .int .i64 (r : Int)] w fun e w' => e = .returned (.int .i64 (at7 L r)) ∧ w' = w := by
  obtain ⟨j, rfl⟩ : ∃ j, r = j + 1 := ⟨r - 1, by omega⟩
  have hw1 : IntKind.i64.wrap (((j + 1 : Nat) : Int) - 1) = (j : Int) := by rw [IntWalk.i64_in _ (by omega)]; omega
  have hw2 : ((j + 1 : Nat) : Int) - 1 = (j : Int) := by omega
  have hv1 : (0 : Int) ≤ (j : Int) := by omega
  have hv2 : (j : Int) < (L.length : Int) := by omega
  obtain ⟨b, off, rfl, hcell⟩ := at7_cell hr (show j < L.length by omega)
  clear hr
  generalize at7 L (j + 1) = x at *
  go_enter Try.func92, Try.ntmps92
  go_wp2_with fail
  go_ret
  exact ⟨rfl, rfl⟩

set_option maxRecDepth 100000 in
set_option maxHeartbeats 1600000 in
theorem impl_isTooLittle (L : List Int) (x y : Nat) (a : Option Addr) (cap : Nat) (w : World) (hr : SlV w a (L.map (Value.int .i64))) (hb : L.length ≤ 1048576) (hx : 1 ≤ x) (hxy : x ≤ y) (hy : y ≤ L.length)
    (HBB : ∀ j, 1 ≤ j → j < L.length + 1 → 1 ≤ at7 L j ∧ at7 L j ≤ 200) :
    Calls Try.prog 93 #[.slice a L.length cap, .int .i64 (x : Int), .int .i64 (y : Int)] w fun e w' => e = .returned (.bool (clash7 L x y)) ∧ w' = w := by
  have cm := impl_modulus L.length a cap w hb
  have c1 := impl_of L x a cap w hr hb hx (by omega)
  have c2 := impl_of L y a cap w hr hb (by omega) hy
  obtain ⟨p1, p2⟩ := HBB x hx (by omega)
  obtain ⟨q1, q2⟩ := HBB y (by omega) (by omega)
  have HCL : Hid (clash7 L x y = ((decide (x + y < L.length + 1) && decide (at7 L x + at7 L y < at7 L (x + y))) || (decide (L.length + 1 < x + y) && decide (at7 L x + at7 L y + 1 < at7 L (x + y - (L.length + 1)))))) := Lib.hid rfl
  have hw0 : IntKind.i64.wrap (at7 L x + at7 L y) = at7 L x + at7 L y := IntWalk.i64_in _ (by omega)
  have hw3 : IntKind.i64.wrap ((x : Int) + (y : Int)) = (x : Int) + (y : Int) := IntWalk.i64_in _ (by omega)
  rcases Nat.lt_trichotomy (x + y) (L.length + 1) with h | h | h
  · have c3 := impl_of L (x + y) a cap w hr hb (by omega) (by omega)
    rw [Int.natCast_add] at c3
    have hd := decide_eq_true (show (x : Int) + (y : Int) < (L.length : Int) + 1 by omega)
    have HE : Hid (clash7 L x y = decide (at7 L x + at7 L y < at7 L (x + y))) := Lib.hid (by rw [HCL.out, decide_eq_true h, decide_eq_false (by omega : ¬ L.length + 1 < x + y)]; simp)
    clear HCL hr HBB
    generalize at7 L x = p at *
    generalize at7 L y = q at *
    generalize at7 L (x + y) = r at *
    go_enter Try.func93, Try.ntmps93
    go_wp2_with fail
    refine cm.mono ?_
    rintro e w' ⟨rfl, rfl⟩
    go_wp2_with fail
    refine c1.mono ?_
    rintro e w' ⟨rfl, rfl⟩
    go_wp2_with fail
    refine c2.mono ?_
    rintro e w' ⟨rfl, rfl⟩
    go_wp2_with fail
    refine c3.mono ?_
    rintro e w' ⟨rfl, rfl⟩
    go_wp2_with fail
    go_ret
    exact ⟨by rw [HE.out]; rfl, rfl⟩
  · have hd := decide_eq_false (show ¬ (x : Int) + (y : Int) < (L.length : Int) + 1 by omega)
    have hd2 := decide_eq_false (show ¬ (L.length : Int) + 1 < (x : Int) + (y : Int) by omega)
    have HE : Hid (clash7 L x y = false) := Lib.hid (by rw [HCL.out, decide_eq_false (by omega : ¬ x + y < L.length + 1), decide_eq_false (by omega : ¬ L.length + 1 < x + y)]; rfl)
    clear HCL hr HBB
    generalize at7 L x = p at *
    generalize at7 L y = q at *
    go_enter Try.func93, Try.ntmps93
    go_wp2_with fail
    refine cm.mono ?_
    rintro e w' ⟨rfl, rfl⟩
    go_wp2_with fail
    refine c1.mono ?_
    rintro e w' ⟨rfl, rfl⟩
    go_wp2_with fail
    refine c2.mono ?_
    rintro e w' ⟨rfl, rfl⟩
    go_wp2_with fail
    go_ret
    exact ⟨by rw [HE.out]; rfl, rfl⟩
  · have c3 := impl_of L (x + y - (L.length + 1)) a cap w hr hb (by omega) (by omega)
    have hcast : ((x + y - (L.length + 1) : Nat) : Int) = (x : Int) + (y : Int) - ((L.length : Int) + 1) := by omega
    rw [hcast] at c3
    have hw4 : IntKind.i64.wrap ((x : Int) + (y : Int) - ((L.length : Int) + 1)) = (x : Int) + (y : Int) - ((L.length : Int) + 1) := IntWalk.i64_in _ (by omega)
    have hd := decide_eq_false (show ¬ (x : Int) + (y : Int) < (L.length : Int) + 1 by omega)
    have hd2 := decide_eq_true (show (L.length : Int) + 1 < (x : Int) + (y : Int) by omega)
    have HE : Hid (clash7 L x y = decide (at7 L x + at7 L y + 1 < at7 L (x + y - (L.length + 1)))) := Lib.hid (by rw [HCL.out, decide_eq_true h, decide_eq_false (by omega : ¬ x + y < L.length + 1)]; simp)
    clear HCL hr HBB hcast
    generalize at7 L x = p at *
    generalize at7 L y = q at *
    generalize at7 L (x + y - (L.length + 1)) = r at *
    have hw5 : IntKind.i64.wrap (p + q + 1) = p + q + 1 := IntWalk.i64_in _ (by omega)
    go_enter Try.func93, Try.ntmps93
    go_wp2_with fail
    refine cm.mono ?_
    rintro e w' ⟨rfl, rfl⟩
    go_wp2_with fail
    refine c1.mono ?_
    rintro e w' ⟨rfl, rfl⟩
    go_wp2_with fail
    refine c2.mono ?_
    rintro e w' ⟨rfl, rfl⟩
    go_wp2_with fail
    refine c3.mono ?_
    rintro e w' ⟨rfl, rfl⟩
    go_wp2_with fail
    go_ret
    exact ⟨by rw [HE.out]; rfl, rfl⟩
end Go.Proofs.Ytgkkkmcgnpdchaa
