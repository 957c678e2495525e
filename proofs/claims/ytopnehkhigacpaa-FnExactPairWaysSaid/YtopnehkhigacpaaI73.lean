/-
  CONTRACTS of the program's chapter 23: pairs and runs. (Own work: mk73.py.)
-/
import Derived.Test.YtopnehkhigacpaaSgFe
import Derived.Test.YtopnehkhigacpaaCh2
namespace Go.Proofs.Ytopnehkhigacpaa
open Go Go.RowKit
attribute [local go_sem] Oper.semAt_some

set_option maxRecDepth 100000 in
set_option maxHeartbeats 800000 in
theorem impl_isOfFew (n : Int) (w : World) : Calls Try.prog 105 #[.int .i64 n] w fun e w' => e = .returned (.bool (inB n 1 1000)) ∧ w' = w := by
  by_cases h1 : 1 ≤ n
  · by_cases h2 : n ≤ 1000
    · have HR : Hid (inB n 1 1000 = true) := Lib.hid (inB_iff.2 ⟨h1, h2⟩)
      go_enter Try.func105, Try.ntmps105
      go_wp2_with fail
      go_ret
      exact ⟨by rw [HR.out]; rfl, rfl⟩
    · have HR : Hid (inB n 1 1000 = false) := Lib.hid (by rw [Bool.eq_false_iff]; intro h; have := inB_iff.1 h; omega)
      go_enter Try.func105, Try.ntmps105
      go_wp2_with fail
      go_ret
      exact ⟨by rw [HR.out]; rfl, rfl⟩
  · have HR : Hid (inB n 1 1000 = false) := Lib.hid (by rw [Bool.eq_false_iff]; intro h; have := inB_iff.1 h; omega)
    go_enter Try.func105, Try.ntmps105
    go_wp2_with fail
    go_ret
    exact ⟨by rw [HR.out]; rfl, rfl⟩

set_option maxRecDepth 100000 in
set_option maxHeartbeats 800000 in
theorem impl_isPair (a b : Int) (w : World) : Calls Try.prog 74 #[.int .i64 a, .int .i64 b] w fun e w' => e = .returned (.bool (pairB a b)) ∧ Below w.heap.size w w' := by
  have c1 := fun w => impl_isOfFew a w
  have c2 := fun w => impl_isOfFew b w
  have c3 := fun w => impl_GcdOf a b w
  cases ha : inB a 1 1000
  · have HR : Hid (pairB a b = false) := Lib.hid (by unfold pairB; rw [ha]; rfl)
    rw [ha] at c1
    clear ha c2 c3
    go_enter Try.func74, Try.ntmps74
    go_wp2_with fail
    refine (c1 _).mono ?_
    rintro e w1 ⟨rfl, rfl⟩
    go_wp2_with fail
    go_ret
    exact ⟨by rw [HR.out]; rfl, Below.refl _ _⟩
  · rw [ha] at c1
    cases hb : inB b 1 1000
    · have HR : Hid (pairB a b = false) := Lib.hid (by unfold pairB; rw [ha, hb]; rfl)
      rw [hb] at c2
      clear ha hb c3
      go_enter Try.func74, Try.ntmps74
      go_wp2_with fail
      refine (c1 _).mono ?_
      rintro e w1 ⟨rfl, rfl⟩
      go_wp2_with fail
      refine (c2 _).mono ?_
      rintro e w2 ⟨rfl, rfl⟩
      go_wp2_with fail
      go_ret
      exact ⟨by rw [HR.out]; rfl, Below.refl _ _⟩
    · rw [hb] at c2
      have HR : Hid (pairB a b = decide (gcdOf a b = 1)) := Lib.hid (by unfold pairB; rw [ha, hb]; rfl)
      clear ha hb
      generalize gcdOf a b = g at *
      go_enter Try.func74, Try.ntmps74
      go_wp2_with fail
      refine (c1 _).mono ?_
      rintro e w1 ⟨rfl, rfl⟩
      go_wp2_with fail
      refine (c2 _).mono ?_
      rintro e w2 ⟨rfl, rfl⟩
      go_wp2_with fail
      refine (c3 _).mono ?_
      rintro e w3 ⟨rfl, hb3⟩
      go_wp2_with fail
      go_ret
      exact ⟨by rw [HR.out]; rfl, hb3⟩

set_option maxRecDepth 100000 in
set_option maxHeartbeats 800000 in
theorem impl_PairFrobenius (a b : Int) (w : World) : Calls Try.prog 32 #[.int .i64 a, .int .i64 b] w fun e w' => e = .returned (.int .i64 (pairF a b)) ∧ Below w.heap.size w w' := by
  have c1 := fun w => impl_isPair a b w
  cases hp : pairB a b
  · have HR : Hid (pairF a b = -1) := Lib.hid (by unfold pairF; rw [hp]; rfl)
    rw [hp] at c1
    clear hp
    go_enter Try.func32, Try.ntmps32
    go_wp2_with fail
    refine (c1 _).mono ?_
    rintro e w1 ⟨rfl, hb1⟩
    go_wp2_with fail
    go_ret
    exact ⟨by rw [HR.out]; rfl, hb1⟩
  · obtain ⟨h1, h2, -⟩ := pairB_iff.1 hp
    have HR : Hid (pairF a b = a * b - a - b) := Lib.hid (by unfold pairF; rw [hp]; rfl)
    rw [hp] at c1
    clear hp
    have hp := prod2 h1 h2
    go_enter Try.func32, Try.ntmps32
    go_wp2_with fail
    refine (c1 _).mono ?_
    rintro e w1 ⟨rfl, hb1⟩
    go_wp2_with fail
    go_ret
    exact ⟨by rw [HR.out]; rfl, hb1⟩

set_option maxRecDepth 100000 in
set_option maxHeartbeats 800000 in
theorem impl_PairGenus (a b : Int) (w : World) : Calls Try.prog 34 #[.int .i64 a, .int .i64 b] w fun e w' => e = .returned (.int .i64 (pairG a b)) ∧ Below w.heap.size w w' := by
  have c1 := fun w => impl_isPair a b w
  cases hp : pairB a b
  · have HR : Hid (pairG a b = -1) := Lib.hid (by unfold pairG; rw [hp]; rfl)
    rw [hp] at c1
    clear hp
    go_enter Try.func34, Try.ntmps34
    go_wp2_with fail
    refine (c1 _).mono ?_
    rintro e w1 ⟨rfl, hb1⟩
    go_wp2_with fail
    go_ret
    exact ⟨by rw [HR.out]; rfl, hb1⟩
  · obtain ⟨h1, h2, -⟩ := pairB_iff.1 hp
    have HR : Hid (pairG a b = (a - 1) * (b - 1) / 2) := Lib.hid (by unfold pairG; rw [hp]; rfl)
    rw [hp] at c1
    clear hp
    have hp := prod1 h1 h2
    have htd : ((a - 1) * (b - 1)).tdiv 2 = (a - 1) * (b - 1) / 2 := Int.tdiv_eq_ediv_of_nonneg (by omega)
    have hw1 : IntKind.i64.wrap ((a - 1) * (b - 1) / 2) = (a - 1) * (b - 1) / 2 := IntWalk.i64_in _ (by omega)
    go_enter Try.func34, Try.ntmps34
    go_wp2_with fail
    refine (c1 _).mono ?_
    rintro e w1 ⟨rfl, hb1⟩
    go_wp2_with fail
    go_ret
    exact ⟨by rw [HR.out]; rfl, hb1⟩

set_option maxRecDepth 100000 in
set_option maxHeartbeats 800000 in
theorem impl_RunFrobenius (a d k : Int) (w : World) : Calls Try.prog 38 #[.int .i64 a, .int .i64 d, .int .i64 k] w fun e w' => e = .returned (.int .i64 (runF a d k)) ∧ Below w.heap.size w w' := by
  have c1 := fun w => impl_isPair a d w
  cases hp : pairB a d
  · have HR : Hid (runF a d k = -1) := Lib.hid (by unfold runF; rw [hp]; rfl)
    rw [hp] at c1
    clear hp
    go_enter Try.func38, Try.ntmps38
    go_wp2_with fail
    refine (c1 _).mono ?_
    rintro e w1 ⟨rfl, hb1⟩
    go_wp2_with fail
    go_ret
    exact ⟨by rw [HR.out]; rfl, hb1⟩
  · obtain ⟨h1, h2, -⟩ := pairB_iff.1 hp
    have HB : Hid (runF a d k = if decide (1 ≤ k) && decide (k < a) then (a - 2) / k * a + d * (a - 1) else -1) := Lib.hid (by unfold runF; rw [hp, Bool.true_and])
    rw [hp] at c1
    clear hp
    by_cases hk1 : k < 1
    · have HR : Hid (runF a d k = -1) := Lib.hid (by rw [HB.out, decide_eq_false (show ¬ 1 ≤ k by omega)]; rfl)
      go_enter Try.func38, Try.ntmps38
      go_wp2_with fail
      refine (c1 _).mono ?_
      rintro e w1 ⟨rfl, hb1⟩
      go_wp2_with fail
      go_ret
      exact ⟨by rw [HR.out]; rfl, hb1⟩
    · by_cases hk2 : a ≤ k
      · have HR : Hid (runF a d k = -1) := Lib.hid (by rw [HB.out, decide_eq_false (show ¬ k < a by omega), Bool.and_false]; rfl)
        go_enter Try.func38, Try.ntmps38
        go_wp2_with fail
        refine (c1 _).mono ?_
        rintro e w1 ⟨rfl, hb1⟩
        go_wp2_with fail
        go_ret
        exact ⟨by rw [HR.out]; rfl, hb1⟩
      · have HR : Hid (runF a d k = (a - 2) / k * a + d * (a - 1)) := Lib.hid (by rw [HB.out, decide_eq_true (show 1 ≤ k by omega), decide_eq_true (show k < a by omega)]; rfl)
        clear HB
        have hk0 : k ≠ 0 := by omega
        have hkz : (k == 0) = false := by rw [beq_eq_false_iff_ne]; exact hk0
        have htd : (a - 2).tdiv k = (a - 2) / k := Int.tdiv_eq_ediv_of_nonneg (by omega)
        have hq := div_le2 (x := a - 2) (d := k) (b := 998) ⟨by omega, by omega⟩ (by omega)
        have hw1 : IntKind.i64.wrap ((a - 2) / k) = (a - 2) / k := IntWalk.i64_in _ (by omega)
        have hpa := prod0 hq (b := a) ⟨by omega, h1.2⟩
        have hpd := prod3 h2 (a := a) ⟨by omega, h1.2⟩
        generalize (a - 2) / k = q at *
        go_enter Try.func38, Try.ntmps38
        go_wp2_with fail
        refine (c1 _).mono ?_
        rintro e w1 ⟨rfl, hb1⟩
        go_wp2_with fail
        go_ret
        exact ⟨by rw [HR.out]; rfl, hb1⟩

set_option maxRecDepth 100000 in
set_option maxHeartbeats 1600000 in
theorem impl_PairWays (a b n : Int) (w : World) : Calls Try.prog 36 #[.int .i64 a, .int .i64 b, .int .i64 n] w fun e w' => e = .returned (.int .i64 (pairW a b n)) ∧ Below w.heap.size w w' := by
  have c1 := fun w => impl_isPair a b w
  cases hp : pairB a b
  · have HR : Hid (pairW a b n = -1) := Lib.hid (by unfold pairW; rw [hp]; rfl)
    rw [hp] at c1
    clear hp
    go_enter Try.func36, Try.ntmps36
    go_wp2_with fail
    refine (c1 _).mono ?_
    rintro e w1 ⟨rfl, hb1⟩
    go_wp2_with fail
    go_ret
    exact ⟨by rw [HR.out]; rfl, hb1⟩
  · rw [hp] at c1
    by_cases hn0 : n < 0
    · have HR : Hid (pairW a b n = -1) := Lib.hid (by unfold pairW; rw [show inB n 0 1000000 = false by rw [Bool.eq_false_iff]; intro h; have := inB_iff.1 h; omega, Bool.and_false]; rfl)
      clear hp
      go_enter Try.func36, Try.ntmps36
      go_wp2_with fail
      refine (c1 _).mono ?_
      rintro e w1 ⟨rfl, hb1⟩
      go_wp2_with fail
      go_ret
      exact ⟨by rw [HR.out]; rfl, hb1⟩
    · by_cases hn1 : 1000000 < n
      · have HR : Hid (pairW a b n = -1) := Lib.hid (by unfold pairW; rw [show inB n 0 1000000 = false by rw [Bool.eq_false_iff]; intro h; have := inB_iff.1 h; omega, Bool.and_false]; rfl)
        clear hp
        go_enter Try.func36, Try.ntmps36
        go_wp2_with fail
        refine (c1 _).mono ?_
        rintro e w1 ⟨rfl, hb1⟩
        go_wp2_with fail
        go_ret
        exact ⟨by rw [HR.out]; rfl, hb1⟩
      · obtain ⟨h1, h2, -⟩ := pairB_iff.1 hp
        obtain ⟨A, rfl⟩ := Int.eq_ofNat_of_zero_le (show 0 ≤ a by omega)
        obtain ⟨B, rfl⟩ := Int.eq_ofNat_of_zero_le (show 0 ≤ b by omega)
        obtain ⟨N, rfl⟩ := Int.eq_ofNat_of_zero_le (show 0 ≤ n by omega)
        have HAT := Lib.hid fun (c : Nat) => pairW_at (c := c) hp (show N ≤ 1000000 by omega)
        have HNO := Lib.hid (pairW_no hp (show N ≤ 1000000 by omega))
        have hB0 : (B : Int) ≠ 0 := by omega
        have hBz : ((B : Int) == 0) = false := by rw [beq_eq_false_iff_ne]; exact hB0
        have hAB := prod2 h1 h2
        have hAB0 : (A : Int) * (B : Int) ≠ 0 := by omega
        have hABz : ((A : Int) * (B : Int) == 0) = false := by rw [beq_eq_false_iff_ne]; exact hAB0
        clear hp
        go_enter Try.func36, Try.ntmps36
        go_wp2_with fail
        refine (c1 _).mono ?_
        rintro e w1 ⟨rfl, hb1⟩
        go_wp2_with fail
        clear c1
        go_loop [22] (fun i => ∃ k : Nat, k ≤ B ∧ i = .int .i64 (k : Int) ∧ ∀ c, c < k → wayB A B N c = false) (fun i => B - (intOf i).toNat)
        case atStart => exact ⟨0, Nat.zero_le _, rfl, fun c h => absurd h (Nat.not_lt_zero c)⟩
        case round =>
          obtain ⟨k, hk, rfl, hno⟩ := hrel
          have HP := Lib.hid hno
          clear hno
          by_cases hlt : k < B
          · have hki : (k : Int) < (B : Int) := by omega
            have hp0 : 0 ≤ (k : Int) * (A : Int) := Int.mul_nonneg (by omega) (by omega)
            have hp1 : (k : Int) * (A : Int) ≤ 1000 * 1000 := Int.mul_le_mul (by omega) (by omega) (by omega) (by omega)
            by_cases hle : k * A ≤ N
            · have hle2 : (k : Int) * (A : Int) ≤ (N : Int) := by rw [← Int.natCast_mul]; omega
              have hl0 : 0 ≤ (N : Int) - (k : Int) * (A : Int) := by omega
              have hrem : ((N : Int) - (k : Int) * (A : Int)).tmod (B : Int) = (((N - k * A) % B : Nat) : Int) := by
                rw [Int.tmod_eq_emod_of_nonneg (by omega), ← Int.natCast_mul, ← Int.ofNat_sub hle, Int.natCast_emod]
              have htd : ((N : Int) - (k : Int) * (A : Int)).tdiv ((A : Int) * (B : Int)) = (((N - k * A) / (A * B) : Nat) : Int) := by
                rw [Int.tdiv_eq_ediv_of_nonneg (by omega), ← Int.natCast_mul, ← Int.natCast_mul, ← Int.ofNat_sub hle, Int.natCast_ediv]
              have hqb : (N - k * A) / (A * B) ≤ N - k * A := Nat.div_le_self _ _
              have hqn : N - k * A ≤ N := Nat.sub_le _ _
              have HW : Hid (wayB A B N k = decide ((N - k * A) % B = 0)) := Lib.hid (by unfold wayB; rw [decide_eq_true hle, Bool.true_and])
              have hrb : (N - k * A) % B < B := Nat.mod_lt _ (by omega)
              have HATk := Lib.hid (HAT.out k hlt)
              generalize (N - k * A) % B = r at *
              generalize (N - k * A) / (A * B) = q at *
              have hwq : IntKind.i64.wrap (q : Int) = (q : Int) := IntWalk.i64_in _ (by omega)
              by_cases hr : r = 0
              · subst hr
                have hri : (((0 : Nat) : Int) == 0) = true := rfl
                have HR : Hid (pairW (A : Int) (B : Int) (N : Int) = (q : Int) + 1) := Lib.hid (by rw [HATk.out (by rw [HW.out]; rfl) HP.out]; simp)
                clear HATk HW HP HNO HAT
                go_wp2_with fail
                go_ret
                exact ⟨by rw [HR.out]; rfl, hb1⟩
              · have hri : ((r : Int) == 0) = false := by rw [beq_eq_false_iff_ne]; omega
                have HN : Hid (∀ c, c < k + 1 → wayB A B N c = false) := Lib.hid (fun c hc => by
                  rcases Nat.lt_or_ge c k with h | h
                  · exact HP.out c h
                  · rw [show c = k by omega, HW.out]; simp [hr])
                clear HATk HW HP
                go_wp2_with fail
                go_round
                case rel => exact ⟨k + 1, by omega, by go_num, HN.out⟩
                case measure => simp [intOf]; omega
            · have hle2 : (N : Int) < (k : Int) * (A : Int) := by rw [← Int.natCast_mul]; omega
              have hl0 : ¬ 0 ≤ (N : Int) - (k : Int) * (A : Int) := by omega
              have HN : Hid (∀ c, c < k + 1 → wayB A B N c = false) := Lib.hid (fun c hc => by
                rcases Nat.lt_or_ge c k with h | h
                · exact HP.out c h
                · rw [show c = k by omega]; unfold wayB; rw [decide_eq_false hle, Bool.false_and])
              clear HP
              go_wp2_with fail
              go_round
              case rel => exact ⟨k + 1, by omega, by go_num, HN.out⟩
              case measure => simp [intOf]; omega
          · obtain rfl : k = B := by omega
            have HR : Hid (pairW (A : Int) (k : Int) (N : Int) = 0) := Lib.hid (HNO.out HP.out)
            clear HNO HAT HP
            go_wp2_with fail
            go_ret
            exact ⟨by rw [HR.out]; rfl, hb1⟩

end Go.Proofs.Ytopnehkhigacpaa
