/-
  CONTRACTS of the reference's chapter 23: pairs and runs. (Own work: mk73.py.)
-/
import Derived.Test.YtopnehkhigacpaaSgFe
import Derived.Test.YtopnehkhigacpaaL51
namespace Go.Proofs.Ytopnehkhigacpaa
open Go Go.RowKit
attribute [local go_sem] Oper.semAt_some

set_option maxRecDepth 100000 in
set_option maxHeartbeats 800000 in
theorem spec_l23Pair (a b : Int) (w : World) : Calls Try.prog 73 #[.int .i64 a, .int .i64 b] w fun e w' => e = .returned (.bool (pairB a b)) ∧ w' = w := by
  have c1 := fun w => l1In_any a 1 1000 w
  have c2 := fun w => l1In_any b 1 1000 w
  have c3 := fun w => spec_GcdOf a b w
  cases ha : inB a 1 1000
  · have HR : Hid (pairB a b = false) := Lib.hid (by unfold pairB; rw [ha]; rfl)
    rw [ha] at c1
    clear ha c2 c3
    go_enter Try.func73, Try.ntmps73
    go_wp2_with fail
    refine (c1 _).mono ?_
    rintro e w1 ⟨rfl, rfl⟩
    go_wp2_with fail
    go_ret
    exact ⟨by rw [HR.out]; rfl, rfl⟩
  · rw [ha] at c1
    cases hb : inB b 1 1000
    · have HR : Hid (pairB a b = false) := Lib.hid (by unfold pairB; rw [ha, hb]; rfl)
      rw [hb] at c2
      clear ha hb c3
      go_enter Try.func73, Try.ntmps73
      go_wp2_with fail
      refine (c1 _).mono ?_
      rintro e w1 ⟨rfl, rfl⟩
      go_wp2_with fail
      refine (c2 _).mono ?_
      rintro e w2 ⟨rfl, rfl⟩
      go_wp2_with fail
      go_ret
      exact ⟨by rw [HR.out]; rfl, rfl⟩
    · rw [hb] at c2
      have HR : Hid (pairB a b = decide (gcdOf a b = 1)) := Lib.hid (by unfold pairB; rw [ha, hb]; rfl)
      clear ha hb
      generalize gcdOf a b = g at *
      go_enter Try.func73, Try.ntmps73
      go_wp2_with fail
      refine (c1 _).mono ?_
      rintro e w1 ⟨rfl, rfl⟩
      go_wp2_with fail
      refine (c2 _).mono ?_
      rintro e w2 ⟨rfl, rfl⟩
      go_wp2_with fail
      refine (c3 _).mono ?_
      rintro e w3 ⟨rfl, rfl⟩
      go_wp2_with fail
      go_ret
      exact ⟨by rw [HR.out]; rfl, rfl⟩

set_option maxRecDepth 100000 in
set_option maxHeartbeats 800000 in
theorem spec_PairFrobenius (a b : Int) (w : World) : Calls Try.prog 31 #[.int .i64 a, .int .i64 b] w fun e w' => e = .returned (.int .i64 (pairF a b)) ∧ Below w.heap.size w w' := by
  have c1 := fun w => spec_l23Pair a b w
  cases hp : pairB a b
  · have HR : Hid (pairF a b = -1) := Lib.hid (by unfold pairF; rw [hp]; rfl)
    rw [hp] at c1
    clear hp
    go_enter Try.func31, Try.ntmps31
    go_wp2_with fail
    refine (c1 _).mono ?_
    rintro e w1 ⟨rfl, rfl⟩
    go_wp2_with fail
    go_ret
    exact ⟨by rw [HR.out]; rfl, Below.refl _ _⟩
  · obtain ⟨h1, h2, -⟩ := pairB_iff.1 hp
    have HR : Hid (pairF a b = a * b - a - b) := Lib.hid (by unfold pairF; rw [hp]; rfl)
    rw [hp] at c1
    clear hp
    have hp := prod2 h1 h2
    go_enter Try.func31, Try.ntmps31
    go_wp2_with fail
    refine (c1 _).mono ?_
    rintro e w1 ⟨rfl, rfl⟩
    go_wp2_with fail
    go_ret
    exact ⟨by rw [HR.out]; rfl, Below.refl _ _⟩

set_option maxRecDepth 100000 in
set_option maxHeartbeats 800000 in
theorem spec_PairGenus (a b : Int) (w : World) : Calls Try.prog 33 #[.int .i64 a, .int .i64 b] w fun e w' => e = .returned (.int .i64 (pairG a b)) ∧ Below w.heap.size w w' := by
  have c1 := fun w => spec_l23Pair a b w
  cases hp : pairB a b
  · have HR : Hid (pairG a b = -1) := Lib.hid (by unfold pairG; rw [hp]; rfl)
    rw [hp] at c1
    clear hp
    go_enter Try.func33, Try.ntmps33
    go_wp2_with fail
    refine (c1 _).mono ?_
    rintro e w1 ⟨rfl, rfl⟩
    go_wp2_with fail
    go_ret
    exact ⟨by rw [HR.out]; rfl, Below.refl _ _⟩
  · obtain ⟨h1, h2, -⟩ := pairB_iff.1 hp
    have HR : Hid (pairG a b = (a - 1) * (b - 1) / 2) := Lib.hid (by unfold pairG; rw [hp]; rfl)
    rw [hp] at c1
    clear hp
    have hp := prod1 h1 h2
    have htd : ((a - 1) * (b - 1)).tdiv 2 = (a - 1) * (b - 1) / 2 := Int.tdiv_eq_ediv_of_nonneg (by omega)
    have hw1 : IntKind.i64.wrap ((a - 1) * (b - 1) / 2) = (a - 1) * (b - 1) / 2 := IntWalk.i64_in _ (by omega)
    go_enter Try.func33, Try.ntmps33
    go_wp2_with fail
    refine (c1 _).mono ?_
    rintro e w1 ⟨rfl, rfl⟩
    go_wp2_with fail
    go_ret
    exact ⟨by rw [HR.out]; rfl, Below.refl _ _⟩

set_option maxRecDepth 100000 in
set_option maxHeartbeats 800000 in
theorem spec_RunFrobenius (a d k : Int) (w : World) : Calls Try.prog 37 #[.int .i64 a, .int .i64 d, .int .i64 k] w fun e w' => e = .returned (.int .i64 (runF a d k)) ∧ Below w.heap.size w w' := by
  have c1 := fun w => l1In_any a 2 1000 w
  have c2 := fun w => l1In_any d 1 1000 w
  have c3 := fun w => spec_GcdOf a d w
  cases ha : inB a 2 1000
  · have HR : Hid (runF a d k = -1) := Lib.hid (by
      unfold runF; rw [if_neg]; intro h; rw [Bool.and_eq_true, Bool.and_eq_true, decide_eq_true_eq, decide_eq_true_eq] at h
      obtain ⟨⟨h1, h2⟩, h3⟩ := h
      have := (pairB_iff.1 h1).1
      rw [inB_iff.2 ⟨by omega, by omega⟩] at ha; cases ha)
    rw [ha] at c1
    clear ha c2 c3
    go_enter Try.func37, Try.ntmps37
    go_wp2_with fail
    refine (c1 _).mono ?_
    rintro e w1 ⟨rfl, rfl⟩
    go_wp2_with fail
    go_ret
    exact ⟨by rw [HR.out]; rfl, Below.refl _ _⟩
  · have h1 := inB_iff.1 ha
    have ck := fun w => l1In_any k 1 (a - 1) w
    have hwa : IntKind.i64.wrap (a - 1) = a - 1 := IntWalk.i64_in _ (by omega)
    rw [ha] at c1
    have HB : Hid (runF a d k = if inB d 1 1000 && decide (gcdOf a d = 1) && inB k 1 (a - 1) then (a - 2) / k * a + d * (a - 1) else -1) := Lib.hid (by
      unfold runF pairB
      rw [show inB a 1 1000 = true from inB_iff.2 ⟨by omega, by omega⟩, Bool.true_and]
      congr 1
      rw [Bool.and_assoc (inB d 1 1000 && _), show (decide (1 ≤ k) && decide (k < a)) = inB k 1 (a - 1) from by
        unfold inB; congr 1; by_cases h : k < a
        · rw [decide_eq_true h, decide_eq_true (show k ≤ a - 1 by omega)]
        · rw [decide_eq_false h, decide_eq_false (show ¬ k ≤ a - 1 by omega)]])
    clear ha
    cases hd : inB d 1 1000
    · have HR : Hid (runF a d k = -1) := Lib.hid (by rw [HB.out, hd]; rfl)
      rw [hd] at c2
      clear hd c3 HB
      go_enter Try.func37, Try.ntmps37
      go_wp2_with fail
      refine (c1 _).mono ?_
      rintro e w1 ⟨rfl, rfl⟩
      go_wp2_with fail
      refine (c2 _).mono ?_
      rintro e w2 ⟨rfl, rfl⟩
      go_wp2_with fail
      go_ret
      exact ⟨by rw [HR.out]; rfl, Below.refl _ _⟩
    · have h2 := inB_iff.1 hd
      rw [hd] at c2
      by_cases hg : gcdOf a d = 1
      · rw [hg] at c3
        cases hk : inB k 1 (a - 1)
        · have HR : Hid (runF a d k = -1) := Lib.hid (by rw [HB.out, hk, Bool.and_false]; rfl)
          rw [hk] at ck
          clear hd hg hk HB
          go_enter Try.func37, Try.ntmps37
          go_wp2_with fail
          refine (c1 _).mono ?_
          rintro e w1 ⟨rfl, rfl⟩
          go_wp2_with fail
          refine (c2 _).mono ?_
          rintro e w2 ⟨rfl, rfl⟩
          go_wp2_with fail
          refine (c3 _).mono ?_
          rintro e w3 ⟨rfl, rfl⟩
          go_wp2_with fail
          refine (ck _).mono ?_
          rintro e w4 ⟨rfl, rfl⟩
          go_wp2_with fail
          go_ret
          exact ⟨by rw [HR.out]; rfl, Below.refl _ _⟩
        · have HR : Hid (runF a d k = (a - 2) / k * a + d * (a - 1)) := Lib.hid (by rw [HB.out, hd, hk, decide_eq_true hg]; rfl)
          have h3 := inB_iff.1 hk
          rw [hk] at ck
          clear hd hg hk HB
          have hk0 : k ≠ 0 := by omega
          have hkz : (k == 0) = false := by rw [beq_eq_false_iff_ne]; exact hk0
          have htd : (a - 2).tdiv k = (a - 2) / k := Int.tdiv_eq_ediv_of_nonneg (by omega)
          have hq := div_le2 (x := a - 2) (d := k) (b := 998) ⟨by omega, by omega⟩ (by omega)
          have hw1 : IntKind.i64.wrap ((a - 2) / k) = (a - 2) / k := IntWalk.i64_in _ (by omega)
          have hpa := prod0 hq (b := a) ⟨by omega, h1.2⟩
          have hpd := prod3 h2 (a := a) ⟨by omega, h1.2⟩
          generalize (a - 2) / k = q at *
          go_enter Try.func37, Try.ntmps37
          go_wp2_with fail
          refine (c1 _).mono ?_
          rintro e w1 ⟨rfl, rfl⟩
          go_wp2_with fail
          refine (c2 _).mono ?_
          rintro e w2 ⟨rfl, rfl⟩
          go_wp2_with fail
          refine (c3 _).mono ?_
          rintro e w3 ⟨rfl, rfl⟩
          go_wp2_with fail
          refine (ck _).mono ?_
          rintro e w4 ⟨rfl, rfl⟩
          go_wp2_with fail
          go_ret
          exact ⟨by rw [HR.out]; rfl, Below.refl _ _⟩
      · have HR : Hid (runF a d k = -1) := Lib.hid (by rw [HB.out, decide_eq_false hg, Bool.and_false]; rfl)
        have hgz : (gcdOf a d != 1) = true := by rw [bne_iff_ne]; exact hg
        clear hd HB
        generalize gcdOf a d = g at *
        go_enter Try.func37, Try.ntmps37
        go_wp2_with fail
        refine (c1 _).mono ?_
        rintro e w1 ⟨rfl, rfl⟩
        go_wp2_with fail
        refine (c2 _).mono ?_
        rintro e w2 ⟨rfl, rfl⟩
        go_wp2_with fail
        refine (c3 _).mono ?_
        rintro e w3 ⟨rfl, rfl⟩
        go_wp2_with fail
        go_ret
        exact ⟨by rw [HR.out]; rfl, Below.refl _ _⟩

set_option maxRecDepth 100000 in
set_option maxHeartbeats 1600000 in
theorem spec_PairWays (a b n : Int) (w : World) : Calls Try.prog 35 #[.int .i64 a, .int .i64 b, .int .i64 n] w fun e w' => e = .returned (.int .i64 (pairW a b n)) ∧ Below w.heap.size w w' := by
  have c1 := fun w => spec_l23Pair a b w
  have c2 := fun w => l1In_any n 0 1000000 w
  cases hp : pairB a b
  · have HR : Hid (pairW a b n = -1) := Lib.hid (by unfold pairW; rw [hp]; rfl)
    rw [hp] at c1
    clear hp c2
    go_enter Try.func35, Try.ntmps35
    go_wp2_with fail
    refine (c1 _).mono ?_
    rintro e w1 ⟨rfl, rfl⟩
    go_wp2_with fail
    go_ret
    exact ⟨by rw [HR.out]; rfl, Below.refl _ _⟩
  · rw [hp] at c1
    cases hn : inB n 0 1000000
    · have HR : Hid (pairW a b n = -1) := Lib.hid (by unfold pairW; rw [hn, Bool.and_false]; rfl)
      rw [hn] at c2
      clear hp hn
      go_enter Try.func35, Try.ntmps35
      go_wp2_with fail
      refine (c1 _).mono ?_
      rintro e w1 ⟨rfl, rfl⟩
      go_wp2_with fail
      refine (c2 _).mono ?_
      rintro e w2 ⟨rfl, rfl⟩
      go_wp2_with fail
      go_ret
      exact ⟨by rw [HR.out]; rfl, Below.refl _ _⟩
    · have h3 := inB_iff.1 hn
      rw [hn] at c2
      obtain ⟨h1, h2, -⟩ := pairB_iff.1 hp
      obtain ⟨A, rfl⟩ := Int.eq_ofNat_of_zero_le (show 0 ≤ a by omega)
      obtain ⟨B, rfl⟩ := Int.eq_ofNat_of_zero_le (show 0 ≤ b by omega)
      obtain ⟨N, rfl⟩ := Int.eq_ofNat_of_zero_le (show 0 ≤ n by omega)
      have HR : Hid (pairW (A : Int) (B : Int) (N : Int) = ((upB (wayB A B N) (N / A + 1)).length : Int)) := Lib.hid (by unfold pairW; rw [hp, hn]; simp)
      have HD : Hid (∀ x, x ≤ N / A ↔ x * A ≤ N) := Lib.hid fun x => Nat.le_div_iff_mul_le (by omega)
      have hNA : N / A ≤ N := Nat.div_le_self _ _
      have hB0 : (B : Int) ≠ 0 := by omega
      have hBz : ((B : Int) == 0) = false := by rw [beq_eq_false_iff_ne]; exact hB0
      clear hp hn
      generalize N / A = M at *
      go_enter Try.func35, Try.ntmps35
      go_wp2_with fail
      refine (c1 _).mono ?_
      rintro e w1 ⟨rfl, rfl⟩
      go_wp2_with fail
      refine (c2 _).mono ?_
      rintro e w2 ⟨rfl, rfl⟩
      go_wp2_with fail
      clear c1 c2
      go_loop [7, 8] (fun c i => ∃ x : Nat, x ≤ M + 1 ∧ i = .int .i64 (x : Int) ∧ c = .int .i64 ((upB (wayB A B N) x).length : Int)) (fun _ i => M + 1 - (intOf i).toNat)
      case atStart => exact ⟨0, Nat.zero_le _, rfl, rfl⟩
      case round =>
        obtain ⟨x, hx, rfl, rfl⟩ := hrel
        have hc := upB_len_le (wayB A B N) x
        by_cases hlt : x ≤ M
        · have hpn := (HD.out x).1 hlt
          have hp0 : 0 ≤ (x : Int) * (A : Int) := by rw [← Int.natCast_mul]; omega
          have hp1 : (x : Int) * (A : Int) ≤ (N : Int) := by rw [← Int.natCast_mul]; omega
          have hrem : ((N : Int) - (x : Int) * (A : Int)).tmod (B : Int) = (((N - x * A) % B : Nat) : Int) := by
            rw [Int.tmod_eq_emod_of_nonneg (by omega), ← Int.natCast_mul, ← Int.ofNat_sub hpn, Int.natCast_emod]
          have HS := Lib.hid (upB_succ (wayB A B N) x)
          have HW : Hid (wayB A B N x = decide ((N - x * A) % B = 0)) := Lib.hid (by unfold wayB; rw [decide_eq_true hpn, Bool.true_and])
          have hrb : (N - x * A) % B < B := Nat.mod_lt _ (by omega)
          generalize (N - x * A) % B = r at *
          generalize hcc : (upB (wayB A B N) x).length = cc at *
          have HC := Lib.hid hcc
          clear hcc
          by_cases hr : r = 0
          · subst hr
            have hri : (((0 : Nat) : Int) == 0) = true := rfl
            have HN : Hid (((cc : Int) + 1) = ((upB (wayB A B N) (x + 1)).length : Int)) := Lib.hid (by rw [HS.out, HW.out, ← HC.out]; simp)
            have cb : ∀ w, Calls Try.prog 76 #[.bool true] w fun e w' => e = .returned (.int .i64 1) ∧ w' = w := fun w => l1Bit_any true w
            clear HW HS HC
            go_wp2_with fail
            refine (cb _).mono ?_
            rintro e w3 ⟨rfl, rfl⟩
            go_wp2_with fail
            go_round
            case rel => exact ⟨x + 1, by omega, by go_num, by rw [← HN.out]⟩
            case measure => simp [intOf]; omega
          · have hri : ((r : Int) == 0) = false := by rw [beq_eq_false_iff_ne]; omega
            have HN : Hid ((cc : Int) + 0 = ((upB (wayB A B N) (x + 1)).length : Int)) := Lib.hid (by rw [HS.out, HW.out, ← HC.out]; simp [hr])
            have cb : ∀ w, Calls Try.prog 76 #[.bool false] w fun e w' => e = .returned (.int .i64 0) ∧ w' = w := fun w => l1Bit_any false w
            clear HW HS HC
            go_wp2_with fail
            refine (cb _).mono ?_
            rintro e w3 ⟨rfl, rfl⟩
            go_wp2_with fail
            go_round
            case rel => exact ⟨x + 1, by omega, by go_num, by rw [← HN.out]; go_num⟩
            case measure => simp [intOf]; omega
        · obtain rfl : x = M + 1 := by omega
          have hpn : ¬ (M + 1) * A ≤ N := fun h => by have := (HD.out (M + 1)).2 h; omega
          have hp1 : (N : Int) < ((M + 1 : Nat) : Int) * (A : Int) := by rw [← Int.natCast_mul]; omega
          have hp2 : ((M + 1 : Nat) : Int) * (A : Int) ≤ 2000000 * 1000 := Int.mul_le_mul (by omega) (by omega) (by omega) (by omega)
          generalize M + 1 = M1 at *
          go_wp2_with fail
          go_ret
          exact ⟨by rw [HR.out]; rfl, Below.refl _ _⟩

end Go.Proofs.Ytopnehkhigacpaa
