/-
  CONTRACTS of the program's chapter 6, third part: FrobeniusByApery, GenusByApery. (Own work.)
-/
import Derived.Test.YtfocaloploekmaaI23
namespace Go.Proofs.Ytfocaloploekmaa
open Go Go.RowKit
attribute [local go_sem] Oper.semAt_some

theorem apery_max {G : List Int} {N : Nat} (h : ApIn G N) : Lib.maxOf (aperyL G (N : Int)) = (aperyL G (N : Int)).foldl max 0 := by
  have e : (aperyL G (N : Int)).headD 0 = 0 := by
    obtain ⟨x, hx, hc, -, -, hm⟩ := aperyL_at h 0 h.pos
    have h0 : (aperyL G (N : Int))[0]? = some 0 := by
      rw [aperyL_in h, List.getElem?_eq_getElem (by rw [apL_length]; exact h.pos), apL_get, apOf_zero (sumB_zero G)]; rfl
    rw [List.headD_eq_head?_getD, List.head?_eq_getElem?, h0]; rfl
  unfold Lib.maxOf
  rw [e]
theorem apery_max_lt {G : List Int} {N : Nat} (h : ApIn G N) : 0 ≤ (aperyL G (N : Int)).foldl max 0 ∧ (aperyL G (N : Int)).foldl max 0 ≤ 260 := by
  refine ⟨(foldl_max_ge _ 0).1, foldl_max_le 0 (by omega) fun x hx => ?_⟩
  obtain ⟨i, hi, rfl⟩ := List.getElem_of_mem hx
  obtain ⟨y, h1, -, -, h2, -⟩ := aperyL_at h i (by rw [aperyL_length h] at hi; exact hi)
  rw [List.getElem?_eq_getElem hi, Option.some.injEq] at h1
  omega

set_option maxRecDepth 100000 in
set_option maxHeartbeats 1600000 in
theorem impl_FrobeniusByApery (G : List Int) (n : Int) (a : Option Addr) (cap : Nat) (w : World) (hr : SlV w a (G.map (Value.int .i64))) (hb : G.length ≤ 1048576) (hn1 : -9223372036854775808 ≤ n) (hn2 : n ≤ 9223372036854775807) :
    Calls Try.prog 18 #[.agg #[.slice a G.length cap], .int .i64 n] w fun e w' => e = .returned (.int .i64 (frobA G n)) ∧ Below w.heap.size w w' := by
  have hb0 := box_below w (.cells #[.slice a G.length cap] 26)
  have hc0 := box_cell w (.slice a G.length cap)
  have c1 := impl_AperySet G n a cap _ (hr.below hb0) hb hn1 hn2
  clear hr
  go_enter Try.func18, Try.ntmps18
  rcases aperyL_cases G n with he | ⟨N, rfl, hN, -⟩
  · have HR := Lib.hid (frobA_no he).1
    rw [he] at c1
    clear he
    go_wp2_with fail
    refine c1.mono ?_
    rintro e w1 ⟨v, rfl, ho, hb1⟩
    obtain ⟨a1, k1, rfl, -⟩ := row_open ho
    have hbz := hb0.trans (hb1.mono hb0.size)
    clear c1 ho hb1 hb0 hc0
    go_wp2_with fail
    go_ret
    exact ⟨by rw [HR.out]; rfl, hbz⟩
  · have HM := Lib.hid (apery_max hN)
    obtain ⟨hm0, hm1⟩ := apery_max_lt hN
    have hne := apL_ne hN.pos (p := sumB G)
    rw [← aperyL_in hN] at hne
    have HR : Hid (frobA G (N : Int) = (aperyL G (N : Int)).foldl max 0 - (N : Int)) := Lib.hid (by unfold frobA; rw [if_neg hne])
    have hl := aperyL_length hN
    have hp := hN.pos
    have h60 := hN.le
    clear hN
    generalize aperyL G (N : Int) = M at *
    subst hl
    go_wp2_with fail
    refine c1.mono ?_
    rintro e w1 ⟨v, rfl, ho, hb1⟩
    obtain ⟨a1, k1, rfl, rX⟩ := row_open ho
    have hbz := hb0.trans (hb1.mono hb0.size)
    obtain ⟨b, off, rfl, hbs, hc⟩ := rX.slv.open (by intro h; rw [List.map_eq_nil_iff] at h; exact hne h)
    have hcells : ∀ j, j < M.length → w1.cell? ⟨b, off + j, none⟩ = some (.int .i64 (M.getD j 0)) := fun j hj => hc j _ (by simp [hj])
    have cx := Try.slices_Max_int b off M.length k1 M w1 (by omega) (Nat.le_refl _) (by omega) hcells
    rw [List.take_length, HM.out] at cx
    clear c1 ho hb1 hb0 hc0 rX hc hcells HM
    generalize List.foldl max 0 M = m at *
    have hne0 : ((M.length : Int) == 0) = false := by rw [beq_eq_false_iff_ne]; omega
    have hw1 : IntKind.i64.wrap (m - (M.length : Int)) = m - (M.length : Int) := IntWalk.i64_in _ (by omega)
    go_wp2_with fail
    refine cx.mono ?_
    rintro e w2 ⟨rfl, rfl⟩
    go_wp2_with fail
    go_ret
    exact ⟨by rw [HR.out]; rfl, hbz⟩

theorem sum_quo_step {M : List Int} {n : Int} {k : Nat} {x : Int} (hx : M[k]? = some x) : ((M.take (k + 1)).map fun x => x / n).sum = ((M.take k).map fun x => x / n).sum + x / n := by
  rw [List.take_add_one, hx, List.map_append, List.sum_append]; simp

set_option maxRecDepth 100000 in
set_option maxHeartbeats 1600000 in
theorem impl_GenusByApery (G : List Int) (n : Int) (a : Option Addr) (cap : Nat) (w : World) (hr : SlV w a (G.map (Value.int .i64))) (hb : G.length ≤ 1048576) (hn1 : -9223372036854775808 ≤ n) (hn2 : n ≤ 9223372036854775807) :
    Calls Try.prog 19 #[.agg #[.slice a G.length cap], .int .i64 n] w fun e w' => e = .returned (.int .i64 (genusA G n)) ∧ Below w.heap.size w w' := by
  have hb0 := box_below w (.cells #[.slice a G.length cap] 26)
  have hc0 := box_cell w (.slice a G.length cap)
  have c1 := impl_AperySet G n a cap _ (hr.below hb0) hb hn1 hn2
  clear hr
  go_enter Try.func19, Try.ntmps19
  rcases aperyL_cases G n with he | ⟨N, rfl, hN, -⟩
  · have HR := Lib.hid (frobA_no he).2
    rw [he] at c1
    clear he
    go_wp2_with fail
    refine c1.mono ?_
    rintro e w1 ⟨v, rfl, ho, hb1⟩
    obtain ⟨a1, k1, rfl, -⟩ := row_open ho
    have hbz := hb0.trans (hb1.mono hb0.size)
    clear c1 ho hb1 hb0 hc0
    go_wp2_with fail
    go_ret
    exact ⟨by rw [HR.out]; rfl, hbz⟩
  · have hat := aperyL_at hN
    have hne := apL_ne hN.pos (p := sumB G)
    rw [← aperyL_in hN] at hne
    have HR : Hid (genusA G (N : Int) = ((aperyL G (N : Int)).map fun x => x / (N : Int)).sum) := Lib.hid (by unfold genusA; rw [if_neg hne])
    have hl := aperyL_length hN
    have hp := hN.pos
    have h60 := hN.le
    have HAT : Hid (∀ r, r < N → ∃ x : Nat, (aperyL G (N : Int))[r]? = some (x : Int) ∧ x < 260) := Lib.hid fun r hr => by
      obtain ⟨x, h1, -, -, h2, -⟩ := hat r hr
      exact ⟨x, h1, h2⟩
    clear hN hat
    generalize aperyL G (N : Int) = M at *
    subst hl
    go_wp2_with fail
    refine c1.mono ?_
    rintro e w1 ⟨v, rfl, ho, hb1⟩
    obtain ⟨a1, k1, rfl, rX⟩ := row_open ho
    have hbz := hb0.trans (hb1.mono hb0.size)
    obtain ⟨b, off, rfl, hbs, hc⟩ := rX.slv.open (by intro h; rw [List.map_eq_nil_iff] at h; exact hne h)
    have HC := Lib.hid hc
    clear c1 ho hb1 hb0 hc0 rX hc hne
    have hne0 : ((M.length : Int) == 0) = false := by rw [beq_eq_false_iff_ne]; omega
    go_wp2_with fail
    go_loopw [6, 17] (fun s i wr => ∃ (k : Nat) (S : Int), k ≤ M.length ∧ i = .int .i64 (k : Int) ∧ s = .int .i64 S ∧ Hid (S = ((M.take k).map fun x => x / (M.length : Int)).sum) ∧ 0 ≤ S ∧ S ≤ 260 * k ∧ wr = w1) (fun _ i _ => M.length - (intOf i).toNat)
    case atStart => exact ⟨0, 0, Nat.zero_le _, rfl, rfl, Lib.hid (by simp), by omega, by omega, rfl⟩
    case round =>
      obtain ⟨k, S, hk, rfl, rfl, hS, hS0, hS1, rfl⟩ := hrel
      by_cases hlt : k < M.length
      · obtain ⟨x, hx, hx2⟩ := HAT.out k (by omega)
        have hcell : wr.cell? ⟨b, off + k, none⟩ = some (.int .i64 (x : Int)) := HC.out k _ (by rw [List.getElem?_map, hx]; rfl)
        have HS : Hid (S + (x : Int) / (M.length : Int) = ((M.take (k + 1)).map fun x => x / (M.length : Int)).sum) := Lib.hid (by rw [sum_quo_step hx, hS.out])
        have hq0 : 0 ≤ (x : Int) / (M.length : Int) := Int.ediv_nonneg (by omega) (by omega)
        have hq1 : (x : Int) / (M.length : Int) ≤ 260 := Int.le_trans (Int.ediv_le_self _ (by omega)) (by omega)
        have hNn : ((M.length : Int) == 0) = false := by rw [beq_eq_false_iff_ne]; omega
        have hw1 : IntKind.i64.wrap (S + (x : Int) / (M.length : Int)) = S + (x : Int) / (M.length : Int) := IntWalk.i64_in _ (by omega)
        go_wp2_with fail
        go_roundw
        case rel => exact ⟨k + 1, _, by omega, by go_num, rfl, HS, by omega, by omega, trivial⟩
        case measure => simp [intOf]; omega
      · obtain rfl : k = M.length := by omega
        have hE := HR.out
        rw [List.take_of_length_le (Nat.le_refl _)] at hS
        rw [← hS.out] at hE
        have HE := Lib.hid hE
        clear hE HR
        go_wp2_with fail
        go_ret
        exact ⟨by rw [HE.out]; rfl, hbz⟩
end Go.Proofs.Ytfocaloploekmaa
