/-
  CHAPTER 6 OF THE REFERENCE: FrobeniusByApery, GenusByApery. (Own work.)
-/
import Derived.Test.YtfocaloploekmaaL19
namespace Go.Proofs.Ytfocaloploekmaa
open Go Go.RowKit

theorem aperyL_bounds {G : List Int} {n : Int} : ∀ x ∈ aperyL G n, 0 ≤ x ∧ x < 260 ∧ 1 ≤ n ∧ n ≤ 60 := by
  intro x hx
  rcases aperyL_cases G n with h | ⟨N, rfl, hN, h⟩
  · rw [h] at hx; simp at hx
  · rw [h] at hx
    obtain ⟨r, hr, rfl⟩ := mem_apL.1 hx
    have := apOf_lt hN.far hN.pos hr
    have := hN.le
    have := hN.pos
    omega
theorem max_take (L : List Int) (k : Nat) (hk : k < L.length) : (L.take (k + 1)).foldl max 0 = max ((L.take k).foldl max 0) L[k] := by
  rw [List.take_add_one, List.getElem?_eq_getElem hk, List.foldl_append]; rfl
theorem max_take_le {L : List Int} (hL : ∀ x ∈ L, 0 ≤ x ∧ x < 260) (k : Nat) : 0 ≤ (L.take k).foldl max 0 ∧ (L.take k).foldl max 0 < 260 := by
  refine ⟨(foldl_max_ge _ 0).1, ?_⟩
  have := foldl_max_le (l := L.take k) (b := 259) 0 (by omega) fun x hx => by have := (hL x (List.mem_of_mem_take hx)).2; omega
  omega
theorem quo_take (L : List Int) (n : Int) (k : Nat) (hk : k < L.length) : ((L.take (k + 1)).map fun x => x / n).sum = ((L.take k).map fun x => x / n).sum + L[k] / n := by
  rw [List.take_add_one, List.getElem?_eq_getElem hk, List.map_append, List.sum_append]
  simp
theorem quo_le {x n : Int} (h0 : 0 ≤ x) (h1 : x < 260) (hn : 1 ≤ n) : 0 ≤ x / n ∧ x / n < 260 :=
  ⟨Int.ediv_nonneg h0 (by omega), Int.lt_of_le_of_lt (Int.ediv_le_self n h0) h1⟩
theorem quo_take_le {L : List Int} {n : Int} (hL : ∀ x ∈ L, 0 ≤ x ∧ x < 260) (hn : 1 ≤ n) : ∀ k, 0 ≤ ((L.take k).map fun x => x / n).sum ∧ ((L.take k).map fun x => x / n).sum ≤ 260 * (k : Int) := by
  intro k
  induction k with
  | zero => simp
  | succ k ih =>
    by_cases hk : k < L.length
    · rw [quo_take L n k hk]
      have h1 := hL L[k] (List.getElem_mem hk)
      have h2 := quo_le h1.1 h1.2 hn
      omega
    · rw [List.take_of_length_le (by omega)] at ih ⊢
      omega

set_option maxRecDepth 100000 in
set_option maxHeartbeats 1600000 in
theorem spec_FrobeniusByApery (G : List Int) (n : Int) (a : Option Addr) (cap : Nat) (w : World) (hr : SlV w a (G.map (Value.int .i64))) (hb : G.length ≤ 1048576) :
    Calls Try.prog 31 #[.agg #[.slice a G.length cap], .int .i64 n] w fun e w' => e = .returned (.int .i64 (frobA G n)) ∧ Below w.heap.size w w' := by
  obtain ⟨W, hW⟩ : ∃ W, W = w.alloc (.cells #[.slice a G.length cap] 26) := ⟨_, rfl⟩
  have hbW : Below w.heap.size w W := by rw [hW]; exact box_below _ _
  have hc0 : W.cell? ⟨w.heap.size, 0, none⟩ = some (.slice a G.length cap) := by rw [hW]; exact box_cell w _
  have HW := Lib.hid hW
  clear hW
  have c1 := spec_AperySet G n a cap W (hr.below hbW) hb
  have hLB := aperyL_bounds (G := G) (n := n)
  have hlen := aperyL_len_le G n
  have HF : Hid (frobA G n = if aperyL G n = [] then -1 else (aperyL G n).foldl max 0 - n) := Lib.hid rfl
  clear hr hb
  go_enter Try.func31, Try.ntmps31
  go_wp2_with fail
  rw [← HW.out]
  refine c1.mono ?_
  rintro e w1 ⟨v, rfl, ho, hb1⟩
  obtain ⟨a1, k1, rfl, -, -, hs1, -⟩ := SlV.of_owns ho
  have hbz := hbW.trans (hb1.mono hbW.size)
  clear c1 ho hc0 hb1
  generalize aperyL G n = L at *
  by_cases h0 : L = []
  · subst h0
    have HR : Hid (frobA G n = -1) := Lib.hid (by rw [HF.out]; rfl)
    clear hs1 HF
    dsimp only [List.length_nil]
    go_wp2_with fail
    go_ret
    exact ⟨by rw [HR.out]; rfl, hbz⟩
  · have hl0 : 0 < L.length := by rcases Nat.eq_zero_or_pos L.length with h | h; · exact absurd (List.length_eq_zero_iff.1 h) h0
                                  · exact h
    have hne : ((L.length : Int) == 0) = false := by rw [beq_eq_false_iff_ne]; omega
    have HR : Hid (frobA G n = L.foldl max 0 - n) := Lib.hid (by rw [HF.out, if_neg h0])
    obtain ⟨b, off, rfl, hbs, hc⟩ := hs1.open (by intro h; rw [List.map_eq_nil_iff] at h; exact h0 h)
    have HC := Lib.hid (show ∀ k (hk : k < L.length), w1.cell? ⟨b, off + k, none⟩ = some (.int .i64 L[k]) from fun k hk => hc k _ (by simp [hk]))
    have hn := hLB L[0] (List.getElem_mem hl0)
    have HB := Lib.hid (fun (x : Int) (hx : x ∈ L) => (⟨(hLB x hx).1, (hLB x hx).2.1⟩ : 0 ≤ x ∧ x < 260))
    clear hc hs1 hLB HF h0
    go_wp2_with fail
    go_loopw [6, 7] (fun m i wr => ∃ k : Nat, k ≤ L.length ∧ i = .int .i64 (k : Int) ∧ m = .int .i64 ((L.take k).foldl max 0) ∧ wr = w1) (fun _ i _ => L.length - (intOf i).toNat)
    case atStart => exact ⟨0, Nat.zero_le _, rfl, rfl, rfl⟩
    case round =>
      obtain ⟨k, hk, rfl, rfl, rfl⟩ := hrel
      by_cases hlt : k < L.length
      · have hcell := HC.out k hlt
        have hx := HB.out L[k] (List.getElem_mem hlt)
        have hk0 : (0 : Int) ≤ (k : Int) := by omega
        have hk1 : (k : Int) < (L.length : Int) := by omega
        have HT := Lib.hid (max_take L k hlt)
        have cm := fun w => l1Max_any ((L.take k).foldl max 0) L[k] w
        generalize L[k] = x at *
        generalize (L.take k).foldl max 0 = y at *
        go_wp2_with fail
        refine (cm _).mono ?_
        rintro e w' ⟨rfl, rfl⟩
        go_wp2_with fail
        go_roundw
        case rel => exact ⟨k + 1, by omega, by go_num, by rw [HT.out], by simp⟩
        case measure => simp [intOf]; omega
      · obtain rfl : k = L.length := by omega
        have hm := max_take_le (fun x hx => HB.out x hx) L.length
        rw [List.take_of_length_le (Nat.le_refl _)] at hm ⊢
        generalize L.foldl max 0 = y at *
        have hw1 : IntKind.i64.wrap (y - n) = y - n := IntWalk.i64_in _ (by omega)
        go_wp2_with fail
        go_ret
        exact ⟨by rw [HR.out]; rfl, hbz⟩
set_option maxRecDepth 100000 in
set_option maxHeartbeats 1600000 in
theorem spec_GenusByApery (G : List Int) (n : Int) (a : Option Addr) (cap : Nat) (w : World) (hr : SlV w a (G.map (Value.int .i64))) (hb : G.length ≤ 1048576) :
    Calls Try.prog 32 #[.agg #[.slice a G.length cap], .int .i64 n] w fun e w' => e = .returned (.int .i64 (genusA G n)) ∧ Below w.heap.size w w' := by
  obtain ⟨W, hW⟩ : ∃ W, W = w.alloc (.cells #[.slice a G.length cap] 26) := ⟨_, rfl⟩
  have hbW : Below w.heap.size w W := by rw [hW]; exact box_below _ _
  have hc0 : W.cell? ⟨w.heap.size, 0, none⟩ = some (.slice a G.length cap) := by rw [hW]; exact box_cell w _
  have HW := Lib.hid hW
  clear hW
  have c1 := spec_AperySet G n a cap W (hr.below hbW) hb
  have hLB := aperyL_bounds (G := G) (n := n)
  have hlen := aperyL_len_le G n
  have HF : Hid (genusA G n = if aperyL G n = [] then -1 else ((aperyL G n).map fun x => x / n).sum) := Lib.hid rfl
  clear hr hb
  go_enter Try.func32, Try.ntmps32
  go_wp2_with fail
  rw [← HW.out]
  refine c1.mono ?_
  rintro e w1 ⟨v, rfl, ho, hb1⟩
  obtain ⟨a1, k1, rfl, -, -, hs1, -⟩ := SlV.of_owns ho
  have hbz := hbW.trans (hb1.mono hbW.size)
  clear c1 ho hc0 hb1
  generalize aperyL G n = L at *
  by_cases h0 : L = []
  · subst h0
    have HR : Hid (genusA G n = -1) := Lib.hid (by rw [HF.out]; rfl)
    clear hs1 HF
    dsimp only [List.length_nil]
    go_wp2_with fail
    go_ret
    exact ⟨by rw [HR.out]; rfl, hbz⟩
  · have hl0 : 0 < L.length := by rcases Nat.eq_zero_or_pos L.length with h | h; · exact absurd (List.length_eq_zero_iff.1 h) h0
                                  · exact h
    have hne : ((L.length : Int) == 0) = false := by rw [beq_eq_false_iff_ne]; omega
    have HR : Hid (genusA G n = (L.map fun x => x / n).sum) := Lib.hid (by rw [HF.out, if_neg h0])
    obtain ⟨b, off, rfl, hbs, hc⟩ := hs1.open (by intro h; rw [List.map_eq_nil_iff] at h; exact h0 h)
    have HC := Lib.hid (show ∀ k (hk : k < L.length), w1.cell? ⟨b, off + k, none⟩ = some (.int .i64 L[k]) from fun k hk => hc k _ (by simp [hk]))
    have hn := hLB L[0] (List.getElem_mem hl0)
    have HB := Lib.hid (fun (x : Int) (hx : x ∈ L) => (⟨(hLB x hx).1, (hLB x hx).2.1⟩ : 0 ≤ x ∧ x < 260))
    clear hc hs1 hLB HF h0
    go_wp2_with fail
    go_loopw [6, 7] (fun m i wr => ∃ k : Nat, k ≤ L.length ∧ i = .int .i64 (k : Int) ∧ m = .int .i64 (((L.take k).map fun x => x / n).sum) ∧ wr = w1) (fun _ i _ => L.length - (intOf i).toNat)
    case atStart => exact ⟨0, Nat.zero_le _, rfl, rfl, rfl⟩
    case round =>
      obtain ⟨k, hk, rfl, rfl, rfl⟩ := hrel
      by_cases hlt : k < L.length
      · have hcell := HC.out k hlt
        have hx := HB.out L[k] (List.getElem_mem hlt)
        have hk0 : (0 : Int) ≤ (k : Int) := by omega
        have hk1 : (k : Int) < (L.length : Int) := by omega
        have HT := Lib.hid (quo_take L n k hlt)
        have hq := quo_le hx.1 hx.2 hn.2.2.1
        have hs := quo_take_le (fun x hx => HB.out x hx) hn.2.2.1 k
        have hn0 : n ≠ 0 := by omega
        have hnz : (n == 0) = false := by rw [beq_eq_false_iff_ne]; exact hn0
        have htd : L[k].tdiv n = L[k] / n := Int.tdiv_eq_ediv_of_nonneg hx.1
        have hw1 : IntKind.i64.wrap (L[k] / n) = L[k] / n := IntWalk.i64_in _ (by omega)
        have hw2 : IntKind.i64.wrap (((L.take k).map fun x => x / n).sum + L[k] / n) = ((L.take k).map fun x => x / n).sum + L[k] / n := IntWalk.i64_in _ (by omega)
        generalize ((L.take k).map fun x => x / n).sum = y at *
        generalize L[k] = x at *
        go_wp2_with fail
        go_roundw
        case rel => exact ⟨k + 1, by omega, by go_num, by rw [HT.out], by simp⟩
        case measure => simp [intOf]; omega
      · obtain rfl : k = L.length := by omega
        rw [List.take_of_length_le (Nat.le_refl _)]
        rw [← HR.out]
        go_wp2_with fail
        go_ret
        exact ⟨rfl, hbz⟩
end Go.Proofs.Ytfocaloploekmaa
