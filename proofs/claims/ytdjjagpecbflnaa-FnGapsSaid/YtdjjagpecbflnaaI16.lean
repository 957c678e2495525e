/-
  CONTRACTS of the program's chapter 4, second part: gapsBelow. (Own work.)
-/
import Derived.Test.YtdjjagpecbflnaaI15
import Derived.Test.YtdjjagpecbflnaaI11
namespace Go.Proofs.Ytdjjagpecbflnaa
open Go Go.RowKit
attribute [local go_sem] Oper.semAt_some

theorem gapsB_asc (T : Nat → Bool) (m : Nat) : (gapsB T m).Pairwise (· < ·) := by
  unfold gapsB upB
  rw [List.pairwise_map]
  exact (List.Pairwise.filter _ List.pairwise_lt_range).imp fun h => by simp only [Int.ofNat_eq_natCast]; omega
theorem mem_gapsB {T : Nat → Bool} {m : Nat} {x : Int} : x ∈ gapsB T m ↔ 0 ≤ x ∧ x < m ∧ T x.toNat = false := by
  unfold gapsB
  rw [List.mem_map]
  constructor
  · rintro ⟨a, ha, rfl⟩
    obtain ⟨h1, h2⟩ := mem_upB.1 ha
    simp only [Int.ofNat_eq_natCast, Int.toNat_natCast]
    exact ⟨by omega, by omega, by simpa using h2⟩
  · rintro ⟨h0, h1, h2⟩
    exact ⟨x.toNat, mem_upB.2 ⟨by omega, by rw [h2]; rfl⟩, by simp only [Int.ofNat_eq_natCast]; omega⟩
theorem gapsB_len_le (T : Nat → Bool) (m : Nat) : (gapsB T m).length ≤ m := by
  unfold gapsB; rw [List.length_map]; exact upB_len_le _ _
theorem gapsB_below (T : Nat → Bool) {n m : Nat} (h : n ≤ m) : (gapsB T m).filter (fun x => decide (x < (n : Int))) = gapsB T n := by
  induction m with
  | zero => obtain rfl : n = 0 := by omega
            rfl
  | succ m ih =>
    by_cases e : n = m + 1
    · subst e
      rw [List.filter_eq_self]
      intro x hx
      have := (mem_gapsB.1 hx).2.1
      exact decide_eq_true this
    · cases hT : T m
      · rw [gapsB_hit hT, List.filter_append, ih (by omega)]
        simp; omega
      · rw [gapsB_miss hT]; exact ih (by omega)
/-- A walk up an ascending list that stops at the first number that is not less than n has seen all that are. -/
theorem stop_filter {xs pre : List Int} {x n : Int} (ha : xs.Pairwise (· < ·)) (hp : pre ++ [x] <+: xs) (hl : ∀ y ∈ pre, y < n) (hx : n ≤ x) : xs.filter (fun y => decide (y < n)) = pre := by
  obtain ⟨r, rfl⟩ := hp
  rw [List.append_assoc, List.pairwise_append] at ha
  obtain ⟨-, h2, -⟩ := ha
  rw [List.singleton_append, List.pairwise_cons] at h2
  rw [List.append_assoc, List.filter_append, List.filter_eq_self.2 (fun y hy => decide_eq_true (hl y hy)), List.filter_eq_nil_iff.2, List.append_nil]
  intro y hy
  rw [List.singleton_append, List.mem_cons] at hy
  rcases hy with rfl | hy
  · simp; omega
  · have := h2.1 y hy
    simp; omega

set_option maxRecDepth 100000 in
set_option maxHeartbeats 1600000 in
theorem impl_gapsBelow (T : Nat → Bool) (n : Int) (w : World) :
    Calls Try.prog 47 #[.agg (tabB T 260).toArray, .int .i64 n] w fun e w' => e = .returned (.int .i64 (((gapsB T 200).filter (fun x => decide (x < n))).length : Int)) ∧ Below w.heap.size w w' := by
  refine (callsIn_wide (n := 3)).1 (callsIn_of_wp_marks Try.func47 rfl trivial (wpIn_wide.2 ?_) rfl)
  simp only [Try.ntmps47, List.size_toArray, List.length_cons, List.length_nil, Nat.reduceAdd, Nat.reduceSub, Array.replicate_succ, Array.replicate_zero, List.push_toArray, List.append_toArray, List.nil_append, List.cons_append]
  have hA := (Arr.new w 48 (tabB T 260))
  have hB1 := box_below w (.cells (tabB T 260).toArray 48)
  generalize hW1 : w.alloc (.cells (tabB T 260).toArray 48) = W1 at hA hB1
  have hz1 : W1.heap.size = w.heap.size + 1 := by rw [← hW1]; simp
  have bN := (Boxed.new W1 3 (.int .i64 n)).alloc (.cells #[.int .i64 0] 3)
  have bC := Boxed.new (W1.alloc (.cells #[.int .i64 n] 3)) 3 (.int .i64 0)
  have hA2 := (hA.alloc (.cells #[.int .i64 n] 3)).alloc (.cells #[.int .i64 0] 3)
  have hB2 := (hB1.alloc (o := .cells #[.int .i64 n] 3) hB1.size).alloc (o := .cells #[.int .i64 0] 3) (by simp; omega)
  rw [World.size_alloc, hz1] at bC
  rw [hz1] at bN
  go_wp2_with (first
    | (refine wpList_box_arr 48 (.tmp 0) (tabB T 260) rfl rfl rfl ?_; rw [hW1])
    | (refine wpList_load_arr 48 (.tmp 2) w.heap.size (tabB T 260) (.array 260 4) rfl rfl rfl hA2 undT rfl (sizeTl _) ?_))
  generalize hW3 : (W1.alloc (.cells #[.int .i64 n] 3)).alloc (.cells #[.int .i64 0] 3) = W3 at bN bC hB2 ⊢
  have hz3 : W3.heap.size = w.heap.size + 3 := by rw [← hW3]; simp [hz1]
  clear hW3 hA2 hA hB1 hz1 hW1
  refine wp_range_method 43 (.agg (tabB T 260).toArray) (gapsB T 200) 0 rfl (enters_of Try.func43 (by kernel_rfl) rfl) (impl_gaps T)
    (fun pre W => (Boxed W (w.heap.size + 1) 3 (.int .i64 n) ∧ Boxed W (w.heap.size + 1 + 1) 3 (.int .i64 (pre.length : Int))) ∧ (∀ y ∈ pre, y < n) ∧ Below w.heap.size w W)
    (fun pre W => ∃ q x, pre = q ++ [x] ∧ (∀ y ∈ q, y < n) ∧ n ≤ x ∧ Boxed W (w.heap.size + 1 + 1) 3 (.int .i64 (q.length : Int)) ∧ Below w.heap.size w W)
    (fun pre A B row ⟨⟨h1, h2⟩, h3, h4⟩ hg hr => ⟨⟨own_boxed h1 hg hr, own_boxed h2 hg hr⟩, h3, own_below h4 hg hr (Nat.le_refl _) (by omega)⟩)
    (fun pre A B row ⟨q, x, h1, h2, h3, h4, h5⟩ hg hr => ⟨q, x, h1, h2, h3, own_boxed h4 hg hr, own_below h5 hg hr (Nat.le_refl _) (by omega)⟩)
    ⟨⟨bN, bC⟩, by simp, hB2⟩
    (fun x => { tmps := #[.agg (tabB T 260).toArray, .int .i64 n, .pointer (some ⟨w.heap.size, 0, none⟩), .pointer (some ⟨w.heap.size + 1, 0, none⟩), .int .i64 0, .pointer (some ⟨w.heap.size + 1 + 1, 0, none⟩), .int .i64 x, .agg (tabB T 260).toArray, .func (.func 43) #[.agg (tabB T 260).toArray] #[], .int .i64 x, undef, undef, undef, undef, undef, undef], defers := [] }) ?assign ?body ?done ?stop
  case assign =>
    intro l x W K hK
    gi_wp2
    exact hK
  case body =>
    rintro l pre x W hsz ⟨⟨bN, bC⟩, hlt, hB⟩ hp
    have hlen : pre.length < 200 := by
      have h1 := hp.length_le
      have h2 := gapsB_len_le T 200
      simp at h1; omega
    have cN := bN.cell
    have cC := bC.cell
    have fC := bC.frozen
    clear hB2
    by_cases hx : n ≤ x
    · gi_wp2
      exact ⟨rfl, Lies3.refl _ _, pre, x, rfl, hlt, hx, bC, hB⟩
    · have hx' : x < n := by omega
      have hw1 : IntKind.i64.wrap ((pre.length : Int) + 1) = (pre.length : Int) + 1 := IntWalk.i64_in _ (by omega)
      gi_wp2
      refine ⟨Lies3.grown (grownBy_setCell' W _ _) (fun r e => by cases e; left; omega), ⟨bN.other (by omega) _, ?_⟩, fun y hy => ?_, hB.setCell (p := ⟨w.heap.size + 1 + 1, 0, none⟩) (by show w.heap.size ≤ w.heap.size + 1 + 1; omega) _⟩
      · have := bC.set (.int .i64 ((pre.length : Int) + 1))
        rw [List.length_append, List.length_singleton, Int.natCast_add, Int.natCast_one]
        exact this
      · rw [List.mem_append, List.mem_singleton] at hy
        rcases hy with h | rfl
        · exact hlt y h
        · exact hx'
  case done =>
    rintro W ⟨⟨bN, bC⟩, hlt, hB⟩ hK
    have cC := bC.cell
    rw [hz3] at hK
    go_wp2_with fail
    refine leave_mark hK ?_
    exact ⟨_, results_tmp rfl _ _ _, by rw [List.filter_eq_self.2 (fun y hy => decide_eq_true (hlt y hy))]; rfl, below_mark hB (by omega)⟩
  case stop =>
    rintro pre W hp ⟨q, x, rfl, hlt, hx, bC, hB⟩ hK
    have cC := bC.cell
    rw [hz3] at hK
    have HF := Lib.hid (stop_filter (gapsB_asc T 200) hp hlt hx)
    go_wp2_with fail
    refine leave_mark hK ?_
    exact ⟨_, results_tmp rfl _ _ _, by rw [HF.out]; rfl, below_mark hB (by omega)⟩
end Go.Proofs.Ytdjjagpecbflnaa
