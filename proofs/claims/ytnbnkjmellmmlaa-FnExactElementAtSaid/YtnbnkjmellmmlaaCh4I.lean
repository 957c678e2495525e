/-
  CHAPTER 4: a range over a method value; the program's contracts.
-/
import Derived.Test.YtnbnkjmellmmlaaCh3L
import Derived.Test.YtnbnkjmellmmlaaCh3I
import Derived.Test.YtnbnkjmellmmlaaCh4L
import Derived.RangeFuncBox
import Derived.RangeFuncLeaves
import Derived.RangeFuncCalls
import Derived.RangeFuncNested
import Derived.RangeFuncBound
import Derived.Shelf.Abstract
import Derived.Shelf.RegionOpen
import Derived.OwnWalkIn
import Derived.TacticsInMore
import Derived.LoopNIn
import Derived.LoopIn
import Derived.Maps.AppendAt

/-
  A RANGE OVER A METHOD VALUE ('for x := range t.gaps { .. }'): the function value bears its receiver; the iterator lays one block of its own (the receiver's copy) behind the loop's two; the body may leave by a break. No function of the program in this text. (Own work.)
-/
namespace Go.Proofs.Ytnbnkjmellmmlaa
open Go Go.RowKit

/-- The three blocks from s on lie as they lay: what the body of a round leaves alone. -/
def Lies3 (s : Nat) (W W' : World) : Prop := W.heap.size ≤ W'.heap.size ∧ ∀ k, s ≤ k → k ≤ s + 2 → k < W.heap.size → W'.heap[k]? = W.heap[k]?
theorem Lies3.refl (s : Nat) (W : World) : Lies3 s W W := ⟨Nat.le_refl _, fun _ _ _ _ => rfl⟩
theorem Lies3.trans {s : Nat} {A B C : World} (h : Lies3 s A B) (k : Lies3 s B C) : Lies3 s A C := ⟨Nat.le_trans h.1 k.1, fun i h1 h2 h3 => (k.2 i h1 h2 (Nat.lt_of_lt_of_le h3 h.1)).trans (h.2 i h1 h2 h3)⟩
theorem Lies3.grown {s : Nat} {W W' : World} {row : Option Nat} (hg : W.grownBy W' row) (hr : ∀ r, row = some r → r < s ∨ s + 2 < r) : Lies3 s W W' :=
  ⟨hg.size, fun k h1 h2 h3 => hg.block k h3 fun e => by have := hr k e.symm; omega⟩

/-- How the body of a round may be left: off its end, or by the break of the loop's block. -/
def RoundsTo (s bid : Nat) (I Ix : List Int → World → Prop) (ys : List Int) (W : World) : Exit → Act → World → Prop
  | .normal, _, W' => Lies3 s W W' ∧ I ys W'
  | .exit id, _, W' => id = bid ∧ Lies3 s W W' ∧ Ix ys W'
  | _, _, _ => False

/-- The mark that the loop leaves among the deferred calls. -/
abbrev rgMark (s : Nat) (a : Act) : Act := { a with defers := { target := .collected s, args := #[] } :: a.defers }

/-- An iterator that is handed its receiver and yield, and gives xs: whatever J holds between two rounds, Jx behind a round that says 'no more'; it lays one block, which no round turns. -/
def GivesAll (P : Program) (gf : Nat) (rv : Value) (xs : List Int) : Prop :=
  ∀ (l : Nat) (W1 : World) (J Jx : List Int → World → Prop),
    (∀ pre x W, J pre W → pre ++ [x] <+: xs → YieldAt Fence.wide 1 P l #[.int .i64 x] W fun e W' =>
      (e = .returned (.bool true) ∧ J (pre ++ [x]) W' ∧ W'.heap[W1.heap.size]? = W.heap[W1.heap.size]?) ∨ (e = .returned (.bool false) ∧ Jx (pre ++ [x]) W')) →
    (∀ o, J [] (W1.alloc o)) →
    CallsIn Fence.wide 2 P gf #[rv, .func (.yield l) #[] #[]] W1 fun e W' => (∃ v, e = .returned v) ∧ (J xs W' ∨ ∃ pre, pre <+: xs ∧ Jx pre W')

theorem wp_range_method {P : Program} {g : Operand} {p : Tmp} {assign body : Code} {Q : Exit → Act → World → Prop} {a : Act} {w : World} (gf : Nat) (rv : Value) (xs : List Int) (bid : Nat)
    (hg : a.eval g = .func (.func gf) #[rv] #[]) (eg : ∀ args w, (callFunc gf args).run P w = .ok (.enter gf args) w) (hit : GivesAll P gf rv xs)
    (I Ix : List Int → World → Prop) (hI : OwnFrom w.heap.size I) (hIx : OwnFrom w.heap.size Ix) (h0 : I [] w) (a1 : Int → Act)
    (hassign : ∀ (l : Nat) (x : Int) (W : World) (K : Act → World → Prop), K (a1 x) W →
      assign.wpIn (Fence.wide.inRound l) 1 P (Exit.then K (fun _ _ _ => False)) { tmps := a.tmps.setIfInBounds p (.int .i64 x), defers := [] } W)
    (hbody : ∀ (l : Nat) (pre : List Int) (x : Int) (W : World), w.heap.size + 2 < W.heap.size → I pre W → pre ++ [x] <+: xs →
      body.wpIn (Fence.wide.inRound l) 1 P (RoundsTo w.heap.size bid I Ix (pre ++ [x]) W) (a1 x) W)
    (hdone : ∀ W, I xs W → W.heap[w.heap.size]? = some (.deferred (some [])) → Q .normal (rgMark w.heap.size a) W)
    (hstop : ∀ pre W, pre <+: xs → Ix pre W → W.heap[w.heap.size]? = some (.deferred (some [])) → Q (.exit bid) (rgMark w.heap.size a) W) :
    (Code.rangeFunc g #[p] assign body).wp P Q a w := by
  refine (wpIn_wide (n := 3)).1 (wpIn_rangeFunc fun fn _ => ?_)
  obtain ⟨lp, hlp⟩ : ∃ lp : LoopState → Option Code → Loop, lp = fun st pe => { state := st, pending := pe, fn, tmps := a.tmps, params := #[p], assign, body, defers := w.heap.size } := ⟨_, rfl⟩
  obtain ⟨W1, hW1⟩ : ∃ W1, W1 = (w.alloc (.deferred (some []))).alloc (.loop (lp .ready none)) := ⟨_, rfl⟩
  have hz : W1.heap.size = w.heap.size + 2 := by rw [hW1]; simp
  have hk1 : W1.heap[w.heap.size]? = some (.deferred (some [])) := by
    rw [hW1, heap_alloc_old _ _ (by simp)]; exact heap_alloc_new w _
  have hl1 : W1.heap[w.heap.size + 1]? = some (.loop (lp .ready none)) := by
    have := heap_alloc_new (w.alloc (.deferred (some []))) (.loop (lp .ready none))
    rw [World.size_alloc] at this
    rw [hW1]; exact this
  refine ⟨w.heap.size + 1, [{ target := .collected w.heap.size, args := #[] }], W1, { target := .fn (.func gf) #[], args := #[rv, .func (.yield (w.heap.size + 1)) #[] #[]] }, W1, gf,
    #[rv, .func (.yield (w.heap.size + 1)) #[] #[]], W1, ?_, ?_, fun _ _ => trivial, ?_, fun h => (by cases h), ?_⟩
  · rw [hW1, hlp]; exact run_enterLoop_outer _ _ _ _ _
  · simp only [resolve, hg]
    simp [go_sem]
  · simp [invoke, go_sem, eg]
  · -- a turn of one of the loop's two blocks
    have turn : ∀ {W : World} {k : Nat} {o : Obj} (o' : Obj), W.heap[k]? = some o → (W.putObj k o').heap[k]? = some o' ∧ ∀ j, j ≠ k → (W.putObj k o').heap[j]? = W.heap[j]? :=
      fun o' h => ⟨World.putObj_heap_same (Array.getElem?_eq_some_iff.1 h).1, fun j hj => World.putObj_heap_other hj⟩
    refine (hit (w.heap.size + 1) W1
      (fun ys W => I ys W ∧ w.heap.size + 2 < W.heap.size ∧ W.heap[w.heap.size + 1]? = some (.loop (lp .ready none)) ∧ W.heap[w.heap.size]? = some (.deferred (some [])))
      (fun ys W => Ix ys W ∧ W.heap[w.heap.size + 1]? = some (.loop (lp .done (some (.exit bid)))) ∧ W.heap[w.heap.size]? = some (.deferred (some []))) ?_ ?_).mono ?_
    · rintro pre x W ⟨hi, hsz, hl, hk⟩ hx
      have hy := run_yield (P := P) (args := #[.int .i64 x]) hl (by rw [hlp]; rfl)
      refine ⟨fn, a.tmps.setIfInBounds p (.int .i64 x), assign, body, by rw [hy, hlp]; simp, roundIn_of_wpIn trivial ?_⟩
      refine hassign _ x W _ ?_
      refine ⟨_, run_beginRound hl (by rw [hlp]), ?_⟩
      obtain ⟨hl2, ho2⟩ := turn (.loop { lp .ready none with state := .busy }) hl
      generalize hWb : W.putObj (w.heap.size + 1) (.loop { lp .ready none with state := .busy }) = Wb at hl2 ho2 ⊢
      have hib : I pre Wb := by rw [← hWb]; exact hI.putObj _ hi (by omega) hl rfl
      have hzb : Wb.heap.size = W.heap.size := by rw [← hWb]; simp [World.putObj]
      refine wpIn_mono (hbody _ pre x Wb (by omega) hib hx) ?_
      rintro e a3 W3 hp
      have hkb := (ho2 w.heap.size (by omega)).trans hk
      cases e with
      | normal =>
        obtain ⟨h3, hi3⟩ := hp
        have hl3 := (h3.2 (w.heap.size + 1) (by omega) (by omega) (by omega)).trans hl2
        have hk3 := (h3.2 w.heap.size (by omega) (by omega) (by omega)).trans hkb
        have hc3 := (h3.2 (w.heap.size + 2) (by omega) (by omega) (by omega)).trans (ho2 _ (by omega))
        have hr := run_endRound (P := P) none hl3
        refine ⟨_, _, hr, .inl ⟨rfl, ⟨?_, ?_, ?_, ?_⟩, ?_⟩⟩
        · exact hI.putObj _ hi3 (by omega) hl3 rfl
        · have := h3.1; simp [World.putObj]; omega
        · rw [(turn _ hl3).1, hlp]; rfl
        · exact ((turn _ hl3).2 _ (by omega)).trans hk3
        · rw [hz]; exact ((turn _ hl3).2 _ (by omega)).trans hc3
      | exit id =>
        obtain ⟨rfl, h3, hi3⟩ := hp
        have hl3 := (h3.2 (w.heap.size + 1) (by omega) (by omega) (by omega)).trans hl2
        have hk3 := (h3.2 w.heap.size (by omega) (by omega) (by omega)).trans hkb
        have hr := run_endRound (P := P) (some (.exit id)) hl3
        refine ⟨_, _, hr, .inr ⟨rfl, hIx.putObj _ hi3 (by omega) hl3 rfl, ?_, ((turn _ hl3).2 _ (by omega)).trans hk3⟩⟩
        rw [(turn _ hl3).1, hlp]; rfl
      | ret => exact hp.elim
      | goto t => exact hp.elim
      | panic ch => exact hp.elim
      | outgrown => exact hp.elim
    · intro o
      refine ⟨?_, by rw [World.size_alloc, hz]; omega, by rw [heap_alloc_old _ _ (by omega)]; exact hl1, by rw [heap_alloc_old _ _ (by omega)]; exact hk1⟩
      rw [hW1]
      exact hI.alloc _ (hI.alloc _ (hI.alloc _ h0))
    · rintro e W2 ⟨⟨v, rfl⟩, ⟨hi, -, hl, hk⟩ | ⟨pre, hpre, hi, hl, hk⟩⟩
      · have hr := run_endLoop (P := P) hl (by rw [hlp]; simp)
        rw [hlp] at hr
        exact ⟨none, _, hr, hdone _ (hI.putObj _ hi (by omega) hl rfl) ((World.putObj_heap_other (by omega)).trans hk)⟩
      · have hr := run_endLoop (P := P) hl (by rw [hlp]; simp)
        rw [hlp] at hr
        exact ⟨some (.exit bid), _, hr, wpIn_exit (hstop pre _ hpre (hIx.putObj _ hi (by omega) hl rfl) ((World.putObj_heap_other (by omega)).trans hk))⟩
end Go.Proofs.Ytnbnkjmellmmlaa

/-
  CONTRACTS of the program's chapter 4, first part: the iterator over the gaps of a table. (Own work.)
-/
namespace Go.Proofs.Ytnbnkjmellmmlaa
open Go Go.RowKit
attribute [local go_sem] Oper.semAt_some

theorem own_boxed {W W' : World} {row : Option Nat} {B b : Nat} {t : TypeId} {v : Value} (h : Boxed W b t v) (hg : W.grownBy W' row) (hr : ∀ r, row = some r → B ≤ r ∧ ∃ o : Obj, W.heap[r]? = some o ∧ o.isCells = false) : Boxed W' b t v :=
  h.kept hg fun e => by
    obtain ⟨-, o, ho, hc⟩ := hr b e.symm
    rw [show W.heap[b]? = _ from h] at ho
    cases ho; cases hc
theorem own_below {w W W' : World} {row : Option Nat} {B n : Nat} (h : Below n w W) (hg : W.grownBy W' row) (hr : ∀ r, row = some r → B ≤ r ∧ ∃ o : Obj, W.heap[r]? = some o ∧ o.isCells = false) (hn : n ≤ w.heap.size) (hB : n ≤ B) : Below n w W' :=
  h.grown hg (Nat.le_trans hn h.size) fun k e => Nat.le_trans hB (hr k e).1
/-- What the marks leave behind at a function's return. -/
theorem leave_mark {P : Program} {fn : Func} {tmps : Array Value} {R : Ending → World → Prop} {W : World} {s : Nat} {n : Nat} (hk : W.heap[s]? = some (.deferred (some [])))
    (h : LeavesIn Fence.wide n P fn tmps R [] .returning (W.putObj s (.deferred none))) : LeavesInM Fence.wide n P fn tmps R [{ target := .collected s, args := #[] }] .returning W :=
  ⟨by simp, .inl ⟨_, _, rfl, run_takeDeferred hk, h⟩⟩
theorem below_mark {w W : World} {s : Nat} {o' : Obj} (h : Below w.heap.size w W) (hs : w.heap.size ≤ s) : Below w.heap.size w (W.putObj s o') :=
  h.grown (grownBy_putObj' W s o') h.size fun k e => by cases e; exact hs

/-- The gaps of a table, below n. -/
def gapsB (T : Nat → Bool) (n : Nat) : List Int := (upB (fun j => !T j) n).map Int.ofNat
theorem gapsB_hit {T : Nat → Bool} {n : Nat} (h : T n = false) : gapsB T (n + 1) = gapsB T n ++ [(n : Int)] := by
  unfold gapsB; rw [upB_succ, h]; simp
theorem gapsB_miss {T : Nat → Bool} {n : Nat} (h : T n = true) : gapsB T (n + 1) = gapsB T n := by
  unfold gapsB; rw [upB_succ, h]; simp
theorem gapsB_pre (T : Nat → Bool) {m n : Nat} (h : m ≤ n) : gapsB T m <+: gapsB T n := by
  unfold gapsB
  obtain ⟨r, hr⟩ := upB_prefix (fun j => !T j) h
  rw [hr, List.map_append]; exact List.prefix_append _ _

set_option maxRecDepth 100000 in
set_option maxHeartbeats 1600000 in
theorem impl_gaps (T : Nat → Bool) : GivesAll Try.prog 66 (.agg (tabB T 260).toArray) (gapsB T 200) := by
  intro l W1 J Jx hY h0
  refine callsIn_of_wp Try.func66 rfl trivial ?_ rfl
  simp only [Try.ntmps66, List.size_toArray, List.length_cons, List.length_nil, Nat.reduceAdd, Nat.reduceSub, Array.replicate_succ, Array.replicate_zero, List.push_toArray, List.append_toArray, List.nil_append, List.cons_append]
  refine wpIn_seq (wpIn_wide.2 ?_)
  go_wp2_with (refine wpList_box_arr 50 (.tmp 0) (tabB T 260) rfl rfl rfl ?_)
  have hA := Arr.new W1 50 (tabB T 260)
  have hJ := h0 (.cells (tabB T 260).toArray 50)
  generalize hW2 : W1.alloc (.cells (tabB T 260).toArray 50) = W2 at hA hJ ⊢
  clear hW2 h0
  show Code.wpIn _ _ _ _ _ _ _
  gi_wp2
  gi_loopw [8] (fun i wr => ∃ k : Nat, k ≤ 200 ∧ i = .int .i64 (k : Int) ∧ J (gapsB T k) wr ∧ Arr wr W1.heap.size 50 (tabB T 260)) (fun i _ => 200 - (intOf i).toNat)
  case atStart => exact ⟨0, Nat.zero_le _, rfl, hJ, hA⟩
  case round =>
    clear hA hJ
    obtain ⟨k, hk, rfl, hJ, hA⟩ := hrel
    by_cases hlt : k < 200
    · have hc := (hA.cell k).trans (tabB_get T 260 k (by omega))
      have hlti : (k : Int) < 200 := by omega
      cases hT : T k
      · rw [hT] at hc
        obtain ⟨fn, tmps, assign, body, hy, hR⟩ := hY _ (k : Int) wr hJ (by rw [← gapsB_hit hT]; exact gapsB_pre T (by omega))
        gi_wp2
        refine hR.mono ?_
        rintro e W3 (⟨rfl, hJ3, hk3⟩ | ⟨rfl, hJx3⟩)
        · gi_wp2
          go_roundw
          case rel => exact ⟨k + 1, by omega, by go_num, by rw [gapsB_hit hT]; exact hJ3, hk3.trans hA⟩
          case measure => simp [intOf]; omega
        · gi_wp2
          refine bodyPost_ret (results_none rfl _ _ _) rfl ?_
          exact ⟨⟨_, rfl⟩, .inr ⟨_, by rw [← gapsB_hit hT]; exact gapsB_pre T (by omega), hJx3⟩⟩
      · rw [hT] at hc
        gi_wp2
        refine ⟨fun _ h => (by cases h), ?_⟩
        gi_wp2
        go_roundw
        case rel => exact ⟨k + 1, by omega, by go_num, by rw [gapsB_miss hT]; exact hJ, hA⟩
        case measure => simp [intOf]; omega
    · obtain rfl : k = 200 := by omega
      gi_wp2
      go_end0
      exact ⟨⟨_, rfl⟩, .inl hJ⟩
end Go.Proofs.Ytnbnkjmellmmlaa

/-
  CONTRACTS of the program's chapter 4, second part: gapsBelow. (Own work.)
-/
namespace Go.Proofs.Ytnbnkjmellmmlaa
open Go Go.RowKit
attribute [local go_sem] Oper.semAt_some

theorem gapsB_asc (T : Nat → Bool) (m : Nat) : (gapsB T m).Pairwise (· < ·) := by
  unfold gapsB upB
  rw [List.pairwise_map]
  exact (List.Pairwise.filter _ List.pairwise_lt_range).imp fun h => by simp only [Int.ofNat_eq_natCast]; omega
theorem mem_gapsB {T : Nat → Bool} {m : Nat} {x : Int} : x ∈ gapsB T m ↔ 0 ≤ x ∧ x < m ∧ T x.toNat = false := by
  unfold gapsB
  rw [List.mem_map]
  constructor
  · rintro ⟨a, ha, rfl⟩
    obtain ⟨h1, h2⟩ := mem_upB.1 ha
    simp only [Int.ofNat_eq_natCast, Int.toNat_natCast]
    exact ⟨by omega, by omega, by simpa using h2⟩
  · rintro ⟨h0, h1, h2⟩
    exact ⟨x.toNat, mem_upB.2 ⟨by omega, by rw [h2]; rfl⟩, by simp only [Int.ofNat_eq_natCast]; omega⟩
theorem gapsB_len_le (T : Nat → Bool) (m : Nat) : (gapsB T m).length ≤ m := by
  unfold gapsB; rw [List.length_map]; exact upB_len_le _ _
theorem gapsB_below (T : Nat → Bool) {n m : Nat} (h : n ≤ m) : (gapsB T m).filter (fun x => decide (x < (n : Int))) = gapsB T n := by
  induction m with
  | zero => obtain rfl : n = 0 := by omega
            rfl
  | succ m ih =>
    by_cases e : n = m + 1
    · subst e
      rw [List.filter_eq_self]
      intro x hx
      have := (mem_gapsB.1 hx).2.1
      exact decide_eq_true this
    · cases hT : T m
      · rw [gapsB_hit hT, List.filter_append, ih (by omega)]
        simp; omega
      · rw [gapsB_miss hT]; exact ih (by omega)
/-- A walk up an ascending list that stops at the first number that is not less than n has seen all that are. -/
theorem stop_filter {xs pre : List Int} {x n : Int} (ha : xs.Pairwise (· < ·)) (hp : pre ++ [x] <+: xs) (hl : ∀ y ∈ pre, y < n) (hx : n ≤ x) : xs.filter (fun y => decide (y < n)) = pre := by
  obtain ⟨r, rfl⟩ := hp
  rw [List.append_assoc, List.pairwise_append] at ha
  obtain ⟨-, h2, -⟩ := ha
  rw [List.singleton_append, List.pairwise_cons] at h2
  rw [List.append_assoc, List.filter_append, List.filter_eq_self.2 (fun y hy => decide_eq_true (hl y hy)), List.filter_eq_nil_iff.2, List.append_nil]
  intro y hy
  rw [List.singleton_append, List.mem_cons] at hy
  rcases hy with rfl | hy
  · simp; omega
  · have := h2.1 y hy
    simp; omega

set_option maxRecDepth 100000 in
set_option maxHeartbeats 1600000 in
theorem impl_gapsBelow (T : Nat → Bool) (n : Int) (w : World) :
    Calls Try.prog 68 #[.agg (tabB T 260).toArray, .int .i64 n] w fun e w' => e = .returned (.int .i64 (((gapsB T 200).filter (fun x => decide (x < n))).length : Int)) ∧ Below w.heap.size w w' := by
  refine (callsIn_wide (n := 3)).1 (callsIn_of_wp_marks Try.func68 rfl trivial (wpIn_wide.2 ?_) rfl)
  simp only [Try.ntmps68, List.size_toArray, List.length_cons, List.length_nil, Nat.reduceAdd, Nat.reduceSub, Array.replicate_succ, Array.replicate_zero, List.push_toArray, List.append_toArray, List.nil_append, List.cons_append]
  have hA := (Arr.new w 50 (tabB T 260))
  have hB1 := box_below w (.cells (tabB T 260).toArray 50)
  generalize hW1 : w.alloc (.cells (tabB T 260).toArray 50) = W1 at hA hB1
  have hz1 : W1.heap.size = w.heap.size + 1 := by rw [← hW1]; simp
  have bN := (Boxed.new W1 3 (.int .i64 n)).alloc (.cells #[.int .i64 0] 3)
  have bC := Boxed.new (W1.alloc (.cells #[.int .i64 n] 3)) 3 (.int .i64 0)
  have hA2 := (hA.alloc (.cells #[.int .i64 n] 3)).alloc (.cells #[.int .i64 0] 3)
  have hB2 := (hB1.alloc (o := .cells #[.int .i64 n] 3) hB1.size).alloc (o := .cells #[.int .i64 0] 3) (by simp; omega)
  rw [World.size_alloc, hz1] at bC
  rw [hz1] at bN
  go_wp2_with (first
    | (refine wpList_box_arr 50 (.tmp 0) (tabB T 260) rfl rfl rfl ?_; rw [hW1])
    | (refine wpList_load_arr 50 (.tmp 2) w.heap.size (tabB T 260) (.array 260 4) rfl rfl rfl hA2 undT rfl (sizeTl _) ?_))
  generalize hW3 : (W1.alloc (.cells #[.int .i64 n] 3)).alloc (.cells #[.int .i64 0] 3) = W3 at bN bC hB2 ⊢
  have hz3 : W3.heap.size = w.heap.size + 3 := by rw [← hW3]; simp [hz1]
  clear hW3 hA2 hA hB1 hz1 hW1
  refine wp_range_method 66 (.agg (tabB T 260).toArray) (gapsB T 200) 0 rfl (enters_of Try.func66 (by kernel_rfl) rfl) (impl_gaps T)
    (fun pre W => (Boxed W (w.heap.size + 1) 3 (.int .i64 n) ∧ Boxed W (w.heap.size + 1 + 1) 3 (.int .i64 (pre.length : Int))) ∧ (∀ y ∈ pre, y < n) ∧ Below w.heap.size w W)
    (fun pre W => ∃ q x, pre = q ++ [x] ∧ (∀ y ∈ q, y < n) ∧ n ≤ x ∧ Boxed W (w.heap.size + 1 + 1) 3 (.int .i64 (q.length : Int)) ∧ Below w.heap.size w W)
    (fun pre A B row ⟨⟨h1, h2⟩, h3, h4⟩ hg hr => ⟨⟨own_boxed h1 hg hr, own_boxed h2 hg hr⟩, h3, own_below h4 hg hr (Nat.le_refl _) (by omega)⟩)
    (fun pre A B row ⟨q, x, h1, h2, h3, h4, h5⟩ hg hr => ⟨q, x, h1, h2, h3, own_boxed h4 hg hr, own_below h5 hg hr (Nat.le_refl _) (by omega)⟩)
    ⟨⟨bN, bC⟩, by simp, hB2⟩
    (fun x => { tmps := #[.agg (tabB T 260).toArray, .int .i64 n, .pointer (some ⟨w.heap.size, 0, none⟩), .pointer (some ⟨w.heap.size + 1, 0, none⟩), .int .i64 0, .pointer (some ⟨w.heap.size + 1 + 1, 0, none⟩), .int .i64 x, .agg (tabB T 260).toArray, .func (.func 66) #[.agg (tabB T 260).toArray] #[], .int .i64 x, undef, undef, undef, undef, undef, undef], defers := [] }) ?assign ?body ?done ?stop
  case assign =>
    intro l x W K hK
    gi_wp2
    exact hK
  case body =>
    rintro l pre x W hsz ⟨⟨bN, bC⟩, hlt, hB⟩ hp
    have hlen : pre.length < 200 := by
      have h1 := hp.length_le
      have h2 := gapsB_len_le T 200
      simp at h1; omega
    have cN := bN.cell
    have cC := bC.cell
    have fC := bC.frozen
    clear hB2
    by_cases hx : n ≤ x
    · gi_wp2
      exact ⟨rfl, Lies3.refl _ _, pre, x, rfl, hlt, hx, bC, hB⟩
    · have hx' : x < n := by omega
      have hw1 : IntKind.i64.wrap ((pre.length : Int) + 1) = (pre.length : Int) + 1 := IntWalk.i64_in _ (by omega)
      gi_wp2
      refine ⟨Lies3.grown (grownBy_setCell' W _ _) (fun r e => by cases e; left; omega), ⟨bN.other (by omega) _, ?_⟩, fun y hy => ?_, hB.setCell (p := ⟨w.heap.size + 1 + 1, 0, none⟩) (by show w.heap.size ≤ w.heap.size + 1 + 1; omega) _⟩
      · have := bC.set (.int .i64 ((pre.length : Int) + 1))
        rw [List.length_append, List.length_singleton, Int.natCast_add, Int.natCast_one]
        exact this
      · rw [List.mem_append, List.mem_singleton] at hy
        rcases hy with h | rfl
        · exact hlt y h
        · exact hx'
  case done =>
    rintro W ⟨⟨bN, bC⟩, hlt, hB⟩ hK
    have cC := bC.cell
    rw [hz3] at hK
    go_wp2_with fail
    refine leave_mark hK ?_
    exact ⟨_, results_tmp rfl _ _ _, by rw [List.filter_eq_self.2 (fun y hy => decide_eq_true (hlt y hy))]; rfl, below_mark hB (by omega)⟩
  case stop =>
    rintro pre W hp ⟨q, x, rfl, hlt, hx, bC, hB⟩ hK
    have cC := bC.cell
    rw [hz3] at hK
    have HF := Lib.hid (stop_filter (gapsB_asc T 200) hp hlt hx)
    go_wp2_with fail
    refine leave_mark hK ?_
    exact ⟨_, results_tmp rfl _ _ _, by rw [HF.out]; rfl, below_mark hB (by omega)⟩
end Go.Proofs.Ytnbnkjmellmmlaa

/-
  CONTRACTS of the program's chapter 4, third part: FrobeniusOf, Gaps, ElementAt, GenusOf, ConductorOf, IndexOfElement, SmallElements. (Own work.)
-/
namespace Go.Proofs.Ytnbnkjmellmmlaa
open Go Go.RowKit
attribute [local go_sem] Oper.semAt_some

theorem gaps_el {G : List Int} (h : isSgB G = true) (m : Nat) : gapsB (elF G) m = (upB (fun n => !sumB G n) m).map Int.ofNat := by
  unfold gapsB
  rw [show (fun j => !elF G j) = (fun n => !sumB G n) from funext fun j => by unfold elF; rw [h, Bool.true_and]]
theorem gaps_el200 {G : List Int} (h : isSgB G = true) : gapsB (elF G) 200 = gapsL G := by rw [gaps_el h]; unfold gapsL; rw [if_pos h]
theorem elF_at {G : List Int} (h : isSgB G = true) : elF G = sumB G := funext fun j => by unfold elF; rw [h, Bool.true_and]
theorem getLast_snoc (pre : List Int) (x : Int) : ((pre ++ [x]).getLast?).getD (-1) = x := by simp

/-- A variable's box collects: the new value, the longer row, what lies as it lay. -/
theorem box_collects {W w1 : World} {B s e t n : Nat} {v v' : Value} {k : Nat} {xs ys : List Value} {o : Obj} (hv : Boxed W B t v) (hrow : W.ownsRow (s + 3) e 1 v k xs) (hB : B < s) (hsz : s + 2 < W.heap.size)
    (hown : w1.ownsRow (s + 3) e 1 v' (k + 1) ys) (hg : (W.alloc o).grownBy w1 v.ownBlock) (hn : n ≤ B) :
    Boxed w1 B t v ∧ Boxed (w1.setCell ⟨B, 0, none⟩ v') B t v' ∧ (w1.setCell ⟨B, 0, none⟩ v').ownsRow (s + 3) e 1 v' (k + 1) ys ∧ Lies3 s W (w1.setCell ⟨B, 0, none⟩ v') ∧ Below n W (w1.setCell ⟨B, 0, none⟩ v') := by
  have hr : ∀ r, v.ownBlock = some r → s + 3 ≤ r := by
    intro r hr
    rcases hrow.2 with ⟨rfl, _⟩ | ⟨g, cap, cur, rfl, hle, _⟩
    · simp [Value.ownBlock] at hr
    · simp [Value.ownBlock] at hr; omega
  have h1 : Boxed w1 B t v := (hv.alloc o).kept hg fun e => by have := hr B e.symm; omega
  have hl : Lies3 s W w1 := (Lies3.grown (World.grownBy_alloc W o none) (fun r e => by cases e)).trans (Lies3.grown hg fun r e => by have := hr r e; omega)
  have hb : Below n W w1 := ((Below.refl n W).alloc (by omega) o).grown hg (by simp; omega) fun r e => by have := hr r e; omega
  refine ⟨h1, h1.set v', hown.kept (grownBy_setCell' w1 B v') ?_, hl.trans (Lies3.grown (grownBy_setCell' w1 B v') fun r e => by cases e; exact .inl hB), hb.setCell (p := ⟨B, 0, none⟩) hn _⟩
  rcases hown.2 with ⟨rfl, _⟩ | ⟨g, cap, cur, rfl, hle, _⟩
  · exact .inl rfl
  · refine .inr ?_
    simp [Value.ownBlock]; omega

theorem row_abides {W W' : World} {row : Option Nat} {B base e k : Nat} {v : Value} {xs : List Value} (h : W.ownsRow base e 1 v k xs) (hg : W.grownBy W' row) (hr : ∀ r, row = some r → B ≤ r ∧ ∃ o : Obj, W.heap[r]? = some o ∧ o.isCells = false) : W'.ownsRow base e 1 v k xs := by
  refine h.kept hg ?_
  rcases h.2 with ⟨rfl, _⟩ | ⟨g, cap, cur, rfl, _, hgb, _⟩
  · exact .inl rfl
  · refine .inr fun e' => ?_
    obtain ⟨-, o, ho, hc⟩ := hr g (by simpa [Value.ownBlock] using e'.symm)
    rw [hgb] at ho
    cases ho; cases hc
theorem own_mark {W : World} {s base e k : Nat} {v : Value} {xs : List Value} (h : W.ownsRow base e 1 v k xs) {o : Obj} (o' : Obj) (hk : W.heap[s]? = some o) (ho : o.isCells = false) : (W.putObj s o').ownsRow base e 1 v k xs :=
  row_abides (B := 0) h (grownBy_putObj' W s o') fun r e => by cases e; exact ⟨Nat.zero_le _, o, hk, ho⟩

/-- Where an upward walk over the gaps stops stands the element with the index k. -/
theorem elem_stop {p : Nat → Bool} (hp : ∀ n, 200 ≤ n → p n = true) {q : List Int} {k : Nat} (hl : ∀ y ∈ q, y < (k : Int) + (q.length : Int))
    (hq : q = gapsB p 200 ∨ ∃ x, q ++ [x] <+: gapsB p 200 ∧ (k : Int) + (q.length : Int) < x) : p (k + q.length) = true ∧ (upB p (k + q.length)).length = k := by
  have hself : ∀ n : Int, (∀ y ∈ q, y < n) → q = gapsB p 200 → (gapsB p 200).filter (fun y => decide (y < n)) = q := fun n h e => by
    rw [← e]; exact List.filter_eq_self.2 fun y hy => decide_eq_true (h y hy)
  have hf : (gapsB p 200).filter (fun y => decide (y < ((k + q.length : Nat) : Int))) = q := by
    rw [Int.natCast_add]
    rcases hq with e | ⟨x, hx, hn⟩
    · exact hself _ hl e
    · exact stop_filter (gapsB_asc p 200) hx hl (by omega)
  have hg : gapsB p (k + q.length) = q := by
    by_cases h : k + q.length ≤ 200
    · rw [← gapsB_below p h]; exact hf
    · have e : gapsB p (k + q.length) = gapsB p 200 := by unfold gapsB; rw [upB_not_from hp (by omega)]
      rw [e]
      rcases hq with e' | ⟨x, hx, hn⟩
      · exact e'.symm
      · have := (mem_gapsB.1 (hx.subset (by simp : x ∈ q ++ [x]))).2.1
        omega
  have hlen := upB_not_add p (k + q.length)
  have hgl : (upB (fun j => !p j) (k + q.length)).length = q.length := by
    have := congrArg List.length hg
    unfold gapsB at this; rw [List.length_map] at this; exact this
  refine ⟨?_, by omega⟩
  rcases Bool.eq_false_or_eq_true (p (k + q.length)) with h | h
  · exact h
  · exfalso
    have h2 : k + q.length < 200 := by
      rcases Nat.lt_or_ge (k + q.length) 200 with h' | h'
      · exact h'
      · rw [hp _ h'] at h; cases h
    have hm : ((k + q.length : Nat) : Int) ∈ gapsB p 200 := mem_gapsB.2 ⟨by omega, by omega, by rw [Int.toNat_natCast]; exact h⟩
    have hin : ((k + q.length : Nat) : Int) ∈ q := by
      obtain ⟨N, hN⟩ : ∃ N : Int, N = ((k + q.length : Nat) : Int) := ⟨_, rfl⟩
      rw [← hN] at hm ⊢
      rcases hq with e | ⟨x, hx, hn⟩
      · rw [e]; exact hm
      · rw [← stop_filter (gapsB_asc p 200) hx (fun y hy => by have := hl y hy; omega) (Int.le_refl x), List.mem_filter]
        exact ⟨hm, by simp; omega⟩
    have := hl _ hin
    omega

set_option maxRecDepth 100000 in
set_option maxHeartbeats 1600000 in
theorem impl_greatestGap (T : Nat → Bool) (w : World) :
    Calls Try.prog 67 #[.agg (tabB T 260).toArray] w fun e w' => e = .returned (.int .i64 (((gapsB T 200).getLast?).getD (-1))) ∧ Below w.heap.size w w' := by
  refine (callsIn_wide (n := 3)).1 (callsIn_of_wp_marks Try.func67 rfl trivial (wpIn_wide.2 ?_) rfl)
  simp only [Try.ntmps67, List.size_toArray, List.length_cons, List.length_nil, Nat.reduceAdd, Nat.reduceSub, Array.replicate_succ, Array.replicate_zero, List.push_toArray, List.append_toArray, List.nil_append, List.cons_append]
  have hA := (Arr.new w 50 (tabB T 260))
  have hB1 := box_below w (.cells (tabB T 260).toArray 50)
  generalize hW1 : w.alloc (.cells (tabB T 260).toArray 50) = W1 at hA hB1
  have hz1 : W1.heap.size = w.heap.size + 1 := by rw [← hW1]; simp
  have bC := Boxed.new W1 3 (.int .i64 (-1))
  have hA2 := hA.alloc (.cells #[.int .i64 (-1)] 3)
  have hB2 := hB1.alloc (o := .cells #[.int .i64 (-1)] 3) hB1.size
  rw [hz1] at bC
  go_wp2_with (first
    | (refine wpList_box_arr 50 (.tmp 0) (tabB T 260) rfl rfl rfl ?_; rw [hW1])
    | (refine wpList_load_arr 50 (.tmp 1) w.heap.size (tabB T 260) (.array 260 4) rfl rfl rfl hA2 undT rfl (sizeTl _) ?_))
  generalize hW3 : W1.alloc (.cells #[.int .i64 (-1)] 3) = W3 at bC hB2 ⊢
  have hz3 : W3.heap.size = w.heap.size + 2 := by rw [← hW3]; simp [hz1]
  clear hW3 hA2 hA hB1 hz1 hW1
  refine wp_range_method 66 (.agg (tabB T 260).toArray) (gapsB T 200) 0 rfl (enters_of Try.func66 (by kernel_rfl) rfl) (impl_gaps T)
    (fun pre W => Boxed W (w.heap.size + 1) 3 (.int .i64 ((pre.getLast?).getD (-1))) ∧ Below w.heap.size w W)
    (fun pre W => False)
    (fun pre A B row ⟨h1, h2⟩ hg hr => ⟨own_boxed h1 hg hr, own_below h2 hg hr (Nat.le_refl _) (by omega)⟩)
    (fun _ _ _ _ h _ _ => h)
    ⟨bC, hB2⟩
    (fun x => { tmps := #[.agg (tabB T 260).toArray, .pointer (some ⟨w.heap.size, 0, none⟩), .int .i64 0, .pointer (some ⟨w.heap.size + 1, 0, none⟩), .int .i64 x, .agg (tabB T 260).toArray, .func (.func 66) #[.agg (tabB T 260).toArray] #[], .int .i64 x, undef, undef], defers := [] }) ?assign ?body ?done ?stop
  case assign =>
    intro l x W K hK
    gi_wp2
    exact hK
  case body =>
    rintro l pre x W hsz ⟨bC, hB⟩ hp
    have cC := bC.cell
    have fC := bC.frozen
    have hsz' : w.heap.size + 1 < W.heap.size := by omega
    clear hB2
    gi_wp2
    refine ⟨Lies3.grown (grownBy_setCell' W _ _) (fun r e => by cases e; left; omega), ?_, hB.setCell (p := ⟨w.heap.size + 1, 0, none⟩) (by show w.heap.size ≤ w.heap.size + 1; omega) _⟩
    rw [getLast_snoc]
    exact bC.set (.int .i64 x)
  case done =>
    rintro W ⟨bC, hB⟩ hK
    have cC := bC.cell
    rw [hz3] at hK
    go_wp2_with fail
    refine leave_mark hK ?_
    exact ⟨_, results_tmp rfl _ _ _, rfl, below_mark hB (by omega)⟩
  case stop =>
    rintro pre W hp h hK
    exact h.elim
set_option maxRecDepth 100000 in
set_option maxHeartbeats 1600000 in
theorem impl_FrobeniusOf (G : List Int) (a : Option Addr) (cap : Nat) (w : World) (hr : SlV w a (G.map (Value.int .i64))) (hb : G.length ≤ 1048576) :
    Calls Try.prog 39 #[.agg #[.slice a G.length cap]] w fun e w' => e = .returned (.int .i64 (frobN G)) ∧ Below w.heap.size w w' := by
  have hb0 := box_below w (.cells #[.slice a G.length cap] 30)
  have hc0 := box_cell w (.slice a G.length cap)
  have c1 := impl_elementsOf G a cap _ (hr.below hb0) hb
  have HT := fun f => Lib.hid (tabB_one f 260)
  clear hr
  go_enter Try.func39, Try.ntmps39
  cases hs : isSgB G
  · have HR := Lib.hid (show frobN G = -1 by unfold frobN; rw [hs]; rfl)
    unfold ElPost at c1
    rw [hs] at c1
    clear hs
    go_wp2_with fail
    refine c1.mono ?_
    rintro e w1 ⟨rfl, hb1⟩
    have hbz := hb0.trans (hb1.mono hb0.size)
    have hA := Arr.new w1 50 (tabB (fun _ => false) 260)
    have hbz2 := hbz.alloc (o := .cells (tabB (fun _ => false) 260).toArray 50) hbz.size
    have hzw := hb1.size
    rw [World.size_alloc] at hzw
    clear c1 hc0 hb1 hb0
    go_wp2_with (first
      | (refine wpList_alloc_arr 50 (tabB (fun _ => false) 260) zeroT rfl rfl ?_)
      | (refine wpList_store_arr 50 (.tmp 3) (.tmp 8) w1.heap.size (tabB (fun _ => false) 260) (tabB (elF G) 260) rfl rfl rfl rfl hA (by rw [tabB_length, tabB_length]) (sizeTl _) (HT _).out ?_; intro w3 hB hg3 hz3))
    have hb3 := hbz2.grown hg3 hbz2.size (fun k hk => by cases hk; exact hbz.size)
    go_ret
    exact ⟨by rw [HR.out]; rfl, hb3⟩
  · have cg : ∀ w, Calls Try.prog 67 #[.agg (tabB (elF G) 260).toArray] w fun e w' => e = .returned (.int .i64 (frobN G)) ∧ Below w.heap.size w w' := fun w => by
      have h := impl_greatestGap (elF G) w
      rw [gaps_el200 hs, ← gaps_last G] at h
      exact h
    unfold ElPost at c1
    rw [hs] at c1
    clear hs
    go_wp2_with fail
    refine c1.mono ?_
    rintro e w1 ⟨rfl, hb1⟩
    have hbz := hb0.trans (hb1.mono hb0.size)
    have hA := Arr.new w1 50 (tabB (fun _ => false) 260)
    have hbz2 := hbz.alloc (o := .cells (tabB (fun _ => false) 260).toArray 50) hbz.size
    have hzw := hb1.size
    rw [World.size_alloc] at hzw
    clear c1 hc0 hb1 hb0
    go_wp2_with (first
      | (refine wpList_alloc_arr 50 (tabB (fun _ => false) 260) zeroT rfl rfl ?_)
      | (refine wpList_store_arr 50 (.tmp 3) (.tmp 8) w1.heap.size (tabB (fun _ => false) 260) (tabB (elF G) 260) rfl rfl rfl rfl hA (by rw [tabB_length, tabB_length]) (sizeTl _) (HT _).out ?_; intro w3 hB hg3 hz3)
      | (refine wpList_load_arr 50 (.tmp 3) w1.heap.size (tabB (elF G) 260) (.array 260 4) rfl rfl rfl hB undT rfl (sizeTl _) ?_))
    have hb3 := hbz2.grown hg3 hbz2.size (fun k hk => by cases hk; exact hbz.size)
    refine (cg _).mono ?_
    rintro e w4 ⟨rfl, hb4⟩
    go_wp2_with fail
    go_ret
    exact ⟨rfl, hb3.trans (hb4.mono hb3.size)⟩
set_option maxRecDepth 100000 in
set_option maxHeartbeats 800000 in
theorem impl_ConductorOf (G : List Int) (a : Option Addr) (cap : Nat) (w : World) (hr : SlV w a (G.map (Value.int .i64))) (hb : G.length ≤ 1048576) :
    Calls Try.prog 43 #[.agg #[.slice a G.length cap]] w fun e w' => e = .returned (.int .i64 (condN G)) ∧ Below w.heap.size w w' := by
  have hb0 := box_below w (.cells #[.slice a G.length cap] 30)
  have hc0 := box_cell w (.slice a G.length cap)
  have c1 := impl_FrobeniusOf G a cap _ (hr.below hb0) hb
  have hw1 : IntKind.i64.wrap (frobN G + 1) = frobN G + 1 := IntWalk.i64_in _ (by have := condNat_le G; unfold frobN; split; split; all_goals omega)
  clear hr
  go_enter Try.func43, Try.ntmps43
  go_wp2_with fail
  refine c1.mono ?_
  rintro e w1 ⟨rfl, hb1⟩
  go_wp2_with fail
  go_ret
  exact ⟨rfl, hb0.trans (hb1.mono hb0.size)⟩
set_option maxRecDepth 100000 in
set_option maxHeartbeats 1600000 in
theorem impl_Gaps (G : List Int) (a : Option Addr) (cap : Nat) (w : World) (hr : SlV w a (G.map (Value.int .i64))) (hb : G.length ≤ 1048576) :
    Calls Try.prog 36 #[.agg #[.slice a G.length cap]] w (SlPost (gapsL G) w) := by
  have hb0 := box_below w (.cells #[.slice a G.length cap] 30)
  have hc0 := box_cell w (.slice a G.length cap)
  have c1 := impl_elementsOf G a cap _ (hr.below hb0) hb
  have HT := fun f => Lib.hid (tabB_one f 260)
  clear hr
  obtain ⟨i0, hi, hz0, hz1, hz2⟩ := info_parts infoIntL
  refine (callsIn_wide (n := 3)).1 (callsIn_of_wp_marks Try.func36 rfl trivial (wpIn_wide.2 ?_) rfl)
  simp only [Try.ntmps36, List.size_toArray, List.length_cons, List.length_nil, Nat.reduceAdd, Nat.reduceSub, Array.replicate_succ, Array.replicate_zero, List.push_toArray, List.append_toArray, List.nil_append, List.cons_append]
  cases hs : isSgB G
  · have HR := Lib.hid (show gapsL G = [] by unfold gapsL; rw [hs]; rfl)
    unfold ElPost at c1
    rw [hs] at c1
    clear hs
    go_wp2_with fail
    refine c1.mono ?_
    rintro e w1 ⟨rfl, hb1⟩
    have hbz := hb0.trans (hb1.mono hb0.size)
    have hA := Arr.new w1 50 (tabB (fun _ => false) 260)
    have hbz2 := hbz.alloc (o := .cells (tabB (fun _ => false) 260).toArray 50) hbz.size
    have hzw := hb1.size
    rw [World.size_alloc] at hzw
    clear c1 hc0 hb1 hb0
    go_wp2_with (first
      | (refine wpList_alloc_arr 50 (tabB (fun _ => false) 260) zeroT rfl rfl ?_)
      | (refine wpList_store_arr 50 (.tmp 3) (.tmp 10) w1.heap.size (tabB (fun _ => false) 260) (tabB (elF G) 260) rfl rfl rfl rfl hA (by rw [tabB_length, tabB_length]) (sizeTl _) (HT _).out ?_; intro w3 hB hg3 hz3))
    have hb3 := hbz2.grown hg3 hbz2.size (fun k hk => by cases hk; exact hbz.size)
    exact ⟨_, results_tmp rfl _ _ _, _, rfl, by rw [HR.out]; exact World.ownsRow_nil _ _ _ _, hb3⟩
  · have HG := Lib.hid (gaps_el200 hs)
    have hlenL : (gapsL G).length ≤ 200 := by rw [← HG.out]; exact gapsB_len_le _ _
    unfold ElPost at c1
    rw [hs] at c1
    clear hs
    go_wp2_with fail
    refine c1.mono ?_
    rintro e w1 ⟨rfl, hb1⟩
    have hbz := hb0.trans (hb1.mono hb0.size)
    have hA := Arr.new w1 50 (tabB (fun _ => false) 260)
    have hbz2 := hbz.alloc (o := .cells (tabB (fun _ => false) 260).toArray 50) hbz.size
    have hzw := hb1.size
    rw [World.size_alloc] at hzw
    clear c1 hc0 hb1 hb0
    go_wp2_with (first
      | (refine wpList_alloc_arr 50 (tabB (fun _ => false) 260) zeroT rfl rfl ?_)
      | (refine wpList_store_arr 50 (.tmp 3) (.tmp 10) w1.heap.size (tabB (fun _ => false) 260) (tabB (elF G) 260) rfl rfl rfl rfl hA (by rw [tabB_length, tabB_length]) (sizeTl _) (HT _).out ?_; intro w3 hB hg3 hz3)
      | (refine wpList_load_arr 50 (.tmp 3) w1.heap.size (tabB (elF G) 260) (.array 260 4) rfl rfl rfl (hB.alloc _) undT rfl (sizeTl _) ?_))
    have hb3 := hbz2.grown hg3 hbz2.size (fun k hk => by cases hk; exact hbz.size)
    have hz4 : w3.heap.size = w1.heap.size + 1 := by rw [hz3]; simp
    have bC := Boxed.new w3 22 (.slice none 0 0)
    rw [hz4] at bC
    have hb4 := hb3.alloc (o := .cells #[.slice none 0 0] 22) hb3.size
    generalize hW4 : w3.alloc (.cells #[.slice none 0 0] 22) = W4 at bC hb4 ⊢
    have hzz : W4.heap.size = w1.heap.size + 2 := by rw [← hW4]; simp [hz4]
    have hit := impl_gaps (elF G)
    rw [HG.out] at hit
    have hsw := hbz.size
    clear hW4 hB hg3 hz3 hA hbz2 hb3 hbz hz4
    refine wp_range_method 66 (.agg (tabB (elF G) 260).toArray) (gapsL G) 0 rfl (enters_of Try.func66 (by kernel_rfl) rfl) hit
      (fun pre W => (∃ v, Boxed W (w1.heap.size + 1) 22 v ∧ W.ownsRow (w1.heap.size + 2 + 3) 3 1 v pre.length (pre.map (Value.int .i64))) ∧ Below w.heap.size w W)
      (fun pre W => False)
      (fun pre A B row ⟨⟨v, h1, h3⟩, h2⟩ hg hr => ⟨⟨v, own_boxed h1 hg hr, row_abides h3 hg hr⟩, own_below h2 hg hr (Nat.le_refl _) (by omega)⟩)
      (fun _ _ _ _ h _ _ => h)
      ⟨⟨_, bC, World.ownsRow_nil _ _ _ _⟩, hb4⟩
      (fun x => { tmps := #[.agg #[.slice a G.length cap], .pointer (some ⟨w.heap.size, 0, none⟩), .slice none 0 0, .pointer (some ⟨w1.heap.size, 0, none⟩), .bool true, .pointer (some ⟨w1.heap.size + 1, 0, none⟩), .int .i64 x, .tuple #[.agg (tabB (elF G) 260).toArray, .bool true], .agg #[.slice a G.length cap], .tuple #[.agg (tabB (elF G) 260).toArray, .bool true], .agg (tabB (elF G) 260).toArray, .bool true, .bool true, .bool false, .agg (tabB (elF G) 260).toArray, .func (.func 66) #[.agg (tabB (elF G) 260).toArray] #[], .int .i64 x, undef, undef, undef, undef, undef], defers := [] }) ?assign ?body ?done ?stop
    case assign =>
      intro l x W K hK
      gi_wp2
      exact hK
    case body =>
      rintro l pre x W hsz ⟨⟨v, hv, hrow⟩, hB⟩ hp
      have hc := hv.cell
      have hlen : pre.length < 200 := by
        have h1 := hp.length_le
        simp at h1; omega
      have hsz' : w1.heap.size + 2 + 2 < W.heap.size := by omega
      gi_wp2_with (gi_at_builtin; refine wpListIn_append_own _ rfl _ _ 22 rfl (w1.heap.size + 2 + 3) 3 i0 (.int .i64 0) 1 8 Try.underlying22 hi hz0 hz1 hz2 rfl (by decide) _ _ _ rfl (hrow.alloc _) ⟨W.heap.size, 0, none⟩ 1 1 [.int .i64 x] rfl rfl (cell_one_new _ _ _) (by simp [Value.oneCell']) (by unfold maxLen; omega) (by omega) (by simp; omega) ?_; intro v' w5 hown' hgrow _; obtain ⟨g', cap', rfl⟩ := ownsRow_succ hown'; obtain ⟨hv1, hv2, hr2, hl2, hb2⟩ := box_collects hv hrow (by omega) hsz' hown' hgrow (show w.heap.size ≤ w1.heap.size + 1 by omega); have hc1 := hv1.cell; have hf1 := hv1.frozen)
      refine ⟨by rw [hzz]; exact hl2, ⟨_, hv2, ?_⟩, hB.trans hb2⟩
      rw [List.length_append, List.length_singleton, List.map_append]
      exact hr2
    case done =>
      rintro W ⟨⟨v, hv, hrow⟩, hB⟩ hK
      have hc := hv.cell
      rw [hzz] at hK
      go_wp2_with fail
      refine leave_mark hK ?_
      exact ⟨_, results_tmp rfl _ _ _, v, rfl, owns_wider (own_mark hrow _ hK rfl) (by omega), below_mark hB (by omega)⟩
    case stop =>
      rintro pre W hp h hK
      exact h.elim
end Go.Proofs.Ytnbnkjmellmmlaa

/-
  CONTRACTS of the program's chapter 4, fourth part: GenusOf, ElementAt, IndexOfElement. (Own work.)
-/
namespace Go.Proofs.Ytnbnkjmellmmlaa
open Go Go.RowKit
attribute [local go_sem] Oper.semAt_some

set_option maxRecDepth 100000 in
set_option maxHeartbeats 1600000 in
theorem impl_GenusOf (G : List Int) (a : Option Addr) (cap : Nat) (w : World) (hr : SlV w a (G.map (Value.int .i64))) (hb : G.length ≤ 1048576) :
    Calls Try.prog 41 #[.agg #[.slice a G.length cap]] w fun e w' => e = .returned (.int .i64 (genusN G)) ∧ Below w.heap.size w w' := by
  have hb0 := box_below w (.cells #[.slice a G.length cap] 30)
  have hc0 := box_cell w (.slice a G.length cap)
  have c1 := impl_elementsOf G a cap _ (hr.below hb0) hb
  have HT := fun f => Lib.hid (tabB_one f 260)
  clear hr
  go_enter Try.func41, Try.ntmps41
  cases hs : isSgB G
  · have HR := Lib.hid (show genusN G = -1 by unfold genusN; rw [hs]; rfl)
    unfold ElPost at c1
    rw [hs] at c1
    clear hs
    go_wp2_with fail
    refine c1.mono ?_
    rintro e w1 ⟨rfl, hb1⟩
    have hbz := hb0.trans (hb1.mono hb0.size)
    have hA := Arr.new w1 50 (tabB (fun _ => false) 260)
    have hbz2 := hbz.alloc (o := .cells (tabB (fun _ => false) 260).toArray 50) hbz.size
    have hzw := hb1.size
    rw [World.size_alloc] at hzw
    clear c1 hc0 hb1 hb0
    go_wp2_with (first
      | (refine wpList_alloc_arr 50 (tabB (fun _ => false) 260) zeroT rfl rfl ?_)
      | (refine wpList_store_arr 50 (.tmp 3) (.tmp 8) w1.heap.size (tabB (fun _ => false) 260) (tabB (elF G) 260) rfl rfl rfl rfl hA (by rw [tabB_length, tabB_length]) (sizeTl _) (HT _).out ?_; intro w3 hB hg3 hz3))
    have hb3 := hbz2.grown hg3 hbz2.size (fun k hk => by cases hk; exact hbz.size)
    go_ret
    exact ⟨by rw [HR.out]; rfl, hb3⟩
  · have cg : ∀ w, Calls Try.prog 68 #[.agg (tabB (elF G) 260).toArray, .int .i64 200] w fun e w' => e = .returned (.int .i64 (genusN G)) ∧ Below w.heap.size w w' := fun w => by
      have h := impl_gapsBelow (elF G) 200 w
      rw [show (gapsB (elF G) 200).filter (fun x => decide (x < 200)) = gapsL G from (gapsB_below (elF G) (Nat.le_refl 200)).trans (gaps_el200 hs)] at h
      rw [show genusN G = ((gapsL G).length : Int) by unfold genusN; rw [if_pos hs]]
      exact h
    unfold ElPost at c1
    rw [hs] at c1
    clear hs
    go_wp2_with fail
    refine c1.mono ?_
    rintro e w1 ⟨rfl, hb1⟩
    have hbz := hb0.trans (hb1.mono hb0.size)
    have hA := Arr.new w1 50 (tabB (fun _ => false) 260)
    have hbz2 := hbz.alloc (o := .cells (tabB (fun _ => false) 260).toArray 50) hbz.size
    have hzw := hb1.size
    rw [World.size_alloc] at hzw
    clear c1 hc0 hb1 hb0
    go_wp2_with (first
      | (refine wpList_alloc_arr 50 (tabB (fun _ => false) 260) zeroT rfl rfl ?_)
      | (refine wpList_store_arr 50 (.tmp 3) (.tmp 8) w1.heap.size (tabB (fun _ => false) 260) (tabB (elF G) 260) rfl rfl rfl rfl hA (by rw [tabB_length, tabB_length]) (sizeTl _) (HT _).out ?_; intro w3 hB hg3 hz3)
      | (refine wpList_load_arr 50 (.tmp 3) w1.heap.size (tabB (elF G) 260) (.array 260 4) rfl rfl rfl hB undT rfl (sizeTl _) ?_))
    have hb3 := hbz2.grown hg3 hbz2.size (fun k hk => by cases hk; exact hbz.size)
    refine (cg _).mono ?_
    rintro e w4 ⟨rfl, hb4⟩
    go_wp2_with fail
    go_ret
    exact ⟨rfl, hb3.trans (hb4.mono hb3.size)⟩
set_option maxRecDepth 100000 in
set_option maxHeartbeats 1600000 in
theorem impl_ElementAt (G : List Int) (n : Int) (a : Option Addr) (cap : Nat) (w : World) (hr : SlV w a (G.map (Value.int .i64))) (hb : G.length ≤ 1048576) (_ : -9223372036854775808 ≤ n) (_ : n ≤ 9223372036854775807) :
    Calls Try.prog 47 #[.agg #[.slice a G.length cap], .int .i64 n] w fun e w' => e = .returned (.int .i64 (elemN G n)) ∧ Below w.heap.size w w' := by
  have hb0 := box_below w (.cells #[.slice a G.length cap] 30)
  have hc0 := box_cell w (.slice a G.length cap)
  have c1 := impl_elementsOf G a cap _ (hr.below hb0) hb
  have HT := fun f => Lib.hid (tabB_one f 260)
  clear hr
  refine (callsIn_wide (n := 3)).1 (callsIn_of_wp_marks Try.func47 rfl trivial (wpIn_wide.2 ?_) rfl)
  simp only [Try.ntmps47, List.size_toArray, List.length_cons, List.length_nil, Nat.reduceAdd, Nat.reduceSub, Array.replicate_succ, Array.replicate_zero, List.push_toArray, List.append_toArray, List.nil_append, List.cons_append]
  cases hs : isSgB G
  · have HR := Lib.hid (show elemN G n = -1 by unfold elemN; rw [hs]; rfl)
    unfold ElPost at c1
    rw [hs] at c1
    clear hs
    go_wp2_with fail
    refine c1.mono ?_
    rintro e w1 ⟨rfl, hb1⟩
    have hbz := hb0.trans (hb1.mono hb0.size)
    have hA := Arr.new w1 50 (tabB (fun _ => false) 260)
    have hbz2 := hbz.alloc (o := .cells (tabB (fun _ => false) 260).toArray 50) hbz.size
    have hzw := hb1.size
    rw [World.size_alloc] at hzw
    clear c1 hc0 hb1 hb0
    go_wp2_with (first
      | (refine wpList_alloc_arr 50 (tabB (fun _ => false) 260) zeroT rfl rfl ?_)
      | (refine wpList_store_arr 50 (.tmp 5) (.tmp 12) w1.heap.size (tabB (fun _ => false) 260) (tabB (elF G) 260) rfl rfl rfl rfl hA (by rw [tabB_length, tabB_length]) (sizeTl _) (HT _).out ?_; intro w3 hB hg3 hz3))
    have hb3 := hbz2.grown hg3 hbz2.size (fun k hk => by cases hk; exact hbz.size)
    exact ⟨_, results_tmp rfl _ _ _, by rw [HR.out]; rfl, hb3⟩
  · by_cases h0 : n < 0
    · have HR := Lib.hid (show elemN G n = -1 by unfold elemN; rw [decide_eq_false (by omega : ¬ 0 ≤ n)]; simp)
      unfold ElPost at c1
      rw [hs] at c1
      clear hs
      go_wp2_with fail
      refine c1.mono ?_
      rintro e w1 ⟨rfl, hb1⟩
      have hbz := hb0.trans (hb1.mono hb0.size)
      have hA := Arr.new w1 50 (tabB (fun _ => false) 260)
      have hbz2 := hbz.alloc (o := .cells (tabB (fun _ => false) 260).toArray 50) hbz.size
      have hzw := hb1.size
      rw [World.size_alloc] at hzw
      clear c1 hc0 hb1 hb0
      go_wp2_with (first
        | (refine wpList_alloc_arr 50 (tabB (fun _ => false) 260) zeroT rfl rfl ?_)
        | (refine wpList_store_arr 50 (.tmp 5) (.tmp 12) w1.heap.size (tabB (fun _ => false) 260) (tabB (elF G) 260) rfl rfl rfl rfl hA (by rw [tabB_length, tabB_length]) (sizeTl _) (HT _).out ?_; intro w3 hB hg3 hz3)
        | (refine wpList_load_arr 50 (.tmp 5) w1.heap.size (tabB (elF G) 260) (.array 260 4) rfl rfl rfl hB undT rfl (sizeTl _) ?_))
      have hb3 := hbz2.grown hg3 hbz2.size (fun k hk => by cases hk; exact hbz.size)
      exact ⟨_, results_tmp rfl _ _ _, by rw [HR.out]; rfl, hb3⟩
    by_cases h2 : 200 < n
    · have HR := Lib.hid (show elemN G n = -1 by unfold elemN; rw [decide_eq_false (by omega : ¬ n ≤ 200)]; simp)
      unfold ElPost at c1
      rw [hs] at c1
      clear hs
      go_wp2_with fail
      refine c1.mono ?_
      rintro e w1 ⟨rfl, hb1⟩
      have hbz := hb0.trans (hb1.mono hb0.size)
      have hA := Arr.new w1 50 (tabB (fun _ => false) 260)
      have hbz2 := hbz.alloc (o := .cells (tabB (fun _ => false) 260).toArray 50) hbz.size
      have hzw := hb1.size
      rw [World.size_alloc] at hzw
      clear c1 hc0 hb1 hb0
      go_wp2_with (first
        | (refine wpList_alloc_arr 50 (tabB (fun _ => false) 260) zeroT rfl rfl ?_)
        | (refine wpList_store_arr 50 (.tmp 5) (.tmp 12) w1.heap.size (tabB (fun _ => false) 260) (tabB (elF G) 260) rfl rfl rfl rfl hA (by rw [tabB_length, tabB_length]) (sizeTl _) (HT _).out ?_; intro w3 hB hg3 hz3)
        | (refine wpList_load_arr 50 (.tmp 5) w1.heap.size (tabB (elF G) 260) (.array 260 4) rfl rfl rfl hB undT rfl (sizeTl _) ?_))
      have hb3 := hbz2.grown hg3 hbz2.size (fun k hk => by cases hk; exact hbz.size)
      exact ⟨_, results_tmp rfl _ _ _, by rw [HR.out]; rfl, hb3⟩
    obtain ⟨K, rfl⟩ : ∃ K : Nat, n = (K : Int) := ⟨n.toNat, by omega⟩
    have HG := Lib.hid (gaps_el200 hs)
    have hlenL : (gapsL G).length ≤ 200 := by rw [← HG.out]; exact gapsB_len_le _ _
    have HE : Hid (∀ q : List Int, (∀ y ∈ q, y < (K : Int) + (q.length : Int)) → (q = gapsL G ∨ ∃ x, q ++ [x] <+: gapsL G ∧ (K : Int) + (q.length : Int) < x) → elemN G (K : Int) = (K : Int) + (q.length : Int)) := Lib.hid fun q hl hq => by
      have hE := elF_at hs
      rw [← gaps_el200 hs, hE] at hq
      obtain ⟨e1, e2⟩ := elem_stop (p := sumB G) (fun m hm => sg_from hs m (Nat.le_trans (condNat_le G) hm)) hl hq
      have e3 := nthB_count (sg_from hs) e1
      rw [e2] at e3
      unfold elemN
      rw [hs, decide_eq_true (by omega : (0 : Int) ≤ (K : Int)), decide_eq_true (by omega : (K : Int) ≤ 200), Bool.and_self, Bool.and_self, if_pos rfl, Int.toNat_natCast, e3, Int.natCast_add]
    have h2' : (K : Int) ≤ 200 := by omega
    unfold ElPost at c1
    rw [hs] at c1
    clear hs
    go_wp2_with fail
    refine c1.mono ?_
    rintro e w1 ⟨rfl, hb1⟩
    have hbz := hb0.trans (hb1.mono hb0.size)
    have hA := Arr.new w1 50 (tabB (fun _ => false) 260)
    have hbz2 := hbz.alloc (o := .cells (tabB (fun _ => false) 260).toArray 50) hbz.size
    have hzw := hb1.size
    rw [World.size_alloc] at hzw
    clear c1 hc0 hb1 hb0
    go_wp2_with (first
      | (refine wpList_alloc_arr 50 (tabB (fun _ => false) 260) zeroT rfl rfl ?_)
      | (refine wpList_store_arr 50 (.tmp 5) (.tmp 12) w1.heap.size (tabB (fun _ => false) 260) (tabB (elF G) 260) rfl rfl rfl rfl hA (by rw [tabB_length, tabB_length]) (sizeTl _) (HT _).out ?_; intro w3 hB hg3 hz3)
      | (refine wpList_load_arr 50 (.tmp 5) w1.heap.size (tabB (elF G) 260) (.array 260 4) rfl rfl rfl (hB.alloc _) undT rfl (sizeTl _) ?_))
    have hb3 := hbz2.grown hg3 hbz2.size (fun k hk => by cases hk; exact hbz.size)
    have hz4 : w3.heap.size = w1.heap.size + 1 := by rw [hz3]; simp
    have bC := Boxed.new w3 3 (.int .i64 (K : Int))
    rw [hz4] at bC
    have hb4 := hb3.alloc (o := .cells #[.int .i64 (K : Int)] 3) hb3.size
    generalize hW4 : w3.alloc (.cells #[.int .i64 (K : Int)] 3) = W4 at bC hb4 ⊢
    have hzz : W4.heap.size = w1.heap.size + 2 := by rw [← hW4]; simp [hz4]
    have hit := impl_gaps (elF G)
    rw [HG.out] at hit
    have hsw := hbz.size
    clear hW4 hB hg3 hz3 hA hbz2 hb3 hbz hz4
    refine wp_range_method 66 (.agg (tabB (elF G) 260).toArray) (gapsL G) 0 rfl (enters_of Try.func66 (by kernel_rfl) rfl) hit
      (fun pre W => Boxed W (w1.heap.size + 1) 3 (.int .i64 ((K : Int) + (pre.length : Int))) ∧ (∀ y ∈ pre, y < (K : Int) + (pre.length : Int)) ∧ Below w.heap.size w W)
      (fun pre W => ∃ q x, pre = q ++ [x] ∧ (∀ y ∈ q, y < (K : Int) + (q.length : Int)) ∧ (K : Int) + (q.length : Int) < x ∧ Boxed W (w1.heap.size + 1) 3 (.int .i64 ((K : Int) + (q.length : Int))) ∧ Below w.heap.size w W)
      (fun pre A B row ⟨h1, h3, h2⟩ hg hr => ⟨own_boxed h1 hg hr, h3, own_below h2 hg hr (Nat.le_refl _) (by omega)⟩)
      (fun pre A B row ⟨q, x, h1, h2, h3, h4, h5⟩ hg hr => ⟨q, x, h1, h2, h3, own_boxed h4 hg hr, own_below h5 hg hr (Nat.le_refl _) (by omega)⟩)
      ⟨by simpa using bC, by simp, hb4⟩
      ?a1 ?assign ?body ?done ?stop
    case assign =>
      intro l x W K hK
      gi_wp2
      exact hK
    case body =>
      rintro l pre x W hsz ⟨bC, hlt, hB⟩ hp
      have cC := bC.cell
      have fC := bC.frozen
      have hlen : pre.length < 200 := by
        have h1 := hp.length_le
        simp at h1; omega
      have hsz' : w1.heap.size + 2 + 2 < W.heap.size := by omega
      by_cases hx : (K : Int) + (pre.length : Int) < x
      · gi_wp2
        exact ⟨rfl, Lies3.refl _ _, pre, x, rfl, hlt, hx, bC, hB⟩
      · have hw1 : IntKind.i64.wrap ((K : Int) + (pre.length : Int) + 1) = (K : Int) + (pre.length : Int) + 1 := IntWalk.i64_in _ (by omega)
        gi_wp2
        refine ⟨Lies3.grown (grownBy_setCell' W _ _) (fun r e => by cases e; left; omega), ?_, fun y hy => ?_, hB.setCell (p := ⟨w1.heap.size + 1, 0, none⟩) (by show w.heap.size ≤ w1.heap.size + 1; omega) _⟩
        · rw [List.length_append, List.length_singleton, Int.natCast_add, Int.natCast_one, ← Int.add_assoc]
          exact bC.set _
        · rw [List.length_append, List.length_singleton]
          rw [List.mem_append, List.mem_singleton] at hy
          rcases hy with h | rfl
          · have := hlt y h; omega
          · omega
    case done =>
      rintro W ⟨bC, hlt, hB⟩ hK
      have cC := bC.cell
      have HR := Lib.hid (HE.out _ hlt (.inl rfl))
      rw [hzz] at hK
      go_wp2_with fail
      refine leave_mark hK ?_
      exact ⟨_, results_tmp rfl _ _ _, by rw [HR.out]; rfl, below_mark hB (by omega)⟩
    case stop =>
      rintro pre W hp ⟨q, x, rfl, hlt, hx, bC, hB⟩ hK
      have cC := bC.cell
      have HR := Lib.hid (HE.out _ hlt (.inr ⟨x, hp, hx⟩))
      rw [hzz] at hK
      go_wp2_with fail
      refine leave_mark hK ?_
      exact ⟨_, results_tmp rfl _ _ _, by rw [HR.out]; rfl, below_mark hB (by omega)⟩
end Go.Proofs.Ytnbnkjmellmmlaa

/-
  CONTRACTS of the program's chapter 4, fifth part: SmallElements. (Own work.)
-/
namespace Go.Proofs.Ytnbnkjmellmmlaa
open Go Go.RowKit

/-- One more than the greatest gap of a table. -/
def condT (T : Nat → Bool) : Nat := (((gapsB T 200).getLast?).getD (-1) + 1).toNat
def smallT (T : Nat → Bool) : List Int := (upB T (condT T)).map Int.ofNat
theorem lastT_bnd (T : Nat → Bool) : -1 ≤ ((gapsB T 200).getLast?).getD (-1) ∧ ((gapsB T 200).getLast?).getD (-1) < 200 := by
  cases h : (gapsB T 200).getLast? with
  | none => simp
  | some x =>
    have hm := mem_gapsB.1 (List.mem_of_getLast? h)
    rw [Option.getD_some]
    omega
theorem condT_int (T : Nat → Bool) : ((gapsB T 200).getLast?).getD (-1) + 1 = (condT T : Int) ∧ condT T ≤ 200 := by
  have h := lastT_bnd T
  unfold condT
  omega
theorem smallT_el {G : List Int} (hs : isSgB G = true) : smallT (elF G) = smallL G ∧ condT (elF G) = condNat G := by
  have hc : condT (elF G) = condNat G := by
    have h := (condT_int (elF G)).1
    rw [gaps_el200 hs, ← gaps_last G] at h
    have := condN_yes hs
    unfold condN at this
    omega
  refine ⟨?_, hc⟩
  unfold smallT
  rw [hc, elF_at hs, smallL_yes hs]

set_option maxRecDepth 100000 in
set_option maxHeartbeats 1600000 in
theorem impl_smallElements (T : Nat → Bool) (w : World) :
    Calls Try.prog 70 #[.agg (tabB T 260).toArray] w (SlPost (smallT T) w) := by
  obtain ⟨i0, hi, hz0, hz1, hz2⟩ := info_parts infoIntL
  have cg := fun W => impl_greatestGap T W
  obtain ⟨hci, hc2⟩ := condT_int T
  have ch : ∀ (k : Nat) W, k < 200 → Calls Try.prog 62 #[.agg (tabB T 260).toArray, .int .i64 (k : Int)] W fun e w' => e = .returned (.bool (T k)) ∧ Below W.heap.size W w' := fun k W hk =>
    impl_has T (k : Int) (T k) W (by rw [if_neg (by omega), if_pos (by omega), Int.toNat_natCast])
  have HS : Hid (smallT T = (upB T (condT T)).map Int.ofNat) := Lib.hid rfl
  have hlb := lastT_bnd T
  generalize ((gapsB T 200).getLast?).getD (-1) = g at *
  generalize condT T = C at *
  have hwg : IntKind.i64.wrap (g + 1) = (C : Int) := by rw [IntWalk.i64_in _ (by omega)]; exact hci
  have hA := (Arr.new w 50 (tabB T 260))
  have hB1 := box_below w (.cells (tabB T 260).toArray 50)
  obtain ⟨W1, hW1⟩ : ∃ W1, W1 = w.alloc (.cells (tabB T 260).toArray 50) := ⟨_, rfl⟩
  rw [← hW1] at hA hB1
  have hz1w : W1.heap.size = w.heap.size + 1 := by rw [hW1]; simp
  have HW1 := Lib.hid hW1
  clear hW1
  go_enter Try.func70, Try.ntmps70
  go_wp2_with (first
    | (refine wpList_box_arr 50 (.tmp 0) (tabB T 260) rfl rfl rfl ?_; rw [← HW1.out])
    | (refine wpList_load_arr 50 (.tmp 1) w.heap.size (tabB T 260) (.array 260 4) rfl rfl rfl hA undT rfl (sizeTl _) ?_))
  refine (cg _).mono ?_
  rintro e w4 ⟨rfl, hb4⟩
  have hB4 := hA.below hb4
  have hbz4 := hB1.trans (hb4.mono hB1.size)
  have hz4 : w.heap.size + 1 ≤ w4.heap.size := by have h := hb4.size; omega
  clear cg hA hB1 hb4
  go_wp2_with fail
  go_loopw [3, 8] (fun v i wr => ∃ (k : Nat) (M : List Int), k ≤ C ∧ i = .int .i64 (k : Int) ∧ M = (upB T k).map Int.ofNat ∧ M.length ≤ k ∧
      wr.ownsRow (w.heap.size + 1) 3 1 v M.length (M.map (Value.int .i64)) ∧ Arr wr w.heap.size 50 (tabB T 260) ∧ w.heap.size + 1 ≤ wr.heap.size ∧ Below w.heap.size w wr) (fun _ i _ => C - (intOf i).toNat)
  case atStart => exact ⟨0, [], Nat.zero_le _, rfl, rfl, by simp, World.ownsRow_nil _ _ _ _, hB4, hz4, hbz4⟩
  case round =>
    clear hB4 hz4 hbz4
    obtain ⟨k, M, hk, rfl, hMe, hMk, hown, hB, hsz, hbel⟩ := hrel
    have HMe := Lib.hid hMe
    clear hMe
    by_cases hlt : k < C
    · have c3 := ch k wr (by omega)
      have hlti : (k : Int) < (C : Int) := by omega
      go_wp2_with (first
        | (refine wpList_load_arr 50 (.tmp 1) w.heap.size (tabB T 260) (.array 260 4) rfl rfl rfl hB undT rfl (sizeTl _) ?_))
      refine c3.mono ?_
      rintro e w5 ⟨rfl, hb5⟩
      have hB5 := hB.below hb5
      have hown5 := owns_below hown hb5
      have hbel5 := hbel.trans (hb5.mono hbel.size)
      have hsz5 := Nat.le_trans hsz hb5.size
      have hne5 := own_ne hown5 (g := w.heap.size) (.inl (by omega))
      clear c3 hb5 hB hown hbel hsz
      cases hp : T k
      · have HMN : Hid (M = (upB T (k + 1)).map Int.ofNat) := Lib.hid (by rw [HMe.out, upB_succ, hp]; rfl)
        clear hp
        go_wp2_with fail
        go_roundw
        case rel => exact ⟨k + 1, M, by omega, by go_num, HMN.out, by omega, hown5, hB5, hsz5, hbel5⟩
        case measure => simp [intOf]; omega
      · have HMN : Hid (M ++ [(k : Int)] = (upB T (k + 1)).map Int.ofNat) := Lib.hid (by rw [HMe.out, upB_succ, hp, if_pos rfl, List.map_append]; rfl)
        clear hp
        go_wp2_with (first
          | (at_builtin; refine wpList_append_own _ rfl (.tmp 14) (.tmp 16) 22 rfl (w.heap.size + 1) 3 i0 (Value.int .i64 0) 1 8 Try.underlying22 hi hz0 hz1 hz2 rfl (by decide) _ _ _ rfl (hown5.alloc _) ⟨_, 0, none⟩ 1 1 [.int .i64 (k : Int)] rfl rfl (World.news_of_block (cs := #[.int .i64 (k : Int)]) (t := 3) (fr := (0, 0)) (heap_alloc_new _ _)) (by simp [Value.oneCell']) (by unfold maxLen; omega) (by omega) (by simp; omega) ?_; intro v6 w6 hown6 hg6 _))
        have hd4 := (hB5.alloc (.cells #[.int .i64 (k : Int)] 3)).grown hg6 (own_row hne5)
        have hbel6 := (hbel5.alloc hbel5.size (.cells #[.int .i64 (k : Int)] 3)).grown hg6 (by simp; omega) (fun j hj => by have := (hown5.lt j hj).1; omega)
        have hs6 : w.heap.size + 1 ≤ w6.heap.size := by have := hg6.size; simp at this; omega
        have HO := Lib.hid hown6
        clear hown6 hg6 hown5
        go_roundw
        case rel => exact ⟨k + 1, M ++ [(k : Int)], by omega, by go_num, HMN.out, by rw [List.length_append, List.length_singleton]; omega, by rw [List.length_append, List.length_singleton, List.map_append]; exact HO.out, hd4, hs6, hbel6⟩
        case measure => simp [intOf]; omega
    · obtain rfl : k = C := by omega
      have HE : Hid (smallT T = M) := Lib.hid (by rw [HS.out, HMe.out])
      go_wp2_with fail
      go_ret
      exact ⟨_, rfl, by rw [HE.out]; exact owns_wider hown (by omega), hbel⟩
set_option maxRecDepth 100000 in
set_option maxHeartbeats 1600000 in
theorem impl_SmallElements (G : List Int) (a : Option Addr) (cap : Nat) (w : World) (hr : SlV w a (G.map (Value.int .i64))) (hb : G.length ≤ 1048576) :
    Calls Try.prog 45 #[.agg #[.slice a G.length cap]] w (SlPost (smallL G) w) := by
  have hb0 := box_below w (.cells #[.slice a G.length cap] 30)
  have hc0 := box_cell w (.slice a G.length cap)
  have c1 := impl_elementsOf G a cap _ (hr.below hb0) hb
  have HT := fun f => Lib.hid (tabB_one f 260)
  obtain ⟨i0, hi, hz0, hz1, hz2⟩ := info_parts infoIntL
  cases hs : isSgB G
  · have HR := Lib.hid (smallL_no hs)
    unfold ElPost at c1
    rw [hs] at c1
    clear hs
    go_enter Try.func45, Try.ntmps45
    go_wp2_with fail
    refine c1.mono ?_
    rintro e w1 ⟨rfl, hb1⟩
    have hbz := hb0.trans (hb1.mono hb0.size)
    have hA := Arr.new w1 50 (tabB (fun _ => false) 260)
    have hbz2 := hbz.alloc (o := .cells (tabB (fun _ => false) 260).toArray 50) hbz.size
    have hzw := hb1.size
    rw [World.size_alloc] at hzw
    clear c1 hc0 hb1 hb0
    go_wp2_with (first
      | (refine wpList_alloc_arr 50 (tabB (fun _ => false) 260) zeroT rfl rfl ?_)
      | (refine wpList_store_arr 50 (.tmp 3) (.tmp 8) w1.heap.size (tabB (fun _ => false) 260) (tabB (elF G) 260) rfl rfl rfl rfl hA (by rw [tabB_length, tabB_length]) (sizeTl _) (HT _).out ?_; intro w3 hB hg3 hz3))
    have hb3 := hbz2.grown hg3 hbz2.size (fun k hk => by cases hk; exact hbz.size)
    go_ret
    exact ⟨_, rfl, by rw [HR.out]; exact World.ownsRow_nil _ _ _ _, hb3⟩
  · have cs : ∀ W, Calls Try.prog 70 #[.agg (tabB (elF G) 260).toArray] W (SlPost (smallL G) W) := fun W => by
      have h := impl_smallElements (elF G) W
      rw [(smallT_el hs).1] at h
      exact h
    clear hr
    unfold ElPost at c1
    rw [hs] at c1
    clear hs
    go_enter Try.func45, Try.ntmps45
    go_wp2_with fail
    refine c1.mono ?_
    rintro e w1 ⟨rfl, hb1⟩
    have hbz := hb0.trans (hb1.mono hb0.size)
    have hA := Arr.new w1 50 (tabB (fun _ => false) 260)
    have hbz2 := hbz.alloc (o := .cells (tabB (fun _ => false) 260).toArray 50) hbz.size
    have hzw := hb1.size
    rw [World.size_alloc] at hzw
    clear c1 hc0 hb1 hb0
    go_wp2_with (first
      | (refine wpList_alloc_arr 50 (tabB (fun _ => false) 260) zeroT rfl rfl ?_)
      | (refine wpList_store_arr 50 (.tmp 3) (.tmp 8) w1.heap.size (tabB (fun _ => false) 260) (tabB (elF G) 260) rfl rfl rfl rfl hA (by rw [tabB_length, tabB_length]) (sizeTl _) (HT _).out ?_; intro w3 hB hg3 hz3)
      | (refine wpList_load_arr 50 (.tmp 3) w1.heap.size (tabB (elF G) 260) (.array 260 4) rfl rfl rfl hB undT rfl (sizeTl _) ?_))
    have hb3 := hbz2.grown hg3 hbz2.size (fun k hk => by cases hk; exact hbz.size)
    refine (cs _).mono ?_
    rintro e w4 ⟨v, rfl, ho, hb4⟩
    go_wp2_with fail
    go_ret
    exact ⟨_, rfl, owns_wider ho hb3.size, hb3.trans (hb4.mono hb3.size)⟩
end Go.Proofs.Ytnbnkjmellmmlaa
