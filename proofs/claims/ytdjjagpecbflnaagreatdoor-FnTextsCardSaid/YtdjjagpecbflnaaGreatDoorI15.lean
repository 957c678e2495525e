/-
  CONTRACTS of the program's chapter 4, first part: the iterator over the gaps of a table. (Own work.)
-/
import Derived.Test.YtdjjagpecbflnaaGreatDoorI8
import Derived.Test.YtdjjagpecbflnaaGreatDoorRgF
import Derived.Test.YtdjjagpecbflnaaGreatDoorSgG
import Derived.RangeFuncNested
import Derived.RangeFuncBound
import Derived.Shelf.Abstract
import Derived.Shelf.RegionOpen
import Derived.OwnWalkIn
import Derived.TacticsInMore
import Derived.LoopNIn
import Derived.LoopIn
import Derived.Maps.AppendAt
namespace Go.Proofs.YtdjjagpecbflnaaGreatDoor
open Go Go.RowKit
attribute [local go_sem] Oper.semAt_some

theorem own_boxed {W W' : World} {row : Option Nat} {B b : Nat} {t : TypeId} {v : Value} (h : Boxed W b t v) (hg : W.grownBy W' row) (hr : ∀ r, row = some r → B ≤ r ∧ ∃ o : Obj, W.heap[r]? = some o ∧ o.isCells = false) : Boxed W' b t v :=
  h.kept hg fun e => by
    obtain ⟨-, o, ho, hc⟩ := hr b e.symm
    rw [show W.heap[b]? = _ from h] at ho
    cases ho; cases hc
theorem own_below {w W W' : World} {row : Option Nat} {B n : Nat} (h : Below n w W) (hg : W.grownBy W' row) (hr : ∀ r, row = some r → B ≤ r ∧ ∃ o : Obj, W.heap[r]? = some o ∧ o.isCells = false) (hn : n ≤ w.heap.size) (hB : n ≤ B) : Below n w W' :=
  h.grown hg (Nat.le_trans hn h.size) fun k e => Nat.le_trans hB (hr k e).1
/-- What the marks leave behind at a function's return. -/
theorem leave_mark {P : Program} {fn : Func} {tmps : Array Value} {R : Ending → World → Prop} {W : World} {s : Nat} {n : Nat} (hk : W.heap[s]? = some (.deferred (some [])))
    (h : LeavesIn Fence.wide n P fn tmps R [] .returning (W.putObj s (.deferred none))) : LeavesInM Fence.wide n P fn tmps R [{ target := .collected s, args := #[] }] .returning W :=
  ⟨by simp, .inl ⟨_, _, rfl, run_takeDeferred hk, h⟩⟩
theorem below_mark {w W : World} {s : Nat} {o' : Obj} (h : Below w.heap.size w W) (hs : w.heap.size ≤ s) : Below w.heap.size w (W.putObj s o') :=
  h.grown (grownBy_putObj' W s o') h.size fun k e => by cases e; exact hs

/-- The gaps of a table, below n. -/
def gapsB (T : Nat → Bool) (n : Nat) : List Int := (upB (fun j => !T j) n).map Int.ofNat
theorem gapsB_hit {T : Nat → Bool} {n : Nat} (h : T n = false) : gapsB T (n + 1) = gapsB T n ++ [(n : Int)] := by
  unfold gapsB; rw [upB_succ, h]; simp
theorem gapsB_miss {T : Nat → Bool} {n : Nat} (h : T n = true) : gapsB T (n + 1) = gapsB T n := by
  unfold gapsB; rw [upB_succ, h]; simp
theorem gapsB_pre (T : Nat → Bool) {m n : Nat} (h : m ≤ n) : gapsB T m <+: gapsB T n := by
  unfold gapsB
  obtain ⟨r, hr⟩ := upB_prefix (fun j => !T j) h
  rw [hr, List.map_append]; exact List.prefix_append _ _

set_option maxRecDepth 100000 in
set_option maxHeartbeats 1600000 in
theorem impl_gaps (T : Nat → Bool) : GivesAll Tryz.prog 64 (.agg (tabB T 260).toArray) (gapsB T 200) := by
  intro l W1 J Jx hY h0
  refine callsIn_of_wp Tryz.func64 rfl trivial ?_ rfl
  simp only [Tryz.ntmps64, List.size_toArray, List.length_cons, List.length_nil, Nat.reduceAdd, Nat.reduceSub, Array.replicate_succ, Array.replicate_zero, List.push_toArray, List.append_toArray, List.nil_append, List.cons_append]
  refine wpIn_seq (wpIn_wide.2 ?_)
  go_wp2_with (refine wpList_box_arr 62 (.tmp 0) (tabB T 260) rfl rfl rfl ?_)
  have hA := Arr.new W1 62 (tabB T 260)
  have hJ := h0 (.cells (tabB T 260).toArray 62)
  generalize hW2 : W1.alloc (.cells (tabB T 260).toArray 62) = W2 at hA hJ ⊢
  clear hW2 h0
  show Code.wpIn _ _ _ _ _ _ _
  gi_wp2
  gi_loopw [8] (fun i wr => ∃ k : Nat, k ≤ 200 ∧ i = .int .i64 (k : Int) ∧ J (gapsB T k) wr ∧ Arr wr W1.heap.size 62 (tabB T 260)) (fun i _ => 200 - (intOf i).toNat)
  case atStart => exact ⟨0, Nat.zero_le _, rfl, hJ, hA⟩
  case round =>
    clear hA hJ
    obtain ⟨k, hk, rfl, hJ, hA⟩ := hrel
    by_cases hlt : k < 200
    · have hc := (hA.cell k).trans (tabB_get T 260 k (by omega))
      have hlti : (k : Int) < 200 := by omega
      cases hT : T k
      · rw [hT] at hc
        obtain ⟨fn, tmps, assign, body, hy, hR⟩ := hY _ (k : Int) wr hJ (by rw [← gapsB_hit hT]; exact gapsB_pre T (by omega))
        gi_wp2
        refine hR.mono ?_
        rintro e W3 (⟨rfl, hJ3, hk3⟩ | ⟨rfl, hJx3⟩)
        · gi_wp2
          go_roundw
          case rel => exact ⟨k + 1, by omega, by go_num, by rw [gapsB_hit hT]; exact hJ3, hk3.trans hA⟩
          case measure => simp [intOf]; omega
        · gi_wp2
          refine bodyPost_ret (results_none rfl _ _ _) rfl ?_
          exact ⟨⟨_, rfl⟩, .inr ⟨_, by rw [← gapsB_hit hT]; exact gapsB_pre T (by omega), hJx3⟩⟩
      · rw [hT] at hc
        gi_wp2
        refine ⟨fun _ h => (by cases h), ?_⟩
        gi_wp2
        go_roundw
        case rel => exact ⟨k + 1, by omega, by go_num, by rw [gapsB_miss hT]; exact hJ, hA⟩
        case measure => simp [intOf]; omega
    · obtain rfl : k = 200 := by omega
      gi_wp2
      go_end0
      exact ⟨⟨_, rfl⟩, .inl hJ⟩
end Go.Proofs.YtdjjagpecbflnaaGreatDoor
