/-
  A RANGE OVER A METHOD VALUE ('for x := range t.gaps { .. }'): the function value bears its receiver; the iterator lays one block of its own (the receiver's copy) behind the loop's two; the body may leave by a break. No function of the program in this text. (Own work.)
-/
import Derived.Test.YtdjjagpecbflnaaGreatDoorArr
import Derived.RangeFuncBox
import Derived.RangeFuncLeaves
import Derived.RangeFuncCalls
namespace Go.Proofs.YtdjjagpecbflnaaGreatDoor
open Go Go.RowKit

/-- The three blocks from s on lie as they lay: what the body of a round leaves alone. -/
def Lies3 (s : Nat) (W W' : World) : Prop := W.heap.size ≤ W'.heap.size ∧ ∀ k, s ≤ k → k ≤ s + 2 → k < W.heap.size → W'.heap[k]? = W.heap[k]?
theorem Lies3.refl (s : Nat) (W : World) : Lies3 s W W := ⟨Nat.le_refl _, fun _ _ _ _ => rfl⟩
theorem Lies3.trans {s : Nat} {A B C : World} (h : Lies3 s A B) (k : Lies3 s B C) : Lies3 s A C := ⟨Nat.le_trans h.1 k.1, fun i h1 h2 h3 => (k.2 i h1 h2 (Nat.lt_of_lt_of_le h3 h.1)).trans (h.2 i h1 h2 h3)⟩
theorem Lies3.grown {s : Nat} {W W' : World} {row : Option Nat} (hg : W.grownBy W' row) (hr : ∀ r, row = some r → r < s ∨ s + 2 < r) : Lies3 s W W' :=
  ⟨hg.size, fun k h1 h2 h3 => hg.block k h3 fun e => by have := hr k e.symm; omega⟩

/-- How the body of a round may be left: off its end, or by the break of the loop's block. -/
def RoundsTo (s bid : Nat) (I Ix : List Int → World → Prop) (ys : List Int) (W : World) : Exit → Act → World → Prop
  | .normal, _, W' => Lies3 s W W' ∧ I ys W'
  | .exit id, _, W' => id = bid ∧ Lies3 s W W' ∧ Ix ys W'
  | _, _, _ => False

/-- The mark that the loop leaves among the deferred calls. -/
abbrev rgMark (s : Nat) (a : Act) : Act := { a with defers := { target := .collected s, args := #[] } :: a.defers }

/-- An iterator that is handed its receiver and yield, and gives xs: whatever J holds between two rounds, Jx behind a round that says 'no more'; it lays one block, which no round turns. -/
def GivesAll (P : Program) (gf : Nat) (rv : Value) (xs : List Int) : Prop :=
  ∀ (l : Nat) (W1 : World) (J Jx : List Int → World → Prop),
    (∀ pre x W, J pre W → pre ++ [x] <+: xs → YieldAt Fence.wide 1 P l #[.int .i64 x] W fun e W' =>
      (e = .returned (.bool true) ∧ J (pre ++ [x]) W' ∧ W'.heap[W1.heap.size]? = W.heap[W1.heap.size]?) ∨ (e = .returned (.bool false) ∧ Jx (pre ++ [x]) W')) →
    (∀ o, J [] (W1.alloc o)) →
    CallsIn Fence.wide 2 P gf #[rv, .func (.yield l) #[] #[]] W1 fun e W' => (∃ v, e = .returned v) ∧ (J xs W' ∨ ∃ pre, pre <+: xs ∧ Jx pre W')

theorem wp_range_method {P : Program} {g : Operand} {p : Tmp} {assign body : Code} {Q : Exit → Act → World → Prop} {a : Act} {w : World} (gf : Nat) (rv : Value) (xs : List Int) (bid : Nat)
    (hg : a.eval g = .func (.func gf) #[rv] #[]) (eg : ∀ args w, (callFunc gf args).run P w = .ok (.enter gf args) w) (hit : GivesAll P gf rv xs)
    (I Ix : List Int → World → Prop) (hI : OwnFrom w.heap.size I) (hIx : OwnFrom w.heap.size Ix) (h0 : I [] w) (a1 : Int → Act)
    (hassign : ∀ (l : Nat) (x : Int) (W : World) (K : Act → World → Prop), K (a1 x) W →
      assign.wpIn (Fence.wide.inRound l) 1 P (Exit.then K (fun _ _ _ => False)) { tmps := a.tmps.setIfInBounds p (.int .i64 x), defers := [] } W)
    (hbody : ∀ (l : Nat) (pre : List Int) (x : Int) (W : World), w.heap.size + 2 < W.heap.size → I pre W → pre ++ [x] <+: xs →
      body.wpIn (Fence.wide.inRound l) 1 P (RoundsTo w.heap.size bid I Ix (pre ++ [x]) W) (a1 x) W)
    (hdone : ∀ W, I xs W → W.heap[w.heap.size]? = some (.deferred (some [])) → Q .normal (rgMark w.heap.size a) W)
    (hstop : ∀ pre W, pre <+: xs → Ix pre W → W.heap[w.heap.size]? = some (.deferred (some [])) → Q (.exit bid) (rgMark w.heap.size a) W) :
    (Code.rangeFunc g #[p] assign body).wp P Q a w := by
  refine (wpIn_wide (n := 3)).1 (wpIn_rangeFunc fun fn _ => ?_)
  obtain ⟨lp, hlp⟩ : ∃ lp : LoopState → Option Code → Loop, lp = fun st pe => { state := st, pending := pe, fn, tmps := a.tmps, params := #[p], assign, body, defers := w.heap.size } := ⟨_, rfl⟩
  obtain ⟨W1, hW1⟩ : ∃ W1, W1 = (w.alloc (.deferred (some []))).alloc (.loop (lp .ready none)) := ⟨_, rfl⟩
  have hz : W1.heap.size = w.heap.size + 2 := by rw [hW1]; simp
  have hk1 : W1.heap[w.heap.size]? = some (.deferred (some [])) := by
    rw [hW1, heap_alloc_old _ _ (by simp)]; exact heap_alloc_new w _
  have hl1 : W1.heap[w.heap.size + 1]? = some (.loop (lp .ready none)) := by
    have := heap_alloc_new (w.alloc (.deferred (some []))) (.loop (lp .ready none))
    rw [World.size_alloc] at this
    rw [hW1]; exact this
  refine ⟨w.heap.size + 1, [{ target := .collected w.heap.size, args := #[] }], W1, { target := .fn (.func gf) #[], args := #[rv, .func (.yield (w.heap.size + 1)) #[] #[]] }, W1, gf,
    #[rv, .func (.yield (w.heap.size + 1)) #[] #[]], W1, ?_, ?_, fun _ _ => trivial, ?_, fun h => (by cases h), ?_⟩
  · rw [hW1, hlp]; exact run_enterLoop_outer _ _ _ _ _
  · simp only [resolve, hg]
    simp [go_sem]
  · simp [invoke, go_sem, eg]
  · -- a turn of one of the loop's two blocks
    have turn : ∀ {W : World} {k : Nat} {o : Obj} (o' : Obj), W.heap[k]? = some o → (W.putObj k o').heap[k]? = some o' ∧ ∀ j, j ≠ k → (W.putObj k o').heap[j]? = W.heap[j]? :=
      fun o' h => ⟨World.putObj_heap_same (Array.getElem?_eq_some_iff.1 h).1, fun j hj => World.putObj_heap_other hj⟩
    refine (hit (w.heap.size + 1) W1
      (fun ys W => I ys W ∧ w.heap.size + 2 < W.heap.size ∧ W.heap[w.heap.size + 1]? = some (.loop (lp .ready none)) ∧ W.heap[w.heap.size]? = some (.deferred (some [])))
      (fun ys W => Ix ys W ∧ W.heap[w.heap.size + 1]? = some (.loop (lp .done (some (.exit bid)))) ∧ W.heap[w.heap.size]? = some (.deferred (some []))) ?_ ?_).mono ?_
    · rintro pre x W ⟨hi, hsz, hl, hk⟩ hx
      have hy := run_yield (P := P) (args := #[.int .i64 x]) hl (by rw [hlp]; rfl)
      refine ⟨fn, a.tmps.setIfInBounds p (.int .i64 x), assign, body, by rw [hy, hlp]; simp, roundIn_of_wpIn trivial ?_⟩
      refine hassign _ x W _ ?_
      refine ⟨_, run_beginRound hl (by rw [hlp]), ?_⟩
      obtain ⟨hl2, ho2⟩ := turn (.loop { lp .ready none with state := .busy }) hl
      generalize hWb : W.putObj (w.heap.size + 1) (.loop { lp .ready none with state := .busy }) = Wb at hl2 ho2 ⊢
      have hib : I pre Wb := by rw [← hWb]; exact hI.putObj _ hi (by omega) hl rfl
      have hzb : Wb.heap.size = W.heap.size := by rw [← hWb]; simp [World.putObj]
      refine wpIn_mono (hbody _ pre x Wb (by omega) hib hx) ?_
      rintro e a3 W3 hp
      have hkb := (ho2 w.heap.size (by omega)).trans hk
      cases e with
      | normal =>
        obtain ⟨h3, hi3⟩ := hp
        have hl3 := (h3.2 (w.heap.size + 1) (by omega) (by omega) (by omega)).trans hl2
        have hk3 := (h3.2 w.heap.size (by omega) (by omega) (by omega)).trans hkb
        have hc3 := (h3.2 (w.heap.size + 2) (by omega) (by omega) (by omega)).trans (ho2 _ (by omega))
        have hr := run_endRound (P := P) none hl3
        refine ⟨_, _, hr, .inl ⟨rfl, ⟨?_, ?_, ?_, ?_⟩, ?_⟩⟩
        · exact hI.putObj _ hi3 (by omega) hl3 rfl
        · have := h3.1; simp [World.putObj]; omega
        · rw [(turn _ hl3).1, hlp]; rfl
        · exact ((turn _ hl3).2 _ (by omega)).trans hk3
        · rw [hz]; exact ((turn _ hl3).2 _ (by omega)).trans hc3
      | exit id =>
        obtain ⟨rfl, h3, hi3⟩ := hp
        have hl3 := (h3.2 (w.heap.size + 1) (by omega) (by omega) (by omega)).trans hl2
        have hk3 := (h3.2 w.heap.size (by omega) (by omega) (by omega)).trans hkb
        have hr := run_endRound (P := P) (some (.exit id)) hl3
        refine ⟨_, _, hr, .inr ⟨rfl, hIx.putObj _ hi3 (by omega) hl3 rfl, ?_, ((turn _ hl3).2 _ (by omega)).trans hk3⟩⟩
        rw [(turn _ hl3).1, hlp]; rfl
      | ret => exact hp.elim
      | goto t => exact hp.elim
      | panic ch => exact hp.elim
      | outgrown => exact hp.elim
    · intro o
      refine ⟨?_, by rw [World.size_alloc, hz]; omega, by rw [heap_alloc_old _ _ (by omega)]; exact hl1, by rw [heap_alloc_old _ _ (by omega)]; exact hk1⟩
      rw [hW1]
      exact hI.alloc _ (hI.alloc _ (hI.alloc _ h0))
    · rintro e W2 ⟨⟨v, rfl⟩, ⟨hi, -, hl, hk⟩ | ⟨pre, hpre, hi, hl, hk⟩⟩
      · have hr := run_endLoop (P := P) hl (by rw [hlp]; simp)
        rw [hlp] at hr
        exact ⟨none, _, hr, hdone _ (hI.putObj _ hi (by omega) hl rfl) ((World.putObj_heap_other (by omega)).trans hk)⟩
      · have hr := run_endLoop (P := P) hl (by rw [hlp]; simp)
        rw [hlp] at hr
        exact ⟨some (.exit bid), _, hr, wpIn_exit (hstop pre _ hpre (hIx.putObj _ hi (by omega) hl rfl) ((World.putObj_heap_other (by omega)).trans hk))⟩
end Go.Proofs.YtdjjagpecbflnaaGreatDoor
