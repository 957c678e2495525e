/-
  DRAWS OF CHAPTER 17: DrawQuotientOf, DrawScaledElements (written by mkD19.py). (Own work.)
-/
import Derived.Test.YtopnehkhigacpaaGreatDrS
namespace Go.Proofs.YtopnehkhigacpaaGreat
open Go Go.RowKit

def DSgiF (W : World) (e : Ending) (w' : World) : Prop :=
  ∃ (L : List Int) (av : Option Addr) (cv : Nat) (n : Int), L.length ≤ 13 ∧ (∀ x ∈ L, InI64 x) ∧ InI64 n ∧ e = .returned (.tuple #[.agg #[.slice av L.length cv], .int .i64 n]) ∧ SlW w' av cv (L.map (Value.int .i64)) ∧ (∀ p, av = some p → W.heap.size < p.block) ∧ Below W.heap.size W w'
def DSgiiF (W : World) (e : Ending) (w' : World) : Prop :=
  ∃ (L : List Int) (av : Option Addr) (cv : Nat) (x y : Int), L.length ≤ 13 ∧ (∀ x ∈ L, InI64 x) ∧ InI64 x ∧ InI64 y ∧ e = .returned (.tuple #[.agg #[.slice av L.length cv], .int .i64 x, .int .i64 y]) ∧ SlW w' av cv (L.map (Value.int .i64)) ∧ (∀ p, av = some p → W.heap.size < p.block) ∧ Below W.heap.size W w'


theorem slw_lt {w : World} {av : Option Addr} {cv : Nat} {L : List Int} (h : SlW w av cv (L.map (Value.int .i64))) {p : Addr} (hp : av = some p) (hne : L ≠ []) : p.block < w.heap.size := by
  obtain ⟨b, off, e, hlt, -⟩ := h.sl.open (by intro e; rw [List.map_eq_nil_iff] at e; exact hne e)
  rw [hp] at e; cases e; exact hlt
theorem slw_grownN {w w' : World} {av : Option Addr} {cv N : Nat} {L : List Int} (h : SlW w av cv (L.map (Value.int .i64))) (hg : w.grownBy w' (some N)) (hn : ∀ p, av = some p → L ≠ [] → p.block ≠ N) : SlW w' av cv (L.map (Value.int .i64)) := by
  by_cases hL : L = []
  · subst hL; exact ⟨.inl rfl, h.nil0, h.le, h.mx⟩
  · exact h.grownN hg fun p hp => hn p hp hL

end Go.Proofs.YtopnehkhigacpaaGreat
