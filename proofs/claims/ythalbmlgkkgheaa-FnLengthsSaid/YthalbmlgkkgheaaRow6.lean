/-
  A ROW OF INTS THAT GROWS WHILE A LIST OF LISTS THAT A CALL MADE IS READ. (Own work.)
-/
import Derived.Test.YthalbmlgkkgheaaRow5
namespace Go.Proofs.Ythalbmlgkkgheaa
open Go Go.RowKit

/-- The row v (its numbers: M) grows in a memory in which the lists F lie, made between W and w1. -/
structure Beside (w : World) (p q : Nat) (F : List (List Int)) (a : Option Addr) (c : Nat) (vs : List Value) (wr : World) (v : Value) (M : List Int) : Prop where
  own : wr.ownsRow w.heap.size 3 1 v M.length (M.map (Value.int .i64))
  far : ∀ b, v.ownBlock = some b → b < p ∨ q ≤ b
  rows : Rows2 wr p q (.slice a F.length c) vs (F.map fun L => L.map (Value.int .i64))
  bel : Below w.heap.size w wr
section
variable {w wr w2 : World} {p q : Nat} {F : List (List Int)} {a : Option Addr} {c : Nat} {vs : List Value} {v v2 : Value} {M : List Int}
theorem Beside.grow (h : Beside w p q F a c vs wr v M) (o : Obj) (x : Int) (ho : w2.ownsRow w.heap.size 3 1 v2 (M.length + 1) (M.map (Value.int .i64) ++ [.int .i64 x])) (hg : (wr.alloc o).grownBy w2 v.ownBlock)
    (hat : v2.ownBlock = v.ownBlock ∨ v2.ownBlock = some (wr.alloc o).heap.size) : Beside w p q F a c vs w2 v2 (M ++ [x]) := by
  have hz := h.rows.hi_le
  refine ⟨by simpa using ho, fun b hb => ?_, ?_, (h.bel.alloc h.bel.size o).grown hg (Nat.le_trans h.bel.size (by simp)) fun j hj => (h.own.lt j hj).1⟩
  · rcases hat with h1 | h1
    · exact h.far b (by rw [← h1]; exact hb)
    · rw [h1] at hb; cases hb; right; simp; omega
  · exact (h.rows.below ((Below.refl _ _).alloc (Nat.le_refl _) o)).grown hg h.far
theorem Beside.below (h : Beside w p q F a c vs wr v M) (hb : Below wr.heap.size wr w2) : Beside w p q F a c vs w2 v M :=
  ⟨owns_below h.own hb, h.far, h.rows.below hb, h.bel.trans (hb.mono h.bel.size)⟩
theorem Beside.at (h : Beside w p q F a c vs wr v M) {k : Nat} (hk : k < F.length) :
    ∃ b o u d, a = some ⟨b, o, none⟩ ∧ wr.cell? ⟨b, o + k, none⟩ = some (.slice u F[k].length d) ∧ SlV wr u (F[k].map (Value.int .i64)) := by
  obtain ⟨b, o, u, d, h1, -, h3, h4⟩ := h.rows.sl2n.at hk
  exact ⟨b, o, u, d, h1, h3, h4⟩
end
end Go.Proofs.Ythalbmlgkkgheaa
