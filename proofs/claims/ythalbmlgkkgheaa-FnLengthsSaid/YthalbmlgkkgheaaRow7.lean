/-
  A ROW OF INTS THAT GROWS WHILE ANOTHER THAT A CALL MADE IS READ. (Own work.)
-/
import Derived.Test.YthalbmlgkkgheaaSgV
import Derived.Test.YthalbmlgkkgheaaCh3L
import Derived.Maps.AppendAt
namespace Go.Proofs.Ythalbmlgkkgheaa
open Go Go.RowKit

structure Beside1 (w : World) (p q : Nat) (L : List Int) (a : Option Addr) (c : Nat) (wr : World) (v : Value) (M : List Int) : Prop where
  own : wr.ownsRow w.heap.size 3 1 v M.length (M.map (Value.int .i64))
  far : ∀ b, v.ownBlock = some b → b < p ∨ q ≤ b
  row : Row wr p q (.slice a L.length c) L.length (L.map (Value.int .i64))
  bel : Below w.heap.size w wr
section
variable {w wr w2 : World} {p q : Nat} {L : List Int} {a : Option Addr} {c : Nat} {v v2 : Value} {M : List Int}
theorem Beside1.grow (h : Beside1 w p q L a c wr v M) (o : Obj) (x : Int) (ho : w2.ownsRow w.heap.size 3 1 v2 (M.length + 1) (M.map (Value.int .i64) ++ [.int .i64 x])) (hg : (wr.alloc o).grownBy w2 v.ownBlock)
    (hat : v2.ownBlock = v.ownBlock ∨ v2.ownBlock = some (wr.alloc o).heap.size) : Beside1 w p q L a c w2 v2 (M ++ [x]) := by
  have hz := h.row.hi_le
  refine ⟨by simpa using ho, fun b hb => ?_, ?_, (h.bel.alloc h.bel.size o).grown hg (Nat.le_trans h.bel.size (by simp)) fun j hj => (h.own.lt j hj).1⟩
  · rcases hat with h1 | h1
    · exact h.far b (by rw [← h1]; exact hb)
    · rw [h1] at hb; cases hb; right; simp; omega
  · exact (h.row.below ((Below.refl _ _).alloc (Nat.le_refl _) o)).grown hg h.far
theorem Beside1.drew (h : Beside1 w p q L a c wr v M) : Beside1 w p q L a c wr.drew v M := ⟨h.own, h.far, ⟨h.row.own, h.row.blk, h.row.hi_le⟩, h.bel.drew⟩
/-- Where the row that is read lies: all its cells; the row that grows lies elsewhere. -/
theorem Beside1.at (h : Beside1 w p q L a c wr v M) (hL : L ≠ []) :
    ∃ b o, a = some ⟨b, o, none⟩ ∧ b < wr.heap.size ∧ v.ownBlock ≠ some b ∧ ∀ (k : Nat) (hk : k < L.length), wr.cell? ⟨b, o + k, none⟩ = some (.int .i64 L[k]) := by
  have hs := h.row.slv
  obtain ⟨b, o, rfl, hlt, hc⟩ := hs.open (by intro e; rw [List.map_eq_nil_iff] at e; exact hL e)
  refine ⟨b, o, rfl, hlt, fun e => ?_, fun k hk => hc k _ (by simp [hk])⟩
  have h1 := (h.row.own.lt b (by simp [Value.ownBlock]))
  have h2 := h.row.blk b (by simp [Value.ownBlock])
  have h3 := h.far b e
  omega
end
theorem keepC {w' : World} {b o1 o2 : Nat} {v1 v2 : Value} (h : w'.cell? ⟨b, o1, none⟩ = some v1 ∧ w'.cell? ⟨b, o2, none⟩ = some v2) (hb : b < w'.heap.size) (o : Obj) : (w'.alloc o).cell? ⟨b, o1, none⟩ = some v1 ∧ (w'.alloc o).cell? ⟨b, o2, none⟩ = some v2 :=
  ⟨(World.cell?_alloc_lt w' _ ⟨b, o1, none⟩ hb).trans h.1, (World.cell?_alloc_lt w' _ ⟨b, o2, none⟩ hb).trans h.2⟩
theorem keepGr {w' w2 : World} {b o1 o2 : Nat} {v1 v2 : Value} {row : Option Nat} (h : w'.cell? ⟨b, o1, none⟩ = some v1 ∧ w'.cell? ⟨b, o2, none⟩ = some v2) (hg : w'.grownBy w2 row) (hr : row ≠ some b) : w2.cell? ⟨b, o1, none⟩ = some v1 ∧ w2.cell? ⟨b, o2, none⟩ = some v2 :=
  ⟨hg.cell h.1 fun e => hr e.symm, hg.cell h.2 fun e => hr e.symm⟩
def diffsK (M : List Int) (k : Nat) : List Int := (List.range k).map fun i => M.getD (i + 1) 0 - M.getD i 0
theorem diffsK_succ {M : List Int} {k : Nat} (hk : k + 1 < M.length) : diffsK M (k + 1) = diffsK M k ++ [M[k + 1] - M[k]] := by
  unfold diffsK
  rw [List.range_succ, List.map_append, List.map_singleton, List.getD_eq_getElem?_getD, List.getD_eq_getElem?_getD, List.getElem?_eq_getElem hk, List.getElem?_eq_getElem (by omega)]; rfl
theorem diffsK_len (M : List Int) (k : Nat) : (diffsK M k).length = k := by unfold diffsK; simp
theorem diffs_all (M : List Int) : diffsK M (M.length - 1) = diffsL M := rfl
end Go.Proofs.Ythalbmlgkkgheaa
