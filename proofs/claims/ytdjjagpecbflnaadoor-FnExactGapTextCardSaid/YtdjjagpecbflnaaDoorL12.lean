/-
  CONTRACTS of the reference's chapter 3, last part: l3Has, Contains, MultiplicityOf, DimensionOf, EqualSemigroup, FromGens.
-/
import Derived.Test.YtdjjagpecbflnaaDoorL11
namespace Go.Proofs.YtdjjagpecbflnaaDoor
open Go Go.RowKit

/-- A struct of one slice in a variable of its own. -/
theorem box_cell (w : World) (v : Value) : (w.alloc (.cells #[v] 27)).cell? ⟨w.heap.size, 0, none⟩ = some v := (Arr.new w 27 [v]).cell 0
theorem box_below (w : World) (o : Obj) : Below w.heap.size w (w.alloc o) := (Below.refl _ _).alloc (Nat.le_refl _) _






/-- A call made a semigroup of a row of ints of its own, and says whether it did. -/
def SgPost (M : List Int) (b : Bool) (w : World) (e : Ending) (w' : World) : Prop :=
  ∃ v, e = .returned (.tuple #[.agg #[v], .bool b]) ∧ w'.ownsRow w.heap.size 3 1 v M.length (M.map (Value.int .i64)) ∧ Below w.heap.size w w'

end Go.Proofs.YtdjjagpecbflnaaDoor
