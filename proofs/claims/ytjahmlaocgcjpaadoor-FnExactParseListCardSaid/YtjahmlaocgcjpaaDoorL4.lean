/-
  CONTRACTS of the reference's l2All, SharedOf, SumsOf.
-/
import Derived.Test.YtjahmlaocgcjpaaDoorL3
namespace Go.Proofs.YtjahmlaocgcjpaaDoor
open Go Go.RowKit

/-- A call made a list of ints. -/
def ListPost (M : List Int) (w : World) (e : Ending) (w' : World) : Prop :=
  ∃ g cap, e = .returned (.slice (some ⟨g, 0, none⟩) M.length cap) ∧ w'.ownsRow w.heap.size 3 1 (.slice (some ⟨g, 0, none⟩) M.length cap) M.length (M.map (Value.int .i64)) ∧ Below w.heap.size w w'

def allB (L : List Int) : Bool := L.all small && decide (L.length ≤ 300)



def shared (A B : List Int) : List Int := sortL (A.filter (hasB B))

end Go.Proofs.YtjahmlaocgcjpaaDoor
