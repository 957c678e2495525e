/-
  CHAPTER 7 OF THE REFERENCE: CoordinateClash. (Own work.)
-/
import Derived.Test.YtljfiiohiolbnaaSgK
namespace Go.Proofs.Ytljfiiohiolbnaa
open Go Go.RowKit

/-- A call gave two numbers and a bool. -/
def ClPost (A B : Int) (Q : Bool) (w : World) (e : Ending) (w' : World) : Prop :=
  e = .returned (.tuple #[.agg #[.int .i64 A, .int .i64 B], .bool Q]) ∧ Below w.heap.size w w'
theorem zeroC : (Try.prog.info? 79).map (·.zero) = some (some (.agg [Value.int .i64 0, Value.int .i64 0].toArray)) := by kernel_rfl
theorem sizeC : (Try.prog.info? 79).map (·.size) = some 2 := by kernel_rfl
theorem undC : ∃ d, Try.prog.underlying 79 = some d ∧ d.isRow = true := by
  have h : ((Try.prog.underlying 79).map (·.isRow)) = some true := by kernel_rfl
  cases hd : Try.prog.underlying 79 with
  | none => rw [hd] at h; cases h
  | some d => rw [hd] at h; exact ⟨d, rfl, by simpa using h⟩

end Go.Proofs.Ytljfiiohiolbnaa
