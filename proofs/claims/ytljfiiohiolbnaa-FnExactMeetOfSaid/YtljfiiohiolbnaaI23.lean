/-
  CONTRACTS of the program's chapter 6, first part: leastOfClasses (a map), AperySet. (Own work.)
-/
import Derived.Test.YtljfiiohiolbnaaI22
namespace Go.Proofs.Ytljfiiohiolbnaa
open Go Go.RowKit
attribute [local go_sem] Oper.semAt_some

theorem elF_sum {G : List Int} (h : isSgB G = true) : elF G = sumB G := funext fun j => by unfold elF; rw [h, Bool.true_and]
section
variable {P : Program} {ops : Array Oper} {rest : List Oper} {o : Oper} {a : Act} {w : World} {Q : Exit → Act → World → Prop}
/-- A place of an array value of bools. -/
theorem wpList_index_bools (t e : TypeId) (n : Nat) (x y : Operand) (f : Nat → Bool) (k : Nat) (hg : o.guard = none) (ho : o.op = .index t x y) (hx : a.eval x = .agg (tabB f n).toArray) (hy : a.eval y = .int .i64 (k : Int))
    (ht : P.underlying t = some (.array n e)) (he : P.underlying e = some .bool) (hsz : ∀ w, (sizeOf e).run P w = .ok 1 w) (hk : k < n)
    (h : wpList P ops Q rest (a.put o.dst (.bool (f k))) w) : wpList P ops Q (o :: rest) a w := by
  refine wpList_plain hg fun K hK => ?_
  have e1 : (Instr.index t (.agg (tabB f n).toArray) (.int .i64 (k : Int))).run P w = .ok (.bool (f k)) w := by
    have hc := tabB_get f n k hk
    simp [Instr.index, asIntOf, run_underlying ht, hsz, hk, part, isAgg, run_underlying he, hc]
  unfold Oper.wp execOp
  simp only [ho, hx, hy, Sem.run_bind, e1, Result.andThen_ok]
  exact hK _ _ h
end


end Go.Proofs.Ytljfiiohiolbnaa
