/-
  TWO CLASHES COMPARED: a struct of two ints. (Own work.)
-/
import Derived.Test.YtgkkkmcgnpdchaaL23
namespace Go.Proofs.Ytgkkkmcgnpdchaa
open Go Go.RowKit

theorem undIC : Try.prog.underlying 3 = some (.int .i64) := by kernel_rfl
theorem fieldsC : ((Try.prog.fieldsOf 33).toList.map fun f => (f.name, f.type, f.offset)) = [("A", 3, 0), ("B", 3, 1)] := by kernel_rfl
theorem undCs : Try.prog.underlying 33 = some (.struct (Try.prog.fieldsOf 33)) := by kernel_rfl
theorem heldC : Try.prog.stoodInHeld 33 = false := by kernel_rfl
theorem guardC : Try.prog.eqGuardType Try.prog.depth 33 = false := by kernel_rfl
theorem run_equalInC (A B C D : Int) (w : World) : (Op.equalIn 10000 33 (.agg #[.int .i64 A, .int .i64 B]) (.agg #[.int .i64 C, .int .i64 D])).run Try.prog w = .ok (A == C && B == D) w := by
  have hf := fieldsC
  rw [run_equalIn_struct w 9999 _ _ _ undCs heldC]
  generalize (Try.prog.fieldsOf 33).toList = fs at hf
  have hl := congrArg List.length hf
  cases fs with
  | nil => simp at hl
  | cons f1 fs =>
    cases fs with
    | nil => simp at hl
    | cons f2 fs =>
      cases fs with
      | cons f3 fs => simp at hl
      | nil =>
        clear hl
        injection hf with h1 h2
        injection h2 with h2 _
        injection h1 with n1 h1
        injection h1 with t1 o1
        injection h2 with n2 h2
        injection h2 with t2 o2
        have p : ∀ (x y : Int) (w : World), (part 3 #[.int .i64 x, .int .i64 y] 0).run Try.prog w = .ok (.int .i64 x) w := fun x y w => by simp [part, isAgg, run_underlying undIC]
        have q : ∀ (x y : Int) (w : World), (part 3 #[.int .i64 x, .int .i64 y] 1).run Try.prog w = .ok (.int .i64 y) w := fun x y w => by simp [part, isAgg, run_underlying undIC]
        simp only [Op.eqFields, n1, n2, t1, t2, o1, o2, Sem.run_bind, Sem.run_ite, p, q, Result.andThen_ok, run_equalIn_int w 9998 3 .i64 .i64 _ _ undIC, Sem.run_pure]
        cases hA : (A == C) <;> cases hB : (B == D) <;> simp
theorem run_eqC (A B C D : Int) (w : World) : (binOp .eql 33 (.agg #[.int .i64 A, .int .i64 B]) (.agg #[.int .i64 C, .int .i64 D])).run Try.prog w = .ok (.bool (A == C && B == D)) w := by
  rw [run_eql_struct, run_equalInC]; rfl
theorem run_neC (A B C D : Int) (w : World) : (binOp .neq 33 (.agg #[.int .i64 A, .int .i64 B]) (.agg #[.int .i64 C, .int .i64 D])).run Try.prog w = .ok (.bool (!(A == C && B == D))) w := by
  rw [run_neq_struct, run_equalInC]; rfl
theorem run_guardC (op : BinOp) (x y : Operand) (xs ys : Array Value) (w : World) : (eqGuard op 33 x y (.agg xs) (.agg ys)).run Try.prog w = .ok () w := run_eqGuard_agg w op _ x y xs ys guardC
end Go.Proofs.Ytgkkkmcgnpdchaa
