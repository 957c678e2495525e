/-
  THE CONTRACTS OF CHAPTER 4 IN THE CANONICAL FORM (genlaw.py).
-/
import Derived.Test.YtglonnfagnlmjaaCh4L
import Derived.Test.YtglonnfagnlmjaaCh4I
import Derived.Test.YtglonnfagnlmjaaSgL
namespace Go.Proofs.Ytglonnfagnlmjaa
open Go Go.RowKit

theorem elem_bounds (G : List Int) (k : Int) : -1 ≤ elemN G k ∧ elemN G k ≤ 400 := by
  have hc := condNat_le G
  unfold elemN
  split
  · next h =>
    rw [Bool.and_eq_true, decide_eq_true_eq] at h
    unfold nthB
    split
    · next hl =>
      have := (mem_upB.1 (List.getElem_mem hl)).1
      omega
    · omega
  · omega
theorem index_bounds (G : List Int) (n : Int) : -1 ≤ indexN G n ∧ indexN G n ≤ 200 := by
  unfold indexN
  split
  · next h =>
    rw [Bool.and_eq_true, decide_eq_true_eq] at h
    have := upB_len_le (sumB G) n.toNat
    omega
  · omega
theorem frob_bounds (G : List Int) : -1 ≤ frobN G ∧ frobN G ≤ 199 := by
  have hc := condNat_le G
  unfold frobN
  split
  · split <;> omega
  · omega

theorem cs_Gaps (L : List Int) (a : Option Addr) (c : Nat) (w : World) (hr : SlW w a c (L.map (Value.int .i64))) (hb : L.length ≤ 1048576) :
    Calls Try.prog 44 #[.agg #[.slice a L.length c]] w (SlPost (gapsL L) w) :=
  spec_Gaps L a c w hr.sl hb
theorem cs_FrobeniusOf (L : List Int) (a : Option Addr) (c : Nat) (w : World) (hr : SlW w a c (L.map (Value.int .i64))) (hb : L.length ≤ 1048576) :
    Calls Try.prog 25 #[.agg #[.slice a L.length c]] w fun e w' => e = .returned (.int .i64 (frobN L)) ∧ Below w.heap.size w w' :=
  spec_FrobeniusOf L a c w hr.sl hb
theorem cs_GenusOf (L : List Int) (a : Option Addr) (c : Nat) (w : World) (hr : SlW w a c (L.map (Value.int .i64))) (hb : L.length ≤ 1048576) :
    Calls Try.prog 26 #[.agg #[.slice a L.length c]] w fun e w' => e = .returned (.int .i64 (genusN L)) ∧ Below w.heap.size w w' :=
  spec_GenusOf L a c w hr.sl hb
theorem ci_FrobeniusOf (L : List Int) (a : Option Addr) (c : Nat) (w : World) (hr : SlW w a c (L.map (Value.int .i64))) (hb : L.length ≤ 1048576) :
    Calls Try.prog 65 #[.agg #[.slice a L.length c]] w fun e w' => e = .returned (.int .i64 (frobN L)) ∧ Below w.heap.size w w' :=
  impl_FrobeniusOf L a c w hr.sl hb
end Go.Proofs.Ytglonnfagnlmjaa
