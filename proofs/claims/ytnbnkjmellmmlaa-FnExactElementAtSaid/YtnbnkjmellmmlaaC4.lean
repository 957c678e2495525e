/-
  THE CONTRACTS OF CHAPTER 4 IN THE CANONICAL FORM (genlaw.py).
-/
import Derived.Test.YtnbnkjmellmmlaaCh4L
import Derived.Test.YtnbnkjmellmmlaaCh4I
import Derived.Test.YtnbnkjmellmmlaaSgL
namespace Go.Proofs.Ytnbnkjmellmmlaa
open Go Go.RowKit

theorem elem_bounds (G : List Int) (k : Int) : -1 ≤ elemN G k ∧ elemN G k ≤ 400 := by
  have hc := condNat_le G
  unfold elemN
  split
  · next h =>
    rw [Bool.and_eq_true, decide_eq_true_eq] at h
    unfold nthB
    split
    · next hl =>
      have := (mem_upB.1 (List.getElem_mem hl)).1
      omega
    · omega
  · omega
theorem index_bounds (G : List Int) (n : Int) : -1 ≤ indexN G n ∧ indexN G n ≤ 200 := by
  unfold indexN
  split
  · next h =>
    rw [Bool.and_eq_true, decide_eq_true_eq] at h
    have := upB_len_le (sumB G) n.toNat
    omega
  · omega
theorem frob_bounds (G : List Int) : -1 ≤ frobN G ∧ frobN G ≤ 199 := by
  have hc := condNat_le G
  unfold frobN
  split
  · split <;> omega
  · omega

theorem cs_Gaps (L : List Int) (a : Option Addr) (c : Nat) (w : World) (hr : SlW w a c (L.map (Value.int .i64))) (hb : L.length ≤ 1048576) :
    Calls Try.prog 35 #[.agg #[.slice a L.length c]] w (SlPost (gapsL L) w) :=
  spec_Gaps L a c w hr.sl hb
theorem cs_FrobeniusOf (L : List Int) (a : Option Addr) (c : Nat) (w : World) (hr : SlW w a c (L.map (Value.int .i64))) (hb : L.length ≤ 1048576) :
    Calls Try.prog 38 #[.agg #[.slice a L.length c]] w fun e w' => e = .returned (.int .i64 (frobN L)) ∧ Below w.heap.size w w' :=
  spec_FrobeniusOf L a c w hr.sl hb
theorem cs_GenusOf (L : List Int) (a : Option Addr) (c : Nat) (w : World) (hr : SlW w a c (L.map (Value.int .i64))) (hb : L.length ≤ 1048576) :
    Calls Try.prog 40 #[.agg #[.slice a L.length c]] w fun e w' => e = .returned (.int .i64 (genusN L)) ∧ Below w.heap.size w w' :=
  spec_GenusOf L a c w hr.sl hb
theorem cs_ConductorOf (L : List Int) (a : Option Addr) (c : Nat) (w : World) (hr : SlW w a c (L.map (Value.int .i64))) (hb : L.length ≤ 1048576) :
    Calls Try.prog 42 #[.agg #[.slice a L.length c]] w fun e w' => e = .returned (.int .i64 (condN L)) ∧ Below w.heap.size w w' :=
  spec_ConductorOf L a c w hr.sl hb
theorem cs_SmallElements (L : List Int) (a : Option Addr) (c : Nat) (w : World) (hr : SlW w a c (L.map (Value.int .i64))) (hb : L.length ≤ 1048576) :
    Calls Try.prog 44 #[.agg #[.slice a L.length c]] w (SlPost (smallL L) w) :=
  spec_SmallElements L a c w hr.sl hb
theorem cs_ElementAt (L : List Int) (a : Option Addr) (c : Nat) (x1 : Int) (w : World) (hr : SlW w a c (L.map (Value.int .i64))) (hb : L.length ≤ 1048576) (_ : -9223372036854775808 ≤ x1) (_ : x1 ≤ 9223372036854775807) :
    Calls Try.prog 46 #[.agg #[.slice a L.length c], .int .i64 x1] w fun e w' => e = .returned (.int .i64 (elemN L x1)) ∧ Below w.heap.size w w' :=
  spec_ElementAt L x1 a c w hr.sl hb
theorem ci_Gaps (L : List Int) (a : Option Addr) (c : Nat) (w : World) (hr : SlW w a c (L.map (Value.int .i64))) (hb : L.length ≤ 1048576) :
    Calls Try.prog 36 #[.agg #[.slice a L.length c]] w (SlPost (gapsL L) w) :=
  impl_Gaps L a c w hr.sl hb
theorem ci_FrobeniusOf (L : List Int) (a : Option Addr) (c : Nat) (w : World) (hr : SlW w a c (L.map (Value.int .i64))) (hb : L.length ≤ 1048576) :
    Calls Try.prog 39 #[.agg #[.slice a L.length c]] w fun e w' => e = .returned (.int .i64 (frobN L)) ∧ Below w.heap.size w w' :=
  impl_FrobeniusOf L a c w hr.sl hb
theorem ci_GenusOf (L : List Int) (a : Option Addr) (c : Nat) (w : World) (hr : SlW w a c (L.map (Value.int .i64))) (hb : L.length ≤ 1048576) :
    Calls Try.prog 41 #[.agg #[.slice a L.length c]] w fun e w' => e = .returned (.int .i64 (genusN L)) ∧ Below w.heap.size w w' :=
  impl_GenusOf L a c w hr.sl hb
theorem ci_ConductorOf (L : List Int) (a : Option Addr) (c : Nat) (w : World) (hr : SlW w a c (L.map (Value.int .i64))) (hb : L.length ≤ 1048576) :
    Calls Try.prog 43 #[.agg #[.slice a L.length c]] w fun e w' => e = .returned (.int .i64 (condN L)) ∧ Below w.heap.size w w' :=
  impl_ConductorOf L a c w hr.sl hb
theorem ci_SmallElements (L : List Int) (a : Option Addr) (c : Nat) (w : World) (hr : SlW w a c (L.map (Value.int .i64))) (hb : L.length ≤ 1048576) :
    Calls Try.prog 45 #[.agg #[.slice a L.length c]] w (SlPost (smallL L) w) :=
  impl_SmallElements L a c w hr.sl hb
theorem ci_ElementAt (L : List Int) (a : Option Addr) (c : Nat) (x1 : Int) (w : World) (hr : SlW w a c (L.map (Value.int .i64))) (hb : L.length ≤ 1048576) (h0 : -9223372036854775808 ≤ x1) (h1 : x1 ≤ 9223372036854775807) :
    Calls Try.prog 47 #[.agg #[.slice a L.length c], .int .i64 x1] w fun e w' => e = .returned (.int .i64 (elemN L x1)) ∧ Below w.heap.size w w' :=
  impl_ElementAt L x1 a c w hr.sl hb h0 h1
end Go.Proofs.Ytnbnkjmellmmlaa
