/-
  CONTRACTS of the program's chapters 17 and 18: isDivisor, ScaledElements, IsWithin. (Own work: mkI58.py.)
-/
import Derived.Test.YtfbfkaphcmngkaaI51
import Derived.Test.YtfbfkaphcmngkaaSgId
import Derived.Test.YtfbfkaphcmngkaaCh4I
import Derived.Test.YtfbfkaphcmngkaaHta
namespace Go.Proofs.Ytfbfkaphcmngkaa
open Go Go.RowKit
attribute [local go_sem] Oper.semAt_some

theorem ne_apart2 {b : Option Nat} {t : Nat} (h : b = none ∨ b ≠ some t) : some t ≠ b := by
  rcases h with h | h
  · rw [h]; simp
  · exact Ne.symm h

end Go.Proofs.Ytfbfkaphcmngkaa
