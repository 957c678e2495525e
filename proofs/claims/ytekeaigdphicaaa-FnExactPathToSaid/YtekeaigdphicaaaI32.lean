/-
  CONTRACTS of the program's chapter 8, third part: FromGaps. (Own work.)
-/
import Derived.Test.YtekeaigdphicaaaI31
import Derived.Test.YtekeaigdphicaaaSgQ
import Derived.Test.YtekeaigdphicaaaL26
import Derived.Test.YtekeaigdphicaaaCh4I
namespace Go.Proofs.Ytekeaigdphicaaa
open Go Go.RowKit
attribute [local go_sem] Oper.semAt_some

theorem missL_next (L : List Int) {n : Nat} (hn : 1 ≤ n) : missL L (n + 1) = if isIn L n then missL L n else missL L n ++ [(n : Int)] := by
  rw [missL_succ, decide_eq_true hn, Bool.true_and]
  cases isIn L n <;> simp
theorem missL_len' (S : List Int) (n : Nat) : (missL S n).length ≤ n := by unfold missL; rw [List.length_map]; exact upB_len_le _ _
theorem gapsL_len (G : List Int) : (gapsL G).length ≤ 200 := by
  unfold gapsL
  split
  · rw [List.length_map]; exact upB_len_le _ _
  · exact Nat.zero_le _

end Go.Proofs.Ytekeaigdphicaaa
