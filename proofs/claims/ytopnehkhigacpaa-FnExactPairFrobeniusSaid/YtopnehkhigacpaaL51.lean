/-
  CONTRACTS of the reference's chapter 15: membership of any number, SeriesFrom, IsPalindrome. (Own work.)
-/
import Derived.Test.YtopnehkhigacpaaSgSr
import Derived.Test.YtopnehkhigacpaaSgL
import Derived.Maps.AppendAt
import Derived.WalkMore
namespace Go.Proofs.Ytopnehkhigacpaa
open Go Go.RowKit

set_option maxRecDepth 100000 in
set_option maxHeartbeats 400000 in
theorem l1Bit_any (b : Bool) (w : World) : Calls Try.prog 76 #[.bool b] w fun e w' => e = .returned (.int .i64 (bitI b)) ∧ w' = w := by
  cases b
  · go_enter Try.func76, Try.ntmps76
    go_wp2_with fail
    go_ret
    exact ⟨rfl, rfl⟩
  · go_enter Try.func76, Try.ntmps76
    go_wp2_with fail
    go_ret
    exact ⟨rfl, rfl⟩
noncomputable def serK (L : List Int) (k : Nat) : List Int := (List.range k).map fun j => wsum (L.take (j + 1))
theorem serK_succ (L : List Int) (k : Nat) : serK L (k + 1) = serK L k ++ [wsum (L.take (k + 1))] := by unfold serK; rw [List.range_succ, List.map_append]; rfl
theorem serK_len (L : List Int) (k : Nat) : (serK L k).length = k := by unfold serK; simp
end Go.Proofs.Ytopnehkhigacpaa
