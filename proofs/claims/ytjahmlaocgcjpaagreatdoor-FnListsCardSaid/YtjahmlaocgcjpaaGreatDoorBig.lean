/-
  CONTRACT of the laws' own 'big'.
-/
import Derived.Test.YtjahmlaocgcjpaaGreatDoorBase
namespace Go.Proofs.YtjahmlaocgcjpaaGreatDoor
open Go Go.RowKit

theorem big_any (a : Option Addr) (len cap : Nat) (w : World) (hl : len ≤ maxLen) :
    Calls Tryz.prog 4 #[.slice a len cap] w fun e w' => e = .returned (.bool (decide (1048576 < len))) ∧ w' = w := by
  unfold maxLen at hl
  by_cases h : 1048576 < len
  · have H := Lib.hid (decide_eq_true h)
    go_enter Tryz.func4, Tryz.ntmps4
    go_wp2
    go_ret
    exact ⟨by rw [H.out]; simp; omega, rfl⟩
  · have H := Lib.hid (decide_eq_false h)
    go_enter Tryz.func4, Tryz.ntmps4
    go_wp2
    go_ret
    exact ⟨by rw [H.out]; simp; omega, rfl⟩
theorem row_maxLen {k : IntKind} {W : World} {a : Option Addr} {len cap : Nat} {zs : List Int} (h : IsRow k W a len cap zs) : len ≤ maxLen := by
  rcases h with ⟨rfl, -, -⟩ | ⟨_, _, _, _, h1, h2, _⟩
  · exact Nat.zero_le _
  · omega
end Go.Proofs.YtjahmlaocgcjpaaGreatDoor
