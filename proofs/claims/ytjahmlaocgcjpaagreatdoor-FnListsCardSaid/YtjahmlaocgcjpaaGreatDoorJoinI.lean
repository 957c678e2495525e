/-
  CONTRACT of impl.Join (strings.Join).
-/
import Derived.Test.YtjahmlaocgcjpaaGreatDoorJoinM
import Derived.Test.YtjahmlaocgcjpaaGreatDoorShJoin
import Derived.WalkKit
namespace Go.Proofs.YtjahmlaocgcjpaaGreatDoor
open Go Go.RowKit

/-- impl.Join. -/
theorem impl_JoinW (L : List ByteArray) (sep : ByteArray) (a : Option Addr) (cap : Nat) (w : World) (hr : SlV w a (L.map Value.string)) (h1 : L.length ≤ 1048576) (hlen : (Lib.join (L.map (·.data.toList)) sep.data.toList).length ≤ 140737488355328) (hcap : L.length ≤ cap) :
    Calls Tryz.prog 53 #[.slice a L.length cap, .string sep] w fun e w' => e = .returned (.string ⟨(Lib.join (L.map (·.data.toList)) sep.data.toList).toArray⟩) ∧ Below w.heap.size w w' := by
  by_cases h0 : L = []
  · subst h0
    go_enter Tryz.func53, Tryz.ntmps53
    go_wp2_with (go_at_call 70; refine (Tryz.strings_Join_none _ _ _ _).mono ?_; rintro e w' ⟨rfl, rfl⟩)
    go_ret
    exact ⟨rfl, Below.refl _ _⟩
  · obtain ⟨b, off, rfl, hbs, hc⟩ := hr.open (by simpa using h0)
    have c := Tryz.strings_Join b off cap L sep w (fun j x hx => hc j (.string x) (by simp [hx])) hbs (by omega) hcap hlen
    clear hr hc h0
    go_enter Tryz.func53, Tryz.ntmps53
    go_wp2_with (go_at_call 70; refine c.mono ?_; rintro e w' ⟨rfl, hb⟩)
    go_ret
    exact ⟨rfl, hb⟩

theorem impl_Join (L : List ByteArray) (sep : ByteArray) (a : Option Addr) (cap : Nat) (w : World) (hr : SlV w a (L.map Value.string)) (h1 : L.length ≤ 1048576) (h2 : sizes L ≤ 1048576) (h3 : sep.size ≤ 1048576) (hcap : L.length ≤ cap) :
    Calls Tryz.prog 53 #[.slice a L.length cap, .string sep] w fun e w' => e = .returned (.string ⟨(Lib.join (L.map (·.data.toList)) sep.data.toList).toArray⟩) ∧ Below w.heap.size w w' := by
  have hlen := J_length L sep L.length h1 h2 h3
  rw [J_all] at hlen
  exact impl_JoinW L sep a cap w hr h1 (by omega) hcap
end Go.Proofs.YtjahmlaocgcjpaaGreatDoor
