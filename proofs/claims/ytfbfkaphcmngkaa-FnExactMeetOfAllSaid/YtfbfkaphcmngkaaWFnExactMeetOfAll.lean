/-
  THE WALK OF THE LAW FnExactMeetOfAll FOR EVERY INPUT: small ones by FnExactMeetOfAll.core, greater ones by the law's own test. (Own work.)
-/
import Derived.Test.YtfbfkaphcmngkaaCFnExactMeetOfAll
namespace Go.Proofs.Ytfbfkaphcmngkaa
open Go Go.RowKit

theorem wid_le (LL : List (List Int)) : ∀ L ∈ LL, L.length ≤ (LL.map List.length).sum := by
  induction LL with
  | nil => intro L hL; cases hL
  | cons G r ih =>
    intro L hL
    rw [List.map_cons, List.sum_cons]
    rcases List.mem_cons.1 hL with rfl | h
    · omega
    · have := ih L h; omega
set_option maxRecDepth 100000 in
set_option maxHeartbeats 400000 in
theorem FnExactMeetOfAll.walk (p0 : Option Addr) (len0 cap0 : Nat) (z0 : List (List Int)) (W : World) (r0 : IsSems W p0 len0 z0) (_hsh : W.ShapedOpen Try.prog) :
    Calls Try.prog 3 #[.slice p0 len0 cap0] W fun e w' => e = .returned (.bool true) ∧ Below W.heap.size W w' := by
  obtain ⟨hs, hn, hm, hw⟩ := r0
  subst hn
  by_cases hbig : 1048576 < totS z0
  · have c := cz_SemigroupS z0 p0 cap0 1048576 W hs hm hw (by omega) (by omega)
    rw [szS_out (by omega)] at c
    clear hs hw _hsh
    go_enter Try.func3, Try.ntmps3
    go_wp2_with fail
    refine c.mono ?_
    rintro e w1 ⟨rfl, hb⟩
    clear c
    go_wp2_with fail
    go_ret
    exact ⟨rfl, hb⟩
  have ht : totS z0 = z0.length + (z0.map List.length).sum := rfl
  exact FnExactMeetOfAll.core z0 p0 cap0 W hs (by omega) (fun L hL => by have := wid_le z0 L hL; omega) (by omega)
end Go.Proofs.Ytfbfkaphcmngkaa
