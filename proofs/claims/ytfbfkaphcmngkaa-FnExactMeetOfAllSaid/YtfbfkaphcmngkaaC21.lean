/-
  THE CONTRACTS OF CHAPTER 21 IN THE CANONICAL FORM (genlaw.py). (Own work.)
-/
import Derived.Test.YtfbfkaphcmngkaaSgMl
import Derived.Test.YtfbfkaphcmngkaaSgMs
import Derived.Test.YtfbfkaphcmngkaaL81
import Derived.Test.YtfbfkaphcmngkaaI81
import Derived.Test.YtfbfkaphcmngkaaSgL
namespace Go.Proofs.Ytfbfkaphcmngkaa
open Go Go.RowKit

theorem totS_sum (LL : List (List Int)) : ((LL.map fun L => L.map (Value.int .i64)).map List.length).sum ≤ totS LL := by
  unfold totS
  have : ((LL.map fun L => L.map (Value.int .i64)).map List.length) = LL.map List.length := by
    rw [List.map_map]; apply List.map_congr_left; intro L _; simp
  rw [this]; omega
theorem cto_SemigroupS (LL : List (List Int)) (a : Option Addr) (cap : Nat) (w : World) (hs : Sl2 w a LL) (hn : LL.length ≤ 1048576) (hw : ∀ L ∈ LL, L.length ≤ 1048576) :
    Calls Try.prog 6 #[.slice a LL.length cap] w fun e w' => ∃ a1 c1 vs, e = .returned (.slice a1 LL.length c1) ∧ RowsG w' w.heap.size w'.heap.size (.slice a1 LL.length c1) vs (LL.map fun L => L.map (Value.int .i64)) ∧ Below w.heap.size w w' := by
  refine (ct_SemigroupS LL a cap w hs hn hw).mono ?_
  rintro e w' ⟨v, vs, rfl, hr, hb⟩
  obtain ⟨a1, c1, rfl⟩ := rowsG_open hr
  have hl : vs.length = LL.length := by rw [hr.len, List.length_map]
  rw [hl] at hr ⊢
  exact ⟨a1, c1, vs, rfl, hr, hb⟩
theorem cs_MeetOfAll (L0 : List (List Int)) (a0 : Option Addr) (c0 : Nat) (w : World) (hr0 : Sl2W w a0 L0) (hb0 : L0.length ≤ 1048576) (hw0 : ∀ L ∈ L0, L.length ≤ 1048576) :
    Calls Try.prog 5 #[.slice a0 L0.length c0] w (SgPost (mAllL L0) (mAllB L0) w) := spec_MeetOfAll L0 a0 c0 w hr0 hb0 hw0
theorem ci_MeetOfAll (L0 : List (List Int)) (a0 : Option Addr) (c0 : Nat) (w : World) (hr0 : Sl2W w a0 L0) (hb0 : L0.length ≤ 1048576) (hw0 : ∀ L ∈ L0, L.length ≤ 1048576) :
    Calls Try.prog 7 #[.slice a0 L0.length c0] w (SgPost (mAllL L0) (mAllB L0) w) := impl_MeetOfAll L0 a0 c0 w hr0 hb0 hw0
end Go.Proofs.Ytfbfkaphcmngkaa
