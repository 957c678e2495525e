/-
  CONTRACT of the program's withoutGaps. (Own work; mk81.py.)
-/
import Derived.Test.YtljfiiohiolbnaaL24
import Derived.Deep.Cut
namespace Go.Proofs.Ytljfiiohiolbnaa
open Go Go.RowKit

set_option maxRecDepth 100000 in
set_option maxHeartbeats 800000 in
theorem impl_withoutGaps (w : World) : Calls Try.prog 45 #[] w fun e w' => ∃ v, e = .returned (.agg #[v]) ∧ w'.ownsRow w.heap.size 3 1 v 1 (([1] : List Int).map (Value.int .i64)) ∧ Below w.heap.size w w' := by
  obtain ⟨dS, hdS, hrS⟩ := undSg
  obtain ⟨U, hU⟩ : ∃ U, U = w.alloc (.cells [Value.slice none 0 0].toArray 26) := ⟨_, rfl⟩
  have hbU : Below w.heap.size w U := by rw [hU]; exact box_below _ _
  have hAU : Arr U w.heap.size 26 [Value.slice none 0 0] := by rw [hU]; exact Arr.new _ _ _
  have hU1 := hAU.lt
  have hA1 := hAU.alloc (.cells #[.int .i64 1] 3)
  have hb1 := hbU.alloc hbU.size (.cells #[.int .i64 1] 3)
  have hO := World.ownsRow_lit (base := w.heap.size + 1) (e := 3) (size := 1) U #[.int .i64 1] 1 (by omega) (by unfold maxLen; omega) rfl
  have hbuilt : Try.prog.built 26 [(0, .slice (some ⟨U.heap.size, 0, none⟩) 1 1)] = some [Value.slice (some ⟨U.heap.size, 0, none⟩) 1 1].toArray := by kernel_rfl
  have HU := Lib.hid hU
  have HO := Lib.hid hO
  clear hU hO
  go_enter Try.func45, Try.ntmps45
  go_upto_region 1 with (first | (refine wpList_alloc_arr 26 [Value.slice none 0 0] zeroSg rfl rfl ?_; rw [← HU.out]))
  go_wp2_with (first | (refine wpList_build_arr 26 _ [Value.slice (some ⟨U.heap.size, 0, none⟩) 1 1] rfl rfl hbuilt ?_) | (refine wpList_store_arr 26 (.tmp 0) (.tmp 2) w.heap.size [Value.slice none 0 0] [Value.slice (some ⟨U.heap.size, 0, none⟩) 1 1] rfl rfl rfl rfl hA1 rfl sizeSg (by simp [Value.oneCell']) ?_; intro w9 hA9 hg9 hz9; clear hz9))
  have hb9 := hb1.grown hg9 hb1.size (fun k hk => by cases hk; exact Nat.le_refl _)
  exact bodyPost_ret (results_arr rfl _ _ w.heap.size [Value.slice (some ⟨U.heap.size, 0, none⟩) 1 1] dS rfl hA9 hdS hrS sizeSg) rfl ⟨_, rfl, ownsBase (HO.out.kept hg9 (.inr (fun e => by injection e with e; have e2 : U.heap.size = w.heap.size := e; omega))) (Nat.le_succ _), hb9⟩

end Go.Proofs.Ytljfiiohiolbnaa
