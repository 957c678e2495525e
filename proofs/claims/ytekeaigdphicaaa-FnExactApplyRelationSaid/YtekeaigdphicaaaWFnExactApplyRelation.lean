/-
  THE WALK OF THE LAW FnExactApplyRelation FOR EVERY INPUT: small ones by FnExactApplyRelation.core, greater ones by the law's own test. (Own work.)
-/
import Derived.Test.YtekeaigdphicaaaCFnExactApplyRelation
namespace Go.Proofs.Ytekeaigdphicaaa
open Go Go.RowKit

set_option maxRecDepth 100000 in
set_option maxHeartbeats 400000 in
theorem FnExactApplyRelation.walk (p0 : Option Addr) (len0 cap0 : Nat) (z0 : List Int) (o0 : Option Addr) (mlen0 mcap0 : Nat) (y0 : List Int) (p1 : Option Addr) (len1 cap1 : Nat) (z1 : List Int) (W : World) (r0 : IsRow .i64 W p0 len0 cap0 z0) (s0 : IsRow .i64 W o0 mlen0 mcap0 y0) (r1 : IsRow .i64 W p1 len1 cap1 z1) (_hsh : W.ShapedOpen Try.prog) :
    Calls Try.prog 3 #[.agg #[.slice p0 len0 cap0, .slice o0 mlen0 mcap0], .slice p1 len1 cap1] W fun e w' => e = .returned (.bool true) ∧ Below W.heap.size W w' := by
  obtain ⟨hr0, hl0⟩ := SlV.of_row r0
  obtain ⟨hq0, hm0⟩ := SlV.of_row s0
  obtain ⟨hr1, hl1⟩ := SlV.of_row r1
  have hx0 := row_maxLen' r0
  have hx1 := row_maxLen' s0
  have hx2 := row_maxLen' r1
  clear r0 s0 r1
  by_cases hbig1 : 1048576 < len1
  · clear hr0 hl0 hq0 hm0 hr1 hl1 _hsh
    unfold maxLen at hx2
    go_enter Try.func3, Try.ntmps3
    go_wp2_with fail
    go_ret
    exact ⟨rfl, (Below.refl _ _).alloc (by simp) _⟩
  have hle1 : len1 ≤ 1048576 := by omega
  by_cases hbig0 : 1048576 < len0 + mlen0
  · clear hr0 hl0 hq0 hm0 hr1 hl1
    obtain ⟨W0, hW0⟩ : ∃ W0, W0 = (W.alloc (.cells #[.slice p0 len0 cap0, .slice o0 mlen0 mcap0] 24)) := ⟨_, rfl⟩
    have h00 : Below W.heap.size W W0 := by rw [hW0]; exact ((Below.refl _ _).alloc (by simp) _)
    have B_p0 : Arr W0 (W.heap.size) 24 [.slice p0 len0 cap0, .slice o0 mlen0 mcap0] := by rw [hW0]; exact Arr.new W _ _
    have HW0 := Lib.hid hW0
    have hk0 := B_p0.cell 0
    have hk1 := B_p0.cell 1
    have c := cz_Relation len0 mlen0 p0 o0 cap0 mcap0 (1048576) W0 hx0 hx1 (by omega) (by omega)
    rw [szR_out (by omega)] at c
    clear hW0 _hsh B_p0
    go_enter Try.func3, Try.ntmps3
    go_upto_region 1 with fail
    rw [← HW0.out]
    go_wp2_with fail
    refine c.mono ?_
    rintro e w0x ⟨rfl, hb⟩
    have hbF := h00.trans (hb.mono h00.size)
    clear c hk0 hk1 hb
    go_wp2_with fail
    go_ret
    exact ⟨rfl, hbF⟩
  have c := FnExactApplyRelation.core (z0.take len0) p0 cap0 (y0.take mlen0) o0 mcap0 (z1.take len1) p1 cap1 W hr0 hq0 (by rw [hl0]; omega) (by rw [hm0]; omega) (by rw [hl0, hm0]; omega) hr1 (by rw [hl1]; exact hle1)
  rw [hl0, hm0, hl1] at c
  exact c
end Go.Proofs.Ytekeaigdphicaaa
