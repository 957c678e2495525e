/-
  THE WALK OF THE LAW FnExactDimensionOf FOR EVERY INPUT: small ones by FnExactDimensionOf.core, greater ones by the law's own test (written by genwalk.py of the verifier's own).
-/
import Derived.Test.YtnbnkjmellmmlaaCFnExactDimensionOf
namespace Go.Proofs.Ytnbnkjmellmmlaa
open Go Go.RowKit

set_option maxRecDepth 100000 in
set_option maxHeartbeats 400000 in
theorem FnExactDimensionOf.walk (p0 : Option Addr) (len0 cap0 : Nat) (z0 : List Int) (W : World) (r0 : IsRow .i64 W p0 len0 cap0 z0) (_hsh : W.ShapedOpen Try.prog) :
    Calls Try.prog 8 #[.agg #[.slice p0 len0 cap0]] W fun e w' => e = .returned (.bool true) ∧ Below W.heap.size W w' := by
  obtain ⟨hr0, hl0⟩ := SlV.of_row r0
  have hm0 := row_maxLen' r0
  clear r0
  by_cases hbig0 : 1048576 < len0
  · clear hr0 hl0
    obtain ⟨W0, hW0⟩ : ∃ W0, W0 = (W.alloc (.cells #[.slice p0 len0 cap0] 27)) := ⟨_, rfl⟩
    have h00 : Below W.heap.size W W0 := by rw [hW0]; exact ((Below.refl _ _).alloc (by simp) _)
    have B_p0 : Arr W0 (W.heap.size) 27 [.slice p0 len0 cap0] := by rw [hW0]; have h := Arr.new W 27 [.slice p0 len0 cap0]; exact h
    have HW0 := Lib.hid hW0
    clear hW0
    have hW : Below W0.heap.size W0 W0 := Below.refl _ _
    clear _hsh
    have C_p0 := Lib.hid B_p0
    clear B_p0
    go_enter Try.func8, Try.ntmps8
    have c := cz_Semigroup len0 p0 cap0 (1048576) W0 hm0 (by omega) (by omega)
    rw [szI_out (by omega)] at c
    go_wp2_with fail
    rw [← HW0.out]
    refine c.mono ?_
    rintro e w0x ⟨rfl, hb⟩
    clear c
    replace C_p0 := Lib.hid (C_p0.out.below hb)
    replace hW := hW.trans (hb.mono hW.size)
    clear hb
    have hk0 : w0x.cell? ⟨W.heap.size, 0, none⟩ = some (.slice p0 len0 cap0) := C_p0.out.cell 0
    go_wp2_with fail
    go_ret
    exact ⟨rfl, h00.trans (hW.mono h00.size)⟩
  have hle0 : len0 ≤ 1048576 := by omega
  have c := FnExactDimensionOf.core (z0.take len0) p0 cap0 W hr0 (by rw [hl0]; exact hle0) 
  rw [hl0] at c
  exact c
end Go.Proofs.Ytnbnkjmellmmlaa
