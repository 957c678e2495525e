/-
  THE WALK OF THE LAW FnExactAddOf FOR EVERY INPUT: small ones by FnExactAddOf.core, greater ones by the law's own test (written by genwalk.py of the verifier's own).
-/
import Derived.Test.YtljfiiohiolbnaaCFnExactAddOf
namespace Go.Proofs.Ytljfiiohiolbnaa
open Go Go.RowKit

set_option maxRecDepth 100000 in
set_option maxHeartbeats 400000 in
theorem FnExactAddOf.walk (p0 : Option Addr) (len0 cap0 : Nat) (z0 : List Int) (p1 : Option Addr) (len1 cap1 : Nat) (z1 : List Int) (W : World) (r0 : IsRow .i64 W p0 len0 cap0 z0) (r1 : IsRow .i64 W p1 len1 cap1 z1) (_hsh : W.ShapedOpen Try.prog) :
    Calls Try.prog 9 #[.agg #[.slice p0 len0 cap0], .agg #[.slice p1 len1 cap1]] W fun e w' => e = .returned (.bool true) ∧ Below W.heap.size W w' := by
  obtain ⟨hr0, hl0⟩ := SlV.of_row r0
  have hm0 := row_maxLen' r0
  clear r0
  obtain ⟨hr1, hl1⟩ := SlV.of_row r1
  have hm1 := row_maxLen' r1
  clear r1
  by_cases hbig0 : 1048576 < len0
  · clear hr0 hl0 hr1 hl1
    obtain ⟨W0, hW0⟩ : ∃ W0, W0 = ((W.alloc (.cells #[.slice p0 len0 cap0] 41)).alloc (.cells #[.slice p1 len1 cap1] 41)) := ⟨_, rfl⟩
    have h00 : Below W.heap.size W W0 := by rw [hW0]; exact (((Below.refl _ _).alloc (by simp) _).alloc (by simp; try omega) _)
    have B_p0 : Arr W0 (W.heap.size) 41 [.slice p0 len0 cap0] := by rw [hW0]; have h := (Arr.new W 41 [.slice p0 len0 cap0]).alloc (.cells #[.slice p1 len1 cap1] 41); exact h
    have B_p1 : Arr W0 (W.heap.size + 1) 41 [.slice p1 len1 cap1] := by rw [hW0]; have h := Arr.new (W.alloc (.cells #[.slice p0 len0 cap0] 41)) 41 [.slice p1 len1 cap1]; rw [show ((W.alloc (.cells #[.slice p0 len0 cap0] 41))).heap.size = W.heap.size + 1 by simp] at h; exact h
    have HW0 := Lib.hid hW0
    clear hW0
    have hW : Below W0.heap.size W0 W0 := Below.refl _ _
    clear _hsh
    have C_p0 := Lib.hid B_p0
    clear B_p0
    have C_p1 := Lib.hid B_p1
    clear B_p1
    go_enter Try.func9, Try.ntmps9
    have c := cz_Semigroup len0 p0 cap0 (1048576) W0 hm0 (by omega) (by omega)
    rw [szI_out (by omega)] at c
    go_wp2_with fail
    rw [← HW0.out]
    refine c.mono ?_
    rintro e w0x ⟨rfl, hb⟩
    clear c
    replace C_p0 := Lib.hid (C_p0.out.below hb)
    replace C_p1 := Lib.hid (C_p1.out.below hb)
    replace hW := hW.trans (hb.mono hW.size)
    clear hb
    have hk0 : w0x.cell? ⟨W.heap.size, 0, none⟩ = some (.slice p0 len0 cap0) := C_p0.out.cell 0
    have hk1 : w0x.cell? ⟨W.heap.size + 1, 0, none⟩ = some (.slice p1 len1 cap1) := C_p1.out.cell 0
    go_wp2_with fail
    go_ret
    exact ⟨rfl, h00.trans (hW.mono h00.size)⟩
  have hle0 : len0 ≤ 1048576 := by omega
  by_cases hbig1 : 1048576 < len0 + len1
  · clear hr0 hl0 hr1 hl1
    obtain ⟨W0, hW0⟩ : ∃ W0, W0 = ((W.alloc (.cells #[.slice p0 len0 cap0] 41)).alloc (.cells #[.slice p1 len1 cap1] 41)) := ⟨_, rfl⟩
    have h00 : Below W.heap.size W W0 := by rw [hW0]; exact (((Below.refl _ _).alloc (by simp) _).alloc (by simp; try omega) _)
    have B_p0 : Arr W0 (W.heap.size) 41 [.slice p0 len0 cap0] := by rw [hW0]; have h := (Arr.new W 41 [.slice p0 len0 cap0]).alloc (.cells #[.slice p1 len1 cap1] 41); exact h
    have B_p1 : Arr W0 (W.heap.size + 1) 41 [.slice p1 len1 cap1] := by rw [hW0]; have h := Arr.new (W.alloc (.cells #[.slice p0 len0 cap0] 41)) 41 [.slice p1 len1 cap1]; rw [show ((W.alloc (.cells #[.slice p0 len0 cap0] 41))).heap.size = W.heap.size + 1 by simp] at h; exact h
    have HW0 := Lib.hid hW0
    clear hW0
    have hW : Below W0.heap.size W0 W0 := Below.refl _ _
    clear _hsh
    have C_p0 := Lib.hid B_p0
    clear B_p0
    have C_p1 := Lib.hid B_p1
    clear B_p1
    go_enter Try.func9, Try.ntmps9
    have c := cz_Semigroup len0 p0 cap0 (1048576) W0 hm0 (by omega) (by omega)
    rw [szI_in (by omega)] at c
    have hlf0 : (0 : Int) ≤ 1048576 - (len0 : Int) := by omega
    go_wp2_with fail
    rw [← HW0.out]
    refine c.mono ?_
    rintro e w0x ⟨rfl, hb⟩
    clear c
    replace C_p0 := Lib.hid (C_p0.out.below hb)
    replace C_p1 := Lib.hid (C_p1.out.below hb)
    replace hW := hW.trans (hb.mono hW.size)
    clear hb
    have c := cz_Semigroup len1 p1 cap1 (1048576 - (len0 : Int)) w0x hm1 (by omega) (by omega)
    rw [szI_out (by omega)] at c
    have hk0 : w0x.cell? ⟨W.heap.size, 0, none⟩ = some (.slice p0 len0 cap0) := C_p0.out.cell 0
    have hk1 : w0x.cell? ⟨W.heap.size + 1, 0, none⟩ = some (.slice p1 len1 cap1) := C_p1.out.cell 0
    go_wp2_with fail
    refine c.mono ?_
    rintro e w1x ⟨rfl, hb⟩
    clear c hk0 hk1
    replace C_p0 := Lib.hid (C_p0.out.below hb)
    replace C_p1 := Lib.hid (C_p1.out.below hb)
    replace hW := hW.trans (hb.mono hW.size)
    clear hb
    have hk0 : w1x.cell? ⟨W.heap.size, 0, none⟩ = some (.slice p0 len0 cap0) := C_p0.out.cell 0
    have hk1 : w1x.cell? ⟨W.heap.size + 1, 0, none⟩ = some (.slice p1 len1 cap1) := C_p1.out.cell 0
    go_wp2_with fail
    go_ret
    exact ⟨rfl, h00.trans (hW.mono h00.size)⟩
  have hle1 : len1 ≤ 1048576 := by omega
  have c := FnExactAddOf.core (z0.take len0) p0 cap0 (z1.take len1) p1 cap1 W hr0 (by rw [hl0]; exact hle0) hr1 (by rw [hl1]; exact hle1) (by rw [hl0]; rw [hl1]; omega) 
  rw [hl0, hl1] at c
  exact c
end Go.Proofs.Ytljfiiohiolbnaa
