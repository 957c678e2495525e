/-
  THE WALK OF THE LAW FnExactSplitByte: the program and the reference part every text alike; the result is new memory.
-/
import Derived.Test.YtlllhlmmhkdpgaaDoorRows
import Derived.Test.YtlllhlmmhkdpgaaDoorSplit
import Derived.Test.YtlllhlmmhkdpgaaDoorHStr
import Derived.Test.YtlllhlmmhkdpgaaDoorMarkS
namespace Go.Proofs.YtlllhlmmhkdpgaaDoor
open Go Go.RowKit

/-- A list of parts that the call made: opened. -/
theorem parts_open {w w' : World} {s : ByteArray} {c : UInt8} {M : List ByteArray} {v : Value} (hM : M.map (·.data.toList) = splitL c s.data.toList) (ho : w'.ownsRow w.heap.size 9 1 v M.length (M.map Value.string)) :
    ∃ g cap, v = .slice (some ⟨g, 0, none⟩) M.length cap ∧ w.heap.size ≤ g ∧ SlV w' (some ⟨g, 0, none⟩) (M.map Value.string) ∧ M.length ≤ s.size + 1 ∧ g < w'.heap.size := by
  have hlen : M.length = (splitL c s.data.toList).length := by rw [← hM]; simp
  have hne : M ≠ [] := by
    intro h
    rw [h] at hM
    exact splitL_ne c _ hM.symm
  have hl := splitL_length c s.data.toList
  have hlt := ho.lt
  obtain ⟨a, cap, rfl, -, -, hs, h | ⟨g, rfl, hg⟩⟩ := SlV.of_owns ho
  · simp at h; exact absurd h hne
  · refine ⟨g, cap, rfl, hg, hs, ?_, (hlt g rfl).2⟩
    simp at hl
    omega

set_option maxRecDepth 100000 in
set_option maxHeartbeats 1600000 in
theorem split_law (s : ByteArray) (c : UInt8) (W : World) (hs : s.size ≤ 1048576) (hm : MaxLenIs W) :
    Calls Tryd.prog 8 #[.string s, .int .u8 (c.toNat : Int)] W fun e w' => e = .returned (.bool true) ∧ Below W.heap.size W w' := by
  have c1 := spec_SplitByte s c W hs
  go_enter Tryd.func8, Tryd.ntmps8
  go_wp2_with fail
  refine c1.mono ?_
  rintro e w1 ⟨M, v, hM, rfl, ho1, hb1⟩
  obtain ⟨g1, cap1, rfl, -, hs1, hlen, -⟩ := parts_open hM ho1
  have hm1 := hm.below hb1
  have c2 := impl_SplitByte s c w1 hm1 hs
  have HM := Lib.hid hM
  clear c1 ho1 hM hm
  go_wp2_with fail
  refine c2.mono ?_
  rintro e w2 ⟨M2, v, hM2, rfl, ho2, hb2⟩
  obtain rfl : M2 = M := parts_inj _ _ (hM2.trans HM.out.symm)
  obtain ⟨g2, cap2, rfl, hg2, hs2, -, hg2w⟩ := parts_open hM2 ho2
  have HO2 := Lib.hid ho2
  have hs12 := hs1.below hb2
  clear c2 ho2 hM2
  go_wp2_with fail
  refine (eqStringS_any M2 M2 _ _ _ _ w2 hs2 hs12 (by omega) (by omega)).mono ?_
  rintro e w3 ⟨rfl, hb3⟩
  rw [decide_eq_true (rfl : M2 = M2)]
  have ho3 : w3.ownsRow w1.heap.size 9 1 (.slice (some ⟨g2, 0, none⟩) M2.length cap2) M2.length (M2.map Value.string) := HO2.out.kept (row := none) ⟨hb3.os, hb3.tape, hb3.output, hb3.size, fun j hj _ => hb3.block j hj⟩ (.inr (by simp [Value.ownBlock]))
  have hb13 : Below w1.heap.size w1 w3 := hb2.trans (hb3.mono hb2.size)
  have c4 := markStringS_any w1.heap.size g2 M2.length cap2 _ w3 ho3 (by omega)
  clear hs12 hs2 ho3 hb3 hb2
  go_wp2_with fail
  refine c4.mono ?_
  rintro e w4 ⟨rfl, ho4, hgr4⟩
  clear c4
  have hb14 : Below w1.heap.size w1 w4 := hb13.grown hgr4 hb13.size (fun j hj => by cases hj; exact hg2)
  obtain ⟨a4, k4, e4, -, -, hs4, -⟩ := SlV.of_owns ho4
  cases e4
  have hm4 : MaxLenIs w4 := hm1.below hb14
  clear ho4 hgr4 hb13 hm1
  go_wp2_with fail
  refine (heldStringS_any M2.length cap2 _ w4 hs4 (by omega)).mono ?_
  rintro e w5 ⟨rfl, hb5⟩
  have hb15 := hb14.trans (hb5.mono hb14.size)
  have hs5 := hs4.below hb5
  have hm5 := hm4.below hb5
  have c6 := impl_SplitByte s c w5 hm5 hs
  clear hs4 hm4 hb5 hb14
  go_wp2_with fail
  refine c6.mono ?_
  rintro e w6 ⟨M3, v, hM3, rfl, ho6, hb6⟩
  obtain rfl : M3 = M2 := parts_inj _ _ (hM3.trans HM.out.symm)
  obtain ⟨g6, cap6, rfl, -, hs6, -, -⟩ := parts_open hM3 ho6
  have hb16 := hb15.trans (hb6.mono hb15.size)
  have hs16 := hs1.below hb16
  have hs56 := hs5.below hb6
  clear c6 ho6 hM3 hb6 hb15 hs5
  go_wp2_with fail
  refine (eqStringS_any M3 M3 _ _ _ _ w6 hs6 hs16 (by omega) (by omega)).mono ?_
  rintro e w7 ⟨rfl, hb7⟩
  rw [decide_eq_true (rfl : M3 = M3)]
  have hb17 := hb16.trans (hb7.mono hb16.size)
  have hs57 := hs56.below hb7
  clear hs16 hs56 hs6 hb7 hb16
  go_wp2_with fail
  refine (heldStringS_any M3.length cap2 _ w7 hs57 (by omega)).mono ?_
  rintro e w8 ⟨rfl, hb8⟩
  have hb18 := hb17.trans (hb8.mono hb17.size)
  clear hb8 hb17
  go_wp2_with fail
  go_ret
  exact ⟨rfl, hb1.trans (hb18.mono hb1.size)⟩

theorem FnExactSplitByte.walk (a0 : ByteArray) (hs0 : a0.size ≤ maxLen) (a1 : Int) (lo1 : 0 ≤ a1) (hi1 : a1 ≤ 255) (W : World) (_hL : laidMetH Tryd.prog Rows.fnExactSplitByteRow.laid W) (hsh : W.ShapedOpen Tryd.prog) :
    Calls Tryd.prog 8 #[.string a0, .int .u8 a1] W fun e w' => e = .returned (.bool true) ∧ Below W.heap.size W w' := by
  by_cases hbig : 1048576 < a0.size
  · clear hsh _hL
    unfold maxLen at hs0
    go_enter Tryd.func8, Tryd.ntmps8
    go_wp2_with fail
    go_ret
    exact ⟨rfl, Below.refl _ _⟩
  · obtain ⟨c, rfl⟩ : ∃ c : UInt8, a1 = (c.toNat : Int) := ⟨UInt8.ofNat a1.toNat, by rw [UInt8.toNat_ofNat']; omega⟩
    exact split_law a0 c W (by omega) (maxLenIs_of hsh)
end Go.Proofs.YtlllhlmmhkdpgaaDoor
