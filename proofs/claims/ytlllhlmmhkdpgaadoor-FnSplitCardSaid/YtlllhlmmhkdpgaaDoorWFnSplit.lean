/-
  THE WALK OF THE LAW FnSplit: at every drawn text, joining the parts restores it, and no part contains the separator.
-/
import Derived.Test.YtlllhlmmhkdpgaaDoorRows
import Derived.Test.YtlllhlmmhkdpgaaDoorSplit
import Derived.Test.YtlllhlmmhkdpgaaDoorJoinI
import Derived.Test.YtlllhlmmhkdpgaaDoorDrawSplit
import Derived.Test.YtlllhlmmhkdpgaaDoorBig
namespace Go.Proofs.YtlllhlmmhkdpgaaDoor
open Go Go.RowKit

/-- A text without the byte is its only part. -/
def OnePart (w : World) (e : Ending) (w' : World) : Prop := ∃ a cap, e = .returned (.slice a 1 cap) ∧ Below w.heap.size w w'
theorem split_one (s : ByteArray) (c : UInt8) (w : World) (hm : MaxLenIs w) (hs : s.size ≤ 1048576) (h : ∀ x ∈ s.data.toList, x ≠ c) :
    Calls Tryd.prog 18 #[.string s, .int .u8 (c.toNat : Int)] w (OnePart w) := by
  refine (impl_SplitByte s c w hm hs).mono ?_
  rintro e w' ⟨M, v, hM, rfl, ho, hb⟩
  rw [splitL_none c _ h] at hM
  have hl : M.length = 1 := by simpa using congrArg List.length hM
  obtain ⟨a, cap, rfl, -, -⟩ := SlV.of_owns ho
  rw [hl]
  exact ⟨a, cap, rfl, hb⟩

set_option maxRecDepth 100000 in
set_option maxHeartbeats 1600000 in
theorem fnSplit_small (p0 : Option Addr) (len0 cap0 : Nat) (z0 : List Int) (W : World) (r0 : IsRow .u8 W p0 len0 cap0 z0) (hl : len0 ≤ 1048576) (hm : MaxLenIs W) :
    Calls Tryd.prog 4 #[.slice p0 len0 cap0] W fun e w' => e = .returned (.bool true) ∧ Below W.heap.size W w' := by
  have cb := big_any p0 len0 cap0 W (by unfold maxLen; omega)
  rw [decide_eq_false (show ¬ 1048576 < len0 by omega)] at cb
  have cd := DrawSplitByte_any W p0 len0 cap0 z0 r0 hl
  have kc := fun (W : World) (x : Int) => run_convert_one (P := Tryd.prog) W 22 9 5 x Tryd.underlying22 Tryd.underlying5 Tryd.underlying9
  go_enter Tryd.func4, Tryd.ntmps4
  go_wp2_with fail
  refine cb.mono ?_
  rintro e w0 ⟨rfl, rfl⟩
  go_wp2_with fail
  refine cd.mono ?_
  rintro e w1 ⟨s, c, hsz, rfl, hb1⟩
  have hm1 := hm.below hb1
  have c2 := impl_SplitByte s c w1 hm1 (by omega)
  clear cb cd r0 hm
  go_wp2_with fail
  refine c2.mono ?_
  rintro e w2 ⟨M, v, hM, rfl, ho, hb2⟩
  obtain ⟨g, cap, rfl, hg, hs2, hlen, -, hcap⟩ := parts_open hM ho
  have hm2 := hm1.below hb2
  have hb12 := hb1.trans (hb2.mono hb1.size)
  have hszM : sizes M ≤ 1048576 := by
    have h1 := splitL_lens c s.data.toList
    rw [← hM, lens_sizes] at h1
    simp at h1
    omega
  have HM := Lib.hid hM
  have hjoin : (⟨(Lib.join (M.map (·.data.toList)) [c]).toArray⟩ : ByteArray) = s := by rw [hM, splitL_join]
  have hb2a : Below w2.heap.size w2 (w2.alloc (.cells #[.int .u8 (c.toNat : Int)] 5)) := (Below.refl _ _).alloc (Nat.le_refl _) _
  have c3 := impl_Join M ⟨#[c]⟩ _ cap _ (hs2.below hb2a) (by omega) hszM (show 1 ≤ 1048576 by decide) hcap
  have hb13 := hb12.trans (hb2a.mono hb12.size)
  have hs3 := hs2.below hb2a
  have hm3 := hm2.below hb2a
  clear c2 ho hM hm1 hs2 hm2 hszM hcap
  rw [show (⟨#[c]⟩ : ByteArray).data.toList = [c] from rfl, hjoin] at c3
  clear hjoin
  go_wp2_with fail
  refine c3.mono ?_
  rintro e w4 ⟨rfl, hb4⟩
  have hb14 := hb13.trans (hb4.mono hb13.size)
  have hs4 := hs3.below hb4
  have hm4 := hm3.below hb4
  have c5 := spec_SplitByte s c w4 (by omega)
  clear c3 hb2a hb12 hb13 hs3 hm3 hb4 hb2
  go_wp2_with fail
  refine c5.mono ?_
  rintro e w5 ⟨M5, v, hM5, rfl, ho5, hb5⟩
  obtain rfl : M5 = M := parts_inj _ _ (hM5.trans HM.out.symm)
  obtain ⟨g5, cap5, rfl, -, -, -, -, -⟩ := parts_open hM5 ho5
  have hb15 := hb14.trans (hb5.mono hb14.size)
  have hs5 := hs4.below hb5
  have hm5 := hm4.below hb5
  clear c5 ho5 hM5 hb14 hs4 hm4 hb5
  go_wp2_with fail
  go_loopw [6] (fun i wr => ∃ k : Nat, k ≤ M5.length ∧ i = .int .i64 (k : Int) ∧ Below w5.heap.size w5 wr) (fun i _ => M5.length - (intOf i).toNat)
  case atStart => exact ⟨0, Nat.zero_le _, rfl, Below.refl _ _⟩
  case round =>
    obtain ⟨k, hk, rfl, hbel⟩ := hrel
    by_cases hlt : k < M5.length
    · obtain ⟨b, off, e, hbs, hc⟩ := hs5.open (by intro h; rw [List.map_eq_nil_iff] at h; subst h; simp at hlt)
      cases e
      have hcell : wr.cell? ⟨g, 0 + k, none⟩ = some (.string M5[k]) := by rw [hbel.cell (p := ⟨g, 0 + k, none⟩) hbs]; exact hc k _ (by simp [hlt])
      rw [Nat.zero_add] at hcell
      have hpart : M5[k].data.toList ∈ splitL c s.data.toList := by rw [← HM.out]; exact List.mem_map.2 ⟨_, List.getElem_mem hlt, rfl⟩
      have hno := splitL_parts c _ _ hpart
      have hpl : M5[k].size ≤ 1048576 := by
        have h1 := splitL_lens c s.data.toList
        have h2 := size_le_sizes M5 k hlt
        rw [← HM.out, lens_sizes] at h1
        simp at h1
        omega
      have ck := split_one M5[k] c wr (hm5.below hbel) hpl hno
      clear hc hpart hno hpl
      generalize M5[k] = p at *
      go_wp2_with fail
      refine ck.mono ?_
      rintro e w6 ⟨a6, cap6, rfl, hb6⟩
      have hbel6 := hbel.trans (hb6.mono hbel.size)
      clear ck hb6
      go_wp2_with fail
      go_roundw
      case rel => exact ⟨k + 1, by omega, by go_num, hbel6⟩
      case measure => simp [intOf]; omega
    · obtain rfl : k = M5.length := by omega
      go_wp2_with fail
      go_ret
      exact ⟨rfl, hb15.trans (hbel.mono hb15.size)⟩

theorem FnSplit.walk (p0 : Option Addr) (len0 cap0 : Nat) (z0 : List Int) (W : World) (r0 : IsRow .u8 W p0 len0 cap0 z0) (_hL : laidMetH Tryd.prog Rows.fnSplitRow.laid W) (hsh : W.ShapedOpen Tryd.prog) :
    Calls Tryd.prog 4 #[.slice p0 len0 cap0] W fun e w' => e = .returned (.bool true) ∧ Below W.heap.size W w' := by
  by_cases hl : len0 ≤ 1048576
  · exact fnSplit_small p0 len0 cap0 z0 W r0 hl (maxLenIs_of hsh)
  · have cb := big_any p0 len0 cap0 W (row_maxLen r0)
    rw [decide_eq_true (show 1048576 < len0 by omega)] at cb
    clear hsh _hL
    go_enter Tryd.func4, Tryd.ntmps4
    go_wp2_with fail
    refine cb.mono ?_
    rintro e w0 ⟨rfl, rfl⟩
    go_wp2_with fail
    go_ret
    exact ⟨rfl, Below.refl _ _⟩
end Go.Proofs.YtlllhlmmhkdpgaaDoor
