/-
  CONTRACTS of the draws of chapter 5. (Own work.)
-/
import Derived.Test.YtdjjagpecbflnaaGreatDoorDrw5
import Derived.Test.YtdjjagpecbflnaaGreatDoorL17
namespace Go.Proofs.YtdjjagpecbflnaaGreatDoor
open Go Go.RowKit

set_option maxRecDepth 100000 in
set_option maxHeartbeats 1600000 in
theorem DrawSemigroupText_any (W : World) (a : Option Addr) (len cap : Nat) (zs : List Int) (hr : IsRow .u8 W a len cap zs) (hl : len ≤ 1048576) :
    Calls Tryz.prog 6 #[.slice a len cap] W (DSg W) := by
  have hb0 := box_below W (.cells #[.slice none 0 0] 26)
  have hA0 := Arr.new W 26 [.slice none 0 0]
  have cn := l1New_any (W.alloc (.cells #[.slice none 0 0] 26)) a len cap zs (hr.below hb0) hl
  have hsz : W.heap.size < (W.alloc (.cells #[.slice none 0 0] 26)).heap.size := hA0.lt
  clear hr
  go_enter Tryz.func6, Tryz.ntmps6
  go_wp2_with fail
  refine cn.mono ?_
  rintro e w1 ⟨N, rfl, hd⟩
  have hNb := hd.base
  have hA1 := hA0.below hd.bel
  have hb1 := hb0.trans (hd.bel.mono (Nat.le_of_lt hsz))
  have hz1 := hd.bel.size
  clear cn hA0
  go_wp2_with fail
  refine (l3Bent_dr hd).mono ?_
  rintro e w2 ⟨L, av, cv, hl13, hI, rfl, hs, hf, hd2, hg2⟩
  have HI := Lib.hid hI
  have hA2 := hA1.grownN hg2 (by omega)
  have hc2 : w2.cell? ⟨W.heap.size, 0, none⟩ = some (.slice none 0 0) := hA2.cell 0
  have hf2 := hA2.frozen 0
  have hb2 := hb1.grown hg2 hb1.size (fun k hk => by cases hk; omega)
  have hcf := World.cell?_setCell_same w2 ⟨W.heap.size, 0, none⟩ (.slice av L.length cv) hc2
  have HF : Hid (DSg W (.returned (.agg #[.slice av L.length cv])) (w2.setCell ⟨W.heap.size, 0, none⟩ (.slice av L.length cv))) := Lib.hid ⟨L, av, cv, hl13, HI.out, rfl, hs.grownBy (grownBy_setCell w2 W.heap.size 0 _) hf (by omega), hb2.setCell (Nat.le_refl _) _⟩
  clear hI hs hd hd2 hg2 hA1 hA2 hb0 hb1 hb2 hf
  go_wp2_with fail
  exact bodyPost_ret (v := .agg #[.slice av L.length cv]) (by simp [results, Tryz.results6, go_sem, hcf]) rfl HF.out


def turnG : List ByteArray := [⟨#[60]⟩, ⟨#[62]⟩, ⟨#[44]⟩, ⟨#[51]⟩, ⟨#[49]⟩, ⟨#[32]⟩]
theorem turnG_size : ∀ s ∈ turnG, s.size ≤ 20 := by decide

set_option maxRecDepth 100000 in
set_option maxHeartbeats 800000 in
theorem DrawParseSemigroup_any (W : World) (a : Option Addr) (len cap : Nat) (zs : List Int) (hr : IsRow .u8 W a len cap zs) (hl : len ≤ 1048576) :
    Calls Tryz.prog 9 #[.slice a len cap] W (Ds 4096 W) := by
  go_enter Tryz.func9, Tryz.ntmps9
  go_wp2_with fail
  refine (l1New_any W a len cap zs hr hl).mono ?_
  rintro e w1 ⟨N, rfl, hd⟩
  go_wp2_with fail
  refine (l3Draw_dr hd).mono ?_
  rintro e w2 ⟨L, v, hL, rfl, hown, hd2, hg2⟩
  obtain ⟨a2, c2, rfl, rX⟩ := row_open hown
  have hl12 := (isSgB_iff.1 hL).len
  have ct := spec_SemigroupText L a2 c2 w2 rX.slv (by omega)
  have hsz := semText_size L
  clear hown rX hL
  generalize semText L = s at *
  go_wp2_with fail
  refine ct.mono ?_
  rintro e w3 ⟨rfl, hb3⟩
  have hd3 : Dr W w3 N a len cap zs := hd2.grownR (r := none) ⟨hb3.os, hb3.tape, hb3.output, hb3.size, fun k hk _ => hb3.block k hk⟩ (fun k h => by cases h)
  have hlt3 := hd3.lt
  clear ct hd hd2 hg2 hb3
  go_wp2_with fail
  refine (l1Turned_dr (hd3.alloc _) s (by omega) turnG w3.heap.size 6 (by decide) (by decide) (by simp) (by omega) ?_ turnG_size).mono ?_
  · intro i u h
    rw [cell_new]
    exact h
  rintro e w4 ⟨t, ht, rfl, hd4, hg4⟩
  clear hd3 hg4
  go_wp2_with fail
  go_ret
  exact ⟨t, by omega, rfl, hd4.bel⟩

end Go.Proofs.YtdjjagpecbflnaaGreatDoor
