/-
  CONTRACT of the draw DrawSplitByte: a short text and a byte.
-/
import Derived.Test.YtlllhlmmhkdpgaaDoorDraw
namespace Go.Proofs.YtlllhlmmhkdpgaaDoor
open Go Go.RowKit

theorem cell_new2 (w : World) (l : List Value) (t : TypeId) (j : Nat) : (w.alloc (.cells l.toArray t)).cell? ⟨w.heap.size, j, none⟩ = l[j]? := by
  rw [World.cell?_alloc_mark]; simp

def splitTexts : List ByteArray := [⟨#[]⟩, ⟨#[97]⟩, ⟨#[97, 44, 98]⟩, ⟨#[44]⟩, ⟨#[97, 44, 44, 98, 44]⟩, ⟨#[97, 10, 98, 10]⟩]
theorem splitTexts_size : ∀ s ∈ splitTexts, s.size ≤ 20 := by decide
def splitBys : List Int := [44, 10]
theorem splitBys_in : ∀ x ∈ splitBys, 0 ≤ x ∧ x ≤ 255 := by decide

def SplitDrawn (W : World) (e : Ending) (w' : World) : Prop :=
  ∃ (s : ByteArray) (c : UInt8), s.size ≤ 20 ∧ e = .returned (.tuple #[.string s, .int .u8 (c.toNat : Int)]) ∧ Below W.heap.size W w'

set_option maxRecDepth 100000 in
set_option maxHeartbeats 800000 in
theorem DrawSplitByte_any (W : World) (a : Option Addr) (len cap : Nat) (zs : List Int) (hr : IsRow .u8 W a len cap zs) (hl : len ≤ 1048576) :
    Calls Tryd.prog 17 #[.slice a len cap] W (SplitDrawn W) := by
  go_enter Tryd.func17, Tryd.ntmps17
  go_wp2_with fail
  refine (l1New_any W a len cap zs hr hl).mono ?_
  rintro e w1 ⟨N, rfl, hd⟩
  have hlt : N < w1.heap.size := by obtain ⟨i, h, hi, hb⟩ := hd.cur; exact (curAt_cells hb).2.2.2.2.2.2
  go_wp2_with fail
  refine (l1Pick_dr (hd.alloc _) splitTexts w1.heap.size 6 (by decide) (by decide) (by simp) (by omega) ?_).mono ?_
  · intro i u h
    rw [cell_new2]
    exact h
  rintro e w2 ⟨s, hs, rfl, hd2, hg2⟩
  have hlt2 : N < w2.heap.size := by obtain ⟨i, h, hi, hb⟩ := hd2.cur; exact (curAt_cells hb).2.2.2.2.2.2
  clear hd hg2 hlt
  go_wp2_with fail
  refine (l1PickInt_dr (hd2.alloc _) splitBys w2.heap.size 2 (by decide) (by decide) (by simp) (by omega) ?_).mono ?_
  · intro i u h
    rw [cell_new2]
    exact h
  rintro e w3 ⟨y, hy, rfl, hd3, hg3⟩
  obtain ⟨y0, y1⟩ := splitBys_in y hy
  obtain ⟨c, rfl⟩ : ∃ c : UInt8, y = (c.toNat : Int) := ⟨UInt8.ofNat y.toNat, by rw [UInt8.toNat_ofNat']; omega⟩
  clear hy hd2 hg3
  go_wp2_with fail
  go_ret2
  exact ⟨s, c, splitTexts_size s hs, rfl, hd3.bel⟩
end Go.Proofs.YtlllhlmmhkdpgaaDoor
