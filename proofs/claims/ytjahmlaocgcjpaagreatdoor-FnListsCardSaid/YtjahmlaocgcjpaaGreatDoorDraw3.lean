/-
  CONTRACTS of the draws l1Turned and DrawParseList: a short text.
-/
import Derived.Test.YtjahmlaocgcjpaaGreatDoorDraw2
import Derived.Test.YtjahmlaocgcjpaaGreatDoorListP
import Derived.Deep.RegionWith
namespace Go.Proofs.YtjahmlaocgcjpaaGreatDoor
open Go Go.RowKit

set_option maxRecDepth 100000 in
set_option maxHeartbeats 1600000 in
theorem l1Turned_dr {W w : World} {N : Nat} {a : Option Addr} {len cap : Nat} {zs : List Int} (hd : Dr W w N a len cap zs) (s : ByteArray) (hs : s.size ≤ 4096) (L : List ByteArray) (b cp : Nat) (hL : 0 < L.length) (hL2 : L.length ≤ 1048576) (hbs : b < w.heap.size) (hbN : b ≠ N)
    (hc : ∀ (i : Nat) (u : Value), (L.map Value.string)[i]? = some u → w.cell? ⟨b, i, none⟩ = some u) (hm : ∀ x ∈ L, x.size ≤ 20) :
    Calls Tryz.prog 41 #[.pointer (some ⟨N, 0, none⟩), .string s, .slice (some ⟨b, 0, none⟩) L.length cp] w fun e w' => ∃ t : ByteArray, t.size ≤ s.size + 20 ∧ e = .returned (.string t) ∧ Dr W w' N a len cap zs ∧ w.grownBy w' (some N) := by
  have HC := Lib.hid hc
  have HM := Lib.hid hm
  clear hc hm
  go_enter Tryz.func41, Tryz.ntmps41
  go_wp2_with fail
  refine (l1Below_dr hd _ (by omega)).mono ?_
  rintro e w1 ⟨x, ⟨hx0, hx⟩, rfl, hd1, hg1⟩
  obtain ⟨k, rfl⟩ := Int.eq_ofNat_of_zero_le hx0
  have hk : k ≤ s.size := by omega
  clear hx
  go_wp2_with fail
  refine (l1Below_dr hd1 6 (by decide)).mono ?_
  rintro e w2 ⟨y, ⟨hy0, hy⟩, rfl, hd2, hg2⟩
  have hgw := grown_trans hg1 hg2
  have hsz := hgw.size
  have hcell : Hid (∀ (i : Nat) (u : Value), (L.map Value.string)[i]? = some u → w2.cell? ⟨b, i, none⟩ = some u) := Lib.hid fun i u h => by rw [grown_cell hgw hbs hbN]; exact HC.out i u h
  clear hy hd1 hg1 hg2
  by_cases h0 : y = 0
  · subst h0
    have hdd : Dr W w2.drew N a len cap zs := hd2.drewN 1
    have cp := l1Pick_dr hdd L b cp hL hL2 (show b < w2.heap.size by omega) hbN hcell.out
    have hgd : w.grownBy w2.drew (some N) := grown_drewN hgw 1
    have hk1 : (k : Int) ≤ (s.size : Int) := by omega
    clear hcell hd2 hgw hdd
    go_wp2_with fail
    go_region_with (go_at_call 60; refine cp.mono ?_; rintro e w3 ⟨t, ht, rfl, hd3, hg3⟩; have ht20 := HM.out t ht; have hxs : (s.extract 0 k).size ≤ 4096 := (by simp; omega); have hxt : (s.extract 0 k ++ t).size ≤ 4116 := (by simp; omega))
    all_goals (try go_wp2_with fail)
    all_goals go_ret
    all_goals (refine ⟨_, ?_, rfl, hd3, grown_trans hgd hg3⟩; have ht20 := HM.out t ht; simp; omega)
  · have hyb : (y == 0) = false := by rw [beq_eq_false_iff_ne]; exact h0
    by_cases h1 : y = 1
    · subst h1
      go_wp2_with fail
      go_ret
      refine ⟨_, ?_, rfl, hd2, hgw⟩
      simp
      omega
    · have hyb1 : (y == 1) = false := by rw [beq_eq_false_iff_ne]; exact h1
      clear h0 h1
      go_wp2_with fail
      go_ret
      exact ⟨s, by omega, rfl, hd2, hgw⟩

def turnL : List ByteArray := [⟨#[44]⟩, ⟨#[49]⟩, ⟨#[45]⟩, ⟨#[110, 111, 110, 101]⟩, ⟨#[48]⟩]
theorem turnL_size : ∀ s ∈ turnL, s.size ≤ 20 := by decide

set_option maxRecDepth 100000 in
set_option maxHeartbeats 800000 in
theorem DrawParseList_any (W : World) (a : Option Addr) (len cap : Nat) (zs : List Int) (hr : IsRow .u8 W a len cap zs) (hl : len ≤ 1048576) :
    Calls Tryz.prog 13 #[.slice a len cap] W (Ds 4096 W) := by
  go_enter Tryz.func13, Tryz.ntmps13
  go_wp2_with fail
  refine (l1New_any W a len cap zs hr hl).mono ?_
  rintro e w1 ⟨N, rfl, hd⟩
  go_wp2_with fail
  refine (l2Draw_dr hd).mono ?_
  rintro e w2 ⟨L, v, hL, hT, rfl, hown, hd2, hg2⟩
  have hI : ∀ x ∈ L, -9223372036854775808 ≤ x ∧ x ≤ 9223372036854775807 := fun x hx => (hT x hx).in64
  obtain ⟨a2, c2, rfl, -, -, hs2, -⟩ := SlV.of_owns hown
  have ct := spec_ListText L a2 c2 w2 hs2 (by omega) hI (by have := sizes_numerals L hI; omega)
  have hsz := listText_size L hI
  clear hown hT hs2 hI
  generalize listText L = s at *
  go_wp2_with fail
  refine ct.mono ?_
  rintro e w3 ⟨rfl, hb3⟩
  have hd3 : Dr W w3 N a len cap zs := hd2.grownR (r := none) ⟨hb3.os, hb3.tape, hb3.output, hb3.size, fun k hk _ => hb3.block k hk⟩ (fun k h => by cases h)
  have hlt3 := hd3.lt
  clear ct hd hd2 hg2 hb3
  go_wp2_with fail
  refine (l1Turned_dr (hd3.alloc _) s (by omega) turnL w3.heap.size 5 (by decide) (by decide) (by simp) (by omega) ?_ turnL_size).mono ?_
  · intro i u h
    rw [cell_new]
    exact h
  rintro e w4 ⟨t, ht, rfl, hd4, hg4⟩
  clear hd3 hg4
  go_wp2_with fail
  go_ret
  exact ⟨t, by omega, rfl, hd4.bel⟩
end Go.Proofs.YtjahmlaocgcjpaaGreatDoor
