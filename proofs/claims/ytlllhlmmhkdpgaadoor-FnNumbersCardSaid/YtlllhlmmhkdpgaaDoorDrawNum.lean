/-
  CONTRACTS of the draws of chapter 1: l1Whole, DrawFormatInt, DrawParseNumber.
-/
import Derived.Test.YtlllhlmmhkdpgaaDoorDraw
import Derived.Test.YtlllhlmmhkdpgaaDoorFmt
namespace Go.Proofs.YtlllhlmmhkdpgaaDoor
open Go Go.RowKit

def wholeL : List Int := [0, 1, -1, 9, 10, 999999, 1000000, 999999999999, 1000000000000, -999999999999, 9223372036854775807, -9223372036854775808]
def InI64 (x : Int) : Prop := -9223372036854775808 ≤ x ∧ x ≤ 9223372036854775807
theorem wholeL_in : ∀ x ∈ wholeL, InI64 x := by unfold InI64; decide

/-- What a draw gives: its result, and the cursor still there. -/
def Drawn (P : Value → Prop) (W w : World) (N : Nat) (a : Option Addr) (len cap : Nat) (zs : List Int) (e : Ending) (w' : World) : Prop :=
  ∃ v, P v ∧ e = .returned v ∧ Dr W w' N a len cap zs ∧ (∀ k, k < w.heap.size → k ≠ N → w'.heap[k]? = w.heap[k]?)
theorem drawn_of {W w w' : World} {N : Nat} {a : Option Addr} {len cap : Nat} {zs : List Int} {P : Value → Prop} {v : Value} (hp : P v) (hd : Dr W w' N a len cap zs) (hg : w.grownBy w' (some N)) : Drawn P W w N a len cap zs (.returned v) w' :=
  ⟨v, hp, rfl, hd, fun k hk hN => hg.block k hk (by intro e; cases e; exact hN rfl)⟩
def IsI64 (v : Value) : Prop := ∃ x, InI64 x ∧ v = .int .i64 x
def IsText (m : Nat) (v : Value) : Prop := ∃ s : ByteArray, s.size ≤ m ∧ v = .string s

theorem cell_new (w : World) (l : List Value) (t : TypeId) (j : Nat) : (w.alloc (.cells l.toArray t)).cell? ⟨w.heap.size, j, none⟩ = l[j]? := by
  rw [World.cell?_alloc_mark]; simp

set_option maxRecDepth 100000 in
set_option maxHeartbeats 800000 in
theorem l1Whole_dr {W w : World} {N : Nat} {a : Option Addr} {len cap : Nat} {zs : List Int} (hd : Dr W w N a len cap zs) :
    Calls Tryd.prog 25 #[.pointer (some ⟨N, 0, none⟩)] w (Drawn IsI64 W w N a len cap zs) := by
  go_enter Tryd.func25, Tryd.ntmps25
  go_wp2_with fail
  refine (l1Below_dr hd 3 (by decide)).mono ?_
  rintro e w1 ⟨x, ⟨hx0, hx⟩, rfl, hd1, hg1⟩
  have hx3 : x < 3 := by omega
  clear hx
  by_cases h0 : x = 0
  · subst h0
    go_wp2_with fail
    have hlt : N < w1.heap.size := by obtain ⟨i, h, hi, hb⟩ := hd1.cur; exact (curAt_cells hb).2.2.2.2.2.2
    refine (l1PickInt_dr (hd1.alloc _) wholeL w1.heap.size 12 (by decide) (by decide) (by simp) (by omega) ?_).mono ?_
    · intro i u h
      rw [cell_new]
      exact h
    rintro e w2 ⟨y, hy, rfl, hd2, hg2⟩
    go_wp2_with fail
    go_ret
    refine ⟨_, ⟨y, wholeL_in y hy, rfl⟩, rfl, hd2, fun k hk hN => ?_⟩
    rw [hg2.block k (by have := hg1.size; simp; omega) (by intro e; cases e; exact hN rfl), Below.heap_alloc w1 _ k (by have := hg1.size; omega)]
    exact hg1.block k hk (by intro e; cases e; exact hN rfl)
  · have hxb : (x == 0) = false := by rw [beq_eq_false_iff_ne]; exact h0
    by_cases h1 : x = 1
    · subst h1
      go_wp2_with fail
      refine (l1Below_dr hd1 1000000 (by decide)).mono ?_
      rintro e w2 ⟨y, ⟨hy0, hy⟩, rfl, hd2, hg2⟩
      have hy3 : y < 1000000 := by omega
      clear hy
      go_wp2_with fail
      go_ret
      exact drawn_of ⟨_, ⟨by omega, by omega⟩, rfl⟩ hd2 (grown_trans hg1 hg2)
    · have hxb1 : (x == 1) = false := by rw [beq_eq_false_iff_ne]; exact h1
      clear h0 h1
      go_wp2_with fail
      refine (l1Below_dr hd1 20 (by decide)).mono ?_
      rintro e w2 ⟨y, ⟨hy0, hy⟩, rfl, hd2, hg2⟩
      have hy3 : y < 20 := by omega
      clear hy
      go_wp2_with fail
      go_ret
      exact drawn_of ⟨_, ⟨by omega, by omega⟩, rfl⟩ hd2 (grown_trans hg1 hg2)

/-- DrawFormatInt: an int. -/
theorem DrawFormatInt_any (W : World) (a : Option Addr) (len cap : Nat) (zs : List Int) (hr : IsRow .u8 W a len cap zs) (hl : len ≤ 1048576) :
    Calls Tryd.prog 10 #[.slice a len cap] W fun e w' => (∃ v, IsI64 v ∧ e = .returned v) ∧ Below W.heap.size W w' := by
  go_enter Tryd.func10, Tryd.ntmps10
  go_wp2_with fail
  refine (l1New_any W a len cap zs hr hl).mono ?_
  rintro e w1 ⟨N, rfl, hd⟩
  go_wp2_with fail
  refine (l1Whole_dr hd).mono ?_
  rintro e w2 ⟨v, ⟨x, hx, rfl⟩, rfl, hd2, -⟩
  go_wp2_with fail
  go_ret
  exact ⟨⟨_, ⟨x, hx, rfl⟩, rfl⟩, hd2.bel⟩

def numL : List ByteArray := [⟨#[]⟩, ⟨#[48, 48]⟩, ⟨#[48, 49]⟩, ⟨#[45, 49]⟩, ⟨#[43, 49]⟩, ⟨#[120]⟩, ⟨#[57, 57, 57, 57, 57, 57]⟩, ⟨#[49, 48, 48, 48, 48, 48, 48]⟩, ⟨#[45, 48]⟩, ⟨#[45]⟩, ⟨#[32, 49]⟩, ⟨#[49, 32]⟩]
theorem numL_size : ∀ s ∈ numL, s.size ≤ 20 := by decide

theorem decDigits_len : ∀ (k m : Nat), m < 10 ^ (k + 1) → (Lib.decDigits m).length ≤ k + 1 := by
  intro k
  induction k with
  | zero => intro m h; rw [Lib.decDigits, dif_pos (by simpa using h)]; simp
  | succ k ih =>
    intro m h
    rw [Lib.decDigits]; by_cases h10 : m < 10
    · rw [dif_pos h10]; simp
    · rw [dif_neg h10, List.length_append]
      have := ih (m / 10) (by rw [Nat.pow_succ] at h; omega)
      simp; omega
theorem itoa_size {x : Int} (h : InI64 x) : (⟨(Lib.itoa x).toArray⟩ : ByteArray).size ≤ 20 := by
  obtain ⟨h0, h1⟩ := h
  have e : (⟨(Lib.itoa x).toArray⟩ : ByteArray).size = (Lib.itoa x).length := by simp [ByteArray.size]
  rw [e]
  have hl := decDigits_len 18 x.natAbs (by omega)
  unfold Lib.itoa
  split
  · simp; omega
  · have : x.toNat = x.natAbs := by omega
    rw [this]; omega

set_option maxRecDepth 100000 in
set_option maxHeartbeats 800000 in
/-- DrawParseNumber: a short text. -/
theorem DrawParseNumber_any (W : World) (a : Option Addr) (len cap : Nat) (zs : List Int) (hr : IsRow .u8 W a len cap zs) (hl : len ≤ 1048576) :
    Calls Tryd.prog 14 #[.slice a len cap] W fun e w' => (∃ v, IsText 20 v ∧ e = .returned v) ∧ Below W.heap.size W w' := by
  go_enter Tryd.func14, Tryd.ntmps14
  go_wp2_with fail
  refine (l1New_any W a len cap zs hr hl).mono ?_
  rintro e w1 ⟨N, rfl, hd⟩
  go_wp2_with fail
  refine (l1Once_dr hd 2 (by decide)).mono ?_
  rintro e w2 ⟨b, rfl, hd2, hg2⟩
  cases b
  · go_wp2_with fail
    have hlt : N < w2.heap.size := by obtain ⟨i, h, hi, hb⟩ := hd2.cur; exact (curAt_cells hb).2.2.2.2.2.2
    refine (l1Pick_dr (hd2.alloc _) numL w2.heap.size 12 (by decide) (by decide) (by simp) (by omega) ?_).mono ?_
    · intro i u h
      rw [cell_new]
      exact h
    rintro e w3 ⟨s, hs, rfl, hd3, hg3⟩
    go_wp2_with fail
    go_ret
    exact ⟨⟨_, ⟨s, numL_size s hs, rfl⟩, rfl⟩, hd3.bel⟩
  · go_wp2_with fail
    refine (l1Whole_dr hd2).mono ?_
    rintro e w3 ⟨v, ⟨x, hx, rfl⟩, rfl, hd3, -⟩
    go_wp2_with fail
    refine (spec_FormatInt x hx.1 hx.2 _).mono ?_
    rintro e w4 ⟨rfl, hb4⟩
    go_wp2_with fail
    go_ret
    exact ⟨⟨_, ⟨_, itoa_size hx, rfl⟩, rfl⟩, hd3.bel.trans (hb4.mono hd3.bel.size)⟩
end Go.Proofs.YtlllhlmmhkdpgaaDoor
