/-
  CONTRACTS of the draws of chapter 1: l1Whole, DrawFormatInt, DrawParseNumber.
-/
import Derived.Test.YtjahmlaocgcjpaaGreatDoorDraw
import Derived.Test.YtjahmlaocgcjpaaGreatDoorFmt
namespace Go.Proofs.YtjahmlaocgcjpaaGreatDoor
open Go Go.RowKit

def wholeL : List Int := [0, 1, -1, 9, 10, 999999, 1000000, 999999999999, 1000000000000, -999999999999, 9223372036854775807, -9223372036854775808]
def InI64 (x : Int) : Prop := -9223372036854775808 ≤ x ∧ x ≤ 9223372036854775807
theorem wholeL_in : ∀ x ∈ wholeL, InI64 x := by unfold InI64; decide

/-- What a draw gives: its result, and the cursor still there. -/
def Drawn (P : Value → Prop) (W w : World) (N : Nat) (a : Option Addr) (len cap : Nat) (zs : List Int) (e : Ending) (w' : World) : Prop :=
  ∃ v, P v ∧ e = .returned v ∧ Dr W w' N a len cap zs ∧ (∀ k, k < w.heap.size → k ≠ N → w'.heap[k]? = w.heap[k]?)
theorem drawn_of {W w w' : World} {N : Nat} {a : Option Addr} {len cap : Nat} {zs : List Int} {P : Value → Prop} {v : Value} (hp : P v) (hd : Dr W w' N a len cap zs) (hg : w.grownBy w' (some N)) : Drawn P W w N a len cap zs (.returned v) w' :=
  ⟨v, hp, rfl, hd, fun k hk hN => hg.block k hk (by intro e; cases e; exact hN rfl)⟩
def IsI64 (v : Value) : Prop := ∃ x, InI64 x ∧ v = .int .i64 x
def IsText (m : Nat) (v : Value) : Prop := ∃ s : ByteArray, s.size ≤ m ∧ v = .string s

theorem cell_new (w : World) (l : List Value) (t : TypeId) (j : Nat) : (w.alloc (.cells l.toArray t)).cell? ⟨w.heap.size, j, none⟩ = l[j]? := by
  rw [World.cell?_alloc_mark]; simp



def numL : List ByteArray := [⟨#[]⟩, ⟨#[48, 48]⟩, ⟨#[48, 49]⟩, ⟨#[45, 49]⟩, ⟨#[43, 49]⟩, ⟨#[120]⟩, ⟨#[57, 57, 57, 57, 57, 57]⟩, ⟨#[49, 48, 48, 48, 48, 48, 48]⟩, ⟨#[45, 48]⟩, ⟨#[45]⟩, ⟨#[32, 49]⟩, ⟨#[49, 32]⟩]
theorem numL_size : ∀ s ∈ numL, s.size ≤ 20 := by decide

theorem decDigits_len : ∀ (k m : Nat), m < 10 ^ (k + 1) → (Lib.decDigits m).length ≤ k + 1 := by
  intro k
  induction k with
  | zero => intro m h; rw [Lib.decDigits, dif_pos (by simpa using h)]; simp
  | succ k ih =>
    intro m h
    rw [Lib.decDigits]; by_cases h10 : m < 10
    · rw [dif_pos h10]; simp
    · rw [dif_neg h10, List.length_append]
      have := ih (m / 10) (by rw [Nat.pow_succ] at h; omega)
      simp; omega
theorem itoa_size {x : Int} (h : InI64 x) : (⟨(Lib.itoa x).toArray⟩ : ByteArray).size ≤ 20 := by
  obtain ⟨h0, h1⟩ := h
  have e : (⟨(Lib.itoa x).toArray⟩ : ByteArray).size = (Lib.itoa x).length := by simp [ByteArray.size]
  rw [e]
  have hl := decDigits_len 18 x.natAbs (by omega)
  unfold Lib.itoa
  split
  · simp; omega
  · have : x.toNat = x.natAbs := by omega
    rw [this]; omega

end Go.Proofs.YtjahmlaocgcjpaaGreatDoor
