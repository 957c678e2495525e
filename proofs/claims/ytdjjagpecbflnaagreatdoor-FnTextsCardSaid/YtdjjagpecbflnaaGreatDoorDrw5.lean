/-
  CONTRACTS of the draws of chapter 3, third part: what the laws call.
-/
import Derived.Test.YtdjjagpecbflnaaGreatDoorDrw4
import Derived.Laws.AppendOwnNone
namespace Go.Proofs.YtdjjagpecbflnaaGreatDoor
open Go Go.RowKit

/-- A semigroup drawn: a list of ints in a struct, somewhere in new memory; with a number; two of them. -/
def DSg (W : World) (e : Ending) (w' : World) : Prop :=
  ∃ (L : List Int) (av : Option Addr) (cv : Nat), L.length ≤ 13 ∧ (∀ x ∈ L, InI64 x) ∧ e = .returned (.agg #[.slice av L.length cv]) ∧ SlW w' av cv (L.map (Value.int .i64)) ∧ Below W.heap.size W w'
def DSgi (W : World) (e : Ending) (w' : World) : Prop :=
  ∃ (L : List Int) (av : Option Addr) (cv : Nat) (n : Int), L.length ≤ 13 ∧ (∀ x ∈ L, InI64 x) ∧ InI64 n ∧ e = .returned (.tuple #[.agg #[.slice av L.length cv], .int .i64 n]) ∧ SlW w' av cv (L.map (Value.int .i64)) ∧ Below W.heap.size W w'
def DSg2 (W : World) (e : Ending) (w' : World) : Prop :=
  ∃ (L M : List Int) (av bv : Option Addr) (cv dv : Nat), L.length ≤ 13 ∧ M.length ≤ 13 ∧ (∀ x ∈ L, InI64 x) ∧ (∀ x ∈ M, InI64 x) ∧ e = .returned (.tuple #[.agg #[.slice av L.length cv], .agg #[.slice bv M.length dv]]) ∧ SlW w' av cv (L.map (Value.int .i64)) ∧ SlW w' bv dv (M.map (Value.int .i64)) ∧ Below W.heap.size W w'

theorem SlW.grownBy {w w' : World} {a : Option Addr} {c k : Nat} {xs : List Value} (h : SlW w a c xs) (hg : w.grownBy w' (some k)) {lo : Nat} (hf : ∀ p, a = some p → lo ≤ p.block) (hk : k < lo) : SlW w' a c xs :=
  h.grownN hg fun p hp => by have := hf p hp; omega



end Go.Proofs.YtdjjagpecbflnaaGreatDoor
