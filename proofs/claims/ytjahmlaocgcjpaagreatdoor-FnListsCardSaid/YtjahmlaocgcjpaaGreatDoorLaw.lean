/-
  THE CANONICAL FORMS in which genlaw.py's walks take contracts: rows of ints of the call's own, with the interval of block numbers in which they lie.
-/
import Derived.Test.YtjahmlaocgcjpaaGreatDoorHInt
import Derived.Test.YtjahmlaocgcjpaaGreatDoorMarkK
namespace Go.Proofs.YtjahmlaocgcjpaaGreatDoor
open Go Go.RowKit

/-- A row of ints whose block, if it has one, lies from lo on and below hi. -/
structure Row (w : World) (lo hi : Nat) (v : Value) (n : Nat) (xs : List Value) : Prop where
  own : w.ownsRow lo 3 1 v n xs
  blk : ∀ j, v.ownBlock = some j → j < hi
  hi_le : hi ≤ w.heap.size

/-- What a contract is told of a slice that it reads: its elements; nil has no room; within its room. -/
structure SlW (w : World) (a : Option Addr) (c : Nat) (xs : List Value) : Prop where
  sl : SlV w a xs
  nil0 : a = none → c = 0
  le : xs.length ≤ c
  mx : c ≤ maxLen

theorem SlW.below {w w' : World} {a : Option Addr} {c : Nat} {xs : List Value} (h : SlW w a c xs) (hb : Below w.heap.size w w') : SlW w' a c xs := ⟨h.sl.below hb, h.nil0, h.le, h.mx⟩

/-- A call made a list of ints, nil where it is empty too. -/
def SlPost (M : List Int) (w : World) (e : Ending) (w' : World) : Prop :=
  ∃ v, e = .returned v ∧ w'.ownsRow w.heap.size 3 1 v M.length (M.map (Value.int .i64)) ∧ Below w.heap.size w w'

theorem row_kept {w w' : World} {base : Nat} {e : TypeId} {v : Value} {n : Nat} {xs : List Value} (h : w.ownsRow base e 1 v n xs) (hb : ∀ j, v.ownBlock = some j → w'.heap[j]? = w.heap[j]?) : w'.ownsRow base e 1 v n xs := by
  obtain ⟨hx, hv | ⟨g, cap, cur, rfl, h1, h2, h3⟩⟩ := h
  · exact ⟨hx, .inl hv⟩
  · exact ⟨hx, .inr ⟨g, cap, cur, rfl, h1, (hb g rfl).trans h2, h3⟩⟩

theorem ownsBase {w : World} {base base' : Nat} {e : TypeId} {v : Value} {n : Nat} {xs : List Value} (h : w.ownsRow base e 1 v n xs) (hb : base' ≤ base) : w.ownsRow base' e 1 v n xs := by
  obtain ⟨hx, hv | ⟨g, cap, cur, rfl, h1, h2⟩⟩ := h
  · exact ⟨hx, .inl hv⟩
  · exact ⟨hx, .inr ⟨g, cap, cur, rfl, Nat.le_trans hb h1, h2⟩⟩

theorem Row.below {w w' : World} {lo hi : Nat} {v : Value} {n : Nat} {xs : List Value} (h : Row w lo hi v n xs) (hb : Below w.heap.size w w') : Row w' lo hi v n xs :=
  ⟨row_kept h.own fun j hj => hb.block j (h.own.lt j hj).2, h.blk, Nat.le_trans h.hi_le hb.size⟩

theorem Row.grown {w w' : World} {lo hi : Nat} {v : Value} {n : Nat} {xs : List Value} {row : Option Nat} (h : Row w lo hi v n xs) (hg : w.grownBy w' row) (hd : ∀ j, row = some j → j < lo ∨ hi ≤ j) : Row w' lo hi v n xs :=
  ⟨row_kept h.own fun j hj => hg.block j (h.own.lt j hj).2 (fun e => by have h1 := h.blk j hj; have h2 := (h.own.lt j hj).1; rcases hd j e.symm with h3 | h3 <;> omega), h.blk, Nat.le_trans h.hi_le hg.size⟩

theorem Row.remade {w w' : World} {lo hi : Nat} {v : Value} {n : Nat} {xs ys : List Value} (h : Row w lo hi v n xs) (ho : w'.ownsRow lo 3 1 v n ys) {row : Option Nat} (hg : w.grownBy w' row) : Row w' lo hi v n ys :=
  ⟨ho, h.blk, Nat.le_trans h.hi_le hg.size⟩

theorem row_open {w' : World} {lo : Nat} {v : Value} {n : Nat} {xs : List Value} (ho : w'.ownsRow lo 3 1 v n xs) :
    ∃ a c, v = .slice a n c ∧ Row w' lo w'.heap.size (.slice a n c) n xs := by
  have hl := ho.lt
  have ho2 := ho
  obtain ⟨hx, ⟨rfl, rfl⟩ | ⟨g, cap, cur, rfl, h1, h2, h3⟩⟩ := ho
  · exact ⟨none, 0, rfl, ho2, fun j hj => (hl j hj).2, Nat.le_refl _⟩
  · exact ⟨_, _, rfl, ho2, fun j hj => (hl j hj).2, Nat.le_refl _⟩

theorem Row.slv {w : World} {lo hi : Nat} {a : Option Addr} {n c : Nat} {xs : List Value} (h : Row w lo hi (.slice a n c) n xs) : SlV w a xs := by
  obtain ⟨a', c', e, -, -, hs, -⟩ := SlV.of_owns h.own
  cases e
  exact hs

theorem Row.slw {w : World} {lo hi : Nat} {a : Option Addr} {n c : Nat} {xs : List Value} (h : Row w lo hi (.slice a n c) n xs) : SlW w a c xs := by
  refine ⟨h.slv, ?_, ?_, ?_⟩
  · rintro rfl
    rcases h.own.2 with ⟨e, -⟩ | ⟨g, cap, cur, e, -⟩
    · cases e; rfl
    · cases e
  · have h1 := h.own.1
    rcases h.own.2 with ⟨e, h0⟩ | ⟨g, cap, cur, e, -, -, h2, -⟩
    · omega
    · cases e; omega
  · rcases h.own.2 with ⟨e, h0⟩ | ⟨g, cap, cur, e, -, -, -, h2, -⟩
    · cases e; exact Nat.zero_le _
    · cases e; exact h2

theorem Row.len {w : World} {lo hi : Nat} {v : Value} {n : Nat} {xs : List Value} (h : Row w lo hi v n xs) : xs.length = n := by have := h.own.1; omega

theorem row_maxLen' {k : IntKind} {w : World} {a : Option Addr} {len cap : Nat} {zs : List Int} (h : IsRow k w a len cap zs) : len ≤ maxLen := by
  rcases h with ⟨rfl, -, -⟩ | ⟨b, off, -, -, hl, hm, -, -, -⟩
  · exact Nat.zero_le _
  · exact Nat.le_trans hl hm

theorem row_ints {w : World} {a : Option Addr} {len cap : Nat} {zs : List Int} (h : IsRow .i64 w a len cap zs) : ∀ x ∈ zs.take len, -9223372036854775808 ≤ x ∧ x ≤ 9223372036854775807 := by
  intro x hx
  rcases h with ⟨-, -, rfl⟩ | ⟨b, off, -, -, -, -, -, -, hw⟩
  · simp at hx
  · have h1 := hw x (List.mem_of_mem_take hx)
    have e1 : IntKind.i64.min = -9223372036854775808 := rfl
    have e2 : IntKind.i64.max = 9223372036854775807 := rfl
    simpa [Lit.wf, e1, e2] using h1

/-! ### The laws' helpers -/



end Go.Proofs.YtjahmlaocgcjpaaGreatDoor
