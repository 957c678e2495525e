/-
  THE CANONICAL FORMS in which genlaw.py's walks take contracts: rows of ints of the call's own, with the interval of block numbers in which they lie.
-/
import Derived.Test.YtjahmlaocgcjpaaDoorHInt
import Derived.Test.YtjahmlaocgcjpaaDoorMarkK
namespace Go.Proofs.YtjahmlaocgcjpaaDoor
open Go Go.RowKit

/-- A row of ints whose block, if it has one, lies from lo on and below hi. -/
structure Row (w : World) (lo hi : Nat) (v : Value) (n : Nat) (xs : List Value) : Prop where
  own : w.ownsRow lo 3 1 v n xs
  blk : ∀ j, v.ownBlock = some j → j < hi
  hi_le : hi ≤ w.heap.size

/-- What a contract is told of a slice that it reads: its elements; nil has no room; within its room. -/
structure SlW (w : World) (a : Option Addr) (c : Nat) (xs : List Value) : Prop where
  sl : SlV w a xs
  nil0 : a = none → c = 0
  le : xs.length ≤ c
  mx : c ≤ maxLen

theorem SlW.below {w w' : World} {a : Option Addr} {c : Nat} {xs : List Value} (h : SlW w a c xs) (hb : Below w.heap.size w w') : SlW w' a c xs := ⟨h.sl.below hb, h.nil0, h.le, h.mx⟩

/-- A call made a list of ints, nil where it is empty too. -/
def SlPost (M : List Int) (w : World) (e : Ending) (w' : World) : Prop :=
  ∃ v, e = .returned v ∧ w'.ownsRow w.heap.size 3 1 v M.length (M.map (Value.int .i64)) ∧ Below w.heap.size w w'

theorem row_kept {w w' : World} {base : Nat} {e : TypeId} {v : Value} {n : Nat} {xs : List Value} (h : w.ownsRow base e 1 v n xs) (hb : ∀ j, v.ownBlock = some j → w'.heap[j]? = w.heap[j]?) : w'.ownsRow base e 1 v n xs := by
  obtain ⟨hx, hv | ⟨g, cap, cur, rfl, h1, h2, h3⟩⟩ := h
  · exact ⟨hx, .inl hv⟩
  · exact ⟨hx, .inr ⟨g, cap, cur, rfl, h1, (hb g rfl).trans h2, h3⟩⟩

theorem ownsBase {w : World} {base base' : Nat} {e : TypeId} {v : Value} {n : Nat} {xs : List Value} (h : w.ownsRow base e 1 v n xs) (hb : base' ≤ base) : w.ownsRow base' e 1 v n xs := by
  obtain ⟨hx, hv | ⟨g, cap, cur, rfl, h1, h2⟩⟩ := h
  · exact ⟨hx, .inl hv⟩
  · exact ⟨hx, .inr ⟨g, cap, cur, rfl, Nat.le_trans hb h1, h2⟩⟩

theorem Row.below {w w' : World} {lo hi : Nat} {v : Value} {n : Nat} {xs : List Value} (h : Row w lo hi v n xs) (hb : Below w.heap.size w w') : Row w' lo hi v n xs :=
  ⟨row_kept h.own fun j hj => hb.block j (h.own.lt j hj).2, h.blk, Nat.le_trans h.hi_le hb.size⟩

theorem Row.grown {w w' : World} {lo hi : Nat} {v : Value} {n : Nat} {xs : List Value} {row : Option Nat} (h : Row w lo hi v n xs) (hg : w.grownBy w' row) (hd : ∀ j, row = some j → j < lo ∨ hi ≤ j) : Row w' lo hi v n xs :=
  ⟨row_kept h.own fun j hj => hg.block j (h.own.lt j hj).2 (fun e => by have h1 := h.blk j hj; have h2 := (h.own.lt j hj).1; rcases hd j e.symm with h3 | h3 <;> omega), h.blk, Nat.le_trans h.hi_le hg.size⟩

theorem Row.remade {w w' : World} {lo hi : Nat} {v : Value} {n : Nat} {xs ys : List Value} (h : Row w lo hi v n xs) (ho : w'.ownsRow lo 3 1 v n ys) {row : Option Nat} (hg : w.grownBy w' row) : Row w' lo hi v n ys :=
  ⟨ho, h.blk, Nat.le_trans h.hi_le hg.size⟩

theorem row_open {w' : World} {lo : Nat} {v : Value} {n : Nat} {xs : List Value} (ho : w'.ownsRow lo 3 1 v n xs) :
    ∃ a c, v = .slice a n c ∧ Row w' lo w'.heap.size (.slice a n c) n xs := by
  have hl := ho.lt
  have ho2 := ho
  obtain ⟨hx, ⟨rfl, rfl⟩ | ⟨g, cap, cur, rfl, h1, h2, h3⟩⟩ := ho
  · exact ⟨none, 0, rfl, ho2, fun j hj => (hl j hj).2, Nat.le_refl _⟩
  · exact ⟨_, _, rfl, ho2, fun j hj => (hl j hj).2, Nat.le_refl _⟩

theorem Row.slv {w : World} {lo hi : Nat} {a : Option Addr} {n c : Nat} {xs : List Value} (h : Row w lo hi (.slice a n c) n xs) : SlV w a xs := by
  obtain ⟨a', c', e, -, -, hs, -⟩ := SlV.of_owns h.own
  cases e
  exact hs

theorem Row.slw {w : World} {lo hi : Nat} {a : Option Addr} {n c : Nat} {xs : List Value} (h : Row w lo hi (.slice a n c) n xs) : SlW w a c xs := by
  refine ⟨h.slv, ?_, ?_, ?_⟩
  · rintro rfl
    rcases h.own.2 with ⟨e, -⟩ | ⟨g, cap, cur, e, -⟩
    · cases e; rfl
    · cases e
  · have h1 := h.own.1
    rcases h.own.2 with ⟨e, h0⟩ | ⟨g, cap, cur, e, -, -, h2, -⟩
    · omega
    · cases e; omega
  · rcases h.own.2 with ⟨e, h0⟩ | ⟨g, cap, cur, e, -, -, -, h2, -⟩
    · cases e; exact Nat.zero_le _
    · cases e; exact h2

theorem Row.len {w : World} {lo hi : Nat} {v : Value} {n : Nat} {xs : List Value} (h : Row w lo hi v n xs) : xs.length = n := by have := h.own.1; omega

theorem row_maxLen' {k : IntKind} {w : World} {a : Option Addr} {len cap : Nat} {zs : List Int} (h : IsRow k w a len cap zs) : len ≤ maxLen := by
  rcases h with ⟨rfl, -, -⟩ | ⟨b, off, -, -, hl, hm, -, -, -⟩
  · exact Nat.zero_le _
  · exact Nat.le_trans hl hm

theorem row_ints {w : World} {a : Option Addr} {len cap : Nat} {zs : List Int} (h : IsRow .i64 w a len cap zs) : ∀ x ∈ zs.take len, -9223372036854775808 ≤ x ∧ x ≤ 9223372036854775807 := by
  intro x hx
  rcases h with ⟨-, -, rfl⟩ | ⟨b, off, -, -, -, -, -, -, hw⟩
  · simp at hx
  · have h1 := hw x (List.mem_of_mem_take hx)
    have e1 : IntKind.i64.min = -9223372036854775808 := rfl
    have e2 : IntKind.i64.max = 9223372036854775807 := rfl
    simpa [Lit.wf, e1, e2] using h1

/-! ### The laws' helpers -/
theorem ct_IntS (L : List Int) (a : Option Addr) (cap : Nat) (w : World) (hr : SlV w a (L.map (Value.int .i64))) (hb : L.length ≤ 1048576) :
    Calls Tryd.prog 6 #[.slice a L.length cap] w fun e w' => ∃ v, e = .returned v ∧ w'.ownsRow w.heap.size 3 1 v L.length (L.map (Value.int .i64)) ∧ Below w.heap.size w w' :=
  (toIntS_any L a cap w hr hb).mono fun _ _ ⟨he, ho, h⟩ => ⟨_, he, ho, h⟩

theorem ce_IntS (L M : List Int) (a b : Option Addr) (ca cb : Nat) (w : World) (hr : SlV w a (L.map (Value.int .i64))) (hs : SlV w b (M.map (Value.int .i64))) (hb : L.length ≤ 4611686018427387904) (hb2 : M.length ≤ 4611686018427387904) :
    Calls Tryd.prog 8 #[.slice a L.length ca, .slice b M.length cb] w fun e w' => e = .returned (.bool (decide (L = M))) ∧ Below w.heap.size w w' :=
  eqIntS_any L M a b ca cb w hr hs hb hb2

theorem cm_IntS (k0 : Int) (B n : Nat) (v : Value) (xs : List Value) (w : World) (ho : w.ownsRow B 3 1 v n xs) (hn : n ≤ 4611686018427387904) (h0 : 0 ≤ k0) (h1 : k0 ≤ 1152921504606846976) :
    Calls Tryd.prog 11 #[v, .int .i64 k0] w fun e w' => e = .returned (.int .i64 (k0 + (n : Int))) ∧ w'.ownsRow B 3 1 v n (marksK k0 n) ∧ w.grownBy w' v.ownBlock :=
  markIntS_any k0 B n v xs w ho hn h0 h1

theorem ch_IntS (k0 : Int) (n cap : Nat) (a : Option Addr) (w : World) (hr : SlV w a (marksK k0 n)) (hn : n ≤ 4611686018427387904) (h0 : 0 ≤ k0) (h1 : k0 ≤ 1152921504606846976) :
    Calls Tryd.prog 12 #[.slice a n cap, .int .i64 k0] w fun e w' => e = .returned (.int .i64 (k0 + (n : Int))) ∧ Below w.heap.size w w' :=
  (heldIntS_any k0 n cap a w hr hn h0 h1).mono fun _ _ ⟨he, hw⟩ => ⟨he, by rw [hw]; exact Below.refl _ _⟩
end Go.Proofs.YtjahmlaocgcjpaaDoor
