/-
  CONTRACTS of the draws of chapter 6. (Own work.)
-/
import Derived.Test.YtlinlmmcgifloaaDoorDrS
import Derived.Test.YtlinlmmcgifloaaDoorL20
namespace Go.Proofs.YtlinlmmcgifloaaDoor
open Go Go.RowKit

theorem slv_cell {w : World} {b off : Nat} {xs : List Value} (h : SlV w (some ⟨b, off, none⟩) xs) {i : Nat} {u : Value} (hi : xs[i]? = some u) : w.cell? ⟨b, off + i, none⟩ = some u := by
  obtain ⟨b', off', e, -, hc⟩ := h.open (by intro e; subst e; simp at hi)
  injection e with e
  injection e with e1 e2
  subst e1 e2
  exact hc i u hi
theorem elem_in64 (G : List Int) (k : Int) : InI64 (elemN G k) := by
  have hb : -1 ≤ elemN G k ∧ elemN G k ≤ 400 := by
    have hc := condNat_le G
    unfold elemN
    split
    · next h =>
      rw [Bool.and_eq_true, decide_eq_true_eq] at h
      unfold nthB
      split
      · next hl =>
        have := (mem_upB.1 (List.getElem_mem hl)).1
        omega
      · omega
    · omega
  unfold InI64
  omega

/-- A draw on its way: the cursor, the result's box, the box of the struct, the row that it holds. -/
structure CaseAt (W W1 w : World) (N B : Nat) (a : Option Addr) (len cap : Nat) (zs : List Int) (L : List Int) (av : Option Addr) (cv : Nat) : Prop where
  dr : Dr W1 w N a len cap zs
  res : Arr w W.heap.size 26 [.slice none 0 0]
  box : Arr w B 26 [.slice av L.length cv]
  sl : SlW w av cv (L.map (Value.int .i64))
  far : ∀ p, av = some p → W.heap.size < p.block ∧ p.block ≠ N
  bel : Below W.heap.size W w
  lo : W.heap.size < W1.heap.size
  bx : W1.heap.size ≤ B
  bn : B ≠ N
/-- A semigroup with a number, its row in new memory. -/
def DCase (W : World) (e : Ending) (w' : World) : Prop :=
  ∃ (L : List Int) (av : Option Addr) (cv : Nat) (n : Int), L.length ≤ 13 ∧ (∀ x ∈ L, InI64 x) ∧ InI64 n ∧ e = .returned (.tuple #[.agg #[.slice av L.length cv], .int .i64 n]) ∧ SlW w' av cv (L.map (Value.int .i64)) ∧ (∀ p, av = some p → W.heap.size ≤ p.block) ∧ Below W.heap.size W w'
section
variable {W W1 w w' : World} {N B : Nat} {a : Option Addr} {len cap : Nat} {zs : List Int} {L : List Int} {av : Option Addr} {cv : Nat}
theorem CaseAt.grown (h : CaseAt W W1 w N B a len cap zs L av cv) (hd : Dr W1 w' N a len cap zs) (hg : w.grownBy w' (some N)) : CaseAt W W1 w' N B a len cap zs L av cv :=
  ⟨hd, h.res.grownN hg (by have := h.dr.base; have := h.lo; omega), h.box.grownN hg h.bn, h.sl.grownN hg (fun p hp => (h.far p hp).2), h.far, h.bel.grown hg h.bel.size (fun k hk => by cases hk; have := h.dr.base; have := h.lo; omega), h.lo, h.bx, h.bn⟩
theorem CaseAt.below (h : CaseAt W W1 w N B a len cap zs L av cv) (hb : Below w.heap.size w w') : CaseAt W W1 w' N B a len cap zs L av cv :=
  ⟨h.dr.belowW hb, h.res.below hb, h.box.below hb, h.sl.below hb, h.far, h.bel.trans (hb.mono h.bel.size), h.lo, h.bx, h.bn⟩
theorem CaseAt.drew (h : CaseAt W W1 w N B a len cap zs L av cv) : CaseAt W W1 w.drew N B a len cap zs L av cv :=
  ⟨h.dr.drewN 1, h.res.drew, h.box.drew, ⟨h.sl.sl, h.sl.nil0, h.sl.le, h.sl.mx⟩, h.far, h.bel.drew, h.lo, h.bx, h.bn⟩
theorem CaseAt.put (h : CaseAt W W1 w N B a len cap zs L av cv) {M : List Int} {bv : Option Addr} {dv : Nat} (hs : SlW w bv dv (M.map (Value.int .i64))) (hf : ∀ p, bv = some p → W.heap.size < p.block ∧ p.block ≠ N ∧ p.block ≠ B) :
    CaseAt W W1 (w.setCell ⟨B, 0, none⟩ (.slice bv M.length dv)) N B a len cap zs M bv dv :=
  ⟨h.dr.grownR (grownBy_setCell w B 0 _) (fun k hk => by cases hk; exact ⟨h.bx, h.bn⟩), h.res.grownN (grownBy_setCell w B 0 _) (by have := h.lo; have := h.bx; omega), h.box.set 0 (.slice bv M.length dv), hs.grownN (grownBy_setCell w B 0 _) (fun p hp => (hf p hp).2.2), fun p hp => ⟨(hf p hp).1, (hf p hp).2.1⟩, h.bel.grown (grownBy_setCell w B 0 _) h.bel.size (fun k hk => by cases hk; have := h.lo; have := h.bx; omega), h.lo, h.bx, h.bn⟩
theorem CaseAt.fin (h : CaseAt W W1 w N B a len cap zs L av cv) (hl : L.length ≤ 13) (hI : ∀ x ∈ L, InI64 x) {y : Int} (hy : InI64 y) :
    DCase W (.returned (.tuple #[.agg #[.slice av L.length cv], .int .i64 y])) (w.setCell ⟨W.heap.size, 0, none⟩ (.slice av L.length cv)) :=
  ⟨L, av, cv, y, hl, hI, hy, rfl, h.sl.grownN (grownBy_setCell w W.heap.size 0 _) (fun p hp => by have := (h.far p hp).1; omega), fun p hp => Nat.le_of_lt (h.far p hp).1, h.bel.setCell (Nat.le_refl _) _⟩
end
def pick6 : List Int := [0, -1, 61, 60, 7]
theorem pick6_in : ∀ x ∈ pick6, InI64 x := by unfold InI64; decide

end Go.Proofs.YtlinlmmcgifloaaDoor
