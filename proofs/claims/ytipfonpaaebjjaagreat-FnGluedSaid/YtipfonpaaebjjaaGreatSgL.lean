/-
  THE LAWS' HELPERS on semigroups (a struct of one slice of ints): how one that came in is opened; toSemigroup, szSemigroup, eqSemigroup, markSemigroup, heldSemigroup.
-/
import Derived.Test.YtipfonpaaebjjaaGreatKitA
import Derived.Test.YtipfonpaaebjjaaGreatCh3L
import Derived.ChangeSame
import Derived.WideShapes
namespace Go.Proofs.YtipfonpaaebjjaaGreat
open Go Go.RowKit Go.ChangeShapes Go.WideShapes Go.ChangeAt

set_option maxRecDepth 100000 in
theorem isGens_open {H : Type} {enc : TypeId × Value → H} {W : World} {base : Nat} {v : Value} {x : DataW H × List MemPlace} (t : TypeId) (hv : Value.okWide Tryz.prog W .any base t v)
    (h : ∃ fuel, DataW.trod enc Tryz.prog W 0 (fun _ => true) true fuel t v.cells.toList = some x) {f0 : Field} (ht : Tryz.prog.underlying t = some (.struct #[f0])) (hf : f0.type = 24) (ho : f0.offset = 0) (hc : Tryz.prog.cellsOf t = 1) :
    ∃ p len cap z, v = .agg #[.slice p len cap] ∧ IsRow .i64 W p len cap z := by
  obtain ⟨cs, rfl, hsz⟩ := okWide_struct ht hv
  rw [hc] at hsz
  obtain ⟨c, rfl⟩ : ∃ c, cs = #[c] := by
    obtain ⟨l⟩ := cs
    match l, hsz with
    | [c], _ => exact ⟨c, rfl⟩
  obtain ⟨fuel, h⟩ := h
  obtain ⟨y0, n, -, -, h0⟩ := trod_struct1 ht h
  rw [hf, ho] at h0
  have hc1 : Tryz.prog.cellsOf 24 = 1 := by kernel_rfl
  rw [hc1] at h0
  have h1 : DataW.trod enc Tryz.prog W 0 (fun _ => true) true n 24 [c] = some y0 := h0
  have hu : Tryz.prog.underlying 24 = some (.slice 3) := Tryz.underlying24
  rcases open_ints hu Tryz.underlying3 (by kernel_rfl) h1 with ⟨hcs, _⟩ | ⟨p, l, cp, zs, hcs, _⟩
  · simp only [List.cons.injEq, and_true] at hcs
    subst hcs
    obtain ⟨zs, hz⟩ := isRow_open (a := none) (len := 0) (cap := 0) hu Tryz.underlying3 (by kernel_rfl) h1
    exact ⟨none, 0, 0, zs, rfl, hz⟩
  · simp only [List.cons.injEq, and_true] at hcs
    subst hcs
    obtain ⟨zs', hz⟩ := isRow_open (a := some p) (len := l) (cap := cp) hu Tryz.underlying3 (by kernel_rfl) h1
    exact ⟨some p, l, cp, zs', rfl, hz⟩

theorem Arr.grownRow {w w' : World} {g : Nat} {t : TypeId} {cs : List Value} {row : Option Nat} (h : Arr w g t cs) (hg : w.grownBy w' row) (hd : ∀ j, row = some j → j ≠ g) : Arr w' g t cs :=
  h.grown hg (fun e => hd g e.symm rfl)

theorem held_keep2 {W wr w1 : World} {b1 o1 b2 o2 : Nat} {v1 v2 : Value} (h1 : b1 < W.heap.size) (h2 : b2 < W.heap.size) (h : wr.cell? ⟨b1, o1, none⟩ = some v1 ∧ wr.cell? ⟨b2, o2, none⟩ = some v2 ∧ Below W.heap.size W wr) (hb : Below wr.heap.size wr w1) :
    w1.cell? ⟨b1, o1, none⟩ = some v1 ∧ w1.cell? ⟨b2, o2, none⟩ = some v2 ∧ Below W.heap.size W w1 :=
  ⟨(hb.cell (p := ⟨b1, o1, none⟩) (Nat.lt_of_lt_of_le h1 h.2.2.size)).trans h.1, (hb.cell (p := ⟨b2, o2, none⟩) (Nat.lt_of_lt_of_le h2 h.2.2.size)).trans h.2.1, h.2.2.trans (hb.mono h.2.2.size)⟩

/-- What is left of a bound behind a list of n. -/
def szI (left : Int) (n : Nat) : Int := if left - (n : Int) < 0 then -1 else left - (n : Int)
theorem szI_in {left : Int} {n : Nat} (h : (n : Int) ≤ left) : szI left n = left - (n : Int) := by unfold szI; rw [if_neg (by omega)]
theorem szI_out {left : Int} {n : Nat} (h : left < (n : Int)) : szI left n = -1 := by unfold szI; rw [if_pos (by omega)]






end Go.Proofs.YtipfonpaaebjjaaGreat
