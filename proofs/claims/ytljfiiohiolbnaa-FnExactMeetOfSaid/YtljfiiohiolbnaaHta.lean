/-
  A LOAD OF A WHOLE ARRAY IN A REGION THAT DRAWS ITS ORDER. No function of the program. (Own work.)
-/
import Derived.Test.YtljfiiohiolbnaaCh3L
namespace Go.Proofs.Ytljfiiohiolbnaa
open Go Go.RowKit

/-- A load of a whole array in a region that draws its order. -/
theorem held_take_arr {P : Program} {ops : Array Oper} {Q : Exit → Act → World → Prop} {md : Region.Mode} {S : World → Prop} (i : Nat) (oi : Oper) (t : TypeId) (x : Operand) (g : Nat) (cs : List Value) (d : TypeDesc) {fuel : Nat} {listed : Array Bool} {a : Act} {w : World}
    (hu : P.underlying t = some d) (hd : d.isRow = true) (hz : (P.info? t).map (·.size) = some cs.length) (hA : ∀ w, S w → Arr w g t cs) (hi : ops[i]? = some oi)
    (hs : Region.noSelect ops = true) (hf : Region.free md ops listed i = true) (hr : (Region.ready md ops listed).contains i = true)
    (hQ : ∀ c a w, Q (.panic c) (a.put oi.dst (.agg cs.toArray)) w → Q (.panic c) a w) (hw : Region.wanted oi (yielded ops a.tmps) = true) (ho : oi.op = .load t x) (hx : a.eval x = .pointer (some ⟨g, 0, none⟩)) (hS : S w)
    (h : wpAnyH P md ops Q S fuel (listed.setIfInBounds i true) (a.put oi.dst (.agg cs.toArray)) w) : wpAnyH P md ops Q S (fuel + 1) listed a w :=
  wpAnyH_take hi hs hf hr hQ (yieldsIf_load_mid hw t x ho g 0 hx cs d (fun w h => (hA w h).range) hu hd hz) hS h
theorem below_eq {w w' : World} (h : w' = w) : Below w.heap.size w w' := by rw [h]; exact Below.refl _ _
theorem keep9 {W wr w1 : World} {b1 : Nat} {v1 : Value} (h1 : b1 < W.heap.size)
    (h : wr.cell? ⟨b1, 0, none⟩ = some v1 ∧ Below W.heap.size W wr) (hb : Below wr.heap.size wr w1) : w1.cell? ⟨b1, 0, none⟩ = some v1 ∧ Below W.heap.size W w1 :=
  ⟨(hb.cell (p := ⟨b1, 0, none⟩) (Nat.lt_of_lt_of_le h1 h.2.size)).trans h.1, h.2.trans (hb.mono h.2.size)⟩
end Go.Proofs.Ytljfiiohiolbnaa
