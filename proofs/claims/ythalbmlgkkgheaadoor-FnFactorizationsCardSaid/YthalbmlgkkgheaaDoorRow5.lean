/-
  LISTS OF LISTS OF INTS: the canonical forms that the laws' walks want. (Own work.)
-/
import Derived.Test.YthalbmlgkkgheaaDoorRow2
namespace Go.Proofs.YthalbmlgkkgheaaDoor
open Go Go.RowKit

theorem SsPost.opened {LL : List (List Int)} {w w' : World} {e : Ending} (h : SsPost LL w e w') :
    ∃ a c vs, e = .returned (.slice a LL.length c) ∧ vs.length ≤ LL.length ∧ Rows2 w' w.heap.size w'.heap.size (.slice a LL.length c) vs (LL.map fun L => L.map (Value.int .i64)) ∧ Below w.heap.size w w' := by
  obtain ⟨v, vs, rfl, hr, hb⟩ := h
  obtain ⟨a, c, rfl⟩ := rows2_open hr
  have hn : vs.length = LL.length := by rw [hr.len, List.length_map]
  rw [hn] at hr ⊢
  exact ⟨a, c, vs, rfl, Nat.le_of_eq hn, hr, hb⟩
theorem Rows2.sl2n {w : World} {lo hi : Nat} {a : Option Addr} {n c : Nat} {vs : List Value} {LL : List (List Int)} (h : Rows2 w lo hi (.slice a n c) vs (LL.map fun L => L.map (Value.int .i64))) : Sl2 w a LL := h.sl2
theorem Rows2.num {w : World} {lo hi : Nat} {a : Option Addr} {n c : Nat} {vs : List Value} {xss : List (List Value)} (h : Rows2 w lo hi (.slice a n c) vs xss) : vs.length = n := by
  obtain ⟨a', c', e, -⟩ := SlV.of_owns h.own
  injection e with h1 h2 h3
  exact h2.symm
/-- How many numbers stand in the lists. -/
theorem sum_widths_le {LL : List (List Int)} {q : Nat} (h : ∀ L ∈ LL, L.length ≤ q) : ((LL.map fun L => L.map (Value.int .i64)).map List.length).sum ≤ LL.length * q := by
  induction LL with
  | nil => simp
  | cons L r ih =>
    have h1 := h L (by simp)
    have h2 := ih fun x hx => h x (by simp [hx])
    simp only [List.map_cons, List.sum_cons, List.length_map, List.length_cons]
    rw [Nat.add_mul]
    omega
end Go.Proofs.YthalbmlgkkgheaaDoor
