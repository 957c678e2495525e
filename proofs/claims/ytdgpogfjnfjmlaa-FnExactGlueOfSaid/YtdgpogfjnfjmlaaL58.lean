/-
  CONTRACTS of the reference's chapter 18: MeetOf, AddOf. (Own work: mkL58.py.)
-/
import Derived.Test.YtdgpogfjnfjmlaaSgId
import Derived.Test.YtdgpogfjnfjmlaaL26
import Derived.Test.YtdgpogfjnfjmlaaCh11M
namespace Go.Proofs.Ytdgpogfjnfjmlaa
open Go Go.RowKit

section
variable {P : Program} {o : Oper} {a : Act} {w : World} {K : Act → World → Prop} {Q : Exit → Act → World → Prop}
theorem wp_alloc_arr (t : TypeId) (cs : List Value) (hz : (P.info? t).map (·.zero) = some (some (.agg cs.toArray))) (ho : o.op = .alloc t)
    (h : K (a.put o.dst (.pointer (some ⟨w.heap.size, 0, none⟩))) (w.alloc (.cells cs.toArray t))) : o.wp P a w K Q := by
  cases hi : P.info? t with
  | none => simp [hi] at hz
  | some it =>
    have hzz : it.zero = some (.agg cs.toArray) := by simpa [hi] using hz
    unfold Oper.wp execOp
    simp only [ho, Sem.run_bind, Instr.alloc, zeroValue, typeInfo, run_program, hi, hzz, newVar, newRow, run_newObj_alloc, Sem.run_pure, Result.andThen_ok, Value.cells]
    exact h
theorem wp_store_arr (t : TypeId) (x y : Operand) (g : Nat) (old cs : List Value) (ho : o.op = .store t x y) (hx : a.eval x = .pointer (some ⟨g, 0, none⟩)) (hy : a.eval y = .agg cs.toArray) (hc : Arr w g t old) (hl : old.length = cs.length)
    (hi : (P.info? t).map (·.size) = some cs.length) (h1 : ∀ v ∈ cs, v.oneCell' = true)
    (h : ∀ w', Arr w' g t cs → w.grownBy w' (some g) → K (a.put o.dst undef) w') : o.wp P a w K Q := by
  refine wp_store_mid t x y ho g 0 cs.toArray hx hy (by have := hc.there; rw [hl] at this; simpa using this) (by simpa using hi) (all_oneCell_toArray h1) ?_
  obtain ⟨k1, k2⟩ := hc.setCells cs hl
  rw [List.toList_toArray]
  exact h _ k1 k2
/-- A row of one's own behind another one. -/
theorem wp_append_rows (w : World) {a : Act} {K : Act → World → Prop} (s x : Operand) (t : TypeId) (ho : o.op = .call { callee := .builtin .append, args := #[s, x], argTypes := #[t, t] }) (i : TypeInfo) (z : Value) (ht : P.underlying t = some (.slice 3)) (hi : P.info? 3 = some i) (hz : i.zero = some z)
    (hsize : i.size = 1) (hby : i.bytes = 8) (hzs : z.cells.size = 1) (base base2 : Nat)
    (v : Value) (n : Nat) (xs : List Value) (hs : a.eval s = v) (hown : w.ownsRow base 3 1 v n xs)
    (v2 : Value) (m : Nat) (ys : List Value) (hx : a.eval x = v2) (hown2 : w.ownsRow base2 3 1 v2 m ys) (h1 : ∀ u ∈ ys, u.oneCell' = true)
    (h63 : n + m ≤ maxLen) (hbytes : (n + m) * 8 ≤ 140737488355328) (hbase : base ≤ w.heap.size)
    (h : ∀ v' w', w'.ownsRow base 3 1 v' (n + m) (xs ++ ys) → w.grownBy w' v.ownBlock → K (a.put o.dst v') w') : o.wp P a w K Q := by
  have hl := hown2.1
  rcases own_cases hown2 with ⟨rfl, rfl⟩ | ⟨g, c, rfl, hc⟩
  · have hy : ys = [] := List.eq_nil_of_length_eq_zero (by omega)
    subst hy
    have hrun := run_append_owned_none (P := P) (w := w) base t o.type 3 i 1 ht hi v n xs hown
    unfold Oper.wp execOp
    simp only [ho, resolve, invoke, builtin, Sem.run_bind, Sem.run_pure, Result.andThen_ok, List.map_toArray, List.map_cons, List.map_nil, hs, hx, hrun]
    exact h v w (by simpa using hown) (grownBy_refl w _)
  · exact wp_append_own_at w s x t ho base 3 i z 1 8 ht hi hz hsize hby hzs (by decide) v n xs hs hown ⟨g, 0, none⟩ m c ys hx (by omega) hc h1 h63 hbytes hbase fun v' w' p q _ _ => h v' w' p q
end
theorem own_slv {w : World} {lo n c : Nat} {a : Option Addr} {xs : List Value} (h : w.ownsRow lo 3 1 (.slice a n c) n xs) : SlV w a xs := by
  obtain ⟨a', c', e, rX⟩ := row_open h
  cases e; exact rX.slv
theorem ne_apart {b : Option Nat} {t : Nat} (h : b = none ∨ b ≠ some t) : some t ≠ b := by
  rcases h with h | h
  · rw [h]; simp
  · exact Ne.symm h
theorem newSgAt {V w : World} (h : Below V.heap.size V w) : Arr (w.alloc (.cells [Value.slice none 0 0].toArray 26)) w.heap.size 26 [Value.slice none 0 0] ∧ V.heap.size ≤ w.heap.size := ⟨Arr.new _ _ _, h.size⟩
theorem le_alloc {n : Nat} {w : World} (h : n ≤ w.heap.size) (o : Obj) : n ≤ (w.alloc o).heap.size := by simp; omega
theorem newRowAt {V w : World} (h : Below V.heap.size V w) : (w.alloc (.cells #[] 3)).ownsRow w.heap.size 3 1 (.slice (some ⟨w.heap.size, 0, none⟩) 0 0) 0 [] ∧ w.heap.size ≤ (w.alloc (.cells #[] 3)).heap.size ∧ V.heap.size ≤ w.heap.size := ⟨World.ownsRow_lit w #[] 0 (Nat.le_refl _) (by simp) rfl, by simp, h.size⟩
theorem apart_next {b b' : Option Nat} {t n : Nat} (h : b = none ∨ b ≠ some t) (hat : b' = b ∨ b' = some n) (ht : t < n) : b' = none ∨ b' ≠ some t := by
  rcases hat with rfl | rfl
  · exact h
  · exact .inr fun e => by cases e; omega
theorem addr_addO (b o j : Nat) : (⟨b, o, none⟩ : Addr).add j = ⟨b, o + j, none⟩ := by
  unfold Addr.add
  split
  · next h => subst h; rfl
  · rfl
theorem row_named {V w w' : World} {v : Value} {n : Nat} {xs : List Value} (hV : V.heap.size ≤ w.heap.size) (ho : w'.ownsRow w.heap.size 3 1 v n xs) : ∃ l h a c, v = .slice a n c ∧ V.heap.size ≤ l ∧ l = w.heap.size ∧ h = w'.heap.size ∧ Row w' l h (.slice a n c) n xs := by
  obtain ⟨a, c, rfl, rX⟩ := row_open ho
  exact ⟨_, _, a, c, rfl, hV, rfl, rfl, rX⟩
theorem newSgNamed {V w : World} (h : Below V.heap.size V w) : ∃ t, t = w.heap.size ∧ Arr (w.alloc (.cells [Value.slice none 0 0].toArray 26)) t 26 [Value.slice none 0 0] ∧ V.heap.size ≤ t := ⟨_, rfl, Arr.new _ _ _, h.size⟩
theorem alloc_szO (w : World) (o : Obj) : (w.alloc o).heap.size = w.heap.size + 1 := by simp
theorem ints_one (L : List Int) : ∀ u ∈ L.map (Value.int .i64), u.oneCell' = true := fun u hu => by obtain ⟨x, -, rfl⟩ := List.mem_map.1 hu; rfl
end Go.Proofs.Ytdgpogfjnfjmlaa
