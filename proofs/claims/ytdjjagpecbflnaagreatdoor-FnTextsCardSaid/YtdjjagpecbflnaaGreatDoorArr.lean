/-
  ARRAY VARIABLES OF MANY CELLS, WHOLE: the block that holds one; loads, stores, zero values, comparison, with no unrolling. No function of the program in this text.
-/
import Derived.Test.YtdjjagpecbflnaaGreatDoorKitA
import Derived.Deep.MidRow
import Derived.Laws.StructEq
import Derived.Deep.RegionHeld3
import Derived.OrdersHeld
namespace Go.Proofs.YtdjjagpecbflnaaGreatDoor
open Go Go.RowKit

/-- Block g is a variable of type t that holds the cells cs. -/
def Arr (w : World) (g : Nat) (t : TypeId) (cs : List Value) : Prop := w.heap[g]? = some (.cells cs.toArray t (0, 0))

theorem Arr.lt {w : World} {g : Nat} {t : TypeId} {cs : List Value} (h : Arr w g t cs) : g < w.heap.size := (Array.getElem?_eq_some_iff.1 h).1
theorem Arr.cell {w : World} {g : Nat} {t : TypeId} {cs : List Value} (h : Arr w g t cs) (j : Nat) : w.cell? ⟨g, j, none⟩ = cs[j]? := by
  rw [cell_of_row w g j _ t (0, 0) h]; simp
theorem Arr.frozen {w : World} {g : Nat} {t : TypeId} {cs : List Value} (h : Arr w g t cs) (j : Nat) : w.frozen? ⟨g, j, none⟩ = false := by
  unfold World.frozen?
  rw [show w.heap[(⟨g, j, none⟩ : Addr).block]? = some (.cells cs.toArray t (0, 0)) from h]
  simp
theorem Arr.range {w : World} {g : Nat} {t : TypeId} {cs : List Value} (h : Arr w g t cs) : w.rangeAt g 0 cs := fun j v hv => by
  rw [Nat.zero_add, h.cell]; exact hv
theorem Arr.there {w : World} {g : Nat} {t : TypeId} {cs : List Value} (h : Arr w g t cs) : w.there g 0 cs.length := fun j hj => by
  rw [Nat.zero_add, h.cell]
  exact ⟨by rw [List.getElem?_eq_getElem hj]; rfl, h.frozen j⟩
theorem Arr.below {w w' : World} {g : Nat} {t : TypeId} {cs : List Value} (h : Arr w g t cs) (hb : Below w.heap.size w w') : Arr w' g t cs := (hb.block g h.lt).trans h
theorem Arr.grown {w w' : World} {g : Nat} {t : TypeId} {cs : List Value} {row : Option Nat} (h : Arr w g t cs) (hg : w.grownBy w' row) (hne : some g ≠ row) : Arr w' g t cs := (hg.block g h.lt hne).trans h
theorem Arr.drew {w : World} {g : Nat} {t : TypeId} {cs : List Value} (h : Arr w g t cs) : Arr w.drew g t cs := h
theorem Arr.drewN {w : World} {g : Nat} {t : TypeId} {cs : List Value} (h : Arr w g t cs) (n : Nat) : Arr (w.drewN n) g t cs := h
theorem Arr.alloc {w : World} {g : Nat} {t : TypeId} {cs : List Value} (h : Arr w g t cs) (o : Obj) : Arr (w.alloc o) g t cs := (by rw [heap_alloc_old w o h.lt]; exact h : (w.alloc o).heap[g]? = _)
theorem Arr.new (w : World) (t : TypeId) (cs : List Value) : Arr (w.alloc (.cells cs.toArray t)) w.heap.size t cs := heap_alloc_new w _
theorem Arr.set {w : World} {g : Nat} {t : TypeId} {cs : List Value} (h : Arr w g t cs) (j : Nat) (u : Value) : Arr (w.setCell ⟨g, j, none⟩ u) g t (cs.set j u) := by
  unfold Arr
  rw [heap_setCell_same w g j cs.toArray t u h]
  simp
theorem grownBy_setCell (w : World) (g j : Nat) (u : Value) : w.grownBy (w.setCell ⟨g, j, none⟩ u) (some g) :=
  ⟨rfl, rfl, rfl, by simp, fun k _ hk => heap_setCell_other w ⟨g, j, none⟩ k u (fun e => hk (by simp [e]))⟩
theorem grownBy_refl (w : World) (row : Option Nat) : w.grownBy w row := ⟨rfl, rfl, rfl, Nat.le_refl _, fun _ _ _ => rfl⟩
theorem grownBy_trans {a b c : World} {row : Option Nat} (h : a.grownBy b row) (k : b.grownBy c row) : a.grownBy c row :=
  ⟨k.os.trans h.os, k.tape.trans h.tape, k.output.trans h.output, Nat.le_trans h.size k.size, fun i hi hne => (k.block i (Nat.lt_of_lt_of_le hi h.size) hne).trans (h.block i hi hne)⟩
theorem grownBy_drew {a b : World} {row : Option Nat} (h : a.grownBy b row) : a.grownBy b.drew row := ⟨h.os, h.tape, h.output, h.size, h.block⟩
theorem grownBy_drewN {a b : World} {row : Option Nat} (h : a.grownBy b row) (n : Nat) : a.grownBy (b.drewN n) row := ⟨h.os, h.tape, h.output, h.size, h.block⟩
theorem below_grownBy {w w' : World} (h : Below w.heap.size w w') (row : Option Nat) : w.grownBy w' row := ⟨h.os, h.tape, h.output, h.size, fun k hk _ => h.block k hk⟩

theorem arr_setCells_aux {g : Nat} {t : TypeId} : ∀ (vs pre : List Value) (w : World) (old : List Value), old.length = vs.length → Arr w g t (pre ++ old) → Arr (w.setCells g pre.length vs) g t (pre ++ vs) ∧ w.grownBy (w.setCells g pre.length vs) (some g)
  | [], pre, w, old, hl, h => by
    obtain rfl : old = [] := List.length_eq_zero_iff.1 hl
    exact ⟨h, grownBy_refl _ _⟩
  | v :: r, pre, w, old, hl, h => by
    obtain ⟨o, os, rfl⟩ : ∃ o os, old = o :: os := by
      cases old with
      | nil => simp at hl
      | cons o os => exact ⟨o, os, rfl⟩
    have h1 := h.set pre.length v
    have e1 : (pre ++ o :: os).set pre.length v = (pre ++ [v]) ++ os := by simp
    rw [e1] at h1
    have ih := arr_setCells_aux r (pre ++ [v]) (w.setCell ⟨g, pre.length, none⟩ v) os (by simpa using hl) h1
    rw [show (pre ++ [v]).length = pre.length + 1 by simp] at ih
    rw [World.setCells]
    exact ⟨by simpa using ih.1, grownBy_trans (grownBy_setCell w g pre.length v) ih.2⟩
theorem Arr.setCells {w : World} {g : Nat} {t : TypeId} {cs : List Value} (h : Arr w g t cs) (vs : List Value) (hl : cs.length = vs.length) : Arr (w.setCells g 0 vs) g t vs ∧ w.grownBy (w.setCells g 0 vs) (some g) := by
  have := arr_setCells_aux vs [] w cs hl (by simpa using h)
  simpa using this

theorem size_setCells (g : Nat) : ∀ (vs : List Value) (o : Nat) (w : World), (w.setCells g o vs).heap.size = w.heap.size
  | [], _, _ => rfl
  | v :: r, o, w => by rw [World.setCells, size_setCells g r (o + 1)]; simp

/-! ### Two arrays of bools compared -/
theorem all_range_eqB : ∀ (xs ys : List Bool), xs.length = ys.length → ((List.range xs.length).all fun i => xs.getD i false == ys.getD i false) = (xs == ys)
  | [], [], _ => rfl
  | x :: xs, y :: ys, h => by
    have ih := all_range_eqB xs ys (by simpa using h)
    rw [List.length_cons, List.range_succ_eq_map, List.all_cons, List.all_map]
    simp only [List.getD_cons_zero, Function.comp_def, List.getD_cons_succ, ih]
    simp [List.cons_beq_cons]
  | [], _ :: _, h => by simp at h
  | _ :: _, [], h => by simp at h

theorem run_equalIn_bools {P : Program} (w : World) (d : Nat) (t e : TypeId) (n : Nat) (ht : P.underlying t = some (.array n e)) (he : P.underlying e = some .bool) (hsz : ∀ w, (sizeOf e).run P w = .ok 1 w)
    (xs ys : List Bool) (hx : xs.length = n) (hy : ys.length = n) :
    (Op.equalIn (d + 2) t (.agg (xs.map Value.bool).toArray) (.agg (ys.map Value.bool).toArray)).run P w = .ok (xs == ys) w := by
  rw [← all_range_eqB xs ys (hx.trans hy.symm), hx, List.range_eq_range', Op.equalIn]
  simp only [Sem.run_bind, run_underlying ht, Result.andThen_ok, hsz, Std.Legacy.Range.forIn_eq_forIn_range', Std.Legacy.Range.size, Nat.sub_zero, Nat.add_sub_cancel, Nat.div_one]
  have hl : ∀ i ∈ List.range' 0 n 1, i < n := fun i hi => by simpa using (List.mem_range'_1.1 hi).2
  generalize List.range' 0 n 1 = l at hl ⊢
  induction l with
  | nil => simp
  | cons i l ih =>
    have hi : i < n := hl i (by simp)
    have px : (part e (xs.map Value.bool).toArray (i * 1)).run P w = .ok (Value.bool (xs.getD i false)) w := by
      simp [part, isAgg, run_underlying he, List.getD, List.getElem?_eq_getElem (show i < xs.length by omega)]
    have py : (part e (ys.map Value.bool).toArray (i * 1)).run P w = .ok (Value.bool (ys.getD i false)) w := by
      simp [part, isAgg, run_underlying he, List.getD, List.getElem?_eq_getElem (show i < ys.length by omega)]
    have pe : (Op.equalIn (d + 1) e (Value.bool (xs.getD i false)) (Value.bool (ys.getD i false))).run P w = .ok (xs.getD i false == ys.getD i false) w := run_equalIn_bool w d e _ _ he
    simp only [List.forIn_cons, Sem.run_bind, px, py, pe, Result.andThen_ok, List.all_cons]
    cases hb : (xs.getD i false == ys.getD i false)
    · simp
    · simp only [Bool.not_true, Bool.false_eq_true, if_false, Sem.run_pure, Result.andThen_ok, Bool.true_and]
      exact ih fun j hj => hl j (by simp [hj])

theorem run_neq_bools {P : Program} (w : World) (t e : TypeId) (n : Nat) (ht : P.underlying t = some (.array n e)) (he : P.underlying e = some .bool) (hsz : ∀ w, (sizeOf e).run P w = .ok 1 w)
    (xs ys : List Bool) (hx : xs.length = n) (hy : ys.length = n) :
    (binOp .neq t (.agg (xs.map Value.bool).toArray) (.agg (ys.map Value.bool).toArray)).run P w = .ok (.bool (!(xs == ys))) w := by
  rw [run_neq_struct, run_equalIn_bools w 9998 t e n ht he hsz xs ys hx hy]
  rfl

/-! ### The operations -/
section
variable {P : Program} {ops : Array Oper} {rest : List Oper} {o : Oper} {a : Act} {w : World} {Q : Exit → Act → World → Prop}

/-- A new variable, zero. -/
theorem wpList_alloc_arr (t : TypeId) (cs : List Value) (hz : (P.info? t).map (·.zero) = some (some (.agg cs.toArray))) (hg : o.guard = none) (ho : o.op = .alloc t)
    (h : wpList P ops Q rest (a.put o.dst (.pointer (some ⟨w.heap.size, 0, none⟩))) (w.alloc (.cells cs.toArray t))) : wpList P ops Q (o :: rest) a w := by
  refine wpList_plain hg fun K hK => ?_
  cases hi : P.info? t with
  | none => simp [hi] at hz
  | some it =>
    have hzz : it.zero = some (.agg cs.toArray) := by simpa [hi] using hz
    unfold Oper.wp execOp
    simp only [ho, Sem.run_bind, Instr.alloc, zeroValue, typeInfo, run_program, hi, hzz, newVar, newRow, run_newObj_alloc, Sem.run_pure, Result.andThen_ok, Value.cells]
    exact hK _ _ h
/-- An array put together of a few parts; the rest is zero. -/
theorem wpList_build_arr (t : TypeId) (parts : Array (Nat × Operand)) (cs : List Value) (hg : o.guard = none) (ho : o.op = .build t parts) (hf : P.built t (parts.map fun (i, x) => (i, a.eval x)).toList = some cs.toArray)
    (h : wpList P ops Q rest (a.put o.dst (.agg cs.toArray)) w) : wpList P ops Q (o :: rest) a w := by
  refine wpList_plain hg fun K hK => ?_
  unfold Oper.wp execOp
  simp only [ho, Sem.run_bind, run_build w t _ _ hf, Result.andThen_ok]
  exact hK _ _ h
/-- A value in a variable of its own. -/
theorem wpList_box_arr (t : TypeId) (x : Operand) (cs : List Value) (hg : o.guard = none) (ho : o.op = .box t x) (hx : a.eval x = .agg cs.toArray)
    (h : wpList P ops Q rest (a.put o.dst (.pointer (some ⟨w.heap.size, 0, none⟩))) (w.alloc (.cells cs.toArray t))) : wpList P ops Q (o :: rest) a w := by
  refine wpList_plain hg fun K hK => ?_
  unfold Oper.wp execOp
  simp only [ho, hx, Sem.run_bind, Instr.box, newVar, newRow, run_newObj_alloc, Sem.run_pure, Result.andThen_ok, Value.cells]
  exact hK _ _ h
/-- Two arrays of bools compared. -/
theorem wpList_neq_bools (t t' e : TypeId) (n : Nat) (x y : Operand) (xs ys : List Bool) (hg : o.guard = none) (ho : o.op = .binOp .neq t x y t') (hx : a.eval x = .agg (xs.map Value.bool).toArray) (hy : a.eval y = .agg (ys.map Value.bool).toArray)
    (ht : P.underlying t = some (.array n e)) (he : P.underlying e = some .bool) (hsz : ∀ w, (sizeOf e).run P w = .ok 1 w) (hm : P.eqGuardType P.depth t = false) (hxl : xs.length = n) (hyl : ys.length = n)
    (h : wpList P ops Q rest (a.put o.dst (.bool (!(xs == ys)))) w) : wpList P ops Q (o :: rest) a w := by
  refine wpList_plain hg fun K hK => ?_
  unfold Oper.wp execOp
  simp only [ho, hx, hy, Sem.run_bind, run_eqGuard_agg w .neq t x y _ _ hm, Result.andThen_ok, run_neq_bools w t e n ht he hsz xs ys hxl hyl]
  exact hK _ _ h
/-- The whole variable, read. -/
theorem wpList_load_arr (t : TypeId) (x : Operand) (g : Nat) (cs : List Value) (d : TypeDesc) (hg : o.guard = none) (ho : o.op = .load t x) (hx : a.eval x = .pointer (some ⟨g, 0, none⟩)) (hc : Arr w g t cs)
    (hu : P.underlying t = some d) (hd : d.isRow = true) (hi : (P.info? t).map (·.size) = some cs.length)
    (h : wpList P ops Q rest (a.put o.dst (.agg cs.toArray)) w) : wpList P ops Q (o :: rest) a w :=
  wpList_load_mid hg t x ho g 0 hx cs d hc.range hu hd hi h
/-- The whole variable, written: whatever world is so is good enough. -/
theorem wpList_store_arr (t : TypeId) (x y : Operand) (g : Nat) (old cs : List Value) (hg : o.guard = none) (ho : o.op = .store t x y) (hx : a.eval x = .pointer (some ⟨g, 0, none⟩)) (hy : a.eval y = .agg cs.toArray) (hc : Arr w g t old) (hl : old.length = cs.length)
    (hi : (P.info? t).map (·.size) = some cs.length) (h1 : ∀ v ∈ cs, v.oneCell' = true)
    (h : ∀ w', Arr w' g t cs → w.grownBy w' (some g) → w'.heap.size = w.heap.size → wpList P ops Q rest (a.put o.dst undef) w') : wpList P ops Q (o :: rest) a w := by
  refine wpList_store_mid hg t x y ho g 0 cs.toArray hx hy (by have := hc.there; rw [hl] at this; simpa using this) (by simpa using hi) (all_oneCell_toArray h1) ?_
  obtain ⟨k1, k2⟩ := hc.setCells cs hl
  rw [List.toList_toArray]
  exact h _ k1 k2 (size_setCells g cs 0 w)
end

/-! ### What a function returns -/
theorem results_arr {P : Program} {fn : Func} {p : Tmp} {ty : TypeId} (h : fn.results = #[.cell p ty]) (tmps : Array Value) (w : World) (g : Nat) (cs : List Value) (d : TypeDesc) (hp : tmps.getD p undef = .pointer (some ⟨g, 0, none⟩)) (hc : Arr w g ty cs)
    (hu : P.underlying ty = some d) (hd : d.isRow = true) (hi : (P.info? ty).map (·.size) = some cs.length) : (results fn tmps).run P w = .ok (.agg cs.toArray) w := by
  have hl := run_loadVar_mid w g 0 ty cs d hc.range hu hd hi
  have e : tmps[p]?.getD undef = .pointer (some ⟨g, 0, none⟩) := by simpa using hp
  simp only [results, h]
  simp [e, asAddr, hl]
theorem results_arr_tmp {P : Program} {fn : Func} {p u : Tmp} {ty : TypeId} (h : fn.results = #[.cell p ty, .tmp u]) (tmps : Array Value) (w : World) (g : Nat) (cs : List Value) (d : TypeDesc) (hp : tmps.getD p undef = .pointer (some ⟨g, 0, none⟩)) (hc : Arr w g ty cs)
    (hu : P.underlying ty = some d) (hd : d.isRow = true) (hi : (P.info? ty).map (·.size) = some cs.length) : (results fn tmps).run P w = .ok (.tuple #[.agg cs.toArray, tmps.getD u undef]) w := by
  have hl := run_loadVar_mid w g 0 ty cs d hc.range hu hd hi
  have e : tmps[p]?.getD undef = .pointer (some ⟨g, 0, none⟩) := by simpa using hp
  simp only [results, h]
  simp [Result.andThen, e, asAddr, hl]

/-! ### The steps of a region that draws its order, one by one (written out by region.py) -/
theorem held_take {P : Program} {ops : Array Oper} {Q : Exit → Act → World → Prop} {md : Region.Mode} {S : World → Prop} (i : Nat) (oi : Oper) (v : Value) {fuel : Nat} {listed : Array Bool} {a : Act} {w : World} (hi : ops[i]? = some oi)
    (hs : Region.noSelect ops = true) (hf : Region.free md ops listed i = true) (hr : (Region.ready md ops listed).contains i = true)
    (hQ : ∀ c a w, Q (.panic c) (a.put oi.dst v) w → Q (.panic c) a w) (hw : Region.wanted oi (yielded ops a.tmps) = true) (hS : S w) (hv : ∀ w, S w → (execOp a.eval oi).run P w = .ok (.value v) w)
    (h : wpAnyH P md ops Q S fuel (listed.setIfInBounds i true) (a.put oi.dst v) w) : wpAnyH P md ops Q S (fuel + 1) listed a w :=
  wpAnyH_take hi hs hf hr hQ (.inl ⟨hw, hv⟩) hS h
theorem held_skip {P : Program} {ops : Array Oper} {Q : Exit → Act → World → Prop} {md : Region.Mode} {S : World → Prop} (i : Nat) (oi : Oper) {fuel : Nat} {listed : Array Bool} {a : Act} {w : World} (hi : ops[i]? = some oi)
    (hs : Region.noSelect ops = true) (hf : Region.free md ops listed i = true) (hr : (Region.ready md ops listed).contains i = true)
    (hQ : ∀ c a w, Q (.panic c) (a.put oi.dst undef) w → Q (.panic c) a w) (hw : Region.wanted oi (yielded ops a.tmps) = false) (hS : S w)
    (h : wpAnyH P md ops Q S fuel (listed.setIfInBounds i true) (a.put oi.dst undef) w) : wpAnyH P md ops Q S (fuel + 1) listed a w :=
  wpAnyH_take hi hs hf hr hQ (.inr ⟨hw, rfl⟩) hS h
end Go.Proofs.YtdjjagpecbflnaaGreatDoor
