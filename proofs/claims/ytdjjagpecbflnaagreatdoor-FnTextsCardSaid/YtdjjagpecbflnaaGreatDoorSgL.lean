/-
  THE LAWS' HELPERS on semigroups (a struct of one slice of ints): how one that came in is opened; toSemigroup, szSemigroup, eqSemigroup, markSemigroup, heldSemigroup.
-/
import Derived.Test.YtdjjagpecbflnaaGreatDoorKitA
import Derived.Test.YtdjjagpecbflnaaGreatDoorArr
import Derived.ChangeSame
import Derived.WideShapes
namespace Go.Proofs.YtdjjagpecbflnaaGreatDoor
open Go Go.RowKit Go.ChangeShapes Go.WideShapes Go.ChangeAt

set_option maxRecDepth 100000 in
theorem isGens_open {H : Type} {enc : TypeId × Value → H} {W : World} {base : Nat} {v : Value} {x : DataW H × List MemPlace} (t : TypeId) (hv : Value.okWide Tryz.prog W .any base t v)
    (h : ∃ fuel, DataW.trod enc Tryz.prog W 0 (fun _ => true) true fuel t v.cells.toList = some x) {f0 : Field} (ht : Tryz.prog.underlying t = some (.struct #[f0])) (hf : f0.type = 24) (ho : f0.offset = 0) (hc : Tryz.prog.cellsOf t = 1) :
    ∃ p len cap z, v = .agg #[.slice p len cap] ∧ IsRow .i64 W p len cap z := by
  obtain ⟨cs, rfl, hsz⟩ := okWide_struct ht hv
  rw [hc] at hsz
  obtain ⟨c, rfl⟩ : ∃ c, cs = #[c] := by
    obtain ⟨l⟩ := cs
    match l, hsz with
    | [c], _ => exact ⟨c, rfl⟩
  obtain ⟨fuel, h⟩ := h
  obtain ⟨y0, n, -, -, h0⟩ := trod_struct1 ht h
  rw [hf, ho] at h0
  have hc1 : Tryz.prog.cellsOf 24 = 1 := by kernel_rfl
  rw [hc1] at h0
  have h1 : DataW.trod enc Tryz.prog W 0 (fun _ => true) true n 24 [c] = some y0 := h0
  have hu : Tryz.prog.underlying 24 = some (.slice 3) := Tryz.underlying24
  rcases open_ints hu Tryz.underlying3 (by kernel_rfl) h1 with ⟨hcs, _⟩ | ⟨p, l, cp, zs, hcs, _⟩
  · simp only [List.cons.injEq, and_true] at hcs
    subst hcs
    obtain ⟨zs, hz⟩ := isRow_open (a := none) (len := 0) (cap := 0) hu Tryz.underlying3 (by kernel_rfl) h1
    exact ⟨none, 0, 0, zs, rfl, hz⟩
  · simp only [List.cons.injEq, and_true] at hcs
    subst hcs
    obtain ⟨zs', hz⟩ := isRow_open (a := some p) (len := l) (cap := cp) hu Tryz.underlying3 (by kernel_rfl) h1
    exact ⟨some p, l, cp, zs', rfl, hz⟩

theorem Arr.grownRow {w w' : World} {g : Nat} {t : TypeId} {cs : List Value} {row : Option Nat} (h : Arr w g t cs) (hg : w.grownBy w' row) (hd : ∀ j, row = some j → j ≠ g) : Arr w' g t cs :=
  h.grown hg (fun e => hd g e.symm rfl)

theorem held_keep2 {W wr w1 : World} {b1 o1 b2 o2 : Nat} {v1 v2 : Value} (h1 : b1 < W.heap.size) (h2 : b2 < W.heap.size) (h : wr.cell? ⟨b1, o1, none⟩ = some v1 ∧ wr.cell? ⟨b2, o2, none⟩ = some v2 ∧ Below W.heap.size W wr) (hb : Below wr.heap.size wr w1) :
    w1.cell? ⟨b1, o1, none⟩ = some v1 ∧ w1.cell? ⟨b2, o2, none⟩ = some v2 ∧ Below W.heap.size W w1 :=
  ⟨(hb.cell (p := ⟨b1, o1, none⟩) (Nat.lt_of_lt_of_le h1 h.2.2.size)).trans h.1, (hb.cell (p := ⟨b2, o2, none⟩) (Nat.lt_of_lt_of_le h2 h.2.2.size)).trans h.2.1, h.2.2.trans (hb.mono h.2.2.size)⟩

/-- What is left of a bound behind a list of n. -/
def szI (left : Int) (n : Nat) : Int := if left - (n : Int) < 0 then -1 else left - (n : Int)
theorem szI_in {left : Int} {n : Nat} (h : (n : Int) ≤ left) : szI left n = left - (n : Int) := by unfold szI; rw [if_neg (by omega)]
theorem szI_out {left : Int} {n : Nat} (h : left < (n : Int)) : szI left n = -1 := by unfold szI; rw [if_pos (by omega)]




set_option maxRecDepth 100000 in
set_option maxHeartbeats 400000 in
theorem ce_Semigroup (L M : List Int) (a b : Option Addr) (ca cb : Nat) (w : World) (hr : SlV w a (L.map (Value.int .i64))) (hs : SlV w b (M.map (Value.int .i64))) (hb : L.length ≤ 4611686018427387904) (hb2 : M.length ≤ 4611686018427387904) :
    Calls Tryz.prog 16 #[.agg #[.slice a L.length ca], .agg #[.slice b M.length cb]] w fun e w' => e = .returned (.bool (decide (L = M))) ∧ Below w.heap.size w w' := by
  have hb0 : Below w.heap.size w ((w.alloc (.cells #[.slice a L.length ca] 26)).alloc (.cells #[.slice b M.length cb] 26)) := ((Below.refl _ _).alloc (Nat.le_refl _) _).alloc (by simp) _
  have c1 := ce_IntS L M a b ca cb _ (hr.below hb0) (hs.below hb0) hb hb2
  clear hr hs
  cases hq : decide (L = M)
  · rw [hq] at c1
    clear hq
    go_enter Tryz.func16, Tryz.ntmps16
    go_wp2_with fail
    refine c1.mono ?_
    rintro e w1 ⟨rfl, hb1⟩
    have hbz := hb0.trans (hb1.mono hb0.size)
    go_wp2_with fail
    go_ret
    exact ⟨rfl, hbz⟩
  · rw [hq] at c1
    clear hq
    go_enter Tryz.func16, Tryz.ntmps16
    go_wp2_with fail
    refine c1.mono ?_
    rintro e w1 ⟨rfl, hb1⟩
    have hbz := hb0.trans (hb1.mono hb0.size)
    go_wp2_with fail
    go_ret
    exact ⟨rfl, hbz⟩

set_option maxRecDepth 100000 in
set_option maxHeartbeats 400000 in
theorem cm_Semigroup (k0 : Int) (B n : Nat) (v : Value) (xs : List Value) (w : World) (ho : w.ownsRow B 3 1 v n xs) (hn : n ≤ 4611686018427387904) (h0 : 0 ≤ k0) (h1 : k0 ≤ 1152921504606846976) :
    Calls Tryz.prog 17 #[.agg #[v], .int .i64 k0] w fun e w' => e = .returned (.int .i64 (k0 + (n : Int))) ∧ w'.ownsRow B 3 1 v n (marksK k0 n) ∧ w.grownBy w' v.ownBlock := by
  have c1 := cm_IntS k0 B n v xs (w.alloc (.cells #[v] 26)) (ho.alloc _) hn h0 h1
  have hg0 := World.grownBy_alloc w (.cells #[v] 26) v.ownBlock
  obtain ⟨av, kv, rfl, -⟩ := row_open ho
  clear ho
  generalize k0 + (n : Int) = q at *
  go_enter Tryz.func17, Tryz.ntmps17
  go_wp2_with fail
  refine c1.mono ?_
  rintro e w1 ⟨rfl, ho, hg⟩
  have hgz := grownBy_trans hg0 hg
  have HO := Lib.hid ho
  clear c1 ho hg hg0
  go_wp2_with fail
  go_ret
  exact ⟨rfl, HO.out, hgz⟩

set_option maxRecDepth 100000 in
set_option maxHeartbeats 400000 in
theorem ch_Semigroup (k0 : Int) (n cap : Nat) (a : Option Addr) (w : World) (hr : SlV w a (marksK k0 n)) (hn : n ≤ 4611686018427387904) (h0 : 0 ≤ k0) (h1 : k0 ≤ 1152921504606846976) :
    Calls Tryz.prog 18 #[.agg #[.slice a n cap], .int .i64 k0] w fun e w' => e = .returned (.int .i64 (k0 + (n : Int))) ∧ Below w.heap.size w w' := by
  have hb0 := (Below.refl w.heap.size w).alloc (o := .cells #[.slice a n cap] 26) (Nat.le_refl _)
  have c1 := ch_IntS k0 n cap a (w.alloc (.cells #[.slice a n cap] 26)) (hr.below hb0) hn h0 h1
  have hq0 : 0 ≤ k0 + (n : Int) := by omega
  generalize k0 + (n : Int) = q at *
  clear hr h0 h1
  go_enter Tryz.func18, Tryz.ntmps18
  go_wp2_with fail
  refine c1.mono ?_
  rintro e w1 ⟨rfl, hb1⟩
  have hbz := hb0.trans (hb1.mono hb0.size)
  clear c1 hb1 hb0
  go_wp2_with fail
  go_ret
  exact ⟨rfl, hbz⟩
end Go.Proofs.YtdjjagpecbflnaaGreatDoor
