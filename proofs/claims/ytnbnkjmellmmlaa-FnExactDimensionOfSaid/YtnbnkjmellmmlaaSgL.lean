/-
  THE LAWS' HELPERS on semigroups (a struct of one slice of ints): how one that came in is opened; toSemigroup, szSemigroup, eqSemigroup, markSemigroup, heldSemigroup.
-/
import Derived.Test.YtnbnkjmellmmlaaKitA
import Derived.Test.YtnbnkjmellmmlaaCh3L
import Derived.ChangeSame
import Derived.WideShapes
namespace Go.Proofs.Ytnbnkjmellmmlaa
open Go Go.RowKit Go.ChangeShapes Go.WideShapes Go.ChangeAt

set_option maxRecDepth 100000 in
theorem isGens_open {H : Type} {enc : TypeId × Value → H} {W : World} {base : Nat} {v : Value} {x : DataW H × List MemPlace} (t : TypeId) (hv : Value.okWide Try.prog W .any base t v)
    (h : ∃ fuel, DataW.trod enc Try.prog W 0 (fun _ => true) true fuel t v.cells.toList = some x) {f0 : Field} (ht : Try.prog.underlying t = some (.struct #[f0])) (hf : f0.type = 22) (ho : f0.offset = 0) (hc : Try.prog.cellsOf t = 1) :
    ∃ p len cap z, v = .agg #[.slice p len cap] ∧ IsRow .i64 W p len cap z := by
  obtain ⟨cs, rfl, hsz⟩ := okWide_struct ht hv
  rw [hc] at hsz
  obtain ⟨c, rfl⟩ : ∃ c, cs = #[c] := by
    obtain ⟨l⟩ := cs
    match l, hsz with
    | [c], _ => exact ⟨c, rfl⟩
  obtain ⟨fuel, h⟩ := h
  obtain ⟨y0, n, -, -, h0⟩ := trod_struct1 ht h
  rw [hf, ho] at h0
  have hc1 : Try.prog.cellsOf 22 = 1 := by kernel_rfl
  rw [hc1] at h0
  have h1 : DataW.trod enc Try.prog W 0 (fun _ => true) true n 22 [c] = some y0 := h0
  have hu : Try.prog.underlying 22 = some (.slice 3) := Try.underlying22
  rcases open_ints hu Try.underlying3 (by kernel_rfl) h1 with ⟨hcs, _⟩ | ⟨p, l, cp, zs, hcs, _⟩
  · simp only [List.cons.injEq, and_true] at hcs
    subst hcs
    obtain ⟨zs, hz⟩ := isRow_open (a := none) (len := 0) (cap := 0) hu Try.underlying3 (by kernel_rfl) h1
    exact ⟨none, 0, 0, zs, rfl, hz⟩
  · simp only [List.cons.injEq, and_true] at hcs
    subst hcs
    obtain ⟨zs', hz⟩ := isRow_open (a := some p) (len := l) (cap := cp) hu Try.underlying3 (by kernel_rfl) h1
    exact ⟨some p, l, cp, zs', rfl, hz⟩

theorem Arr.grownRow {w w' : World} {g : Nat} {t : TypeId} {cs : List Value} {row : Option Nat} (h : Arr w g t cs) (hg : w.grownBy w' row) (hd : ∀ j, row = some j → j ≠ g) : Arr w' g t cs :=
  h.grown hg (fun e => hd g e.symm rfl)

theorem held_keep2 {W wr w1 : World} {b1 o1 b2 o2 : Nat} {v1 v2 : Value} (h1 : b1 < W.heap.size) (h2 : b2 < W.heap.size) (h : wr.cell? ⟨b1, o1, none⟩ = some v1 ∧ wr.cell? ⟨b2, o2, none⟩ = some v2 ∧ Below W.heap.size W wr) (hb : Below wr.heap.size wr w1) :
    w1.cell? ⟨b1, o1, none⟩ = some v1 ∧ w1.cell? ⟨b2, o2, none⟩ = some v2 ∧ Below W.heap.size W w1 :=
  ⟨(hb.cell (p := ⟨b1, o1, none⟩) (Nat.lt_of_lt_of_le h1 h.2.2.size)).trans h.1, (hb.cell (p := ⟨b2, o2, none⟩) (Nat.lt_of_lt_of_le h2 h.2.2.size)).trans h.2.1, h.2.2.trans (hb.mono h.2.2.size)⟩

/-- What is left of a bound behind a list of n. -/
def szI (left : Int) (n : Nat) : Int := if left - (n : Int) < 0 then -1 else left - (n : Int)
theorem szI_in {left : Int} {n : Nat} (h : (n : Int) ≤ left) : szI left n = left - (n : Int) := by unfold szI; rw [if_neg (by omega)]
theorem szI_out {left : Int} {n : Nat} (h : left < (n : Int)) : szI left n = -1 := by unfold szI; rw [if_pos (by omega)]

set_option maxRecDepth 100000 in
set_option maxHeartbeats 400000 in
theorem cz_IntS (n : Nat) (a : Option Addr) (cap : Nat) (left : Int) (w : World) (hn : n ≤ maxLen) (h0 : 0 ≤ left) (h1 : left ≤ 1048576) :
    Calls Try.prog 55 #[.slice a n cap, .int .i64 left] w fun e w' => e = .returned (.int .i64 (szI left n)) ∧ w' = w := by
  unfold maxLen at hn
  by_cases h : left < (n : Int)
  · have HR := Lib.hid (szI_out h)
    have hneg : left - (n : Int) < 0 := by omega
    go_enter Try.func55, Try.ntmps55
    go_wp2_with fail
    go_ret
    exact ⟨by rw [HR.out]; rfl, rfl⟩
  · have HR := Lib.hid (szI_in (by omega : (n : Int) ≤ left))
    have hneg : ¬ left - (n : Int) < 0 := by omega
    have hpos : 0 ≤ left - (n : Int) := by omega
    go_enter Try.func55, Try.ntmps55
    go_wp2_with fail
    go_ret
    exact ⟨by rw [HR.out]; rfl, rfl⟩

set_option maxRecDepth 100000 in
set_option maxHeartbeats 400000 in
theorem cz_Semigroup (n : Nat) (a : Option Addr) (cap : Nat) (left : Int) (w : World) (hn : n ≤ maxLen) (h0 : 0 ≤ left) (h1 : left ≤ 1048576) :
    Calls Try.prog 19 #[.agg #[.slice a n cap], .int .i64 left] w fun e w' => e = .returned (.int .i64 (szI left n)) ∧ Below w.heap.size w w' := by
  have hb0 := (Below.refl w.heap.size w).alloc (o := .cells #[.slice a n cap] 27) (Nat.le_refl _)
  have c1 := cz_IntS n a cap left (w.alloc (.cells #[.slice a n cap] 27)) hn h0 h1
  by_cases h : left < (n : Int)
  · rw [szI_out h] at c1 ⊢
    clear h0 h1 hn h
    go_enter Try.func19, Try.ntmps19
    go_wp2_with fail
    refine c1.mono ?_
    rintro e w' ⟨rfl, rfl⟩
    clear c1
    go_wp2_with fail
    go_ret
    exact ⟨rfl, hb0⟩
  · rw [szI_in (by omega : (n : Int) ≤ left)] at c1 ⊢
    have hpos : 0 ≤ left - (n : Int) := by omega
    generalize left - (n : Int) = l at *
    clear h0 h1 hn h
    go_enter Try.func19, Try.ntmps19
    go_wp2_with fail
    refine c1.mono ?_
    rintro e w' ⟨rfl, rfl⟩
    clear c1
    go_wp2_with fail
    go_ret
    exact ⟨rfl, hb0⟩

set_option maxRecDepth 100000 in
set_option maxHeartbeats 400000 in
theorem ct_Semigroup (L : List Int) (a : Option Addr) (cap : Nat) (w : World) (hr : SlV w a (L.map (Value.int .i64))) (hb : L.length ≤ 1048576) :
    Calls Try.prog 21 #[.agg #[.slice a L.length cap]] w fun e w' => ∃ v, e = .returned (.agg #[v]) ∧ w'.ownsRow w.heap.size 3 1 v L.length (L.map (Value.int .i64)) ∧ Below w.heap.size w w' := by
  obtain ⟨W, hW⟩ : ∃ W, W = ((w.alloc (.cells #[.slice a L.length cap] 27)).alloc (.cells #[.slice none 0 0] 30)).alloc (.cells #[.slice none 0 0] 30) := ⟨_, rfl⟩
  have hb0 : Below w.heap.size w W := by rw [hW]; exact (((Below.refl _ _).alloc (Nat.le_refl _) _).alloc (by simp) _).alloc (by simp; omega) _
  have hWs : w.heap.size + 3 ≤ W.heap.size := by rw [hW]; simp
  have a1 := (Arr.new (w.alloc (.cells #[.slice a L.length cap] 27)) 30 [.slice none 0 0]).alloc (.cells #[.slice none 0 0] 30)
  have a2 := Arr.new ((w.alloc (.cells #[.slice a L.length cap] 27)).alloc (.cells #[.slice none 0 0] 30)) 30 [.slice none 0 0]
  have e1 : (w.alloc (.cells #[.slice a L.length cap] 27)).heap.size = w.heap.size + 1 := by simp
  have e2 : ((w.alloc (.cells #[.slice a L.length cap] 27)).alloc (.cells #[.slice none 0 0] 30)).heap.size = w.heap.size + 2 := by simp
  rw [e1] at a1
  rw [e2] at a2
  have a1' : Arr W (w.heap.size + 1) 30 [.slice none 0 0] := by rw [hW]; exact a1
  have a2' : Arr W (w.heap.size + 2) 30 [.slice none 0 0] := by rw [hW]; exact a2
  have c1 := ct_IntS L a cap W (hr.below hb0) hb
  have HW := Lib.hid hW
  clear hW a1 a2 e1 e2 hr
  go_enter Try.func21, Try.ntmps21
  go_wp2_with fail
  rw [← HW.out]
  refine c1.mono ?_
  rintro e w1 ⟨v, rfl, ho, hb1⟩
  have b1 := a1'.below hb1
  have b2 := a2'.below hb1
  have hc1 : w1.cell? ⟨w.heap.size + 1, 0, none⟩ = some (.slice none 0 0) := b1.cell 0
  have hf1 := b1.frozen 0
  have hc2 : w1.cell? ⟨w.heap.size + 2, 0, none⟩ = some (.slice none 0 0) := b2.cell 0
  have hf2 := b2.frozen 0
  have hbz := hb0.trans (hb1.mono hb0.size)
  have hz1 := Nat.le_trans hWs hb1.size
  have HO := Lib.hid ho
  obtain ⟨av, kv, rfl, -⟩ := row_open ho
  clear c1 ho b1 b2 a1' a2' hb1 hb0
  go_wp2_with fail
  have hcf := World.cell?_setCell_same (w1.setCell ⟨w.heap.size + 1 + 1, 0, none⟩ (.slice av L.length kv)) ⟨w.heap.size + 1, 0, none⟩ (.slice av L.length kv) (by rw [World.cell?_setCell_other _ _ _ _ (by simp)]; exact hc1)
  refine bodyPost_ret (v := .agg #[.slice av L.length kv]) (by simp [results, Try.results21, go_sem, hcf]) rfl ⟨_, rfl, ?_, (hbz.setCell (by simp; omega) _).setCell (by simp) _⟩
  have ho := HO.out
  refine ownsBase (row_kept ho fun j hj => ?_) (by omega)
  obtain ⟨hj1, -⟩ := ho.lt j hj
  rw [heap_setCell_other _ ⟨w.heap.size + 1, 0, none⟩ j _ (by show j ≠ w.heap.size + 1; omega), heap_setCell_other _ ⟨w.heap.size + 1 + 1, 0, none⟩ j _ (by show j ≠ w.heap.size + 1 + 1; omega)]

set_option maxRecDepth 100000 in
set_option maxHeartbeats 400000 in
theorem ce_Semigroup (L M : List Int) (a b : Option Addr) (ca cb : Nat) (w : World) (hr : SlV w a (L.map (Value.int .i64))) (hs : SlV w b (M.map (Value.int .i64))) (hb : L.length ≤ 4611686018427387904) (hb2 : M.length ≤ 4611686018427387904) :
    Calls Try.prog 23 #[.agg #[.slice a L.length ca], .agg #[.slice b M.length cb]] w fun e w' => e = .returned (.bool (decide (L = M))) ∧ Below w.heap.size w w' := by
  have hb0 : Below w.heap.size w ((w.alloc (.cells #[.slice a L.length ca] 30)).alloc (.cells #[.slice b M.length cb] 30)) := ((Below.refl _ _).alloc (Nat.le_refl _) _).alloc (by simp) _
  have c1 := ce_IntS L M a b ca cb _ (hr.below hb0) (hs.below hb0) hb hb2
  clear hr hs
  cases hq : decide (L = M)
  · rw [hq] at c1
    clear hq
    go_enter Try.func23, Try.ntmps23
    go_wp2_with fail
    refine c1.mono ?_
    rintro e w1 ⟨rfl, hb1⟩
    have hbz := hb0.trans (hb1.mono hb0.size)
    go_wp2_with fail
    go_ret
    exact ⟨rfl, hbz⟩
  · rw [hq] at c1
    clear hq
    go_enter Try.func23, Try.ntmps23
    go_wp2_with fail
    refine c1.mono ?_
    rintro e w1 ⟨rfl, hb1⟩
    have hbz := hb0.trans (hb1.mono hb0.size)
    go_wp2_with fail
    go_ret
    exact ⟨rfl, hbz⟩

set_option maxRecDepth 100000 in
set_option maxHeartbeats 400000 in
theorem cm_Semigroup (k0 : Int) (B n : Nat) (v : Value) (xs : List Value) (w : World) (ho : w.ownsRow B 3 1 v n xs) (hn : n ≤ 4611686018427387904) (h0 : 0 ≤ k0) (h1 : k0 ≤ 1152921504606846976) :
    Calls Try.prog 29 #[.agg #[v], .int .i64 k0] w fun e w' => e = .returned (.int .i64 (k0 + (n : Int))) ∧ w'.ownsRow B 3 1 v n (marksK k0 n) ∧ w.grownBy w' v.ownBlock := by
  have c1 := cm_IntS k0 B n v xs (w.alloc (.cells #[v] 30)) (ho.alloc _) hn h0 h1
  have hg0 := World.grownBy_alloc w (.cells #[v] 30) v.ownBlock
  obtain ⟨av, kv, rfl, -⟩ := row_open ho
  clear ho
  generalize k0 + (n : Int) = q at *
  go_enter Try.func29, Try.ntmps29
  go_wp2_with fail
  refine c1.mono ?_
  rintro e w1 ⟨rfl, ho, hg⟩
  have hgz := grownBy_trans hg0 hg
  have HO := Lib.hid ho
  clear c1 ho hg hg0
  go_wp2_with fail
  go_ret
  exact ⟨rfl, HO.out, hgz⟩

set_option maxRecDepth 100000 in
set_option maxHeartbeats 400000 in
theorem ch_Semigroup (k0 : Int) (n cap : Nat) (a : Option Addr) (w : World) (hr : SlV w a (marksK k0 n)) (hn : n ≤ 4611686018427387904) (h0 : 0 ≤ k0) (h1 : k0 ≤ 1152921504606846976) :
    Calls Try.prog 30 #[.agg #[.slice a n cap], .int .i64 k0] w fun e w' => e = .returned (.int .i64 (k0 + (n : Int))) ∧ Below w.heap.size w w' := by
  have hb0 := (Below.refl w.heap.size w).alloc (o := .cells #[.slice a n cap] 30) (Nat.le_refl _)
  have c1 := ch_IntS k0 n cap a (w.alloc (.cells #[.slice a n cap] 30)) (hr.below hb0) hn h0 h1
  have hq0 : 0 ≤ k0 + (n : Int) := by omega
  generalize k0 + (n : Int) = q at *
  clear hr h0 h1
  go_enter Try.func30, Try.ntmps30
  go_wp2_with fail
  refine c1.mono ?_
  rintro e w1 ⟨rfl, hb1⟩
  have hbz := hb0.trans (hb1.mono hb0.size)
  clear c1 hb1 hb0
  go_wp2_with fail
  go_ret
  exact ⟨rfl, hbz⟩
end Go.Proofs.Ytnbnkjmellmmlaa
