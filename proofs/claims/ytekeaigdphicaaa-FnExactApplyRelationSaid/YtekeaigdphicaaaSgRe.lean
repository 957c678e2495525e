/-
  THE LAWS' HELPERS on relations (a struct of two slices of ints): how one that came in is opened; szRelation, toRelation, eqRelation, markRelation. (Own work; mkRe.py.)
-/
import Derived.Test.YtekeaigdphicaaaSgL
import Derived.Deep.Cut
namespace Go.Proofs.Ytekeaigdphicaaa
open Go Go.RowKit Go.ChangeShapes Go.WideShapes Go.ChangeAt

theorem undRel : ∃ d, Try.prog.underlying 28 = some d ∧ d.isRow = true := ⟨_, Try.underlying28, rfl⟩
theorem sizeRel : (Try.prog.info? 28).map (·.size) = some 2 := by kernel_rfl
theorem zeroRel : (Try.prog.info? 28).map (·.zero) = some (some (.agg [Value.slice none 0 0, Value.slice none 0 0].toArray)) := by kernel_rfl
set_option maxRecDepth 100000 in
theorem isRow_cell {H : Type} {enc : TypeId × Value → H} {W : World} {c : Value} {n : Nat} {y0 : DataW H × List MemPlace} (h1 : DataW.trod enc Try.prog W 0 (fun _ => true) true n 22 [c] = some y0) : ∃ p len cap z, c = .slice p len cap ∧ IsRow .i64 W p len cap z := by
  have hu : Try.prog.underlying 22 = some (.slice 3) := Try.underlying22
  rcases open_ints hu Try.underlying3 (by kernel_rfl) h1 with ⟨hcs, _⟩ | ⟨p, l, cp, zs, hcs, _⟩
  · simp only [List.cons.injEq, and_true] at hcs
    subst hcs
    obtain ⟨zs, hz⟩ := isRow_open (a := none) (len := 0) (cap := 0) hu Try.underlying3 (by kernel_rfl) h1
    exact ⟨none, 0, 0, zs, rfl, hz⟩
  · simp only [List.cons.injEq, and_true] at hcs
    subst hcs
    obtain ⟨zs', hz⟩ := isRow_open (a := some p) (len := l) (cap := cp) hu Try.underlying3 (by kernel_rfl) h1
    exact ⟨some p, l, cp, zs', rfl, hz⟩
set_option maxRecDepth 100000 in
theorem isRel_open {H : Type} {enc : TypeId × Value → H} {W : World} {base : Nat} {v : Value} {x : DataW H × List MemPlace} (t : TypeId) (hv : Value.okWide Try.prog W .any base t v)
    (h : ∃ fuel, DataW.trod enc Try.prog W 0 (fun _ => true) true fuel t v.cells.toList = some x) {f0 f1 : Field} (ht : Try.prog.underlying t = some (.struct #[f0, f1])) (hf : f0.type = 22) (ho : f0.offset = 0) (hf1 : f1.type = 22) (ho1 : f1.offset = 1) (hc : Try.prog.cellsOf t = 2) :
    ∃ p len cap z p' len' cap' z', v = .agg #[.slice p len cap, .slice p' len' cap'] ∧ IsRow .i64 W p len cap z ∧ IsRow .i64 W p' len' cap' z' := by
  obtain ⟨cs, rfl, hsz⟩ := okWide_struct ht hv
  rw [hc] at hsz
  obtain ⟨c, d, rfl⟩ : ∃ c d, cs = #[c, d] := by
    obtain ⟨l⟩ := cs
    match l, hsz with
    | [c, d], _ => exact ⟨c, d, rfl⟩
  obtain ⟨fuel, h⟩ := h
  obtain ⟨y0, y1, n, -, -, h0, h1⟩ := trod_struct2 ht h
  have hc1 : Try.prog.cellsOf 22 = 1 := by kernel_rfl
  rw [hf, ho, hc1] at h0
  rw [hf1, ho1, hc1] at h1
  have g0 : DataW.trod enc Try.prog W 0 (fun _ => true) true n 22 [c] = some y0 := h0
  have g1 : DataW.trod enc Try.prog W 0 (fun _ => true) true n 22 [d] = some y1 := h1
  obtain ⟨p, len, cap, z, rfl, r⟩ := isRow_cell g0
  obtain ⟨p', len', cap', z', rfl, r'⟩ := isRow_cell g1
  exact ⟨p, len, cap, z, p', len', cap', z', rfl, r, r'⟩

theorem held_keep4 {W wr w1 : World} {b1 o1 b2 o2 b3 o3 b4 o4 : Nat} {v1 v2 v3 v4 : Value} (h1 : b1 < W.heap.size) (h2 : b2 < W.heap.size) (h3 : b3 < W.heap.size) (h4 : b4 < W.heap.size) (h : wr.cell? ⟨b1, o1, none⟩ = some v1 ∧ wr.cell? ⟨b2, o2, none⟩ = some v2 ∧ wr.cell? ⟨b3, o3, none⟩ = some v3 ∧ wr.cell? ⟨b4, o4, none⟩ = some v4 ∧ Below W.heap.size W wr) (hb : Below wr.heap.size wr w1) :
    w1.cell? ⟨b1, o1, none⟩ = some v1 ∧ w1.cell? ⟨b2, o2, none⟩ = some v2 ∧ w1.cell? ⟨b3, o3, none⟩ = some v3 ∧ w1.cell? ⟨b4, o4, none⟩ = some v4 ∧ Below W.heap.size W w1 := by
  obtain ⟨e1, e2, e3, e4, hB⟩ := h
  have hs := hB.size
  exact ⟨(hb.cell (p := ⟨b1, o1, none⟩) (Nat.lt_of_lt_of_le h1 hs)).trans e1, (hb.cell (p := ⟨b2, o2, none⟩) (Nat.lt_of_lt_of_le h2 hs)).trans e2, (hb.cell (p := ⟨b3, o3, none⟩) (Nat.lt_of_lt_of_le h3 hs)).trans e3, (hb.cell (p := ⟨b4, o4, none⟩) (Nat.lt_of_lt_of_le h4 hs)).trans e4, hB.trans (hb.mono hs)⟩
/-- What is left of a bound behind two lists. -/
def szR (left : Int) (n m : Nat) : Int := if szI left n < 0 then -1 else szI (szI left n) m
theorem szR_in {left : Int} {n m : Nat} (h : (n : Int) + (m : Int) ≤ left) : szR left n m = left - (n : Int) - (m : Int) := by
  unfold szR
  rw [szI_in (by omega), if_neg (by omega), szI_in (by omega)]
theorem szR_out {left : Int} {n m : Nat} (h : left < (n : Int) + (m : Int)) : szR left n m = -1 := by
  unfold szR
  by_cases h1 : left < (n : Int)
  · rw [szI_out h1, if_pos (by omega)]
  · rw [szI_in (by omega), if_neg (by omega), szI_out (by omega)]

set_option maxRecDepth 100000 in
set_option maxHeartbeats 1600000 in
theorem cz_Relation (n m : Nat) (a b : Option Addr) (ca cb : Nat) (left : Int) (w : World) (hn : n ≤ maxLen) (hm : m ≤ maxLen) (h0 : 0 ≤ left) (h1 : left ≤ 1048576) :
    Calls Try.prog 5 #[.agg #[.slice a n ca, .slice b m cb], .int .i64 left] w fun e w' => e = .returned (.int .i64 (szR left n m)) ∧ Below w.heap.size w w' := by
  have hb0 := (Below.refl w.heap.size w).alloc (o := .cells #[.slice a n ca, .slice b m cb] 24) (Nat.le_refl _)
  have c1 := cz_IntS n a ca left (w.alloc (.cells #[.slice a n ca, .slice b m cb] 24)) hn h0 h1
  by_cases h : left < (n : Int)
  · have HR : Hid (szR left n m = -1) := Lib.hid (szR_out (by omega))
    rw [szI_out h] at c1
    clear h0 h1 hn hm h
    go_enter Try.func5, Try.ntmps5
    go_wp2_with fail
    refine c1.mono ?_
    rintro e w' ⟨rfl, rfl⟩
    clear c1
    go_wp2_with fail
    go_ret
    exact ⟨by rw [HR.out]; rfl, hb0⟩
  · have hpos : 0 ≤ left - (n : Int) := by omega
    have c2 := cz_IntS m b cb (left - (n : Int)) (w.alloc (.cells #[.slice a n ca, .slice b m cb] 24)) hm hpos (by omega)
    have HR : Hid (szR left n m = szI (left - (n : Int)) m) := Lib.hid (by unfold szR; rw [szI_in (by omega), if_neg (by omega)])
    rw [szI_in (by omega : (n : Int) ≤ left)] at c1
    generalize left - (n : Int) = l at *
    clear h0 h1 hn h
    by_cases h : l < (m : Int)
    · rw [szI_out h] at c2 HR
      clear h hm
      go_enter Try.func5, Try.ntmps5
      go_wp2_with fail
      refine c1.mono ?_
      rintro e w' ⟨rfl, rfl⟩
      clear c1
      go_wp2_with fail
      refine c2.mono ?_
      rintro e w' ⟨rfl, rfl⟩
      clear c2
      go_wp2_with fail
      go_ret
      exact ⟨by rw [HR.out]; rfl, hb0⟩
    · rw [szI_in (by omega : (m : Int) ≤ l)] at c2 HR
      have hp2 : 0 ≤ l - (m : Int) := by omega
      generalize l - (m : Int) = q at *
      clear h hm
      go_enter Try.func5, Try.ntmps5
      go_wp2_with fail
      refine c1.mono ?_
      rintro e w' ⟨rfl, rfl⟩
      clear c1
      go_wp2_with fail
      refine c2.mono ?_
      rintro e w' ⟨rfl, rfl⟩
      clear c2
      go_wp2_with fail
      go_ret
      exact ⟨by rw [HR.out]; rfl, hb0⟩

set_option maxRecDepth 100000 in
set_option maxHeartbeats 1600000 in
theorem ct_Relation (L M : List Int) (a b : Option Addr) (ca cb : Nat) (w : World) (hr : SlV w a (L.map (Value.int .i64))) (hs : SlV w b (M.map (Value.int .i64))) (hb : L.length ≤ 1048576) (hb2 : M.length ≤ 1048576) :
    Calls Try.prog 7 #[.agg #[.slice a L.length ca, .slice b M.length cb]] w fun e w' => ∃ a1 c1 a2 c2 mid, e = .returned (.agg #[.slice a1 L.length c1, .slice a2 M.length c2]) ∧ Row w' w.heap.size mid (.slice a1 L.length c1) L.length (L.map (Value.int .i64)) ∧ Row w' mid w'.heap.size (.slice a2 M.length c2) M.length (M.map (Value.int .i64)) ∧ w.heap.size ≤ mid ∧ mid ≤ w'.heap.size ∧ Below w.heap.size w w' := by
  obtain ⟨dR, hdR, hrR⟩ := undRel
  obtain ⟨U, hU⟩ : ∃ U, U = w.alloc (.cells #[.slice a L.length ca, .slice b M.length cb] 24) := ⟨_, rfl⟩
  obtain ⟨V, hV⟩ : ∃ V, V = (U.alloc (.cells [Value.slice none 0 0, Value.slice none 0 0].toArray 28)).alloc (.cells [Value.slice none 0 0, Value.slice none 0 0].toArray 28) := ⟨_, rfl⟩
  have hUs : U.heap.size = w.heap.size + 1 := by rw [hU]; simp
  have hVs : V.heap.size = w.heap.size + 3 := by rw [hV]; simp; omega
  have hb0 : Below w.heap.size w V := by rw [hV, hU]; exact (((Below.refl _ _).alloc (Nat.le_refl _) _).alloc (by simp) _).alloc (by simp; omega) _
  have hAU : Arr U w.heap.size 24 [.slice a L.length ca, .slice b M.length cb] := by rw [hU]; exact Arr.new _ _ _
  have hA1 : Arr V w.heap.size 24 [.slice a L.length ca, .slice b M.length cb] := by rw [hV]; exact (hAU.alloc _).alloc _
  have hA2 : Arr V (w.heap.size + 1) 28 [Value.slice none 0 0, Value.slice none 0 0] := by rw [hV, ← hUs]; exact (Arr.new U _ _).alloc _
  have hA3 : Arr V (w.heap.size + 2) 28 [Value.slice none 0 0, Value.slice none 0 0] := by
    rw [hV]; have h := Arr.new (U.alloc (.cells [Value.slice none 0 0, Value.slice none 0 0].toArray 28)) 28 [Value.slice none 0 0, Value.slice none 0 0]
    rw [show (U.alloc (.cells [Value.slice none 0 0, Value.slice none 0 0].toArray 28)).heap.size = w.heap.size + 2 by simp; omega] at h; exact h
  have c1 := ct_IntS L a ca V (hr.below hb0) hb
  have c2 := fun w2 (h : Below w.heap.size w w2) => ct_IntS M b cb w2 (hs.below h) hb2
  have hc0 : V.cell? ⟨w.heap.size, 0, none⟩ = some (.slice a L.length ca) := hA1.cell 0
  have HV : Hid (V = ((w.alloc (.cells #[.slice a L.length ca, .slice b M.length cb] 24)).alloc (.cells [Value.slice none 0 0, Value.slice none 0 0].toArray 28)).alloc (.cells [Value.slice none 0 0, Value.slice none 0 0].toArray 28)) := Lib.hid (by rw [hV, hU])
  clear hU hV hr hs hAU
  go_enter Try.func7, Try.ntmps7
  go_wp2_with (first | (refine wpList_alloc_arr 28 [Value.slice none 0 0, Value.slice none 0 0] zeroRel rfl rfl ?_))
  rw [← HV.out]
  refine c1.mono ?_
  rintro e w1 ⟨v, rfl, ho, hb1⟩
  obtain ⟨a1, k1, rfl, -⟩ := row_open ho
  have hbz1 := hb0.trans (hb1.mono hb0.size)
  have hs1 := hb1.size
  have hA31 := hA3.below hb1
  have hc3 : w1.cell? ⟨w.heap.size + 2, 0, none⟩ = some (.slice none 0 0) := hA31.cell 0
  have hf3 := hA31.frozen 0
  obtain ⟨X, hX⟩ : ∃ X, X = w1.setCell ⟨w.heap.size + 2, 0, none⟩ (.slice a1 L.length k1) := ⟨_, rfl⟩
  have hXs : X.heap.size = w1.heap.size := by rw [hX]; simp
  have hXo : ∀ j, j ≠ w.heap.size + 2 → X.heap[j]? = w1.heap[j]? := fun j hj => by rw [hX]; exact heap_setCell_other w1 ⟨w.heap.size + 2, 0, none⟩ j _ hj
  have hbX : Below w.heap.size w X := by rw [hX]; exact hbz1.setCell (show w.heap.size ≤ w.heap.size + 2 by omega) _
  have hAX3 : Arr X (w.heap.size + 2) 28 [.slice a1 L.length k1, .slice none 0 0] := by rw [hX]; exact hA31.set 0 _
  have hAX2 : Arr X (w.heap.size + 1) 28 [Value.slice none 0 0, Value.slice none 0 0] := (hXo _ (by omega)).trans (hA2.below hb1)
  have hAX1 : Arr X w.heap.size 24 [.slice a L.length ca, .slice b M.length cb] := (hXo _ (by omega)).trans (hA1.below hb1)
  have hoX : X.ownsRow V.heap.size 3 1 (.slice a1 L.length k1) L.length (L.map (Value.int .i64)) := row_kept ho fun j hj => hXo j (by have := (ho.lt j hj).1; omega)
  have c2' := c2 X hbX
  have hc1 := hAX1.cell 1
  have hcx : (w1.setCell ⟨w.heap.size + 2, 0, none⟩ (.slice a1 L.length k1)).cell? ⟨w.heap.size, 1, none⟩ = some (.slice b M.length cb) := by rw [← hX]; exact hc1
  have HX := Lib.hid hX
  have hA1l := (ho.lt)
  clear c1 c2 ho hb1 hX hA31 hA1 hA2 hA3 hc0 hbz1 hc1
  go_wp2_with fail
  rw [← HX.out]
  refine c2'.mono ?_
  rintro e w2 ⟨v, rfl, ho2, hb2⟩
  obtain ⟨a2, k2, rfl, -⟩ := row_open ho2
  have hs2 := hb2.size
  have hA32 := hAX3.below hb2
  have hA22 := hAX2.below hb2
  have hc31 : w2.cell? ⟨w.heap.size + 2, 1, none⟩ = some (.slice none 0 0) := hA32.cell 1
  have hf31 := hA32.frozen 1
  obtain ⟨Y, hY⟩ : ∃ Y, Y = w2.setCell ⟨w.heap.size + 2, 1, none⟩ (.slice a2 M.length k2) := ⟨_, rfl⟩
  have hYs : Y.heap.size = w2.heap.size := by rw [hY]; simp
  have hYo : ∀ j, j ≠ w.heap.size + 2 → Y.heap[j]? = w2.heap[j]? := fun j hj => by rw [hY]; exact heap_setCell_other w2 ⟨w.heap.size + 2, 1, none⟩ j _ hj
  have hbY : Below w.heap.size w Y := by rw [hY]; exact (hbX.trans (hb2.mono hbX.size)).setCell (show w.heap.size ≤ w.heap.size + 2 by omega) _
  have hAY3 : Arr (w2.setCell ⟨w.heap.size + 2, 1, none⟩ (.slice a2 M.length k2)) (w.heap.size + 2) 28 [.slice a1 L.length k1, .slice a2 M.length k2] := hA32.set 1 _
  have hAY2 : Arr (w2.setCell ⟨w.heap.size + 2, 1, none⟩ (.slice a2 M.length k2)) (w.heap.size + 1) 28 [Value.slice none 0 0, Value.slice none 0 0] := by rw [← hY]; exact (hYo _ (by omega)).trans hA22
  have hoY1 : Y.ownsRow V.heap.size 3 1 (.slice a1 L.length k1) L.length (L.map (Value.int .i64)) := row_kept hoX fun j hj => (hYo j (by have := (hoX.lt j hj).1; omega)).trans (hb2.block j (hoX.lt j hj).2)
  have hoY2 : Y.ownsRow X.heap.size 3 1 (.slice a2 M.length k2) M.length (M.map (Value.int .i64)) := row_kept ho2 fun j hj => hYo j (by have := (ho2.lt j hj).1; omega)
  have HA1 := Lib.hid hoY1
  have HA2 := Lib.hid hoY2
  have HAL := Lib.hid (fun j hj => (hoX.lt j hj).2)
  have HY := Lib.hid hY
  clear c2' ho2 hb2 hAX3 hAX2 hAX1 hoX hcx hoY1 hoY2 hA1l hY hA32 hA22 hbX hXo hYo
  go_wp2_with (first | (refine wpList_load_arr 28 (.tmp 3) (w.heap.size + 2) [.slice a1 L.length k1, .slice a2 M.length k2] dR rfl rfl rfl hAY3 hdR hrR sizeRel ?_) | (refine wpList_store_arr 28 (.tmp 2) (.tmp 12) (w.heap.size + 1) [Value.slice none 0 0, Value.slice none 0 0] [.slice a1 L.length k1, .slice a2 M.length k2] rfl rfl rfl rfl hAY2 rfl sizeRel (by simp [Value.oneCell']) ?_; intro w3 hA3r hg3 hz3; clear hz3))
  rw [← HY.out] at hg3
  have hb3 := hbY.grown hg3 hbY.size (fun k hk => by cases hk; omega)
  have hsz := hg3.size
  refine bodyPost_ret (results_arr rfl _ _ (w.heap.size + 1) [.slice a1 L.length k1, .slice a2 M.length k2] dR rfl hA3r hdR hrR sizeRel) rfl ⟨a1, k1, a2, k2, X.heap.size, rfl, ⟨?_, fun j hj => HAL.out j hj, by omega⟩, ⟨?_, fun j hj => ?_, Nat.le_refl _⟩, by omega, by omega, hb3⟩
  · have h := HA1.out
    exact ownsBase (row_kept h fun j hj => hg3.block j (h.lt j hj).2 (fun e => by injection e with e; have := (h.lt j hj).1; omega)) (by omega)
  · have h := HA2.out
    exact row_kept h fun j hj => hg3.block j (h.lt j hj).2 (fun e => by injection e with e; have := (h.lt j hj).1; omega)
  · exact Nat.lt_of_lt_of_le (HA2.out.lt j hj).2 hsz

set_option maxRecDepth 100000 in
set_option maxHeartbeats 1600000 in
theorem ce_Relation (L M : List Int) (a b a' b' : Option Addr) (ca cb ca' cb' : Nat) (w : World) (hr : SlV w a (L.map (Value.int .i64))) (hs : SlV w b (M.map (Value.int .i64))) (hr' : SlV w a' (L.map (Value.int .i64))) (hs' : SlV w b' (M.map (Value.int .i64))) (hb : L.length ≤ 1048576) (hb2 : M.length ≤ 1048576) :
    Calls Try.prog 11 #[.agg #[.slice a L.length ca, .slice b M.length cb], .agg #[.slice a' L.length ca', .slice b' M.length cb']] w fun e w' => e = .returned (.bool true) ∧ Below w.heap.size w w' := by
  obtain ⟨V, hV⟩ : ∃ V, V = (w.alloc (.cells #[.slice a L.length ca, .slice b M.length cb] 28)).alloc (.cells #[.slice a' L.length ca', .slice b' M.length cb'] 28) := ⟨_, rfl⟩
  have hb0 : Below w.heap.size w V := by rw [hV]; exact ((Below.refl _ _).alloc (Nat.le_refl _) _).alloc (by simp) _
  have hVs : V.heap.size = w.heap.size + 2 := by rw [hV]; simp
  have hA1 : Arr V w.heap.size 28 [.slice a L.length ca, .slice b M.length cb] := by rw [hV]; exact (Arr.new _ _ _).alloc _
  have hA2 : Arr V (w.heap.size + 1) 28 [.slice a' L.length ca', .slice b' M.length cb'] := by
    rw [hV]; have h := Arr.new (w.alloc (.cells #[.slice a L.length ca, .slice b M.length cb] 28)) 28 [.slice a' L.length ca', .slice b' M.length cb']
    rw [show (w.alloc (.cells #[.slice a L.length ca, .slice b M.length cb] 28)).heap.size = w.heap.size + 1 by simp] at h; exact h
  have c1 := ce_IntS L L a a' ca ca' V (hr.below hb0) (hr'.below hb0) (by omega) (by omega)
  have c2 := fun w2 (h : Below w.heap.size w w2) => ce_IntS M M b b' cb cb' w2 (hs.below h) (hs'.below h) (by omega) (by omega)
  rw [decide_eq_true (rfl : L = L)] at c1
  simp only [decide_true] at c2
  have h00 := hA1.cell 0
  have h10 := hA2.cell 0
  have HV := Lib.hid hV
  clear hV hr hs hr' hs'
  go_enter Try.func11, Try.ntmps11
  go_upto_region 1 with fail
  rw [← HV.out]
  go_wp2_with fail
  refine c1.mono ?_
  rintro e w1 ⟨rfl, hb1⟩
  have hbz := hb0.trans (hb1.mono hb0.size)
  have h01 := (hA1.below hb1).cell 1
  have h11 := (hA2.below hb1).cell 1
  have c3 := c2 w1 hbz
  clear c1 c2 h00 h10 hA1 hA2
  go_wp2_with fail
  refine c3.mono ?_
  rintro e w2 ⟨rfl, hb2⟩
  have hbF := hbz.trans (hb2.mono hbz.size)
  clear c3 h01 h11
  go_wp2_with fail
  go_ret
  exact ⟨rfl, hbF⟩

set_option maxRecDepth 100000 in
set_option maxHeartbeats 1600000 in
theorem cm_Relation (k0 : Int) (B1 n : Nat) (B2 m : Nat) (v u : Value) (xs ys : List Value) (w : World) (ho : w.ownsRow B1 3 1 v n xs) (hu : w.ownsRow B2 3 1 u m ys) (hne : ∀ j, u.ownBlock = some j → v.ownBlock ≠ some j) (hn : n ≤ 4611686018427387904) (hm : m ≤ 4611686018427387904) (h0 : 0 ≤ k0) (h1 : k0 + (n : Int) ≤ 1152921504606846976) :
    Calls Try.prog 12 #[.agg #[v, u], .int .i64 k0] w fun e w' => ∃ wm, e = .returned (.int .i64 (k0 + (n : Int) + (m : Int))) ∧ wm.ownsRow B1 3 1 v n (marksK k0 n) ∧ w.grownBy wm v.ownBlock ∧ w'.ownsRow B2 3 1 u m (marksK (k0 + (n : Int)) m) ∧ wm.grownBy w' u.ownBlock := by
  obtain ⟨V, hV⟩ : ∃ V, V = w.alloc (.cells #[v, u] 28) := ⟨_, rfl⟩
  have hg0 : w.grownBy V v.ownBlock := by rw [hV]; exact World.grownBy_alloc w _ _
  have hoV : V.ownsRow B1 3 1 v n xs := by rw [hV]; exact ho.alloc _
  have huV : V.ownsRow B2 3 1 u m ys := by rw [hV]; exact hu.alloc _
  have hA : Arr V w.heap.size 28 [v, u] := by rw [hV]; exact Arr.new _ _ _
  have hvl : ∀ j, v.ownBlock = some j → j < w.heap.size := fun j hj => (ho.lt j hj).2
  have hul : ∀ j, u.ownBlock = some j → j < w.heap.size := fun j hj => (hu.lt j hj).2
  have c1 := cm_IntS k0 B1 n v xs V hoV hn h0 (by omega)
  have c2 := fun w2 (h : w2.ownsRow B2 3 1 u m ys) => cm_IntS (k0 + (n : Int)) B2 m u ys w2 h hm (by omega) h1
  obtain ⟨av, kv, rfl, -⟩ := row_open ho
  obtain ⟨au, ku, rfl, -⟩ := row_open hu
  have hc0 := hA.cell 0
  have HV := Lib.hid hV
  clear hV ho hu hoV
  generalize k0 + (n : Int) = q at *
  go_enter Try.func12, Try.ntmps12
  go_upto_region 1 with fail
  rw [← HV.out]
  go_wp2_with fail
  refine c1.mono ?_
  rintro e w1 ⟨rfl, ho1, hg1⟩
  have hA1 := hA.grown hg1 (fun e => by have := hvl _ e.symm; omega)
  have hc1 := hA1.cell 1
  have hu1 := row_kept huV fun j hj => hg1.block j (huV.lt j hj).2 (fun e => hne j hj e.symm)
  have HO := Lib.hid ho1
  have HG := Lib.hid (grownBy_trans hg0 hg1)
  have c3 := c2 w1 hu1
  clear c1 c2 hc0 ho1 hg0 hg1 hA hA1 hu1 huV
  generalize hqr : q + (m : Int) = r at *
  have HQR := Lib.hid hqr
  clear hqr
  go_wp2_with fail
  refine c3.mono ?_
  rintro e w2 ⟨rfl, ho2, hg2⟩
  have HO2 := Lib.hid ho2
  have HG2 := Lib.hid hg2
  clear c3 hc1 ho2 hg2
  go_wp2_with fail
  go_ret
  exact ⟨w1, by rw [HQR.out]; rfl, HO.out, HG.out, HO2.out, HG2.out⟩
end Go.Proofs.Ytekeaigdphicaaa
