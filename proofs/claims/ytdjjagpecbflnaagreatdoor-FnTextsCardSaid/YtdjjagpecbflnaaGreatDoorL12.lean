/-
  CONTRACTS of the reference's chapter 3, last part: l3Has, Contains, MultiplicityOf, DimensionOf, EqualSemigroup, FromGens.
-/
import Derived.Test.YtdjjagpecbflnaaGreatDoorL11
namespace Go.Proofs.YtdjjagpecbflnaaGreatDoor
open Go Go.RowKit

/-- A struct of one slice in a variable of its own. -/
theorem box_cell (w : World) (v : Value) : (w.alloc (.cells #[v] 26)).cell? ⟨w.heap.size, 0, none⟩ = some v := (Arr.new w 26 [v]).cell 0
theorem box_below (w : World) (o : Obj) : Below w.heap.size w (w.alloc o) := (Below.refl _ _).alloc (Nat.le_refl _) _





set_option maxRecDepth 100000 in
set_option maxHeartbeats 800000 in
theorem spec_EqualSemigroup (L M : List Int) (a c : Option Addr) (cap cap2 : Nat) (w : World) (hr : SlV w a (L.map (Value.int .i64))) (hs : SlV w c (M.map (Value.int .i64))) (hb : L.length ≤ 4611686018427387904) (hb2 : M.length ≤ 4611686018427387904) :
    Calls Tryz.prog 13 #[.agg #[.slice a L.length cap], .agg #[.slice c M.length cap2]] w fun e w' => e = .returned (.bool (decide (L = M))) ∧ Below w.heap.size w w' := by
  have hb0 : Below w.heap.size w ((w.alloc (.cells #[.slice a L.length cap] 26)).alloc (.cells #[.slice c M.length cap2] 26)) := ((Below.refl _ _).alloc (Nat.le_refl _) _).alloc (by simp) _
  have c1 := spec_l2Same L M a c cap cap2 _ (hr.below hb0) (hs.below hb0) hb hb2
  clear hr hs
  generalize decide (L = M) = q at *
  go_enter Tryz.func13, Tryz.ntmps13
  go_wp2_with fail
  refine c1.mono ?_
  rintro e w1 ⟨rfl, hb1⟩
  have hbz := hb0.trans (hb1.mono hb0.size)
  go_wp2_with fail
  go_ret
  exact ⟨rfl, hbz⟩

/-- A call made a semigroup of a row of ints of its own, and says whether it did. -/
def SgPost (M : List Int) (b : Bool) (w : World) (e : Ending) (w' : World) : Prop :=
  ∃ v, e = .returned (.tuple #[.agg #[v], .bool b]) ∧ w'.ownsRow w.heap.size 3 1 v M.length (M.map (Value.int .i64)) ∧ Below w.heap.size w w'

set_option maxRecDepth 100000 in
set_option maxHeartbeats 800000 in
theorem spec_FromGens (L : List Int) (a : Option Addr) (cap : Nat) (w : World) (hr : SlV w a (L.map (Value.int .i64))) (hb : L.length ≤ 1048576) :
    Calls Tryz.prog 54 #[.slice a L.length cap] w (SgPost (fromL L) (fromB L) w) := by
  have hb0 := box_below w (.cells #[.slice none 0 0] 26)
  have hsz : w.heap.size < (w.alloc (.cells #[.slice none 0 0] 26)).heap.size := by simp
  have c1 := spec_l3Gens L a cap (w.alloc (.cells #[.slice none 0 0] 26)) (hr.below hb0) hb
  cases hok : okG L
  · have hf : fromB L = false := by unfold fromB; rw [hok]; rfl
    have HR := Lib.hid hf
    rw [hok] at c1
    clear hr hok hf
    go_enter Tryz.func54, Tryz.ntmps54
    go_wp2_with fail
    refine c1.mono ?_
    rintro e w1 ⟨rfl, rfl⟩
    go_wp2_with fail
    exact bodyPost_ret (v := .tuple #[.agg #[.slice none 0 0], .bool false]) (by simp [results, Tryz.results54, go_sem]) rfl ⟨_, by rw [HR.out], by rw [fromL_no HR.out]; exact World.ownsRow_nil _ _ _ _, hb0⟩
  · rw [hok] at c1
    obtain ⟨hG, -, hl2⟩ := okG_iff.1 hok
    have c2 := spec_l3Minimal L a cap (w.alloc (.cells #[.slice none 0 0] 26)) (hr.below hb0) hok
    have hml := minL_length_le L
    have hc0 := box_cell w (.slice none 0 0)
    have hf0 : (w.alloc (.cells #[.slice none 0 0] 26)).frozen? ⟨w.heap.size, 0, none⟩ = false := (Arr.new w 26 [.slice none 0 0]).frozen 0
    have HF : Hid (fromB L = isSgB (minL L)) := Lib.hid (by unfold fromB; rw [hok]; rfl)
    clear hr hok hG
    go_enter Tryz.func54, Tryz.ntmps54
    go_wp2_with fail
    refine c1.mono ?_
    rintro e w1 ⟨rfl, rfl⟩
    go_wp2_with fail
    refine c2.mono ?_
    rintro e w1 ⟨v, rfl, ho, hb1⟩
    obtain ⟨a1, k1, rfl, rX⟩ := row_open ho
    have hc1 : w1.cell? ⟨w.heap.size, 0, none⟩ = some (.slice none 0 0) := (hb1.cell (p := ⟨w.heap.size, 0, none⟩) hsz).trans hc0
    have hf1 : w1.frozen? ⟨w.heap.size, 0, none⟩ = false := (hb1.frozen (p := ⟨w.heap.size, 0, none⟩) hsz).trans hf0
    have hz1 := Nat.lt_of_lt_of_le hsz hb1.size
    have hbz1 := hb0.trans (hb1.mono (Nat.le_of_lt hsz))
    have hb2 := box_below w1 (.cells #[.slice a1 (minL L).length k1] 26)
    have hc2 := box_cell w1 (.slice a1 (minL L).length k1)
    have c3 := spec_IsSemigroup (minL L) a1 k1 (w1.alloc (.cells #[.slice a1 (minL L).length k1] 26)) (rX.slv.below hb2) (by omega)
    have hz2 : w1.heap.size < (w1.alloc (.cells #[.slice a1 (minL L).length k1] 26)).heap.size := by simp
    have hc12 : (w1.alloc (.cells #[.slice a1 (minL L).length k1] 26)).cell? ⟨w.heap.size, 0, none⟩ = some (.slice none 0 0) := (hb2.cell (p := ⟨w.heap.size, 0, none⟩) hz1).trans hc1
    have hf12 : (w1.alloc (.cells #[.slice a1 (minL L).length k1] 26)).frozen? ⟨w.heap.size, 0, none⟩ = false := (hb2.frozen (p := ⟨w.heap.size, 0, none⟩) hz1).trans hf1
    have hbz2 := hbz1.trans (hb2.mono hbz1.size)
    have HO := Lib.hid ho
    have hzz := Nat.lt_trans hz1 hz2
    clear c1 c2 ho rX hc0 hf0 hc1 hf1
    cases hs : isSgB (minL L)
    · have HR : Hid (fromB L = false) := Lib.hid (by rw [HF.out]; exact hs)
      rw [hs] at c3
      clear hs
      generalize (minL L).length = N at *
      go_wp2_with fail
      refine c3.mono ?_
      rintro e w3 ⟨rfl, hb3⟩
      have hc3 : w3.cell? ⟨w.heap.size, 0, none⟩ = some (.slice none 0 0) := (hb3.cell (p := ⟨w.heap.size, 0, none⟩) hzz).trans hc12
      have hf3 : w3.frozen? ⟨w.heap.size, 0, none⟩ = false := (hb3.frozen (p := ⟨w.heap.size, 0, none⟩) hzz).trans hf12
      have hbz3 := hbz2.trans (hb3.mono hbz2.size)
      clear c3 hc12 hf12 hb2 hc2 hb1 hb0
      go_wp2_with fail
      have hcf := World.cell?_setCell_same w3 ⟨w.heap.size, 0, none⟩ (.slice none 0 0) hc3
      exact bodyPost_ret (v := .tuple #[.agg #[.slice none 0 0], .bool false]) (by simp [results, Tryz.results54, go_sem, hcf]) rfl ⟨_, by rw [HR.out], by rw [fromL_no HR.out]; exact World.ownsRow_nil _ _ _ _, hbz3.setCell (Nat.le_refl _) _⟩
    · have HR : Hid (fromB L = true) := Lib.hid (by rw [HF.out]; exact hs)
      rw [hs] at c3
      clear hs
      generalize hN : (minL L).length = N at *
      have HN := Lib.hid hN
      clear hN
      go_wp2_with fail
      refine c3.mono ?_
      rintro e w3 ⟨rfl, hb3⟩
      have hc3 : w3.cell? ⟨w.heap.size, 0, none⟩ = some (.slice none 0 0) := (hb3.cell (p := ⟨w.heap.size, 0, none⟩) hzz).trans hc12
      have hf3 : w3.frozen? ⟨w.heap.size, 0, none⟩ = false := (hb3.frozen (p := ⟨w.heap.size, 0, none⟩) hzz).trans hf12
      have hcs : w3.cell? ⟨w1.heap.size, 0, none⟩ = some (.slice a1 N k1) := (hb3.cell (p := ⟨w1.heap.size, 0, none⟩) hz2).trans hc2
      have hbz3 := hbz2.trans (hb3.mono hbz2.size)
      clear c3 hc12 hf12 hc2 hb0
      go_wp2_with fail
      have hcf := World.cell?_setCell_same w3 ⟨w.heap.size, 0, none⟩ (.slice a1 N k1) hc3
      refine bodyPost_ret (v := .tuple #[.agg #[.slice a1 N k1], .bool true]) (by simp [results, Tryz.results54, go_sem, hcf]) rfl ⟨_, by rw [HR.out], ?_, hbz3.setCell (Nat.le_refl _) _⟩
      rw [fromL_yes HR.out]
      obtain rfl := HN.out
      have ho := HO.out
      refine ownsBase (row_kept ho fun j hj => ?_) (Nat.le_of_lt hsz)
      obtain ⟨hj1, hj2⟩ := ho.lt j hj
      rw [heap_setCell_other w3 ⟨w.heap.size, 0, none⟩ j _ (by show j ≠ w.heap.size; omega), hb3.block j (by omega), hb2.block j hj2]
end Go.Proofs.YtdjjagpecbflnaaGreatDoor
