/-
  CHAPTER 5 OF THE REFERENCE: ParseSemigroup. (Own work.)
-/
import Derived.Test.YtipfonpaaebjjaaGreatL17
import Derived.Test.YtipfonpaaebjjaaGreatCh3L
namespace Go.Proofs.YtipfonpaaebjjaaGreat
open Go Go.RowKit

theorem sem_short {s : ByteArray} (h : s.size < 2) : semO s = none := by unfold semO; rw [if_neg (by omega)]
theorem sem_hit {s : ByteArray} {L : List Int} (h2 : 2 ≤ s.size) (h : readList (s.extract 1 (s.size - 1)) = some L) (he : semText L = s) : semO s = some L := by
  unfold semO
  rw [if_pos h2]
  simp only [h, if_pos he]

set_option maxRecDepth 100000 in
set_option maxHeartbeats 1600000 in
theorem spec_ParseSemigroup (s : ByteArray) (w : World) (hs : s.size ≤ 1048576) :
    Calls Tryz.prog 79 #[.string s] w (SgPost (semRead s) (semOk s) w) := by
  have hb0 := box_below w (.cells #[.slice none 0 0] 26)
  have hc0 := box_cell w (.slice none 0 0)
  have hf0 : (w.alloc (.cells #[.slice none 0 0] 26)).frozen? ⟨w.heap.size, 0, none⟩ = false := (Arr.new w 26 [.slice none 0 0]).frozen 0
  have hsz : w.heap.size < (w.alloc (.cells #[.slice none 0 0] 26)).heap.size := by simp
  by_cases h2 : s.size < 2
  · have HR := Lib.hid (sem_none (sem_short h2))
    have h2i : (s.size : Int) < 2 := by omega
    go_enter Tryz.func79, Tryz.ntmps79
    go_wp2_with fail
    exact bodyPost_ret (v := .tuple #[.agg #[.slice none 0 0], .bool false]) (by simp [results, Tryz.results79, go_sem]) rfl ⟨_, by rw [HR.out.2], by rw [HR.out.1]; exact World.ownsRow_nil _ _ _ _, hb0⟩
  · have h2' : 2 ≤ s.size := by omega
    have hx1 : (0 : Int) ≤ (s.size : Int) - 1 := by omega
    have hx2 : (1 : Int) ≤ (s.size : Int) - 1 := by omega
    have hx3 : (s.size : Int) - 1 ≤ (s.size : Int) := by omega
    have hw1 : IntKind.i64.wrap ((s.size : Int) - 1) = (s.size : Int) - 1 := IntWalk.i64_in _ (by omega)
    have ht1 : ((s.size : Int) - 1).toNat = s.size - 1 := by omega
    have hzx : (s.extract 1 (s.size - 1)).size ≤ 1048576 := by rw [ByteArray.size_extract]; omega
    have hrl := readList_length_le (s.extract 1 (s.size - 1))
    have c1 := spec_ParseList (s.extract 1 (s.size - 1)) (w.alloc (.cells #[.slice none 0 0] 26)) hzx
    have hd2 : decide ((s.size : Int) < 2) = false := decide_eq_false (by omega)
    have HO : Hid (∀ L, readList (s.extract 1 (s.size - 1)) = some L → semText L = s → semO s = some L) := Lib.hid fun L => sem_hit h2'
    have HN : Hid (∀ L, readList (s.extract 1 (s.size - 1)) = some L → semText L ≠ s → semO s = none) := Lib.hid fun L => semO_not
    have HZ : Hid (readList (s.extract 1 (s.size - 1)) = none → semO s = none) := Lib.hid semO_none
    clear h2 h2'
    cases hr : readList (s.extract 1 (s.size - 1)) with
    | none =>
      have HR := Lib.hid (sem_none (HZ.out hr))
      rw [hr] at c1
      clear HO HN HZ hr hrl
      go_enter Tryz.func79, Tryz.ntmps79
      go_wp2_with fail
      refine c1.mono ?_
      rintro e w1 ⟨g, cap, rfl, ho, hb1⟩
      have hc1 : w1.cell? ⟨w.heap.size, 0, none⟩ = some (.slice none 0 0) := (hb1.cell (p := ⟨w.heap.size, 0, none⟩) hsz).trans hc0
      have hf1 : w1.frozen? ⟨w.heap.size, 0, none⟩ = false := (hb1.frozen (p := ⟨w.heap.size, 0, none⟩) hsz).trans hf0
      have hz1 := Nat.lt_of_lt_of_le hsz hb1.size
      have hbz1 := hb0.trans (hb1.mono (Nat.le_of_lt hsz))
      clear c1 ho hb1 hc0 hf0
      dsimp only [Option.getD_none, List.length_nil, Option.isSome_none]
      go_wp2_with fail
      have hcf : ((w1.setCell ⟨w.heap.size, 0, none⟩ (.slice none 0 0)).alloc (.cells #[.slice (some ⟨g, 0, none⟩) 0 cap] 26)).cell? ⟨w.heap.size, 0, none⟩ = some (.slice none 0 0) := by
        rw [World.cell?_alloc_lt _ _ _ (by simp; omega)]
        exact World.cell?_setCell_same w1 ⟨w.heap.size, 0, none⟩ (.slice none 0 0) hc1
      exact bodyPost_ret (v := .tuple #[.agg #[.slice none 0 0], .bool false]) (by simp [results, Tryz.results79, go_sem, hcf]) rfl ⟨_, by rw [HR.out.2], by rw [HR.out.1]; exact World.ownsRow_nil _ _ _ _, (hbz1.setCell (p := ⟨w.heap.size, 0, none⟩) (Nat.le_refl _) _).alloc (by simp; omega) _⟩
    | some L =>
      rw [hr] at c1 hrl
      go_enter Tryz.func79, Tryz.ntmps79
      go_wp2_with fail
      refine c1.mono ?_
      rintro e w1 ⟨g, cap, rfl, ho, hb1⟩
      dsimp only [Option.getD_some, Option.isSome_some] at ho hrl ⊢
      have hc1 : w1.cell? ⟨w.heap.size, 0, none⟩ = some (.slice none 0 0) := (hb1.cell (p := ⟨w.heap.size, 0, none⟩) hsz).trans hc0
      have hf1 : w1.frozen? ⟨w.heap.size, 0, none⟩ = false := (hb1.frozen (p := ⟨w.heap.size, 0, none⟩) hsz).trans hf0
      have hz1 := Nat.lt_of_lt_of_le hsz hb1.size
      have hbz1 := hb0.trans (hb1.mono (Nat.le_of_lt hsz))
      obtain ⟨a1, k1, he1, rX⟩ := row_open ho
      cases he1
      have hLL : L.length ≤ 1048576 := by rw [ByteArray.size_extract] at hrl; omega
      have hb2 := box_below w1 (.cells #[.slice (some ⟨g, 0, none⟩) L.length cap] 26)
      have hc2 := box_cell w1 (.slice (some ⟨g, 0, none⟩) L.length cap)
      have c3 := spec_SemigroupText L (some ⟨g, 0, none⟩) cap (w1.alloc (.cells #[.slice (some ⟨g, 0, none⟩) L.length cap] 26)) (rX.slv.below hb2) hLL
      have hz2 : w1.heap.size < (w1.alloc (.cells #[.slice (some ⟨g, 0, none⟩) L.length cap] 26)).heap.size := by simp
      have hc12 : (w1.alloc (.cells #[.slice (some ⟨g, 0, none⟩) L.length cap] 26)).cell? ⟨w.heap.size, 0, none⟩ = some (.slice none 0 0) := (hb2.cell (p := ⟨w.heap.size, 0, none⟩) hz1).trans hc1
      have hf12 : (w1.alloc (.cells #[.slice (some ⟨g, 0, none⟩) L.length cap] 26)).frozen? ⟨w.heap.size, 0, none⟩ = false := (hb2.frozen (p := ⟨w.heap.size, 0, none⟩) hz1).trans hf1
      have hbz2 := hbz1.trans (hb2.mono hbz1.size)
      have HOW := Lib.hid ho
      have hzz := Nat.lt_trans hz1 hz2
      have HLL := Lib.hid hr
      clear c1 ho rX hc0 hf0 hc1 hf1 hr hrl hLL HZ
      by_cases he : semText L = s
      · have HR := Lib.hid (sem_some (HO.out L HLL.out he))
        have hq : ((semText L).toList == s.toList) = true := by rw [he]; simp
        clear he HO HN HLL
        generalize semText L = q at *
        generalize hN : L.length = N at *
        have HNN := Lib.hid hN
        clear hN
        go_wp2_with fail
        refine c3.mono ?_
        rintro e w3 ⟨rfl, hb3⟩
        have hc3 : w3.cell? ⟨w.heap.size, 0, none⟩ = some (.slice none 0 0) := (hb3.cell (p := ⟨w.heap.size, 0, none⟩) hzz).trans hc12
        have hf3 : w3.frozen? ⟨w.heap.size, 0, none⟩ = false := (hb3.frozen (p := ⟨w.heap.size, 0, none⟩) hzz).trans hf12
        have hcs : w3.cell? ⟨w1.heap.size, 0, none⟩ = some (.slice (some ⟨g, 0, none⟩) N cap) := (hb3.cell (p := ⟨w1.heap.size, 0, none⟩) hz2).trans hc2
        have hbz3 := hbz2.trans (hb3.mono hbz2.size)
        clear c3 hc12 hf12 hc2 hb0
        go_wp2_with fail
        have hcf := World.cell?_setCell_same w3 ⟨w.heap.size, 0, none⟩ (.slice (some ⟨g, 0, none⟩) N cap) hc3
        refine bodyPost_ret (v := .tuple #[.agg #[.slice (some ⟨g, 0, none⟩) N cap], .bool true]) (by simp [results, Tryz.results79, go_sem, hcf]) rfl ⟨_, by rw [HR.out.2], ?_, hbz3.setCell (Nat.le_refl _) _⟩
        rw [HR.out.1]
        obtain rfl := HNN.out
        have ho := HOW.out
        refine ownsBase (row_kept ho fun j hj => ?_) (Nat.le_of_lt hsz)
        obtain ⟨hj1, hj2⟩ := ho.lt j hj
        rw [heap_setCell_other w3 ⟨w.heap.size, 0, none⟩ j _ (by show j ≠ w.heap.size; omega), hb3.block j (by omega), hb2.block j hj2]
      · have HR := Lib.hid (sem_none (HN.out L HLL.out he))
        have hq : ((semText L).toList == s.toList) = false := by
          rw [beq_eq_false_iff_ne]
          intro h
          rw [ByteArray.toList_eq, ByteArray.toList_eq] at h
          exact he (ba_ext h)
        clear he HO HN HLL HOW
        generalize semText L = q at *
        generalize L.length = N at *
        go_wp2_with fail
        refine c3.mono ?_
        rintro e w3 ⟨rfl, hb3⟩
        have hc3 : w3.cell? ⟨w.heap.size, 0, none⟩ = some (.slice none 0 0) := (hb3.cell (p := ⟨w.heap.size, 0, none⟩) hzz).trans hc12
        have hf3 : w3.frozen? ⟨w.heap.size, 0, none⟩ = false := (hb3.frozen (p := ⟨w.heap.size, 0, none⟩) hzz).trans hf12
        have hbz3 := hbz2.trans (hb3.mono hbz2.size)
        clear c3 hc12 hf12 hb2 hc2 hb1 hb0
        go_wp2_with fail
        have hcf := World.cell?_setCell_same w3 ⟨w.heap.size, 0, none⟩ (.slice none 0 0) hc3
        exact bodyPost_ret (v := .tuple #[.agg #[.slice none 0 0], .bool false]) (by simp [results, Tryz.results79, go_sem, hcf]) rfl ⟨_, by rw [HR.out.2], by rw [HR.out.1]; exact World.ownsRow_nil _ _ _ _, hbz3.setCell (Nat.le_refl _) _⟩
end Go.Proofs.YtipfonpaaebjjaaGreat
