/-
  CONTRACTS of the program's chapter 3, last part: IsSemigroup, Contains, MultiplicityOf, DimensionOf, FromGens, Generates.
-/
import Derived.Test.YtjnkdefogmfcnaaI11
namespace Go.Proofs.Ytjnkdefogmfcnaa
open Go Go.RowKit

set_option maxRecDepth 100000 in
set_option maxHeartbeats 800000 in
theorem impl_IsSemigroup (G : List Int) (a : Option Addr) (cap : Nat) (w : World) (hr : SlV w a (G.map (Value.int .i64))) (hb : G.length ≤ 1048576) :
    Calls Try.prog 23 #[.agg #[.slice a G.length cap]] w fun e w' => e = .returned (.bool (isSgB G)) ∧ Below w.heap.size w w' := by
  have hb0 := box_below w (.cells #[.slice a G.length cap] 28)
  have hc0 := box_cell w (.slice a G.length cap)
  have c1 := impl_elementsOf G a cap _ (hr.below hb0) hb
  have HT := fun f => Lib.hid (tabB_one f 260)
  clear hr
  unfold ElPost at c1
  generalize isSgB G = q at *
  go_enter Try.func23, Try.ntmps23
  go_wp2_with fail
  refine c1.mono ?_
  rintro e w1 ⟨rfl, hb1⟩
  have hbz := hb0.trans (hb1.mono hb0.size)
  have hA := Arr.new w1 60 (tabB (fun _ => false) 260)
  have hbz2 := hbz.alloc (o := .cells (tabB (fun _ => false) 260).toArray 60) hbz.size
  clear c1 hc0 hb1 hb0
  go_wp2_with (first
    | (refine wpList_alloc_arr 60 (tabB (fun _ => false) 260) zeroT rfl rfl ?_)
    | (refine wpList_store_arr 60 (.tmp 3) (.tmp 8) w1.heap.size (tabB (fun _ => false) 260) (tabB (elF G) 260) rfl rfl rfl rfl hA (by rw [tabB_length, tabB_length]) (sizeTl _) (HT _).out ?_; intro w3 hB hg3 hz3; clear hz3))
  have hb3 := hbz2.grown hg3 hbz2.size (fun k hk => by cases hk; exact hbz.size)
  go_ret
  exact ⟨rfl, hb3⟩

theorem hasN_way (G : List Int) (n : Int) : isSgB G = true → hasN G n = if 200 ≤ n then true else if 0 ≤ n then elF G n.toNat else false := by
  intro hs
  split
  · next h => exact hasN_far hs h
  · split
    · next h => unfold hasN elF; rw [decide_eq_true h, Bool.and_true]
    · next h => exact hasN_neg (by omega)

set_option maxRecDepth 100000 in
set_option maxHeartbeats 800000 in
theorem impl_Contains (G : List Int) (n : Int) (a : Option Addr) (cap : Nat) (w : World) (hr : SlV w a (G.map (Value.int .i64))) (hb : G.length ≤ 1048576) :
    Calls Try.prog 21 #[.agg #[.slice a G.length cap], .int .i64 n] w fun e w' => e = .returned (.bool (hasN G n)) ∧ Below w.heap.size w w' := by
  have hb0 := box_below w (.cells #[.slice a G.length cap] 28)
  have hc0 := box_cell w (.slice a G.length cap)
  have c1 := impl_elementsOf G a cap _ (hr.below hb0) hb
  have HT := fun f => Lib.hid (tabB_one f 260)
  clear hr
  cases hs : isSgB G
  · have HR := Lib.hid (hasN_not hs n)
    unfold ElPost at c1
    rw [hs] at c1
    clear hs
    go_enter Try.func21, Try.ntmps21
    go_wp2_with fail
    refine c1.mono ?_
    rintro e w1 ⟨rfl, hb1⟩
    have hbz := hb0.trans (hb1.mono hb0.size)
    have hA := Arr.new w1 60 (tabB (fun _ => false) 260)
    have hbz2 := hbz.alloc (o := .cells (tabB (fun _ => false) 260).toArray 60) hbz.size
    clear c1 hc0 hb1 hb0
    go_wp2_with (first
      | (refine wpList_alloc_arr 60 (tabB (fun _ => false) 260) zeroT rfl rfl ?_)
      | (refine wpList_store_arr 60 (.tmp 5) (.tmp 10) w1.heap.size (tabB (fun _ => false) 260) (tabB (elF G) 260) rfl rfl rfl rfl hA (by rw [tabB_length, tabB_length]) (sizeTl _) (HT _).out ?_; intro w3 hB hg3 hz3; clear hz3))
    have hb3 := hbz2.grown hg3 hbz2.size (fun k hk => by cases hk; exact hbz.size)
    go_ret
    exact ⟨by rw [HR.out]; rfl, hb3⟩
  · have ch := fun w => impl_has (elF G) n (hasN G n) w (hasN_way G n hs)
    unfold ElPost at c1
    rw [hs] at c1
    clear hs
    generalize hasN G n = q at *
    go_enter Try.func21, Try.ntmps21
    go_wp2_with fail
    refine c1.mono ?_
    rintro e w1 ⟨rfl, hb1⟩
    have hbz := hb0.trans (hb1.mono hb0.size)
    have hA := Arr.new w1 60 (tabB (fun _ => false) 260)
    have hbz2 := hbz.alloc (o := .cells (tabB (fun _ => false) 260).toArray 60) hbz.size
    clear c1 hc0 hb1 hb0
    go_wp2_with (first
      | (refine wpList_alloc_arr 60 (tabB (fun _ => false) 260) zeroT rfl rfl ?_)
      | (refine wpList_store_arr 60 (.tmp 5) (.tmp 10) w1.heap.size (tabB (fun _ => false) 260) (tabB (elF G) 260) rfl rfl rfl rfl hA (by rw [tabB_length, tabB_length]) (sizeTl _) (HT _).out ?_; intro w3 hB hg3 hz3; clear hz3))
    refine wp_load_mid 60 (.tmp 5) rfl w1.heap.size 0 rfl (tabB (elF G) 260) (.array 260 4) hB.range undT rfl (sizeTl _) ?_
    go_wp2_with fail
    have hb3 := hbz2.grown hg3 hbz2.size (fun k hk => by cases hk; exact hbz.size)
    refine (ch _).mono ?_
    rintro e w4 ⟨rfl, hb4⟩
    have hbz4 := hb3.trans (hb4.mono hb3.size)
    go_wp2_with fail
    go_ret
    exact ⟨rfl, hbz4⟩

set_option maxRecDepth 100000 in
set_option maxHeartbeats 800000 in
theorem impl_MultiplicityOf (G : List Int) (a : Option Addr) (cap : Nat) (w : World) (hr : SlV w a (G.map (Value.int .i64))) (hb : G.length ≤ 1048576) :
    Calls Try.prog 27 #[.agg #[.slice a G.length cap]] w fun e w' => e = .returned (.int .i64 (multN G)) ∧ Below w.heap.size w w' := by
  have hb0 := box_below w (.cells #[.slice a G.length cap] 28)
  have hc0 := box_cell w (.slice a G.length cap)
  have hsz : w.heap.size < (w.alloc (.cells #[.slice a G.length cap] 28)).heap.size := by simp
  have c1 := impl_IsSemigroup G a cap (w.alloc (.cells #[.slice a G.length cap] 28)) (hr.below hb0) hb
  cases hs : isSgB G
  · have HR : Hid (multN G = 0) := Lib.hid (by unfold multN; rw [hs]; rfl)
    rw [hs] at c1
    clear hr hs
    go_enter Try.func27, Try.ntmps27
    go_wp2_with fail
    refine c1.mono ?_
    rintro e w1 ⟨rfl, hb1⟩
    have hbz := hb0.trans (hb1.mono (Nat.le_of_lt hsz))
    go_wp2_with fail
    go_ret
    exact ⟨by rw [HR.out]; rfl, hbz⟩
  · rw [hs] at c1
    obtain ⟨x, r, rfl⟩ : ∃ x r, G = x :: r := by
      cases G with
      | nil => rw [isSgB_nil] at hs; cases hs
      | cons x r => exact ⟨x, r, rfl⟩
    have HR : Hid (multN (x :: r) = x) := Lib.hid (by unfold multN; rw [hs]; rfl)
    obtain ⟨b, off, rfl, hbs, hc⟩ := hr.open (by simp)
    have hcell : w.cell? ⟨b, off, none⟩ = some (.int .i64 x) := by have := hc 0 (.int .i64 x) (by simp); simpa using this
    clear hr hs hc
    have hlen : 0 < (x :: r).length := by simp
    generalize (x :: r).length = L at *
    go_enter Try.func27, Try.ntmps27
    go_wp2_with fail
    refine c1.mono ?_
    rintro e w1 ⟨rfl, hb1⟩
    have hbz := hb0.trans (hb1.mono (Nat.le_of_lt hsz))
    have hc1 : w1.cell? ⟨w.heap.size, 0, none⟩ = some (.slice (some ⟨b, off, none⟩) L cap) := (hb1.cell (p := ⟨w.heap.size, 0, none⟩) hsz).trans hc0
    have hc2 : w1.cell? ⟨b, off, none⟩ = some (.int .i64 x) := (hbz.cell (p := ⟨b, off, none⟩) hbs).trans hcell
    clear c1 hc0 hb1 hb0 hcell
    go_wp2_with fail
    go_ret
    exact ⟨by rw [HR.out]; rfl, hbz⟩

set_option maxRecDepth 100000 in
set_option maxHeartbeats 800000 in
theorem impl_DimensionOf (G : List Int) (a : Option Addr) (cap : Nat) (w : World) (hr : SlV w a (G.map (Value.int .i64))) (hb : G.length ≤ 1048576) :
    Calls Try.prog 29 #[.agg #[.slice a G.length cap]] w fun e w' => e = .returned (.int .i64 (dimN G)) ∧ Below w.heap.size w w' := by
  have hb0 := box_below w (.cells #[.slice a G.length cap] 28)
  have hc0 := box_cell w (.slice a G.length cap)
  have hsz : w.heap.size < (w.alloc (.cells #[.slice a G.length cap] 28)).heap.size := by simp
  have c1 := impl_IsSemigroup G a cap (w.alloc (.cells #[.slice a G.length cap] 28)) (hr.below hb0) hb
  cases hs : isSgB G
  · have HR : Hid (dimN G = 0) := Lib.hid (by unfold dimN; rw [hs]; rfl)
    rw [hs] at c1
    clear hr hs
    go_enter Try.func29, Try.ntmps29
    go_wp2_with fail
    refine c1.mono ?_
    rintro e w1 ⟨rfl, hb1⟩
    have hbz := hb0.trans (hb1.mono (Nat.le_of_lt hsz))
    go_wp2_with fail
    go_ret
    exact ⟨by rw [HR.out]; rfl, hbz⟩
  · have HR : Hid (dimN G = (G.length : Int)) := Lib.hid (by unfold dimN; rw [hs]; rfl)
    rw [hs] at c1
    clear hr hs
    go_enter Try.func29, Try.ntmps29
    go_wp2_with fail
    refine c1.mono ?_
    rintro e w1 ⟨rfl, hb1⟩
    have hbz := hb0.trans (hb1.mono (Nat.le_of_lt hsz))
    have hc1 : w1.cell? ⟨w.heap.size, 0, none⟩ = some (.slice a G.length cap) := (hb1.cell (p := ⟨w.heap.size, 0, none⟩) hsz).trans hc0
    clear c1 hc0 hb1 hb0
    go_wp2_with fail
    go_ret
    exact ⟨by rw [HR.out]; rfl, hbz⟩

set_option maxRecDepth 100000 in
set_option maxHeartbeats 1600000 in
theorem impl_FromGens (L : List Int) (a : Option Addr) (cap : Nat) (w : World) (hr : SlW w a cap (L.map (Value.int .i64))) (hb : L.length ≤ 1048576) :
    Calls Try.prog 16 #[.slice a L.length cap] w (SgPost (fromL L) (fromB L) w) := by
  have hb0 := box_below w (.cells #[.slice none 0 0] 28)
  have hsz : w.heap.size < (w.alloc (.cells #[.slice none 0 0] 28)).heap.size := by simp
  have c1 := impl_areListed L a cap (w.alloc (.cells #[.slice none 0 0] 28)) (hr.sl.below hb0) hb
  cases hok : okG L
  · have hf : fromB L = false := by unfold fromB; rw [hok]; rfl
    have HR := Lib.hid hf
    rw [hok] at c1
    clear hr hok hf
    go_enter Try.func16, Try.ntmps16
    go_wp2_with fail
    refine c1.mono ?_
    rintro e w1 ⟨rfl, rfl⟩
    go_wp2_with fail
    exact bodyPost_ret (v := .tuple #[.agg #[.slice none 0 0], .bool false]) (by simp [results, Try.results16, go_sem]) rfl ⟨_, by rw [HR.out], by rw [fromL_no HR.out]; exact World.ownsRow_nil _ _ _ _, hb0⟩
  · rw [hok] at c1
    obtain ⟨hG, -, hl2⟩ := okG_iff.1 hok
    have c2 := impl_SortList L a cap (w.alloc (.cells #[.slice none 0 0] 28)) (hr.below hb0) hb
    have hsl := sortL_length_le L
    have ct := fun w' a' c' (h : SlV w' a' ((sortL L).map (Value.int .i64))) => impl_tableOfSums (sortL L) a' c' w' h (sortL_spec L).1 (fun x hx => hG x (((sortL_spec L).2 x).1 hx)) (by omega)
    have hml := minL_length_le L
    have hmm : Hid (minOf (sortL L) = minL L) := Lib.hid rfl
    have hc0 := box_cell w (.slice none 0 0)
    have hf0 : (w.alloc (.cells #[.slice none 0 0] 28)).frozen? ⟨w.heap.size, 0, none⟩ = false := (Arr.new w 28 [.slice none 0 0]).frozen 0
    have HF : Hid (fromB L = isSgB (minL L)) := Lib.hid (by unfold fromB; rw [hok]; rfl)
    have HT := fun f => Lib.hid (tabB_one f 260)
    clear hr hok hG
    go_enter Try.func16, Try.ntmps16
    go_wp2_with fail
    refine c1.mono ?_
    rintro e w1 ⟨rfl, rfl⟩
    go_wp2_with fail
    refine c2.mono ?_
    rintro e w1 ⟨v, rfl, ho, hb1⟩
    obtain ⟨a1, k1, rfl, rX⟩ := row_open ho
    have hx := ct w1 a1 k1 rX.slv
    have hc1 : w1.cell? ⟨w.heap.size, 0, none⟩ = some (.slice none 0 0) := (hb1.cell (p := ⟨w.heap.size, 0, none⟩) hsz).trans hc0
    have hf1 : w1.frozen? ⟨w.heap.size, 0, none⟩ = false := (hb1.frozen (p := ⟨w.heap.size, 0, none⟩) hsz).trans hf0
    have hz1 := Nat.lt_of_lt_of_le hsz hb1.size
    have hbz1 := hb0.trans (hb1.mono (Nat.le_of_lt hsz))
    clear c1 c2 ct ho rX hc0 hf0 hb1 hb0
    go_wp2_with fail
    refine hx.mono ?_
    rintro e w2 ⟨v, rfl, ho, hb2⟩
    rw [hmm.out] at ho
    obtain ⟨a2, k2, rfl, rX⟩ := row_open ho
    have hc2 : w2.cell? ⟨w.heap.size, 0, none⟩ = some (.slice none 0 0) := (hb2.cell (p := ⟨w.heap.size, 0, none⟩) hz1).trans hc1
    have hf2 : w2.frozen? ⟨w.heap.size, 0, none⟩ = false := (hb2.frozen (p := ⟨w.heap.size, 0, none⟩) hz1).trans hf1
    have hz2 := Nat.lt_of_lt_of_le hz1 hb2.size
    have hbz2 := hbz1.trans (hb2.mono hbz1.size)
    have hA := Arr.new w2 60 (tabB (fun _ => false) 260)
    have hba := box_below w2 (.cells (tabB (fun _ => false) 260).toArray 60)
    clear hx hc1 hf1 hbz1 hb2
    go_wp2_with (first
      | (refine wpList_alloc_arr 60 (tabB (fun _ => false) 260) zeroT rfl rfl ?_)
      | (refine wpList_store_arr 60 (.tmp 4) (.tmp 15) w2.heap.size (tabB (fun _ => false) 260) (tabB (sumB (sortL L)) 260) rfl rfl rfl rfl hA (by rw [tabB_length, tabB_length]) (sizeTl _) (HT _).out ?_; intro w3 hB hg3 hz3; clear hz3; have hbx := hba.grown hg3 hba.size (fun k hk => by cases hk; exact Nat.le_refl _)))
    have hc3 : w3.cell? ⟨w.heap.size, 0, none⟩ = some (.slice none 0 0) := (hbx.cell (p := ⟨w.heap.size, 0, none⟩) hz2).trans hc2
    have hf3 : w3.frozen? ⟨w.heap.size, 0, none⟩ = false := (hbx.frozen (p := ⟨w.heap.size, 0, none⟩) hz2).trans hf2
    have hz3 := Nat.lt_of_lt_of_le hz2 hbx.size
    have hbz3 := hbz2.trans (hbx.mono hbz2.size)
    have hbs := box_below w3 (.cells #[.slice a2 (minL L).length k2] 28)
    have hcs := box_cell w3 (.slice a2 (minL L).length k2)
    have hsl3 := (rX.slv.below hbx).below hbs
    have c3 := impl_IsSemigroup (minL L) a2 k2 (w3.alloc (.cells #[.slice a2 (minL L).length k2] 28)) hsl3 (by omega)
    have hzs : w3.heap.size < (w3.alloc (.cells #[.slice a2 (minL L).length k2] 28)).heap.size := by simp
    have hc12 : (w3.alloc (.cells #[.slice a2 (minL L).length k2] 28)).cell? ⟨w.heap.size, 0, none⟩ = some (.slice none 0 0) := (hbs.cell (p := ⟨w.heap.size, 0, none⟩) hz3).trans hc3
    have hf12 : (w3.alloc (.cells #[.slice a2 (minL L).length k2] 28)).frozen? ⟨w.heap.size, 0, none⟩ = false := (hbs.frozen (p := ⟨w.heap.size, 0, none⟩) hz3).trans hf3
    have hbzs := hbz3.trans (hbs.mono hbz3.size)
    have hzz := Nat.lt_trans hz3 hzs
    have HO := Lib.hid ho
    clear hmm hA hba hg3 hB hc2 hf2 hc3 hf3 rX hsl3 ho
    cases hs : isSgB (minL L)
    · have HR : Hid (fromB L = false) := Lib.hid (by rw [HF.out]; exact hs)
      rw [hs] at c3
      clear hs
      generalize (minL L).length = N at *
      refine c3.mono ?_
      rintro e w4 ⟨rfl, hb3⟩
      have hc3 : w4.cell? ⟨w.heap.size, 0, none⟩ = some (.slice none 0 0) := (hb3.cell (p := ⟨w.heap.size, 0, none⟩) hzz).trans hc12
      have hf3 : w4.frozen? ⟨w.heap.size, 0, none⟩ = false := (hb3.frozen (p := ⟨w.heap.size, 0, none⟩) hzz).trans hf12
      have hbz4 := hbzs.trans (hb3.mono hbzs.size)
      clear c3 hc12 hf12 hbs hcs hbx
      go_wp2_with fail
      have hcf := World.cell?_setCell_same w4 ⟨w.heap.size, 0, none⟩ (.slice none 0 0) hc3
      exact bodyPost_ret (v := .tuple #[.agg #[.slice none 0 0], .bool false]) (by simp [results, Try.results16, go_sem, hcf]) rfl ⟨_, by rw [HR.out], by rw [fromL_no HR.out]; exact World.ownsRow_nil _ _ _ _, hbz4.setCell (Nat.le_refl _) _⟩
    · have HR : Hid (fromB L = true) := Lib.hid (by rw [HF.out]; exact hs)
      rw [hs] at c3
      clear hs
      generalize hN : (minL L).length = N at *
      have HN := Lib.hid hN
      clear hN
      refine c3.mono ?_
      rintro e w4 ⟨rfl, hb3⟩
      have hc3 : w4.cell? ⟨w.heap.size, 0, none⟩ = some (.slice none 0 0) := (hb3.cell (p := ⟨w.heap.size, 0, none⟩) hzz).trans hc12
      have hf3 : w4.frozen? ⟨w.heap.size, 0, none⟩ = false := (hb3.frozen (p := ⟨w.heap.size, 0, none⟩) hzz).trans hf12
      have hcs4 : w4.cell? ⟨w3.heap.size, 0, none⟩ = some (.slice a2 N k2) := (hb3.cell (p := ⟨w3.heap.size, 0, none⟩) hzs).trans hcs
      have hbz4 := hbzs.trans (hb3.mono hbzs.size)
      clear c3 hc12 hf12 hcs
      go_wp2_with fail
      have hcf := World.cell?_setCell_same w4 ⟨w.heap.size, 0, none⟩ (.slice a2 N k2) hc3
      refine bodyPost_ret (v := .tuple #[.agg #[.slice a2 N k2], .bool true]) (by simp [results, Try.results16, go_sem, hcf]) rfl ⟨_, by rw [HR.out], ?_, hbz4.setCell (Nat.le_refl _) _⟩
      rw [fromL_yes HR.out]
      obtain rfl := HN.out
      have ho := HO.out
      refine ownsBase (row_kept ho fun j hj => ?_) (Nat.le_of_lt hz1)
      obtain ⟨hj1, hj2⟩ := ho.lt j hj
      rw [heap_setCell_other w4 ⟨w.heap.size, 0, none⟩ j _ (by show j ≠ w.heap.size; omega), hb3.block j (Nat.lt_trans (Nat.lt_of_lt_of_le hj2 hbx.size) hzs), hbs.block j (Nat.lt_of_lt_of_le hj2 hbx.size), hbx.block j hj2]

end Go.Proofs.Ytjnkdefogmfcnaa
