/-
  CONTRACTS of the program's chapter 11: CountFactorizations. (Own work: mkCntI.py.)
-/
import Derived.Test.YthalbmlgkkgheaaDoorCh3I
import Derived.Test.YthalbmlgkkgheaaDoorSgW
import Derived.Test.YthalbmlgkkgheaaDoorSgA
import Derived.StillTailTactics
namespace Go.Proofs.YthalbmlgkkgheaaDoor
open Go Go.RowKit

private def tabI (f : Nat → Int) (m : Nat) : List Value := (List.range m).map fun i => Value.int .i64 (f i)
private theorem tabI_len (f : Nat → Int) (m : Nat) : (tabI f m).length = m := by unfold tabI; simp
private theorem tabI_get (f : Nat → Int) {m j : Nat} (h : j < m) : (tabI f m)[j]? = some (.int .i64 (f j)) := by unfold tabI; simp [h]
private theorem tabI_congr {f g : Nat → Int} {m : Nat} (h : ∀ i, i < m → f i = g i) : tabI f m = tabI g m := by
  unfold tabI; exact List.map_congr_left fun i hi => by rw [h i (by simpa using hi)]
private theorem tabI_set {f g : Nat → Int} {m j : Nat} (u : Int) (hj : g j = u) (h : ∀ i, i ≠ j → f i = g i) : (tabI f m).set j (.int .i64 u) = tabI g m := by
  apply List.ext_getElem?
  intro i
  by_cases hi : i < m
  · rw [tabI_get g hi]
    by_cases e : i = j
    · subst e; rw [List.getElem?_set_self (by rw [tabI_len]; exact hi), hj]
    · rw [List.getElem?_set_ne (Ne.symm e), tabI_get f hi, h i e]
  · rw [List.getElem?_eq_none (by rw [List.length_set, tabI_len]; omega), List.getElem?_eq_none (by rw [tabI_len]; omega)]
private theorem mixW_at (g : Nat) (T : Nat → Int) (j : Nat) : mixW g T j j = T j := by unfold mixW; simp
private theorem mixW_back {g : Nat} (T : Nat → Int) {j i : Nat} (h : i < j) : mixW g T j i = stepW g T i := by unfold mixW; simp [h]
private theorem mixW_far {g : Nat} (T : Nat → Int) {j m : Nat} (h : m ≤ j) : tabI (mixW g T j) m = tabI (stepW g T) m := tabI_congr fun i hi => mixW_back T (by omega)
private theorem mixW_set {g : Nat} (T : Nat → Int) {j m : Nat} : (tabI (mixW g T j) m).set j (.int .i64 (stepW g T j)) = tabI (mixW g T (j + 1)) m :=
  tabI_set _ (mixW_back T (Nat.lt_succ_self j)) fun i hi => by
    unfold mixW
    by_cases h : i < j
    · rw [if_pos h, if_pos (by omega)]
    · rw [if_neg h, if_neg (by omega)]
private theorem countN_no {G : List Int} {n : Int} (h : isSgB G = false ∨ inB n 0 1000 = false) : countN G n = -1 := by
  unfold countN; rcases h with h | h <;> simp [h]
private theorem countN_yes {G : List Int} {m : Nat} (hs : isSgB G = true) (h : inB (m : Int) 0 1000 = true) : countN G (m : Int) = waysT G m := by
  unfold countN; simp [hs, h]
private def clipW (m : Nat) (T : Nat → Int) (i : Nat) : Int := if i ≤ m then T i else 0
private theorem clipW_in {m i : Nat} (T : Nat → Int) (h : i ≤ m) : clipW m T i = T i := by unfold clipW; rw [if_pos h]
private theorem clipW_nil (m n : Nat) : tabI (fun i => if i = 0 then 1 else 0) n = tabI (clipW m (waysT [])) n := tabI_congr fun i _ => by
  unfold clipW waysT
  split
  · rename_i h; subst h; simp
  · rename_i h; simp [h]
private theorem clipW_far {g m j n : Nat} (T : Nat → Int) (h : m < j) : tabI (clipW m (mixW g T j)) n = tabI (clipW m (stepW g T)) n := tabI_congr fun i _ => by
  unfold clipW
  by_cases hi : i ≤ m
  · rw [if_pos hi, if_pos hi, mixW_back T (by omega)]
  · rw [if_neg hi, if_neg hi]
private theorem clipW_set {g m j n : Nat} (T : Nat → Int) (h : j ≤ m) : (tabI (clipW m (mixW g T j)) n).set j (.int .i64 (stepW g T j)) = tabI (clipW m (mixW g T (j + 1))) n :=
  tabI_set _ (by rw [clipW_in _ h, mixW_back T (Nat.lt_succ_self j)]) fun i hi => by
    unfold clipW mixW
    by_cases h2 : i < j
    · rw [if_pos h2, if_pos (show i < j + 1 by omega)]
    · rw [if_neg h2, if_neg (show ¬ i < j + 1 by omega)]
private theorem zeroW : (Tryd.prog.info? 58).map (·.zero) = some (some (.agg (tabI (fun _ => 0) 1001).toArray)) := by kernel_rfl
private theorem builtW : Tryd.prog.built 58 [(0, .int .i64 1)] = some (tabI (fun i => if i = 0 then 1 else 0) 1001).toArray := by kernel_rfl
private theorem sizeW (f : Nat → Int) : (Tryd.prog.info? 58).map (·.size) = some (tabI f 1001).length := by rw [tabI_len]; kernel_rfl
private theorem tabI_one (f : Nat → Int) (m : Nat) : ∀ v ∈ tabI f m, v.oneCell' = true := by
  intro v hv
  unfold tabI at hv
  obtain ⟨i, -, rfl⟩ := List.mem_map.1 hv
  rfl
set_option maxRecDepth 100000 in
set_option maxHeartbeats 1600000 in
theorem impl_CountFactorizations (G : List Int) (x : Int) (a : Option Addr) (cap : Nat) (w : World) (hr : SlV w a (G.map (Value.int .i64))) (hb : G.length ≤ 1048576) :
    Calls Tryd.prog 13 #[.agg #[.slice a G.length cap], .int .i64 x] w fun e w' => e = .returned (.int .i64 (countN G x)) ∧ Below w.heap.size w w' := by
  obtain ⟨W, hW⟩ : ∃ W, W = w.alloc (.cells #[.slice a G.length cap] 26) := ⟨_, rfl⟩
  have hbW : Below w.heap.size w W := by rw [hW]; exact box_below _ _
  have hc0 : W.cell? ⟨w.heap.size, 0, none⟩ = some (.slice a G.length cap) := by rw [hW]; exact box_cell w _
  have hWs : w.heap.size < W.heap.size := by rw [hW]; simp
  have HW := Lib.hid hW
  clear hW
  have c1 := impl_IsSemigroup G a cap W (hr.below hbW) hb
  cases hs : isSgB G
  · have HR := Lib.hid (countN_no (n := x) (.inl hs))
    rw [hs] at c1
    clear hs hr
    go_enter Tryd.func13, Tryd.ntmps13
    go_wp2_with fail
    rw [← HW.out]
    refine c1.mono ?_
    rintro e w1 ⟨rfl, hb1⟩
    have hb01 := hbW.trans (hb1.mono hbW.size)
    go_wp2_with fail
    go_ret
    exact ⟨by rw [HR.out]; rfl, hb01⟩
  · rw [hs] at c1
    have HS := Lib.hid (isSgB_iff.1 hs).bounds
    have HSG := Lib.hid hs
    clear hs
    cases hx : inB x 0 1000
    · have HR := Lib.hid (countN_no (G := G) (.inr hx))
      have hx2 : x < 0 ∨ 1000 < x := by simp [inB] at hx; omega
      clear hx hr
      rcases hx2 with hx2 | hx2
      · have hd2 : decide (x < 0) = true := decide_eq_true hx2
        go_enter Tryd.func13, Tryd.ntmps13
        go_wp2_with fail
        rw [← HW.out]
        refine c1.mono ?_
        rintro e w1 ⟨rfl, hb1⟩
        have hb01 := hbW.trans (hb1.mono hbW.size)
        go_wp2_with fail
        go_ret
        exact ⟨by rw [HR.out]; rfl, hb01⟩
      · have hd2 : decide (x < 0) = false := decide_eq_false (by omega)
        go_enter Tryd.func13, Tryd.ntmps13
        go_wp2_with fail
        rw [← HW.out]
        refine c1.mono ?_
        rintro e w1 ⟨rfl, hb1⟩
        have hb01 := hbW.trans (hb1.mono hbW.size)
        go_wp2_with fail
        go_ret
        exact ⟨by rw [HR.out]; rfl, hb01⟩
    · obtain ⟨hx0, hx1⟩ := inB_true hx
      obtain ⟨m, rfl⟩ := Int.eq_ofNat_of_zero_le hx0
      have HR := Lib.hid (countN_yes HSG.out hx)
      have hd2 : decide ((m : Int) < 0) = false := decide_eq_false (by omega)
      have hd3 : decide (1000 < (m : Int)) = false := decide_eq_false (by omega)
      clear hx
      go_enter Tryd.func13, Tryd.ntmps13
      go_wp2_with fail
      rw [← HW.out]
      refine c1.mono ?_
      rintro e w1 ⟨rfl, hb1⟩
      have hb01 := hbW.trans (hb1.mono hbW.size)
      have hk1 : w1.cell? ⟨w.heap.size, 0, none⟩ = some (.slice a G.length cap) := by rw [hb1.cell (p := ⟨w.heap.size, 0, none⟩) hWs]; exact hc0
      have hz1' : w.heap.size < w1.heap.size := Nat.lt_of_lt_of_le hWs hb1.size
      clear c1 hb1 hc0 hWs hbW
      have hA0 := Arr.new w1 58 (tabI (fun _ => 0) 1001)
      have HBA := Lib.hid (((Below.refl w1.heap.size w1).alloc (Nat.le_refl _)) (.cells (tabI (fun _ => 0) 1001).toArray 58))
      have HT := fun f => Lib.hid (tabI_one f 1001)
      go_wp2_with (first | (refine wpList_alloc_arr 58 (tabI (fun _ => 0) 1001) zeroW rfl rfl ?_) | (refine wpList_build_arr 58 _ (tabI (fun i => if i = 0 then 1 else 0) 1001) rfl rfl (by simpa [Act.eval] using builtW) ?_) | (refine wpList_store_arr 58 (.tmp 5) (.tmp 20) w1.heap.size (tabI (fun _ => 0) 1001) (tabI (fun i => if i = 0 then 1 else 0) 1001) rfl rfl rfl rfl hA0 (by rw [tabI_len, tabI_len]) (sizeW _) (HT _).out ?_; intro w2 hA hg2 hz2; have hb2 := HBA.out.grown hg2 (by simp) (fun j hj => by cases hj; exact Nat.le_refl _); have hk2 := (hb2.cell (p := ⟨w.heap.size, 0, none⟩) hz1').trans hk1; clear hg2 hz2 hA0 HBA))
      go_loopw [24] (fun i wr => ∃ k : Nat, k ≤ G.length ∧ i = .int .i64 (k : Int) ∧ Arr wr w1.heap.size 58 (tabI (clipW m (waysT (G.take k))) 1001) ∧ Below w1.heap.size w1 wr) (fun i _ => G.length - (intOf i).toNat)
      case atStart => exact ⟨0, Nat.zero_le _, rfl, by rw [List.take_zero, ← clipW_nil]; exact hA, hb2⟩
      case round =>
        clear hA hb2 hk2
        obtain ⟨k, hk, rfl, hA, hbel⟩ := hrel
        by_cases hlt : k < G.length
        · have hlti : (k : Int) < (G.length : Int) := by omega
          have HTT := Lib.hid (waysT_take hlt)
          obtain ⟨hg0, hg1⟩ := HS.out G[k] (List.getElem_mem hlt)
          obtain ⟨g, hg⟩ : ∃ g : Nat, G[k] = (g : Int) := ⟨G[k].toNat, by omega⟩
          obtain ⟨b, off, rfl, hbs, hc⟩ := hr.open (by intro h; rw [List.map_eq_nil_iff] at h; subst h; simp at hlt)
          have hgk : wr.cell? ⟨b, off + k, none⟩ = some (.int .i64 (g : Int)) := ((hb01.trans (hbel.mono hb01.size)).cell (p := ⟨b, off + k, none⟩) hbs).trans (hc k _ (by simp [hlt, hg]))
          have hk0 : (0 : Int) ≤ (k : Int) := by omega
          rw [hg] at HTT hg0 hg1
          rw [Int.toNat_natCast] at HTT
          clear hc hg
          have HA := Lib.hid hA
          have HB := Lib.hid hbel
          clear hA hbel
          generalize waysT (G.take k) = T at *
          go_wp2_with fail
          go_loopw [8] (fun i wq => ∃ j : Nat, i = .int .i64 (j : Int) ∧ g ≤ j ∧ (j ≤ m + 1 ∨ j = g) ∧ Arr wq w1.heap.size 58 (tabI (clipW m (mixW g T j)) 1001) ∧ Below w1.heap.size w1 wq) (fun i _ => m + 1 - (intOf i).toNat)
          case atStart => exact ⟨g, rfl, Nat.le_refl _, .inr rfl, by rw [mixW_start]; exact HA.out, HB.out⟩
          case round =>
            clear hgk HA HB
            rename World => wq
            obtain ⟨j, rfl, hgj, hjm, hA, hbel⟩ := hrel
            by_cases hle : j ≤ m
            · have hlei : (j : Int) ≤ (m : Int) := by omega
              have hcjd : wq.drew.cell? ⟨w1.heap.size, j, none⟩ = some (.int .i64 (T j)) := by rw [hA.drew.cell, tabI_get _ (by omega), clipW_in _ hle, mixW_at]
              obtain ⟨t, ht⟩ : ∃ t : Nat, j = t + g := ⟨j - g, by omega⟩
              have hctd : wq.drew.cell? ⟨w1.heap.size, t, none⟩ = some (.int .i64 (stepW g T t)) := by rw [hA.drew.cell, tabI_get _ (by omega), clipW_in _ (by omega), mixW_back T (by omega)]
              have hw1 : IntKind.i64.wrap ((j : Int) - (g : Int)) = (t : Int) := by rw [IntWalk.i64_in _ (by omega)]; omega
              have hw2 : IntKind.i64.wrap (T j + stepW g T t) = stepW g T j := by rw [stepW_ge T (by omega) hgj, show j - g = t by omega]
              have hst := hA.drew.set j (.int .i64 (stepW g T j))
              rw [clipW_set T hle] at hst
              have HST := Lib.hid hst
              have hfz : wq.drew.frozen? ⟨w1.heap.size, j, none⟩ = false := hA.drew.frozen j
              have HB2 := Lib.hid (hbel.drew.setCell (p := ⟨w1.heap.size, j, none⟩) (Nat.le_refl _) (.int .i64 (stepW g T j)))
              have hj0 : (0 : Int) ≤ (j : Int) := by omega
              have ht0 : (0 : Int) ≤ (t : Int) := by omega
              have htm : (t : Int) < 1001 := by omega
              have hjm1 : (j : Int) < 1001 := by omega
              clear hst hA hbel ht
              generalize T j = tj at *
              generalize stepW g T t = st at *
              generalize stepW g T j = sj at *
              go_wp2_with fail
              refine wp_region_still_tail 10 (by kernel_rfl) (by kernel_rfl) ?_
              change wpStill _ _ wq.drew _ _ _
              simp only [List.take_succ_cons, List.take_zero, List.drop_succ_cons, List.drop_zero]
              repeat still_step
              refine wpStill_nil ?_
              change wpList _ _ _ _ _ wq.drew
              generalize wq.drew = wd at *
              go_wp2_with fail
              go_roundw
              case rel => exact ⟨j + 1, by go_num, by omega, .inl (by omega), HST.out, HB2.out⟩
              case measure => simp [intOf]; omega
            · rw [clipW_far (g := g) T (show m < j by omega)] at hA
              have HA := Lib.hid hA
              clear hA
              go_wp2_with fail
              go_roundw
              case rel => exact ⟨k + 1, by omega, by go_num, by rw [HTT.out]; exact HA.out, hbel⟩
              case measure => simp [intOf]; omega
        · obtain rfl : k = G.length := by omega
          have hcm : wr.cell? ⟨w1.heap.size, m, none⟩ = some (.int .i64 (waysT G m)) := by rw [hA.cell, tabI_get _ (by omega), clipW_in _ (Nat.le_refl _), List.take_length]
          have hb02 := hb01.trans (hbel.mono hb01.size)
          have hm0 : (0 : Int) ≤ (m : Int) := by omega
          have hm1 : (m : Int) < 1001 := by omega
          clear hA hr
          go_wp2_with fail
          go_ret
          exact ⟨by rw [HR.out]; rfl, hb02⟩
end Go.Proofs.YthalbmlgkkgheaaDoor
