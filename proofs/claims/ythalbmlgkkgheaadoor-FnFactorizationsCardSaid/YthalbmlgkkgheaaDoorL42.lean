/-
  CONTRACTS of the reference's chapter 11: CountFactorizations. (Own work: mkCnt.py.)
-/
import Derived.Test.YthalbmlgkkgheaaDoorCh3L
import Derived.Test.YthalbmlgkkgheaaDoorSgW
import Derived.Test.YthalbmlgkkgheaaDoorSgA
import Derived.StillTailTactics
namespace Go.Proofs.YthalbmlgkkgheaaDoor
open Go Go.RowKit

def tabI (f : Nat → Int) (m : Nat) : List Value := (List.range m).map fun i => Value.int .i64 (f i)
theorem tabI_len (f : Nat → Int) (m : Nat) : (tabI f m).length = m := by unfold tabI; simp
theorem tabI_get (f : Nat → Int) {m j : Nat} (h : j < m) : (tabI f m)[j]? = some (.int .i64 (f j)) := by unfold tabI; simp [h]
theorem tabI_congr {f g : Nat → Int} {m : Nat} (h : ∀ i, i < m → f i = g i) : tabI f m = tabI g m := by
  unfold tabI; exact List.map_congr_left fun i hi => by rw [h i (by simpa using hi)]
theorem tabI_set {f g : Nat → Int} {m j : Nat} (u : Int) (hj : g j = u) (h : ∀ i, i ≠ j → f i = g i) : (tabI f m).set j (.int .i64 u) = tabI g m := by
  apply List.ext_getElem?
  intro i
  by_cases hi : i < m
  · rw [tabI_get g hi]
    by_cases e : i = j
    · subst e; rw [List.getElem?_set_self (by rw [tabI_len]; exact hi), hj]
    · rw [List.getElem?_set_ne (Ne.symm e), tabI_get f hi, h i e]
  · rw [List.getElem?_eq_none (by rw [List.length_set, tabI_len]; omega), List.getElem?_eq_none (by rw [tabI_len]; omega)]
theorem mixW_at (g : Nat) (T : Nat → Int) (j : Nat) : mixW g T j j = T j := by unfold mixW; simp
theorem mixW_back {g : Nat} (T : Nat → Int) {j i : Nat} (h : i < j) : mixW g T j i = stepW g T i := by unfold mixW; simp [h]
theorem mixW_far {g : Nat} (T : Nat → Int) {j m : Nat} (h : m ≤ j) : tabI (mixW g T j) m = tabI (stepW g T) m := tabI_congr fun i hi => mixW_back T (by omega)
theorem mixW_set {g : Nat} (T : Nat → Int) {j m : Nat} : (tabI (mixW g T j) m).set j (.int .i64 (stepW g T j)) = tabI (mixW g T (j + 1)) m :=
  tabI_set _ (mixW_back T (Nat.lt_succ_self j)) fun i hi => by
    unfold mixW
    by_cases h : i < j
    · rw [if_pos h, if_pos (by omega)]
    · rw [if_neg h, if_neg (by omega)]
theorem countN_no {G : List Int} {n : Int} (h : isSgB G = false ∨ inB n 0 1000 = false) : countN G n = -1 := by
  unfold countN; rcases h with h | h <;> simp [h]
theorem countN_yes {G : List Int} {m : Nat} (hs : isSgB G = true) (h : inB (m : Int) 0 1000 = true) : countN G (m : Int) = waysT G m := by
  unfold countN; simp [hs, h]
/-- The new table, and what the first store leaves of it. -/
theorem tabI0 {w w1 : World} (M : Nat) (hM0 : 0 < M) (hown : w1.ownsRow w.heap.size 3 1 (.slice (some ⟨w.heap.size, 0, none⟩) M M) M (madeCells (Value.int .i64 0).cells (M * 1)).toList) (hgrow : w.grownBy w1 none) :
    (∃ u, w1.cell? ⟨w.heap.size, 0, none⟩ = some u) ∧ w1.frozen? ⟨w.heap.size, 0, none⟩ = false ∧
    Hid ((w1.setCell ⟨w.heap.size, 0, none⟩ (.int .i64 1)).ownsRow w.heap.size 3 1 (.slice (some ⟨w.heap.size, 0, none⟩) M M) M (tabI (waysT []) M)) ∧
    Hid (Below w.heap.size w (w1.setCell ⟨w.heap.size, 0, none⟩ (.int .i64 1))) := by
  have hbel : Below w.heap.size w w1 := (Below.refl _ w).grown hgrow (Nat.le_refl _) (fun k h => by cases h)
  have hown' : w1.ownsRow w.heap.size 3 1 (.slice (some ⟨w.heap.size, 0, none⟩) M M) M (tabI (fun _ => 0) M) := by
    have e : (madeCells (Value.int .i64 0).cells (M * 1)).toList = List.replicate M (Value.int .i64 0) := by rw [Nat.mul_one]; exact toList_madeCells_one _ _
    have e2 : tabI (fun _ => 0) M = List.replicate M (Value.int .i64 0) := by unfold tabI; exact List.map_const' .. |>.trans (by rw [List.length_range])
    rw [e2, ← e]; exact hown
  have hst := hown'.stored 0 (.int .i64 1)
  rw [tabI_set (g := waysT []) 1 rfl (fun i hi => by unfold waysT; simp [hi])] at hst
  refine ⟨?_, hown'.frozenAt 0, Lib.hid hst.1, Lib.hid (hbel.setCell (p := ⟨w.heap.size, 0, none⟩) (Nat.le_refl _) _)⟩
  rw [hown'.cellAt 0 (by omega)]; exact ⟨_, tabI_get _ (by omega)⟩

set_option maxRecDepth 100000 in
set_option maxHeartbeats 1600000 in
theorem spec_CountFactorizations (G : List Int) (x : Int) (a : Option Addr) (cap : Nat) (w : World) (hr : SlV w a (G.map (Value.int .i64))) (hb : G.length ≤ 1048576) :
    Calls Tryd.prog 14 #[.agg #[.slice a G.length cap], .int .i64 x] w fun e w' => e = .returned (.int .i64 (countN G x)) ∧ Below w.heap.size w w' := by
  obtain ⟨i0, hi, hz0, hz1, hz2⟩ := info_parts infoIntL
  obtain ⟨W, hW⟩ : ∃ W, W = w.alloc (.cells #[.slice a G.length cap] 26) := ⟨_, rfl⟩
  have hbW : Below w.heap.size w W := by rw [hW]; exact box_below _ _
  have hc0 : W.cell? ⟨w.heap.size, 0, none⟩ = some (.slice a G.length cap) := by rw [hW]; exact box_cell w _
  have hWs : w.heap.size < W.heap.size := by rw [hW]; simp
  have HW := Lib.hid hW
  clear hW
  have c1 := spec_IsSemigroup G a cap W (hr.below hbW) hb
  have ci := fun w => l1In_any x 0 1000 w
  cases hs : isSgB G
  · have HR := Lib.hid (countN_no (n := x) (.inl hs))
    rw [hs] at c1
    clear hs hr ci hi hz0 hz1 hz2
    go_enter Tryd.func14, Tryd.ntmps14
    go_wp2_with fail
    rw [← HW.out]
    refine c1.mono ?_
    rintro e w1 ⟨rfl, hb1⟩
    have hb01 := hbW.trans (hb1.mono hbW.size)
    go_wp2_with fail
    go_ret
    exact ⟨by rw [HR.out]; rfl, hb01⟩
  · rw [hs] at c1
    have HS := Lib.hid (isSgB_iff.1 hs).bounds
    have HSG := Lib.hid hs
    clear hs
    cases hx : inB x 0 1000
    · have HR := Lib.hid (countN_no (G := G) (.inr hx))
      rw [hx] at ci
      clear hx hr hi hz0 hz1 hz2
      go_enter Tryd.func14, Tryd.ntmps14
      go_wp2_with fail
      rw [← HW.out]
      refine c1.mono ?_
      rintro e w1 ⟨rfl, hb1⟩
      have hb01 := hbW.trans (hb1.mono hbW.size)
      go_wp2_with fail
      refine (ci _).mono ?_
      rintro e w2 ⟨rfl, rfl⟩
      go_wp2_with fail
      go_ret
      exact ⟨by rw [HR.out]; rfl, hb01⟩
    · obtain ⟨hx0, hx1⟩ := inB_true hx
      rw [hx] at ci
      obtain ⟨m, rfl⟩ := Int.eq_ofNat_of_zero_le hx0
      have HR := Lib.hid (countN_yes HSG.out hx)
      obtain ⟨M, hM, hM'⟩ : ∃ M, M ≤ m + 1 ∧ m + 1 ≤ M := ⟨m + 1, Nat.le_refl _, Nat.le_refl _⟩
      have hwm : IntKind.i64.wrap ((m : Int) + 1) = (M : Int) := by rw [IntWalk.i64_in _ (by omega)]; omega
      clear hx
      go_enter Tryd.func14, Tryd.ntmps14
      go_wp2_with fail
      rw [← HW.out]
      refine c1.mono ?_
      rintro e w1 ⟨rfl, hb1⟩
      have hb01 := hbW.trans (hb1.mono hbW.size)
      have hk1 : w1.cell? ⟨w.heap.size, 0, none⟩ = some (.slice a G.length cap) := by rw [hb1.cell (p := ⟨w.heap.size, 0, none⟩) hWs]; exact hc0
      have hz1' : w.heap.size < w1.heap.size := Nat.lt_of_lt_of_le hWs hb1.size
      clear c1 hb1 hc0 hWs hbW
      go_wp2_with fail
      refine (ci _).mono ?_
      rintro e w2 ⟨rfl, hww⟩
      subst hww
      clear ci
      go_wp2_with (at_make; refine wpList_make_full _ rfl _ _ 24 rfl w2.heap.size 3 i0 (Value.int .i64 0) 1 Tryd.underlying24 hi hz0 hz1 .i64 .i64 _ _ M rfl rfl (by first | rfl | (simp; done) | omega) (by first | rfl | (simp; done) | omega) (by rw [hz2]; omega) (by unfold maxLen; omega) (Nat.le_refl _) ?_; intro w1 hown hgrow; obtain ⟨⟨u, hu⟩, hfz, HO, HB⟩ := tabI0 M (by omega) hown hgrow; clear hown hgrow)
      clear hi hz0 hz1 hz2
      go_loopw [6] (fun i wr => ∃ k : Nat, k ≤ G.length ∧ i = .int .i64 (k : Int) ∧ wr.ownsRow w2.heap.size 3 1 (.slice (some ⟨w2.heap.size, 0, none⟩) M M) M (tabI (waysT (G.take k)) M) ∧ Below w2.heap.size w2 wr) (fun i _ => G.length - (intOf i).toNat)
      case atStart => exact ⟨0, Nat.zero_le _, rfl, HO.out, HB.out⟩
      case round =>
        clear HO HB hu hfz hwm
        obtain ⟨k, hk, rfl, hown, hbel⟩ := hrel
        have hkb : wr.cell? ⟨w.heap.size, 0, none⟩ = some (.slice a G.length cap) := (hbel.cell (p := ⟨w.heap.size, 0, none⟩) hz1').trans hk1
        by_cases hlt : k < G.length
        · have hlti : (k : Int) < (G.length : Int) := by omega
          have hb02 := hb01.trans (hbel.mono hb01.size)
          have HT := Lib.hid (waysT_take hlt)
          obtain ⟨hg0, hg1⟩ := HS.out G[k] (List.getElem_mem hlt)
          obtain ⟨g, hg⟩ : ∃ g : Nat, G[k] = (g : Int) := ⟨G[k].toNat, by omega⟩
          have hrG : ∀ w', Below w2.heap.size w2 w' → w'.cell? ⟨w.heap.size, 0, none⟩ = some (.slice a G.length cap) ∧ SlV w' a (G.map (Value.int .i64)) := fun w' h => ⟨(h.cell (p := ⟨w.heap.size, 0, none⟩) hz1').trans hk1, hr.below (hb01.trans (h.mono hb01.size))⟩
          have HG2 : Hid (∃ b off, a = some ⟨b, off, none⟩ ∧ ∀ w', Below w2.heap.size w2 w' → w'.cell? ⟨b, off + k, none⟩ = some (.int .i64 (g : Int))) := Lib.hid (by
            obtain ⟨b, off, ha, hbs, hc⟩ := hr.open (by intro h; rw [List.map_eq_nil_iff] at h; subst h; simp at hlt)
            exact ⟨b, off, ha, fun w' h => ((hb01.trans (h.mono hb01.size)).cell (p := ⟨b, off + k, none⟩) hbs).trans (hc k _ (by simp [hlt, hg]))⟩)
          obtain ⟨b, off, rfl, hgc⟩ := HG2.out
          have HGC := Lib.hid hgc
          have HRG := Lib.hid hrG
          have hgk := hgc wr hbel
          rw [hg] at HT hg0 hg1
          rw [Int.toNat_natCast] at HT
          clear hrG hgc hg HG2
          have HO := Lib.hid hown
          have HB := Lib.hid hbel
          clear hown hbel
          generalize waysT (G.take k) = T at *
          go_wp2_with fail
          go_loopw [7] (fun i wq => ∃ j : Nat, i = .int .i64 (j : Int) ∧ g ≤ j ∧ (j ≤ M ∨ j = g) ∧ wq.ownsRow w2.heap.size 3 1 (.slice (some ⟨w2.heap.size, 0, none⟩) M M) M (tabI (mixW g T j) M) ∧ Below w2.heap.size w2 wq) (fun i _ => M - (intOf i).toNat)
          case atStart => exact ⟨g, rfl, Nat.le_refl _, .inr rfl, by rw [mixW_start]; exact HO.out, HB.out⟩
          case round =>
            clear hkb hgk HO HB
            rename World => wq
            obtain ⟨j, rfl, hgj, hjm, hown, hbel⟩ := hrel
            have hkb := (HRG.out wq hbel).1
            have hgk := HGC.out wq hbel
            by_cases hle : j ≤ m
            · have hlei : (j : Int) ≤ (m : Int) := by omega
              have hcj : wq.cell? ⟨w2.heap.size, j, none⟩ = some (.int .i64 (T j)) := by rw [hown.cellAt j (by omega), tabI_get _ (by omega), mixW_at]
              obtain ⟨t, ht⟩ : ∃ t : Nat, j = t + g := ⟨j - g, by omega⟩
              have hct : wq.cell? ⟨w2.heap.size, t, none⟩ = some (.int .i64 (stepW g T t)) := by rw [hown.cellAt t (by omega), tabI_get _ (by omega), mixW_back T (by omega)]
              have hw1 : IntKind.i64.wrap ((j : Int) - (g : Int)) = (t : Int) := by rw [IntWalk.i64_in _ (by omega)]; omega
              have hw2 : IntKind.i64.wrap (T j + stepW g T t) = stepW g T j := by rw [stepW_ge T (by omega) hgj, show j - g = t by omega]
              have hownd : wq.drew.ownsRow w2.heap.size 3 1 (.slice (some ⟨w2.heap.size, 0, none⟩) M M) M (tabI (mixW g T j) M) := hown
              have hst := hownd.stored j (.int .i64 (stepW g T j))
              rw [mixW_set] at hst
              have HST := Lib.hid hst.1
              have hfz : wq.drew.frozen? ⟨w2.heap.size, j, none⟩ = false := hown.frozenAt j
              have HB2 := Lib.hid (hbel.drew.setCell (p := ⟨w2.heap.size, j, none⟩) (Nat.le_refl _) (.int .i64 (stepW g T j)))
              have hj0 : (0 : Int) ≤ (j : Int) := by omega
              have ht0 : (0 : Int) ≤ (t : Int) := by omega
              have hk0 : (0 : Int) ≤ (k : Int) := by omega
              have htm : (t : Int) < (M : Int) := by omega
              have hjm1 : (j : Int) < (M : Int) := by omega
              have hkbd : wq.drew.cell? ⟨w.heap.size, 0, none⟩ = some (.slice (some ⟨b, off, none⟩) G.length cap) := hkb
              have hgkd : wq.drew.cell? ⟨b, off + k, none⟩ = some (.int .i64 (g : Int)) := hgk
              have hcjd : wq.drew.cell? ⟨w2.heap.size, j, none⟩ = some (.int .i64 (T j)) := hcj
              have hctd : wq.drew.cell? ⟨w2.heap.size, t, none⟩ = some (.int .i64 (stepW g T t)) := hct
              clear hst hown hownd hbel ht hkb hgk hcj hct
              generalize T j = tj at *
              generalize stepW g T t = st at *
              generalize stepW g T j = sj at *
              go_wp2_with fail
              refine wp_region_still_tail 18 (by kernel_rfl) (by kernel_rfl) ?_
              change wpStill _ _ wq.drew _ _ _
              simp only [List.take_succ_cons, List.take_zero, List.drop_succ_cons, List.drop_zero]
              repeat still_step
              refine wpStill_nil ?_
              change wpList _ _ _ _ _ wq.drew
              generalize wq.drew = wd at *
              go_wp2_with fail
              go_roundw
              case rel => exact ⟨j + 1, by go_num, by omega, .inl (by omega), HST.out, HB2.out⟩
              case measure => simp [intOf]; omega
            · have HE := Lib.hid (mixW_far (g := g) T (show M ≤ j by omega))
              rw [HE.out] at hown
              have HO := Lib.hid hown
              clear hown
              go_wp2_with fail
              go_roundw
              case rel => exact ⟨k + 1, by omega, by go_num, by rw [HT.out]; exact HO.out, hbel⟩
              case measure => simp [intOf]; omega
        · obtain rfl : k = G.length := by omega
          have hcm : wr.cell? ⟨w2.heap.size, m, none⟩ = some (.int .i64 (waysT G m)) := by rw [hown.cellAt m (by omega), tabI_get _ (by omega), List.take_length]
          have hb02 := hb01.trans (hbel.mono hb01.size)
          clear hown hr
          go_wp2_with fail
          go_ret
          exact ⟨by rw [HR.out]; rfl, hb02⟩
end Go.Proofs.YthalbmlgkkgheaaDoor
