/-
  CONTRACTS of the reference's chapter 24: ArfClosure. (Own work: mk78.py.)
-/
import Derived.Test.YtipfonpaaebjjaaGreatSgAc
import Derived.Test.YtipfonpaaebjjaaGreatL26
import Derived.Test.YtipfonpaaebjjaaGreatCh4L
import Derived.Maps.AppendAt
import Derived.WalkMore
import Derived.OwnWalk
import Derived.Deep.LoopGhost
namespace Go.Proofs.YtipfonpaaebjjaaGreat
open Go Go.RowKit
attribute [local go_sem] Oper.semAt_some

def tabZ (f : Nat → Bool) (m : Nat) : List Value := (List.range m).map fun i => Value.bool (f i)
theorem tabZ_len (f : Nat → Bool) (m : Nat) : (tabZ f m).length = m := by unfold tabZ; simp
theorem tabZ_get (f : Nat → Bool) {m j : Nat} (h : j < m) : (tabZ f m)[j]? = some (.bool (f j)) := by unfold tabZ; simp [h]
theorem tabZ_congr {f g : Nat → Bool} {m : Nat} (h : ∀ i, i < m → f i = g i) : tabZ f m = tabZ g m := by
  unfold tabZ; exact List.map_congr_left fun i hi => by rw [h i (List.mem_range.1 hi)]
theorem tabZ_set {f g : Nat → Bool} {m j : Nat} (u : Bool) (hj : g j = u) (h : ∀ i, i ≠ j → f i = g i) : (tabZ f m).set j (.bool u) = tabZ g m := by
  apply List.ext_getElem?
  intro i
  rw [List.getElem?_set]
  by_cases e : j = i
  · subst e
    by_cases hm : j < m
    · rw [tabZ_get g hm, tabZ_len, if_pos rfl, if_pos hm, hj]
    · unfold tabZ; simp [hm]
  · rw [if_neg e]
    by_cases hm : i < m
    · rw [tabZ_get f hm, tabZ_get g hm, h i (fun h => e h.symm)]
    · unfold tabZ; simp [hm]
theorem tab0Z {w w1 : World} (M : Nat) (hown : w1.ownsRow w.heap.size 4 1 (.slice (some ⟨w.heap.size, 0, none⟩) M M) M (madeCells (Value.bool false).cells (M * 1)).toList) (hgrow : w.grownBy w1 none) :
    Hid (w1.ownsRow w.heap.size 4 1 (.slice (some ⟨w.heap.size, 0, none⟩) M M) M (tabZ (fun _ => false) M)) ∧ Hid (Below w.heap.size w w1) := by
  refine ⟨Lib.hid ?_, Lib.hid ((Below.refl _ w).grown hgrow (Nat.le_refl _) (fun k h => by cases h))⟩
  have e : (madeCells (Value.bool false).cells (M * 1)).toList = List.replicate M (Value.bool false) := by rw [Nat.mul_one]; exact toList_madeCells_one _ _
  have e2 : tabZ (fun _ => false) M = List.replicate M (Value.bool false) := by
    unfold tabZ; exact List.map_const' .. |>.trans (by rw [List.length_range])
  rw [e2, ← e]; exact hown
noncomputable def fillZ (G : List Int) (n j : Nat) : Bool := if j < n then decide (sumB G j = true) else false
theorem fillZ_set (G : List Int) (n M : Nat) : (tabZ (fillZ G n) M).set n (.bool (sumB G n)) = tabZ (fillZ G (n + 1)) M :=
  tabZ_set _ (by unfold fillZ; rw [if_pos (by omega)]; simp) fun i hi => by
    unfold fillZ
    by_cases h : i < n
    · rw [if_pos h, if_pos (by omega)]
    · rw [if_neg h, if_neg (by omega)]
theorem fillZ_st (G : List Int) (c : Nat) : ArfSt G c (fillZ G c) where
  sub n hn hs := by unfold fillZ; rw [if_pos hn]; exact decide_eq_true (sumB_iff.2 hs)
  arf n hn hs := by
    unfold fillZ at hs
    rw [if_pos hn] at hs
    exact .base (sumB_iff.1 (of_decide_eq_true hs))
theorem gapsL_len3 (G : List Int) : (gapsL G).length ≤ 200 := by
  unfold gapsL; split
  · rw [List.length_map]; exact upB_len_le _ _
  · simp

set_option maxRecDepth 100000 in
set_option maxHeartbeats 3200000 in
theorem spec_ArfClosure (G : List Int) (a : Option Addr) (cap : Nat) (w : World) (hr : SlV w a (G.map (Value.int .i64))) (hb : G.length ≤ 1048576) :
    Calls Tryz.prog 22 #[.agg #[.slice a G.length cap]] w (SgPost (cloL G) (cloB G) w) := by
  obtain ⟨i0, hi, hz0, hz1, hz2⟩ := info_parts infoBool
  obtain ⟨j0, ji, jz0, jz1, jz2⟩ := info_parts infoIntL
  have c1 := fun w2 (h : SlV w2 a (G.map (Value.int .i64))) => spec_IsSemigroup G a cap w2 h hb
  have c2 := fun w2 (h : SlV w2 a (G.map (Value.int .i64))) (hs : isSgB G = true) => spec_l4Gaps G a cap w2 h hs
  have c3 := fun w2 (h : SlV w2 a (G.map (Value.int .i64))) => spec_ConductorOf G a cap w2 h hb
  obtain ⟨dS, hdS, hrS⟩ := undSg
  obtain ⟨U, hU⟩ : ∃ U, U = (w.alloc (.cells #[.slice a G.length cap] 26)) := ⟨_, rfl⟩
  obtain ⟨V, hV⟩ : ∃ V, V = U.alloc (.cells [Value.slice none 0 0].toArray 26) := ⟨_, rfl⟩
  have hbU : Below w.heap.size w U := by rw [hU]; exact box_below _ _
  have hbUV : Below U.heap.size U V := by rw [hV]; exact box_below _ _
  have hbV := hbU.trans (hbUV.mono hbU.size)
  have hUe : U.heap.size = w.heap.size + 1 := by rw [hU]; simp
  have hcV : V.cell? ⟨w.heap.size, 0, none⟩ = some (.slice a G.length cap) := by rw [hV]; exact (World.cell?_alloc_lt _ _ ⟨w.heap.size, 0, none⟩ (show w.heap.size < U.heap.size by omega)).trans (by rw [hU]; exact box_cell w _)
  have hAV : Arr V (w.heap.size + 1) 26 [Value.slice none 0 0] := by rw [hV, ← hUe]; exact Arr.new _ _ _
  have hVs : w.heap.size + 1 < V.heap.size := hAV.lt
  have HV : Hid (V = (w.alloc (.cells #[.slice a G.length cap] 26)).alloc (.cells [Value.slice none 0 0].toArray 26)) := Lib.hid (by rw [hV, hU])
  have HRS := Lib.hid (fun w2 (h : Below V.heap.size V w2) => hr.below (hbV.trans (h.mono hbV.size)))
  have HKC := Lib.hid (fun w2 (h : Below V.heap.size V w2) => (h.cell (p := ⟨w.heap.size, 0, none⟩) (show w.heap.size < V.heap.size by omega)).trans hcV)
  have HAV := Lib.hid hAV
  clear hU hV hUe hbU hbUV hr hAV
  have c1 := c1 V (HRS.out V (Below.refl _ _))
  cases hs : isSgB G
  · have HB : Hid (cloB G = false) := Lib.hid (by unfold cloB; rw [hs]; rfl)
    have HL : Hid (cloL G = []) := Lib.hid (by unfold cloL; rw [hs]; rfl)
    rw [hs] at c1
    clear hs hi hz0 hz1 hz2 ji jz0 jz1 jz2 c2 c3
    go_enter Tryz.func22, Tryz.ntmps22
    go_wp2_with (first | (refine wpList_alloc_arr 26 [Value.slice none 0 0] zeroSg rfl rfl ?_; rw [← HV.out]))
    go_wp2_with fail
    refine c1.mono ?_
    rintro e w1 ⟨rfl, hb1⟩
    clear c1 hcV
    have hA9' := HAV.out.below hb1
    have hbw9 := hbV.trans (hb1.mono hbV.size)
    go_wp2_with (first | (refine wpList_store_arr 26 (.tmp 2) (.tmp 20) (w.heap.size + 1) [Value.slice none 0 0] [Value.slice none 0 0] rfl rfl rfl rfl hA9' rfl sizeSg (by simp [Value.oneCell']) ?_; intro w9 hA9 hg9 hz9; clear hz9))
    have hb9 := hbw9.grown hg9 hbw9.size (fun k hk => by cases hk; omega)
    exact bodyPost_ret (results_arr_tmp rfl _ _ (w.heap.size + 1) [Value.slice none 0 0] dS rfl hA9 hdS hrS sizeSg) rfl ⟨_, by rw [HB.out]; rfl, by rw [HL.out]; exact World.ownsRow_nil _ _ _ _, hb9⟩
  · have HB : Hid (cloB G = fromGpB (cloG G)) := Lib.hid (by unfold cloB; rw [hs]; rfl)
    have HL : Hid (cloL G = fromGpL (cloG G)) := Lib.hid (by unfold cloL; rw [hs]; rfl)
    have HSG := Lib.hid hs
    have HDN := Lib.hid (fun is h => arf_done (is := is) hs h)
    have HFS := Lib.hid (fillZ_st G (condNat G))
    have HGI := Lib.hid (fun (n : Nat) => show hasB (gapsL G) (n : Int) = !sumB G n from isIn_gaps hs n)
    have hgl := gapsL_len3 G
    have hC := condNat_le G
    have HCN := Lib.hid (condN_yes hs)
    rw [hs] at c1
    clear hs
    generalize condNat G = C at *
    go_enter Tryz.func22, Tryz.ntmps22
    go_wp2_with (first | (refine wpList_alloc_arr 26 [Value.slice none 0 0] zeroSg rfl rfl ?_; rw [← HV.out]))
    go_wp2_with fail
    refine c1.mono ?_
    rintro e w1 ⟨rfl, hb1⟩
    have hkc := HKC.out _ hb1
    clear c1 hcV
    go_wp2_with fail
    refine (c2 _ (HRS.out _ hb1) HSG.out).mono ?_
    rintro e w2 ⟨v2, rfl, ho2, hb2⟩
    obtain ⟨a2, k2, rfl, rX2⟩ := row_open ho2
    have hb2V := hb1.trans (hb2.mono hb1.size)
    have hkc := HKC.out _ hb2V
    clear c2 ho2 hb2 hb1
    have c3 := c3 _ (HRS.out _ hb2V)
    rw [HCN.out] at c3
    go_wp2_with fail
    refine c3.mono ?_
    rintro e w4 ⟨rfl, hb4⟩
    have hb4V := hb2V.trans (hb4.mono hb2V.size)
    have HGS := Lib.hid (rX2.slv.below hb4)
    have hpV := hb4V.size
    clear c3 hb4 hb2V rX2 hkc
    have hwC : IntKind.i64.wrap ((C : Int) + 1) = ((C + 1 : Nat) : Int) := by rw [IntWalk.i64_in _ (by omega)]; rfl
    go_wp2_with (at_make; refine wpList_make_full _ rfl _ _ 77 rfl w4.heap.size 4 i0 (Value.bool false) 1 Tryz.underlying77 hi hz0 hz1 .i64 .i64 _ _ (C + 1) rfl rfl (by first | rfl | (simp; done) | omega) (by first | rfl | (simp; done) | omega) (by rw [hz2]; omega) (by unfold maxLen; omega) (Nat.le_refl _) ?_; intro w5 hown hgrow; obtain ⟨HO, HB5⟩ := tab0Z (C + 1) hown hgrow; clear hown hgrow)
    clear hi hz0 hz1 hz2
    go_loopw [7] (fun zi wr => ∃ n : Nat, n ≤ C ∧ zi = .int .i64 (n : Int) ∧ wr.ownsRow w4.heap.size 4 1 (.slice (some ⟨w4.heap.size, 0, none⟩) (C + 1) (C + 1)) (C + 1) (tabZ (fillZ G n) (C + 1)) ∧ Below w4.heap.size w4 wr) (fun zi _ => C - (intOf zi).toNat)
    case atStart => exact ⟨0, Nat.zero_le _, rfl, by have := HO.out; rwa [tabZ_congr (g := fillZ G 0) (fun i _ => by unfold fillZ; rw [if_neg (by omega)])] at this, HB5.out⟩
    case round =>
      clear HO HB5
      rename World => wr
      obtain ⟨n, hn, rfl, hown, hbel⟩ := hrel
      by_cases hlt : n < C
      · have hlti : (n : Int) < (C : Int) := by omega
        have hn0 : (0 : Int) ≤ (n : Int) := by omega
        have hnM : (n : Int) < (C : Int) + 1 := by omega
        have hnM2 : (n : Int) < ((C + 1 : Nat) : Int) := by omega
        have c5 := spec_HasNumber (gapsL G) (n : Int) a2 k2 wr (HGS.out.below hbel) (by unfold maxLen; omega)
        rw [HGI.out n] at c5
        have hct : wr.cell? ⟨w4.heap.size, n, none⟩ = some (.bool (fillZ G n n)) := by have := hown.cellAt n (by omega); rw [tabZ_get _ (by omega)] at this; exact this
        have hfz : wr.frozen? ⟨w4.heap.size, n, none⟩ = false := hown.frozenAt n
        have hst := hown.stored n (.bool (sumB G n))
        rw [fillZ_set] at hst
        have HST := Lib.hid hst.1
        have HB2 := Lib.hid (hbel.setCell (p := ⟨w4.heap.size, n, none⟩) (Nat.le_refl _) (.bool (sumB G n)))
        clear hst hown
        generalize fillZ G n n = cj at *
        cases hq : sumB G n
        · rw [hq] at c5 HST HB2
          clear hq
          go_wp2_with fail
          refine c5.mono ?_
          rintro e w6 ⟨rfl, hww⟩
          rw [hww]
          clear c5 hww
          go_wp2_with fail
          go_roundw
          case rel => exact ⟨n + 1, by omega, by go_num, HST.out, HB2.out⟩
          case measure => simp [intOf]; omega
        · rw [hq] at c5 HST HB2
          clear hq
          go_wp2_with fail
          refine c5.mono ?_
          rintro e w6 ⟨rfl, hww⟩
          rw [hww]
          clear c5 hww
          go_wp2_with fail
          go_roundw
          case rel => exact ⟨n + 1, by omega, by go_num, HST.out, HB2.out⟩
          case measure => simp [intOf]; omega
      · have hlti : ¬ (n : Int) < (C : Int) := by omega
        have hne : n = C := by omega
        rw [hne] at hown
        have HO := Lib.hid hown
        clear hown hne
        go_wp2_with fail
        go_loopg [8] (2 * lackC (fillZ G C) C + 1) (fun k s8 wr => ∃ (is : Nat → Bool) (ch : Bool), s8 = .bool ch ∧ Hid (ArfSt G C is) ∧ Hid (k = 2 * lackC is C + (if ch then 1 else 0)) ∧ Hid (ch = false → ∀ x y z, x < C → y ≤ x → z ≤ y → is x = true → is y = true → is z = true → x + y - z < C → is (x + y - z) = true) ∧ wr.ownsRow w4.heap.size 4 1 (.slice (some ⟨w4.heap.size, 0, none⟩) (C + 1) (C + 1)) (C + 1) (tabZ (is) (C + 1)) ∧ Below w4.heap.size w4 wr)
        case atStart => exact ⟨fillZ G C, true, rfl, HFS, Lib.hid rfl, Lib.hid (fun h => by cases h), HO.out, hbel⟩
        case round =>
          clear HO hbel hn hlt hlti
          rename World => w6
          obtain ⟨is, ch, rfl, HAS, HKN, HCLO, hown, hbel⟩ := hrel
          cases ch
          · -- nothing changed: what is left
            have HLF := Lib.hid (HDN.out is HAS.out (HCLO.out rfl))
            have HCELL : Hid (∀ w', Below w6.heap.size w6 w' → ∀ j, j < C → w'.cell? ⟨w4.heap.size, j, none⟩ = some (.bool (is j))) := Lib.hid fun w' h j hj => (h.cell (p := ⟨w4.heap.size, j, none⟩) (hown.lt _ rfl).2).trans (by have := hown.cellAt j (by omega); rw [tabZ_get _ (by omega)] at this; exact this)
            have hO7 : (w6.alloc (.cells #[] 3)).ownsRow w6.heap.size 3 1 (.slice (some ⟨w6.heap.size, 0, none⟩) 0 0) 0 [] := World.ownsRow_lit w6 #[] 0 (Nat.le_refl _) (by simp) rfl
            have hB7 := box_below w6 (.cells #[] 3)
            have HO7 := Lib.hid hO7
            have hb6V := hb4V.trans (hbel.mono hpV)
            clear hO7 hown HAS HKN HCLO HDN
            go_wp2_with fail
            go_loopw [13, 14] (fun v zi wr => ∃ (n : Nat) (M : List Int), 1 ≤ n ∧ (n ≤ C ∨ n = 1) ∧ zi = .int .i64 (n : Int) ∧ Hid (M = (upB (fun n => decide (1 ≤ n) && !is n) n).map Int.ofNat) ∧ M.length ≤ n ∧ wr.ownsRow w6.heap.size 3 1 v M.length (M.map (Value.int .i64)) ∧ Below w6.heap.size w6 wr) (fun _ zi _ => C + 1 - (intOf zi).toNat)
            case atStart => exact ⟨1, [], Nat.le_refl _, .inr rfl, rfl, Lib.hid rfl, by simp, HO7.out, hB7⟩
            case round =>
              clear HO7 hB7
              rename World => w8
              obtain ⟨n, M, hn1, hn2, rfl, HM, hMl, hown, hbel8⟩ := hrel
              have hsz8 := hbel8.size
              by_cases hlt : n < C
              · have hlti : (n : Int) < (C : Int) := by omega
                have hn0 : (0 : Int) ≤ (n : Int) := by omega
                have hnM2 : (n : Int) < ((C + 1 : Nat) : Int) := by omega
                have hnM : (n : Int) < (C : Int) + 1 := by omega
                have hcn := HCELL.out _ hbel8 n hlt
                have HU := Lib.hid (upB_succ (fun n => decide (1 ≤ n) && !is n) n)
                rw [show (decide (1 ≤ n) && !is n) = !is n by rw [decide_eq_true hn1, Bool.true_and]] at HU
                generalize is n = q at *
                cases q
                · have HMN : Hid (M ++ [(n : Int)] = (upB (fun n => decide (1 ≤ n) && !is n) (n + 1)).map Int.ofNat) := Lib.hid (by rw [HU.out, HM.out]; simp)
                  clear HU HM
                  go_wp2_with (at_builtin; refine wpList_append_own _ rfl (.tmp 103) (.tmp 105) 24 rfl w6.heap.size 3 j0 (Value.int .i64 0) 1 8 Tryz.underlying24 ji jz0 jz1 jz2 rfl (by decide) _ _ _ rfl (hown.alloc _) ⟨_, 0, none⟩ 1 1 [.int .i64 (n : Int)] rfl rfl (World.news_of_block (cs := #[.int .i64 (n : Int)]) (t := 3) (fr := (0, 0)) (heap_alloc_new _ _)) (by simp [Value.oneCell']) (by unfold maxLen; omega) (by omega) (by simp; omega) ?_; intro v9 w9 hown9 hg9 _)
                  have hbel9 := (hbel8.alloc hbel8.size (.cells #[.int .i64 (n : Int)] 3)).grown hg9 (by simp; omega) (fun j hj => (hown.lt j hj).1)
                  have HO9 := Lib.hid hown9
                  clear hown9 hg9 hown
                  go_wp2_with fail
                  go_roundw
                  case rel => exact ⟨n + 1, M ++ [(n : Int)], by omega, by omega, by go_num, HMN, by rw [List.length_append, List.length_singleton]; omega, by rw [List.length_append, List.length_singleton, List.map_append]; exact HO9.out, hbel9⟩
                  case measure => simp [intOf]; omega
                · have HMN : Hid (M = (upB (fun n => decide (1 ≤ n) && !is n) (n + 1)).map Int.ofNat) := Lib.hid (by rw [HU.out, HM.out]; simp)
                  clear HU HM
                  go_wp2_with fail
                  go_roundw
                  case rel => exact ⟨n + 1, M, by omega, by omega, by go_num, HMN, by omega, hown, hbel8⟩
                  case measure => simp [intOf]; omega
              · have hlti : ¬ (n : Int) < (C : Int) := by omega
                have HE : Hid (cloG G = M) := Lib.hid (by
                  rw [HM.out, ← HLF.out]
                  by_cases e : n = C
                  · rw [e]
                  · have e1 : n = 1 := by omega
                    have e2 : C = 0 := by omega
                    rw [e1, e2]; rfl)
                rw [HE.out] at HB HL
                obtain ⟨a9, k9, rfl, rX9⟩ := row_open hown
                have cf := spec_FromGaps M a9 k9 w8 rX9.slv (by omega)
                have hb8V := hb6V.trans (hbel8.mono hb6V.size)
                clear hown rX9 HE HM HLF
                generalize fromGpB M = fb at *
                generalize hK : fromGpL M = K at *
                clear hK
                go_wp2_with fail
                refine cf.mono ?_
                rintro e w10 ⟨v10, rfl, ho10, hb10⟩
                have hb10V := hb8V.trans (hb10.mono hb8V.size)
                clear cf
                obtain ⟨a9, k9, rfl, -⟩ := row_open ho10
                have hbw8 := hbV.trans (hb10V.mono hbV.size)
                have hA8 := HAV.out.below hb10V
                have hN := Arr.new w10 26 [Value.slice none 0 0]
                have hA8c := hA8.alloc (.cells [Value.slice none 0 0].toArray 26)
                have hbw7 := hbw8.alloc (o := .cells [Value.slice none 0 0].toArray 26) hbw8.size
                have ho8c := ho10.alloc (.cells [Value.slice none 0 0].toArray 26)
                have hsw8 := hb10V.size
                have hsb8 := hb8V.size
                have hn8 := own_apart ho10 (g := w10.heap.size) (.inr (Nat.le_refl _))
                have hn7 := own_apart ho10 (g := w.heap.size + 1) (.inl (by omega))
                clear ho10 hA8
                go_wp2_with (first | (refine wpList_alloc_arr 26 [Value.slice none 0 0] zeroSg rfl rfl ?_) | (refine wpList_store_arr 26 (.tmp 15) (.tmp 110) w10.heap.size [Value.slice none 0 0] [Value.slice a9 K.length k9] rfl rfl rfl rfl hN rfl sizeSg (by simp [Value.oneCell']) ?_; intro wN hN6 hg6 hz6; clear hz6; have hcN := hN6.cell 0) | (refine wpList_store_arr 26 (.tmp 2) (.tmp 112) (w.heap.size + 1) [Value.slice none 0 0] [Value.slice a9 K.length k9] rfl rfl rfl rfl (hA8c.grown hg6 (by simp; omega)) rfl sizeSg (by simp [Value.oneCell']) ?_; intro w9 hA9 hg9 hz9; clear hz9))
                have hb6 := hbw7.grown hg6 hbw7.size (fun k hk => by cases hk; omega)
                have hb9 := hb6.grown hg9 hb6.size (fun k hk => by cases hk; omega)
                have ho9 := (ho8c.kept hg6 hn8).kept hg9 hn7
                exact bodyPost_ret (results_arr_tmp rfl _ _ (w.heap.size + 1) [Value.slice a9 K.length k9] dS rfl hA9 hdS hrS sizeSg) rfl ⟨_, by rw [HB.out]; rfl, by rw [HL.out]; exact ownsBase ho9 (by omega), hb9⟩
          · -- a pass
            have HP0 := Lib.hid (PassA.start is C)
            have HO := Lib.hid hown
            clear hown
            go_wp2_with fail
            go_loopw [8, 9] (fun s8 zx wr => ∃ (x : Nat) (is2 : Nat → Bool) (ch2 : Bool), x ≤ C ∧ zx = .int .i64 (x : Int) ∧ s8 = .bool ch2 ∧ Hid (ArfSt G C is2) ∧ Hid (PassA is is2 ch2 C x 0 0) ∧ wr.ownsRow w4.heap.size 4 1 (.slice (some ⟨w4.heap.size, 0, none⟩) (C + 1) (C + 1)) (C + 1) (tabZ (is2) (C + 1)) ∧ Below w4.heap.size w4 wr) (fun _ zx _ => C - (intOf zx).toNat)
            case atStart => exact ⟨0, is, false, Nat.zero_le _, rfl, rfl, HAS, HP0, HO.out, hbel⟩
            case round =>
              clear HO hbel HP0
              rename World => w7
              obtain ⟨x, is2, ch2, hx, rfl, rfl, HA2, HP2, hown, hbel⟩ := hrel
              by_cases hxl : x < C
              · have hxli : (x : Int) < (C : Int) := by omega
                have HO := Lib.hid hown
                clear hown
                go_wp2_with fail
                go_loopw [8, 10] (fun s8 zy wr => ∃ (y : Nat) (is2 : Nat → Bool) (ch2 : Bool), y ≤ x + 1 ∧ zy = .int .i64 (y : Int) ∧ s8 = .bool ch2 ∧ Hid (ArfSt G C is2) ∧ Hid (PassA is is2 ch2 C x y 0) ∧ wr.ownsRow w4.heap.size 4 1 (.slice (some ⟨w4.heap.size, 0, none⟩) (C + 1) (C + 1)) (C + 1) (tabZ (is2) (C + 1)) ∧ Below w4.heap.size w4 wr) (fun _ zy _ => x + 1 - (intOf zy).toNat)
                case atStart => exact ⟨0, is2, ch2, Nat.zero_le _, rfl, rfl, HA2, HP2, HO.out, hbel⟩
                case round =>
                  clear HO hbel HP2 HA2
                  rename World => w8
                  obtain ⟨y, is2, ch2, hy, rfl, rfl, HA2, HP2, hown, hbel⟩ := hrel
                  have hx0 : (0 : Int) ≤ (x : Int) := by omega
                  have hxM2 : (x : Int) < ((C + 1 : Nat) : Int) := by omega
                  have hxM : (x : Int) < (C : Int) + 1 := by omega
                  have hc_x : w8.cell? ⟨w4.heap.size, x, none⟩ = some (.bool (is2 x)) := by have := hown.cellAt x (by omega); rw [tabZ_get _ (by omega)] at this; exact this
                  by_cases hyx : y ≤ x
                  · have hyxi : (y : Int) ≤ (x : Int) := by omega
                    cases hix : is2 x
                    · have HN := Lib.hid (HP2.out.xNext (.inr hix))
                      rw [hix] at hc_x
                      have HO := Lib.hid hown
                      clear hown hix HP2
                      go_wp2_with fail
                      go_roundw
                      case rel => exact ⟨x + 1, is2, ch2, by omega, by go_num, rfl, HA2, HN, HO.out, hbel⟩
                      case measure => simp [intOf]; omega
                    · rw [hix] at hc_x
                      have HIX := Lib.hid hix
                      have HO := Lib.hid hown
                      clear hown hix
                      go_wp2_with fail
                      go_loopw [8, 11] (fun s8 zz wr => ∃ (z : Nat) (is2 : Nat → Bool) (ch2 : Bool), z ≤ y + 1 ∧ zz = .int .i64 (z : Int) ∧ s8 = .bool ch2 ∧ Hid (ArfSt G C is2) ∧ Hid (PassA is is2 ch2 C x y z) ∧ Hid (is2 x = true) ∧ wr.ownsRow w4.heap.size 4 1 (.slice (some ⟨w4.heap.size, 0, none⟩) (C + 1) (C + 1)) (C + 1) (tabZ (is2) (C + 1)) ∧ Below w4.heap.size w4 wr) (fun _ zz _ => y + 1 - (intOf zz).toNat)
                      case atStart => exact ⟨0, is2, ch2, Nat.zero_le _, rfl, rfl, HA2, HP2, HIX, HO.out, hbel⟩
                      case round =>
                        clear HO hbel HP2 HA2 HIX hc_x
                        rename World => w9
                        obtain ⟨z, is2, ch2, hz, rfl, rfl, HA2, HP2, HIX, hown, hbel⟩ := hrel
                        have hy0 : (0 : Int) ≤ (y : Int) := by omega
                        have hyM2 : (y : Int) < ((C + 1 : Nat) : Int) := by omega
                        have hyM : (y : Int) < (C : Int) + 1 := by omega
                        have hc_y : w9.cell? ⟨w4.heap.size, y, none⟩ = some (.bool (is2 y)) := by have := hown.cellAt y (by omega); rw [tabZ_get _ (by omega)] at this; exact this
                        by_cases hzy : z ≤ y
                        · have hzyi : (z : Int) ≤ (y : Int) := by omega
                          cases hiy : is2 y
                          · have HN := Lib.hid (HP2.out.yNext (.inr hiy))
                            rw [hiy] at hc_y
                            have HO := Lib.hid hown
                            clear hown hiy HP2
                            go_wp2_with fail
                            go_roundw
                            case rel => exact ⟨y + 1, is2, ch2, by omega, by go_num, rfl, HA2, HN, HO.out, hbel⟩
                            case measure => simp [intOf]; omega
                          · rw [hiy] at hc_y
                            have hz0' : (0 : Int) ≤ (z : Int) := by omega
                            have hzM2 : (z : Int) < ((C + 1 : Nat) : Int) := by omega
                            have hzM : (z : Int) < (C : Int) + 1 := by omega
                            have hc_z : w9.cell? ⟨w4.heap.size, z, none⟩ = some (.bool (is2 z)) := by have := hown.cellAt z (by omega); rw [tabZ_get _ (by omega)] at this; exact this
                            have hw1 : IntKind.i64.wrap ((x : Int) + (y : Int)) = (x : Int) + (y : Int) := IntWalk.i64_in _ (by omega)
                            obtain ⟨m, hm⟩ : ∃ m : Nat, m = x + y - z := ⟨_, rfl⟩
                            have hw2 : IntKind.i64.wrap ((x : Int) + (y : Int) - (z : Int)) = (m : Int) := by rw [IntWalk.i64_in _ (by omega)]; omega
                            cases hiz : is2 z
                            · have HN := Lib.hid (HP2.out.zNext (fun h => by rw [hiz] at h; cases h))
                              rw [hiz] at hc_z
                              have HO := Lib.hid hown
                              clear hown hiz hiy HP2 hm
                              go_wp2_with fail
                              go_roundw
                              case rel => exact ⟨z + 1, is2, ch2, by omega, by go_num, rfl, HA2, HN, HIX, HO.out, hbel⟩
                              case measure => simp [intOf]; omega
                            · rw [hiz] at hc_z
                              by_cases hmC : m < C
                              · have hmCi : (m : Int) < (C : Int) := by omega
                                have hm0 : (0 : Int) ≤ (m : Int) := by omega
                                have hmM2 : (m : Int) < ((C + 1 : Nat) : Int) := by omega
                                have hmM : (m : Int) < (C : Int) + 1 := by omega
                                have hc_m : w9.cell? ⟨w4.heap.size, m, none⟩ = some (.bool (is2 m)) := by have := hown.cellAt m (by omega); rw [tabZ_get _ (by omega)] at this; exact this
                                cases him : is2 m
                                · have HA3 : Hid (ArfSt G C (fun j => if j = m then true else is2 j)) := Lib.hid (by rw [hm]; exact HA2.out.put hxl hzy hyx HIX.out hiy hiz)
                                  have HN := Lib.hid (HP2.out.put hmC him x y (z + 1))
                                  have HIX3 : Hid ((fun j => if j = m then true else is2 j) x = true) := Lib.hid (by show (if x = m then true else is2 x) = true; split; rfl; exact HIX.out)
                                  have hst := hown.stored m (.bool true)
                                  rw [tabZ_set (g := (fun j => if j = m then true else is2 j)) true (by simp) (fun i hi => by simp [hi])] at hst
                                  have HST := Lib.hid hst.1
                                  have HB2 := Lib.hid (hbel.setCell (p := ⟨w4.heap.size, m, none⟩) (Nat.le_refl _) (.bool true))
                                  have hfz : w9.frozen? ⟨w4.heap.size, m, none⟩ = false := hown.frozenAt m
                                  rw [him] at hc_m
                                  clear hst hown him hiz hiy HP2 hm HA2 HIX
                                  go_wp2_with fail
                                  go_roundw
                                  case rel => exact ⟨z + 1, (fun j => if j = m then true else is2 j), true, by omega, by go_num, rfl, HA3, HN, HIX3, HST.out, HB2.out⟩
                                  case measure => simp [intOf]; omega
                                · have HN := Lib.hid (HP2.out.zNext (fun _ _ => by rw [← hm]; exact him))
                                  rw [him] at hc_m
                                  have HO := Lib.hid hown
                                  clear hown him hiz hiy HP2 hm
                                  go_wp2_with fail
                                  go_roundw
                                  case rel => exact ⟨z + 1, is2, ch2, by omega, by go_num, rfl, HA2, HN, HIX, HO.out, hbel⟩
                                  case measure => simp [intOf]; omega
                              · have hmCi : ¬ (m : Int) < (C : Int) := by omega
                                have HN := Lib.hid (HP2.out.zNext (fun _ h => absurd (by omega) hmC))
                                have HO := Lib.hid hown
                                clear hown hiz hiy HP2 hm
                                go_wp2_with fail
                                go_roundw
                                case rel => exact ⟨z + 1, is2, ch2, by omega, by go_num, rfl, HA2, HN, HIX, HO.out, hbel⟩
                                case measure => simp [intOf]; omega
                        · have hzyi : ¬ (z : Int) ≤ (y : Int) := by omega
                          have HN := Lib.hid (HP2.out.yNext (.inl (by omega)))
                          have HO := Lib.hid hown
                          clear hown HP2
                          go_wp2_with fail
                          go_roundw
                          case rel => exact ⟨y + 1, is2, ch2, by omega, by go_num, rfl, HA2, HN, HO.out, hbel⟩
                          case measure => simp [intOf]; omega
                  · have hyxi : ¬ (y : Int) ≤ (x : Int) := by omega
                    have HN := Lib.hid (HP2.out.xNext (.inl (by omega)))
                    have HO := Lib.hid hown
                    clear hown HP2
                    go_wp2_with fail
                    go_roundw
                    case rel => exact ⟨x + 1, is2, ch2, by omega, by go_num, rfl, HA2, HN, HO.out, hbel⟩
                    case measure => simp [intOf]; omega
              · have hxli : ¬ (x : Int) < (C : Int) := by omega
                have hxe : x = C := by omega
                have HLS := Lib.hid HP2.out.less
                have HID : Hid (ch2 = false → ∀ x y z, x < C → y ≤ x → z ≤ y → is2 x = true → is2 y = true → is2 z = true → x + y - z < C → is2 (x + y - z) = true) := Lib.hid (fun e a b d ha hb hd => by
                  obtain ⟨e1, h2⟩ := HP2.out.idle e
                  rw [e1]
                  exact h2 a b d ha hb hd (.inl (by omega)))
                have HO := Lib.hid hown
                clear hown HP2 hxe
                go_wp2_with fail
                go_roundg (2 * lackC is2 C + (if ch2 then 1 else 0))
                case measure => rw [HKN.out]; exact HLS.out
                case rel => exact ⟨is2, ch2, rfl, HA2, Lib.hid rfl, HID, HO.out, hbel⟩

end Go.Proofs.YtipfonpaaebjjaaGreat
