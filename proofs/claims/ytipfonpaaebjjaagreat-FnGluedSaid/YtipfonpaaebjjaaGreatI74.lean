/-
  CONTRACTS of the program's chapter 22: divided, IsTelescopic. (Own work: mk74.py.)
-/
import Derived.Test.YtipfonpaaebjjaaGreatSgTe
import Derived.Test.YtipfonpaaebjjaaGreatSgL
import Derived.Test.YtipfonpaaebjjaaGreatI13
import Derived.Maps.AppendAt
import Derived.WalkMore
import Derived.OwnWalk
namespace Go.Proofs.YtipfonpaaebjjaaGreat
open Go Go.RowKit
attribute [local go_sem] Oper.semAt_some

def tabD (f : Nat → Int) (m : Nat) : List Value := (List.range m).map fun i => Value.int .i64 (f i)
theorem tabD_get (f : Nat → Int) {m j : Nat} (h : j < m) : (tabD f m)[j]? = some (.int .i64 (f j)) := by unfold tabD; simp [h]
theorem tabD_congr {f g : Nat → Int} {m : Nat} (h : ∀ i, i < m → f i = g i) : tabD f m = tabD g m := by
  unfold tabD; exact List.map_congr_left fun i hi => by rw [h i (List.mem_range.1 hi)]
theorem tabD_set {f g : Nat → Int} {m j : Nat} (u : Int) (hj : g j = u) (h : ∀ i, i ≠ j → f i = g i) : (tabD f m).set j (.int .i64 u) = tabD g m := by
  apply List.ext_getElem?
  intro i
  rw [List.getElem?_set]
  by_cases e : j = i
  · subst e
    by_cases hm : j < m
    · rw [tabD_get g hm]; unfold tabD; simp [hm, hj]
    · unfold tabD; simp [hm]
  · rw [if_neg e]
    by_cases hm : i < m
    · rw [tabD_get f hm, tabD_get g hm, h i (fun h => e h.symm)]
    · unfold tabD; simp [hm]
theorem tab0D {w w1 : World} (M : Nat) (hown : w1.ownsRow w.heap.size 3 1 (.slice (some ⟨w.heap.size, 0, none⟩) M M) M (madeCells (Value.int .i64 0).cells (M * 1)).toList) (hgrow : w.grownBy w1 none) :
    Hid (w1.ownsRow w.heap.size 3 1 (.slice (some ⟨w.heap.size, 0, none⟩) M M) M (tabD (fun _ => 0) M)) ∧ Hid (Below w.heap.size w w1) := by
  refine ⟨Lib.hid ?_, Lib.hid ((Below.refl _ w).grown hgrow (Nat.le_refl _) (fun k h => by cases h))⟩
  have e : (madeCells (Value.int .i64 0).cells (M * 1)).toList = List.replicate M (Value.int .i64 0) := by rw [Nat.mul_one]; exact toList_madeCells_one _ _
  have e2 : tabD (fun _ => 0) M = List.replicate M (Value.int .i64 0) := by
    unfold tabD; exact List.map_const' .. |>.trans (by rw [List.length_range])
  rw [e2, ← e]; exact hown
def divT (L : List Int) (d : Int) (k i : Nat) : Int := if i < k then L.getD i 0 / d else 0
theorem divT_set (L : List Int) (d : Int) (k M : Nat) : (tabD (divT L d k) M).set k (.int .i64 (L.getD k 0 / d)) = tabD (divT L d (k + 1)) M :=
  tabD_set _ (by unfold divT; rw [if_pos (by omega)]) fun i hi => by
    unfold divT
    by_cases h : i < k
    · rw [if_pos h, if_pos (by omega)]
    · rw [if_neg h, if_neg (by omega)]
theorem divT_all (L : List Int) (d : Int) : tabD (divT L d L.length) L.length = (overL L d).map (Value.int .i64) := by
  apply List.ext_getElem?
  intro i
  by_cases h : i < L.length
  · rw [tabD_get _ h]
    unfold divT overL
    rw [if_pos h, getD_at h]
    simp [h]
  · unfold tabD overL
    simp [h]

set_option maxRecDepth 100000 in
set_option maxHeartbeats 1600000 in
theorem impl_divided (L : List Int) (d : Int) (a : Option Addr) (cap : Nat) (w : World) (hr : SlV w a (L.map (Value.int .i64))) (hb : L.length ≤ 20) (hL : ∀ x ∈ L, 1 ≤ x ∧ x ≤ 60) (hd : 1 ≤ d) :
    Calls Tryz.prog 48 #[.slice a L.length cap, .int .i64 d] w (SlPost (overL L d) w) := by
  obtain ⟨i0, hi, hz0, hz1, hz2⟩ := info_parts infoIntL
  have HL := Lib.hid hL
  have hd0 : d ≠ 0 := by omega
  have hdz : (d == 0) = false := by rw [beq_eq_false_iff_ne]; exact hd0
  have HA := Lib.hid (divT_all L d)
  have hol : (overL L d).length = L.length := by unfold overL; rw [List.length_map]
  have HOL := Lib.hid hol
  clear hL hol
  obtain ⟨n, hn⟩ : ∃ n, n = L.length := ⟨_, rfl⟩
  have HNL := Lib.hid hn
  rw [← hn] at hb HA HOL
  rw [← hn]
  clear hn
  go_enter Tryz.func48, Tryz.ntmps48
  go_wp2_with (at_make; refine wpList_make_full _ rfl _ _ 24 rfl w.heap.size 3 i0 (Value.int .i64 0) 1 Tryz.underlying24 hi hz0 hz1 .i64 .i64 _ _ n rfl rfl (by first | rfl | (simp; done) | omega) (by first | rfl | (simp; done) | omega) (by rw [hz2]; omega) (by unfold maxLen; omega) (Nat.le_refl _) ?_; intro w1 hown hgrow; obtain ⟨HO, HB⟩ := tab0D n hown hgrow; clear hown hgrow)
  clear hi hz0 hz1 hz2
  go_loopw [13] (fun i wr => ∃ k : Nat, k ≤ n ∧ i = .int .i64 (k : Int) ∧ wr.ownsRow w.heap.size 3 1 (.slice (some ⟨w.heap.size, 0, none⟩) n n) n (tabD (divT L d k) n) ∧ Below w.heap.size w wr) (fun i _ => n - (intOf i).toNat)
  case atStart => exact ⟨0, Nat.zero_le _, rfl, by have := HO.out; rwa [tabD_congr (g := divT L d 0) (fun i _ => by unfold divT; rw [if_neg (by omega)])] at this, HB.out⟩
  case round =>
    clear HO HB
    obtain ⟨k, hk, rfl, hown, hbel⟩ := hrel
    by_cases hlt : k < n
    · have hlti : (k : Int) < (n : Int) := by omega
      have hk0 : (0 : Int) ≤ (k : Int) := by omega
      have hkl : k < L.length := by rw [← HNL.out]; exact hlt
      have hct : wr.cell? ⟨w.heap.size, k, none⟩ = some (.int .i64 (divT L d k k)) := by have := hown.cellAt k (by omega); rw [tabD_get _ hlt] at this; exact this
      have hfz : wr.frozen? ⟨w.heap.size, k, none⟩ = false := hown.frozenAt k
      have hst := hown.stored k (.int .i64 (L.getD k 0 / d))
      rw [divT_set] at hst
      have HST := Lib.hid hst.1
      have HB2 := Lib.hid (hbel.setCell (p := ⟨w.heap.size, k, none⟩) (Nat.le_refl _) (.int .i64 (L.getD k 0 / d)))
      rw [getD_at hkl] at HST HB2
      obtain ⟨b, off, rfl, hbs, hc⟩ := (hr.below hbel).open (by intro h; rw [List.map_eq_nil_iff] at h; rw [h] at hkl; simp at hkl)
      have hcell : wr.cell? ⟨b, off + k, none⟩ = some (.int .i64 L[k]) := hc k _ (by simp [hkl])
      have hx := HL.out L[k] (List.getElem_mem hkl)
      have hq := div_bnd (x := L[k]) (d := d) (b := 60) ⟨by omega, by omega⟩ hd
      have htd : L[k].tdiv d = L[k] / d := Int.tdiv_eq_ediv_of_nonneg (by omega)
      have hw1 : IntKind.i64.wrap (L[k] / d) = L[k] / d := IntWalk.i64_in _ (by omega)
      clear hst hown hc hr hbel
      generalize divT L d k k = cj at *
      generalize L[k] / d = q at *
      generalize L[k] = x at *
      go_wp2_with fail
      go_roundw
      case rel => exact ⟨k + 1, by omega, by go_num, HST.out, HB2.out⟩
      case measure => simp [intOf]; omega
    · obtain rfl : k = n := by omega
      have hlti : ¬ ((k : Nat) : Int) < (k : Int) := by omega
      rw [HA.out] at hown
      have HO := Lib.hid hown
      clear hown hr
      go_wp2_with fail
      go_ret
      exact ⟨_, rfl, by rw [HOL.out]; exact HO.out, hbel⟩

set_option maxRecDepth 100000 in
set_option maxHeartbeats 1600000 in
theorem impl_IsTelescopic (L : List Int) (a : Option Addr) (cap : Nat) (w : World) (hr : SlV w a (L.map (Value.int .i64))) (hb : L.length ≤ 1048576) (hcap : L.length ≤ cap) :
    Calls Tryz.prog 11 #[.slice a L.length cap] w fun e w' => e = .returned (.bool (teleB L)) ∧ Below w.heap.size w w' := by
  have c1 := impl_areListed L a cap w hr hb
  cases hok : okG L
  · have HR : Hid (teleB L = false) := Lib.hid (by unfold teleB; rw [hok]; rfl)
    rw [hok] at c1
    clear hok hr
    go_enter Tryz.func11, Tryz.ntmps11
    go_wp2_with fail
    refine c1.mono ?_
    rintro e w1 ⟨rfl, rfl⟩
    go_wp2_with fail
    go_ret
    exact ⟨by rw [HR.out]; rfl, Below.refl _ _⟩
  · have c2 := impl_GcdOfList L a cap w hr (by unfold maxLen; omega)
    rw [hok] at c1
    have HOK := Lib.hid hok
    have hl := (okG_iff.1 hok).2
    have HBN := Lib.hid (okG_iff.1 hok).1
    have hne : L ≠ [] := fun e => by rw [e] at hl; simp at hl
    obtain ⟨b, off, rfl, hbs, hcl⟩ := hr.open (by simpa using hne)
    have HCK : Hid (∀ w2, Below w.heap.size w w2 → ∀ (j : Nat) (hj : j < L.length), w2.cell? ⟨b, off + j, none⟩ = some (.int .i64 L[j])) := Lib.hid fun w2 h j hj => (h.cell (p := ⟨b, off + j, none⟩) hbs).trans (hcl j _ (by simp [hj]))
    have HSL : Hid (∀ w2, Below w.heap.size w w2 → ∀ k, SlV w2 (some ⟨b, off, none⟩) ((L.take k).map (Value.int .i64))) := Lib.hid fun w2 h k => by rw [List.map_take]; exact (hr.below h).take k
    have HTL : Hid (∀ k, k ≤ L.length → (L.take k).length = k) := Lib.hid fun k hk => by rw [List.length_take]; omega
    clear hbs hcl hr
    by_cases hg : gcdL L = 1
    · have HR : Hid (teleB L = teleU L L.length) := Lib.hid (by unfold teleB; rw [hok, decide_eq_true hg]; rfl)
      rw [hg] at c2
      clear hg hok hne
      go_enter Tryz.func11, Tryz.ntmps11
      go_wp2_with fail
      refine c1.mono ?_
      rintro e w1 ⟨rfl, hww1⟩
      rw [hww1]
      clear c1 hww1
      go_wp2_with fail
      refine c2.mono ?_
      rintro e w2 ⟨rfl, hb2⟩
      clear c2
      go_wp2_with fail
      go_loopw [3] (fun i wr => ∃ k : Nat, 1 ≤ k ∧ k ≤ L.length ∧ i = .int .i64 (k : Int) ∧ Hid (teleU L k = true) ∧ Below w.heap.size w wr) (fun i _ => L.length - (intOf i).toNat)
      case atStart => exact ⟨1, Nat.le_refl _, hl.1, rfl, Lib.hid (teleU_one L), hb2⟩
      case round =>
        clear hb2
        obtain ⟨k, hk1, hk, rfl, HU, hbel⟩ := hrel
        have hsz := hbel.size
        by_cases hlt : k < L.length
        · have hlti : (k : Int) < (L.length : Int) := by omega
          have hkc : k ≤ cap := by omega
          have ck := fun WW (HH : Below w.heap.size w WW) => (by have h := impl_GcdOfList (L.take (k)) (some ⟨b, off, none⟩) cap WW (HSL.out _ HH (k)) (by unfold maxLen; have := HTL.out (k) (by omega); omega); rw [HTL.out (k) (by omega)] at h; exact h)
          have hg0 := take_gcd HOK.out hk1 (Nat.le_of_lt hlt)
          have hg1 := take_gcd HOK.out (k := k + 1) (by omega) hlt
          have hx := get_ok HOK.out hlt
          have hOL : (overL (L.take k) (gcdL (L.take k))).length ≤ 20 := by unfold overL; rw [List.length_map, HTL.out k (by omega)]; omega
          have co := fun W1 (h : Below w.heap.size w W1) => impl_divided (L.take k) (gcdL (L.take k)) (some ⟨b, off, none⟩) cap W1 (HSL.out _ h k) (by rw [HTL.out k (by omega)]; omega) (fun y hy => HBN.out y (List.mem_of_mem_take hy)) hg0.1
          rw [HTL.out k (by omega)] at co
          have c3 := fun W1 => impl_GcdOf (gcdL (L.take k)) L[k] W1
          rw [← gcdL_take L k hlt] at c3
          have HTA : Hid (generatesB (overL (L.take k) (gcdL (L.take k))) (L[k] / gcdL (L.take (k + 1))) = teleAt L k) := Lib.hid (by unfold teleAt; rw [getD_at hlt])
          have HUS := Lib.hid (teleU_succ L hk1)
          have HUN := Lib.hid (fun h => teleU_no (L := L) hk1 hlt h)
          have HK : Hid (∀ w2, Below w.heap.size w w2 → (w2.cell? ⟨b, off + k, none⟩ = some (.int .i64 L[k]) ∧ Below w.heap.size w w2)) := Lib.hid fun w2 h => ⟨HCK.out _ h k hlt, h⟩
          have hqb := div_bnd (x := L[k]) (d := gcdL (L.take (k + 1))) (b := 60) ⟨by omega, hx.2⟩ hg1.1
          have htd : L[k].tdiv (gcdL (L.take (k + 1))) = L[k] / gcdL (L.take (k + 1)) := Int.tdiv_eq_ediv_of_nonneg (by omega)
          have hwq : IntKind.i64.wrap (L[k] / gcdL (L.take (k + 1))) = L[k] / gcdL (L.take (k + 1)) := IntWalk.i64_in _ (by omega)
          have hgz : gcdL (L.take (k + 1)) ≠ 0 := by omega
          have hgzb : (gcdL (L.take (k + 1)) == 0) = false := by rw [beq_eq_false_iff_ne]; exact hgz
          generalize overL (L.take k) (gcdL (L.take k)) = OV at *
          generalize gcdL (L.take k) = g0 at *
          generalize gcdL (L.take (k + 1)) = g1 at *
          generalize L[k] = x at *
          generalize teleAt L k = q at *
          generalize hqx : x / g1 = xq at *
          go_wp2_with fail
          have hS0 := HK.out _ hbel.drew
          refine wp_region_held_drew (S := fun w' => (w'.cell? ⟨b, off + k, none⟩ = some (.int .i64 x) ∧ Below w.heap.size w w')) (by kernel_rfl) hS0 (fun hHeld => ?_)
          refine held_take 0 _ _ rfl (by kernel_rfl) (by kernel_rfl) (by kernel_rfl) (fun _ _ _ h => h) (by rfl) hHeld (fun w hSw => by (try dsimp only at hSw); go_simp; try with_reducible rfl) ?_
          (try simp only [Act.put, List.setIfInBounds_toArray, List.set_cons_zero, List.set_cons_succ, List.getElem_toArray, List.getElem_cons_zero])
          refine held_take 1 _ _ rfl (by kernel_rfl) (by kernel_rfl) (by kernel_rfl) (fun _ _ _ h => h) (by rfl) hHeld (fun w hSw => by (try dsimp only at hSw); go_simp; try with_reducible rfl) ?_
          (try simp only [Act.put, List.setIfInBounds_toArray, List.set_cons_zero, List.set_cons_succ, List.getElem_toArray, List.getElem_cons_succ, List.getElem_cons_zero])
          refine held_take 2 _ _ rfl (by kernel_rfl) (by kernel_rfl) (by kernel_rfl) (fun _ _ _ h => h) (by rfl) hHeld (fun w hSw => by (try dsimp only at hSw); go_simp; try with_reducible rfl) ?_
          (try simp only [Act.put, List.setIfInBounds_toArray, List.set_cons_zero, List.set_cons_succ, List.getElem_toArray, List.getElem_cons_succ, List.getElem_cons_zero])
          refine held_take 3 _ _ rfl (by kernel_rfl) (by kernel_rfl) (by kernel_rfl) (fun _ _ _ h => h) (by rfl) hHeld (fun w hSw => by (try dsimp only at hSw); go_simp; try with_reducible rfl) ?_
          (try simp only [Act.put, List.setIfInBounds_toArray, List.set_cons_zero, List.set_cons_succ, List.getElem_toArray, List.getElem_cons_succ, List.getElem_cons_zero])
          refine held_take 4 _ _ rfl (by kernel_rfl) (by kernel_rfl) (by kernel_rfl) (fun _ _ _ h => h) (by rfl) hHeld (fun w hSw => by (try dsimp only at hSw); go_simp; try with_reducible rfl) ?_
          (try simp only [Act.put, List.setIfInBounds_toArray, List.set_cons_zero, List.set_cons_succ, List.getElem_toArray, List.getElem_cons_succ, List.getElem_cons_zero])
          refine held_take 5 _ _ rfl (by kernel_rfl) (by kernel_rfl) (by kernel_rfl) (fun _ _ _ h => h) (by rfl) hHeld (fun w hSw => by (try dsimp only at hSw); go_simp; try with_reducible rfl) ?_
          (try simp only [Act.put, List.setIfInBounds_toArray, List.set_cons_zero, List.set_cons_succ, List.getElem_toArray, List.getElem_cons_succ, List.getElem_cons_zero])
          refine held_take 6 _ _ rfl (by kernel_rfl) (by kernel_rfl) (by kernel_rfl) (fun _ _ _ h => h) (by rfl) hHeld (fun w hSw => by (try dsimp only at hSw); go_simp; try with_reducible rfl) ?_
          (try simp only [Act.put, List.setIfInBounds_toArray, List.set_cons_zero, List.set_cons_succ, List.getElem_toArray, List.getElem_cons_succ, List.getElem_cons_zero])
          refine held_take 7 _ _ rfl (by kernel_rfl) (by kernel_rfl) (by kernel_rfl) (fun _ _ _ h => h) (by rfl) hHeld (fun w hSw => by (try dsimp only at hSw); go_simp; try with_reducible rfl) ?_
          (try simp only [Act.put, List.setIfInBounds_toArray, List.set_cons_zero, List.set_cons_succ, List.getElem_toArray, List.getElem_cons_succ, List.getElem_cons_zero])
          refine held_take 8 _ _ rfl (by kernel_rfl) (by kernel_rfl) (by kernel_rfl) (fun _ _ _ h => h) (by rfl) hHeld (fun w hSw => by (try dsimp only at hSw); go_simp; try with_reducible rfl) ?_
          (try simp only [Act.put, List.setIfInBounds_toArray, List.set_cons_zero, List.set_cons_succ, List.getElem_toArray, List.getElem_cons_succ, List.getElem_cons_zero])
          refine wpAnyH_done (by kernel_rfl) ?_ _
          have hbd := hbel.drew
          clear hS0
          go_wp2_with fail
          refine (ck _ hbd).mono ?_
          rintro e w3 ⟨rfl, hb3⟩
          have hb3w := hbd.trans (hb3.mono hbd.size)
          clear ck hb3
          go_wp2_with fail
          refine (co _ hb3w).mono ?_
          rintro e w4 ⟨v4, rfl, ho4, hb4⟩
          obtain ⟨a4, k4, rfl, rX4⟩ := row_open ho4
          have hb4w := hb3w.trans (hb4.mono hb3w.size)
          clear co hb4 ho4
          go_wp2_with fail
          refine (c3 _).mono ?_
          rintro e w5 ⟨rfl, hb5⟩
          have hb5w := hb4w.trans (hb5.mono hb4w.size)
          have cg := impl_Generates OV xq a4 k4 w5 (rX4.slv.below hb5) (by omega)
          rw [HTA.out] at cg
          clear c3 hb5 rX4
          go_wp2_with fail
          refine cg.mono ?_
          rintro e w6 ⟨rfl, hb6⟩
          have hb6w := hb5w.trans (hb6.mono hb5w.size)
          clear cg
          cases q
          · have HF : Hid (teleB L = false) := Lib.hid (by rw [HR.out]; exact HUN.out rfl)
            go_wp2_with fail
            go_ret
            exact ⟨by rw [HF.out]; rfl, hb6w⟩
          · have HN : Hid (teleU L (k + 1) = true) := Lib.hid (by rw [HUS.out, HU.out]; rfl)
            go_wp2_with fail
            go_roundw
            case rel => exact ⟨k + 1, by omega, by omega, by go_num, HN, hb6w⟩
            case measure => simp [intOf]; omega
        · obtain rfl : k = L.length := by omega
          have hlti : ¬ ((L.length : Nat) : Int) < (L.length : Int) := by omega
          have HT : Hid (teleB L = true) := Lib.hid (by rw [HR.out, HU.out])
          go_wp2_with fail
          go_ret
          exact ⟨by rw [HT.out]; rfl, hbel⟩
    · have HR : Hid (teleB L = false) := Lib.hid (by unfold teleB; rw [decide_eq_false hg, Bool.and_false]; rfl)
      have hgb : (gcdL L != 1) = true := by rw [bne_iff_ne]; exact hg
      clear hok hne hg
      generalize gcdL L = g at *
      go_enter Tryz.func11, Tryz.ntmps11
      go_wp2_with fail
      refine c1.mono ?_
      rintro e w1 ⟨rfl, hww1⟩
      rw [hww1]
      go_wp2_with fail
      refine c2.mono ?_
      rintro e w2 ⟨rfl, hb2⟩
      go_wp2_with fail
      go_ret
      exact ⟨by rw [HR.out]; rfl, hb2⟩

set_option maxRecDepth 100000 in
set_option maxHeartbeats 1600000 in
theorem impl_sumOf60 (L : List Int) (a : Option Addr) (cap : Nat) (w : World) (hr : SlV w a (L.map (Value.int .i64))) (hb : L.length ≤ 20) (hL : ∀ x ∈ L, 1 ≤ x ∧ x ≤ 60) :
    Calls Tryz.prog 50 #[.slice a L.length cap] w fun e w' => e = .returned (.int .i64 L.sum) ∧ w' = w := by
  have HL := Lib.hid hL
  clear hL
  go_enter Tryz.func50, Tryz.ntmps50
  go_wp2_with fail
  go_loop [3, 8] (fun s i => ∃ k : Nat, k ≤ L.length ∧ i = .int .i64 (k : Int) ∧ s = .int .i64 (L.take k).sum) (fun _ i => L.length - (intOf i).toNat)
  case atStart => exact ⟨0, Nat.zero_le _, rfl, rfl⟩
  case round =>
    obtain ⟨k, hk, rfl, rfl⟩ := hrel
    by_cases hlt : k < L.length
    · obtain ⟨b, off, rfl, hbs, hc⟩ := hr.open (by intro h; rw [List.map_eq_nil_iff] at h; subst h; simp at hlt)
      have hcell : w.cell? ⟨b, off + k, none⟩ = some (.int .i64 L[k]) := hc k _ (by simp [hlt])
      have HT : Hid ((L.take (k + 1)).sum = (L.take k).sum + L[k]) := Lib.hid (by rw [List.take_add_one, List.getElem?_eq_getElem hlt, List.sum_append]; simp)
      have hs := sum_ok (L := L.take k) fun x hx => HL.out x (List.mem_of_mem_take hx)
      have hl1 : (L.take k).length ≤ 20 := by rw [List.length_take]; omega
      have hx := HL.out L[k] (List.getElem_mem hlt)
      clear hc hr
      generalize L[k] = x at *
      generalize (L.take k).sum = s at *
      have hw1 : IntKind.i64.wrap (s + x) = s + x := IntWalk.i64_in _ (by omega)
      go_wp2_with fail
      go_round
      case rel => exact ⟨k + 1, by omega, by go_num, by rw [HT.out]⟩
      case measure => simp [intOf]; omega
    · obtain rfl : k = L.length := by omega
      have HT := Lib.hid (List.take_of_length_le (Nat.le_refl L.length))
      clear hr
      go_wp2_with fail
      go_ret
      exact ⟨by rw [← HT.out]; simp, rfl⟩

set_option maxRecDepth 100000 in
set_option maxHeartbeats 1600000 in
theorem impl_TelescopicFrobenius (L : List Int) (a : Option Addr) (cap : Nat) (w : World) (hr : SlV w a (L.map (Value.int .i64))) (hb : L.length ≤ 1048576) (hcap : L.length ≤ cap) :
    Calls Tryz.prog 12 #[.slice a L.length cap] w fun e w' => e = .returned (.int .i64 (teleN L)) ∧ Below w.heap.size w w' := by
  have c1 := fun w2 (h : SlV w2 a (L.map (Value.int .i64))) => impl_IsTelescopic L a cap w2 h hb hcap
  cases ht : teleB L
  · have HR : Hid (teleN L = -1) := Lib.hid (by unfold teleN; rw [ht]; rfl)
    rw [ht] at c1
    clear ht
    go_enter Tryz.func12, Tryz.ntmps12
    go_wp2_with fail
    refine (c1 _ hr).mono ?_
    rintro e w1 ⟨rfl, hb1⟩
    go_wp2_with fail
    go_ret
    exact ⟨by rw [HR.out]; rfl, hb1⟩
  · have HR : Hid (teleN L = -L.sum + teleS L L.length) := Lib.hid (by unfold teleN; rw [ht, if_pos rfl]; omega)
    obtain ⟨hok, -⟩ := tele_ok ht
    rw [ht] at c1
    have c1 := c1 w hr
    have c2 := fun w2 (h : SlV w2 a (L.map (Value.int .i64))) => impl_sumOf60 L a cap w2 h (okG_iff.1 hok).2.2 (okG_iff.1 hok).1
    have HRB := Lib.hid (fun w2 (h : Below w.heap.size w w2) => hr.below h)
    have hsum := sum_ok (okG_iff.1 hok).1
    clear ht
    have HOK := Lib.hid hok
    have hl := (okG_iff.1 hok).2
    have HBN := Lib.hid (okG_iff.1 hok).1
    have hne : L ≠ [] := fun e => by rw [e] at hl; simp at hl
    obtain ⟨b, off, rfl, hbs, hcl⟩ := hr.open (by simpa using hne)
    have HCK : Hid (∀ w2, Below w.heap.size w w2 → ∀ (j : Nat) (hj : j < L.length), w2.cell? ⟨b, off + j, none⟩ = some (.int .i64 L[j])) := Lib.hid fun w2 h j hj => (h.cell (p := ⟨b, off + j, none⟩) hbs).trans (hcl j _ (by simp [hj]))
    have HSL : Hid (∀ w2, Below w.heap.size w w2 → ∀ k, SlV w2 (some ⟨b, off, none⟩) ((L.take k).map (Value.int .i64))) := Lib.hid fun w2 h k => by rw [List.map_take]; exact (hr.below h).take k
    have HTL : Hid (∀ k, k ≤ L.length → (L.take k).length = k) := Lib.hid fun k hk => by rw [List.length_take]; omega
    clear hbs hcl hr
    have HS1 : Hid (teleS L 1 = 0) := Lib.hid (by unfold teleS; unfold teleS; simp)
    clear hok hne
    go_enter Tryz.func12, Tryz.ntmps12
    go_wp2_with fail
    refine c1.mono ?_
    rintro e w1 ⟨rfl, hb1⟩
    clear c1
    go_wp2_with fail
    refine (c2 _ (HRB.out _ hb1)).mono ?_
    rintro e w2 ⟨rfl, hww⟩
    rw [hww]
    clear c2 hww HRB
    generalize L.sum = sm at *
    have hwn : IntKind.i64.wrap (-sm) = -sm := IntWalk.i64_in _ (by omega)
    go_wp2_with fail
    go_loopw [3, 4] (fun s i wr => ∃ k : Nat, 1 ≤ k ∧ k ≤ L.length ∧ i = .int .i64 (k : Int) ∧ s = .int .i64 (-sm + teleS L k) ∧ Below w.heap.size w wr) (fun _ i _ => L.length - (intOf i).toNat)
    case atStart => exact ⟨1, Nat.le_refl _, hl.1, rfl, by rw [HS1.out]; simp, hb1⟩
    case round =>
      clear hb1
      obtain ⟨k, hk1, hk, rfl, rfl, hbel⟩ := hrel
      have hsz := hbel.size
      by_cases hlt : k < L.length
      · have hlti : (k : Int) < (L.length : Int) := by omega
        have hkc : k ≤ cap := by omega
        have ck := fun WW (HH : Below w.heap.size w WW) => (by have h := impl_GcdOfList (L.take (k)) (some ⟨b, off, none⟩) cap WW (HSL.out _ HH (k)) (by unfold maxLen; have := HTL.out (k) (by omega); omega); rw [HTL.out (k) (by omega)] at h; exact h)
        have c3 := fun W1 => impl_GcdOf (gcdL (L.take k)) L[k] W1
        rw [← gcdL_take L k hlt] at c3
        have hg0 := take_gcd HOK.out hk1 (Nat.le_of_lt hlt)
        have hg1 := take_gcd HOK.out (k := k + 1) (by omega) hlt
        have hx := get_ok HOK.out hlt
        have hts := teleS_bnd HOK.out k (Nat.le_of_lt hlt)
        have hpp := prod_bnd hx hg0
        have hqb := div_bnd (x := L[k] * gcdL (L.take k)) (d := gcdL (L.take (k + 1))) (b := 3600) ⟨by omega, hpp.2⟩ hg1.1
        have HTS : Hid (teleS L (k + 1) = teleS L k + L[k] * gcdL (L.take k) / gcdL (L.take (k + 1))) := Lib.hid (by
          show teleS L k + (if k = 0 then 0 else teleT L k) = _
          rw [if_neg (by omega)]; unfold teleT; rw [getD_at hlt])
        have HK : Hid (∀ w2, Below w.heap.size w w2 → (w2.cell? ⟨b, off + k, none⟩ = some (.int .i64 L[k]) ∧ Below w.heap.size w w2)) := Lib.hid fun w2 h => ⟨HCK.out _ h k hlt, h⟩
        have HN : Hid (-sm + teleS L (k + 1) = -sm + teleS L k + L[k] * gcdL (L.take k) / gcdL (L.take (k + 1))) := Lib.hid (by rw [HTS.out]; omega)
        clear HTS
        have htd : (L[k] * gcdL (L.take k)).tdiv (gcdL (L.take (k + 1))) = L[k] * gcdL (L.take k) / gcdL (L.take (k + 1)) := Int.tdiv_eq_ediv_of_nonneg (by omega)
        have hwq : IntKind.i64.wrap (L[k] * gcdL (L.take k) / gcdL (L.take (k + 1))) = L[k] * gcdL (L.take k) / gcdL (L.take (k + 1)) := IntWalk.i64_in _ (by omega)
        have hgz : gcdL (L.take (k + 1)) ≠ 0 := by omega
        have hgzb : (gcdL (L.take (k + 1)) == 0) = false := by rw [beq_eq_false_iff_ne]; exact hgz
        obtain ⟨sv, hsv⟩ : ∃ sv : Int, sv = -sm + teleS L k := ⟨_, rfl⟩
        have hsb : -1300 ≤ sv ∧ sv ≤ 80000 := by omega
        rw [← hsv] at HN
        rw [← hsv]
        clear hsv hts
        generalize gcdL (L.take k) = g0 at *
        generalize gcdL (L.take (k + 1)) = g1 at *
        generalize L[k] = x at *
        generalize x * g0 / g1 = tq at *
        have hws1 : IntKind.i64.wrap (sv + tq) = sv + tq := IntWalk.i64_in _ (by omega)
        go_wp2_with fail
        refine (ck _ hbel).mono ?_
        rintro e w3 ⟨rfl, hb3⟩
        have hb3w := hbel.trans (hb3.mono hbel.size)
        clear ck hb3
        go_wp2_with fail
        have hS0 := HK.out _ hb3w.drew
        refine wp_region_held_drew (S := fun w' => (w'.cell? ⟨b, off + k, none⟩ = some (.int .i64 x) ∧ Below w.heap.size w w')) (by kernel_rfl) hS0 (fun hHeld => ?_)
        refine held_take 0 _ _ rfl (by kernel_rfl) (by kernel_rfl) (by kernel_rfl) (fun _ _ _ h => h) (by rfl) hHeld (fun w hSw => by (try dsimp only at hSw); go_simp; try with_reducible rfl) ?_
        (try simp only [Act.put, List.setIfInBounds_toArray, List.set_cons_zero, List.set_cons_succ, List.getElem_toArray, List.getElem_cons_zero])
        refine held_take 1 _ _ rfl (by kernel_rfl) (by kernel_rfl) (by kernel_rfl) (fun _ _ _ h => h) (by rfl) hHeld (fun w hSw => by (try dsimp only at hSw); go_simp; try with_reducible rfl) ?_
        (try simp only [Act.put, List.setIfInBounds_toArray, List.set_cons_zero, List.set_cons_succ, List.getElem_toArray, List.getElem_cons_succ, List.getElem_cons_zero])
        refine held_take 2 _ _ rfl (by kernel_rfl) (by kernel_rfl) (by kernel_rfl) (fun _ _ _ h => h) (by rfl) hHeld (fun w hSw => by (try dsimp only at hSw); go_simp; try with_reducible rfl) ?_
        (try simp only [Act.put, List.setIfInBounds_toArray, List.set_cons_zero, List.set_cons_succ, List.getElem_toArray, List.getElem_cons_succ, List.getElem_cons_zero])
        refine held_take 3 _ _ rfl (by kernel_rfl) (by kernel_rfl) (by kernel_rfl) (fun _ _ _ h => h) (by rfl) hHeld (fun w hSw => by (try dsimp only at hSw); go_simp; try with_reducible rfl) ?_
        (try simp only [Act.put, List.setIfInBounds_toArray, List.set_cons_zero, List.set_cons_succ, List.getElem_toArray, List.getElem_cons_succ, List.getElem_cons_zero])
        refine held_take 4 _ _ rfl (by kernel_rfl) (by kernel_rfl) (by kernel_rfl) (fun _ _ _ h => h) (by rfl) hHeld (fun w hSw => by (try dsimp only at hSw); go_simp; try with_reducible rfl) ?_
        (try simp only [Act.put, List.setIfInBounds_toArray, List.set_cons_zero, List.set_cons_succ, List.getElem_toArray, List.getElem_cons_succ, List.getElem_cons_zero])
        refine held_take 5 _ _ rfl (by kernel_rfl) (by kernel_rfl) (by kernel_rfl) (fun _ _ _ h => h) (by rfl) hHeld (fun w hSw => by (try dsimp only at hSw); go_simp; try with_reducible rfl) ?_
        (try simp only [Act.put, List.setIfInBounds_toArray, List.set_cons_zero, List.set_cons_succ, List.getElem_toArray, List.getElem_cons_succ, List.getElem_cons_zero])
        refine held_take 6 _ _ rfl (by kernel_rfl) (by kernel_rfl) (by kernel_rfl) (fun _ _ _ h => h) (by rfl) hHeld (fun w hSw => by (try dsimp only at hSw); go_simp; try with_reducible rfl) ?_
        (try simp only [Act.put, List.setIfInBounds_toArray, List.set_cons_zero, List.set_cons_succ, List.getElem_toArray, List.getElem_cons_succ, List.getElem_cons_zero])
        refine held_take 7 _ _ rfl (by kernel_rfl) (by kernel_rfl) (by kernel_rfl) (fun _ _ _ h => h) (by rfl) hHeld (fun w hSw => by (try dsimp only at hSw); go_simp; try with_reducible rfl) ?_
        (try simp only [Act.put, List.setIfInBounds_toArray, List.set_cons_zero, List.set_cons_succ, List.getElem_toArray, List.getElem_cons_succ, List.getElem_cons_zero])
        refine held_take 8 _ _ rfl (by kernel_rfl) (by kernel_rfl) (by kernel_rfl) (fun _ _ _ h => h) (by rfl) hHeld (fun w hSw => by (try dsimp only at hSw); go_simp; try with_reducible rfl) ?_
        (try simp only [Act.put, List.setIfInBounds_toArray, List.set_cons_zero, List.set_cons_succ, List.getElem_toArray, List.getElem_cons_succ, List.getElem_cons_zero])
        refine held_take 9 _ _ rfl (by kernel_rfl) (by kernel_rfl) (by kernel_rfl) (fun _ _ _ h => h) (by rfl) hHeld (fun w hSw => by (try dsimp only at hSw); go_simp; try with_reducible rfl) ?_
        (try simp only [Act.put, List.setIfInBounds_toArray, List.set_cons_zero, List.set_cons_succ, List.getElem_toArray, List.getElem_cons_succ, List.getElem_cons_zero])
        refine held_take 10 _ _ rfl (by kernel_rfl) (by kernel_rfl) (by kernel_rfl) (fun _ _ _ h => h) (by rfl) hHeld (fun w hSw => by (try dsimp only at hSw); go_simp; try with_reducible rfl) ?_
        (try simp only [Act.put, List.setIfInBounds_toArray, List.set_cons_zero, List.set_cons_succ, List.getElem_toArray, List.getElem_cons_succ, List.getElem_cons_zero])
        refine held_take 11 _ _ rfl (by kernel_rfl) (by kernel_rfl) (by kernel_rfl) (fun _ _ _ h => h) (by rfl) hHeld (fun w hSw => by (try dsimp only at hSw); go_simp; try with_reducible rfl) ?_
        (try simp only [Act.put, List.setIfInBounds_toArray, List.set_cons_zero, List.set_cons_succ, List.getElem_toArray, List.getElem_cons_succ, List.getElem_cons_zero])
        refine wpAnyH_ready (rs := [12]) (by kernel_rfl) (by simp) ?_
        refine AllReadyH.cons rfl (fun K hK => ?_) AllReadyH.nil
        rw [if_pos (by rfl)]
        go_wp2_with (first | (go_at_call 49; (with_reducible refine (c3 _).mono ?_); rintro e wp ⟨rfl, hbp⟩; have hbp2 := (hHeld).2.trans (hbp.mono (hHeld).2.size)))
        refine hK.out _ _ (HK.out _ hbp2) (fun hHeld1 => ?_)
        clear hK K
        (try simp only [Act.put, List.setIfInBounds_toArray, List.set_cons_zero, List.set_cons_succ, List.getElem_toArray, List.getElem_cons_succ, List.getElem_cons_zero])
        refine held_take 13 _ _ rfl (by kernel_rfl) (by kernel_rfl) (by kernel_rfl) (fun _ _ _ h => h) (by rfl) hHeld1 (fun w hSw => by (try dsimp only at hSw); go_simp; try with_reducible rfl) ?_
        (try simp only [Act.put, List.setIfInBounds_toArray, List.set_cons_zero, List.set_cons_succ, List.getElem_toArray, List.getElem_cons_succ, List.getElem_cons_zero])
        refine held_take 14 _ _ rfl (by kernel_rfl) (by kernel_rfl) (by kernel_rfl) (fun _ _ _ h => h) (by rfl) hHeld1 (fun w hSw => by (try dsimp only at hSw); go_simp; try with_reducible rfl) ?_
        (try simp only [Act.put, List.setIfInBounds_toArray, List.set_cons_zero, List.set_cons_succ, List.getElem_toArray, List.getElem_cons_succ, List.getElem_cons_zero])
        refine held_take 15 _ _ rfl (by kernel_rfl) (by kernel_rfl) (by kernel_rfl) (fun _ _ _ h => h) (by rfl) hHeld1 (fun w hSw => by (try dsimp only at hSw); go_simp; try with_reducible rfl) ?_
        (try simp only [Act.put, List.setIfInBounds_toArray, List.set_cons_zero, List.set_cons_succ, List.getElem_toArray, List.getElem_cons_succ, List.getElem_cons_zero])
        refine wpAnyH_done (by kernel_rfl) ?_ _
        have hbF := (hHeld1).2
        clear hS0
        go_wp2_with fail
        go_roundw
        case rel => exact ⟨k + 1, by omega, by omega, by go_num, by rw [HN.out], hbF⟩
        case measure => simp [intOf]; omega
      · obtain rfl : k = L.length := by omega
        have hlti : ¬ ((L.length : Nat) : Int) < (L.length : Int) := by omega
        go_wp2_with fail
        go_ret
        exact ⟨by rw [HR.out]; rfl, hbel⟩

end Go.Proofs.YtipfonpaaebjjaaGreat
