/-
  CONTRACT of the program's ApplyRelation. (Own work; mk80.py.)
-/
import Derived.Test.YtekeaigdphicaaaSgAp
import Derived.Maps.AppendAt
import Derived.WalkMore
import Derived.OwnWalk
import Derived.BigRegion
import Derived.Deep.Cut
namespace Go.Proofs.Ytekeaigdphicaaa
open Go Go.RowKit
attribute [local go_sem] Oper.semAt_some

def tabR (f : Nat → Int) (m : Nat) : List Value := (List.range m).map fun i => Value.int .i64 (f i)
theorem tabR_get (f : Nat → Int) {m j : Nat} (h : j < m) : (tabR f m)[j]? = some (.int .i64 (f j)) := by unfold tabR; simp [h]
theorem tabR_congr {f g : Nat → Int} {m : Nat} (h : ∀ i, i < m → f i = g i) : tabR f m = tabR g m := by
  unfold tabR; exact List.map_congr_left fun i hi => by rw [h i (List.mem_range.1 hi)]
theorem tabR_set {f g : Nat → Int} {m j : Nat} (u : Int) (hj : g j = u) (h : ∀ i, i ≠ j → f i = g i) : (tabR f m).set j (.int .i64 u) = tabR g m := by
  apply List.ext_getElem?
  intro i
  rw [List.getElem?_set]
  by_cases e : j = i
  · subst e
    by_cases hm : j < m
    · rw [tabR_get g hm]; unfold tabR; simp [hm, hj]
    · unfold tabR; simp [hm]
  · rw [if_neg e]
    by_cases hm : i < m
    · rw [tabR_get f hm, tabR_get g hm, h i (fun h => e h.symm)]
    · unfold tabR; simp [hm]
theorem tab0R {w w1 : World} (M : Nat) (hown : w1.ownsRow w.heap.size 3 1 (.slice (some ⟨w.heap.size, 0, none⟩) M M) M (madeCells (Value.int .i64 0).cells (M * 1)).toList) (hgrow : w.grownBy w1 none) :
    Hid (w1.ownsRow w.heap.size 3 1 (.slice (some ⟨w.heap.size, 0, none⟩) M M) M (tabR (fun _ => 0) M)) ∧ Hid (Below w.heap.size w w1) := by
  refine ⟨Lib.hid ?_, Lib.hid ((Below.refl _ w).grown hgrow (Nat.le_refl _) (fun k h => by cases h))⟩
  have e : (madeCells (Value.int .i64 0).cells (M * 1)).toList = List.replicate M (Value.int .i64 0) := by rw [Nat.mul_one]; exact toList_madeCells_one _ _
  have e2 : tabR (fun _ => 0) M = List.replicate M (Value.int .i64 0) := by
    unfold tabR; exact List.map_const' .. |>.trans (by rw [List.length_range])
  rw [e2, ← e]; exact hown
def rlT (A B L : List Int) (k i : Nat) : Int := if i < k then rlV A B L i else 0
theorem rlT_set (A B L : List Int) (k M : Nat) : (tabR (rlT A B L k) M).set k (.int .i64 (rlV A B L k)) = tabR (rlT A B L (k + 1)) M :=
  tabR_set _ (by unfold rlT; rw [if_pos (by omega)]) fun i hi => by
    unfold rlT
    by_cases h : i < k
    · rw [if_pos h, if_pos (by omega)]
    · rw [if_neg h, if_neg (by omega)]
theorem rlT_all (A B L : List Int) : tabR (rlT A B L L.length) L.length = (rlM A B L L.length).map (Value.int .i64) := by
  unfold tabR rlM
  rw [List.map_map]
  apply List.map_congr_left
  intro i hi
  have := List.mem_range.1 hi
  show Value.int .i64 (rlT A B L L.length i) = Value.int .i64 (rlV A B L i)
  unfold rlT; rw [if_pos this]

set_option maxRecDepth 100000 in
set_option maxHeartbeats 3200000 in
theorem impl_ApplyRelation (A B L : List Int) (a b c : Option Addr) (ca cb cc : Nat) (w : World) (hrA : SlV w a (A.map (Value.int .i64))) (hrB : SlV w b (B.map (Value.int .i64))) (hrL : SlV w c (L.map (Value.int .i64))) (_ : A.length ≤ 1048576) (_ : B.length ≤ 1048576) (_ : L.length ≤ 1048576) :
    Calls Try.prog 9 #[.agg #[.slice a A.length ca, .slice b B.length cb], .slice c L.length cc] w fun e w' => ∃ v, e = .returned (.tuple #[v, .bool (rlB A B L)]) ∧ w'.ownsRow w.heap.size 3 1 v (rlL A B L).length ((rlL A B L).map (Value.int .i64)) ∧ Below w.heap.size w w' := by
  obtain ⟨i0, hi, hz0, hz1, hz2⟩ := info_parts infoIntL
  obtain ⟨U, hU⟩ : ∃ U, U = w.alloc (.cells #[.slice a A.length ca, .slice b B.length cb] 28) := ⟨_, rfl⟩
  have hbU : Below w.heap.size w U := by rw [hU]; exact box_below _ _
  have hUs : w.heap.size + 1 ≤ U.heap.size := by rw [hU]; simp
  have hUs2 : U.heap.size ≤ w.heap.size + 1 := by rw [hU]; simp
  have hAU : Arr U w.heap.size 28 [.slice a A.length ca, .slice b B.length cb] := by rw [hU]; exact Arr.new _ _ _
  have hc0 : U.cell? ⟨w.heap.size, 0, none⟩ = some (.slice a A.length ca) := hAU.cell 0
  have hc1 : U.cell? ⟨w.heap.size, 1, none⟩ = some (.slice b B.length cb) := hAU.cell 1
  have HA0 := Lib.hid hAU
  have HU := Lib.hid hU
  clear hU hAU
  go_enter Try.func9, Try.ntmps9
  go_upto_region 1 with fail
  rw [← HU.out]
  by_cases hA : A.length = L.length
  · have hAd : ((A.length : Int) != (L.length : Int)) = false := by rw [hA]; simp
    have hA' := hA
    clear hA
    by_cases hB : B.length = L.length
    · have hBd : ((B.length : Int) != (L.length : Int)) = false := by rw [hB]; simp
      have HLA := Lib.hid hA'
      have HLB := Lib.hid hB
      clear hB hA'
      have HA9 := Lib.hid (fun w2 (h : Below U.heap.size U w2) => HA0.out.below h)
      go_wp2_with (at_make; refine wpList_make_full _ rfl _ _ 22 rfl U.heap.size 3 i0 (Value.int .i64 0) 1 Try.underlying22 hi hz0 hz1 .i64 .i64 _ _ L.length rfl rfl (by first | rfl | (simp; done) | omega) (by first | rfl | (simp; done) | omega) (by rw [hz2]; omega) (by unfold maxLen; omega) (Nat.le_refl _) ?_; intro w1 hown hgrow; obtain ⟨HO, HB⟩ := tab0R L.length hown hgrow; clear hown hgrow)
      clear hi hz0 hz1 hz2 hc0 hc1 hAd hBd
      go_loopw [28] (fun i wr => ∃ k : Nat, k ≤ L.length ∧ i = .int .i64 (k : Int) ∧ Hid (rlK A L k = true) ∧ wr.ownsRow U.heap.size 3 1 (.slice (some ⟨U.heap.size, 0, none⟩) L.length L.length) L.length (tabR (rlT A B L k) L.length) ∧ Below w.heap.size w wr ∧ Below U.heap.size U wr) (fun i _ => L.length - (intOf i).toNat)
      case atStart => exact ⟨0, Nat.zero_le _, rfl, Lib.hid rfl, by have := HO.out; rwa [tabR_congr (g := rlT A B L 0) (fun i _ => by unfold rlT; rw [if_neg (by omega)])] at this, hbU.trans (HB.out.mono hbU.size), HB.out⟩
      case round =>
        clear HO HB
        obtain ⟨k, hk, rfl, HK, hown, hbel, hbelU⟩ := hrel
        have hsz := hbel.size
        by_cases hlt : k < L.length
        · have hkA : k < A.length := by rw [HLA.out]; exact hlt
          have hkB : k < B.length := by rw [HLB.out]; exact hlt
          have hlti : (k : Int) < (L.length : Int) := by omega
          have hkAi : (k : Int) < (A.length : Int) := by omega
          have hkBi : (k : Int) < (B.length : Int) := by omega
          have hk0 : (0 : Int) ≤ (k : Int) := by omega
          obtain ⟨bA, oA, rfl, hbsA, hcA⟩ := (hrA.below hbel).open (by intro h; rw [List.map_eq_nil_iff] at h; rw [h] at hkA; simp at hkA)
          obtain ⟨bB, oB, rfl, hbsB, hcB⟩ := (hrB.below hbel).open (by intro h; rw [List.map_eq_nil_iff] at h; rw [h] at hkB; simp at hkB)
          obtain ⟨bL, oL, rfl, hbsL, hcL⟩ := (hrL.below hbel).open (by intro h; rw [List.map_eq_nil_iff] at h; rw [h] at hlt; simp at hlt)
          have hcx : wr.cell? ⟨bL, oL + k, none⟩ = some (.int .i64 L[k]) := hcL k _ (by simp [hlt])
          have hcy : wr.cell? ⟨bA, oA + k, none⟩ = some (.int .i64 A[k]) := hcA k _ (by simp [hkA])
          have hcz : wr.cell? ⟨bB, oB + k, none⟩ = some (.int .i64 B[k]) := hcB k _ (by simp [hkB])
          have hA9 := HA9.out wr hbelU
          have hc0 : wr.cell? ⟨w.heap.size, 0, none⟩ = some (.slice (some ⟨bA, oA, none⟩) A.length ca) := hA9.cell 0
          have hc1 : wr.cell? ⟨w.heap.size, 1, none⟩ = some (.slice (some ⟨bB, oB, none⟩) B.length cb) := hA9.cell 1
          have gx := getD_in hlt
          have gy := getD_in hkA
          have gz := getD_in hkB
          have HBAD := Lib.hid (fun (h : L[k] < A[k]) => rl_bad (A := A) (B := B) hlt (by rw [gx, gy]; exact h))
          have HNX := Lib.hid (fun (h : A[k] ≤ L[k]) => rlK_next HK.out (by rw [gx, gy]; exact h))
          have hct : wr.cell? ⟨U.heap.size, k, none⟩ = some (.int .i64 (rlT A B L k k)) := by have := hown.cellAt k (by omega); rw [tabR_get _ hlt] at this; exact this
          have hfz : wr.frozen? ⟨U.heap.size, k, none⟩ = false := hown.frozenAt k
          have hst := hown.stored k (.int .i64 (rlV A B L k))
          rw [rlT_set] at hst
          have HVE : Hid (rlV A B L k = IntKind.i64.wrap (IntKind.i64.wrap (L[k] - A[k]) + B[k])) := Lib.hid (by unfold rlV; rw [gx, gy, gz])
          have HST := Lib.hid hst.1.drew
          have HG1 := Lib.hid (hbel.setCell (p := ⟨U.heap.size, k, none⟩) hbU.size (.int .i64 (rlV A B L k))).drew
          have HG2 := Lib.hid (hbelU.setCell (p := ⟨U.heap.size, k, none⟩) (Nat.le_refl _) (.int .i64 (rlV A B L k))).drew
          rw [HVE.out] at HST HG1 HG2
          clear gx gy gz hcA hcB hcL hA9 hrA hrB hrL hbsA hbsB hbsL hst hown HVE
          generalize rlT A B L k k = cj at *
          generalize L[k] = x at *
          generalize A[k] = y at *
          generalize B[k] = z at *
          by_cases hxy : x < y
          · have hxd := decide_eq_true hxy
            have HB := Lib.hid (HBAD.out hxy)
            clear HBAD HNX HST HG1 HG2 hct hfz hbelU
            go_wp2_with fail
            go_ret2
            exact ⟨.slice none 0 0, by rw [HB.out]; rfl, by rw [rl_no HB.out]; exact World.ownsRow_nil _ _ _ _, hbel⟩
          · have hxd := decide_eq_false hxy
            obtain ⟨d, hd⟩ : ∃ d, d = IntKind.i64.wrap (x - y) := ⟨_, rfl⟩
            have hw1 : IntKind.i64.wrap (x - y) = d := hd.symm
            obtain ⟨r, hr⟩ : ∃ r, r = IntKind.i64.wrap (d + z) := ⟨_, rfl⟩
            have hw2 : IntKind.i64.wrap (d + z) = r := hr.symm
            have HKN := Lib.hid (HNX.out (by omega))
            rw [← hd, ← hr] at HST HG1 HG2
            clear hd hr HBAD HNX hbel hbelU
            go_wp2_with fail
            go_region
            go_wp2_with fail
            go_roundw
            case rel => exact ⟨k + 1, by omega, by go_num, HKN, HST.out, HG1.out, HG2.out⟩
            case measure => simp [intOf]; omega
        · have hlti : ¬ (k : Int) < (L.length : Int) := by omega
          have HB : Hid (rlB A B L = true) := Lib.hid (rl_good HLA.out HLB.out (by rw [show L.length = k by omega]; exact HK.out))
          have HE : Hid (rlL A B L = rlM A B L L.length) := Lib.hid (rl_yes HB.out)
          rw [show k = L.length by omega, rlT_all] at hown
          have HO2 := Lib.hid (ownsBase hown hbU.size)
          clear hown hrA hrB hrL
          go_wp2_with fail
          go_ret2
          exact ⟨.slice (some ⟨U.heap.size, 0, none⟩) L.length L.length, by rw [HB.out]; rfl, by rw [HE.out, rlM_len]; exact HO2.out, hbel⟩
    · clear hA'
      have hBd : ((B.length : Int) != (L.length : Int)) = true := by rw [bne_iff_ne]; omega
      have HB : Hid (rlB A B L = false) := Lib.hid (rl_lenB hB)
      clear hB
      go_wp2_with fail
      go_ret2
      exact ⟨.slice none 0 0, by rw [HB.out]; rfl, by rw [rl_no HB.out]; exact World.ownsRow_nil _ _ _ _, hbU⟩
  · have hAd : ((A.length : Int) != (L.length : Int)) = true := by rw [bne_iff_ne]; omega
    have HB : Hid (rlB A B L = false) := Lib.hid (rl_lenA hA)
    clear hA
    go_wp2_with fail
    go_ret2
    exact ⟨.slice none 0 0, by rw [HB.out]; rfl, by rw [rl_no HB.out]; exact World.ownsRow_nil _ _ _ _, hbU⟩
end Go.Proofs.Ytekeaigdphicaaa
