/-
  CONTRACTS of the reference's chapter 22: IsTelescopic, TelescopicFrobenius. (Own work: mk74.py.)
-/
import Derived.Test.YtipfonpaaebjjaaGreatL74
import Derived.Maps.AppendAt
import Derived.WalkMore
namespace Go.Proofs.YtipfonpaaebjjaaGreat
open Go Go.RowKit
attribute [local go_sem] Oper.semAt_some

set_option maxRecDepth 100000 in
set_option maxHeartbeats 1600000 in
theorem spec_IsTelescopic (L : List Int) (a : Option Addr) (cap : Nat) (w : World) (hr : SlV w a (L.map (Value.int .i64))) (hb : L.length ≤ 1048576) (hcap : L.length ≤ cap) :
    Calls Tryz.prog 15 #[.slice a L.length cap] w fun e w' => e = .returned (.bool (teleB L)) ∧ Below w.heap.size w w' := by
  have c1 := spec_l3Gens L a cap w hr hb
  cases hok : okG L
  · have HR : Hid (teleB L = false) := Lib.hid (by unfold teleB; rw [hok]; rfl)
    rw [hok] at c1
    clear hok hr
    go_enter Tryz.func15, Tryz.ntmps15
    go_wp2_with fail
    refine c1.mono ?_
    rintro e w1 ⟨rfl, rfl⟩
    go_wp2_with fail
    go_ret
    exact ⟨by rw [HR.out]; rfl, Below.refl _ _⟩
  · have c2 := spec_GcdOfList L a cap w hr (by unfold maxLen; omega)
    rw [hok] at c1
    have HOK := Lib.hid hok
    have hl := (okG_iff.1 hok).2
    have HBN := Lib.hid (okG_iff.1 hok).1
    have hne : L ≠ [] := fun e => by rw [e] at hl; simp at hl
    obtain ⟨b, off, rfl, hbs, hcl⟩ := hr.open (by simpa using hne)
    have HCK : Hid (∀ w2, Below w.heap.size w w2 → ∀ (j : Nat) (hj : j < L.length), w2.cell? ⟨b, off + j, none⟩ = some (.int .i64 L[j])) := Lib.hid fun w2 h j hj => (h.cell (p := ⟨b, off + j, none⟩) hbs).trans (hcl j _ (by simp [hj]))
    have HSL : Hid (∀ w2, Below w.heap.size w w2 → ∀ k, SlV w2 (some ⟨b, off, none⟩) ((L.take k).map (Value.int .i64))) := Lib.hid fun w2 h k => by rw [List.map_take]; exact (hr.below h).take k
    have HTL : Hid (∀ k, k ≤ L.length → (L.take k).length = k) := Lib.hid fun k hk => by rw [List.length_take]; omega
    clear hbs hcl hr
    by_cases hg : gcdL L = 1
    · have HR : Hid (teleB L = teleU L L.length) := Lib.hid (by unfold teleB; rw [hok, decide_eq_true hg]; rfl)
      rw [hg] at c2
      clear hg hok hne
      go_enter Tryz.func15, Tryz.ntmps15
      go_wp2_with fail
      refine c1.mono ?_
      rintro e w1 ⟨rfl, hww1⟩
      rw [hww1]
      clear c1 hww1
      go_wp2_with fail
      refine c2.mono ?_
      rintro e w2 ⟨rfl, hww2⟩
      rw [hww2]
      clear c2 hww2
      go_wp2_with fail
      go_loopw [3] (fun i wr => ∃ k : Nat, 1 ≤ k ∧ k ≤ L.length ∧ i = .int .i64 (k : Int) ∧ Hid (teleU L k = true) ∧ Below w.heap.size w wr) (fun i _ => L.length - (intOf i).toNat)
      case atStart => exact ⟨1, Nat.le_refl _, hl.1, rfl, Lib.hid (teleU_one L), Below.refl _ _⟩
      case round =>
        obtain ⟨k, hk1, hk, rfl, HU, hbel⟩ := hrel
        have hsz := hbel.size
        by_cases hlt : k < L.length
        · have hlti : (k : Int) < (L.length : Int) := by omega
          have hkc : k ≤ cap := by omega
          have hkc1 : k + 1 ≤ cap := by omega
          have ck := fun WW (HH : Below w.heap.size w WW) => (by have h := spec_GcdOfList (L.take (k)) (some ⟨b, off, none⟩) cap WW (HSL.out _ HH (k)) (by unfold maxLen; have := HTL.out (k) (by omega); omega); rw [HTL.out (k) (by omega)] at h; exact h)
          have ck1 := fun WW (HH : Below w.heap.size w WW) => (by have h := spec_GcdOfList (L.take (k + 1)) (some ⟨b, off, none⟩) cap WW (HSL.out _ HH (k + 1)) (by unfold maxLen; have := HTL.out (k + 1) (by omega); omega); rw [HTL.out (k + 1) (by omega)] at h; exact h)
          have hg0 := take_gcd HOK.out hk1 (Nat.le_of_lt hlt)
          have hg1 := take_gcd HOK.out (k := k + 1) (by omega) hlt
          have hx := get_ok HOK.out hlt
          have hOL : (overL (L.take k) (gcdL (L.take k))).length ≤ 20 := by unfold overL; rw [List.length_map, HTL.out k (by omega)]; omega
          have co := fun W1 (h : Below w.heap.size w W1) => spec_l22Over (L.take k) (gcdL (L.take k)) (some ⟨b, off, none⟩) cap W1 (HSL.out _ h k) (by rw [HTL.out k (by omega)]; omega) (fun y hy => HBN.out y (List.mem_of_mem_take hy)) hg0.1
          rw [HTL.out k (by omega)] at co
          have HTA : Hid (generatesB (overL (L.take k) (gcdL (L.take k))) (L[k] / gcdL (L.take (k + 1))) = teleAt L k) := Lib.hid (by unfold teleAt; rw [getD_at hlt])
          have HUS := Lib.hid (teleU_succ L hk1)
          have HUN := Lib.hid (fun h => teleU_no (L := L) hk1 hlt h)
          have HK : Hid (∀ w2, Below w.heap.size w w2 → (w2.cell? ⟨b, off + k, none⟩ = some (.int .i64 L[k]) ∧ Below w.heap.size w w2)) := Lib.hid fun w2 h => ⟨HCK.out _ h k hlt, h⟩
          have hqb := div_bnd (x := L[k]) (d := gcdL (L.take (k + 1))) (b := 60) ⟨by omega, hx.2⟩ hg1.1
          have htd : L[k].tdiv (gcdL (L.take (k + 1))) = L[k] / gcdL (L.take (k + 1)) := Int.tdiv_eq_ediv_of_nonneg (by omega)
          have hwq : IntKind.i64.wrap (L[k] / gcdL (L.take (k + 1))) = L[k] / gcdL (L.take (k + 1)) := IntWalk.i64_in _ (by omega)
          have hgz : gcdL (L.take (k + 1)) ≠ 0 := by omega
          have hgzb : (gcdL (L.take (k + 1)) == 0) = false := by rw [beq_eq_false_iff_ne]; exact hgz
          generalize overL (L.take k) (gcdL (L.take k)) = OV at *
          generalize gcdL (L.take k) = g0 at *
          generalize gcdL (L.take (k + 1)) = g1 at *
          generalize L[k] = x at *
          generalize teleAt L k = q at *
          go_wp2_with fail
          refine (ck _ hbel).mono ?_
          rintro e w3 ⟨rfl, hww3⟩
          rw [hww3]
          clear ck hww3
          go_wp2_with fail
          refine (ck1 _ hbel).mono ?_
          rintro e w4 ⟨rfl, hww4⟩
          rw [hww4]
          clear ck1 hww4
          go_wp2_with fail
          have hS0 := HK.out _ hbel.drew
          refine wp_region_held_drew (S := fun w' => (w'.cell? ⟨b, off + k, none⟩ = some (.int .i64 x) ∧ Below w.heap.size w w')) (by kernel_rfl) hS0 (fun hHeld => ?_)
          refine held_take 0 _ _ rfl (by kernel_rfl) (by kernel_rfl) (by kernel_rfl) (fun _ _ _ h => h) (by rfl) hHeld (fun w hSw => by (try dsimp only at hSw); go_simp; try with_reducible rfl) ?_
          (try simp only [Act.put, List.setIfInBounds_toArray, List.set_cons_zero, List.set_cons_succ, List.getElem_toArray, List.getElem_cons_zero])
          refine held_take 1 _ _ rfl (by kernel_rfl) (by kernel_rfl) (by kernel_rfl) (fun _ _ _ h => h) (by rfl) hHeld (fun w hSw => by (try dsimp only at hSw); go_simp; try with_reducible rfl) ?_
          (try simp only [Act.put, List.setIfInBounds_toArray, List.set_cons_zero, List.set_cons_succ, List.getElem_toArray, List.getElem_cons_succ, List.getElem_cons_zero])
          refine held_take 2 _ _ rfl (by kernel_rfl) (by kernel_rfl) (by kernel_rfl) (fun _ _ _ h => h) (by rfl) hHeld (fun w hSw => by (try dsimp only at hSw); go_simp; try with_reducible rfl) ?_
          (try simp only [Act.put, List.setIfInBounds_toArray, List.set_cons_zero, List.set_cons_succ, List.getElem_toArray, List.getElem_cons_succ, List.getElem_cons_zero])
          refine held_take 3 _ _ rfl (by kernel_rfl) (by kernel_rfl) (by kernel_rfl) (fun _ _ _ h => h) (by rfl) hHeld (fun w hSw => by (try dsimp only at hSw); go_simp; try with_reducible rfl) ?_
          (try simp only [Act.put, List.setIfInBounds_toArray, List.set_cons_zero, List.set_cons_succ, List.getElem_toArray, List.getElem_cons_succ, List.getElem_cons_zero])
          refine held_take 5 _ _ rfl (by kernel_rfl) (by kernel_rfl) (by kernel_rfl) (fun _ _ _ h => h) (by rfl) hHeld (fun w hSw => by (try dsimp only at hSw); go_simp; try with_reducible rfl) ?_
          (try simp only [Act.put, List.setIfInBounds_toArray, List.set_cons_zero, List.set_cons_succ, List.getElem_toArray, List.getElem_cons_succ, List.getElem_cons_zero])
          refine held_take 6 _ _ rfl (by kernel_rfl) (by kernel_rfl) (by kernel_rfl) (fun _ _ _ h => h) (by rfl) hHeld (fun w hSw => by (try dsimp only at hSw); go_simp; try with_reducible rfl) ?_
          (try simp only [Act.put, List.setIfInBounds_toArray, List.set_cons_zero, List.set_cons_succ, List.getElem_toArray, List.getElem_cons_succ, List.getElem_cons_zero])
          refine held_take 7 _ _ rfl (by kernel_rfl) (by kernel_rfl) (by kernel_rfl) (fun _ _ _ h => h) (by rfl) hHeld (fun w hSw => by (try dsimp only at hSw); go_simp; try with_reducible rfl) ?_
          (try simp only [Act.put, List.setIfInBounds_toArray, List.set_cons_zero, List.set_cons_succ, List.getElem_toArray, List.getElem_cons_succ, List.getElem_cons_zero])
          refine held_take 8 _ _ rfl (by kernel_rfl) (by kernel_rfl) (by kernel_rfl) (fun _ _ _ h => h) (by rfl) hHeld (fun w hSw => by (try dsimp only at hSw); go_simp; try with_reducible rfl) ?_
          (try simp only [Act.put, List.setIfInBounds_toArray, List.set_cons_zero, List.set_cons_succ, List.getElem_toArray, List.getElem_cons_succ, List.getElem_cons_zero])
          refine held_take 9 _ _ rfl (by kernel_rfl) (by kernel_rfl) (by kernel_rfl) (fun _ _ _ h => h) (by rfl) hHeld (fun w hSw => by (try dsimp only at hSw); go_simp; try with_reducible rfl) ?_
          (try simp only [Act.put, List.setIfInBounds_toArray, List.set_cons_zero, List.set_cons_succ, List.getElem_toArray, List.getElem_cons_succ, List.getElem_cons_zero])
          refine held_take 10 _ _ rfl (by kernel_rfl) (by kernel_rfl) (by kernel_rfl) (fun _ _ _ h => h) (by rfl) hHeld (fun w hSw => by (try dsimp only at hSw); go_simp; try with_reducible rfl) ?_
          (try simp only [Act.put, List.setIfInBounds_toArray, List.set_cons_zero, List.set_cons_succ, List.getElem_toArray, List.getElem_cons_succ, List.getElem_cons_zero])
          refine wpAnyH_ready (rs := [4]) (by kernel_rfl) (by simp) ?_
          refine AllReadyH.cons rfl (fun K hK => ?_) AllReadyH.nil
          rw [if_pos (by rfl)]
          go_wp2_with (first | (go_at_call 55; (with_reducible refine (co _ (hHeld).2).mono ?_); rintro e wo ⟨vo, rfl, ho, hbo⟩; obtain ⟨ao, ko, rfl, rXo⟩ := row_open ho; have hbo2 := (hHeld).2.trans (hbo.mono (hHeld).2.size); have hslo := rXo.slv; clear ho rXo))
          refine hK.out _ _ (HK.out _ hbo2) (fun hHeld1 => ?_)
          clear hK K
          (try simp only [Act.put, List.setIfInBounds_toArray, List.set_cons_zero, List.set_cons_succ, List.getElem_toArray, List.getElem_cons_succ, List.getElem_cons_zero])
          refine wpAnyH_ready (rs := [11]) (by kernel_rfl) (by simp) ?_
          refine AllReadyH.cons rfl (fun K hK => ?_) AllReadyH.nil
          rw [if_pos (by rfl)]
          go_wp2_with (first | (go_at_call 54; have cg := spec_Generates OV (x / g1) ao ko _ hslo (by omega); rw [HTA.out] at cg; (with_reducible refine cg.mono ?_); rintro e wg ⟨rfl, hbg⟩; have hbg2 := hbo2.trans (hbg.mono hbo2.size)))
          refine hK.out _ _ (HK.out _ hbg2) (fun hHeld2 => ?_)
          clear hK K
          (try simp only [Act.put, List.setIfInBounds_toArray, List.set_cons_zero, List.set_cons_succ, List.getElem_toArray, List.getElem_cons_succ, List.getElem_cons_zero])
          refine held_take 12 _ _ rfl (by kernel_rfl) (by kernel_rfl) (by kernel_rfl) (fun _ _ _ h => h) (by rfl) hHeld2 (fun w hSw => by (try dsimp only at hSw); go_simp; try with_reducible rfl) ?_
          (try simp only [Act.put, List.setIfInBounds_toArray, List.set_cons_zero, List.set_cons_succ, List.getElem_toArray, List.getElem_cons_succ, List.getElem_cons_zero])
          refine wpAnyH_done (by kernel_rfl) ?_ _
          clear hS0
          cases q
          · have HF : Hid (teleB L = false) := Lib.hid (by rw [HR.out]; exact HUN.out rfl)
            go_wp2_with fail
            go_ret
            exact ⟨by rw [HF.out]; rfl, hbg2⟩
          · have HN : Hid (teleU L (k + 1) = true) := Lib.hid (by rw [HUS.out, HU.out]; rfl)
            go_wp2_with fail
            go_roundw
            case rel => exact ⟨k + 1, by omega, by omega, by go_num, HN, hbg2⟩
            case measure => simp [intOf]; omega
        · obtain rfl : k = L.length := by omega
          have hlti : ¬ ((L.length : Nat) : Int) < (L.length : Int) := by omega
          have HT : Hid (teleB L = true) := Lib.hid (by rw [HR.out, HU.out])
          go_wp2_with fail
          go_ret
          exact ⟨by rw [HT.out]; rfl, hbel⟩
    · have HR : Hid (teleB L = false) := Lib.hid (by unfold teleB; rw [decide_eq_false hg, Bool.and_false]; rfl)
      have hgb : (gcdL L != 1) = true := by rw [bne_iff_ne]; exact hg
      clear hok hne hg
      generalize gcdL L = g at *
      go_enter Tryz.func15, Tryz.ntmps15
      go_wp2_with fail
      refine c1.mono ?_
      rintro e w1 ⟨rfl, hww1⟩
      rw [hww1]
      go_wp2_with fail
      refine c2.mono ?_
      rintro e w2 ⟨rfl, hww2⟩
      rw [hww2]
      go_wp2_with fail
      go_ret
      exact ⟨by rw [HR.out]; rfl, Below.refl _ _⟩

set_option maxRecDepth 100000 in
set_option maxHeartbeats 1600000 in
theorem spec_TelescopicFrobenius (L : List Int) (a : Option Addr) (cap : Nat) (w : World) (hr : SlV w a (L.map (Value.int .i64))) (hb : L.length ≤ 1048576) (hcap : L.length ≤ cap) :
    Calls Tryz.prog 16 #[.slice a L.length cap] w fun e w' => e = .returned (.int .i64 (teleN L)) ∧ Below w.heap.size w w' := by
  have c1 := fun w2 (h : SlV w2 a (L.map (Value.int .i64))) => spec_IsTelescopic L a cap w2 h hb hcap
  cases ht : teleB L
  · have HR : Hid (teleN L = -1) := Lib.hid (by unfold teleN; rw [ht]; rfl)
    rw [ht] at c1
    clear ht
    go_enter Tryz.func16, Tryz.ntmps16
    go_wp2_with fail
    refine (c1 _ hr).mono ?_
    rintro e w1 ⟨rfl, hb1⟩
    go_wp2_with fail
    go_ret
    exact ⟨by rw [HR.out]; rfl, hb1⟩
  · have HR : Hid (teleN L = teleS L L.length - L.sum) := Lib.hid (by unfold teleN; rw [ht]; rfl)
    obtain ⟨hok, -⟩ := tele_ok ht
    rw [ht] at c1
    have c1 := c1 w hr
    clear ht
    have HOK := Lib.hid hok
    have hl := (okG_iff.1 hok).2
    have HBN := Lib.hid (okG_iff.1 hok).1
    have hne : L ≠ [] := fun e => by rw [e] at hl; simp at hl
    obtain ⟨b, off, rfl, hbs, hcl⟩ := hr.open (by simpa using hne)
    have HCK : Hid (∀ w2, Below w.heap.size w w2 → ∀ (j : Nat) (hj : j < L.length), w2.cell? ⟨b, off + j, none⟩ = some (.int .i64 L[j])) := Lib.hid fun w2 h j hj => (h.cell (p := ⟨b, off + j, none⟩) hbs).trans (hcl j _ (by simp [hj]))
    have HSL : Hid (∀ w2, Below w.heap.size w w2 → ∀ k, SlV w2 (some ⟨b, off, none⟩) ((L.take k).map (Value.int .i64))) := Lib.hid fun w2 h k => by rw [List.map_take]; exact (hr.below h).take k
    have HTL : Hid (∀ k, k ≤ L.length → (L.take k).length = k) := Lib.hid fun k hk => by rw [List.length_take]; omega
    clear hbs hcl hr
    have hl0 : 0 < L.length := hl.1
    have HC0 : Hid (∀ w2, Below w.heap.size w w2 → w2.cell? ⟨b, off, none⟩ = some (.int .i64 L[0])) := Lib.hid fun w2 h => HCK.out w2 h 0 hl0
    have hx0 := get_ok hok hl0
    have HT1 : Hid ((L.take 1).sum = L[0]) := Lib.hid (by rw [List.take_add_one, List.getElem?_eq_getElem hl0]; simp)
    have HS1 : Hid (teleS L 1 = 0) := Lib.hid (by unfold teleS; unfold teleS; simp)
    clear hok hne
    go_enter Tryz.func16, Tryz.ntmps16
    go_wp2_with fail
    refine c1.mono ?_
    rintro e w1 ⟨rfl, hb1⟩
    have hc0 := HC0.out _ hb1
    generalize L[0] = x0 at *
    have hwn : IntKind.i64.wrap (-x0) = -x0 := IntWalk.i64_in _ (by omega)
    clear c1
    go_wp2_with fail
    go_loopw [3, 4] (fun s i wr => ∃ k : Nat, 1 ≤ k ∧ k ≤ L.length ∧ i = .int .i64 (k : Int) ∧ s = .int .i64 (teleS L k - (L.take k).sum) ∧ Below w.heap.size w wr) (fun _ i _ => L.length - (intOf i).toNat)
    case atStart => exact ⟨1, Nat.le_refl _, hl.1, rfl, by rw [HT1.out, HS1.out]; simp, hb1⟩
    case round =>
      clear hb1 hc0
      obtain ⟨k, hk1, hk, rfl, rfl, hbel⟩ := hrel
      have hsz := hbel.size
      by_cases hlt : k < L.length
      · have hlti : (k : Int) < (L.length : Int) := by omega
        have hkc : k ≤ cap := by omega
        have hkc1 : k + 1 ≤ cap := by omega
        have hwk : IntKind.i64.wrap ((k : Int) + 1) = ((k + 1 : Nat) : Int) := by rw [IntWalk.i64_in _ (by omega)]; omega
        have hk1i : (k : Int) + 1 ≤ (cap : Int) := by omega
        have hk1n : (0 : Int) ≤ (k : Int) + 1 := by omega
        have ck := fun WW (HH : Below w.heap.size w WW) => (by have h := spec_GcdOfList (L.take (k)) (some ⟨b, off, none⟩) cap WW (HSL.out _ HH (k)) (by unfold maxLen; have := HTL.out (k) (by omega); omega); rw [HTL.out (k) (by omega)] at h; exact h)
        have ck1 := fun WW (HH : Below w.heap.size w WW) => (by have h := spec_GcdOfList (L.take (k + 1)) (some ⟨b, off, none⟩) cap WW (HSL.out _ HH (k + 1)) (by unfold maxLen; have := HTL.out (k + 1) (by omega); omega); rw [HTL.out (k + 1) (by omega)] at h; exact h)
        have hg0 := take_gcd HOK.out hk1 (Nat.le_of_lt hlt)
        have hg1 := take_gcd HOK.out (k := k + 1) (by omega) hlt
        have hx := get_ok HOK.out hlt
        have hts := teleS_bnd HOK.out k (Nat.le_of_lt hlt)
        have hss := sum_ok (L := L.take k) (fun y hy => HBN.out y (List.mem_of_mem_take hy))
        have hst : (L.take k).length ≤ 20 := by rw [HTL.out k hk]; omega
        have hpp := prod_bnd hx hg0
        have hqb := div_bnd (x := L[k] * gcdL (L.take k)) (d := gcdL (L.take (k + 1))) (b := 3600) ⟨by omega, hpp.2⟩ hg1.1
        have HTS : Hid (teleS L (k + 1) = teleS L k + L[k] * gcdL (L.take k) / gcdL (L.take (k + 1))) := Lib.hid (by
          show teleS L k + (if k = 0 then 0 else teleT L k) = _
          rw [if_neg (by omega)]; unfold teleT; rw [getD_at hlt])
        have HSM : Hid ((L.take (k + 1)).sum = (L.take k).sum + L[k]) := Lib.hid (by rw [List.take_add_one, List.getElem?_eq_getElem hlt, List.sum_append]; simp)
        have HK : Hid (∀ w2, Below w.heap.size w w2 → (w2.cell? ⟨b, off + k, none⟩ = some (.int .i64 L[k]) ∧ Below w.heap.size w w2)) := Lib.hid fun w2 h => ⟨HCK.out _ h k hlt, h⟩
        have HN : Hid (teleS L (k + 1) - (L.take (k + 1)).sum = teleS L k - (L.take k).sum + L[k] * gcdL (L.take k) / gcdL (L.take (k + 1)) - L[k]) := Lib.hid (by rw [HTS.out, HSM.out]; omega)
        clear HTS HSM
        have htd : (L[k] * gcdL (L.take k)).tdiv (gcdL (L.take (k + 1))) = L[k] * gcdL (L.take k) / gcdL (L.take (k + 1)) := Int.tdiv_eq_ediv_of_nonneg (by omega)
        have hwq : IntKind.i64.wrap (L[k] * gcdL (L.take k) / gcdL (L.take (k + 1))) = L[k] * gcdL (L.take k) / gcdL (L.take (k + 1)) := IntWalk.i64_in _ (by omega)
        have hgz : gcdL (L.take (k + 1)) ≠ 0 := by omega
        have hgzb : (gcdL (L.take (k + 1)) == 0) = false := by rw [beq_eq_false_iff_ne]; exact hgz
        obtain ⟨sv, hsv⟩ : ∃ sv : Int, sv = teleS L k - (L.take k).sum := ⟨_, rfl⟩
        have hsb : -1300 ≤ sv ∧ sv ≤ 80000 := by omega
        rw [← hsv] at HN
        rw [← hsv]
        clear hsv hts hss hst
        generalize gcdL (L.take k) = g0 at *
        generalize gcdL (L.take (k + 1)) = g1 at *
        generalize L[k] = x at *
        generalize x * g0 / g1 = tq at *
        have hws1 : IntKind.i64.wrap (sv + tq) = sv + tq := IntWalk.i64_in _ (by omega)
        have hws2 : IntKind.i64.wrap (sv + tq - x) = sv + tq - x := IntWalk.i64_in _ (by omega)
        go_wp2_with fail
        have hS0 := HK.out _ hbel.drew
        refine wp_region_held_drew (S := fun w' => (w'.cell? ⟨b, off + k, none⟩ = some (.int .i64 x) ∧ Below w.heap.size w w')) (by kernel_rfl) hS0 (fun hHeld => ?_)
        refine held_take 0 _ _ rfl (by kernel_rfl) (by kernel_rfl) (by kernel_rfl) (fun _ _ _ h => h) (by rfl) hHeld (fun w hSw => by (try dsimp only at hSw); go_simp; try with_reducible rfl) ?_
        (try simp only [Act.put, List.setIfInBounds_toArray, List.set_cons_zero, List.set_cons_succ, List.getElem_toArray, List.getElem_cons_zero])
        refine held_take 1 _ _ rfl (by kernel_rfl) (by kernel_rfl) (by kernel_rfl) (fun _ _ _ h => h) (by rfl) hHeld (fun w hSw => by (try dsimp only at hSw); go_simp; try with_reducible rfl) ?_
        (try simp only [Act.put, List.setIfInBounds_toArray, List.set_cons_zero, List.set_cons_succ, List.getElem_toArray, List.getElem_cons_succ, List.getElem_cons_zero])
        refine held_take 2 _ _ rfl (by kernel_rfl) (by kernel_rfl) (by kernel_rfl) (fun _ _ _ h => h) (by rfl) hHeld (fun w hSw => by (try dsimp only at hSw); go_simp; try with_reducible rfl) ?_
        (try simp only [Act.put, List.setIfInBounds_toArray, List.set_cons_zero, List.set_cons_succ, List.getElem_toArray, List.getElem_cons_succ, List.getElem_cons_zero])
        refine held_take 3 _ _ rfl (by kernel_rfl) (by kernel_rfl) (by kernel_rfl) (fun _ _ _ h => h) (by rfl) hHeld (fun w hSw => by (try dsimp only at hSw); go_simp; try with_reducible rfl) ?_
        (try simp only [Act.put, List.setIfInBounds_toArray, List.set_cons_zero, List.set_cons_succ, List.getElem_toArray, List.getElem_cons_succ, List.getElem_cons_zero])
        refine held_take 4 _ _ rfl (by kernel_rfl) (by kernel_rfl) (by kernel_rfl) (fun _ _ _ h => h) (by rfl) hHeld (fun w hSw => by (try dsimp only at hSw); go_simp; try with_reducible rfl) ?_
        (try simp only [Act.put, List.setIfInBounds_toArray, List.set_cons_zero, List.set_cons_succ, List.getElem_toArray, List.getElem_cons_succ, List.getElem_cons_zero])
        refine held_take 5 _ _ rfl (by kernel_rfl) (by kernel_rfl) (by kernel_rfl) (fun _ _ _ h => h) (by rfl) hHeld (fun w hSw => by (try dsimp only at hSw); go_simp; try with_reducible rfl) ?_
        (try simp only [Act.put, List.setIfInBounds_toArray, List.set_cons_zero, List.set_cons_succ, List.getElem_toArray, List.getElem_cons_succ, List.getElem_cons_zero])
        refine held_take 6 _ _ rfl (by kernel_rfl) (by kernel_rfl) (by kernel_rfl) (fun _ _ _ h => h) (by rfl) hHeld (fun w hSw => by (try dsimp only at hSw); go_simp; try with_reducible rfl) ?_
        (try simp only [Act.put, List.setIfInBounds_toArray, List.set_cons_zero, List.set_cons_succ, List.getElem_toArray, List.getElem_cons_succ, List.getElem_cons_zero])
        refine held_take 7 _ _ rfl (by kernel_rfl) (by kernel_rfl) (by kernel_rfl) (fun _ _ _ h => h) (by rfl) hHeld (fun w hSw => by (try dsimp only at hSw); go_simp; try with_reducible rfl) ?_
        (try simp only [Act.put, List.setIfInBounds_toArray, List.set_cons_zero, List.set_cons_succ, List.getElem_toArray, List.getElem_cons_succ, List.getElem_cons_zero])
        refine held_take 10 _ _ rfl (by kernel_rfl) (by kernel_rfl) (by kernel_rfl) (fun _ _ _ h => h) (by rfl) hHeld (fun w hSw => by (try dsimp only at hSw); go_simp; try with_reducible rfl) ?_
        (try simp only [Act.put, List.setIfInBounds_toArray, List.set_cons_zero, List.set_cons_succ, List.getElem_toArray, List.getElem_cons_succ, List.getElem_cons_zero])
        refine held_take 11 _ _ rfl (by kernel_rfl) (by kernel_rfl) (by kernel_rfl) (fun _ _ _ h => h) (by rfl) hHeld (fun w hSw => by (try dsimp only at hSw); go_simp; try with_reducible rfl) ?_
        (try simp only [Act.put, List.setIfInBounds_toArray, List.set_cons_zero, List.set_cons_succ, List.getElem_toArray, List.getElem_cons_succ, List.getElem_cons_zero])
        refine held_take 12 _ _ rfl (by kernel_rfl) (by kernel_rfl) (by kernel_rfl) (fun _ _ _ h => h) (by rfl) hHeld (fun w hSw => by (try dsimp only at hSw); go_simp; try with_reducible rfl) ?_
        (try simp only [Act.put, List.setIfInBounds_toArray, List.set_cons_zero, List.set_cons_succ, List.getElem_toArray, List.getElem_cons_succ, List.getElem_cons_zero])
        refine held_take 13 _ _ rfl (by kernel_rfl) (by kernel_rfl) (by kernel_rfl) (fun _ _ _ h => h) (by rfl) hHeld (fun w hSw => by (try dsimp only at hSw); go_simp; try with_reducible rfl) ?_
        (try simp only [Act.put, List.setIfInBounds_toArray, List.set_cons_zero, List.set_cons_succ, List.getElem_toArray, List.getElem_cons_succ, List.getElem_cons_zero])
        refine held_take 17 _ _ rfl (by kernel_rfl) (by kernel_rfl) (by kernel_rfl) (fun _ _ _ h => h) (by rfl) hHeld (fun w hSw => by (try dsimp only at hSw); go_simp; try with_reducible rfl) ?_
        (try simp only [Act.put, List.setIfInBounds_toArray, List.set_cons_zero, List.set_cons_succ, List.getElem_toArray, List.getElem_cons_succ, List.getElem_cons_zero])
        refine held_take 18 _ _ rfl (by kernel_rfl) (by kernel_rfl) (by kernel_rfl) (fun _ _ _ h => h) (by rfl) hHeld (fun w hSw => by (try dsimp only at hSw); go_simp; try with_reducible rfl) ?_
        (try simp only [Act.put, List.setIfInBounds_toArray, List.set_cons_zero, List.set_cons_succ, List.getElem_toArray, List.getElem_cons_succ, List.getElem_cons_zero])
        refine held_take 19 _ _ rfl (by kernel_rfl) (by kernel_rfl) (by kernel_rfl) (fun _ _ _ h => h) (by rfl) hHeld (fun w hSw => by (try dsimp only at hSw); go_simp; try with_reducible rfl) ?_
        (try simp only [Act.put, List.setIfInBounds_toArray, List.set_cons_zero, List.set_cons_succ, List.getElem_toArray, List.getElem_cons_succ, List.getElem_cons_zero])
        refine held_take 20 _ _ rfl (by kernel_rfl) (by kernel_rfl) (by kernel_rfl) (fun _ _ _ h => h) (by rfl) hHeld (fun w hSw => by (try dsimp only at hSw); go_simp; try with_reducible rfl) ?_
        (try simp only [Act.put, List.setIfInBounds_toArray, List.set_cons_zero, List.set_cons_succ, List.getElem_toArray, List.getElem_cons_succ, List.getElem_cons_zero])
        refine wpAnyH_ready (rs := [8]) (by kernel_rfl) (by simp) ?_
        refine AllReadyH.cons rfl (fun K hK => ?_) AllReadyH.nil
        rw [if_pos (by rfl)]
        go_wp2_with (first | (go_at_call 53; (with_reducible refine (ck _ (hHeld).2).mono ?_); rintro e wo ⟨rfl, hwo⟩; rw [hwo]; clear hwo))
        refine hK.out _ _ (hHeld) (fun hHeld1 => ?_)
        clear hK K
        (try simp only [Act.put, List.setIfInBounds_toArray, List.set_cons_zero, List.set_cons_succ, List.getElem_toArray, List.getElem_cons_succ, List.getElem_cons_zero])
        refine held_take 9 _ _ rfl (by kernel_rfl) (by kernel_rfl) (by kernel_rfl) (fun _ _ _ h => h) (by rfl) hHeld1 (fun w hSw => by (try dsimp only at hSw); go_simp; try with_reducible rfl) ?_
        (try simp only [Act.put, List.setIfInBounds_toArray, List.set_cons_zero, List.set_cons_succ, List.getElem_toArray, List.getElem_cons_succ, List.getElem_cons_zero])
        refine wpAnyH_ready (rs := [14]) (by kernel_rfl) (by simp) ?_
        refine AllReadyH.cons rfl (fun K hK => ?_) AllReadyH.nil
        rw [if_pos (by rfl)]
        go_wp2_with (first | (go_at_call 53; (with_reducible refine (ck1 _ (hHeld1).2).mono ?_); rintro e wp ⟨rfl, hwp⟩; rw [hwp]; clear hwp))
        refine hK.out _ _ (hHeld1) (fun hHeld2 => ?_)
        clear hK K
        (try simp only [Act.put, List.setIfInBounds_toArray, List.set_cons_zero, List.set_cons_succ, List.getElem_toArray, List.getElem_cons_succ, List.getElem_cons_zero])
        refine held_take 15 _ _ rfl (by kernel_rfl) (by kernel_rfl) (by kernel_rfl) (fun _ _ _ h => h) (by rfl) hHeld2 (fun w hSw => by (try dsimp only at hSw); go_simp; try with_reducible rfl) ?_
        (try simp only [Act.put, List.setIfInBounds_toArray, List.set_cons_zero, List.set_cons_succ, List.getElem_toArray, List.getElem_cons_succ, List.getElem_cons_zero])
        refine held_take 16 _ _ rfl (by kernel_rfl) (by kernel_rfl) (by kernel_rfl) (fun _ _ _ h => h) (by rfl) hHeld2 (fun w hSw => by (try dsimp only at hSw); go_simp; try with_reducible rfl) ?_
        (try simp only [Act.put, List.setIfInBounds_toArray, List.set_cons_zero, List.set_cons_succ, List.getElem_toArray, List.getElem_cons_succ, List.getElem_cons_zero])
        refine held_take 21 _ _ rfl (by kernel_rfl) (by kernel_rfl) (by kernel_rfl) (fun _ _ _ h => h) (by rfl) hHeld2 (fun w hSw => by (try dsimp only at hSw); go_simp; try with_reducible rfl) ?_
        (try simp only [Act.put, List.setIfInBounds_toArray, List.set_cons_zero, List.set_cons_succ, List.getElem_toArray, List.getElem_cons_succ, List.getElem_cons_zero])
        refine held_take 22 _ _ rfl (by kernel_rfl) (by kernel_rfl) (by kernel_rfl) (fun _ _ _ h => h) (by rfl) hHeld2 (fun w hSw => by (try dsimp only at hSw); go_simp; try with_reducible rfl) ?_
        (try simp only [Act.put, List.setIfInBounds_toArray, List.set_cons_zero, List.set_cons_succ, List.getElem_toArray, List.getElem_cons_succ, List.getElem_cons_zero])
        refine wpAnyH_done (by kernel_rfl) ?_ _
        have hbF := (hHeld2).2
        clear hS0
        go_wp2_with fail
        go_roundw
        case rel => exact ⟨k + 1, by omega, by omega, by go_num, by rw [HN.out], hbF⟩
        case measure => simp [intOf]; omega
      · obtain rfl : k = L.length := by omega
        have hlti : ¬ ((L.length : Nat) : Int) < (L.length : Int) := by omega
        rw [List.take_length]
        go_wp2_with fail
        go_ret
        exact ⟨by rw [HR.out]; rfl, hbel⟩

end Go.Proofs.YtipfonpaaebjjaaGreat
