/-
  CONTRACT of the reference's ApplyRelation. (Own work; mk80.py.)
-/
import Derived.Test.YtekeaigdphicaaaSgAp
import Derived.Maps.AppendAt
import Derived.Test.YtekeaigdphicaaaCh11M
import Derived.BigRegion
import Derived.Deep.Cut
namespace Go.Proofs.Ytekeaigdphicaaa
open Go Go.RowKit

theorem neL {w : World} {lo n : Nat} {v : Value} {xs : List Value} {g : Nat} (h : w.ownsRow lo 3 1 v n xs) (hg : g < lo) : v.ownBlock ≠ some g := fun e => by have := (h.lt g e).1; omega

set_option maxRecDepth 100000 in
set_option maxHeartbeats 3200000 in
theorem spec_ApplyRelation (A B L : List Int) (a b c : Option Addr) (ca cb cc : Nat) (w : World) (hrA : SlV w a (A.map (Value.int .i64))) (hrB : SlV w b (B.map (Value.int .i64))) (hrL : SlV w c (L.map (Value.int .i64))) (_ : A.length ≤ 1048576) (_ : B.length ≤ 1048576) (_ : L.length ≤ 1048576) :
    Calls Try.prog 6 #[.agg #[.slice a A.length ca, .slice b B.length cb], .slice c L.length cc] w fun e w' => ∃ v, e = .returned (.tuple #[v, .bool (rlB A B L)]) ∧ w'.ownsRow w.heap.size 3 1 v (rlL A B L).length ((rlL A B L).map (Value.int .i64)) ∧ Below w.heap.size w w' := by
  obtain ⟨i0, hi, hz0, hz1, hz2⟩ := info_parts infoIntL
  obtain ⟨U, hU⟩ : ∃ U, U = w.alloc (.cells #[.slice a A.length ca, .slice b B.length cb] 28) := ⟨_, rfl⟩
  have hbU : Below w.heap.size w U := by rw [hU]; exact box_below _ _
  have hUs : w.heap.size + 1 ≤ U.heap.size := by rw [hU]; simp
  have hUs2 : U.heap.size ≤ w.heap.size + 1 := by rw [hU]; simp
  have hAU : Arr U w.heap.size 28 [.slice a A.length ca, .slice b B.length cb] := by rw [hU]; exact Arr.new _ _ _
  have hc0 : U.cell? ⟨w.heap.size, 0, none⟩ = some (.slice a A.length ca) := hAU.cell 0
  have hc1 : U.cell? ⟨w.heap.size, 1, none⟩ = some (.slice b B.length cb) := hAU.cell 1
  have HA0 := Lib.hid hAU
  have HU := Lib.hid hU
  clear hU hAU
  go_enter Try.func6, Try.ntmps6
  go_upto_region 1 with fail
  rw [← HU.out]
  by_cases hA : A.length = L.length
  · have hAd : ((A.length : Int) != (L.length : Int)) = false := by rw [hA]; simp
    have hA' := hA
    clear hA
    by_cases hB : B.length = L.length
    · have hBd : ((B.length : Int) != (L.length : Int)) = false := by rw [hB]; simp
      have HLA := Lib.hid hA'
      have HLB := Lib.hid hB
      clear hB hA'
      have HO0 := Lib.hid (World.ownsRow_lit (base := w.heap.size + 1) (e := 3) (size := 1) U #[] 0 (by omega) (by simp) rfl)
      have hbV := hbU.alloc hbU.size (.cells #[] 3)
      have hbVU := (Below.refl U.heap.size U).alloc (Nat.le_refl _) (.cells #[] 3)
      have HA9 := Lib.hid (fun w2 (h : Below U.heap.size U w2) => HA0.out.below h)
      go_wp2_with fail
      clear hc0 hc1 hAd hBd
      go_loopw [6, 7] (fun v i wr => ∃ (k : Nat) (vv : Value), k ≤ L.length ∧ i = .int .i64 (k : Int) ∧ Hid (rlK A L k = true) ∧ vv = v ∧ wr.ownsRow (w.heap.size + 1) 3 1 vv k ((rlM A B L k).map (Value.int .i64)) ∧ Below w.heap.size w wr ∧ Below U.heap.size U wr) (fun _ i _ => L.length - (intOf i).toNat)
      case atStart => exact ⟨0, _, Nat.zero_le _, rfl, Lib.hid rfl, rfl, HO0.out, hbV, hbVU⟩
      case round =>
        clear HO0 hbV hbVU
        obtain ⟨k, vv, hk, rfl, HK, rfl, hown, hbel, hbelU⟩ := hrel
        have hsz := hbel.size
        by_cases hlt : k < L.length
        · have hkA : k < A.length := by rw [HLA.out]; exact hlt
          have hkB : k < B.length := by rw [HLB.out]; exact hlt
          have hlti : (k : Int) < (L.length : Int) := by omega
          have hkAi : (k : Int) < (A.length : Int) := by omega
          have hkBi : (k : Int) < (B.length : Int) := by omega
          have hk0 : (0 : Int) ≤ (k : Int) := by omega
          obtain ⟨bA, oA, rfl, hbsA, hcA⟩ := (hrA.below hbel).open (by intro h; rw [List.map_eq_nil_iff] at h; rw [h] at hkA; simp at hkA)
          obtain ⟨bB, oB, rfl, hbsB, hcB⟩ := (hrB.below hbel).open (by intro h; rw [List.map_eq_nil_iff] at h; rw [h] at hkB; simp at hkB)
          obtain ⟨bL, oL, rfl, hbsL, hcL⟩ := (hrL.below hbel).open (by intro h; rw [List.map_eq_nil_iff] at h; rw [h] at hlt; simp at hlt)
          have hcx : wr.cell? ⟨bL, oL + k, none⟩ = some (.int .i64 L[k]) := hcL k _ (by simp [hlt])
          have hcy : wr.cell? ⟨bA, oA + k, none⟩ = some (.int .i64 A[k]) := hcA k _ (by simp [hkA])
          have hcz : wr.cell? ⟨bB, oB + k, none⟩ = some (.int .i64 B[k]) := hcB k _ (by simp [hkB])
          have hA9 := HA9.out wr hbelU
          have hc0 : wr.cell? ⟨w.heap.size, 0, none⟩ = some (.slice (some ⟨bA, oA, none⟩) A.length ca) := hA9.cell 0
          have hc1 : wr.cell? ⟨w.heap.size, 1, none⟩ = some (.slice (some ⟨bB, oB, none⟩) B.length cb) := hA9.cell 1
          have gx := getD_in hlt
          have gy := getD_in hkA
          have gz := getD_in hkB
          have HBAD := Lib.hid (fun (h : L[k] < A[k]) => rl_bad (A := A) (B := B) hlt (by rw [gx, gy]; exact h))
          have HNX := Lib.hid (fun (h : A[k] ≤ L[k]) => rlK_next HK.out (by rw [gx, gy]; exact h))
          have HV : Hid (rlM A B L (k + 1) = rlM A B L k ++ [IntKind.i64.wrap (IntKind.i64.wrap (L[k] - A[k]) + B[k])]) := Lib.hid (by rw [rlM_next]; unfold rlV; rw [gx, gy, gz])
          have hsL : bL < w.heap.size + 1 := by have := (hrL.open (by intro h; rw [List.map_eq_nil_iff] at h; rw [h] at hlt; simp at hlt)); obtain ⟨_, _, e, h, _⟩ := this; cases e; omega
          have hsA : bA < w.heap.size + 1 := by have := (hrA.open (by intro h; rw [List.map_eq_nil_iff] at h; rw [h] at hkA; simp at hkA)); obtain ⟨_, _, e, h, _⟩ := this; cases e; omega
          have hsB : bB < w.heap.size + 1 := by have := (hrB.open (by intro h; rw [List.map_eq_nil_iff] at h; rw [h] at hkB; simp at hkB)); obtain ⟨_, _, e, h, _⟩ := this; cases e; omega
          have hs0 : w.heap.size < w.heap.size + 1 := Nat.lt_succ_self _
          clear gx gy gz hcA hcB hcL hA9 hrA hrB hrL hbsA hbsB hbsL
          generalize L[k] = x at *
          generalize A[k] = y at *
          generalize B[k] = z at *
          by_cases hxy : x < y
          · have hxd := decide_eq_true hxy
            have HB := Lib.hid (HBAD.out hxy)
            have hbD : Below w.heap.size w wr.drew := hbel.drew
            clear HBAD HNX HV
            go_wp2_with fail
            go_region
            have hbG := hbD.alloc hbD.size (.cells #[] 3)
            have HO := Lib.hid (World.ownsRow_lit (base := w.heap.size) (e := 3) (size := 1) wr.drew #[] 0 hbD.size (by simp) rfl)
            go_wp2_with fail
            go_ret2
            exact ⟨.slice (some ⟨wr.drew.heap.size, 0, none⟩) 0 0, by rw [HB.out]; rfl, by rw [rl_no HB.out]; exact HO.out, hbG⟩
          · have hxd := decide_eq_false hxy
            obtain ⟨d, hd⟩ : ∃ d, d = IntKind.i64.wrap (x - y) := ⟨_, rfl⟩
            have hw1 : IntKind.i64.wrap (x - y) = d := hd.symm
            obtain ⟨r, hr⟩ : ∃ r, r = IntKind.i64.wrap (d + z) := ⟨_, rfl⟩
            have hw2 : IntKind.i64.wrap (d + z) = r := hr.symm
            have HKN := Lib.hid (HNX.out (by omega))
            rw [← hd, ← hr] at HV
            clear hd hr HBAD HNX
            have hS0 : (fun w' => w'.cell? ⟨bL, oL + k, none⟩ = some (.int .i64 x) ∧ w'.cell? ⟨w.heap.size, 0, none⟩ = some (.slice (some ⟨bA, oA, none⟩) A.length ca) ∧ w'.cell? ⟨w.heap.size, 1, none⟩ = some (.slice (some ⟨bB, oB, none⟩) B.length cb) ∧ w'.cell? ⟨bA, oA + k, none⟩ = some (.int .i64 y) ∧ w'.cell? ⟨bB, oB + k, none⟩ = some (.int .i64 z)) wr.drew.drew := ⟨hcx, hc0, hc1, hcy, hcz⟩
            have HOW := Lib.hid (show wr.drew.drew.ownsRow (w.heap.size + 1) 3 1 vv k ((rlM A B L k).map (Value.int .i64)) from hown.drew.drew)
            have hbD : Below w.heap.size w wr.drew.drew := hbel.drew.drew
            have hbDU : Below U.heap.size U wr.drew.drew := hbelU.drew.drew
            clear hown
            go_wp2_with fail
            go_region
            have hown := HOW.out
            go_wp2_with fail
            have hownA := hown.alloc (.cells #[.int .i64 r] 3)
            have hszA : w.heap.size + 1 ≤ (wr.drew.drew.alloc (.cells #[.int .i64 r] 3)).heap.size := by rw [World.size_alloc]; have := hbDU.size; omega
            refine wp_region_held_drew (S := fun w' => w'.cell? ⟨bL, oL + k, none⟩ = some (.int .i64 x) ∧ w'.cell? ⟨w.heap.size, 0, none⟩ = some (.slice (some ⟨bA, oA, none⟩) A.length ca) ∧ w'.cell? ⟨w.heap.size, 1, none⟩ = some (.slice (some ⟨bB, oB, none⟩) B.length cb) ∧ w'.cell? ⟨bA, oA + k, none⟩ = some (.int .i64 y) ∧ w'.cell? ⟨bB, oB + k, none⟩ = some (.int .i64 z)) (by kernel_rfl) hS0 (fun hHeld => ?_)
            refine held_take 0 _ _ rfl (by kernel_rfl) (by kernel_rfl) (by kernel_rfl) (fun _ _ _ h => h) (by rfl) hHeld (fun w hSw => by (try dsimp only at hSw); go_simp; try with_reducible rfl) ?_
            (try simp only [Act.put, List.setIfInBounds_toArray, List.set_cons_zero, List.set_cons_succ, List.getElem_toArray, List.getElem_cons_zero])
            refine held_take 1 _ _ rfl (by kernel_rfl) (by kernel_rfl) (by kernel_rfl) (fun _ _ _ h => h) (by rfl) hHeld (fun w hSw => by (try dsimp only at hSw); go_simp; try with_reducible rfl) ?_
            (try simp only [Act.put, List.setIfInBounds_toArray, List.set_cons_zero, List.set_cons_succ, List.getElem_toArray, List.getElem_cons_succ, List.getElem_cons_zero])
            refine held_take 2 _ _ rfl (by kernel_rfl) (by kernel_rfl) (by kernel_rfl) (fun _ _ _ h => h) (by rfl) hHeld (fun w hSw => by (try dsimp only at hSw); go_simp; try with_reducible rfl) ?_
            (try simp only [Act.put, List.setIfInBounds_toArray, List.set_cons_zero, List.set_cons_succ, List.getElem_toArray, List.getElem_cons_succ, List.getElem_cons_zero])
            refine held_take 3 _ _ rfl (by kernel_rfl) (by kernel_rfl) (by kernel_rfl) (fun _ _ _ h => h) (by rfl) hHeld (fun w hSw => by (try dsimp only at hSw); go_simp; try with_reducible rfl) ?_
            (try simp only [Act.put, List.setIfInBounds_toArray, List.set_cons_zero, List.set_cons_succ, List.getElem_toArray, List.getElem_cons_succ, List.getElem_cons_zero])
            refine held_take 4 _ _ rfl (by kernel_rfl) (by kernel_rfl) (by kernel_rfl) (fun _ _ _ h => h) (by rfl) hHeld (fun w hSw => by (try dsimp only at hSw); go_simp; try with_reducible rfl) ?_
            (try simp only [Act.put, List.setIfInBounds_toArray, List.set_cons_zero, List.set_cons_succ, List.getElem_toArray, List.getElem_cons_succ, List.getElem_cons_zero])
            refine held_take 5 _ _ rfl (by kernel_rfl) (by kernel_rfl) (by kernel_rfl) (fun _ _ _ h => h) (by rfl) hHeld (fun w hSw => by (try dsimp only at hSw); go_simp; try with_reducible rfl) ?_
            (try simp only [Act.put, List.setIfInBounds_toArray, List.set_cons_zero, List.set_cons_succ, List.getElem_toArray, List.getElem_cons_succ, List.getElem_cons_zero])
            refine held_take 6 _ _ rfl (by kernel_rfl) (by kernel_rfl) (by kernel_rfl) (fun _ _ _ h => h) (by rfl) hHeld (fun w hSw => by (try dsimp only at hSw); go_simp; try with_reducible rfl) ?_
            (try simp only [Act.put, List.setIfInBounds_toArray, List.set_cons_zero, List.set_cons_succ, List.getElem_toArray, List.getElem_cons_succ, List.getElem_cons_zero])
            refine held_take 7 _ _ rfl (by kernel_rfl) (by kernel_rfl) (by kernel_rfl) (fun _ _ _ h => h) (by rfl) hHeld (fun w hSw => by (try dsimp only at hSw); go_simp; try with_reducible rfl) ?_
            (try simp only [Act.put, List.setIfInBounds_toArray, List.set_cons_zero, List.set_cons_succ, List.getElem_toArray, List.getElem_cons_succ, List.getElem_cons_zero])
            refine held_take 8 _ _ rfl (by kernel_rfl) (by kernel_rfl) (by kernel_rfl) (fun _ _ _ h => h) (by rfl) hHeld (fun w hSw => by (try dsimp only at hSw); go_simp; try with_reducible rfl) ?_
            (try simp only [Act.put, List.setIfInBounds_toArray, List.set_cons_zero, List.set_cons_succ, List.getElem_toArray, List.getElem_cons_succ, List.getElem_cons_zero])
            refine held_take 9 _ _ rfl (by kernel_rfl) (by kernel_rfl) (by kernel_rfl) (fun _ _ _ h => h) (by rfl) hHeld (fun w hSw => by (try dsimp only at hSw); go_simp; try with_reducible rfl) ?_
            (try simp only [Act.put, List.setIfInBounds_toArray, List.set_cons_zero, List.set_cons_succ, List.getElem_toArray, List.getElem_cons_succ, List.getElem_cons_zero])
            refine held_take 10 _ _ rfl (by kernel_rfl) (by kernel_rfl) (by kernel_rfl) (fun _ _ _ h => h) (by rfl) hHeld (fun w hSw => by (try dsimp only at hSw); go_simp; try with_reducible rfl) ?_
            (try simp only [Act.put, List.setIfInBounds_toArray, List.set_cons_zero, List.set_cons_succ, List.getElem_toArray, List.getElem_cons_succ, List.getElem_cons_zero])
            refine held_take 11 _ _ rfl (by kernel_rfl) (by kernel_rfl) (by kernel_rfl) (fun _ _ _ h => h) (by rfl) hHeld (fun w hSw => by (try dsimp only at hSw); go_simp; try with_reducible rfl) ?_
            (try simp only [Act.put, List.setIfInBounds_toArray, List.set_cons_zero, List.set_cons_succ, List.getElem_toArray, List.getElem_cons_succ, List.getElem_cons_zero])
            refine held_take 12 _ _ rfl (by kernel_rfl) (by kernel_rfl) (by kernel_rfl) (fun _ _ _ h => h) (by rfl) hHeld (fun w hSw => by (try dsimp only at hSw); go_simp; try with_reducible rfl) ?_
            (try simp only [Act.put, List.setIfInBounds_toArray, List.set_cons_zero, List.set_cons_succ, List.getElem_toArray, List.getElem_cons_succ, List.getElem_cons_zero])
            refine held_take 13 _ _ rfl (by kernel_rfl) (by kernel_rfl) (by kernel_rfl) (fun _ _ _ h => h) (by rfl) hHeld (fun w hSw => by (try dsimp only at hSw); go_simp; try with_reducible rfl) ?_
            (try simp only [Act.put, List.setIfInBounds_toArray, List.set_cons_zero, List.set_cons_succ, List.getElem_toArray, List.getElem_cons_succ, List.getElem_cons_zero])
            refine held_take 14 _ _ rfl (by kernel_rfl) (by kernel_rfl) (by kernel_rfl) (fun _ _ _ h => h) (by rfl) hHeld (fun w hSw => by (try dsimp only at hSw); go_simp; try with_reducible rfl) ?_
            (try simp only [Act.put, List.setIfInBounds_toArray, List.set_cons_zero, List.set_cons_succ, List.getElem_toArray, List.getElem_cons_succ, List.getElem_cons_zero])
            refine held_take 15 _ _ rfl (by kernel_rfl) (by kernel_rfl) (by kernel_rfl) (fun _ _ _ h => h) (by rfl) hHeld (fun w hSw => by (try dsimp only at hSw); go_simp; try with_reducible rfl) ?_
            (try simp only [Act.put, List.setIfInBounds_toArray, List.set_cons_zero, List.set_cons_succ, List.getElem_toArray, List.getElem_cons_succ, List.getElem_cons_zero])
            refine held_take 16 _ _ rfl (by kernel_rfl) (by kernel_rfl) (by kernel_rfl) (fun _ _ _ h => h) (by rfl) hHeld (fun w hSw => by (try dsimp only at hSw); go_simp; try with_reducible rfl) ?_
            (try simp only [Act.put, List.setIfInBounds_toArray, List.set_cons_zero, List.set_cons_succ, List.getElem_toArray, List.getElem_cons_succ, List.getElem_cons_zero])
            refine wpAnyH_ready (rs := [17]) (by kernel_rfl) (by simp) ?_
            refine AllReadyH.cons rfl (fun K hK => ?_) AllReadyH.nil
            rw [if_pos (by rfl)]
            go_wp2_with fail
            refine hK.out _ _ (keep5 (World.grownBy_alloc _ _ none) (by simp) (by simp) (by simp) (by simp) (by simp) hHeld) (fun hHeld1 => ?_)
            clear hK K
            (try simp only [Act.put, List.setIfInBounds_toArray, List.set_cons_zero, List.set_cons_succ, List.getElem_toArray, List.getElem_cons_succ, List.getElem_cons_zero])
            refine wpAnyH_ready (rs := [18]) (by kernel_rfl) (by simp) ?_
            refine AllReadyH.cons rfl (fun K hK => ?_) AllReadyH.nil
            rw [if_pos (by rfl)]
            refine wp_append_own_at _ (.tmp 41) (.tmp 58) 22 (by rfl) (w.heap.size + 1) 3 i0 (Value.int .i64 0) 1 8 Try.underlying22 hi hz0 hz1 hz2 rfl (by decide) _ k ((rlM A B L k).map (Value.int .i64)) (by rfl) hownA _ 1 _ [.int .i64 r] (by rfl) rfl (World.news_of_block (cs := #[.int .i64 r]) (t := 3) (fr := (0, 0)) (heap_alloc_new _ _)) (by simp [Value.oneCell']) (by unfold maxLen; omega) (by omega) hszA ?_
            intro v2 w2 hown2 hg2 _ hat2
            refine hK.out _ _ (keep5 hg2 (neL hown hsL) (neL hown hs0) (neL hown hs0) (neL hown hsA) (neL hown hsB) hHeld1) (fun hHeld2 => ?_)
            clear hK K
            (try simp only [Act.put, List.setIfInBounds_toArray, List.set_cons_zero, List.set_cons_succ, List.getElem_toArray, List.getElem_cons_succ, List.getElem_cons_zero])
            refine held_take 19 _ _ rfl (by kernel_rfl) (by kernel_rfl) (by kernel_rfl) (fun _ _ _ h => h) (by rfl) hHeld2 (fun w hSw => by (try dsimp only at hSw); go_simp; try with_reducible rfl) ?_
            (try simp only [Act.put, List.setIfInBounds_toArray, List.set_cons_zero, List.set_cons_succ, List.getElem_toArray, List.getElem_cons_succ, List.getElem_cons_zero])
            refine wpAnyH_done (by kernel_rfl) ?_ _
            have hb9 := (hbD.alloc hbD.size (.cells #[.int .i64 r] 3)).grown hg2 (Nat.le_trans hbD.size (by simp)) (fun j hj => by have := (hown.lt j hj).1; omega)
            have hb9U := (hbDU.alloc hbDU.size (.cells #[.int .i64 r] 3)).grown hg2 (Nat.le_trans hbDU.size (by simp)) (fun j hj => by have := (hown.lt j hj).1; omega)
            have HO2 := Lib.hid hown2
            clear hS0 hHeld2 hownA hszA hown2 hg2 hat2 hown HOW hcx hcy hcz hc0 hc1 hw1 hw2
            go_wp2_with fail
            go_roundw
            case rel => exact ⟨k + 1, v2, by omega, by go_num, HKN, rfl, by rw [HV.out, List.map_append]; exact HO2.out, hb9, hb9U⟩
            case measure => simp [intOf]; omega
        · have hlti : ¬ (k : Int) < (L.length : Int) := by omega
          have HB : Hid (rlB A B L = true) := Lib.hid (rl_good HLA.out HLB.out (by rw [show L.length = k by omega]; exact HK.out))
          have HE : Hid (rlL A B L = rlM A B L k) := Lib.hid (by rw [rl_yes HB.out, show L.length = k by omega])
          have HO2 := Lib.hid (ownsBase hown (Nat.le_succ w.heap.size))
          clear hown hrA hrB hrL
          go_wp2_with fail
          go_ret2
          exact ⟨vv, by rw [HB.out]; rfl, by rw [HE.out, rlM_len]; exact HO2.out, hbel⟩
    · clear hA'
      have hBd : ((B.length : Int) != (L.length : Int)) = true := by rw [bne_iff_ne]; omega
      have HB : Hid (rlB A B L = false) := Lib.hid (rl_lenB hB)
      clear hB
      have hbG := hbU.alloc hbU.size (.cells #[] 3)
      have HO := Lib.hid (World.ownsRow_lit (base := w.heap.size) (e := 3) (size := 1) U #[] 0 hbU.size (by simp) rfl)
      go_wp2_with fail
      go_ret2
      exact ⟨.slice (some ⟨U.heap.size, 0, none⟩) 0 0, by rw [HB.out]; rfl, by rw [rl_no HB.out]; exact HO.out, hbG⟩
  · have hAd : ((A.length : Int) != (L.length : Int)) = true := by rw [bne_iff_ne]; omega
    have HB : Hid (rlB A B L = false) := Lib.hid (rl_lenA hA)
    clear hA
    have hbG := hbU.alloc hbU.size (.cells #[] 3)
    have HO := Lib.hid (World.ownsRow_lit (base := w.heap.size) (e := 3) (size := 1) U #[] 0 hbU.size (by simp) rfl)
    go_wp2_with fail
    go_ret2
    exact ⟨.slice (some ⟨U.heap.size, 0, none⟩) 0 0, by rw [HB.out]; rfl, by rw [rl_no HB.out]; exact HO.out, hbG⟩
end Go.Proofs.Ytekeaigdphicaaa
