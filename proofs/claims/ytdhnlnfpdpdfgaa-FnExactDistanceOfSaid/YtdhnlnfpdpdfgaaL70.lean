/-
  CONTRACT of the reference's chapter 13: DistanceOf. (Own work: mk70.py.)
-/
import Derived.Test.YtdhnlnfpdpdfgaaSgDs
import Derived.Test.YtdhnlnfpdpdfgaaSgL
import Derived.Test.YtdhnlnfpdpdfgaaL19
import Derived.StillTailTactics
namespace Go.Proofs.Ytdhnlnfpdpdfgaa
open Go Go.RowKit

set_option maxRecDepth 100000 in
set_option maxHeartbeats 1600000 in
theorem l1Min_any (x y : Int) (w : World) : Calls Try.prog 79 #[.int .i64 x, .int .i64 y] w fun e w' => e = .returned (.int .i64 (min x y)) ∧ w' = w := by
  by_cases h : x < y
  · rw [show min x y = x by omega]
    go_enter Try.func79, Try.ntmps79
    go_wp2_with fail
    go_ret
    exact ⟨rfl, rfl⟩
  · rw [show min x y = y by omega]
    go_enter Try.func79, Try.ntmps79
    go_wp2_with fail
    go_ret
    exact ⟨rfl, rfl⟩

set_option maxRecDepth 100000 in
set_option maxHeartbeats 1600000 in
theorem spec_DistanceOf (A B : List Int) (a : Option Addr) (ca : Nat) (b : Option Addr) (cb : Nat) (w : World) (hra : SlV w a (A.map (Value.int .i64))) (hrb : SlV w b (B.map (Value.int .i64))) (hba : A.length ≤ 1048576) (_hbb : B.length ≤ 1048576) :
    Calls Try.prog 25 #[.slice a A.length ca, .slice b B.length cb] w fun e w' => e = .returned (.int .i64 (distN A B)) ∧ Below w.heap.size w w' := by
  have ci := fun (x : Int) w => l1In_any x 0 1000000 w
  by_cases hl : A.length = B.length
  · have hli : ((A.length : Int) == (B.length : Int)) = true := by rw [beq_iff_eq]; omega
    have hln : ((A.length : Int) != (B.length : Int)) = false := by rw [bne, hli]; rfl
    have HLN := Lib.hid hl
    go_enter Try.func25, Try.ntmps25
    go_wp2_with fail
    go_loopw [5, 6, 7] (fun x y i wr => ∃ k : Nat, k ≤ A.length ∧ i = .int .i64 (k : Int) ∧ x = .int .i64 (leftS (A.take k) (B.take k)) ∧ y = .int .i64 (leftS (B.take k) (A.take k)) ∧ Hid ((∀ j (hj : j < k) (hja : j < A.length), 0 ≤ A[j] ∧ A[j] ≤ 1000000) ∧ (∀ j (hj : j < k) (hjb : j < B.length), 0 ≤ B[j] ∧ B[j] ≤ 1000000)) ∧ 0 ≤ leftS (A.take k) (B.take k) ∧ leftS (A.take k) (B.take k) ≤ 1000000 * (k : Int) ∧ 0 ≤ leftS (B.take k) (A.take k) ∧ leftS (B.take k) (A.take k) ≤ 1000000 * (k : Int) ∧ Below w.heap.size w wr) (fun _ _ i _ => A.length - (intOf i).toNat)
    case atStart => exact ⟨0, Nat.zero_le _, rfl, rfl, rfl, Lib.hid ⟨fun j hj _ => by omega, fun j hj _ => by omega⟩, by simp [leftS], by simp [leftS], by simp [leftS], by simp [leftS], Below.refl _ _⟩
    case round =>
      obtain ⟨k, hk, rfl, rfl, rfl, HP, hx0, hx1, hy0, hy1, hbel⟩ := hrel
      by_cases hlt : k < A.length
      · have hlti : (k : Int) < (A.length : Int) := by omega
        obtain ⟨ba, oa, rfl, hbsa, hca⟩ := hra.open (by intro h; rw [List.map_eq_nil_iff] at h; subst h; simp at hlt)
        obtain ⟨bb, ob, rfl, hbsb, hcb⟩ := hrb.open (by intro h; rw [List.map_eq_nil_iff] at h; rw [h] at hl; simp only [List.length_nil] at hl; omega)
        have hltB : k < B.length := by omega
        have hc1 : wr.cell? ⟨ba, oa + k, none⟩ = some (.int .i64 A[k]) := (hbel.cell (p := ⟨ba, oa + k, none⟩) hbsa).trans (hca k _ (by simp [hlt]))
        have hc2 : wr.cell? ⟨bb, ob + k, none⟩ = some (.int .i64 B[k]) := (hbel.cell (p := ⟨bb, ob + k, none⟩) hbsb).trans (hcb k _ (by simp [hltB]))
        have hltBi : (k : Int) < (B.length : Int) := by omega
        have hk0 : (0 : Int) ≤ (k : Int) := by omega
        have hka : k ≤ 1048576 := by omega
        have c1 := fun w => ci A[k] w
        have c2 := fun w => ci B[k] w
        have hma := List.getElem_mem hlt
        have hmb := List.getElem_mem hltB
        have HT1 : Hid (leftS (A.take (k + 1)) (B.take (k + 1)) = leftS (A.take k) (B.take k) + (A[k] - min A[k] B[k])) := Lib.hid (leftS_take HLN.out hlt)
        have HT2 : Hid (leftS (B.take (k + 1)) (A.take (k + 1)) = leftS (B.take k) (A.take k) + (B[k] - min A[k] B[k])) := Lib.hid (by rw [leftS_take HLN.out.symm hltB, show min B[k] A[k] = min A[k] B[k] by omega])
        have HSN : Hid ((0 ≤ A[k] ∧ A[k] ≤ 1000000) → (0 ≤ B[k] ∧ B[k] ≤ 1000000) → (∀ j (hj : j < k + 1) (hja : j < A.length), 0 ≤ A[j] ∧ A[j] ≤ 1000000) ∧ (∀ j (hj : j < k + 1) (hjb : j < B.length), 0 ≤ B[j] ∧ B[j] ≤ 1000000)) := Lib.hid fun h1 h2 => ⟨fun j hj hja => by
          by_cases e : j < k
          · exact HP.out.1 j e hja
          · obtain rfl : j = k := by omega
            exact h1, fun j hj hjb => by
          by_cases e : j < k
          · exact HP.out.2 j e hjb
          · obtain rfl : j = k := by omega
            exact h2⟩
        have HNA : Hid (inB A[k] 0 1000000 = false → distN A B = -1) := Lib.hid fun h => distN_out (by rw [show cntB A = false from List.all_eq_false.2 ⟨A[k], hma, by rw [h]; exact Bool.false_ne_true⟩]; rfl)
        have HNB : Hid (inB B[k] 0 1000000 = false → distN A B = -1) := Lib.hid fun h => distN_out (by rw [show cntB B = false from List.all_eq_false.2 ⟨B[k], hmb, by rw [h]; exact Bool.false_ne_true⟩, Bool.and_false])
        clear hca hcb hra hrb ci hma hmb hl
        generalize leftS (A.take k) (B.take k) = lx at *
        generalize leftS (B.take k) (A.take k) = ly at *
        generalize A[k] = x at *
        generalize B[k] = y at *
        cases hxa : inB x 0 1000000
        · have HR := Lib.hid (HNA.out hxa)
          rw [hxa] at c1
          clear hxa HNA HNB HSN HT1 HT2 HP
          go_wp2_with fail
          refine (c1 _).mono ?_
          rintro e w2 ⟨rfl, hww⟩
          rw [hww]
          clear hww
          go_wp2_with fail
          go_ret
          exact ⟨by rw [HR.out]; rfl, hbel⟩
        · rw [hxa] at c1
          cases hyb : inB y 0 1000000
          · have HR := Lib.hid (HNB.out hyb)
            rw [hyb] at c2
            clear hxa hyb HNA HNB HSN HT1 HT2 HP
            go_wp2_with fail
            refine (c1 _).mono ?_
            rintro e w2 ⟨rfl, hww⟩
            rw [hww]
            clear hww
            go_wp2_with fail
            refine (c2 _).mono ?_
            rintro e w3 ⟨rfl, hww⟩
            rw [hww]
            clear hww
            go_wp2_with fail
            go_ret
            exact ⟨by rw [HR.out]; rfl, hbel⟩
          · rw [hyb] at c2
            obtain ⟨hx2, hx3⟩ := inB_true hxa
            obtain ⟨hy2, hy3⟩ := inB_true hyb
            have HS2 := Lib.hid (HSN.out ⟨hx2, hx3⟩ ⟨hy2, hy3⟩)
            have cm := fun w => l1Min_any x y w
            obtain ⟨m, hm⟩ : ∃ m, m = min x y := ⟨_, rfl⟩
            have hm0 : 0 ≤ m ∧ m ≤ x ∧ m ≤ y := by omega
            rw [← hm] at cm HT1 HT2
            clear hxa hyb HNA HNB HSN HP hm
            go_wp2_with fail
            refine (c1 _).mono ?_
            rintro e w2 ⟨rfl, hww⟩
            rw [hww]
            clear hww c1
            go_wp2_with fail
            refine (c2 _).mono ?_
            rintro e w3 ⟨rfl, hww⟩
            rw [hww]
            clear hww c2
            have hS0 : wr.drew.cell? ⟨ba, oa + k, none⟩ = some (.int .i64 x) ∧ wr.drew.cell? ⟨bb, ob + k, none⟩ = some (.int .i64 y) ∧ Below wr.heap.size wr wr.drew := ⟨hc1, hc2, (Below.refl _ _).drew⟩
            go_wp2_with fail
            refine wp_region_held_drew (S := fun w' => w'.cell? ⟨ba, oa + k, none⟩ = some (.int .i64 x) ∧ w'.cell? ⟨bb, ob + k, none⟩ = some (.int .i64 y) ∧ Below wr.heap.size wr w') (by kernel_rfl) hS0 (fun hHeld => ?_)
            refine held_take 0 _ _ rfl (by kernel_rfl) (by kernel_rfl) (by kernel_rfl) (fun _ _ _ h => h) (by rfl) hHeld (fun w hSw => by (try dsimp only at hSw); go_simp; try with_reducible rfl) ?_
            (try simp only [Act.put, List.setIfInBounds_toArray, List.set_cons_zero, List.set_cons_succ, List.getElem_toArray, List.getElem_cons_zero])
            refine held_take 1 _ _ rfl (by kernel_rfl) (by kernel_rfl) (by kernel_rfl) (fun _ _ _ h => h) (by rfl) hHeld (fun w hSw => by (try dsimp only at hSw); go_simp; try with_reducible rfl) ?_
            (try simp only [Act.put, List.setIfInBounds_toArray, List.set_cons_zero, List.set_cons_succ, List.getElem_toArray, List.getElem_cons_succ, List.getElem_cons_zero])
            refine held_take 2 _ _ rfl (by kernel_rfl) (by kernel_rfl) (by kernel_rfl) (fun _ _ _ h => h) (by rfl) hHeld (fun w hSw => by (try dsimp only at hSw); go_simp; try with_reducible rfl) ?_
            (try simp only [Act.put, List.setIfInBounds_toArray, List.set_cons_zero, List.set_cons_succ, List.getElem_toArray, List.getElem_cons_succ, List.getElem_cons_zero])
            refine held_take 3 _ _ rfl (by kernel_rfl) (by kernel_rfl) (by kernel_rfl) (fun _ _ _ h => h) (by rfl) hHeld (fun w hSw => by (try dsimp only at hSw); go_simp; try with_reducible rfl) ?_
            (try simp only [Act.put, List.setIfInBounds_toArray, List.set_cons_zero, List.set_cons_succ, List.getElem_toArray, List.getElem_cons_succ, List.getElem_cons_zero])
            refine held_take 4 _ _ rfl (by kernel_rfl) (by kernel_rfl) (by kernel_rfl) (fun _ _ _ h => h) (by rfl) hHeld (fun w hSw => by (try dsimp only at hSw); go_simp; try with_reducible rfl) ?_
            (try simp only [Act.put, List.setIfInBounds_toArray, List.set_cons_zero, List.set_cons_succ, List.getElem_toArray, List.getElem_cons_succ, List.getElem_cons_zero])
            refine held_take 5 _ _ rfl (by kernel_rfl) (by kernel_rfl) (by kernel_rfl) (fun _ _ _ h => h) (by rfl) hHeld (fun w hSw => by (try dsimp only at hSw); go_simp; try with_reducible rfl) ?_
            (try simp only [Act.put, List.setIfInBounds_toArray, List.set_cons_zero, List.set_cons_succ, List.getElem_toArray, List.getElem_cons_succ, List.getElem_cons_zero])
            refine held_take 6 _ _ rfl (by kernel_rfl) (by kernel_rfl) (by kernel_rfl) (fun _ _ _ h => h) (by rfl) hHeld (fun w hSw => by (try dsimp only at hSw); go_simp; try with_reducible rfl) ?_
            (try simp only [Act.put, List.setIfInBounds_toArray, List.set_cons_zero, List.set_cons_succ, List.getElem_toArray, List.getElem_cons_succ, List.getElem_cons_zero])
            refine held_take 7 _ _ rfl (by kernel_rfl) (by kernel_rfl) (by kernel_rfl) (fun _ _ _ h => h) (by rfl) hHeld (fun w hSw => by (try dsimp only at hSw); go_simp; try with_reducible rfl) ?_
            (try simp only [Act.put, List.setIfInBounds_toArray, List.set_cons_zero, List.set_cons_succ, List.getElem_toArray, List.getElem_cons_succ, List.getElem_cons_zero])
            refine wpAnyH_ready (rs := [8]) (by kernel_rfl) (by simp) ?_
            refine AllReadyH.cons rfl (fun K hK => ?_) AllReadyH.nil
            rw [if_pos (by rfl)]
            go_wp2_with (first | (go_at_call 79; (with_reducible refine (cm _).mono ?_); rintro e wj ⟨rfl, rfl⟩))
            refine hK.out _ _ (hHeld) (fun hHeld1 => ?_)
            clear hK K
            (try simp only [Act.put, List.setIfInBounds_toArray, List.set_cons_zero, List.set_cons_succ, List.getElem_toArray, List.getElem_cons_succ, List.getElem_cons_zero])
            refine held_take 9 _ _ rfl (by kernel_rfl) (by kernel_rfl) (by kernel_rfl) (fun _ _ _ h => h) (by rfl) hHeld1 (fun w hSw => by (try dsimp only at hSw); go_simp; try with_reducible rfl) ?_
            (try simp only [Act.put, List.setIfInBounds_toArray, List.set_cons_zero, List.set_cons_succ, List.getElem_toArray, List.getElem_cons_succ, List.getElem_cons_zero])
            refine wpAnyH_done (by kernel_rfl) ?_ _
            have hbd := (hHeld1).2.2
            have hcd1 := (hHeld1).1
            have hcd2 := (hHeld1).2.1
            have hbF := hbel.trans (hbd.mono hbel.size)
            have hw1 : IntKind.i64.wrap (lx + x) = lx + x := IntWalk.i64_in _ (by omega)
            have hw2 : IntKind.i64.wrap (lx + x - m) = lx + x - m := IntWalk.i64_in _ (by omega)
            have hw3 : IntKind.i64.wrap (ly + y) = ly + y := IntWalk.i64_in _ (by omega)
            have hw4 : IntKind.i64.wrap (ly + y - m) = ly + y - m := IntWalk.i64_in _ (by omega)
            go_wp2_with fail
            go_roundw
            case rel => exact ⟨k + 1, by omega, by go_num, by rw [HT1.out]; congr 1; omega, by rw [HT2.out]; congr 1; omega, HS2, by rw [HT1.out]; omega, by rw [HT1.out]; omega, by rw [HT2.out]; omega, by rw [HT2.out]; omega, hbF⟩
            case measure => simp [intOf]; omega
      · have hlti : ¬ (k : Int) < (A.length : Int) := by omega
        have hkl : k = A.length := by omega
        have HR : Hid (distN A B = max (leftS (A.take k) (B.take k)) (leftS (B.take k) (A.take k))) := Lib.hid (by
          have e1 : A.take k = A := List.take_of_length_le (by omega)
          have e2 : B.take k = B := List.take_of_length_le (by have := HLN.out; omega)
          rw [e1, e2]
          refine distN_yes HLN.out (cntB_iff.2 fun x hx => ?_) (cntB_iff.2 fun x hx => ?_)
          · obtain ⟨j, hj, rfl⟩ := List.getElem_of_mem hx
            exact HP.out.1 j (by omega) hj
          · obtain ⟨j, hj, rfl⟩ := List.getElem_of_mem hx
            exact HP.out.2 j (by have := HLN.out; omega) hj)
        have cx := fun w => l1Max_any (leftS (A.take k) (B.take k)) (leftS (B.take k) (A.take k)) w
        clear hra hrb ci hl HP hkl
        generalize leftS (A.take k) (B.take k) = lx at *
        generalize leftS (B.take k) (A.take k) = ly at *
        go_wp2_with fail
        refine (cx _).mono ?_
        rintro e w2 ⟨rfl, hww⟩
        rw [hww]
        go_wp2_with fail
        go_ret
        exact ⟨by rw [HR.out]; rfl, hbel⟩
  · have HR := Lib.hid (distN_len hl)
    have hli : ((A.length : Int) == (B.length : Int)) = false := by rw [beq_eq_false_iff_ne]; omega
    have hln : ((A.length : Int) != (B.length : Int)) = true := by rw [bne, hli]; rfl
    clear hra hrb hl ci
    go_enter Try.func25, Try.ntmps25
    go_wp2_with fail
    go_ret
    exact ⟨by rw [HR.out]; rfl, Below.refl _ _⟩
end Go.Proofs.Ytdhnlnfpdpdfgaa
