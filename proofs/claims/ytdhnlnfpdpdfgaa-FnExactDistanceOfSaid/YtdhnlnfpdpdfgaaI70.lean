/-
  CONTRACTS of the program's chapter 13: areCounts, distance, DistanceOf. (Own work: mk70.py.)
-/
import Derived.Test.YtdhnlnfpdpdfgaaSgDs
import Derived.Test.YtdhnlnfpdpdfgaaSgL
namespace Go.Proofs.Ytdhnlnfpdpdfgaa
open Go Go.RowKit

set_option maxRecDepth 100000 in
set_option maxHeartbeats 1600000 in
theorem impl_areCounts (L : List Int) (a : Option Addr) (cap : Nat) (w : World) (hr : SlV w a (L.map (Value.int .i64))) (hb : L.length ≤ 1048576) :
    Calls Try.prog 77 #[.slice a L.length cap] w fun e w' => e = .returned (.bool (cntB L)) ∧ w' = w := by
  go_enter Try.func77, Try.ntmps77
  go_wp2_with fail
  go_loop [7] (fun i => ∃ k : Nat, k ≤ L.length ∧ i = .int .i64 (k : Int) ∧ (L.take k).all (fun x => inB x 0 1000000) = true) (fun i => L.length - (intOf i).toNat)
  case atStart => exact ⟨0, Nat.zero_le _, rfl, by simp⟩
  case round =>
    obtain ⟨k, hk, rfl, hall⟩ := hrel
    have HA := Lib.hid hall
    clear hall
    by_cases hlt : k < L.length
    · obtain ⟨b, off, rfl, hbs, hc⟩ := hr.open (by intro h; rw [List.map_eq_nil_iff] at h; subst h; simp at hlt)
      have hcell : w.cell? ⟨b, off + k, none⟩ = some (.int .i64 L[k]) := hc k _ (by simp [hlt])
      have hlti : (k : Int) < (L.length : Int) := by omega
      have hm := List.getElem_mem hlt
      have HT : Hid (L.take (k + 1) = L.take k ++ [L[k]]) := Lib.hid (by rw [List.take_add_one, List.getElem?_eq_getElem hlt]; rfl)
      have HN : Hid (inB L[k] 0 1000000 = false → cntB L = false) := Lib.hid fun h => List.all_eq_false.2 ⟨L[k], hm, by rw [h]; exact Bool.false_ne_true⟩
      clear hc hr hm
      generalize L[k] = x at *
      by_cases h0 : x < 0
      · have HR := Lib.hid (HN.out (by unfold inB; rw [decide_eq_false (by omega : ¬ 0 ≤ x)]; rfl))
        have hd := decide_eq_true h0
        clear HN HT HA h0
        go_wp2_with fail
        go_ret
        exact ⟨by rw [HR.out]; rfl, rfl⟩
      · have hd := decide_eq_false h0
        by_cases h1 : 1000000 < x
        · have HR := Lib.hid (HN.out (by unfold inB; rw [decide_eq_false (by omega : ¬ x ≤ 1000000), Bool.and_false]))
          have hd1 := decide_eq_true h1
          clear HN HT HA h0 h1
          go_wp2_with fail
          go_ret
          exact ⟨by rw [HR.out]; rfl, rfl⟩
        · have hd1 := decide_eq_false h1
          have HS : Hid ((L.take (k + 1)).all (fun x => inB x 0 1000000) = true) := Lib.hid (by rw [HT.out, List.all_append, HA.out]; simp [inB]; omega)
          clear HN HT HA h0 h1
          go_wp2_with fail
          go_round
          case rel => exact ⟨k + 1, by omega, by go_num, HS.out⟩
          case measure => simp [intOf]; omega
    · obtain rfl : k = L.length := by omega
      have hlti : ¬ ((L.length : Nat) : Int) < (L.length : Int) := by omega
      have HR : Hid (cntB L = true) := Lib.hid (by have := HA.out; rw [List.take_length] at this; exact this)
      clear hr
      go_wp2_with fail
      go_ret
      exact ⟨by rw [HR.out]; rfl, rfl⟩

set_option maxRecDepth 100000 in
set_option maxHeartbeats 1600000 in
theorem impl_distance (A B : List Int) (a : Option Addr) (ca : Nat) (b : Option Addr) (cb : Nat) (w : World) (hra : SlV w a (A.map (Value.int .i64))) (hrb : SlV w b (B.map (Value.int .i64))) (hl : A.length = B.length) (hba : A.length ≤ 1048576) (hA : ∀ x ∈ A, 0 ≤ x ∧ x ≤ 1000000) (hB : ∀ x ∈ B, 0 ≤ x ∧ x ≤ 1000000) :
    Calls Try.prog 78 #[.slice a A.length ca, .slice b B.length cb] w fun e w' => e = .returned (.int .i64 (max (leftS A B) (leftS B A))) ∧ Below w.heap.size w w' := by
  have HLN := Lib.hid hl
  have HA := Lib.hid hA
  have HB := Lib.hid hB
  clear hA hB hl
  go_enter Try.func78, Try.ntmps78
  go_wp2_with fail
  go_loopw [5, 6, 11] (fun x y i wr => ∃ k : Nat, k ≤ A.length ∧ i = .int .i64 (k : Int) ∧ x = .int .i64 (leftS (A.take k) (B.take k)) ∧ y = .int .i64 (leftS (B.take k) (A.take k)) ∧ 0 ≤ leftS (A.take k) (B.take k) ∧ leftS (A.take k) (B.take k) ≤ 1000000 * (k : Int) ∧ 0 ≤ leftS (B.take k) (A.take k) ∧ leftS (B.take k) (A.take k) ≤ 1000000 * (k : Int) ∧ Below w.heap.size w wr) (fun _ _ i _ => A.length - (intOf i).toNat)
  case atStart => exact ⟨0, Nat.zero_le _, rfl, rfl, rfl, by simp [leftS], by simp [leftS], by simp [leftS], by simp [leftS], Below.refl _ _⟩
  case round =>
    obtain ⟨k, hk, rfl, rfl, rfl, hx0, hx1, hy0, hy1, hbel⟩ := hrel
    by_cases hlt : k < A.length
    · have hlti : (k : Int) < (A.length : Int) := by omega
      have hl := HLN.out
      obtain ⟨ba, oa, rfl, hbsa, hca⟩ := hra.open (by intro h; rw [List.map_eq_nil_iff] at h; subst h; simp at hlt)
      obtain ⟨bb, ob, rfl, hbsb, hcb⟩ := hrb.open (by intro h; rw [List.map_eq_nil_iff] at h; rw [h] at hl; simp only [List.length_nil] at hl; omega)
      have hltB : k < B.length := by omega
      have hc1 : wr.cell? ⟨ba, oa + k, none⟩ = some (.int .i64 A[k]) := (hbel.cell (p := ⟨ba, oa + k, none⟩) hbsa).trans (hca k _ (by simp [hlt]))
      have hc2 : wr.cell? ⟨bb, ob + k, none⟩ = some (.int .i64 B[k]) := (hbel.cell (p := ⟨bb, ob + k, none⟩) hbsb).trans (hcb k _ (by simp [hltB]))
      have hltBi : (k : Int) < (B.length : Int) := by omega
      have hk0 : (0 : Int) ≤ (k : Int) := by omega
      have hX := HA.out A[k] (List.getElem_mem hlt)
      have hY := HB.out B[k] (List.getElem_mem hltB)
      have HT1 : Hid (leftS (A.take (k + 1)) (B.take (k + 1)) = leftS (A.take k) (B.take k) + (A[k] - min A[k] B[k])) := Lib.hid (leftS_take HLN.out hlt)
      have HT2 : Hid (leftS (B.take (k + 1)) (A.take (k + 1)) = leftS (B.take k) (A.take k) + (B[k] - min A[k] B[k])) := Lib.hid (by rw [leftS_take HLN.out.symm hltB, show min B[k] A[k] = min A[k] B[k] by omega])
      clear hca hcb hra hrb hl
      generalize leftS (A.take k) (B.take k) = lx at *
      generalize leftS (B.take k) (A.take k) = ly at *
      generalize A[k] = x at *
      generalize B[k] = y at *
      have hS0 : wr.drew.cell? ⟨ba, oa + k, none⟩ = some (.int .i64 x) ∧ wr.drew.cell? ⟨bb, ob + k, none⟩ = some (.int .i64 y) ∧ Below wr.heap.size wr wr.drew := ⟨hc1, hc2, (Below.refl _ _).drew⟩
      clear hc1 hc2
      go_wp2_with fail
      refine wp_region_held_drew (S := fun w' => w'.cell? ⟨ba, oa + k, none⟩ = some (.int .i64 x) ∧ w'.cell? ⟨bb, ob + k, none⟩ = some (.int .i64 y) ∧ Below wr.heap.size wr w') (by kernel_rfl) hS0 (fun hHeld => ?_)
      refine held_take 0 _ _ rfl (by kernel_rfl) (by kernel_rfl) (by kernel_rfl) (fun _ _ _ h => h) (by rfl) hHeld (fun w hSw => by (try dsimp only at hSw); go_simp; try with_reducible rfl) ?_
      (try simp only [Act.put, List.setIfInBounds_toArray, List.set_cons_zero, List.set_cons_succ, List.getElem_toArray, List.getElem_cons_zero])
      refine held_take 1 _ _ rfl (by kernel_rfl) (by kernel_rfl) (by kernel_rfl) (fun _ _ _ h => h) (by rfl) hHeld (fun w hSw => by (try dsimp only at hSw); go_simp; try with_reducible rfl) ?_
      (try simp only [Act.put, List.setIfInBounds_toArray, List.set_cons_zero, List.set_cons_succ, List.getElem_toArray, List.getElem_cons_succ, List.getElem_cons_zero])
      refine held_take 2 _ _ rfl (by kernel_rfl) (by kernel_rfl) (by kernel_rfl) (fun _ _ _ h => h) (by rfl) hHeld (fun w hSw => by (try dsimp only at hSw); go_simp; try with_reducible rfl) ?_
      (try simp only [Act.put, List.setIfInBounds_toArray, List.set_cons_zero, List.set_cons_succ, List.getElem_toArray, List.getElem_cons_succ, List.getElem_cons_zero])
      refine held_take 3 _ _ rfl (by kernel_rfl) (by kernel_rfl) (by kernel_rfl) (fun _ _ _ h => h) (by rfl) hHeld (fun w hSw => by (try dsimp only at hSw); go_simp; try with_reducible rfl) ?_
      (try simp only [Act.put, List.setIfInBounds_toArray, List.set_cons_zero, List.set_cons_succ, List.getElem_toArray, List.getElem_cons_succ, List.getElem_cons_zero])
      refine held_take 4 _ _ rfl (by kernel_rfl) (by kernel_rfl) (by kernel_rfl) (fun _ _ _ h => h) (by rfl) hHeld (fun w hSw => by (try dsimp only at hSw); go_simp; try with_reducible rfl) ?_
      (try simp only [Act.put, List.setIfInBounds_toArray, List.set_cons_zero, List.set_cons_succ, List.getElem_toArray, List.getElem_cons_succ, List.getElem_cons_zero])
      refine held_take 5 _ _ rfl (by kernel_rfl) (by kernel_rfl) (by kernel_rfl) (fun _ _ _ h => h) (by rfl) hHeld (fun w hSw => by (try dsimp only at hSw); go_simp; try with_reducible rfl) ?_
      (try simp only [Act.put, List.setIfInBounds_toArray, List.set_cons_zero, List.set_cons_succ, List.getElem_toArray, List.getElem_cons_succ, List.getElem_cons_zero])
      refine held_take 6 _ _ rfl (by kernel_rfl) (by kernel_rfl) (by kernel_rfl) (fun _ _ _ h => h) (by rfl) hHeld (fun w hSw => by (try dsimp only at hSw); go_simp; try with_reducible rfl) ?_
      (try simp only [Act.put, List.setIfInBounds_toArray, List.set_cons_zero, List.set_cons_succ, List.getElem_toArray, List.getElem_cons_succ, List.getElem_cons_zero])
      refine held_take 7 _ _ rfl (by kernel_rfl) (by kernel_rfl) (by kernel_rfl) (fun _ _ _ h => h) (by rfl) hHeld (fun w hSw => by (try dsimp only at hSw); go_simp; try with_reducible rfl) ?_
      (try simp only [Act.put, List.setIfInBounds_toArray, List.set_cons_zero, List.set_cons_succ, List.getElem_toArray, List.getElem_cons_succ, List.getElem_cons_zero])
      refine held_take 8 _ _ rfl (by kernel_rfl) (by kernel_rfl) (by kernel_rfl) (fun _ _ _ h => h) (by rfl) hHeld (fun w hSw => by (try dsimp only at hSw); go_simp; try with_reducible rfl) ?_
      (try simp only [Act.put, List.setIfInBounds_toArray, List.set_cons_zero, List.set_cons_succ, List.getElem_toArray, List.getElem_cons_succ, List.getElem_cons_zero])
      refine held_take 9 _ _ rfl (by kernel_rfl) (by kernel_rfl) (by kernel_rfl) (fun _ _ _ h => h) (by rfl) hHeld (fun w hSw => by (try dsimp only at hSw); go_simp; try with_reducible rfl) ?_
      (try simp only [Act.put, List.setIfInBounds_toArray, List.set_cons_zero, List.set_cons_succ, List.getElem_toArray, List.getElem_cons_succ, List.getElem_cons_zero])
      refine wpAnyH_done (by kernel_rfl) ?_ _
      have hbd := (hHeld).2.2
      have hcd1 := (hHeld).1
      have hcd2 := (hHeld).2.1
      have hbF := hbel.trans (hbd.mono hbel.size)
      have hw1 : IntKind.i64.wrap (x - min x y) = x - min x y := IntWalk.i64_in _ (by omega)
      have hw2 : IntKind.i64.wrap (lx + (x - min x y)) = lx + (x - min x y) := IntWalk.i64_in _ (by omega)
      have hw3 : IntKind.i64.wrap (y - min x y) = y - min x y := IntWalk.i64_in _ (by omega)
      have hw4 : IntKind.i64.wrap (ly + (y - min x y)) = ly + (y - min x y) := IntWalk.i64_in _ (by omega)
      go_wp2_with fail
      go_roundw
      case rel => exact ⟨k + 1, by omega, by go_num, by rw [HT1.out], by rw [HT2.out], by rw [HT1.out]; omega, by rw [HT1.out]; omega, by rw [HT2.out]; omega, by rw [HT2.out]; omega, hbF⟩
      case measure => simp [intOf]; omega
    · have hlti : ¬ (k : Int) < (A.length : Int) := by omega
      have hkl : k = A.length := by omega
      have HR : Hid (max (leftS A B) (leftS B A) = max (leftS (A.take k) (B.take k)) (leftS (B.take k) (A.take k))) := Lib.hid (by
        have e1 : A.take k = A := List.take_of_length_le (by omega)
        have e2 : B.take k = B := List.take_of_length_le (by have := HLN.out; omega)
        rw [e1, e2])
      have hjd := decide_eq_false hlti
      clear hra hrb hkl
      generalize leftS (A.take k) (B.take k) = lx at *
      generalize leftS (B.take k) (A.take k) = ly at *
      go_wp2_with fail
      go_ret
      exact ⟨by rw [HR.out]; rfl, hbel⟩

set_option maxRecDepth 100000 in
set_option maxHeartbeats 1600000 in
theorem impl_DistanceOf (A B : List Int) (a : Option Addr) (ca : Nat) (b : Option Addr) (cb : Nat) (w : World) (hra : SlV w a (A.map (Value.int .i64))) (hrb : SlV w b (B.map (Value.int .i64))) (hba : A.length ≤ 1048576) (hbb : B.length ≤ 1048576) :
    Calls Try.prog 24 #[.slice a A.length ca, .slice b B.length cb] w fun e w' => e = .returned (.int .i64 (distN A B)) ∧ Below w.heap.size w w' := by
  have c1 := impl_areCounts A a ca w hra hba
  have c2 := impl_areCounts B b cb w hrb hbb
  by_cases hl : A.length = B.length
  · have hli : ((A.length : Int) == (B.length : Int)) = true := by rw [beq_iff_eq]; omega
    have hln : ((A.length : Int) != (B.length : Int)) = false := by rw [bne, hli]; rfl
    cases ha : cntB A
    · have HR := Lib.hid (distN_out (A := A) (B := B) (by rw [ha]; rfl))
      rw [ha] at c1
      clear ha hra hrb hl c2
      go_enter Try.func24, Try.ntmps24
      go_wp2_with fail
      refine c1.mono ?_
      rintro e w1 ⟨rfl, hww⟩
      rw [hww]
      clear hww c1
      go_wp2_with fail
      go_ret
      exact ⟨by rw [HR.out]; rfl, Below.refl _ _⟩
    · rw [ha] at c1
      cases hb : cntB B
      · have HR := Lib.hid (distN_out (A := A) (B := B) (by rw [hb, Bool.and_false]))
        rw [hb] at c2
        clear ha hb hra hrb hl
        go_enter Try.func24, Try.ntmps24
        go_wp2_with fail
        refine c1.mono ?_
        rintro e w1 ⟨rfl, hww⟩
        rw [hww]
        clear hww c1
        go_wp2_with fail
        refine c2.mono ?_
        rintro e w1 ⟨rfl, hww⟩
        rw [hww]
        clear hww c2
        go_wp2_with fail
        go_ret
        exact ⟨by rw [HR.out]; rfl, Below.refl _ _⟩
      · have HR := Lib.hid (distN_yes hl ha hb)
        rw [hb] at c2
        have c3 := impl_distance A B a ca b cb w hra hrb hl hba (cntB_iff.1 ha) (cntB_iff.1 hb)
        clear ha hb hra hrb hl
        go_enter Try.func24, Try.ntmps24
        go_wp2_with fail
        refine c1.mono ?_
        rintro e w1 ⟨rfl, hww⟩
        rw [hww]
        clear hww c1
        go_wp2_with fail
        refine c2.mono ?_
        rintro e w1 ⟨rfl, hww⟩
        rw [hww]
        clear hww c2
        go_wp2_with fail
        refine c3.mono ?_
        rintro e w3 ⟨rfl, hb3⟩
        go_wp2_with fail
        go_ret
        exact ⟨by rw [HR.out]; rfl, hb3⟩
  · have HR := Lib.hid (distN_len hl)
    have hli : ((A.length : Int) == (B.length : Int)) = false := by rw [beq_eq_false_iff_ne]; omega
    have hln : ((A.length : Int) != (B.length : Int)) = true := by rw [bne, hli]; rfl
    clear hra hrb hl c1 c2
    go_enter Try.func24, Try.ntmps24
    go_wp2_with fail
    go_ret
    exact ⟨by rw [HR.out]; rfl, Below.refl _ _⟩
end Go.Proofs.Ytdhnlnfpdpdfgaa
