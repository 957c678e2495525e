/-
  CONTRACTS of chapter 12: DeltaOf (spec). (Own work: mkDel.py.)
-/
import Derived.Test.YthalbmlgkkgheaaL46
import Derived.Test.YthalbmlgkkgheaaRow7
import Derived.Test.YthalbmlgkkgheaaRow4
import Derived.Test.YthalbmlgkkgheaaSgL
import Derived.WalkMore
namespace Go.Proofs.Ythalbmlgkkgheaa
open Go Go.RowKit

set_option maxRecDepth 100000 in
set_option maxHeartbeats 1600000 in
theorem spec_DeltaOf (G : List Int) (n : Int) (a : Option Addr) (cap : Nat) (w : World) (hr : SlV w a (G.map (Value.int .i64))) (hb : G.length ≤ 1048576) :
    Calls Try.prog 20 #[.agg #[.slice a G.length cap], .int .i64 n] w (SlPost (deltaL G n) w) := by
  obtain ⟨i0, hi, hz0, hz1, hz2⟩ := info_parts infoIntL
  obtain ⟨W, hW⟩ : ∃ W, W = (w.alloc (.cells #[.slice a G.length cap] 26)).alloc (.cells #[] 3) := ⟨_, rfl⟩
  have hbW : Below w.heap.size w W := by rw [hW]; exact (box_below _ _).alloc (by simp) _
  have hS : W.ownsRow w.heap.size 3 1 (.slice (some ⟨(w.alloc (.cells #[.slice a G.length cap] 26)).heap.size, 0, none⟩) 0 0) 0 [] := by rw [hW]; exact World.ownsRow_lit _ #[] 0 (by simp) (by simp) rfl
  rw [show (w.alloc (.cells #[.slice a G.length cap] 26)).heap.size = w.heap.size + 1 by simp] at hS
  have hc0 : W.cell? ⟨w.heap.size, 0, none⟩ = some (.slice a G.length cap) := by rw [hW]; exact (World.cell?_alloc_lt _ _ ⟨w.heap.size, 0, none⟩ (by simp)).trans (box_cell w _)
  have c1 := spec_LengthsOf G n a cap W (hr.below hbW) hb
  have HW := Lib.hid hW
  have HLB := Lib.hid (fun (x : Int) (h : x ∈ lenL G n) => lenL_bnd h)
  have hle := lenL_len G n
  have HF : Hid (deltaL G n = sortL (diffsL (lenL G n))) := Lib.hid rfl
  clear hW
  go_enter Try.func20, Try.ntmps20
  go_wp2_with fail
  rw [← HW.out]
  refine c1.mono ?_
  rintro e w1 ⟨v, rfl, ho, hb1⟩
  obtain ⟨a1, k1, rfl, rX⟩ := row_open ho
  have hb01 := hbW.trans (hb1.mono hbW.size)
  have hB0 : Beside1 w W.heap.size w1.heap.size (lenL G n) a1 k1 w1 (.slice (some ⟨w.heap.size + 1, 0, none⟩) 0 0) [] := ⟨owns_below hS hb1, fun b hb => by have := hS.lt b hb; exact .inl this.2, rX, hb01⟩
  have HB0 := Lib.hid hB0
  clear hB0 hS rX ho hb1 hb01 c1 hc0 hr HW hbW
  generalize lenL G n = L at *
  go_wp2_with fail
  go_loopw [5, 7] (fun v i wr => ∃ k : Nat, (k ≤ L.length ∨ k = 1) ∧ 1 ≤ k ∧ i = .int .i64 (k : Int) ∧ Beside1 w W.heap.size w1.heap.size L a1 k1 wr v (diffsK L (k - 1))) (fun _ i _ => L.length - (intOf i).toNat)
  case atStart => exact ⟨1, .inr rfl, Nat.le_refl _, rfl, HB0.out⟩
  case round =>
    clear HB0
    obtain ⟨k, hk, hk1, rfl, hB⟩ := hrel
    have hsz := hB.bel.size
    by_cases hlt : k < L.length
    · obtain ⟨b, o, rfl, hbs, hne, hc⟩ := hB.at (by intro h; rw [h] at hlt; simp at hlt)
      have hx0 : (0 : Int) ≤ (k : Int) := by omega
      have hx1 : (k : Int) < (L.length : Int) := by omega
      have hx2 : (0 : Int) ≤ (k : Int) - 1 := by omega
      have hx4 : (1 : Int) ≤ (k : Int) := by omega
      have hx3 : (k : Int) - 1 < (L.length : Int) := by omega
      have hw1 : IntKind.i64.wrap ((k : Int) - 1) = (k : Int) - 1 := IntWalk.i64_in _ (by omega)
      have ht1 : ((k : Int) - 1).toNat = k - 1 := by omega
      have hk' : k - 1 < L.length := by omega
      have hS0 : wr.drew.cell? ⟨b, o + k, none⟩ = some (.int .i64 L[k]) ∧ wr.drew.cell? ⟨b, o + (k - 1), none⟩ = some (.int .i64 L[k - 1]) := ⟨hc k hlt, hc (k - 1) hk'⟩
      have hX := HLB.out L[k] (List.getElem_mem hlt)
      have hY := HLB.out L[k - 1] (List.getElem_mem hk')
      have HT : Hid (diffsK L (k + 1 - 1) = diffsK L (k - 1) ++ [L[k] - L[k - 1]]) := Lib.hid (by
        obtain ⟨j, rfl⟩ : ∃ j, k = j + 1 := ⟨k - 1, by omega⟩
        exact diffsK_succ (M := L) (k := j) hlt)
      have hMl : (diffsK L (k - 1)).length ≤ 1200 := by rw [diffsK_len]; omega
      generalize L[k] = x at *
      generalize L[k - 1] = y at *
      generalize diffsK L (k - 1) = M at *
      have hw2 : IntKind.i64.wrap (x - y) = x - y := IntWalk.i64_in _ (by omega)
      have HB := Lib.hid hB.drew
      have hown : wr.drew.ownsRow w.heap.size 3 1 _ M.length (M.map (Value.int .i64)) := hB.own
      have hbsd : b < wr.drew.heap.size := hbs
      clear hB hc
      go_wp2_with fail
      refine wp_region_held_drew (S := fun w' => w'.cell? ⟨b, o + k, none⟩ = some (.int .i64 x) ∧ w'.cell? ⟨b, o + (k - 1), none⟩ = some (.int .i64 y)) (by kernel_rfl) hS0 (fun hHeld => ?_)
      refine held_take 0 _ _ rfl (by kernel_rfl) (by kernel_rfl) (by kernel_rfl) (fun _ _ _ h => h) (by rfl) hHeld (fun w hSw => by (try dsimp only at hSw); go_simp; try with_reducible rfl) ?_
      (try simp only [Act.put, List.setIfInBounds_toArray, List.set_cons_zero, List.set_cons_succ, List.getElem_toArray, List.getElem_cons_zero])
      refine held_take 1 _ _ rfl (by kernel_rfl) (by kernel_rfl) (by kernel_rfl) (fun _ _ _ h => h) (by rfl) hHeld (fun w hSw => by (try dsimp only at hSw); go_simp; try with_reducible rfl) ?_
      (try simp only [Act.put, List.setIfInBounds_toArray, List.set_cons_zero, List.set_cons_succ, List.getElem_toArray, List.getElem_cons_succ, List.getElem_cons_zero])
      refine held_take 2 _ _ rfl (by kernel_rfl) (by kernel_rfl) (by kernel_rfl) (fun _ _ _ h => h) (by rfl) hHeld (fun w hSw => by (try dsimp only at hSw); go_simp; try with_reducible rfl) ?_
      (try simp only [Act.put, List.setIfInBounds_toArray, List.set_cons_zero, List.set_cons_succ, List.getElem_toArray, List.getElem_cons_succ, List.getElem_cons_zero])
      refine held_take 3 _ _ rfl (by kernel_rfl) (by kernel_rfl) (by kernel_rfl) (fun _ _ _ h => h) (by rfl) hHeld (fun w hSw => by (try dsimp only at hSw); go_simp; try with_reducible rfl) ?_
      (try simp only [Act.put, List.setIfInBounds_toArray, List.set_cons_zero, List.set_cons_succ, List.getElem_toArray, List.getElem_cons_succ, List.getElem_cons_zero])
      refine held_take 4 _ _ rfl (by kernel_rfl) (by kernel_rfl) (by kernel_rfl) (fun _ _ _ h => h) (by rfl) hHeld (fun w hSw => by (try dsimp only at hSw); go_simp; try with_reducible rfl) ?_
      (try simp only [Act.put, List.setIfInBounds_toArray, List.set_cons_zero, List.set_cons_succ, List.getElem_toArray, List.getElem_cons_succ, List.getElem_cons_zero])
      refine held_take 5 _ _ rfl (by kernel_rfl) (by kernel_rfl) (by kernel_rfl) (fun _ _ _ h => h) (by rfl) hHeld (fun w hSw => by (try dsimp only at hSw); go_simp; try with_reducible rfl) ?_
      (try simp only [Act.put, List.setIfInBounds_toArray, List.set_cons_zero, List.set_cons_succ, List.getElem_toArray, List.getElem_cons_succ, List.getElem_cons_zero])
      refine held_take 6 _ _ rfl (by kernel_rfl) (by kernel_rfl) (by kernel_rfl) (fun _ _ _ h => h) (by rfl) hHeld (fun w hSw => by (try dsimp only at hSw); go_simp; try with_reducible rfl) ?_
      (try simp only [Act.put, List.setIfInBounds_toArray, List.set_cons_zero, List.set_cons_succ, List.getElem_toArray, List.getElem_cons_succ, List.getElem_cons_zero])
      refine held_take 7 _ _ rfl (by kernel_rfl) (by kernel_rfl) (by kernel_rfl) (fun _ _ _ h => h) (by rfl) hHeld (fun w hSw => by (try dsimp only at hSw); go_simp; try with_reducible rfl) ?_
      (try simp only [Act.put, List.setIfInBounds_toArray, List.set_cons_zero, List.set_cons_succ, List.getElem_toArray, List.getElem_cons_succ, List.getElem_cons_zero])
      refine held_take 8 _ _ rfl (by kernel_rfl) (by kernel_rfl) (by kernel_rfl) (fun _ _ _ h => h) (by rfl) hHeld (fun w hSw => by (try dsimp only at hSw); go_simp; try with_reducible rfl) ?_
      (try simp only [Act.put, List.setIfInBounds_toArray, List.set_cons_zero, List.set_cons_succ, List.getElem_toArray, List.getElem_cons_succ, List.getElem_cons_zero])
      refine held_take 9 _ _ rfl (by kernel_rfl) (by kernel_rfl) (by kernel_rfl) (fun _ _ _ h => h) (by rfl) hHeld (fun w hSw => by (try dsimp only at hSw); go_simp; try with_reducible rfl) ?_
      (try simp only [Act.put, List.setIfInBounds_toArray, List.set_cons_zero, List.set_cons_succ, List.getElem_toArray, List.getElem_cons_succ, List.getElem_cons_zero])
      refine held_take 10 _ _ rfl (by kernel_rfl) (by kernel_rfl) (by kernel_rfl) (fun _ _ _ h => h) (by rfl) hHeld (fun w hSw => by (try dsimp only at hSw); go_simp; try with_reducible rfl) ?_
      (try simp only [Act.put, List.setIfInBounds_toArray, List.set_cons_zero, List.set_cons_succ, List.getElem_toArray, List.getElem_cons_succ, List.getElem_cons_zero])
      refine wpAnyH_ready (rs := [11]) (by kernel_rfl) (by simp) ?_
      refine AllReadyH.cons rfl (fun K hK => ?_) AllReadyH.nil
      rw [if_pos (by rfl)]
      have hownA := hown.alloc (.cells #[.int .i64 (x - y)] 3)
      have hszA : w.heap.size ≤ (wr.drew.alloc (.cells #[.int .i64 (x - y)] 3)).heap.size := Nat.le_trans hsz (by rw [World.size_alloc]; exact Nat.le_succ _)
      go_wp2_with fail
      refine hK.out _ _ (keepC hHeld hbsd _) (fun hHeld1 => ?_)
      clear hK K
      (try simp only [Act.put, List.setIfInBounds_toArray, List.set_cons_zero, List.set_cons_succ, List.getElem_toArray, List.getElem_cons_succ, List.getElem_cons_zero])
      refine wpAnyH_ready (rs := [12]) (by kernel_rfl) (by simp) ?_
      refine AllReadyH.cons rfl (fun K hK => ?_) AllReadyH.nil
      rw [if_pos (by rfl)]
      refine wp_append_own_at _ (.tmp 18) (.tmp 29) 24 (by rfl) w.heap.size 3 i0 (Value.int .i64 0) 1 8 Try.underlying24 hi hz0 hz1 hz2 rfl (by decide) _ M.length (M.map (Value.int .i64)) (by rfl) hownA _ 1 _ [.int .i64 (x - y)] (by rfl) rfl (World.news_of_block (cs := #[.int .i64 (x - y)]) (t := 3) (fr := (0, 0)) (heap_alloc_new _ _)) (by simp [Value.oneCell']) (by unfold maxLen; omega) (by omega) hszA ?_; intro v2 w2 hown2 hg2 _ hat2
      have HB2 := Lib.hid (HB.out.grow _ (x - y) hown2 hg2 hat2)
      refine hK.out _ _ (keepGr hHeld1 hg2 hne) (fun hHeld2 => ?_)
      clear hK K
      (try simp only [Act.put, List.setIfInBounds_toArray, List.set_cons_zero, List.set_cons_succ, List.getElem_toArray, List.getElem_cons_succ, List.getElem_cons_zero])
      refine held_take 13 _ _ rfl (by kernel_rfl) (by kernel_rfl) (by kernel_rfl) (fun _ _ _ h => h) (by rfl) hHeld2 (fun w hSw => by (try dsimp only at hSw); go_simp; try with_reducible rfl) ?_
      (try simp only [Act.put, List.setIfInBounds_toArray, List.set_cons_zero, List.set_cons_succ, List.getElem_toArray, List.getElem_cons_succ, List.getElem_cons_zero])
      refine wpAnyH_done (by kernel_rfl) ?_ _
      clear hown hownA hszA hown2 hg2 hat2 HB hS0 hx2 hx3 hw1 ht1 hw2
      go_wp2_with fail
      go_roundw
      case rel => exact ⟨k + 1, .inl (by omega), by omega, by go_num, by rw [HT.out]; exact HB2.out⟩
      case measure => simp [intOf]; omega
    · have hje : k - 1 = L.length - 1 := by omega
      rw [hje, diffs_all] at hB
      have hml : (diffsL L).length ≤ 1201 := by rw [← diffs_all, diffsK_len]; omega
      have hlti : ¬ (k : Int) < (L.length : Int) := by omega
      clear hje
      have hs := sort_of_owns hB.own hB.bel (by omega)
      clear hB
      go_wp2_with fail
      refine hs.mono ?_
      rintro e w' ⟨u, rfl, hp⟩
      go_wp2_with fail
      go_ret
      obtain ⟨g, c, e1, ho, hb⟩ := hp
      injection e1 with e1
      subst e1
      exact ⟨_, rfl, by rw [HF.out]; exact ho, hb⟩
end Go.Proofs.Ythalbmlgkkgheaa
