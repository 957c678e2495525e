/-
  CONTRACTS of chapter 12: GreatestElasticity (spec). (Own work: mkGr.py.)
-/
import Derived.Test.YthalbmlgkkgheaaCh3L
import Derived.Test.YthalbmlgkkgheaaSgZ
namespace Go.Proofs.Ythalbmlgkkgheaa
open Go Go.RowKit

set_option maxRecDepth 100000 in
set_option maxHeartbeats 1600000 in
theorem spec_GreatestElasticity (G : List Int) (a : Option Addr) (cap : Nat) (w : World) (hr : SlV w a (G.map (Value.int .i64))) (hb : G.length ≤ 1048576) :
    Calls Try.prog 16 #[.agg #[.slice a G.length cap]] w fun e w' => e = .returned (.tuple #[.int .i64 (greatA G), .int .i64 (greatB G)]) ∧ Below w.heap.size w w' := by
  obtain ⟨W, hW⟩ : ∃ W, W = w.alloc (.cells #[.slice a G.length cap] 26) := ⟨_, rfl⟩
  have hbW : Below w.heap.size w W := by rw [hW]; exact box_below _ _
  have hc0 : W.cell? ⟨w.heap.size, 0, none⟩ = some (.slice a G.length cap) := by rw [hW]; exact box_cell w _
  have hWs : w.heap.size < W.heap.size := by rw [hW]; simp
  have HW := Lib.hid hW
  clear hW
  have c1 := spec_IsSemigroup G a cap W (hr.below hbW) hb
  cases hs : isSgB G
  · have HR := Lib.hid (great_no hs)
    rw [hs] at c1
    clear hs hr
    go_enter Try.func16, Try.ntmps16
    go_wp2_with fail
    rw [← HW.out]
    refine c1.mono ?_
    rintro e w1 ⟨rfl, hb1⟩
    have hb01 := hbW.trans (hb1.mono hbW.size)
    go_wp2_with fail
    go_ret2
    exact ⟨by rw [HR.out.1, HR.out.2]; rfl, hb01⟩
  · rw [hs] at c1
    obtain ⟨p, x, y, hp1, hp2, hgp, hg0, hx0, hx1, hy0, hy1, hRA, hRB⟩ := great_ends hs
    clear hs
    obtain ⟨d, hd, hd1⟩ := gcd_nat x y
    have hdz : d ≠ 0 := fun e => gcd_pos hx0 (by omega) (by omega : y ≤ 1000000) (by rw [hd, e])
    obtain ⟨hlA, hlB⟩ := low_yes hd hdz
    have hn : ∃ n, n = G.length := ⟨_, rfl⟩
    obtain ⟨n, hn⟩ := hn
    rw [← hn] at c1 hc0 hb HW hp1 hp2
    rw [← hn]
    obtain ⟨b, off, rfl, hbs, hcl⟩ := hr.open (by intro h; rw [List.map_eq_nil_iff] at h; subst h; simp at hn; omega)
    have HP : Hid (∀ w', Below w.heap.size w w' → w'.cell? ⟨b, off + p, none⟩ = some (.int .i64 (x : Int)) ∧ w'.cell? ⟨b, off, none⟩ = some (.int .i64 (y : Int))) := Lib.hid fun w' h => ⟨(h.cell (p := ⟨b, off + p, none⟩) hbs).trans (hcl p _ (by rw [List.getElem?_map, hgp]; rfl)), (h.cell (p := ⟨b, off, none⟩) hbs).trans (by have := hcl 0 _ (by rw [List.getElem?_map, hg0]; rfl); rwa [Nat.add_zero] at this)⟩
    have hwp : IntKind.i64.wrap ((n : Int) - 1) = (p : Int) := by rw [IntWalk.i64_in _ (by omega)]; omega
    have hpn : (p : Int) < (n : Int) := by omega
    have hp0 : (0 : Int) ≤ (p : Int) := by omega
    have h0n : (0 : Int) < (n : Int) := by omega
    have h0n2 : 0 < n := by omega
    have hqz : ((d : Int) == 0) = false := by rw [beq_eq_false_iff_ne]; omega
    have hqx := Lib.hid (wrapk x d (by omega))
    have hqy := Lib.hid (wrapk y d (by omega))
    have HR : Hid (greatA G = ((x / d : Nat) : Int) ∧ greatB G = ((y / d : Nat) : Int)) := Lib.hid ⟨hRA.trans hlA, hRB.trans hlB⟩
    have cG := fun w => spec_GcdOf (x : Int) (y : Int) w
    rw [hd] at cG
    clear hn hgp hg0 hRA hRB hlA hlB hd hr hcl
    generalize x / d = qx at *
    generalize y / d = qy at *
    go_enter Try.func16, Try.ntmps16
    go_wp2_with fail
    rw [← HW.out]
    refine c1.mono ?_
    rintro e w1 ⟨rfl, hb1⟩
    have hb01 := hbW.trans (hb1.mono hbW.size)
    have hk1 : w1.cell? ⟨w.heap.size, 0, none⟩ = some (.slice (some ⟨b, off, none⟩) n cap) := by rw [hb1.cell (p := ⟨w.heap.size, 0, none⟩) hWs]; exact hc0
    have hz1 : w.heap.size < w1.heap.size := Nat.lt_of_lt_of_le hWs hb1.size
    clear c1 hb1 hc0 hWs hbW
    obtain ⟨hcx, hcy⟩ := HP.out w1 hb01
    have hl1 : b < w1.heap.size := Nat.lt_of_lt_of_le hbs hb01.size
    clear HP
    go_wp2_with fail
    refine (cG _).mono ?_
    rintro e w2 ⟨rfl, hww⟩
    subst hww
    clear cG
    have hS0 : Below w2.heap.size w2 w2.drew := (Below.refl _ _).drew
    go_wp2_with fail
    refine wp_region_held_drew (S := fun w' => Below w2.heap.size w2 w') (by kernel_rfl) hS0 (fun hHeld => ?_)
    refine held_take 0 _ _ rfl (by kernel_rfl) (by kernel_rfl) (by kernel_rfl) (fun _ _ _ h => h) (by rfl) hHeld (fun w hSw => by (try dsimp only at hSw); go_simp; try with_reducible rfl) ?_
    (try simp only [Act.put, List.setIfInBounds_toArray, List.set_cons_zero, List.set_cons_succ, List.getElem_toArray, List.getElem_cons_zero])
    refine held_take 1 _ _ rfl (by kernel_rfl) (by kernel_rfl) (by kernel_rfl) (fun _ _ _ h => h) (by rfl) hHeld (fun w hSw => by (try dsimp only at hSw); go_simp; try with_reducible rfl) ?_
    (try simp only [Act.put, List.setIfInBounds_toArray, List.set_cons_zero, List.set_cons_succ, List.getElem_toArray, List.getElem_cons_succ, List.getElem_cons_zero])
    refine held_take 2 _ _ rfl (by kernel_rfl) (by kernel_rfl) (by kernel_rfl) (fun _ _ _ h => h) (by rfl) hHeld (fun w hSw => by (try dsimp only at hSw); go_simp; try with_reducible rfl) ?_
    (try simp only [Act.put, List.setIfInBounds_toArray, List.set_cons_zero, List.set_cons_succ, List.getElem_toArray, List.getElem_cons_succ, List.getElem_cons_zero])
    refine held_take 3 _ _ rfl (by kernel_rfl) (by kernel_rfl) (by kernel_rfl) (fun _ _ _ h => h) (by rfl) hHeld (fun w hSw => by (try dsimp only at hSw); go_simp; try with_reducible rfl) ?_
    (try simp only [Act.put, List.setIfInBounds_toArray, List.set_cons_zero, List.set_cons_succ, List.getElem_toArray, List.getElem_cons_succ, List.getElem_cons_zero])
    refine held_take 4 _ _ rfl (by kernel_rfl) (by kernel_rfl) (by kernel_rfl) (fun _ _ _ h => h) (by rfl) hHeld (fun w hSw => by (try dsimp only at hSw); go_simp; try with_reducible rfl) ?_
    (try simp only [Act.put, List.setIfInBounds_toArray, List.set_cons_zero, List.set_cons_succ, List.getElem_toArray, List.getElem_cons_succ, List.getElem_cons_zero])
    refine held_take 5 _ _ rfl (by kernel_rfl) (by kernel_rfl) (by kernel_rfl) (fun _ _ _ h => h) (by rfl) hHeld (fun w hSw => by (try dsimp only at hSw); go_simp; try with_reducible rfl) ?_
    (try simp only [Act.put, List.setIfInBounds_toArray, List.set_cons_zero, List.set_cons_succ, List.getElem_toArray, List.getElem_cons_succ, List.getElem_cons_zero])
    refine held_take 6 _ _ rfl (by kernel_rfl) (by kernel_rfl) (by kernel_rfl) (fun _ _ _ h => h) (by rfl) hHeld (fun w hSw => by (try dsimp only at hSw); go_simp; try with_reducible rfl) ?_
    (try simp only [Act.put, List.setIfInBounds_toArray, List.set_cons_zero, List.set_cons_succ, List.getElem_toArray, List.getElem_cons_succ, List.getElem_cons_zero])
    refine held_take 7 _ _ rfl (by kernel_rfl) (by kernel_rfl) (by kernel_rfl) (fun _ _ _ h => h) (by rfl) hHeld (fun w hSw => by (try dsimp only at hSw); go_simp; try with_reducible rfl) ?_
    (try simp only [Act.put, List.setIfInBounds_toArray, List.set_cons_zero, List.set_cons_succ, List.getElem_toArray, List.getElem_cons_succ, List.getElem_cons_zero])
    refine wpAnyH_done (by kernel_rfl) ?_ _
    have hb3 := hb01.trans ((hHeld).mono hb01.size)
    clear hS0 hHeld
    go_wp2_with fail
    go_ret2
    exact ⟨by rw [HR.out.1, HR.out.2, ← hqx.out, ← hqy.out]; rfl, hb3⟩
end Go.Proofs.Ythalbmlgkkgheaa
