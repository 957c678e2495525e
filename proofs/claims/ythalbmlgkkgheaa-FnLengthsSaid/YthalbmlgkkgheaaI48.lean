/-
  CONTRACTS of chapter 12: ElasticityOf (impl). (Own work: mkEla.py.)
-/
import Derived.Test.YthalbmlgkkgheaaI46
import Derived.Test.YthalbmlgkkgheaaI43
import Derived.Test.YthalbmlgkkgheaaSgU
import Derived.Test.YthalbmlgkkgheaaSgL
import Derived.WalkMore
namespace Go.Proofs.Ythalbmlgkkgheaa
open Go Go.RowKit

set_option maxRecDepth 100000 in
set_option maxHeartbeats 1600000 in
theorem impl_ElasticityOf (G : List Int) (n : Int) (a : Option Addr) (cap : Nat) (w : World) (hr : SlV w a (G.map (Value.int .i64))) (hb : G.length ≤ 1048576) :
    Calls Try.prog 13 #[.agg #[.slice a G.length cap], .int .i64 n] w fun e w' => e = .returned (.tuple #[.int .i64 (elaA G n), .int .i64 (elaB G n)]) ∧ Below w.heap.size w w' := by
  obtain ⟨W, hW⟩ : ∃ W, W = w.alloc (.cells #[.slice a G.length cap] 26) := ⟨_, rfl⟩
  have hbW : Below w.heap.size w W := by rw [hW]; exact box_below _ _
  have hc0 : W.cell? ⟨w.heap.size, 0, none⟩ = some (.slice a G.length cap) := by rw [hW]; exact box_cell w _
  have c1 := impl_LengthsOf G n a cap W (hr.below hbW) hb
  have HW := Lib.hid hW
  clear hW
  by_cases hz : (lenL G n).length = 0
  · have HR := Lib.hid (ela_none hz)
    have hlz : (((lenL G n).length : Int) == 0) = true := by rw [beq_iff_eq]; omega
    clear hz hr
    go_enter Try.func13, Try.ntmps13
    go_wp2_with fail
    rw [← HW.out]
    refine c1.mono ?_
    rintro e w1 ⟨v, rfl, ho, hb1⟩
    obtain ⟨a1, k1, rfl, rX⟩ := row_open ho
    have hb01 := hbW.trans (hb1.mono hbW.size)
    clear c1 rX ho hb1 hbW hc0
    generalize (lenL G n).length = m at *
    go_wp2_with fail
    go_ret2
    exact ⟨by rw [HR.out.1, HR.out.2]; rfl, hb01⟩
  · obtain ⟨p, x, y, hp1, hp2, hgp, hg0, hx1, hy1, hRA, hRB, hpos, hzer⟩ := ela_ends hz
    have HR : Hid (elaA G n = lowA x y ∧ elaB G n = lowB x y) := Lib.hid ⟨hRA, hRB⟩
    have cG := fun w => impl_lowestTerms x y w (by omega) (by omega)
    clear hRA hRB hpos hzer
    have HG := Lib.hid (And.intro hgp hg0)
    clear hgp hg0 hr
    have HWP : Hid (IntKind.i64.wrap (((lenL G n).length : Int) - 1) = (p : Int)) := Lib.hid (by rw [IntWalk.i64_in _ (by have := lenL_len G n; omega)]; omega)
    have hpn : (p : Int) < ((lenL G n).length : Int) := by omega
    have hp0 : (0 : Int) ≤ (p : Int) := by omega
    have h0n : (0 : Int) < ((lenL G n).length : Int) := by omega
    have h0n2 : 0 < (lenL G n).length := by omega
    generalize lowA x y = qx at *
    generalize lowB x y = qy at *
    go_enter Try.func13, Try.ntmps13
    go_wp2_with fail
    rw [← HW.out]
    refine c1.mono ?_
    rintro e w1 ⟨v, rfl, ho, hb1⟩
    obtain ⟨a1, k1, rfl, rX⟩ := row_open ho
    have hb01 := hbW.trans (hb1.mono hbW.size)
    obtain ⟨b, off, rfl, hbs, hcl⟩ := rX.slv.open (by intro h; rw [List.map_eq_nil_iff] at h; rw [h] at hz; exact hz rfl)
    have hcx : w1.cell? ⟨b, off + p, none⟩ = some (.int .i64 (x : Int)) := hcl p _ (by rw [List.getElem?_map, HG.out.1]; rfl)
    have hcy : w1.cell? ⟨b, off, none⟩ = some (.int .i64 (y : Int)) := by have := hcl 0 _ (by rw [List.getElem?_map, HG.out.2]; rfl); rwa [Nat.add_zero] at this
    have hwp := HWP.out
    clear c1 rX ho hb1 hbW hc0 hcl HG HWP
    have hlz : (((lenL G n).length : Int) == 0) = false := by rw [beq_eq_false_iff_ne]; omega
    clear hz
    generalize (lenL G n).length = m at *
    have hS0 : w1.drew.cell? ⟨b, off + p, none⟩ = some (.int .i64 (x : Int)) ∧ w1.drew.cell? ⟨b, off, none⟩ = some (.int .i64 (y : Int)) ∧ Below w1.heap.size w1 w1.drew := ⟨hcx, hcy, (Below.refl _ _).drew⟩
    go_wp2_with fail
    refine wp_region_held_drew (S := fun w' => w'.cell? ⟨b, off + p, none⟩ = some (.int .i64 (x : Int)) ∧ w'.cell? ⟨b, off, none⟩ = some (.int .i64 (y : Int)) ∧ Below w1.heap.size w1 w') (by kernel_rfl) hS0 (fun hHeld => ?_)
    refine held_take 0 _ _ rfl (by kernel_rfl) (by kernel_rfl) (by kernel_rfl) (fun _ _ _ h => h) (by rfl) hHeld (fun w hSw => by (try dsimp only at hSw); go_simp; try with_reducible rfl) ?_
    (try simp only [Act.put, List.setIfInBounds_toArray, List.set_cons_zero, List.set_cons_succ, List.getElem_toArray, List.getElem_cons_zero])
    refine held_take 1 _ _ rfl (by kernel_rfl) (by kernel_rfl) (by kernel_rfl) (fun _ _ _ h => h) (by rfl) hHeld (fun w hSw => by (try dsimp only at hSw); go_simp; try with_reducible rfl) ?_
    (try simp only [Act.put, List.setIfInBounds_toArray, List.set_cons_zero, List.set_cons_succ, List.getElem_toArray, List.getElem_cons_succ, List.getElem_cons_zero])
    refine held_take 2 _ _ rfl (by kernel_rfl) (by kernel_rfl) (by kernel_rfl) (fun _ _ _ h => h) (by rfl) hHeld (fun w hSw => by (try dsimp only at hSw); go_simp; try with_reducible rfl) ?_
    (try simp only [Act.put, List.setIfInBounds_toArray, List.set_cons_zero, List.set_cons_succ, List.getElem_toArray, List.getElem_cons_succ, List.getElem_cons_zero])
    refine held_take 3 _ _ rfl (by kernel_rfl) (by kernel_rfl) (by kernel_rfl) (fun _ _ _ h => h) (by rfl) hHeld (fun w hSw => by (try dsimp only at hSw); go_simp; try with_reducible rfl) ?_
    (try simp only [Act.put, List.setIfInBounds_toArray, List.set_cons_zero, List.set_cons_succ, List.getElem_toArray, List.getElem_cons_succ, List.getElem_cons_zero])
    refine held_take 4 _ _ rfl (by kernel_rfl) (by kernel_rfl) (by kernel_rfl) (fun _ _ _ h => h) (by rfl) hHeld (fun w hSw => by (try dsimp only at hSw); go_simp; try with_reducible rfl) ?_
    (try simp only [Act.put, List.setIfInBounds_toArray, List.set_cons_zero, List.set_cons_succ, List.getElem_toArray, List.getElem_cons_succ, List.getElem_cons_zero])
    refine held_take 5 _ _ rfl (by kernel_rfl) (by kernel_rfl) (by kernel_rfl) (fun _ _ _ h => h) (by rfl) hHeld (fun w hSw => by (try dsimp only at hSw); go_simp; try with_reducible rfl) ?_
    (try simp only [Act.put, List.setIfInBounds_toArray, List.set_cons_zero, List.set_cons_succ, List.getElem_toArray, List.getElem_cons_succ, List.getElem_cons_zero])
    refine held_take 6 _ _ rfl (by kernel_rfl) (by kernel_rfl) (by kernel_rfl) (fun _ _ _ h => h) (by rfl) hHeld (fun w hSw => by (try dsimp only at hSw); go_simp; try with_reducible rfl) ?_
    (try simp only [Act.put, List.setIfInBounds_toArray, List.set_cons_zero, List.set_cons_succ, List.getElem_toArray, List.getElem_cons_succ, List.getElem_cons_zero])
    refine held_take 7 _ _ rfl (by kernel_rfl) (by kernel_rfl) (by kernel_rfl) (fun _ _ _ h => h) (by rfl) hHeld (fun w hSw => by (try dsimp only at hSw); go_simp; try with_reducible rfl) ?_
    (try simp only [Act.put, List.setIfInBounds_toArray, List.set_cons_zero, List.set_cons_succ, List.getElem_toArray, List.getElem_cons_succ, List.getElem_cons_zero])
    refine held_take 8 _ _ rfl (by kernel_rfl) (by kernel_rfl) (by kernel_rfl) (fun _ _ _ h => h) (by rfl) hHeld (fun w hSw => by (try dsimp only at hSw); go_simp; try with_reducible rfl) ?_
    (try simp only [Act.put, List.setIfInBounds_toArray, List.set_cons_zero, List.set_cons_succ, List.getElem_toArray, List.getElem_cons_succ, List.getElem_cons_zero])
    refine wpAnyH_ready (rs := [9]) (by kernel_rfl) (by simp) ?_
    refine AllReadyH.cons rfl (fun K hK => ?_) AllReadyH.nil
    rw [if_pos (by rfl)]
    go_wp2_with (first | (go_at_call 39; (with_reducible refine (cG _).mono ?_); rintro e wk ⟨rfl, hbk⟩))
    refine hK.out _ _ (held_keep2 hbs hbs hHeld hbk) (fun hHeld1 => ?_)
    clear hK K
    (try simp only [Act.put, List.setIfInBounds_toArray, List.set_cons_zero, List.set_cons_succ, List.getElem_toArray, List.getElem_cons_succ, List.getElem_cons_zero])
    refine held_take 10 _ _ rfl (by kernel_rfl) (by kernel_rfl) (by kernel_rfl) (fun _ _ _ h => h) (by rfl) hHeld1 (fun w hSw => by (try dsimp only at hSw); go_simp; try with_reducible rfl) ?_
    (try simp only [Act.put, List.setIfInBounds_toArray, List.set_cons_zero, List.set_cons_succ, List.getElem_toArray, List.getElem_cons_succ, List.getElem_cons_zero])
    refine held_take 11 _ _ rfl (by kernel_rfl) (by kernel_rfl) (by kernel_rfl) (fun _ _ _ h => h) (by rfl) hHeld1 (fun w hSw => by (try dsimp only at hSw); go_simp; try with_reducible rfl) ?_
    (try simp only [Act.put, List.setIfInBounds_toArray, List.set_cons_zero, List.set_cons_succ, List.getElem_toArray, List.getElem_cons_succ, List.getElem_cons_zero])
    refine held_take 12 _ _ rfl (by kernel_rfl) (by kernel_rfl) (by kernel_rfl) (fun _ _ _ h => h) (by rfl) hHeld1 (fun w hSw => by (try dsimp only at hSw); go_simp; try with_reducible rfl) ?_
    (try simp only [Act.put, List.setIfInBounds_toArray, List.set_cons_zero, List.set_cons_succ, List.getElem_toArray, List.getElem_cons_succ, List.getElem_cons_zero])
    refine held_take 13 _ _ rfl (by kernel_rfl) (by kernel_rfl) (by kernel_rfl) (fun _ _ _ h => h) (by rfl) hHeld1 (fun w hSw => by (try dsimp only at hSw); go_simp; try with_reducible rfl) ?_
    (try simp only [Act.put, List.setIfInBounds_toArray, List.set_cons_zero, List.set_cons_succ, List.getElem_toArray, List.getElem_cons_succ, List.getElem_cons_zero])
    refine wpAnyH_done (by kernel_rfl) ?_ _
    have hb3 := hb01.trans ((hHeld1.2.2).mono hb01.size)
    clear hS0 hHeld1 cG
    go_wp2_with fail
    go_ret2
    exact ⟨by rw [HR.out.1, HR.out.2]; rfl, hb3⟩
end Go.Proofs.Ythalbmlgkkgheaa
