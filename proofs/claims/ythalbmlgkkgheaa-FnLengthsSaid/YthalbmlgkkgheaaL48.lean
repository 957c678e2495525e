/-
  CONTRACTS of chapter 12: ElasticityOf (spec). (Own work: mkEla.py.)
-/
import Derived.Test.YthalbmlgkkgheaaL46
import Derived.Test.YthalbmlgkkgheaaSgU
import Derived.Test.YthalbmlgkkgheaaSgU
import Derived.Test.YthalbmlgkkgheaaSgL
import Derived.WalkMore
namespace Go.Proofs.Ythalbmlgkkgheaa
open Go Go.RowKit

set_option maxRecDepth 100000 in
set_option maxHeartbeats 1600000 in
theorem spec_ElasticityOf (G : List Int) (n : Int) (a : Option Addr) (cap : Nat) (w : World) (hr : SlV w a (G.map (Value.int .i64))) (hb : G.length ≤ 1048576) :
    Calls Try.prog 14 #[.agg #[.slice a G.length cap], .int .i64 n] w fun e w' => e = .returned (.tuple #[.int .i64 (elaA G n), .int .i64 (elaB G n)]) ∧ Below w.heap.size w w' := by
  obtain ⟨W, hW⟩ : ∃ W, W = w.alloc (.cells #[.slice a G.length cap] 26) := ⟨_, rfl⟩
  have hbW : Below w.heap.size w W := by rw [hW]; exact box_below _ _
  have hc0 : W.cell? ⟨w.heap.size, 0, none⟩ = some (.slice a G.length cap) := by rw [hW]; exact box_cell w _
  have c1 := spec_LengthsOf G n a cap W (hr.below hbW) hb
  have HW := Lib.hid hW
  clear hW
  by_cases hz : (lenL G n).length = 0
  · have HR := Lib.hid (ela_none hz)
    have hlz : (((lenL G n).length : Int) == 0) = true := by rw [beq_iff_eq]; omega
    clear hz hr
    go_enter Try.func14, Try.ntmps14
    go_wp2_with fail
    rw [← HW.out]
    refine c1.mono ?_
    rintro e w1 ⟨v, rfl, ho, hb1⟩
    obtain ⟨a1, k1, rfl, rX⟩ := row_open ho
    have hb01 := hbW.trans (hb1.mono hbW.size)
    clear c1 rX ho hb1 hbW hc0
    generalize (lenL G n).length = m at *
    go_wp2_with fail
    go_ret2
    exact ⟨by rw [HR.out.1, HR.out.2]; rfl, hb01⟩
  · by_cases hn : n = 0
    · obtain ⟨p, x, y, hp1, hp2, hgp, hg0, hx1, hy1, hRA, hRB, hpos, hzer⟩ := ela_ends hz
      subst hn
      obtain ⟨rfl, rfl⟩ := hzer rfl
      have HR : Hid (elaA G 0 = 0 ∧ elaB G 0 = 0) := Lib.hid ⟨hRA.trans low_zero.1, hRB.trans low_zero.2⟩
      have hlz : (((lenL G 0).length : Int) == 0) = false := by rw [beq_eq_false_iff_ne]; omega
      clear hz hr hgp hg0 hRA hRB hpos hzer hp1 hp2
      go_enter Try.func14, Try.ntmps14
      go_wp2_with fail
      rw [← HW.out]
      refine c1.mono ?_
      rintro e w1 ⟨v, rfl, ho, hb1⟩
      obtain ⟨a1, k1, rfl, rX⟩ := row_open ho
      have hb01 := hbW.trans (hb1.mono hbW.size)
      clear c1 rX ho hb1 hbW hc0
      generalize (lenL G 0).length = m at *
      go_wp2_with fail
      go_ret2
      exact ⟨by rw [HR.out.1, HR.out.2]; rfl, hb01⟩
    · obtain ⟨p, x, y, hp1, hp2, hgp, hg0, hx1, hy1, hRA, hRB, hpos, hzer⟩ := ela_ends hz
      have hx0 := hpos hn
      have hnz : (n == 0) = false := by rw [beq_eq_false_iff_ne]; exact hn
      obtain ⟨d, hd, hd1⟩ := gcd_nat x y
      have hdz : d ≠ 0 := fun e => gcd_pos hx0 (by omega) (by omega : y ≤ 1000000) (by rw [hd, e])
      obtain ⟨hlA, hlB⟩ := low_yes hd hdz
      have hqz : ((d : Int) == 0) = false := by rw [beq_eq_false_iff_ne]; omega
      have hqx := Lib.hid (wrapk x d (by omega))
      have hqy := Lib.hid (wrapk y d (by omega))
      have HR : Hid (elaA G n = ((x / d : Nat) : Int) ∧ elaB G n = ((y / d : Nat) : Int)) := Lib.hid ⟨hRA.trans hlA, hRB.trans hlB⟩
      have cG := fun w => spec_GcdOf (x : Int) (y : Int) w
      rw [hd] at cG
      clear hRA hRB hlA hlB hd hpos hzer hn
      have HG := Lib.hid (And.intro hgp hg0)
      clear hgp hg0 hr
      have HWP : Hid (IntKind.i64.wrap (((lenL G n).length : Int) - 1) = (p : Int)) := Lib.hid (by rw [IntWalk.i64_in _ (by have := lenL_len G n; omega)]; omega)
      have hpn : (p : Int) < ((lenL G n).length : Int) := by omega
      have hp0 : (0 : Int) ≤ (p : Int) := by omega
      have h0n : (0 : Int) < ((lenL G n).length : Int) := by omega
      have h0n2 : 0 < (lenL G n).length := by omega
      generalize x / d = qx at *
      generalize y / d = qy at *
      go_enter Try.func14, Try.ntmps14
      go_wp2_with fail
      rw [← HW.out]
      refine c1.mono ?_
      rintro e w1 ⟨v, rfl, ho, hb1⟩
      obtain ⟨a1, k1, rfl, rX⟩ := row_open ho
      have hb01 := hbW.trans (hb1.mono hbW.size)
      obtain ⟨b, off, rfl, hbs, hcl⟩ := rX.slv.open (by intro h; rw [List.map_eq_nil_iff] at h; rw [h] at hz; exact hz rfl)
      have hcx : w1.cell? ⟨b, off + p, none⟩ = some (.int .i64 (x : Int)) := hcl p _ (by rw [List.getElem?_map, HG.out.1]; rfl)
      have hcy : w1.cell? ⟨b, off, none⟩ = some (.int .i64 (y : Int)) := by have := hcl 0 _ (by rw [List.getElem?_map, HG.out.2]; rfl); rwa [Nat.add_zero] at this
      have hwp := HWP.out
      clear c1 rX ho hb1 hbW hc0 hcl HG HWP
      have hlz : (((lenL G n).length : Int) == 0) = false := by rw [beq_eq_false_iff_ne]; omega
      clear hz
      generalize (lenL G n).length = m at *
      go_wp2_with fail
      refine (cG _).mono ?_
      rintro e w2 ⟨rfl, hww⟩
      subst hww
      clear cG
      have hS0 : Below w2.heap.size w2 w2.drew := (Below.refl _ _).drew
      go_wp2_with fail
      refine wp_region_held_drew (S := fun w' => Below w2.heap.size w2 w') (by kernel_rfl) hS0 (fun hHeld => ?_)
      refine held_take 0 _ _ rfl (by kernel_rfl) (by kernel_rfl) (by kernel_rfl) (fun _ _ _ h => h) (by rfl) hHeld (fun w hSw => by (try dsimp only at hSw); go_simp; try with_reducible rfl) ?_
      (try simp only [Act.put, List.setIfInBounds_toArray, List.set_cons_zero, List.set_cons_succ, List.getElem_toArray, List.getElem_cons_zero])
      refine held_take 1 _ _ rfl (by kernel_rfl) (by kernel_rfl) (by kernel_rfl) (fun _ _ _ h => h) (by rfl) hHeld (fun w hSw => by (try dsimp only at hSw); go_simp; try with_reducible rfl) ?_
      (try simp only [Act.put, List.setIfInBounds_toArray, List.set_cons_zero, List.set_cons_succ, List.getElem_toArray, List.getElem_cons_succ, List.getElem_cons_zero])
      refine held_take 2 _ _ rfl (by kernel_rfl) (by kernel_rfl) (by kernel_rfl) (fun _ _ _ h => h) (by rfl) hHeld (fun w hSw => by (try dsimp only at hSw); go_simp; try with_reducible rfl) ?_
      (try simp only [Act.put, List.setIfInBounds_toArray, List.set_cons_zero, List.set_cons_succ, List.getElem_toArray, List.getElem_cons_succ, List.getElem_cons_zero])
      refine held_take 3 _ _ rfl (by kernel_rfl) (by kernel_rfl) (by kernel_rfl) (fun _ _ _ h => h) (by rfl) hHeld (fun w hSw => by (try dsimp only at hSw); go_simp; try with_reducible rfl) ?_
      (try simp only [Act.put, List.setIfInBounds_toArray, List.set_cons_zero, List.set_cons_succ, List.getElem_toArray, List.getElem_cons_succ, List.getElem_cons_zero])
      refine held_take 4 _ _ rfl (by kernel_rfl) (by kernel_rfl) (by kernel_rfl) (fun _ _ _ h => h) (by rfl) hHeld (fun w hSw => by (try dsimp only at hSw); go_simp; try with_reducible rfl) ?_
      (try simp only [Act.put, List.setIfInBounds_toArray, List.set_cons_zero, List.set_cons_succ, List.getElem_toArray, List.getElem_cons_succ, List.getElem_cons_zero])
      refine held_take 5 _ _ rfl (by kernel_rfl) (by kernel_rfl) (by kernel_rfl) (fun _ _ _ h => h) (by rfl) hHeld (fun w hSw => by (try dsimp only at hSw); go_simp; try with_reducible rfl) ?_
      (try simp only [Act.put, List.setIfInBounds_toArray, List.set_cons_zero, List.set_cons_succ, List.getElem_toArray, List.getElem_cons_succ, List.getElem_cons_zero])
      refine held_take 6 _ _ rfl (by kernel_rfl) (by kernel_rfl) (by kernel_rfl) (fun _ _ _ h => h) (by rfl) hHeld (fun w hSw => by (try dsimp only at hSw); go_simp; try with_reducible rfl) ?_
      (try simp only [Act.put, List.setIfInBounds_toArray, List.set_cons_zero, List.set_cons_succ, List.getElem_toArray, List.getElem_cons_succ, List.getElem_cons_zero])
      refine held_take 7 _ _ rfl (by kernel_rfl) (by kernel_rfl) (by kernel_rfl) (fun _ _ _ h => h) (by rfl) hHeld (fun w hSw => by (try dsimp only at hSw); go_simp; try with_reducible rfl) ?_
      (try simp only [Act.put, List.setIfInBounds_toArray, List.set_cons_zero, List.set_cons_succ, List.getElem_toArray, List.getElem_cons_succ, List.getElem_cons_zero])
      refine wpAnyH_done (by kernel_rfl) ?_ _
      have hb3 := hb01.trans ((hHeld).mono hb01.size)
      clear hS0 hHeld
      go_wp2_with fail
      go_ret2
      exact ⟨by rw [HR.out.1, HR.out.2, ← hqx.out, ← hqy.out]; rfl, hb3⟩
end Go.Proofs.Ythalbmlgkkgheaa
