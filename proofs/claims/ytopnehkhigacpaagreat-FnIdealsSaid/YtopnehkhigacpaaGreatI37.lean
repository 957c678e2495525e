/-
  ExceedingOf of the program. (Own work: mkE10.py.)
-/
import Derived.Test.YtopnehkhigacpaaGreatL37
import Derived.Test.YtopnehkhigacpaaGreatI36
import Derived.Test.YtopnehkhigacpaaGreatI23
namespace Go.Proofs.YtopnehkhigacpaaGreat
open Go Go.RowKit

set_option maxRecDepth 100000 in
set_option maxHeartbeats 1600000 in
theorem impl_ExceedingOf (G : List Int) (n : Int) (a : Option Addr) (cap : Nat) (w : World) (hr : SlV w a (G.map (Value.int .i64))) (hb : G.length ≤ 1048576) (lo : -9223372036854775808 ≤ n) (hi : n ≤ 9223372036854775807) :
    Calls Tryz.prog 36 #[.agg #[.slice a G.length cap], .int .i64 n] w (SlPost (excL G n) w) := by
  obtain ⟨W, hW⟩ : ∃ W, W = w.alloc (.cells #[.slice a G.length cap] 26) := ⟨_, rfl⟩
  have hbW : Below w.heap.size w W := by rw [hW]; exact box_below _ _
  have hc0 : W.cell? ⟨w.heap.size, 0, none⟩ = some (.slice a G.length cap) := by rw [hW]; exact box_cell w _
  have hWs : w.heap.size < W.heap.size := by rw [hW]; simp
  have HW := Lib.hid hW
  clear hW
  have HE : Hid (excL G n = (topL G (aperyL G n) false).map fun x => x - n) := Lib.hid rfl
  have HB := Lib.hid (exc_bnd (G := G) (n := n))
  have hlen := exc_len G n
  have hS0 : W.drew.cell? ⟨w.heap.size, 0, none⟩ = some (.slice a G.length cap) ∧ Below W.heap.size W W.drew := ⟨hc0, (Below.refl _ _).drew⟩
  go_enter Tryz.func36, Tryz.ntmps36
  go_wp2_with fail
  rw [← HW.out]
  refine wp_region_held_drew (S := fun w' => w'.cell? ⟨w.heap.size, 0, none⟩ = some (.slice a G.length cap) ∧ Below W.heap.size W w') (by kernel_rfl) hS0 (fun hHeld => ?_)
  refine held_take 0 _ _ rfl (by kernel_rfl) (by kernel_rfl) (by kernel_rfl) (fun _ _ _ h => h) (by rfl) hHeld (fun w hSw => by (try dsimp only at hSw); go_simp; try with_reducible rfl) ?_
  (try simp only [Act.put, List.setIfInBounds_toArray, List.set_cons_zero, List.set_cons_succ, List.getElem_toArray, List.getElem_cons_zero])
  refine held_take 1 _ _ rfl (by kernel_rfl) (by kernel_rfl) (by kernel_rfl) (fun _ _ _ h => h) (by rfl) hHeld (fun w hSw => by (try dsimp only at hSw); go_simp; try with_reducible rfl) ?_
  (try simp only [Act.put, List.setIfInBounds_toArray, List.set_cons_zero, List.set_cons_succ, List.getElem_toArray, List.getElem_cons_succ, List.getElem_cons_zero])
  refine held_take 2 _ _ rfl (by kernel_rfl) (by kernel_rfl) (by kernel_rfl) (fun _ _ _ h => h) (by rfl) hHeld (fun w hSw => by (try dsimp only at hSw); go_simp; try with_reducible rfl) ?_
  (try simp only [Act.put, List.setIfInBounds_toArray, List.set_cons_zero, List.set_cons_succ, List.getElem_toArray, List.getElem_cons_succ, List.getElem_cons_zero])
  refine wpAnyH_ready (rs := [3]) (by kernel_rfl) (by simp) ?_
  refine AllReadyH.cons rfl (fun K hK => ?_) AllReadyH.nil
  rw [if_pos (by rfl)]
  go_wp2_with (first | (go_at_call 73; (with_reducible refine (impl_AperySet G n a cap _ (hr.below (hbW.trans ((hHeld.2).mono hbW.size))) hb lo hi).mono ?_); rintro e w1 ⟨v1, rfl, ho1, hb1⟩; obtain ⟨a1, k1, rfl, rX1⟩ := row_open ho1; have hs1 := rX1.slv; clear ho1 rX1))
  refine hK.out _ _ (keep9 hWs hHeld hb1) (fun hHeld1 => ?_)
  clear hK K
  (try simp only [Act.put, List.setIfInBounds_toArray, List.set_cons_zero, List.set_cons_succ, List.getElem_toArray, List.getElem_cons_succ, List.getElem_cons_zero])
  refine wpAnyH_ready (rs := [4]) (by kernel_rfl) (by simp) ?_
  refine AllReadyH.cons rfl (fun K hK => ?_) AllReadyH.nil
  rw [if_pos (by rfl)]
  go_wp2_with (first | (go_at_call 72; (with_reducible refine (impl_MaximalOf G (aperyL G n) a cap a1 k1 _ (hr.below (hbW.trans ((hHeld1.2).mono hbW.size))) hs1 hb (by have := aperyL_len_le G n; omega)).mono ?_); rintro e w2 ⟨v2, rfl, ho2, hb2⟩))
  refine hK.out _ _ (keep9 hWs hHeld1 hb2) (fun hHeld2 => ?_)
  clear hK K
  (try simp only [Act.put, List.setIfInBounds_toArray, List.set_cons_zero, List.set_cons_succ, List.getElem_toArray, List.getElem_cons_succ, List.getElem_cons_zero])
  refine held_take 5 _ _ rfl (by kernel_rfl) (by kernel_rfl) (by kernel_rfl) (fun _ _ _ h => h) (by rfl) hHeld2 (fun w hSw => by (try dsimp only at hSw); go_simp; try with_reducible rfl) ?_
  (try simp only [Act.put, List.setIfInBounds_toArray, List.set_cons_zero, List.set_cons_succ, List.getElem_toArray, List.getElem_cons_succ, List.getElem_cons_zero])
  refine wpAnyH_done (by kernel_rfl) ?_ _
  have hBz := hHeld2.2
  clear hS0 hHeld2 hs1 hc0 hr
  have hb02 := hbW.trans (hBz.mono hbW.size)
  have HM := Lib.hid (rfl : topL G (aperyL G n) false = topL G (aperyL G n) false)
  generalize topL G (aperyL G n) false = M at *
  clear HM
  obtain ⟨base, hbase⟩ : ∃ b, b = w1.heap.size := ⟨_, rfl⟩
  rw [← hbase] at ho2
  have hbw : w.heap.size ≤ base := by rw [hbase]; exact Nat.le_trans hbW.size (Nat.le_trans (by first | exact hb1.size | exact Nat.le_refl _) (Nat.le_refl _))
  clear hbase hb1 hb2 hBz hWs hbW
  obtain ⟨av, cv, rfl, rv⟩ := row_open ho2
  clear rv
  go_wp2_with fail
  go_loopw [14] (fun i wr => ∃ k : Nat, k ≤ M.length ∧ i = .int .i64 (k : Int) ∧ wr.ownsRow base 3 1 (.slice av M.length cv) M.length ((lessC M n k).map (Value.int .i64)) ∧ Below w.heap.size w wr) (fun i _ => M.length - (intOf i).toNat)
  case atStart => exact ⟨0, Nat.zero_le _, rfl, by rw [lessC_zero]; exact ho2, hb02⟩
  case round =>
    clear ho2 hb02
    obtain ⟨k, hk, rfl, hown, hbel⟩ := hrel
    by_cases hlt : k < M.length
    · have hlti : (k : Int) < (M.length : Int) := by omega
      have hk0 : (0 : Int) ≤ (k : Int) := by omega
      obtain ⟨g, cp, e0, hg, hgl, hnc, hcm, -, hH⟩ := Lib.holds_of_ownsRow hown (by intro h; injection h with _ h2 _; omega)
      cases e0
      obtain ⟨hcell, hfr⟩ := hH k (by simp [lessC_length]; omega)
      have hgk : (lessC M n k).toArray[k]! = M[k] := by rw [getElem!_def]; simp [lessC_at n hlt]
      rw [hgk, Nat.zero_add] at hcell
      rw [Nat.zero_add] at hfr
      obtain ⟨hx0, hx1, hn0, hn1⟩ := HB.out M[k] (List.getElem_mem hlt)
      have HL := Lib.hid (lessC_set n hlt)
      have hp := owns_put hown k (.int .i64 (M[k] - n))
      rw [← List.map_set, HL.out] at hp
      have HP := Lib.hid hp
      have hb3 := hbel.setCell (p := ⟨g, k, none⟩) (show w.heap.size ≤ g by omega) (.int .i64 (M[k] - n))
      clear hH hgk HL hown hp
      generalize M[k] = x at *
      have hwx : IntKind.i64.wrap (x - n) = x - n := IntWalk.i64_in _ (by omega)
      go_wp2_with fail
      go_roundw
      case rel => exact ⟨k + 1, by omega, by go_num, HP.out, hb3⟩
      case measure => simp [intOf]; omega
    · obtain rfl : k = M.length := by omega
      rw [lessC_all] at hown
      have hlm : (M.map fun x => x - n).length = M.length := List.length_map _
      go_wp2_with fail
      go_ret
      exact ⟨_, rfl, by rw [HE.out, hlm]; exact owns_wider hown hbw, hbel⟩
end Go.Proofs.YtopnehkhigacpaaGreat
