/-
  ExceedingOf of the reference. (Own work: mkE10.py.)
-/
import Derived.Test.YtclhpggejppadaaL36
import Derived.Test.YtclhpggejppadaaL19
import Derived.Test.YtclhpggejppadaaHta
namespace Go.Proofs.Ytclhpggejppadaa
open Go Go.RowKit

theorem owns_put {w : World} {base : Nat} {e : TypeId} {g n cap : Nat} {xs : List Value} (h : w.ownsRow base e 1 (.slice (some ⟨g, 0, none⟩) n cap) n xs) (j : Nat) (u : Value) :
    (w.setCell ⟨g, j, none⟩ u).ownsRow base e 1 (.slice (some ⟨g, 0, none⟩) n cap) n (xs.set j u) := by
  obtain ⟨hx, hv | ⟨g', cap', cur, hv, h1, h2, h3, h4, h5, h6⟩⟩ := h
  · cases hv.1
  · injection hv with hv hv2 hv3
    injection hv with hv
    injection hv with hv
    subst hv hv3
    refine ⟨by rw [List.length_set]; exact hx, .inr ⟨g, cap, cur.setIfInBounds j u, rfl, h1, heap_setCell_same w g j cur e u h2, h3, h4, by rw [Array.size_setIfInBounds]; exact h5, ?_⟩⟩
    rw [Array.toList_setIfInBounds, List.take_set, h6]
/-- A list of which the first k numbers are less by n already. -/
def lessC (M : List Int) (n : Int) (k : Nat) : List Int := (M.take k).map (fun x => x - n) ++ M.drop k
theorem lessC_zero (M : List Int) (n : Int) : lessC M n 0 = M := by simp [lessC]
theorem lessC_all (M : List Int) (n : Int) : lessC M n M.length = M.map (fun x => x - n) := by simp [lessC]
theorem lessC_length (M : List Int) (n : Int) (k : Nat) : (lessC M n k).length = M.length := by simp [lessC]; omega
theorem lessC_at {M : List Int} (n : Int) {k : Nat} (hk : k < M.length) : (lessC M n k)[k]? = some M[k] := by
  unfold lessC
  rw [List.getElem?_append_right (by simp; omega)]
  simp [Nat.min_eq_left (Nat.le_of_lt hk), hk]
theorem lessC_set {M : List Int} (n : Int) {k : Nat} (hk : k < M.length) : (lessC M n k).set k (M[k] - n) = lessC M n (k + 1) := by
  apply List.ext_getElem?
  intro j
  rw [List.getElem?_set]
  unfold lessC
  by_cases hj : k = j
  · subst hj
    rw [if_pos rfl, if_pos (by simp; omega), List.getElem?_append_left (by simp; omega), List.getElem?_map, List.getElem?_take_of_lt (by omega), List.getElem?_eq_getElem hk]; rfl
  · rw [if_neg hj]
    rcases Nat.lt_or_ge j k with h | h
    · rw [List.getElem?_append_left (by simp; omega), List.getElem?_append_left (by simp; omega), List.getElem?_map, List.getElem?_map, List.getElem?_take_of_lt h, List.getElem?_take_of_lt (by omega)]
    · rw [List.getElem?_append_right (by simp; omega), List.getElem?_append_right (by simp; omega), List.getElem?_drop, List.getElem?_drop]
      simp only [List.length_map, List.length_take]
      congr 1; omega
theorem exc_bnd {G : List Int} {n : Int} : ∀ x ∈ topL G (aperyL G n) false, 0 ≤ x ∧ x ≤ 260 ∧ 1 ≤ n ∧ n ≤ 60 := by
  intro x hx
  rcases aperyL_cases G n with h | ⟨N, rfl, hA, he⟩
  · rw [h] at hx
    have := topL_len G [] false
    cases ht : topL G [] false with
    | nil => rw [ht] at hx; cases hx
    | cons a l => rw [ht] at this; simp at this
  · have h1 := ((mem_topL hA.sg (aperyL_small _)).1 hx).1
    obtain ⟨i, hi, rfl⟩ := List.getElem_of_mem h1
    have hl := aperyL_length hA
    obtain ⟨y, h2, -, -, h3, -⟩ := aperyL_at hA i (by omega)
    rw [List.getElem?_eq_getElem hi] at h2
    have hp := hA.pos
    have hle := hA.le
    rw [Option.some.inj h2]
    omega
theorem exc_len (G : List Int) (n : Int) : (topL G (aperyL G n) false).length ≤ 60 := Nat.le_trans (topL_len _ _ _) (aperyL_len_le G n)

set_option maxRecDepth 100000 in
set_option maxHeartbeats 1600000 in
theorem spec_ExceedingOf (G : List Int) (n : Int) (a : Option Addr) (cap : Nat) (w : World) (hr : SlV w a (G.map (Value.int .i64))) (hb : G.length ≤ 1048576) :
    Calls Try.prog 17 #[.agg #[.slice a G.length cap], .int .i64 n] w (SlPost (excL G n) w) := by
  obtain ⟨W, hW⟩ : ∃ W, W = w.alloc (.cells #[.slice a G.length cap] 26) := ⟨_, rfl⟩
  have hbW : Below w.heap.size w W := by rw [hW]; exact box_below _ _
  have hc0 : W.cell? ⟨w.heap.size, 0, none⟩ = some (.slice a G.length cap) := by rw [hW]; exact box_cell w _
  have hWs : w.heap.size < W.heap.size := by rw [hW]; simp
  have HW := Lib.hid hW
  clear hW
  have HE : Hid (excL G n = (topL G (aperyL G n) false).map fun x => x - n) := Lib.hid rfl
  have HB := Lib.hid (exc_bnd (G := G) (n := n))
  have hlen := exc_len G n
  have hS0 : W.drew.cell? ⟨w.heap.size, 0, none⟩ = some (.slice a G.length cap) ∧ Below W.heap.size W W.drew := ⟨hc0, (Below.refl _ _).drew⟩
  go_enter Try.func17, Try.ntmps17
  go_wp2_with fail
  rw [← HW.out]
  refine wp_region_held_drew (S := fun w' => w'.cell? ⟨w.heap.size, 0, none⟩ = some (.slice a G.length cap) ∧ Below W.heap.size W w') (by kernel_rfl) hS0 (fun hHeld => ?_)
  refine held_take 0 _ _ rfl (by kernel_rfl) (by kernel_rfl) (by kernel_rfl) (fun _ _ _ h => h) (by rfl) hHeld (fun w hSw => by (try dsimp only at hSw); go_simp; try with_reducible rfl) ?_
  (try simp only [Act.put, List.setIfInBounds_toArray, List.set_cons_zero, List.set_cons_succ, List.getElem_toArray, List.getElem_cons_zero])
  refine held_take 1 _ _ rfl (by kernel_rfl) (by kernel_rfl) (by kernel_rfl) (fun _ _ _ h => h) (by rfl) hHeld (fun w hSw => by (try dsimp only at hSw); go_simp; try with_reducible rfl) ?_
  (try simp only [Act.put, List.setIfInBounds_toArray, List.set_cons_zero, List.set_cons_succ, List.getElem_toArray, List.getElem_cons_succ, List.getElem_cons_zero])
  refine held_take 2 _ _ rfl (by kernel_rfl) (by kernel_rfl) (by kernel_rfl) (fun _ _ _ h => h) (by rfl) hHeld (fun w hSw => by (try dsimp only at hSw); go_simp; try with_reducible rfl) ?_
  (try simp only [Act.put, List.setIfInBounds_toArray, List.set_cons_zero, List.set_cons_succ, List.getElem_toArray, List.getElem_cons_succ, List.getElem_cons_zero])
  refine wpAnyH_ready (rs := [3]) (by kernel_rfl) (by simp) ?_
  refine AllReadyH.cons rfl (fun K hK => ?_) AllReadyH.nil
  rw [if_pos (by rfl)]
  go_wp2_with (first | (go_at_call 44; (with_reducible refine (spec_AperySet G n a cap _ (hr.below (hbW.trans ((hHeld.2).mono hbW.size))) hb).mono ?_); rintro e w1 ⟨v1, rfl, ho1, hb1⟩; obtain ⟨a1, k1, rfl, rX1⟩ := row_open ho1; have hs1 := rX1.slv; clear ho1 rX1))
  refine hK.out _ _ (keep9 hWs hHeld hb1) (fun hHeld1 => ?_)
  clear hK K
  (try simp only [Act.put, List.setIfInBounds_toArray, List.set_cons_zero, List.set_cons_succ, List.getElem_toArray, List.getElem_cons_succ, List.getElem_cons_zero])
  refine wpAnyH_ready (rs := [4]) (by kernel_rfl) (by simp) ?_
  refine AllReadyH.cons rfl (fun K hK => ?_) AllReadyH.nil
  rw [if_pos (by rfl)]
  go_wp2_with (first | (go_at_call 18; (with_reducible refine (spec_MaximalOf G (aperyL G n) a cap a1 k1 _ (hr.below (hbW.trans ((hHeld1.2).mono hbW.size))) hs1 hb (by have := aperyL_len_le G n; omega)).mono ?_); rintro e w2 ⟨v2, rfl, ho2, hb2⟩))
  refine hK.out _ _ (keep9 hWs hHeld1 hb2) (fun hHeld2 => ?_)
  clear hK K
  (try simp only [Act.put, List.setIfInBounds_toArray, List.set_cons_zero, List.set_cons_succ, List.getElem_toArray, List.getElem_cons_succ, List.getElem_cons_zero])
  refine held_take 5 _ _ rfl (by kernel_rfl) (by kernel_rfl) (by kernel_rfl) (fun _ _ _ h => h) (by rfl) hHeld2 (fun w hSw => by (try dsimp only at hSw); go_simp; try with_reducible rfl) ?_
  (try simp only [Act.put, List.setIfInBounds_toArray, List.set_cons_zero, List.set_cons_succ, List.getElem_toArray, List.getElem_cons_succ, List.getElem_cons_zero])
  refine wpAnyH_done (by kernel_rfl) ?_ _
  have hBz := hHeld2.2
  clear hS0 hHeld2 hs1 hc0 hr
  have hb02 := hbW.trans (hBz.mono hbW.size)
  have HM := Lib.hid (rfl : topL G (aperyL G n) false = topL G (aperyL G n) false)
  generalize topL G (aperyL G n) false = M at *
  clear HM
  obtain ⟨base, hbase⟩ : ∃ b, b = w1.heap.size := ⟨_, rfl⟩
  rw [← hbase] at ho2
  have hbw : w.heap.size ≤ base := by rw [hbase]; exact Nat.le_trans hbW.size (Nat.le_trans (by first | exact hb1.size | exact Nat.le_refl _) (Nat.le_refl _))
  clear hbase hb1 hb2 hBz hWs hbW
  obtain ⟨av, cv, rfl, rv⟩ := row_open ho2
  clear rv
  go_wp2_with fail
  go_loopw [6] (fun i wr => ∃ k : Nat, k ≤ M.length ∧ i = .int .i64 (k : Int) ∧ wr.ownsRow base 3 1 (.slice av M.length cv) M.length ((lessC M n k).map (Value.int .i64)) ∧ Below w.heap.size w wr) (fun i _ => M.length - (intOf i).toNat)
  case atStart => exact ⟨0, Nat.zero_le _, rfl, by rw [lessC_zero]; exact ho2, hb02⟩
  case round =>
    clear ho2 hb02
    obtain ⟨k, hk, rfl, hown, hbel⟩ := hrel
    by_cases hlt : k < M.length
    · have hlti : (k : Int) < (M.length : Int) := by omega
      have hk0 : (0 : Int) ≤ (k : Int) := by omega
      obtain ⟨g, cp, e0, hg, hgl, hnc, hcm, -, hH⟩ := Lib.holds_of_ownsRow hown (by intro h; injection h with _ h2 _; omega)
      cases e0
      obtain ⟨hcell, hfr⟩ := hH k (by simp [lessC_length]; omega)
      have hgk : (lessC M n k).toArray[k]! = M[k] := by rw [getElem!_def]; simp [lessC_at n hlt]
      rw [hgk, Nat.zero_add] at hcell
      rw [Nat.zero_add] at hfr
      obtain ⟨hx0, hx1, hn0, hn1⟩ := HB.out M[k] (List.getElem_mem hlt)
      have HL := Lib.hid (lessC_set n hlt)
      have hp := owns_put hown k (.int .i64 (M[k] - n))
      rw [← List.map_set, HL.out] at hp
      have HP := Lib.hid hp
      have hb3 := hbel.setCell (p := ⟨g, k, none⟩) (show w.heap.size ≤ g by omega) (.int .i64 (M[k] - n))
      clear hH hgk HL hown hp
      generalize M[k] = x at *
      have hwx : IntKind.i64.wrap (x - n) = x - n := IntWalk.i64_in _ (by omega)
      go_wp2_with fail
      go_roundw
      case rel => exact ⟨k + 1, by omega, by go_num, HP.out, hb3⟩
      case measure => simp [intOf]; omega
    · obtain rfl : k = M.length := by omega
      rw [lessC_all] at hown
      have hlm : (M.map fun x => x - n).length = M.length := List.length_map _
      go_wp2_with fail
      go_ret
      exact ⟨_, rfl, by rw [HE.out, hlm]; exact owns_wider hown hbw, hbel⟩
end Go.Proofs.Ytclhpggejppadaa
