/-
  CONTRACTS of the program's chapter 12: DeltaSet. (Own work.)
-/
import Derived.Test.YthalbmlgkkgheaaI47
import Derived.Test.YthalbmlgkkgheaaSgR
namespace Go.Proofs.Ythalbmlgkkgheaa
open Go Go.RowKit

set_option maxRecDepth 100000 in
set_option maxHeartbeats 1600000 in
theorem impl_DeltaSet (G : List Int) (x : Int) (a : Option Addr) (cap : Nat) (w : World) (hr : SlV w a (G.map (Value.int .i64))) (hb : G.length ≤ 1048576) :
    Calls Try.prog 21 #[.agg #[.slice a G.length cap], .int .i64 x] w (SlPost (deltasL G x) w) := by
  obtain ⟨i0, hi, hz0, hz1, hz2⟩ := info_parts infoIntL
  obtain ⟨W, hW⟩ : ∃ W, W = w.alloc (.cells #[.slice a G.length cap] 26) := ⟨_, rfl⟩
  have hbW : Below w.heap.size w W := by rw [hW]; exact box_below _ _
  have hc0 : W.cell? ⟨w.heap.size, 0, none⟩ = some (.slice a G.length cap) := by rw [hW]; exact box_cell w _
  have hWs : w.heap.size < W.heap.size := by rw [hW]; simp
  have HW := Lib.hid hW
  clear hW
  cases hx : inB x 0 100
  · have HR := Lib.hid (deltasL_out (G := G) hx)
    by_cases h0 : x < 0
    · clear hx hr hi hz0 hz1 hz2
      go_enter Try.func21, Try.ntmps21
      go_wp2_with fail
      rw [← HW.out]
      go_ret
      exact ⟨_, rfl, by rw [HR.out]; exact World.ownsRow_nil _ _ _ _, hbW⟩
    · have h1 : ¬ x ≤ 100 := by
        intro h; unfold inB at hx; rw [decide_eq_true (by omega : 0 ≤ x), decide_eq_true h] at hx; cases hx
      have h2 : 100 < x := by omega
      have hd0 := decide_eq_false h0
      have hd1 := decide_eq_true h2
      clear hx hr hi hz0 hz1 hz2 h1
      go_enter Try.func21, Try.ntmps21
      go_wp2_with fail
      rw [← HW.out]
      go_ret
      exact ⟨_, rfl, by rw [HR.out]; exact World.ownsRow_nil _ _ _ _, hbW⟩
  · obtain ⟨hx0, hx1⟩ := inB_true hx
    obtain ⟨m, rfl⟩ := Int.eq_ofNat_of_zero_le hx0
    have HR := Lib.hid (deltasL_yes (G := G) hx)
    have hd0 : decide ((m : Int) < 0) = false := decide_eq_false (by omega)
    have hd1 : decide (100 < (m : Int)) = false := decide_eq_false (by omega)
    clear hx
    go_enter Try.func21, Try.ntmps21
    go_wp2_with fail
    rw [← HW.out]
    go_loopw [5, 15] (fun v i wr => ∃ k : Nat, k ≤ m + 1 ∧ i = .int .i64 (k : Int) ∧ wr.ownsRow W.heap.size 3 1 v (upD G k).length ((upD G k).map (Value.int .i64)) ∧ Below W.heap.size W wr) (fun _ i _ => m + 1 - (intOf i).toNat)
    case atStart => exact ⟨0, Nat.zero_le _, rfl, World.ownsRow_nil _ _ _ _, Below.refl _ _⟩
    case round =>
      obtain ⟨k, hk, rfl, hown, hbel⟩ := hrel
      have hsz := hbel.size
      have hul := upD_len G k
      by_cases hlt : k < m + 1
      · have hk0 : wr.cell? ⟨w.heap.size, 0, none⟩ = some (.slice a G.length cap) := (hbel.cell (p := ⟨w.heap.size, 0, none⟩) hWs).trans hc0
        have c1 := impl_DeltaOf G (k : Int) a cap wr (hr.below (hbW.trans (hbel.mono hbW.size))) hb
        have HU := Lib.hid (upD_succ G k)
        have hlti : (k : Int) < (m : Int) + 1 := by omega
        have hdl := deltaL_len G (k : Int)
        generalize upD G k = Q at *
        go_wp2_with fail
        refine c1.mono ?_
        rintro e w1 ⟨u, rfl, ho, hb1⟩
        have hown1 := owns_below hown hb1
        have hbel1 := hbel.trans (hb1.mono hsz)
        have hsz1 := hbel1.size
        have hoc := own_cases ho
        clear c1 ho hown hbel hb1 hk0
        generalize deltaL G (k : Int) = D at *
        rcases hoc with ⟨rfl, hD⟩ | ⟨g1, k1, rfl, hnews⟩
        · obtain rfl := List.eq_nil_of_length_eq_zero hD
          rw [List.append_nil] at HU
          clear hD
          go_wp2_with (at_builtin; refine wpList_append_own_none rfl _ _ 24 rfl W.heap.size 3 i0 1 Try.underlying24 hi _ _ _ rfl hown1 rfl ?_)
          have HO := Lib.hid hown1
          clear hown1
          go_wp2_with fail
          go_roundw
          case rel => exact ⟨k + 1, by omega, by go_num, by rw [HU.out]; exact HO.out, hbel1⟩
          case measure => simp [intOf]; omega
        · go_wp2_with (at_builtin; refine wpList_append_own _ rfl _ _ 24 rfl W.heap.size 3 i0 (Value.int .i64 0) 1 8 Try.underlying24 hi hz0 hz1 hz2 rfl (by decide) _ _ _ rfl hown1 ⟨g1, 0, none⟩ D.length k1 (D.map (Value.int .i64)) rfl (by rw [List.length_map]; omega) hnews (fun u hu => by obtain ⟨x, -, rfl⟩ := List.mem_map.1 hu; rfl) (by unfold maxLen; omega) (by omega) hsz1 ?_; intro v2 w2 hown2 hgrow2 _)
          have hb2 := hbel1.grown hgrow2 hsz1 (fun j hj => (hown1.lt j hj).1)
          have HO : Hid (w2.ownsRow W.heap.size 3 1 v2 (Q ++ D).length ((Q ++ D).map (Value.int .i64))) := Lib.hid (by rw [List.length_append, List.map_append]; exact hown2)
          clear hown1 hown2 hgrow2 hnews hbel1
          go_wp2_with fail
          go_roundw
          case rel => exact ⟨k + 1, by omega, by go_num, by rw [HU.out]; exact HO.out, hb2⟩
          case measure => simp [intOf]; omega
      · obtain rfl : k = m + 1 := by omega
        have hlti : ¬ ((m + 1 : Nat) : Int) < (m : Int) + 1 := by omega
        have hs := impl_sortOnce W.heap.size _ _ wr hown (by omega) hsz
        rw [← HR.out] at hs
        clear hown
        go_wp2_with fail
        refine hs.mono ?_
        rintro e w2 ⟨u, rfl, ho, hb2⟩
        have HO := Lib.hid (ownsBase ho hbW.size)
        have hb3 := hbW.trans ((hbel.trans hb2).mono hbW.size)
        clear hs ho
        go_wp2_with fail
        go_ret
        exact ⟨_, rfl, HO.out, hb3⟩
end Go.Proofs.Ythalbmlgkkgheaa
