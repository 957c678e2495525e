/-
  CONTRACTS of the reference's chapter 22: l22Over, IsTelescopic, TelescopicFrobenius. (Own work.)
-/
import Derived.Test.YtipfonpaaebjjaaGreatSgTe
import Derived.Test.YtipfonpaaebjjaaGreatSgL
import Derived.Maps.AppendAt
import Derived.WalkMore
namespace Go.Proofs.YtipfonpaaebjjaaGreat
open Go Go.RowKit
attribute [local go_sem] Oper.semAt_some

set_option maxRecDepth 100000 in
set_option maxHeartbeats 800000 in
theorem spec_l22Over (L : List Int) (d : Int) (a : Option Addr) (cap : Nat) (w : World) (hr : SlV w a (L.map (Value.int .i64))) (hb : L.length ≤ 20) (hL : ∀ x ∈ L, 1 ≤ x ∧ x ≤ 60) (hd : 1 ≤ d) :
    Calls Tryz.prog 55 #[.slice a L.length cap, .int .i64 d] w (SlPost (overL L d) w) := by
  obtain ⟨i0, hi, hz0, hz1, hz2⟩ := info_parts infoIntL
  have HL := Lib.hid hL
  clear hL
  have hd0 : d ≠ 0 := by omega
  have hdz : (d == 0) = false := by rw [beq_eq_false_iff_ne]; exact hd0
  have hO : (w.alloc (.cells #[] 3)).ownsRow w.heap.size 3 1 (.slice (some ⟨w.heap.size, 0, none⟩) 0 0) 0 [] := World.ownsRow_lit w #[] 0 (Nat.le_refl _) (by simp) rfl
  have hB0 := box_below w (.cells #[] 3)
  have HO := Lib.hid hO
  clear hO
  go_enter Tryz.func55, Tryz.ntmps55
  go_wp2_with fail
  go_loopw [5, 6] (fun v i wr => ∃ (k : Nat) (M : List Int), k ≤ L.length ∧ i = .int .i64 (k : Int) ∧ Hid (M = overL (L.take k) d) ∧ M.length = k ∧ wr.ownsRow w.heap.size 3 1 v M.length (M.map (Value.int .i64)) ∧ Below w.heap.size w wr) (fun _ i _ => L.length - (intOf i).toNat)
  case atStart => exact ⟨0, [], Nat.zero_le _, rfl, Lib.hid rfl, rfl, HO.out, hB0⟩
  case round =>
    clear HO hB0
    obtain ⟨k, M, hk, rfl, HM, hMl, hown, hbel⟩ := hrel; have hsz := hbel.size
    by_cases hlt : k < L.length
    · obtain ⟨b, o, rfl, hbs, hc⟩ := (hr.below hbel).open (by intro h; rw [List.map_eq_nil_iff] at h; subst h; simp at hlt)
      have hcell : wr.cell? ⟨b, o + k, none⟩ = some (.int .i64 L[k]) := hc k _ (by simp [hlt])
      have hlti : (k : Int) < (L.length : Int) := by omega
      have hx := HL.out L[k] (List.getElem_mem hlt)
      have HT : Hid (overL (L.take (k + 1)) d = M ++ [L[k] / d]) := Lib.hid (by rw [HM.out]; unfold overL; rw [List.take_add_one, List.getElem?_eq_getElem hlt, List.map_append]; rfl)
      have hq := div_bnd (x := L[k]) (d := d) (b := 60) ⟨by omega, by omega⟩ hd
      have htd : L[k].tdiv d = L[k] / d := Int.tdiv_eq_ediv_of_nonneg (by omega)
      have hw1 : IntKind.i64.wrap (L[k] / d) = L[k] / d := IntWalk.i64_in _ (by omega)
      have hMb : M.length ≤ 20 := by omega
      clear hc HM hr
      generalize L[k] / d = q at *
      generalize L[k] = x at *
      go_wp2_with (at_builtin; refine wpList_append_own _ rfl (.tmp 14) (.tmp 21) 24 rfl w.heap.size 3 i0 (Value.int .i64 0) 1 8 Tryz.underlying24 hi hz0 hz1 hz2 rfl (by decide) _ _ _ rfl (hown.alloc _) ⟨_, 0, none⟩ 1 1 [.int .i64 q] rfl rfl (World.news_of_block (cs := #[.int .i64 q]) (t := 3) (fr := (0, 0)) (heap_alloc_new _ _)) (by simp [Value.oneCell']) (by unfold maxLen; omega) (by omega) (by simp; omega) ?_; intro v6 w6 hown6 hg6 _)
      have hbel6 := (hbel.alloc hbel.size (.cells #[.int .i64 q] 3)).grown hg6 (by simp; omega) (fun j hj => (hown.lt j hj).1)
      have HO := Lib.hid hown6
      clear hown6 hg6 hown
      go_wp2_with fail
      go_roundw
      case rel => exact ⟨k + 1, M ++ [q], by omega, by go_num, Lib.hid HT.out.symm, by rw [List.length_append, List.length_singleton]; omega, by rw [List.length_append, List.length_singleton, List.map_append]; exact HO.out, hbel6⟩
      case measure => simp [intOf]; omega
    · obtain rfl : k = L.length := by omega
      have HE : Hid (overL L d = M) := Lib.hid (by rw [HM.out, List.take_length])
      have hlti : ¬ ((L.length : Nat) : Int) < (L.length : Int) := by omega
      clear HM hr
      go_wp2_with fail
      go_ret
      exact ⟨_, rfl, by rw [HE.out]; exact hown, hbel⟩
end Go.Proofs.YtipfonpaaebjjaaGreat
