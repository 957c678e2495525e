/-
  CONTRACTS of the program's chapter 3, first part: areListed, markFurther, with, has.
-/
import Derived.Test.YtdjjagpecbflnaaGreatDoorSgN
import Derived.Test.YtdjjagpecbflnaaGreatDoorArr
namespace Go.Proofs.YtdjjagpecbflnaaGreatDoor
open Go Go.RowKit

set_option maxRecDepth 100000 in
set_option maxHeartbeats 400000 in
theorem impl_areListed (L : List Int) (a : Option Addr) (cap : Nat) (w : World) (hr : SlV w a (L.map (Value.int .i64))) (hb : L.length ≤ 1048576) :
    Calls Tryz.prog 67 #[.slice a L.length cap] w fun e w' => e = .returned (.bool (okG L)) ∧ w' = w := by
  by_cases h0 : L.length = 0
  · have HR : Hid (okG L = false) := Lib.hid (by rw [Bool.eq_false_iff]; intro h; have := (okG_iff.1 h).2.1; omega)
    have hi0 : ((L.length : Int) == 0) = true := by rw [h0]; rfl
    clear hr h0
    go_enter Tryz.func67, Tryz.ntmps67
    go_wp2_with fail
    go_ret
    exact ⟨by rw [HR.out]; rfl, rfl⟩
  · have hi0 : ((L.length : Int) == 0) = false := by rw [beq_eq_false_iff_ne]; omega
    by_cases h20 : L.length ≤ 20
    · have hi1 : ¬ 20 < (L.length : Int) := by omega
      go_enter Tryz.func67, Tryz.ntmps67
      go_wp2_with fail
      go_loop [15] (fun i => ∃ k : Nat, k ≤ L.length ∧ i = .int .i64 (k : Int) ∧ ∀ x ∈ L.take k, 1 ≤ x ∧ x ≤ 60) (fun i => L.length - (intOf i).toNat)
      case atStart => exact ⟨0, Nat.zero_le _, rfl, by simp⟩
      case round =>
        obtain ⟨k, hk, rfl, hal⟩ := hrel
        have HA := Lib.hid hal
        clear hal
        by_cases hlt : k < L.length
        · obtain ⟨b, off, rfl, hbs, hc⟩ := hr.open (by intro h; rw [List.map_eq_nil_iff] at h; subst h; simp at hlt)
          have hcell : w.cell? ⟨b, off + k, none⟩ = some (.int .i64 L[k]) := hc k _ (by simp [hlt])
          have HT : Hid (L.take (k + 1) = L.take k ++ [L[k]]) := Lib.hid (by rw [List.take_add_one, List.getElem?_eq_getElem hlt]; rfl)
          have HM := Lib.hid (List.getElem_mem hlt)
          clear hc hr
          by_cases hlo : L[k] < 1
          · have HR : Hid (okG L = false) := Lib.hid (by rw [Bool.eq_false_iff]; intro h; have := ((okG_iff.1 h).1 _ HM.out).1; omega)
            clear HM HT
            generalize L[k] = x at *
            go_wp2_with fail
            go_ret
            exact ⟨by rw [HR.out]; rfl, rfl⟩
          · by_cases hhi : 60 < L[k]
            · have HR : Hid (okG L = false) := Lib.hid (by rw [Bool.eq_false_iff]; intro h; have := ((okG_iff.1 h).1 _ HM.out).2; omega)
              clear HM HT
              generalize L[k] = x at *
              go_wp2_with fail
              go_ret
              exact ⟨by rw [HR.out]; rfl, rfl⟩
            · have HN : Hid (∀ x ∈ L.take (k + 1), 1 ≤ x ∧ x ≤ 60) := Lib.hid (by
                rw [HT.out]
                intro x hx
                rcases List.mem_append.1 hx with hx | hx
                · exact HA.out x hx
                · obtain rfl := List.mem_singleton.1 hx
                  omega)
              clear HM HT
              generalize L[k] = x at *
              go_wp2_with fail
              go_round
              case rel => exact ⟨k + 1, by omega, by go_num, HN.out⟩
              case measure => simp [intOf]; omega
        · obtain rfl : k = L.length := by omega
          have HR : Hid (okG L = true) := Lib.hid (okG_iff.2 ⟨by have := HA.out; rwa [List.take_of_length_le (Nat.le_refl _)] at this, by omega, h20⟩)
          clear hr
          go_wp2_with fail
          go_ret
          exact ⟨by rw [HR.out]; rfl, rfl⟩
    · have HR : Hid (okG L = false) := Lib.hid (by rw [Bool.eq_false_iff]; intro h; have := (okG_iff.1 h).2.2; omega)
      have hi1 : 20 < (L.length : Int) := by omega
      clear hr h0 h20
      go_enter Tryz.func67, Tryz.ntmps67
      go_wp2_with fail
      go_ret
      exact ⟨by rw [HR.out]; rfl, rfl⟩

/-! ### Tables of bools -/
def tabB (f : Nat → Bool) (T : Nat) : List Value := ((List.range T).map f).map Value.bool
theorem tabB_length (f : Nat → Bool) (T : Nat) : (tabB f T).length = T := by simp [tabB]
theorem tabB_get (f : Nat → Bool) (T j : Nat) (hj : j < T) : (tabB f T)[j]? = some (.bool (f j)) := by
  unfold tabB
  rw [List.getElem?_map, List.getElem?_map, List.getElem?_range hj]; rfl
theorem tabB_congr {f g : Nat → Bool} {T : Nat} (h : ∀ j, j < T → f j = g j) : tabB f T = tabB g T := by
  unfold tabB
  rw [List.map_map, List.map_map]
  exact List.map_congr_left fun j hj => by have := h j (List.mem_range.1 hj); simp [this]
theorem tabB_set {f : Nat → Bool} {T m : Nat} {b : Bool} : (tabB f T).set m (.bool b) = tabB (fun j => if j = m then b else f j) T := by
  apply List.ext_getElem?
  intro j
  by_cases hj : j < T
  · rw [List.getElem?_set, tabB_get (fun j => if j = m then b else f j) T j hj]
    by_cases e : m = j
    · subst e; rw [if_pos rfl, if_pos (by rw [tabB_length]; exact hj), if_pos rfl]
    · rw [if_neg e, tabB_get f T j hj, if_neg (Ne.symm e)]
  · rw [List.getElem?_eq_none (by rw [List.length_set, tabB_length]; omega), List.getElem?_eq_none (by rw [tabB_length]; omega)]
theorem tabB_one (f : Nat → Bool) (T : Nat) : ∀ v ∈ tabB f T, v.oneCell' = true := by
  intro v hv
  obtain ⟨b, -, rfl⟩ := List.mem_map.1 hv
  rfl

set_option maxRecDepth 100000 in
set_option maxHeartbeats 800000 in
/-- markFurther: the cells from x on, each with the help of those before it. -/
theorem impl_markFurther (f F : Nat → Bool) (g t T n cap x : Nat) (w : World) (ha : Arr w g t (tabB f T)) (hn : n ≤ T) (hT : T ≤ 100000) (hx : 1 ≤ x) (hx6 : x ≤ 60)
    (hlo : ∀ j, j < x → j < T → F j = f j) (hmid : ∀ j, x ≤ j → j < n → F j = (f j || F (j - x))) (hhi : ∀ j, n ≤ j → j < T → F j = f j) :
    Calls Tryz.prog 94 #[.slice (some ⟨g, 0, none⟩) n cap, .int .i64 (x : Int)] w fun e w' => e = .returned (.tuple #[]) ∧ Arr w' g t (tabB F T) ∧ w.grownBy w' (some g) := by
  have HLO := Lib.hid hlo
  have HMID := Lib.hid hmid
  have HHI := Lib.hid hhi
  have HA := Lib.hid ha
  clear hlo hmid hhi ha
  go_enter Tryz.func94, Tryz.ntmps94
  go_wp2_with fail
  go_loopw [4] (fun i wr => ∃ m : Nat, x ≤ m ∧ m ≤ 100060 ∧ i = .int .i64 (m : Int) ∧ Arr wr g t (tabB (fun j => if j < m then F j else f j) T) ∧ w.grownBy wr (some g)) (fun i _ => n - (intOf i).toNat)
  case atStart =>
    refine ⟨x, Nat.le_refl _, by omega, rfl, ?_, grownBy_refl _ _⟩
    rw [tabB_congr (g := f)]
    · exact HA.out
    · intro j hj
      by_cases h : j < x
      · rw [if_pos h]; exact HLO.out j h hj
      · rw [if_neg h]
  case round =>
    clear HA
    obtain ⟨m, hm, hmb, rfl, ha, hg⟩ := hrel
    have HA := Lib.hid ha
    have HG := Lib.hid hg
    by_cases hlt : m < n
    · have hc1 : wr.cell? ⟨g, m, none⟩ = some (.bool (f m)) := by rw [ha.cell, tabB_get _ T m (by omega), if_neg (by omega)]
      have hf1 : wr.frozen? ⟨g, m, none⟩ = false := ha.frozen m
      obtain ⟨j, hj⟩ : ∃ j : Nat, j = m - x := ⟨_, rfl⟩
      have hc2 : wr.cell? ⟨g, j, none⟩ = some (.bool (F j)) := by rw [ha.cell, tabB_get _ T j (by omega), if_pos (by omega)]
      have hF := HMID.out m hm hlt
      rw [← hj] at hF
      have hst := ha.set m (.bool (F m))
      rw [tabB_set, tabB_congr (g := fun j => if j < m + 1 then F j else f j) (fun j _ => by
        by_cases e : j = m
        · subst e; rw [if_pos rfl, if_pos (by omega)]
        · rw [if_neg e]
          by_cases e2 : j < m
          · rw [if_pos e2, if_pos (by omega)]
          · rw [if_neg e2, if_neg (by omega)])] at hst
      have hgs := grownBy_trans hg (grownBy_setCell wr g m (.bool (F m)))
      have HST := Lib.hid hst
      have HGS := Lib.hid hgs
      have hw1 : IntKind.i64.wrap ((m : Int) - (x : Int)) = (j : Int) := by rw [IntWalk.i64_in _ (by omega)]; omega
      have hj0 : (0 : Int) ≤ (j : Int) := by omega
      have hj1 : (j : Int) < (n : Int) := by omega
      have hm0 : (0 : Int) ≤ (m : Int) := by omega
      have hm1 : (m : Int) < (n : Int) := by omega
      clear ha hg hst hgs hj
      cases hfm : f m
      · rw [hfm] at hc1 hF
        rw [Bool.false_or] at hF
        rw [hF] at HST HGS
        clear hfm hF
        generalize F j = b at *
        go_wp2_with fail
        go_roundw
        case rel => exact ⟨m + 1, by omega, by omega, by go_num, HST.out, HGS.out⟩
        case measure => simp [intOf]; omega
      · rw [hfm] at hc1 hF
        rw [Bool.true_or] at hF
        rw [hF] at HST HGS
        clear hfm hF
        go_wp2_with fail
        go_roundw
        case rel => exact ⟨m + 1, by omega, by omega, by go_num, HST.out, HGS.out⟩
        case measure => simp [intOf]; omega
    · have hE : tabB (fun j => if j < m then F j else f j) T = tabB F T := tabB_congr fun j hj => by
        by_cases e : j < m
        · rw [if_pos e]
        · rw [if_neg e]; exact (HHI.out j (by omega) hj).symm
      rw [hE] at ha
      have HA2 := Lib.hid ha
      have hnl : ¬ (m : Int) < (n : Int) := by omega
      clear ha hg hE HA
      go_wp2_with fail
      exact bodyPost_end (results_none rfl _ _ _) rfl ⟨rfl, HA2.out, HG.out⟩
end Go.Proofs.YtdjjagpecbflnaaGreatDoor
