/-
  CONTRACTS of the laws' helpers toIntS and eqIntS.
-/
import Derived.Test.YtjahmlaocgcjpaaDoorSl
import Derived.WalkKit
import Derived.WalkLawsBesides
import Derived.BigQuiet
import Derived.Deep.QuietTactic
import Derived.Outline
namespace Go.Proofs.YtjahmlaocgcjpaaDoor
open Go Go.RowKit

theorem infoInt : (Tryd.prog.info? 3).map (fun i => (i.zero, i.size, i.bytes)) = some (some (Value.int .i64 0), 1, 8) := by kernel_rfl

set_option maxRecDepth 100000 in
set_option maxHeartbeats 400000 in
/-- toIntS: a new slice with the same elements. -/
theorem toIntS_any (L : List Int) (a : Option Addr) (cap : Nat) (w : World) (hr : SlV w a (L.map (Value.int .i64))) (hb : L.length ≤ 1048576) :
    Calls Tryd.prog 6 #[.slice a L.length cap] w fun e w' => e = .returned (.slice (some ⟨w.heap.size, 0, none⟩) L.length L.length) ∧
      w'.ownsRow w.heap.size 3 1 (.slice (some ⟨w.heap.size, 0, none⟩) L.length L.length) L.length (L.map (Value.int .i64)) ∧ Below w.heap.size w w' := by
  obtain ⟨i0, hi, hz0, hz1, hz2⟩ := info_parts infoInt
  go_enter Tryd.func6, Tryd.ntmps6
  go_wp2_with (at_make; refine wpList_make_full _ rfl _ _ 22 rfl w.heap.size 3 i0 (Value.int .i64 0) 1 Tryd.underlying22 hi hz0 hz1 .i64 .i64 _ _ L.length rfl rfl rfl rfl (by rw [hz2]; omega) (by unfold maxLen; omega) (Nat.le_refl _) ?_; intro w1 hown hgrow)
  have hbel : Below w.heap.size w w1 := (Below.refl _ w).grown hgrow (Nat.le_refl _) (fun k h => by cases h)
  have hown' : w1.ownsRow w.heap.size 3 1 (.slice (some ⟨w.heap.size, 0, none⟩) L.length L.length) L.length (filled (L.map (Value.int .i64)) (Value.int .i64 0) 0) := by
    rw [filled_zero, List.length_map]
    have e : (madeCells (Value.int .i64 0).cells (L.length * 1)).toList = List.replicate L.length (Value.int .i64 0) := by rw [Nat.mul_one]; exact toList_madeCells_one _ _
    rw [← e]; exact hown
  clear hown hgrow hi hz0 hz1 hz2
  go_wp2_with fail
  go_loopw [4] (fun i wr => ∃ k : Nat, k ≤ L.length ∧ i = .int .i64 (k : Int) ∧ wr.ownsRow w.heap.size 3 1 (.slice (some ⟨w.heap.size, 0, none⟩) L.length L.length) L.length (filled (L.map (Value.int .i64)) (Value.int .i64 0) k) ∧ Below w.heap.size w wr) (fun i _ => L.length - (intOf i).toNat)
  case atStart => exact ⟨0, Nat.zero_le _, rfl, hown', hbel⟩
  case round =>
    clear hown' hbel
    obtain ⟨k, hk, rfl, hown, hbel⟩ := hrel
    by_cases hlt : k < L.length
    · obtain ⟨b, off, rfl, hbs, hc⟩ := hr.open (by intro h; rw [List.map_eq_nil_iff] at h; subst h; simp at hlt)
      have hx : (L.map (Value.int .i64))[k]? = some ((Value.int .i64) L[k]) := by simp [hlt]
      have hcell : wr.cell? ⟨b, off + k, none⟩ = some ((Value.int .i64) L[k]) := by rw [hbel.cell (p := ⟨b, off + k, none⟩) hbs]; exact hc k _ hx
      have hst := hown.stored k ((Value.int .i64) L[k])
      rw [filled_set _ _ _ _ hx] at hst
      have HS := Lib.hid hst
      have hlen : (filled (L.map (Value.int .i64)) (Value.int .i64 0) k).length = L.length := by have := hown.1; omega
      obtain ⟨u, hu⟩ : ∃ u, wr.cell? ⟨w.heap.size, k, none⟩ = some u := by
        rw [hown.cellAt k (by omega)]; exact ⟨_, List.getElem?_eq_getElem (by omega)⟩
      have hfz := hown.frozenAt k
      have HB := Lib.hid (hbel.setCell (p := ⟨w.heap.size, k, none⟩) (Nat.le_refl _) ((Value.int .i64) L[k]))
      clear hst hown hlen hx hc hr hbel
      go_wp2
      go_roundw
      case rel => exact ⟨k + 1, by omega, by go_num, HS.out.1, HB.out⟩
      case measure => simp [intOf]; omega
    · obtain rfl : k = L.length := by omega
      have HO := Lib.hid hown
      clear hown hr
      go_wp2
      go_ret
      have h2 := HO.out
      have e := filled_all (L.map (Value.int .i64)) (Value.int .i64 0)
      rw [List.length_map] at e
      rw [e] at h2
      exact ⟨rfl, h2, hbel⟩

set_option maxRecDepth 100000 in
set_option maxHeartbeats 400000 in
/-- eqIntS: whether the two lists are equal. -/
theorem eqIntS_any (L M : List Int) (a c : Option Addr) (cap cap2 : Nat) (w : World) (hr : SlV w a (L.map (Value.int .i64))) (hs : SlV w c (M.map (Value.int .i64))) (hb : L.length ≤ 4611686018427387904) (hb2 : M.length ≤ 4611686018427387904) :
    Calls Tryd.prog 8 #[.slice a L.length cap, .slice c M.length cap2] w fun e w' => e = .returned (.bool (decide (L = M))) ∧ Below w.heap.size w w' := by
  by_cases hlen : L.length = M.length
  · have hne : ((L.length : Int) != (M.length : Int)) = false := by simp [hlen]
    have HL := Lib.hid hlen
    clear hlen
    go_enter Tryd.func8, Tryd.ntmps8
    go_wp2_with fail
    go_loopw [5] (fun i wr => ∃ k : Nat, k ≤ L.length ∧ i = .int .i64 (k : Int) ∧ (∀ j, j < k → L[j]? = M[j]?) ∧ Below w.heap.size w wr) (fun i _ => L.length - (intOf i).toNat)
    case atStart => exact ⟨0, Nat.zero_le _, rfl, fun j h => by omega, Below.refl _ _⟩
    case round =>
      obtain ⟨k, hk, rfl, heq, hbel⟩ := hrel
      have HE := Lib.hid heq
      clear heq
      by_cases hlt : k < L.length
      · have hltM : k < M.length := by have := HL.out; omega
        obtain ⟨b, off, rfl, hbs, hc⟩ := hr.open (by intro h; rw [List.map_eq_nil_iff] at h; subst h; simp at hlt)
        obtain ⟨b2, off2, rfl, hbs2, hc2⟩ := hs.open (by intro h; rw [List.map_eq_nil_iff] at h; subst h; simp at hltM)
        have hcell : wr.cell? ⟨b, off + k, none⟩ = some ((Value.int .i64) L[k]) := by rw [hbel.cell (p := ⟨b, off + k, none⟩) hbs]; exact hc k _ (by simp [hlt])
        have hcell2 : wr.cell? ⟨b2, off2 + k, none⟩ = some ((Value.int .i64) M[k]) := by rw [hbel.cell (p := ⟨b2, off2 + k, none⟩) hbs2]; exact hc2 k _ (by simp [hltM])
        clear hc hc2 hr hs
        have hx0 : (0 : Int) ≤ (k : Int) := by omega
        have hx1 : (k : Int) < (L.length : Int) := by omega
        have hx2 : (k : Int) < (M.length : Int) := by omega
        by_cases he : L[k] = M[k]
        · have HEQ := Lib.hid (show L[k]? = M[k]? by rw [List.getElem?_eq_getElem hlt, List.getElem?_eq_getElem hltM, he])
          rw [← he] at hcell2
          clear he
          generalize L[k] = x at *
          go_wp2_with fail
          go_quiet (fail)
          go_wp2_with fail
          go_roundw
          case rel => exact ⟨k + 1, by omega, by go_num, (fun j hj => by
            by_cases h : j < k
            · exact HE.out j h
            · obtain rfl : j = k := by omega
              exact HEQ.out), by first | exact hbel | exact below_drewN hbel _⟩
          case measure => simp [intOf]; omega
        · have HNE := Lib.hid (decide_eq_false (p := L = M) (fun h => he (by subst h; rfl)))
          have hne2 : (L[k] != M[k]) = true := by rw [bne_iff_ne]; exact he
          clear he
          generalize L[k] = x at *
          generalize M[k] = y at *
          go_wp2_with fail
          go_quiet (fail)
          go_wp2_with fail
          go_ret
          exact ⟨by rw [HNE.out]; rfl, by first | exact hbel | exact below_drewN hbel _⟩
      · obtain rfl : k = L.length := by omega
        have HEQ := Lib.hid (decide_eq_true (p := L = M) (by
          apply List.ext_getElem? 
          intro j
          by_cases hj : j < L.length
          · exact HE.out j hj
          · rw [List.getElem?_eq_none (by omega), List.getElem?_eq_none (by have := HL.out; omega)]))
        clear hr hs
        go_wp2_with fail
        go_ret
        exact ⟨by rw [HEQ.out]; rfl, hbel⟩
  · have hne : ((L.length : Int) != (M.length : Int)) = true := by simp; omega
    have HNE := Lib.hid (decide_eq_false (p := L = M) (fun h => hlen (by rw [h])))
    clear hlen
    go_enter Tryd.func8, Tryd.ntmps8
    go_wp2_with fail
    go_ret
    exact ⟨by rw [HNE.out]; rfl, Below.refl _ _⟩
end Go.Proofs.YtjahmlaocgcjpaaDoor
