/-
  CONTRACTS of the reference's chapter 3, first half: l3Table, l3Gens.
-/
import Derived.Test.YtdjjagpecbflnaaGreatDoorSgM
import Derived.Test.YtdjjagpecbflnaaGreatDoorKitA
namespace Go.Proofs.YtdjjagpecbflnaaGreatDoor
open Go Go.RowKit

/-- The table while number n is worked on: below n it is right, at n it holds b, behind it nothing yet. -/
noncomputable def tabF (G : List Int) (n : Nat) (b : Bool) (M : Nat) : List Value := (List.range M).map fun j => Value.bool (if j < n then sumB G j else if j = n then b else false)
theorem tabF_length (G : List Int) (n : Nat) (b : Bool) (M : Nat) : (tabF G n b M).length = M := by simp [tabF]
theorem tabF_get (G : List Int) (n : Nat) (b : Bool) (M j : Nat) (hj : j < M) : (tabF G n b M)[j]? = some (Value.bool (if j < n then sumB G j else if j = n then b else false)) := by
  unfold tabF
  rw [List.getElem?_map, List.getElem?_range hj]
  rfl
theorem tabF_set (G : List Int) (n : Nat) (b : Bool) (M : Nat) (_hn : n < M) : (tabF G n b M).set n (.bool true) = tabF G n true M := by
  apply List.ext_getElem?
  intro j
  by_cases hj : j < M
  · rw [List.getElem?_set, tabF_get G n true M j hj]
    by_cases e : n = j
    · subst e
      rw [if_pos rfl, if_pos (by rw [tabF_length]; exact hj), if_neg (by omega), if_pos rfl]
    · rw [if_neg e, tabF_get G n b M j hj]
      by_cases h1 : j < n
      · rw [if_pos h1, if_pos h1]
      · rw [if_neg h1, if_neg h1, if_neg (Ne.symm e), if_neg (Ne.symm e)]
  · rw [List.getElem?_eq_none (by rw [List.length_set, tabF_length]; omega), List.getElem?_eq_none (by rw [tabF_length]; omega)]
theorem tabF_next (G : List Int) (n : Nat) (M : Nat) : tabF G n (sumB G n) M = tabF G (n + 1) false M := by
  unfold tabF
  apply List.map_congr_left
  intro j _
  by_cases h1 : j < n
  · rw [if_pos h1, if_pos (by omega)]
  · by_cases h2 : j = n
    · subst h2
      rw [if_neg h1, if_pos rfl, if_pos (by omega)]
    · rw [if_neg h1, if_neg h2, if_neg (by omega)]
      split <;> rfl
theorem tabF_start (G : List Int) (M : Nat) : (List.replicate (M + 1) (Value.bool false)).set 0 (.bool true) = tabF G 1 false (M + 1) := by
  apply List.ext_getElem?
  intro j
  by_cases hj : j < M + 1
  · rw [tabF_get G 1 false (M + 1) j hj, List.getElem?_set]
    by_cases e : 0 = j
    · subst e
      rw [if_pos rfl, if_pos (by simp), if_pos (by omega), sumB_zero]
    · rw [if_neg e, if_neg (by omega), List.getElem?_replicate, if_pos hj]
      split <;> rfl
  · rw [List.getElem?_eq_none (by rw [List.length_set, List.length_replicate]; omega), List.getElem?_eq_none (by rw [tabF_length]; omega)]
/-- The finished table. -/
noncomputable def tabL (G : List Int) (M : Nat) : List Value := (List.range M).map fun j => Value.bool (sumB G j)
theorem tabF_all (G : List Int) (M : Nat) : tabF G M false M = tabL G M := by
  unfold tabF tabL
  apply List.map_congr_left
  intro j hj
  rw [if_pos (List.mem_range.1 hj)]
/-- What the first generators tell of n. -/
noncomputable def partB (G : List Int) (n k : Nat) : Bool := (G.take k).any fun x => decide (x ≤ (n : Int)) && sumB G (n - x.toNat)
theorem partB_zero (G : List Int) (n : Nat) : partB G n 0 = false := by simp [partB]
theorem partB_succ (G : List Int) (n k : Nat) (h : k < G.length) : partB G n (k + 1) = (partB G n k || (decide (G[k] ≤ (n : Int)) && sumB G (n - (G[k]).toNat))) := by
  unfold partB
  rw [List.take_add_one, List.getElem?_eq_getElem h, List.any_append]
  simp
theorem partB_all (G : List Int) (hG : Pos G) (n : Nat) (hn : 1 ≤ n) : partB G n G.length = sumB G n := by
  unfold partB
  rw [List.take_of_length_le (Nat.le_refl _), Bool.eq_iff_iff, List.any_eq_true, sumB_iff, isSum_step hn]
  constructor
  · rintro ⟨x, hx, h⟩
    rw [Bool.and_eq_true, decide_eq_true_eq, sumB_iff] at h
    have h1 := hG x hx
    refine ⟨x.toNat, by rw [Int.toNat_of_nonneg (by omega)]; exact hx, by omega, h.2⟩
  · rintro ⟨g, hg, hle, h⟩
    exact ⟨(g : Int), hg, by rw [Bool.and_eq_true, decide_eq_true_eq, sumB_iff]; exact ⟨by omega, by simpa using h⟩⟩

theorem infoBool : (Tryz.prog.info? 4).map (fun i => (i.zero, i.size, i.bytes)) = some (some (Value.bool false), 1, 1) := by kernel_rfl

/-- The new table, and what the first store leaves of it. -/
theorem tab0 {w w1 : World} (G : List Int) (m : Nat) (hown : w1.ownsRow w.heap.size 4 1 (.slice (some ⟨w.heap.size, 0, none⟩) (m + 1) (m + 1)) (m + 1) (madeCells (Value.bool false).cells ((m + 1) * 1)).toList) (hgrow : w.grownBy w1 none) :
    (∃ u, w1.cell? ⟨w.heap.size, 0, none⟩ = some u) ∧ w1.frozen? ⟨w.heap.size, 0, none⟩ = false ∧
    Hid ((w1.setCell ⟨w.heap.size, 0, none⟩ (.bool true)).ownsRow w.heap.size 4 1 (.slice (some ⟨w.heap.size, 0, none⟩) (m + 1) (m + 1)) (m + 1) (tabF G 1 false (m + 1))) ∧
    Hid (Below w.heap.size w (w1.setCell ⟨w.heap.size, 0, none⟩ (.bool true))) := by
  have hbel : Below w.heap.size w w1 := (Below.refl _ w).grown hgrow (Nat.le_refl _) (fun k h => by cases h)
  have hown' : w1.ownsRow w.heap.size 4 1 (.slice (some ⟨w.heap.size, 0, none⟩) (m + 1) (m + 1)) (m + 1) (List.replicate (m + 1) (Value.bool false)) := by
    have e : (madeCells (Value.bool false).cells ((m + 1) * 1)).toList = List.replicate (m + 1) (Value.bool false) := by rw [Nat.mul_one]; exact toList_madeCells_one _ _
    rw [← e]; exact hown
  have hst := hown'.stored 0 (.bool true)
  rw [tabF_start G m] at hst
  refine ⟨?_, hown'.frozenAt 0, Lib.hid hst.1, Lib.hid (hbel.setCell (p := ⟨w.heap.size, 0, none⟩) (Nat.le_refl _) (.bool true))⟩
  rw [hown'.cellAt 0 (by omega)]; exact ⟨_, List.getElem?_eq_getElem (by simp)⟩

set_option maxRecDepth 100000 in
set_option maxHeartbeats 800000 in
theorem spec_l3Table (G : List Int) (a : Option Addr) (cap m : Nat) (w : World) (hr : SlV w a (G.map (Value.int .i64))) (hb : G.length ≤ 1048576) (hG : Pos G) (hm : m ≤ 4000) :
    Calls Tryz.prog 63 #[.slice a G.length cap, .int .i64 (m : Int)] w fun e w' => ∃ v, e = .returned v ∧ w'.ownsRow w.heap.size 4 1 v (m + 1) (tabL G (m + 1)) ∧ Below w.heap.size w w' := by
  obtain ⟨i0, hi, hz0, hz1, hz2⟩ := info_parts infoBool
  have hwm : IntKind.i64.wrap ((m : Int) + 1) = ((m + 1 : Nat) : Int) := by rw [IntWalk.i64_in _ (by omega)]; rfl
  go_enter Tryz.func63, Tryz.ntmps63
  go_wp2_with (at_make; refine wpList_make_full _ rfl _ _ 91 rfl w.heap.size 4 i0 (Value.bool false) 1 Tryz.underlying91 hi hz0 hz1 .i64 .i64 _ _ (m + 1) rfl rfl (by first | rfl | (simp; done) | omega) (by first | rfl | (simp; done) | omega) (by rw [hz2]; omega) (by unfold maxLen; omega) (Nat.le_refl _) ?_; intro w1 hown hgrow; obtain ⟨⟨u, hu⟩, hfz, HS, HB⟩ := tab0 G m hown hgrow; clear hown hgrow)
  clear hi hz0 hz1 hz2
  go_loopw [6] (fun i wr => ∃ n : Nat, 1 ≤ n ∧ n ≤ m + 1 ∧ i = .int .i64 (n : Int) ∧ wr.ownsRow w.heap.size 4 1 (.slice (some ⟨w.heap.size, 0, none⟩) (m + 1) (m + 1)) (m + 1) (tabF G n false (m + 1)) ∧ Below w.heap.size w wr) (fun i _ => m + 1 - (intOf i).toNat)
  case atStart => exact ⟨1, Nat.le_refl _, by omega, rfl, HS.out, HB.out⟩
  case round =>
    clear HS HB hu hfz hwm
    obtain ⟨n, hn1, hn2, rfl, hown, hbel⟩ := hrel
    by_cases hlt : n ≤ m
    · have HO := Lib.hid hown
      have HB := Lib.hid hbel
      clear hown hbel
      go_wp2_with fail
      go_loopw [7] (fun i wr => ∃ k : Nat, k ≤ G.length ∧ i = .int .i64 (k : Int) ∧ wr.ownsRow w.heap.size 4 1 (.slice (some ⟨w.heap.size, 0, none⟩) (m + 1) (m + 1)) (m + 1) (tabF G n (partB G n k) (m + 1)) ∧ Below w.heap.size w wr) (fun i _ => G.length - (intOf i).toNat)
      case atStart => exact ⟨0, Nat.zero_le _, rfl, by rw [partB_zero]; exact HO.out, HB.out⟩
      case round =>
        clear HO HB
        obtain ⟨k, hk, rfl, hown, hbel⟩ := hrel
        by_cases hkl : k < G.length
        · obtain ⟨b, off, rfl, hbs, hc⟩ := hr.open (by intro h; rw [List.map_eq_nil_iff] at h; subst h; simp at hkl)
          have hcell : wr.cell? ⟨b, off + k, none⟩ = some (.int .i64 G[k]) := by rw [hbel.cell (p := ⟨b, off + k, none⟩) hbs]; exact hc k _ (by simp [hkl])
          have hx1 := hG G[k] (List.getElem_mem hkl)
          have HP := Lib.hid (partB_succ G n k hkl)
          clear hc hr
          by_cases hle : G[k] ≤ (n : Int)
          · obtain ⟨j, hj⟩ : ∃ j : Nat, j = n - (G[k]).toNat := ⟨_, rfl⟩
            rw [decide_eq_true hle, Bool.true_and, ← hj] at HP
            have hjn : j < n := by omega
            have hsub : (n : Int) - G[k] = (j : Int) := by omega
            have htab : wr.cell? ⟨w.heap.size, j, none⟩ = some (.bool (sumB G j)) := by
              rw [hown.cellAt j (by omega), tabF_get G n _ (m + 1) j (by omega), if_pos hjn]
            have hw1 : IntKind.i64.wrap ((n : Int) - G[k]) = (j : Int) := by rw [hsub]; exact IntWalk.i64_in _ (by omega)
            clear hj
            generalize G[k] = x at *
            cases hsb : sumB G j
            · rw [hsb] at htab HP
              rw [Bool.or_false] at HP
              have HO := Lib.hid hown
              clear hown hsb
              go_wp2_with fail
              go_roundw
              case rel => exact ⟨k + 1, by omega, by go_num, by rw [HP.out]; exact HO.out, hbel⟩
              case measure => simp [intOf]; omega
            · rw [hsb] at htab HP
              rw [Bool.or_true] at HP
              have hst := hown.stored n (.bool true)
              rw [tabF_set G n _ (m + 1) (by omega)] at hst
              have HS := Lib.hid hst.1
              obtain ⟨u, hu⟩ : ∃ u, wr.cell? ⟨w.heap.size, n, none⟩ = some u := by
                rw [hown.cellAt n (by omega)]; exact ⟨_, List.getElem?_eq_getElem (by rw [tabF_length]; omega)⟩
              have hfz := hown.frozenAt n
              have HB := Lib.hid (hbel.setCell (p := ⟨w.heap.size, n, none⟩) (Nat.le_refl _) (.bool true))
              clear hst hown hsb hbel
              go_wp2_with fail
              go_roundw
              case rel => exact ⟨k + 1, by omega, by go_num, by rw [HP.out]; exact HS.out, HB.out⟩
              case measure => simp [intOf]; omega
          · rw [decide_eq_false hle, Bool.false_and, Bool.or_false] at HP
            generalize G[k] = x at *
            have HO := Lib.hid hown
            clear hown
            go_wp2_with fail
            go_roundw
            case rel => exact ⟨k + 1, by omega, by go_num, by rw [HP.out]; exact HO.out, hbel⟩
            case measure => simp [intOf]; omega
        · obtain rfl : k = G.length := by omega
          rw [partB_all G hG n hn1, tabF_next] at hown
          have HO := Lib.hid hown
          clear hown hr
          go_wp2_with fail
          go_roundw
          case rel => exact ⟨n + 1, by omega, by omega, by go_num, HO.out, hbel⟩
          case measure => simp [intOf]; omega
    · obtain rfl : n = m + 1 := by omega
      rw [tabF_all] at hown
      have HO := Lib.hid hown
      clear hown hr
      go_wp2_with fail
      go_ret
      exact ⟨_, rfl, HO.out, hbel⟩
end Go.Proofs.YtdjjagpecbflnaaGreatDoor
