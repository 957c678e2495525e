/-
  CONTRACT of the reference's SumsOf.
-/
import Derived.Test.YtjahmlaocgcjpaaGreatDoorL4
namespace Go.Proofs.YtjahmlaocgcjpaaGreatDoor
open Go Go.RowKit

def allSums (A B : List Int) : List Int := A.flatMap fun x => B.map fun y => x + y
def sums (A B : List Int) : List Int := if allB A && allB B then sortL (allSums A B) else []
theorem sums_in {A B : List Int} (ha : allB A = true) (hb : allB B = true) : sums A B = sortL (allSums A B) := by simp [sums, ha, hb]
theorem sums_out {A B : List Int} (h : allB A = false ∨ allB B = false) : sums A B = [] := by
  unfold sums
  rcases h with h | h <;> simp [h]
theorem allB_iff {L : List Int} (h : allB L = true) : L.length ≤ 300 ∧ ∀ x ∈ L, -1000000 ≤ x ∧ x ≤ 1000000 := by
  unfold allB at h
  rw [Bool.and_eq_true, List.all_eq_true, decide_eq_true_eq] at h
  exact ⟨h.2, fun x hx => small_iff.1 (h.1 x hx)⟩

theorem post_nil (w : World) : ∃ g cap, (Ending.returned (.slice (some ⟨w.heap.size, 0, none⟩) 0 0)) = .returned (.slice (some ⟨g, 0, none⟩) ([] : List Int).length cap) ∧
    (w.alloc (.cells #[] 3)).ownsRow w.heap.size 3 1 (.slice (some ⟨g, 0, none⟩) ([] : List Int).length cap) ([] : List Int).length (([] : List Int).map (Value.int .i64)) ∧ Below w.heap.size w (w.alloc (.cells #[] 3)) :=
  ⟨w.heap.size, 0, rfl, World.ownsRow_lit w #[] 0 (Nat.le_refl _) (by simp) rfl, (Below.refl _ _).alloc (Nat.le_refl _) _⟩

set_option maxRecDepth 100000 in
set_option maxHeartbeats 1600000 in
theorem spec_SumsOf (A B : List Int) (a b : Option Addr) (ca cb : Nat) (w : World) (ha : SlV w a (A.map (Value.int .i64))) (hb : SlV w b (B.map (Value.int .i64))) (hA : A.length ≤ 1048576) (hB : B.length ≤ 1048576) :
    Calls Tryz.prog 21 #[.slice a A.length ca, .slice b B.length cb] w (ListPost (sums A B) w) := by
  obtain ⟨i0, hi, hz0, hz1, hz2⟩ := info_parts infoIntL
  have hown0 : (w.alloc (.cells #[] 3)).ownsRow w.heap.size 3 1 (.slice (some ⟨w.heap.size, 0, none⟩) 0 0) 0 [] := World.ownsRow_lit w #[] 0 (Nat.le_refl _) (by simp) rfl
  have hbel0 : Below w.heap.size w (w.alloc (.cells #[] 3)) := (Below.refl _ _).alloc (Nat.le_refl _) _
  have qa := spec_l2All A a ca _ (ha.below hbel0) (by unfold maxLen; omega)
  have qb := spec_l2All B b cb _ (hb.below hbel0) (by unfold maxLen; omega)
  cases hsa : allB A
  · have HO := Lib.hid (sums_out (B := B) (.inl hsa))
    rw [hsa] at qa
    clear hsa qb ha hb hown0 hbel0
    go_enter Tryz.func21, Tryz.ntmps21
    go_wp2_with fail
    refine qa.mono ?_
    rintro e w' ⟨rfl, rfl⟩
    go_wp2_with fail
    go_ret
    rw [HO.out]
    exact post_nil w
  · rw [hsa] at qa
    cases hsb : allB B
    · have HO := Lib.hid (sums_out (A := A) (.inr hsb))
      rw [hsb] at qb
      clear hsa hsb ha hb hown0 hbel0
      go_enter Tryz.func21, Tryz.ntmps21
      go_wp2_with fail
      refine qa.mono ?_
      rintro e w' ⟨rfl, rfl⟩
      go_wp2_with fail
      refine qb.mono ?_
      rintro e w' ⟨rfl, rfl⟩
      go_wp2_with fail
      go_ret
      rw [HO.out]
      exact post_nil w
    · rw [hsb] at qb
      have HO := Lib.hid (sums_in hsa hsb)
      obtain ⟨hA3, hAb⟩ := allB_iff hsa
      obtain ⟨hB3, hBb⟩ := allB_iff hsb
      have HAB := Lib.hid hAb
      have HBB := Lib.hid hBb
      clear hsa hsb hAb hBb
      go_enter Tryz.func21, Tryz.ntmps21
      go_wp2_with fail
      refine qa.mono ?_
      rintro e w' ⟨rfl, rfl⟩
      go_wp2_with fail
      refine qb.mono ?_
      rintro e w' ⟨rfl, rfl⟩
      clear qa qb
      go_wp2_with fail
      go_loopw [5, 6] (fun v i wr => ∃ (n g c : Nat) (M : List Int), n ≤ A.length ∧ i = .int .i64 (n : Int) ∧ M = allSums (A.take n) B ∧ M.length ≤ 300 * n ∧ v = .slice (some ⟨g, 0, none⟩) M.length c ∧
        wr.ownsRow w.heap.size 3 1 (.slice (some ⟨g, 0, none⟩) M.length c) M.length (M.map (Value.int .i64)) ∧ Below w.heap.size w wr) (fun _ i _ => A.length - (intOf i).toNat)
      case atStart => exact ⟨0, w.heap.size, 0, [], Nat.zero_le _, rfl, by simp [allSums], by simp, rfl, hown0, hbel0⟩
      case round =>
        clear hown0 hbel0
        obtain ⟨n, g, c, M, hn, rfl, hM, hMl, rfl, hown, hbel⟩ := hrel
        have HM := Lib.hid hM
        clear hM
        by_cases hlt : n < A.length
        · obtain ⟨ba, oa, rfl, hbsa, hca⟩ := ha.open (by intro h; rw [List.map_eq_nil_iff] at h; subst h; simp at hlt)
          have hcella : w.cell? ⟨ba, oa + n, none⟩ = some (.int .i64 A[n]) := hca n _ (by simp [hlt])
          obtain ⟨xa0, xa1⟩ := HAB.out A[n] (List.getElem_mem hlt)
          have HN : Hid (allSums (A.take (n + 1)) B = M ++ B.map fun y => A[n] + y) := Lib.hid (by
            rw [HM.out]
            unfold allSums
            rw [List.take_add_one, List.getElem?_eq_getElem hlt, List.flatMap_append]
            simp)
          clear hca ha HM
          generalize A[n] = x at *
          go_wp2_with fail
          go_loopw [5, 7] (fun v i wr => ∃ (j g c : Nat), j ≤ B.length ∧ i = .int .i64 (j : Int) ∧ v = .slice (some ⟨g, 0, none⟩) (M ++ (B.take j).map fun y => x + y).length c ∧
            wr.ownsRow w.heap.size 3 1 (.slice (some ⟨g, 0, none⟩) (M ++ (B.take j).map fun y => x + y).length c) (M ++ (B.take j).map fun y => x + y).length ((M ++ (B.take j).map fun y => x + y).map (Value.int .i64)) ∧ Below w.heap.size w wr) (fun _ i _ => B.length - (intOf i).toNat)
          case atStart => exact ⟨0, g, c, Nat.zero_le _, rfl, by simp, by simpa using hown, hbel⟩
          case round =>
            clear hown hbel
            obtain ⟨j, g, c, hj, rfl, rfl, hown, hbel⟩ := hrel
            have hsz := hbel.size
            by_cases hltb : j < B.length
            · obtain ⟨bb, ob, rfl, hbsb, hcb⟩ := hb.open (by intro h; rw [List.map_eq_nil_iff] at h; subst h; simp at hltb)
              have hcellb : w.cell? ⟨bb, ob + j, none⟩ = some (.int .i64 B[j]) := hcb j _ (by simp [hltb])
              obtain ⟨xb0, xb1⟩ := HBB.out B[j] (List.getElem_mem hltb)
              have HT : Hid (M ++ (B.take (j + 1)).map (fun y => x + y) = (M ++ (B.take j).map fun y => x + y) ++ [x + B[j]]) := Lib.hid (by
                rw [List.take_add_one, List.getElem?_eq_getElem hltb, List.map_append, ← List.append_assoc]; rfl)
              have hll : (M ++ (B.take j).map fun y => x + y).length ≤ 300 * n + 300 := by simp; omega
              clear hcb hb
              generalize B[j] = y at *
              generalize (M ++ (B.take j).map fun y => x + y) = Q at *
              have hx0 : (0 : Int) ≤ (n : Int) := by omega
              have hx1 : (n : Int) < (A.length : Int) := by omega
              have hx2 : (0 : Int) ≤ (j : Int) := by omega
              have hx3 : (j : Int) < (B.length : Int) := by omega
              have hw1 : IntKind.i64.wrap (x + y) = x + y := IntWalk.i64_in _ (by omega)
              have HK : ∀ w', Below w.heap.size w w' → w'.cell? ⟨ba, oa + n, none⟩ = some (.int .i64 x) ∧ w'.cell? ⟨bb, ob + j, none⟩ = some (.int .i64 y) := fun w' h =>
                ⟨(h.cell (p := ⟨ba, oa + n, none⟩) hbsa).trans hcella, (h.cell (p := ⟨bb, ob + j, none⟩) hbsb).trans hcellb⟩
              have hgl := (owns_facts hown).2.1
              go_wp2_with fail
              go_region_held3 (fun w' => w'.cell? ⟨ba, oa + n, none⟩ = some (.int .i64 x) ∧ w'.cell? ⟨bb, ob + j, none⟩ = some (.int .i64 y))
                (first
                  | exact HK _ hb4
                  | exact HK _ hbel.drew
                  | exact HK _ (hbel.alloc hsz _).drew
                  | go_keep)
                ((refine step_append_some _ (by rfl) (.tmp 30) (.tmp 40) 27 (by rfl) w.heap.size 3 i0 (Value.int .i64 0) 1 8 Tryz.underlying27 hi hz0 hz1 hz2 rfl (by decide) _ _ _ (by rfl) (owns_block hown (Below.heap_alloc wr _ g hgl)) ⟨wr.heap.size, 0, none⟩ 1 1 [.int .i64 (x + y)] (by rfl) (by rfl) (World.news_of_block (cs := #[.int .i64 (x + y)]) (t := 3) (fr := (0, 0)) (heap_alloc_new wr _)) (by simp [Value.oneCell']) (by omega) (by unfold maxLen; omega) (by omega) (by simp; omega) ?_; intro g1 c1 w4 ho1 hgr1 hat1 hlt1
                  have hb4 := Below.grown (a := w) (B := w.heap.size) (by first | exact hbel.alloc hsz _ | exact (hbel.alloc hsz _).drew) hgr1 (by simp; omega) (fun q hq => by simp [Value.ownBlock] at hq; have := (owns_facts hown).1; omega)))
              go_wp2_with fail
              go_roundw
              case rel => exact ⟨j + 1, g1, c1, by omega, by go_num, by rw [HT.out]; simp, by rw [HT.out]; simpa using ho1, hb4⟩
              case measure => simp [intOf]; omega
            · obtain rfl : j = B.length := by omega
              have HQ : Hid (M ++ (B.take B.length).map (fun y => x + y) = allSums (A.take (n + 1)) B) := Lib.hid (by rw [HN.out, List.take_of_length_le (Nat.le_refl _)])
              have hql : (M ++ (B.take B.length).map fun y => x + y).length ≤ 300 * n + 300 := by simp; omega
              generalize (M ++ (B.take B.length).map fun y => x + y) = Q at *
              clear hb
              go_wp2_with fail
              go_roundw
              case rel => exact ⟨n + 1, g, c, Q, by omega, by go_num, HQ.out, by omega, rfl, hown, hbel⟩
              case measure => simp [intOf]; omega
        · obtain rfl : n = A.length := by omega
          have HE : Hid (M = allSums A B) := Lib.hid (by rw [HM.out, List.take_of_length_le (Nat.le_refl _)])
          have hs := sort_of_owns (W := w) hown hbel (by omega)
          clear ha hb hown HM
          go_wp2_with fail
          refine hs.mono ?_
          rintro e w' ⟨u, rfl, hp⟩
          go_wp2_with fail
          go_ret
          rw [HO.out, ← HE.out]
          exact hp
end Go.Proofs.YtjahmlaocgcjpaaGreatDoor
