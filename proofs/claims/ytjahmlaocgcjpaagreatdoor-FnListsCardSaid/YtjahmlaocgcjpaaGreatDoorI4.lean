/-
  CONTRACTS of the program's SharedOf, SumsOf.
-/
import Derived.Test.YtjahmlaocgcjpaaGreatDoorI3
import Derived.Test.YtjahmlaocgcjpaaGreatDoorI2b
import Derived.Test.YtjahmlaocgcjpaaGreatDoorL5
import Derived.Test.YtjahmlaocgcjpaaGreatDoorShFind
namespace Go.Proofs.YtjahmlaocgcjpaaGreatDoor
open Go Go.RowKit

theorem shared_filter (A B : List Int) : (sortL A).filter (hasB (sortL B)) = shared A B := by
  unfold shared
  refine sortL_eq ?_ fun x => ?_
  · intro i j hj hij
    have h1 : ((sortL A).filter (hasB (sortL B))).Pairwise (· < ·) := by
      refine List.Pairwise.filter _ ?_
      rw [List.pairwise_iff_getElem]
      intro i j hi hj hij
      exact (sortL_spec A).1 i j hj hij
    exact List.pairwise_iff_getElem.1 h1 i j _ hj hij
  · have hm : ∀ y, hasB (sortL B) y = hasB B y := fun y => by
      unfold hasB
      rw [Bool.eq_iff_iff, decide_eq_true_eq, decide_eq_true_eq]
      exact (sortL_spec B).2 y
    rw [List.mem_filter, List.mem_filter, (sortL_spec A).2, hm]

theorem shared_length_le (A B : List Int) : (shared A B).length ≤ A.length := by
  unfold shared
  exact Nat.le_trans (sortL_length_le _) (List.length_filter_le _ _)

theorem hasB_contains' (L : List Int) (n : Int) : L.contains n = hasB L n := by
  unfold hasB
  rw [Bool.eq_iff_iff, List.contains_iff_mem, decide_eq_true_eq]

theorem search_any (L : List Int) (hL : Asc L) (n : Int) (a : Option Addr) (cap : Nat) (w : World) (hr : SlV w a (L.map (Value.int .i64))) (hb : L.length ≤ 1048576) :
    Calls Tryz.prog 50 #[.slice a L.length cap, .int .i64 n] w fun e w' => (∃ k : Int, e = .returned (.tuple #[.int .i64 k, .bool (hasB L n)])) ∧ ∃ q, w' = w.drewN q := by
  by_cases h0 : L = []
  · subst h0
    refine (Tryz.slices_BinarySearch_int_empty a cap n w).mono ?_
    rintro e w' ⟨he, hw⟩
    exact ⟨⟨0, by rw [he]; rfl⟩, 0, by rw [hw]; rfl⟩
  · obtain ⟨b, off, rfl, hbs, hc⟩ := hr.open (by intro h; rw [List.map_eq_nil_iff] at h; exact h0 h)
    refine (Tryz.slices_BinarySearch_int b off L.length cap L n w (Nat.le_refl _) (by omega) (fun j hj => ?_) ?_).mono ?_
    · have := hc j (.int .i64 (L.getD j 0)) (by rw [List.getElem?_map, List.getElem?_eq_getElem hj]; simp [List.getD, List.getElem?_eq_getElem hj])
      exact this
    · rw [List.take_of_length_le (Nat.le_refl _), List.pairwise_iff_getElem]
      intro i j hi hj hij
      have := hL i j hj hij
      omega
    · rintro e w' ⟨he, hw⟩
      rw [List.take_of_length_le (Nat.le_refl _), hasB_contains'] at he
      exact ⟨⟨_, he⟩, hw⟩

set_option maxRecDepth 100000 in
set_option maxHeartbeats 1600000 in
theorem impl_SharedOf (A B : List Int) (a b : Option Addr) (ca cb : Nat) (w : World) (ha : SlW w a ca (A.map (Value.int .i64))) (hb : SlW w b cb (B.map (Value.int .i64))) (hA : A.length ≤ 1048576) (hB : B.length ≤ 1048576) :
    Calls Tryz.prog 22 #[.slice a A.length ca, .slice b B.length cb] w (SlPost (shared A B) w) := by
  obtain ⟨i0, hi, hz0, hz1, hz2⟩ := info_parts infoIntL
  have c1 := impl_SortList B b cb w hb hB
  go_enter Tryz.func22, Tryz.ntmps22
  go_wp2_with fail
  refine c1.mono ?_
  rintro e w1 ⟨v1, rfl, ho1, hb1⟩
  obtain ⟨a1, k1, rfl, R1⟩ := row_open ho1
  have c2 := impl_SortList A a ca w1 (ha.below hb1) hA
  clear c1 ho1
  go_wp2_with fail
  refine c2.mono ?_
  rintro e w2 ⟨v2, rfl, ho2, hb2⟩
  obtain ⟨a2, k2, rfl, R2⟩ := row_open ho2
  clear c2 ho2
  go_wp2_with fail
  have hs1 := R1.slv
  have hs2 := R2.slv
  have ha1 := (sortL_spec B).1
  have hl1 := sortL_length_le B
  have hl2 := sortL_length_le A
  have HE := Lib.hid (shared_filter A B)
  have HA1 := Lib.hid ha1
  have hs12 := hs1.below hb2
  have hbW : Below w.heap.size w w2 := hb1.trans (hb2.mono hb1.size)
  have hsz2 := hbW.size
  clear R1 R2 ha hb hs1 ha1 hb1 hb2
  generalize sortL A = SA at *
  generalize sortL B = SB at *
  go_loopw [5, 16] (fun v i wr => ∃ k : Nat, k ≤ SA.length ∧ i = .int .i64 (k : Int) ∧
      wr.ownsRow w2.heap.size 3 1 v ((SA.take k).filter (hasB SB)).length (((SA.take k).filter (hasB SB)).map (Value.int .i64)) ∧ Below w2.heap.size w2 wr) (fun _ i _ => SA.length - (intOf i).toNat)
  case atStart => exact ⟨0, Nat.zero_le _, rfl, World.ownsRow_nil _ _ _ _, Below.refl _ _⟩
  case round =>
    obtain ⟨k, hk, rfl, hown, hbel⟩ := hrel
    have hsz := hbel.size
    by_cases hlt : k < SA.length
    · obtain ⟨ba, off, rfl, hbs, hc⟩ := hs2.open (by intro h; rw [List.map_eq_nil_iff] at h; subst h; simp at hlt)
      have hcell : wr.cell? ⟨ba, off + k, none⟩ = some (.int .i64 SA[k]) := by rw [hbel.cell (p := ⟨ba, off + k, none⟩) hbs]; exact hc k _ (by simp [hlt])
      have HT : Hid (SA.take (k + 1) = SA.take k ++ [SA[k]]) := Lib.hid (by rw [List.take_add_one, List.getElem?_eq_getElem hlt]; rfl)
      have hFl : ((SA.take k).filter (hasB SB)).length ≤ k := Nat.le_trans (List.length_filter_le _ _) (by rw [List.length_take]; omega)
      have hh := search_any SB HA1.out SA[k] a1 k1 wr (hs12.below hbel) (by omega)
      clear hc hs12 hs2
      cases hin : hasB SB SA[k]
      · have HF : Hid ((SA.take (k + 1)).filter (hasB SB) = (SA.take k).filter (hasB SB)) := Lib.hid (by rw [HT.out, List.filter_append]; simp [hin])
        rw [hin] at hh
        clear hin HT
        generalize SA[k] = x at *
        go_wp2_with fail
        refine hh.mono ?_
        rintro e w' ⟨⟨pos, rfl⟩, q, rfl⟩
        have HO := Lib.hid hown
        clear hown hh
        go_wp2_with fail
        go_roundw
        case rel => exact ⟨k + 1, by omega, by go_num, by rw [HF.out]; exact HO.out, below_drewN hbel _⟩
        case measure => simp [intOf]; omega
      · have HF : Hid ((SA.take (k + 1)).filter (hasB SB) = (SA.take k).filter (hasB SB) ++ [SA[k]]) := Lib.hid (by rw [HT.out, List.filter_append]; simp [hin])
        rw [hin] at hh
        clear hin HT
        generalize SA[k] = x at *
        generalize (SA.take k).filter (hasB SB) = M at *
        go_wp2_with fail
        refine hh.mono ?_
        rintro e w' ⟨⟨pos, rfl⟩, q, rfl⟩
        have hown1 : (wr.drewN q).ownsRow w2.heap.size 3 1 _ M.length (M.map (Value.int .i64)) := hown
        have hbel1 := below_drewN hbel q
        have hsz1 := hbel1.size
        clear hown hh hcell hbel hsz
        generalize wr.drewN q = wq at *
        go_wp2_with (at_builtin; refine wpList_append_own _ rfl _ _ 27 rfl w2.heap.size 3 i0 (Value.int .i64 0) 1 8 Tryz.underlying27 hi hz0 hz1 hz2 rfl (by decide) _ _ _ rfl (hown1.alloc _) ⟨_, 0, none⟩ 1 1 [.int .i64 x] rfl rfl (World.news_of_block (cs := #[.int .i64 x]) (t := 3) (fr := (0, 0)) (heap_alloc_new _ _)) (by simp [Value.oneCell']) (by unfold maxLen; omega) (by omega) (by simp; omega) ?_; intro v2 wn hown2 hgrow2 _)
        have hb2 := (hbel1.alloc hsz1 _).grown hgrow2 (by simp; omega) (fun j hj => (hown1.lt j hj).1)
        have HO := Lib.hid hown2
        clear hown1 hown2 hgrow2
        go_wp2_with fail
        go_roundw
        case rel => exact ⟨k + 1, by omega, by go_num, by rw [HF.out]; have := HO.out; simpa using this, hb2⟩
        case measure => simp [intOf]; omega
    · obtain rfl : k = SA.length := by omega
      rw [List.take_of_length_le (Nat.le_refl _), HE.out] at hown
      have HO := Lib.hid hown
      clear hs2 hs12 hown
      go_wp2_with fail
      go_ret
      exact ⟨_, rfl, ownsBase HO.out hsz2, hbW.trans (hbel.mono hsz2)⟩

set_option maxRecDepth 100000 in
set_option maxHeartbeats 1600000 in
theorem impl_SumsOf (A B : List Int) (a b : Option Addr) (ca cb : Nat) (w : World) (ha : SlV w a (A.map (Value.int .i64))) (hb : SlV w b (B.map (Value.int .i64))) (hA : A.length ≤ 1048576) (hB : B.length ≤ 1048576) :
    Calls Tryz.prog 20 #[.slice a A.length ca, .slice b B.length cb] w (SlPost (sums A B) w) := by
  obtain ⟨i0, hi, hz0, hz1, hz2⟩ := info_parts infoIntL
  have qa := impl_areSummands A a ca w ha (by unfold maxLen; omega)
  have qb := impl_areSummands B b cb w hb (by unfold maxLen; omega)
  cases hsa : allB A
  · have HO := Lib.hid (sums_out (B := B) (.inl hsa))
    rw [hsa] at qa
    clear hsa qb ha hb
    go_enter Tryz.func20, Tryz.ntmps20
    go_wp2_with fail
    refine qa.mono ?_
    rintro e w' ⟨rfl, rfl⟩
    go_wp2_with fail
    go_ret
    rw [HO.out]
    exact ⟨_, rfl, World.ownsRow_nil _ _ _ _, Below.refl _ _⟩
  · rw [hsa] at qa
    cases hsb : allB B
    · have HO := Lib.hid (sums_out (A := A) (.inr hsb))
      rw [hsb] at qb
      clear hsa hsb ha hb
      go_enter Tryz.func20, Tryz.ntmps20
      go_wp2_with fail
      refine qa.mono ?_
      rintro e w' ⟨rfl, rfl⟩
      go_wp2_with fail
      refine qb.mono ?_
      rintro e w' ⟨rfl, rfl⟩
      go_wp2_with fail
      go_ret
      rw [HO.out]
      exact ⟨_, rfl, World.ownsRow_nil _ _ _ _, Below.refl _ _⟩
    · rw [hsb] at qb
      have HO := Lib.hid (sums_in hsa hsb)
      obtain ⟨hA3, hAb⟩ := allB_iff hsa
      obtain ⟨hB3, hBb⟩ := allB_iff hsb
      have HAB := Lib.hid hAb
      have HBB := Lib.hid hBb
      clear hsa hsb hAb hBb
      have hmul : A.length * B.length ≤ 90000 := Nat.le_trans (Nat.mul_le_mul hA3 hB3) (by decide)
      have hwm : IntKind.i64.wrap ((A.length : Int) * (B.length : Int)) = ((A.length * B.length : Nat) : Int) := by rw [← Int.natCast_mul]; exact IntWalk.i64_in _ (by omega)
      go_enter Tryz.func20, Tryz.ntmps20
      go_wp2_with fail
      refine qa.mono ?_
      rintro e w' ⟨rfl, rfl⟩
      go_wp2_with fail
      refine qb.mono ?_
      rintro e w' ⟨rfl, rfl⟩
      clear qa qb
      go_wp2_with (at_make; refine wpList_make_own _ rfl _ _ 27 rfl w'.heap.size 3 i0 (Value.int .i64 0) 1 Tryz.underlying27 hi hz0 hz1 .i64 .i64 _ (A.length * B.length) rfl rfl (by first | exact hwm | rfl | (simp; done) | (simp; omega)) (by rw [hz2]; omega) (by unfold maxLen; omega) (Nat.le_refl _) ?_; intro w1 hown0 hgrow0)
      have hbel0 : Below w'.heap.size w' w1 := (Below.refl _ _).grown hgrow0 (Nat.le_refl _) (fun k h => by cases h)
      clear hgrow0
      go_wp2_with fail
      go_loopw [5, 26] (fun v i wr => ∃ (n : Nat) (M : List Int), n ≤ A.length ∧ i = .int .i64 (n : Int) ∧ M = allSums (A.take n) B ∧ M.length ≤ 300 * n ∧
        wr.ownsRow w'.heap.size 3 1 v M.length (M.map (Value.int .i64)) ∧ Below w'.heap.size w' wr) (fun _ i _ => A.length - (intOf i).toNat)
      case atStart => exact ⟨0, [], Nat.zero_le _, rfl, by simp [allSums], by simp, hown0, hbel0⟩
      case round =>
        clear hown0 hbel0
        obtain ⟨n, M, hn, rfl, hM, hMl, hown, hbel⟩ := hrel
        have HM := Lib.hid hM
        clear hM
        by_cases hlt : n < A.length
        · obtain ⟨ba, oa, rfl, hbsa, hca⟩ := ha.open (by intro h; rw [List.map_eq_nil_iff] at h; subst h; simp at hlt)
          have hcella : wr.cell? ⟨ba, oa + n, none⟩ = some (.int .i64 A[n]) := by rw [hbel.cell (p := ⟨ba, oa + n, none⟩) hbsa]; exact hca n _ (by simp [hlt])
          obtain ⟨xa0, xa1⟩ := HAB.out A[n] (List.getElem_mem hlt)
          have HN : Hid (allSums (A.take (n + 1)) B = M ++ B.map fun y => A[n] + y) := Lib.hid (by
            rw [HM.out]
            unfold allSums
            rw [List.take_add_one, List.getElem?_eq_getElem hlt, List.flatMap_append]
            simp)
          have HO := Lib.hid hown
          have HB := Lib.hid hbel
          clear hca ha HM hown hbel
          generalize A[n] = x at *
          go_wp2_with fail
          clear hcella
          go_loopw [5, 32] (fun v i wr => ∃ j : Nat, j ≤ B.length ∧ i = .int .i64 (j : Int) ∧
            wr.ownsRow w'.heap.size 3 1 v (M ++ (B.take j).map fun y => x + y).length ((M ++ (B.take j).map fun y => x + y).map (Value.int .i64)) ∧ Below w'.heap.size w' wr) (fun _ i _ => B.length - (intOf i).toNat)
          case atStart => exact ⟨0, Nat.zero_le _, rfl, by simpa using HO.out, HB.out⟩
          case round =>
            obtain ⟨j, hj, rfl, hown, hbel⟩ := hrel
            have hsz := hbel.size
            by_cases hltb : j < B.length
            · obtain ⟨bb, ob, rfl, hbsb, hcb⟩ := hb.open (by intro h; rw [List.map_eq_nil_iff] at h; subst h; simp at hltb)
              have hcellb : wr.cell? ⟨bb, ob + j, none⟩ = some (.int .i64 B[j]) := by rw [hbel.cell (p := ⟨bb, ob + j, none⟩) hbsb]; exact hcb j _ (by simp [hltb])
              obtain ⟨xb0, xb1⟩ := HBB.out B[j] (List.getElem_mem hltb)
              have HT : Hid (M ++ (B.take (j + 1)).map (fun y => x + y) = (M ++ (B.take j).map fun y => x + y) ++ [x + B[j]]) := Lib.hid (by
                rw [List.take_add_one, List.getElem?_eq_getElem hltb, List.map_append, ← List.append_assoc]; rfl)
              have hll : (M ++ (B.take j).map fun y => x + y).length ≤ 300 * n + 300 := by simp; omega
              clear hcb hb
              generalize B[j] = y at *
              generalize (M ++ (B.take j).map fun y => x + y) = Q at *
              have hw1 : IntKind.i64.wrap (x + y) = x + y := IntWalk.i64_in _ (by omega)
              go_wp2_with (at_builtin; refine wpList_append_own _ rfl _ _ 27 rfl w'.heap.size 3 i0 (Value.int .i64 0) 1 8 Tryz.underlying27 hi hz0 hz1 hz2 rfl (by decide) _ _ _ rfl (hown.alloc _) ⟨_, 0, none⟩ 1 1 [.int .i64 (x + y)] rfl rfl (World.news_of_block (cs := #[.int .i64 (x + y)]) (t := 3) (fr := (0, 0)) (heap_alloc_new _ _)) (by simp [Value.oneCell']) (by unfold maxLen; omega) (by omega) (by simp; omega) ?_; intro v2 wn hown2 hgrow2 _)
              have hb2 := (hbel.alloc hsz _).grown hgrow2 (by simp; omega) (fun j hj => (hown.lt j hj).1)
              have HO2 := Lib.hid hown2
              clear hown hown2 hgrow2
              go_wp2_with fail
              go_roundw
              case rel => exact ⟨j + 1, by omega, by go_num, by rw [HT.out]; have := HO2.out; simpa using this, hb2⟩
              case measure => simp [intOf]; omega
            · obtain rfl : j = B.length := by omega
              have HQ : Hid (M ++ (B.take B.length).map (fun y => x + y) = allSums (A.take (n + 1)) B) := Lib.hid (by rw [HN.out, List.take_of_length_le (Nat.le_refl _)])
              have hql : (M ++ (B.take B.length).map fun y => x + y).length ≤ 300 * n + 300 := by simp; omega
              generalize (M ++ (B.take B.length).map fun y => x + y) = Q at *
              have HO2 := Lib.hid hown
              clear hb hown
              go_wp2_with fail
              go_roundw
              case rel => exact ⟨n + 1, Q, by omega, by go_num, HQ.out, by omega, HO2.out, hbel⟩
              case measure => simp [intOf]; omega
        · obtain rfl : n = A.length := by omega
          have HE : Hid (M = allSums A B) := Lib.hid (by rw [HM.out, List.take_of_length_le (Nat.le_refl _)])
          have hs := impl_sortOnce w'.heap.size M _ wr hown (by omega) hbel.size
          clear ha hb hown HM
          go_wp2_with fail
          refine hs.mono ?_
          rintro e w2 ⟨u, rfl, ho, hb2⟩
          have HO2 := Lib.hid ho
          have hb3 := hbel.trans hb2
          clear hs ho
          go_wp2_with fail
          go_ret
          rw [HO.out, ← HE.out]
          exact ⟨u, rfl, HO2.out, hb3⟩
end Go.Proofs.YtjahmlaocgcjpaaGreatDoor
