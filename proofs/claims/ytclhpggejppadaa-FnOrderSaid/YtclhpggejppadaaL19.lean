/-
  CHAPTER 6 OF THE REFERENCE: AperySet, FrobeniusByApery, GenusByApery. (Own work.)
-/
import Derived.Test.YtclhpggejppadaaSgA
namespace Go.Proofs.Ytclhpggejppadaa
open Go Go.RowKit

theorem ap_next {p : Nat → Bool} {n r x m : Nat} (h : Least p n r x) (hm : m % n = r) (hle : m ≤ x) (hp : p m = false) : m + n ≤ x := by
  obtain ⟨i, hi⟩ := class_form h.cls
  obtain ⟨j, hj⟩ := class_form hm
  have hne : m ≠ x := fun e => by rw [e, h.has] at hp; cases hp
  have hji : j < i := by
    rcases Nat.lt_or_ge j i with h' | h'
    · exact h'
    · have := Nat.mul_le_mul_right n h'; omega
  have h4 := Nat.mul_le_mul_right n (show j + 1 ≤ i from hji)
  rw [Nat.succ_mul] at h4
  omega
theorem apL_take (p : Nat → Bool) (n r : Nat) : (List.range (r + 1)).map (fun j => (apOf p n j : Int)) = (List.range r).map (fun j => (apOf p n j : Int)) ++ [(apOf p n r : Int)] := by
  rw [List.range_succ, List.map_append]; rfl

theorem l1Max_any (x y : Int) (w : World) : Calls Try.prog 112 #[.int .i64 x, .int .i64 y] w fun e w' => e = .returned (.int .i64 (max x y)) ∧ w' = w := by
  by_cases h : x < y
  · rw [show max x y = y by omega]
    have h2 : ¬ y < x := by omega
    go_enter Try.func112, Try.ntmps112
    go_wp2_with fail
    go_ret
    exact ⟨rfl, rfl⟩
  · rw [show max x y = x by omega]
    by_cases h2 : y < x
    · go_enter Try.func112, Try.ntmps112
      go_wp2_with fail
      go_ret
      exact ⟨rfl, rfl⟩
    · obtain rfl : x = y := by omega
      go_enter Try.func112, Try.ntmps112
      go_wp2_with fail
      go_ret
      exact ⟨rfl, rfl⟩
set_option maxRecDepth 100000 in
set_option maxHeartbeats 3200000 in
theorem spec_l6Apery (G : List Int) (N : Nat) (a : Option Addr) (cap : Nat) (w : World) (hr : SlV w a (G.map (Value.int .i64))) (h : ApIn G N) :
    Calls Try.prog 74 #[.agg #[.slice a G.length cap], .int .i64 (N : Int)] w (SlPost (apL (sumB G) N) w) := by
  obtain ⟨i0, hi, hz0, hz1, hz2⟩ := info_parts infoIntL
  have hS := isSgB_iff.1 h.sg
  have hl := hS.len
  have HL := Lib.hid (fun r (hr : r < N) => apOf_least h.far h.pos hr)
  have HX := Lib.hid (fun r (hr : r < N) => apOf_lt h.far h.pos hr)
  have hN1 := h.pos
  have hN6 := h.le
  obtain ⟨W, hW⟩ : ∃ W, W = w.alloc (.cells #[.slice a G.length cap] 26) := ⟨_, rfl⟩
  have hbW : Below w.heap.size w W := by rw [hW]; exact box_below _ _
  have hc0 : W.cell? ⟨w.heap.size, 0, none⟩ = some (.slice a G.length cap) := by rw [hW]; exact box_cell w _
  have HW := Lib.hid hW
  clear hW
  have ct := spec_l3Table G a cap 260 W (hr.below hbW) (by omega) (okG_pos hS.ok) (by omega)
  clear hr hS h
  go_enter Try.func74, Try.ntmps74
  go_wp2_with fail
  rw [← HW.out]
  refine ct.mono ?_
  rintro e w1 ⟨v, rfl, ho, hb1⟩
  obtain ⟨g, c, rfl, ht⟩ := tab_last ho
  have hg1 := (owns_facts ho).1
  have hg2 := (owns_facts ho).2.1
  have hb01 := hbW.trans (hb1.mono hbW.size)
  have hown1 : (w1.alloc (.cells #[] 3)).ownsRow w.heap.size 3 1 (.slice (some ⟨w1.heap.size, 0, none⟩) 0 0) 0 [] := World.ownsRow_lit w1 #[] 0 hb01.size (by simp) rfl
  have hbel1 := hb01.alloc (o := .cells #[] 3) hb01.size
  have HT := Lib.hid (show ∀ j, j ≤ 260 → (w1.alloc (.cells #[] 3)).cell? ⟨g, j, none⟩ = some (.bool (sumB G j)) from fun j hj => (World.cell?_alloc_lt w1 _ ⟨g, j, none⟩ hg2).trans (ht j hj))
  have hgz : g < (w1.alloc (.cells #[] 3)).heap.size := by simp; omega
  clear ct ho hb1 ht hc0 hbW hb01
  go_wp2_with fail
  go_loopw [6, 7] (fun v i wr => ∃ (r q c : Nat) (M : List Int), r ≤ N ∧ i = .int .i64 (r : Int) ∧ M = (List.range r).map (fun j => (apOf (sumB G) N j : Int)) ∧ v = .slice (some ⟨q, 0, none⟩) M.length c ∧
      wr.ownsRow w.heap.size 3 1 (.slice (some ⟨q, 0, none⟩) M.length c) M.length (M.map (Value.int .i64)) ∧ q ≠ g ∧ g < wr.heap.size ∧ Hid (∀ j, j ≤ 260 → wr.cell? ⟨g, j, none⟩ = some (.bool (sumB G j))) ∧ Below w.heap.size w wr) (fun _ i _ => N - (intOf i).toNat)
  case atStart => exact ⟨0, w1.heap.size, 0, [], Nat.zero_le _, rfl, rfl, rfl, hown1, by omega, hgz, HT, hbel1⟩
  case round =>
    clear hown1 hbel1 HT hgz
    obtain ⟨r, q, c, M, hrN, rfl, hMe, rfl, hown, hne, hgl, HT, hbel⟩ := hrel
    have HMe := Lib.hid hMe
    have hML : M.length ≤ 60 := by rw [hMe, List.length_map, List.length_range]; omega
    clear hMe
    by_cases hlt : r < N
    · have hleast := HL.out r hlt
      have hx := HX.out r hlt
      have hlti : (r : Int) < (N : Int) := by omega
      have HMS := Lib.hid (apL_take (sumB G) N r)
      rw [← HMe.out] at HMS
      generalize apOf (sumB G) N r = X at *
      go_wp2_with fail
      go_loopw [8] (fun v wr' => ∃ m : Nat, v = .int .i64 (m : Int) ∧ m % N = r ∧ m ≤ X ∧ wr' = wr) (fun v _ => X - (intOf v).toNat)
      case atStart => exact ⟨r, rfl, Nat.mod_eq_of_lt hlt, by have := hleast.cls; have := Nat.mod_le X N; omega, rfl⟩
      case round =>
        obtain ⟨m, rfl, hm, hmX, rfl⟩ := hrel
        have hcell := HT.out m (by omega)
        have hm0 : (0 : Int) ≤ (m : Int) := by omega
        have hm1 : (m : Int) < 261 := by omega
        cases hp : sumB G m
        · rw [hp] at hcell
          have hnx := ap_next hleast hm hmX hp
          have hw1 : IntKind.i64.wrap ((m : Int) + (N : Int)) = ((m + N : Nat) : Int) := by rw [IntWalk.i64_in _ (by omega)]; omega
          go_wp2_with fail
          go_roundw
          case rel => exact ⟨m + N, rfl, by rw [Nat.add_mod_right]; exact hm, hnx, by simp⟩
          case measure => simp [intOf]; omega
        · rw [hp] at hcell
          obtain rfl : X = m := Nat.le_antisymm (hleast.min m hm hp) hmX
          have hsz2 := hbel.size
          clear hp
          go_wp2_with (at_builtin; refine wpList_append_lies _ rfl _ _ 24 rfl w.heap.size 3 i0 (Value.int .i64 0) 1 8 Try.underlying24 hi hz0 hz1 hz2 rfl (by decide) (.slice (some ⟨q, 0, none⟩) M.length c) M.length (M.map (Value.int .i64)) rfl (hown.alloc _) ⟨wr.heap.size, 0, none⟩ 1 1 [.int .i64 (X : Int)] rfl rfl (World.news_of_block (cs := #[.int .i64 (X : Int)]) (t := 3) (fr := (0, 0)) (heap_alloc_new wr _)) (by simp [Value.oneCell']) (by omega) (by unfold maxLen; omega) (by omega) (by simp; omega) _ rfl ?_; intro q3 c3 w3 hown3 hgr3 hat3 hlt3)
          have hb3 := (hbel.alloc hsz2 _).grown hgr3 (by simp; omega) (fun j hj => by simp [Value.ownBlock] at hj; have := (owns_facts hown).1; omega)
          have hblk : w3.heap[g]? = wr.heap[g]? := (hgr3.block g (by simp; omega) (by simp [Value.ownBlock]; omega)).trans (Below.heap_alloc wr _ g hgl)
          have hgl3 : g < w3.heap.size := by have := hgr3.size; simp at this; omega
          have hq3 : q3 ≠ g := by
            rcases hat3 with h | h
            · simp [Value.ownBlock] at h; omega
            · simp at h; omega
          have HT3 := Lib.hid (show ∀ j, j ≤ 260 → w3.cell? ⟨g, j, none⟩ = some (.bool (sumB G j)) from fun j hj => (World.cell?_of_block (a := ⟨g, j, none⟩) hblk).trans (HT.out j hj))
          have HO := Lib.hid hown3
          clear hown3 hown hgr3 hblk HT
          go_wp2_with fail
          go_roundw
          case rel => exact ⟨r + 1, q3, c3, M ++ [(X : Int)], by omega, by go_num, HMS.out.symm, by rw [List.length_append, List.length_singleton], by have := HO.out; simpa using this, hq3, hgl3, HT3, hb3⟩
          case measure => simp [intOf]; omega
    · obtain rfl : r = N := by omega
      go_wp2_with fail
      go_ret
      exact ⟨_, rfl, by unfold apL; rw [← HMe.out]; exact hown, hbel⟩
set_option maxRecDepth 100000 in
set_option maxHeartbeats 1600000 in
theorem spec_AperySet (G : List Int) (n : Int) (a : Option Addr) (cap : Nat) (w : World) (hr : SlV w a (G.map (Value.int .i64))) (hb : G.length ≤ 1048576) :
    Calls Try.prog 44 #[.agg #[.slice a G.length cap], .int .i64 n] w (SlPost (aperyL G n) w) := by
  obtain ⟨W, hW⟩ : ∃ W, W = w.alloc (.cells #[.slice a G.length cap] 26) := ⟨_, rfl⟩
  have hbW : Below w.heap.size w W := by rw [hW]; exact box_below _ _
  have hc0 : W.cell? ⟨w.heap.size, 0, none⟩ = some (.slice a G.length cap) := by rw [hW]; exact box_cell w _
  have hWs : w.heap.size < W.heap.size := by rw [hW]; simp
  have HW := Lib.hid hW
  clear hW
  have c1 := spec_Contains G n a cap W (hr.below hbW) hb
  have ci := fun w => l1In_any n 1 60 w
  cases hh : hasN G n
  · have HR := Lib.hid (aperyL_no (G := G) (n := n) (by rw [hh]; rfl))
    rw [hh] at c1
    clear hh hr ci
    go_enter Try.func44, Try.ntmps44
    go_wp2_with fail
    rw [← HW.out]
    refine c1.mono ?_
    rintro e w1 ⟨rfl, hb1⟩
    have hbz := hbW.trans (hb1.mono hbW.size)
    have hown0 : (w1.alloc (.cells #[] 3)).ownsRow w.heap.size 3 1 (.slice (some ⟨w1.heap.size, 0, none⟩) 0 0) 0 [] := World.ownsRow_lit w1 #[] 0 hbz.size (by simp) rfl
    go_wp2_with fail
    go_ret
    exact ⟨_, rfl, by rw [HR.out]; exact hown0, hbz.alloc hbz.size _⟩
  · cases hin : inB n 1 60
    · have HR := Lib.hid (aperyL_no (G := G) (n := n) (by rw [hh, hin]; rfl))
      rw [hh] at c1
      rw [hin] at ci
      clear hh hr hin
      go_enter Try.func44, Try.ntmps44
      go_wp2_with fail
      rw [← HW.out]
      refine c1.mono ?_
      rintro e w1 ⟨rfl, hb1⟩
      have hbz := hbW.trans (hb1.mono hbW.size)
      have hown0 : (w1.alloc (.cells #[] 3)).ownsRow w.heap.size 3 1 (.slice (some ⟨w1.heap.size, 0, none⟩) 0 0) 0 [] := World.ownsRow_lit w1 #[] 0 hbz.size (by simp) rfl
      go_wp2_with fail
      refine (ci _).mono ?_
      rintro e w' ⟨rfl, rfl⟩
      go_wp2_with fail
      go_ret
      exact ⟨_, rfl, by rw [HR.out]; exact hown0, hbz.alloc hbz.size _⟩
    · obtain ⟨N, rfl, hN⟩ := apIn_of (show (hasN G n && inB n 1 60) = true by rw [hh, hin]; rfl)
      have HR := Lib.hid (aperyL_in hN)
      rw [hh] at c1
      rw [hin] at ci
      have c2 := fun W (h : Below w.heap.size w W) => spec_l6Apery G N a cap W (hr.below h) hN
      clear hh hin hr hN
      go_enter Try.func44, Try.ntmps44
      go_wp2_with fail
      rw [← HW.out]
      refine c1.mono ?_
      rintro e w1 ⟨rfl, hb1⟩
      have hbz := hbW.trans (hb1.mono hbW.size)
      have hk : w1.cell? ⟨w.heap.size, 0, none⟩ = some (.slice a G.length cap) := by rw [hb1.cell (p := ⟨w.heap.size, 0, none⟩) hWs]; exact hc0
      go_wp2_with fail
      refine (ci _).mono ?_
      rintro e w' ⟨rfl, rfl⟩
      go_wp2_with fail
      refine (c2 _ hbz).mono ?_
      rintro e w2 ⟨v, rfl, ho, hb2⟩
      obtain ⟨a1, k1, rfl, rX⟩ := row_open ho
      clear c1 c2 ci hk hb1 rX
      rw [← HR.out] at ho ⊢
      have HO := Lib.hid ho
      clear ho
      go_wp2_with fail
      go_ret
      exact ⟨_, rfl, owns_wider HO.out hbz.size, hbz.trans (hb2.mono hbz.size)⟩
end Go.Proofs.Ytclhpggejppadaa
