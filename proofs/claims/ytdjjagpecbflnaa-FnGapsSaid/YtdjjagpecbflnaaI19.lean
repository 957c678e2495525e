/-
  CONTRACTS of the program's chapter 4, fifth part: SmallElements. (Own work.)
-/
import Derived.Test.YtdjjagpecbflnaaI17
import Derived.Test.YtdjjagpecbflnaaL15
namespace Go.Proofs.Ytdjjagpecbflnaa
open Go Go.RowKit

set_option maxRecDepth 100000 in
set_option maxHeartbeats 1600000 in
theorem impl_SmallElements (G : List Int) (a : Option Addr) (cap : Nat) (w : World) (hr : SlV w a (G.map (Value.int .i64))) (hb : G.length ≤ 1048576) :
    Calls Try.prog 14 #[.agg #[.slice a G.length cap]] w (SlPost (smallL G) w) := by
  have hb0 := box_below w (.cells #[.slice a G.length cap] 26)
  have hc0 := box_cell w (.slice a G.length cap)
  have c1 := impl_elementsOf G a cap _ (hr.below hb0) hb
  have HT := fun f => Lib.hid (tabB_one f 260)
  obtain ⟨i0, hi, hz0, hz1, hz2⟩ := info_parts infoIntL
  cases hs : isSgB G
  · have HR := Lib.hid (smallL_no hs)
    unfold ElPost at c1
    rw [hs] at c1
    clear hs
    go_enter Try.func14, Try.ntmps14
    go_wp2_with fail
    refine c1.mono ?_
    rintro e w1 ⟨rfl, hb1⟩
    have hbz := hb0.trans (hb1.mono hb0.size)
    have hA := Arr.new w1 48 (tabB (fun _ => false) 260)
    have hbz2 := hbz.alloc (o := .cells (tabB (fun _ => false) 260).toArray 48) hbz.size
    have hzw := hb1.size
    rw [World.size_alloc] at hzw
    clear c1 hc0 hb1 hb0
    go_wp2_with (first
      | (refine wpList_alloc_arr 48 (tabB (fun _ => false) 260) zeroT rfl rfl ?_)
      | (refine wpList_store_arr 48 (.tmp 3) (.tmp 10) w1.heap.size (tabB (fun _ => false) 260) (tabB (elF G) 260) rfl rfl rfl rfl hA (by rw [tabB_length, tabB_length]) (sizeTl _) (HT _).out ?_; intro w3 hB hg3 hz3))
    have hb3 := hbz2.grown hg3 hbz2.size (fun k hk => by cases hk; exact hbz.size)
    go_ret
    exact ⟨_, rfl, by rw [HR.out]; exact World.ownsRow_nil _ _ _ _, hb3⟩
  · have c2 : ∀ W, Below w.heap.size w W → Calls Try.prog 28 #[.agg #[.slice a G.length cap]] W fun e w' => e = .returned (.int .i64 (condNat G : Int)) ∧ Below W.heap.size W w' := fun W h => by
      have h := impl_ConductorOf G a cap W (hr.below h) hb
      rw [condN_yes hs] at h
      exact h
    have HS := Lib.hid (smallL_yes hs)
    have hC := condNat_le G
    have ch : ∀ (k : Nat) W, k < 200 → Calls Try.prog 44 #[.agg (tabB (elF G) 260).toArray, .int .i64 (k : Int)] W fun e w' => e = .returned (.bool (sumB G k)) ∧ Below W.heap.size W w' := fun k W hk =>
      impl_has (elF G) (k : Int) (sumB G k) W (by rw [if_neg (by omega), if_pos (by omega), Int.toNat_natCast, elF_at hs])
    clear hr
    generalize condNat G = C at *
    unfold ElPost at c1
    rw [hs] at c1
    clear hs
    go_enter Try.func14, Try.ntmps14
    go_wp2_with fail
    refine c1.mono ?_
    rintro e w1 ⟨rfl, hb1⟩
    have hbz := hb0.trans (hb1.mono hb0.size)
    have hA := Arr.new w1 48 (tabB (fun _ => false) 260)
    have hbz2 := hbz.alloc (o := .cells (tabB (fun _ => false) 260).toArray 48) hbz.size
    have hzw := hb1.size
    rw [World.size_alloc] at hzw
    have hc1 : (w1.alloc (.cells (tabB (fun _ => false) 260).toArray 48)).cell? ⟨w.heap.size, 0, none⟩ = some (.slice a G.length cap) := ((box_below w1 _).cell (p := ⟨w.heap.size, 0, none⟩) (by show w.heap.size < w1.heap.size; omega)).trans ((hb1.cell (p := ⟨w.heap.size, 0, none⟩) (by simp)).trans hc0)
    clear c1 hc0 hb1 hb0
    go_wp2_with (first
      | (refine wpList_alloc_arr 48 (tabB (fun _ => false) 260) zeroT rfl rfl ?_)
      | (refine wpList_store_arr 48 (.tmp 3) (.tmp 10) w1.heap.size (tabB (fun _ => false) 260) (tabB (elF G) 260) rfl rfl rfl rfl hA (by rw [tabB_length, tabB_length]) (sizeTl _) (HT _).out ?_; intro w3 hB hg3 hz3; have hc3 := hg3.cell hc1 (by simp; omega)))
    have hb3 := hbz2.grown hg3 hbz2.size (fun k hk => by cases hk; exact hbz.size)
    refine (c2 _ hb3).mono ?_
    rintro e w4 ⟨rfl, hb4⟩
    have hB4 := hB.below hb4
    have hbz4 := hb3.trans (hb4.mono hb3.size)
    have hz4 : w1.heap.size + 1 ≤ w4.heap.size := by have h := hb4.size; rw [hz3] at h; simp at h; exact h
    have hsw := hbz.size
    clear c2 hc3 hc1 hB hg3 hz3 hA hbz2 hb3 hb4
    go_wp2_with fail
    go_loopw [5, 16] (fun v i wr => ∃ (k : Nat) (M : List Int), k ≤ C ∧ i = .int .i64 (k : Int) ∧ M = (upB (sumB G) k).map Int.ofNat ∧ M.length ≤ k ∧
        wr.ownsRow (w1.heap.size + 1) 3 1 v M.length (M.map (Value.int .i64)) ∧ Arr wr w1.heap.size 48 (tabB (elF G) 260) ∧ w1.heap.size + 1 ≤ wr.heap.size ∧ Below w.heap.size w wr) (fun _ i _ => C - (intOf i).toNat)
    case atStart => exact ⟨0, [], Nat.zero_le _, rfl, rfl, by simp, World.ownsRow_nil _ _ _ _, hB4, hz4, hbz4⟩
    case round =>
      clear hB4 hz4 hbz4
      obtain ⟨k, M, hk, rfl, hMe, hMk, hown, hB, hsz, hbel⟩ := hrel
      have HMe := Lib.hid hMe
      clear hMe
      by_cases hlt : k < C
      · have c3 := ch k wr (by omega)
        have hlti : (k : Int) < (C : Int) := by omega
        go_wp2_with (first
          | (refine wpList_load_arr 48 (.tmp 3) w1.heap.size (tabB (elF G) 260) (.array 260 4) rfl rfl rfl hB undT rfl (sizeTl _) ?_))
        refine c3.mono ?_
        rintro e w5 ⟨rfl, hb5⟩
        have hB5 := hB.below hb5
        have hown5 := owns_below hown hb5
        have hbel5 := hbel.trans (hb5.mono hbel.size)
        have hsz5 := Nat.le_trans hsz hb5.size
        have hne5 := own_ne hown5 (g := w1.heap.size) (.inl (by omega))
        clear c3 hb5 hB hown hbel hsz
        cases hp : sumB G k
        · have HMN : Hid (M = (upB (sumB G) (k + 1)).map Int.ofNat) := Lib.hid (by rw [HMe.out, upB_succ, hp]; rfl)
          clear hp
          go_wp2_with fail
          go_roundw
          case rel => exact ⟨k + 1, M, by omega, by go_num, HMN.out, by omega, hown5, hB5, hsz5, hbel5⟩
          case measure => simp [intOf]; omega
        · have HMN : Hid (M ++ [(k : Int)] = (upB (sumB G) (k + 1)).map Int.ofNat) := Lib.hid (by rw [HMe.out, upB_succ, hp, if_pos rfl, List.map_append]; rfl)
          clear hp
          go_wp2_with (first
            | (at_builtin; refine wpList_append_own _ rfl (.tmp 22) (.tmp 24) 24 rfl (w1.heap.size + 1) 3 i0 (Value.int .i64 0) 1 8 Try.underlying24 hi hz0 hz1 hz2 rfl (by decide) _ _ _ rfl (hown5.alloc _) ⟨_, 0, none⟩ 1 1 [.int .i64 (k : Int)] rfl rfl (World.news_of_block (cs := #[.int .i64 (k : Int)]) (t := 3) (fr := (0, 0)) (heap_alloc_new _ _)) (by simp [Value.oneCell']) (by unfold maxLen; omega) (by omega) (by simp; omega) ?_; intro v6 w6 hown6 hg6 _))
          have hd4 := (hB5.alloc (.cells #[.int .i64 (k : Int)] 3)).grown hg6 (own_row hne5)
          have hbel6 := (hbel5.alloc hbel5.size (.cells #[.int .i64 (k : Int)] 3)).grown hg6 (by simp; omega) (fun j hj => by have := (hown5.lt j hj).1; omega)
          have hs6 : w1.heap.size + 1 ≤ w6.heap.size := by have := hg6.size; simp at this; omega
          have HO := Lib.hid hown6
          clear hown6 hg6 hown5
          go_roundw
          case rel => exact ⟨k + 1, M ++ [(k : Int)], by omega, by go_num, HMN.out, by rw [List.length_append, List.length_singleton]; omega, by rw [List.length_append, List.length_singleton, List.map_append]; exact HO.out, hd4, hs6, hbel6⟩
          case measure => simp [intOf]; omega
      · obtain rfl : k = C := by omega
        have HE : Hid (smallL G = M) := Lib.hid (by rw [HS.out, HMe.out])
        go_wp2_with fail
        go_ret
        exact ⟨_, rfl, by rw [HE.out]; exact owns_wider hown (by omega), hbel⟩
end Go.Proofs.Ytdjjagpecbflnaa
