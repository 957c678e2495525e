/-
  CONTRACTS of the draws of chapter 3: semigroups, with a number; lists of generators.
-/
import Derived.Test.YtdjjagpecbflnaaGreatDoorDrw
import Derived.Test.YtdjjagpecbflnaaGreatDoorSgD
import Derived.Test.YtdjjagpecbflnaaGreatDoorL12
import Derived.Test.YtdjjagpecbflnaaGreatDoorSgL
import Derived.Deep.RegionLaw
namespace Go.Proofs.YtdjjagpecbflnaaGreatDoor
open Go Go.RowKit

theorem Dr.belowW {W w w' : World} {N : Nat} {a : Option Addr} {len cap : Nat} {zs : List Int} (h : Dr W w N a len cap zs) (hb : Below w.heap.size w w') : Dr W w' N a len cap zs := by
  have hlt := h.lt
  obtain ⟨i, hh, hi, hbk⟩ := h.cur
  exact ⟨h.base, h.bel.trans (hb.mono h.bel.size), h.row, ⟨i, hh, hi, (hb.block N hlt).trans hbk⟩⟩
theorem grown_below {w w' w2 : World} {N : Nat} (h : w.grownBy w' (some N)) (hb : Below w'.heap.size w' w2) : w.grownBy w2 (some N) :=
  grown_more h (below_grownBy hb none) (fun k hk => by cases hk)
theorem Arr.grownN {w w' : World} {g N : Nat} {t : TypeId} {cs : List Value} (h : Arr w g t cs) (hg : w.grownBy w' (some N)) (hne : g ≠ N) : Arr w' g t cs := h.grown hg (fun e => hne (by injection e))

/-- A draw made a list of the eight. -/
def DrewB (W w : World) (N : Nat) (a : Option Addr) (len cap : Nat) (zs : List Int) (e : Ending) (w' : World) : Prop :=
  ∃ (G : List Nat) (v : Value), G ∈ baseL ∧ e = .returned v ∧ w'.ownsRow w.heap.size 3 1 v G.length ((G.map fun g : Nat => (g : Int)).map (Value.int .i64)) ∧ Dr W w' N a len cap zs ∧ w.grownBy w' (some N)

set_option maxRecDepth 100000 in
set_option maxHeartbeats 1600000 in
theorem l3List_dr {W w : World} {N : Nat} {a : Option Addr} {len cap : Nat} {zs : List Int} (hd : Dr W w N a len cap zs) :
    Calls Tryz.prog 55 #[.pointer (some ⟨N, 0, none⟩)] w (DrewB W w N a len cap zs) := by
  go_enter Tryz.func55, Tryz.ntmps55
  go_wp2_with fail
  refine (l1Below_dr hd 8 (by decide)).mono ?_
  rintro e w1 ⟨x, ⟨hx0, hx⟩, rfl, hd1, hg1⟩
  have hsz := hg1.size
  have hcs : x = 0 ∨ x = 1 ∨ x = 2 ∨ x = 3 ∨ x = 4 ∨ x = 5 ∨ x = 6 ∨ x = 7 := by omega
  clear hx hx0 hd
  rcases hcs with rfl | rfl | rfl | rfl | rfl | rfl | rfl | rfl
  · go_wp2_with fail
    go_ret
    exact ⟨[1], _, by decide, rfl, World.ownsRow_lit w1 #[.int .i64 1] 1 hsz (by unfold maxLen; omega) rfl, hd1.alloc _, grown_alloc hg1 _⟩
  · go_wp2_with fail
    go_ret
    exact ⟨[3, 5], _, by decide, rfl, World.ownsRow_lit w1 #[.int .i64 3, .int .i64 5] 2 hsz (by unfold maxLen; omega) rfl, hd1.alloc _, grown_alloc hg1 _⟩
  · go_wp2_with fail
    go_ret
    exact ⟨[4, 6, 9], _, by decide, rfl, World.ownsRow_lit w1 #[.int .i64 4, .int .i64 6, .int .i64 9] 3 hsz (by unfold maxLen; omega) rfl, hd1.alloc _, grown_alloc hg1 _⟩
  · go_wp2_with fail
    go_ret
    exact ⟨[3, 4, 5], _, by decide, rfl, World.ownsRow_lit w1 #[.int .i64 3, .int .i64 4, .int .i64 5] 3 hsz (by unfold maxLen; omega) rfl, hd1.alloc _, grown_alloc hg1 _⟩
  · go_wp2_with fail
    go_ret
    exact ⟨[6, 9, 20], _, by decide, rfl, World.ownsRow_lit w1 #[.int .i64 6, .int .i64 9, .int .i64 20] 3 hsz (by unfold maxLen; omega) rfl, hd1.alloc _, grown_alloc hg1 _⟩
  · go_wp2_with fail
    go_ret
    exact ⟨[5, 7, 9, 11], _, by decide, rfl, World.ownsRow_lit w1 #[.int .i64 5, .int .i64 7, .int .i64 9, .int .i64 11] 4 hsz (by unfold maxLen; omega) rfl, hd1.alloc _, grown_alloc hg1 _⟩
  · go_wp2_with fail
    go_ret
    exact ⟨[2, 3], _, by decide, rfl, World.ownsRow_lit w1 #[.int .i64 2, .int .i64 3] 2 hsz (by unfold maxLen; omega) rfl, hd1.alloc _, grown_alloc hg1 _⟩
  · go_wp2_with fail
    go_ret
    exact ⟨[4, 5, 11], _, by decide, rfl, World.ownsRow_lit w1 #[.int .i64 4, .int .i64 5, .int .i64 11] 3 hsz (by unfold maxLen; omega) rfl, hd1.alloc _, grown_alloc hg1 _⟩

/-- A draw made a semigroup. -/
def DrewSg (W w : World) (N : Nat) (a : Option Addr) (len cap : Nat) (zs : List Int) (e : Ending) (w' : World) : Prop :=
  ∃ (L : List Int) (v : Value), isSgB L = true ∧ e = .returned (.agg #[v]) ∧ w'.ownsRow w.heap.size 3 1 v L.length (L.map (Value.int .i64)) ∧ Dr W w' N a len cap zs ∧ w.grownBy w' (some N)

theorem SlV.of_owns' {w : World} {base : Nat} {e : TypeId} {g n cap : Nat} {xs : List Value} (h : w.ownsRow base e 1 (.slice (some ⟨g, 0, none⟩) n cap) n xs) : SlV w (some ⟨g, 0, none⟩) xs := by
  obtain ⟨a1, c1, e1, -, -, hs, -⟩ := SlV.of_owns h
  cases e1
  exact hs
theorem from_post {G : List Nat} (h : G ∈ baseL) {w : World} : SgPost (fromL (G.map fun g : Nat => (g : Int))) (fromB (G.map fun g : Nat => (g : Int))) w = SgPost (G.map fun g : Nat => (g : Int)) true w := by
  obtain ⟨h1, h2⟩ := from_sg (baseL_sg h)
  rw [h1, h2]

set_option maxRecDepth 100000 in
set_option maxHeartbeats 6400000 in
theorem l3Draw_dr {W w : World} {N : Nat} {a : Option Addr} {len cap : Nat} {zs : List Int} (hd : Dr W w N a len cap zs) :
    Calls Tryz.prog 26 #[.pointer (some ⟨N, 0, none⟩)] w (DrewSg W w N a len cap zs) := by
  obtain ⟨i0, hi, hz0, hz1, hz2⟩ := info_parts infoIntL
  have hN := hd.lt
  have hNne : w.heap.size ≠ N := by omega
  have hWw := hd.bel.size
  have hA0 := Arr.new w 26 [.slice none 0 0]
  have hg0 := grown_alloc (grown_refl w (some N)) (.cells #[.slice none 0 0] 26)
  go_enter Tryz.func26, Tryz.ntmps26
  go_wp2_with fail
  refine (l1Once_dr (hd.alloc _) 4 (by decide)).mono ?_
  rintro e w1 ⟨b, rfl, hd1, hg1⟩
  have hA1 := hA0.grownN hg1 hNne
  have hgw1 := grown_trans hg0 hg1
  clear hA0 hg0 hg1 hd
  cases b
  · go_wp2_with fail
    go_loopw [5] (fun i wr => ∃ k : Nat, k ≤ 4 ∧ i = .int .i64 (k : Int) ∧ Dr W wr N a len cap zs ∧ w.grownBy wr (some N) ∧ Arr wr w.heap.size 26 [.slice none 0 0]) (fun i _ => 4 - (intOf i).toNat)
    case atStart => exact ⟨0, by omega, rfl, hd1, hgw1, hA1⟩
    case round =>
      clear hd1 hgw1 hA1
      obtain ⟨k0, hk0, rfl, hd, hgw, hA⟩ := hrel
      by_cases hk4 : k0 < 4
      · have hk4' : (k0 : Int) < 4 := by omega
        go_wp2_with fail
        refine (l1Below_dr hd 8 (by decide)).mono ?_
        rintro e w2 ⟨x, ⟨hx0, hx⟩, rfl, hd2, hg2⟩
        have hx8 : x < 8 := by omega
        have hA2 := hA.grownN hg2 hNne
        have hgw2 := grown_trans hgw hg2
        have hxw : IntKind.i64.wrap (2 + x) = 2 + x := IntWalk.i64_in _ (by omega)
        have hz2' := hgw2.size
        clear hx hd hg2 hA hgw
        go_wp2_with fail
        refine (l1Below_dr (hd2.alloc _) 4 (by decide)).mono ?_
        rintro e w3 ⟨m, ⟨hm0, hm⟩, rfl, hd3, hg3⟩
        obtain ⟨M, rfl⟩ := Int.eq_ofNat_of_zero_le hm0
        have hM : M < 4 := by omega
        have hg3' := grown_trans (grown_alloc hgw2 (.cells #[.int .i64 (2 + x)] 3)) hg3
        have hA3 : Arr w3 w.heap.size 26 [.slice none 0 0] := (hA2.alloc _).grownN hg3 hNne
        have hown0 : (w2.alloc (.cells #[.int .i64 (2 + x)] 3)).ownsRow (w.heap.size + 1) 3 1 (.slice (some ⟨w2.heap.size, 0, none⟩) 1 1) 1 [.int .i64 (2 + x)] := World.ownsRow_lit w2 #[.int .i64 (2 + x)] 1 (by have := hA2.lt; omega) (by unfold maxLen; omega) rfl
        have hlw := hown0.lt
        have hown3 : w3.ownsRow (w.heap.size + 1) 3 1 (.slice (some ⟨w2.heap.size, 0, none⟩) 1 1) 1 [.int .i64 (2 + x)] := row_kept hown0 fun j hj => hg3.block j (hlw j hj).2 (fun e => by injection e with e; have := (hlw j hj).1; omega)
        have HX0 := Lib.hid hx0
        have HX8 := Lib.hid hx8
        have hz3 := hg3'.size
        have hd3b := hd3.base
        clear hm hg3 hA2 hgw2 hd2 hown0 hlw hxw hm0
        go_wp2_with fail
        go_loopw [6, 8] (fun v i wr => ∃ (k q c : Nat) (L : List Int) (x0 : Int), k ≤ M + 1 ∧ i = .int .i64 (k : Int) ∧ v = .slice (some ⟨q, 0, none⟩) L.length c ∧ L.length = k + 1 ∧ (2 ≤ x0 ∧ x0 ≤ 9 ∧ ∃ R, L = x0 :: R) ∧
            wr.ownsRow (w.heap.size + 1) 3 1 (.slice (some ⟨q, 0, none⟩) L.length c) L.length (L.map (Value.int .i64)) ∧ Dr W wr N a len cap zs ∧ w.grownBy wr (some N) ∧ Arr wr w.heap.size 26 [.slice none 0 0]) (fun _ i _ => M + 1 - (intOf i).toNat)
        case atStart => exact ⟨0, w2.heap.size, 1, [2 + x], 2 + x, by omega, rfl, rfl, rfl, ⟨by have := HX0.out; omega, by have := HX8.out; omega, [], rfl⟩, hown3, hd3, hg3', hA3⟩
        case round =>
          clear hown3 hd3 hg3' hA3
          obtain ⟨k, q, c, L, x0, hk, rfl, rfl, hLk, ⟨hx2, hx9, hX⟩, hown, hd, hgw, hA⟩ := hrel
          have HL := Lib.hid hLk
          have HX := Lib.hid hX
          have hL6 : L.length ≤ 6 := by omega
          clear hLk
          by_cases hkM : k < M + 1
          · have hkM' : (k : Int) < (M : Int) + 1 := by omega
            have hq := (owns_facts hown).1
            have hql := (owns_facts hown).2.1
            have hNq : N < w.heap.size + 1 := by omega
            have hqN : q ≠ N := by omega
            have hcell : wr.cell? ⟨q, 0, none⟩ = some (.int .i64 x0) := by
              obtain ⟨b, off, e2, hbs, hc⟩ := (SlV.of_owns' hown).open (by obtain ⟨R, rfl⟩ := hX; simp)
              cases e2
              obtain ⟨R, rfl⟩ := hX
              have := hc 0 (.int .i64 x0) rfl
              simpa using this
            have hLp : 0 < L.length := by obtain ⟨R, rfl⟩ := hX; simp
            have hdd : Dr W wr.drew N a len cap zs := hd.drewN 1
            have hw1 : IntKind.i64.wrap (x0 + 1) = x0 + 1 := IntWalk.i64_in _ (by omega)
            clear hX hd
            go_wp2_with fail
            refine wp_region_held_drew (S := fun _ => True) (by kernel_rfl) trivial (fun hHeld => ?_)
            refine held_take 0 _ _ rfl (by kernel_rfl) (by kernel_rfl) (by kernel_rfl) (fun _ _ _ h => h) (by rfl) hHeld (fun w hSw => by (try dsimp only at hSw); go_simp; try with_reducible rfl) ?_
            (try simp only [Act.put, List.setIfInBounds_toArray, List.set_cons_zero, List.set_cons_succ, List.getElem_toArray, List.getElem_cons_zero])
            refine held_take 1 _ _ rfl (by kernel_rfl) (by kernel_rfl) (by kernel_rfl) (fun _ _ _ h => h) (by rfl) hHeld (fun w hSw => by (try dsimp only at hSw); go_simp; try with_reducible rfl) ?_
            (try simp only [Act.put, List.setIfInBounds_toArray, List.set_cons_zero, List.set_cons_succ, List.getElem_toArray, List.getElem_cons_succ, List.getElem_cons_zero])
            refine held_take 2 _ _ rfl (by kernel_rfl) (by kernel_rfl) (by kernel_rfl) (fun _ _ _ h => h) (by rfl) hHeld (fun w hSw => by (try dsimp only at hSw); go_simp; try with_reducible rfl) ?_
            (try simp only [Act.put, List.setIfInBounds_toArray, List.set_cons_zero, List.set_cons_succ, List.getElem_toArray, List.getElem_cons_succ, List.getElem_cons_zero])
            refine held_take 5 _ _ rfl (by kernel_rfl) (by kernel_rfl) (by kernel_rfl) (fun _ _ _ h => h) (by rfl) hHeld (fun w hSw => by (try dsimp only at hSw); go_simp; try with_reducible rfl) ?_
            (try simp only [Act.put, List.setIfInBounds_toArray, List.set_cons_zero, List.set_cons_succ, List.getElem_toArray, List.getElem_cons_succ, List.getElem_cons_zero])
            refine wpAnyH_ready (rs := [3, 6]) (by kernel_rfl) (by simp) ?_
            refine AllReadyH.cons rfl (fun K hK => ?_) (AllReadyH.cons rfl (fun K hK => ?_) AllReadyH.nil)
            · rw [if_pos (by rfl)]
              go_wp2_with fail
              refine hK.out _ _ (hHeld) (fun hHeld1 => ?_)
              clear hK K
              (try simp only [Act.put, List.setIfInBounds_toArray, List.set_cons_zero, List.set_cons_succ, List.getElem_toArray, List.getElem_cons_succ, List.getElem_cons_zero])
              refine held_take 4 _ _ rfl (by kernel_rfl) (by kernel_rfl) (by kernel_rfl) (fun _ _ _ h => h) (by rfl) hHeld1 (fun w hSw => by (try dsimp only at hSw); go_simp; try with_reducible rfl) ?_
              (try simp only [Act.put, List.setIfInBounds_toArray, List.set_cons_zero, List.set_cons_succ, List.getElem_toArray, List.getElem_cons_succ, List.getElem_cons_zero])
              refine wpAnyH_ready (rs := [6]) (by kernel_rfl) (by simp) ?_
              refine AllReadyH.cons rfl (fun K hK => ?_) AllReadyH.nil
              rw [if_pos (by rfl)]
              go_wp2_with (first | (go_at_call 40; (with_reducible refine (l1Below_dr hdd 12 (by decide)).mono ?_); rintro e w5 ⟨y, ⟨hy0, hy⟩, rfl, hd5, hg5⟩; have hc5 : w5.cell? ⟨q, 0, none⟩ = some (.int .i64 x0) := (grown_cell (w := wr.drew) hg5 hql hqN).trans hcell; have hy1 : y < 12 := (by omega); have hw2 : IntKind.i64.wrap (x0 + 1 + y) = x0 + 1 + y := IntWalk.i64_in _ (by omega); clear hy))
              refine hK.out _ _ (trivial) (fun hHeld2 => ?_)
              clear hK K
              (try simp only [Act.put, List.setIfInBounds_toArray, List.set_cons_zero, List.set_cons_succ, List.getElem_toArray, List.getElem_cons_succ, List.getElem_cons_zero])
              refine held_take 7 _ _ rfl (by kernel_rfl) (by kernel_rfl) (by kernel_rfl) (fun _ _ _ h => h) (by rfl) hHeld2 (fun w hSw => by (try dsimp only at hSw); go_simp; try with_reducible rfl) ?_
              (try simp only [Act.put, List.setIfInBounds_toArray, List.set_cons_zero, List.set_cons_succ, List.getElem_toArray, List.getElem_cons_succ, List.getElem_cons_zero])
              refine wpAnyH_ready (rs := [8]) (by kernel_rfl) (by simp) ?_
              refine AllReadyH.cons rfl (fun K hK => ?_) AllReadyH.nil
              rw [if_pos (by rfl)]
              go_wp2_with fail
              refine hK.out _ _ (hHeld2) (fun hHeld3 => ?_)
              clear hK K
              (try simp only [Act.put, List.setIfInBounds_toArray, List.set_cons_zero, List.set_cons_succ, List.getElem_toArray, List.getElem_cons_succ, List.getElem_cons_zero])
              refine wpAnyH_ready (rs := [9]) (by kernel_rfl) (by simp) ?_
              refine AllReadyH.cons rfl (fun K hK => ?_) AllReadyH.nil
              rw [if_pos (by rfl)]
              refine wp_append_lies _ (.tmp 38) (.tmp 46) 24 (by rfl) (w.heap.size + 1) 3 i0 (Value.int .i64 0) 1 8 Tryz.underlying24 hi hz0 hz1 hz2 rfl (by decide) (.slice (some ⟨q, 0, none⟩) L.length c) L.length (L.map (Value.int .i64)) (by rfl) ((dr_row hdd hown hNq hg5).alloc _) ⟨w5.heap.size, 0, none⟩ 1 1 [.int .i64 (x0 + 1 + y)] (by rfl) (by rfl) (World.news_of_block (cs := #[.int .i64 (x0 + 1 + y)]) (t := 3) (fr := (0, 0)) (heap_alloc_new w5 _)) (by simp [Value.oneCell']) (by omega) (by unfold maxLen; omega) (by omega) (by have hs5 : wr.heap.size ≤ w5.heap.size := hg5.size; simp; omega) _ rfl ?_; intro q3 c3 w6 hown6 hgr6 hat6 hlt6
              refine hK.out _ _ (trivial) (fun hHeld4 => ?_)
              clear hK K
              (try simp only [Act.put, List.setIfInBounds_toArray, List.set_cons_zero, List.set_cons_succ, List.getElem_toArray, List.getElem_cons_succ, List.getElem_cons_zero])
              refine held_take 10 _ _ rfl (by kernel_rfl) (by kernel_rfl) (by kernel_rfl) (fun _ _ _ h => h) (by rfl) hHeld4 (fun w hSw => by (try dsimp only at hSw); go_simp; try with_reducible rfl) ?_
              (try simp only [Act.put, List.setIfInBounds_toArray, List.set_cons_zero, List.set_cons_succ, List.getElem_toArray, List.getElem_cons_succ, List.getElem_cons_zero])
              refine wpAnyH_done (by kernel_rfl) ?_ _
              have hlow := (dr_row hdd hown hNq hg5).lt
              have hd6 : Dr W w6 N a len cap zs := (hd5.alloc _).grownR hgr6 (fun j hj => by have := (hlow j hj).1; have := hdd.base; have := hdd.lt; omega)
              have hgw6 : w.grownBy w6 (some N) := grown_more (grown_alloc (grown_trans (grown_drewN hgw 1) hg5) _) hgr6 (fun j hj => .inl (by have := (hlow j hj).1; omega))
              have hA6 : Arr w6 w.heap.size 26 [.slice none 0 0] := Arr.grownRow (Arr.alloc (Arr.grownN (w := wr.drew) (w' := w5) hA hg5 hNne) _) hgr6 (fun j hj => by have := (hlow j hj).1; omega)
              have HO := Lib.hid hown6
              clear hown6 hgr6 hat6 hlow hd5 hg5 hc5 hdd hown hA
              go_wp2_with fail
              go_roundw
              case rel => exact ⟨k + 1, q3, c3, L ++ [x0 + 1 + y], x0, by omega, by go_num, by simp, by have := HL.out; rw [List.length_append, List.length_singleton]; omega, ⟨hx2, hx9, by obtain ⟨Rr, rfl⟩ := HX.out; exact ⟨Rr ++ [x0 + 1 + y], rfl⟩⟩, by simpa using HO.out, hd6, hgw6, hA6⟩
              case measure => simp [intOf]; omega
            · rw [if_pos (by rfl)]
              go_wp2_with (first | (go_at_call 40; (with_reducible refine (l1Below_dr hdd 12 (by decide)).mono ?_); rintro e w5 ⟨y, ⟨hy0, hy⟩, rfl, hd5, hg5⟩; have hc5 : w5.cell? ⟨q, 0, none⟩ = some (.int .i64 x0) := (grown_cell (w := wr.drew) hg5 hql hqN).trans hcell; have hy1 : y < 12 := (by omega); have hw2 : IntKind.i64.wrap (x0 + 1 + y) = x0 + 1 + y := IntWalk.i64_in _ (by omega); clear hy))
              refine hK.out _ _ (trivial) (fun hHeld1 => ?_)
              clear hK K
              (try simp only [Act.put, List.setIfInBounds_toArray, List.set_cons_zero, List.set_cons_succ, List.getElem_toArray, List.getElem_cons_succ, List.getElem_cons_zero])
              refine wpAnyH_ready (rs := [3]) (by kernel_rfl) (by simp) ?_
              refine AllReadyH.cons rfl (fun K hK => ?_) AllReadyH.nil
              rw [if_pos (by rfl)]
              go_wp2_with fail
              refine hK.out _ _ (hHeld1) (fun hHeld2 => ?_)
              clear hK K
              (try simp only [Act.put, List.setIfInBounds_toArray, List.set_cons_zero, List.set_cons_succ, List.getElem_toArray, List.getElem_cons_succ, List.getElem_cons_zero])
              refine held_take 4 _ _ rfl (by kernel_rfl) (by kernel_rfl) (by kernel_rfl) (fun _ _ _ h => h) (by rfl) hHeld2 (fun w hSw => by (try dsimp only at hSw); go_simp; try with_reducible rfl) ?_
              (try simp only [Act.put, List.setIfInBounds_toArray, List.set_cons_zero, List.set_cons_succ, List.getElem_toArray, List.getElem_cons_succ, List.getElem_cons_zero])
              refine held_take 7 _ _ rfl (by kernel_rfl) (by kernel_rfl) (by kernel_rfl) (fun _ _ _ h => h) (by rfl) hHeld2 (fun w hSw => by (try dsimp only at hSw); go_simp; try with_reducible rfl) ?_
              (try simp only [Act.put, List.setIfInBounds_toArray, List.set_cons_zero, List.set_cons_succ, List.getElem_toArray, List.getElem_cons_succ, List.getElem_cons_zero])
              refine wpAnyH_ready (rs := [8]) (by kernel_rfl) (by simp) ?_
              refine AllReadyH.cons rfl (fun K hK => ?_) AllReadyH.nil
              rw [if_pos (by rfl)]
              go_wp2_with fail
              refine hK.out _ _ (hHeld2) (fun hHeld3 => ?_)
              clear hK K
              (try simp only [Act.put, List.setIfInBounds_toArray, List.set_cons_zero, List.set_cons_succ, List.getElem_toArray, List.getElem_cons_succ, List.getElem_cons_zero])
              refine wpAnyH_ready (rs := [9]) (by kernel_rfl) (by simp) ?_
              refine AllReadyH.cons rfl (fun K hK => ?_) AllReadyH.nil
              rw [if_pos (by rfl)]
              refine wp_append_lies _ (.tmp 38) (.tmp 46) 24 (by rfl) (w.heap.size + 1) 3 i0 (Value.int .i64 0) 1 8 Tryz.underlying24 hi hz0 hz1 hz2 rfl (by decide) (.slice (some ⟨q, 0, none⟩) L.length c) L.length (L.map (Value.int .i64)) (by rfl) ((dr_row hdd hown hNq hg5).alloc _) ⟨w5.heap.size, 0, none⟩ 1 1 [.int .i64 (x0 + 1 + y)] (by rfl) (by rfl) (World.news_of_block (cs := #[.int .i64 (x0 + 1 + y)]) (t := 3) (fr := (0, 0)) (heap_alloc_new w5 _)) (by simp [Value.oneCell']) (by omega) (by unfold maxLen; omega) (by omega) (by have hs5 : wr.heap.size ≤ w5.heap.size := hg5.size; simp; omega) _ rfl ?_; intro q3 c3 w6 hown6 hgr6 hat6 hlt6
              refine hK.out _ _ (trivial) (fun hHeld4 => ?_)
              clear hK K
              (try simp only [Act.put, List.setIfInBounds_toArray, List.set_cons_zero, List.set_cons_succ, List.getElem_toArray, List.getElem_cons_succ, List.getElem_cons_zero])
              refine held_take 10 _ _ rfl (by kernel_rfl) (by kernel_rfl) (by kernel_rfl) (fun _ _ _ h => h) (by rfl) hHeld4 (fun w hSw => by (try dsimp only at hSw); go_simp; try with_reducible rfl) ?_
              (try simp only [Act.put, List.setIfInBounds_toArray, List.set_cons_zero, List.set_cons_succ, List.getElem_toArray, List.getElem_cons_succ, List.getElem_cons_zero])
              refine wpAnyH_done (by kernel_rfl) ?_ _
              have hlow := (dr_row hdd hown hNq hg5).lt
              have hd6 : Dr W w6 N a len cap zs := (hd5.alloc _).grownR hgr6 (fun j hj => by have := (hlow j hj).1; have := hdd.base; have := hdd.lt; omega)
              have hgw6 : w.grownBy w6 (some N) := grown_more (grown_alloc (grown_trans (grown_drewN hgw 1) hg5) _) hgr6 (fun j hj => .inl (by have := (hlow j hj).1; omega))
              have hA6 : Arr w6 w.heap.size 26 [.slice none 0 0] := Arr.grownRow (Arr.alloc (Arr.grownN (w := wr.drew) (w' := w5) hA hg5 hNne) _) hgr6 (fun j hj => by have := (hlow j hj).1; omega)
              have HO := Lib.hid hown6
              clear hown6 hgr6 hat6 hlow hd5 hg5 hc5 hdd hown hA
              go_wp2_with fail
              go_roundw
              case rel => exact ⟨k + 1, q3, c3, L ++ [x0 + 1 + y], x0, by omega, by go_num, by simp, by have := HL.out; rw [List.length_append, List.length_singleton]; omega, ⟨hx2, hx9, by obtain ⟨Rr, rfl⟩ := HX.out; exact ⟨Rr ++ [x0 + 1 + y], rfl⟩⟩, by simpa using HO.out, hd6, hgw6, hA6⟩
              case measure => simp [intOf]; omega
          · have hkM' : ¬ (k : Int) < (M : Int) + 1 := by omega
            have cf := spec_FromGens L (some ⟨q, 0, none⟩) c wr (SlV.of_owns' hown) (by omega)
            have hbr := hgw.size
            have hltA := hA.lt
            clear hX hown
            go_wp2_with fail
            refine cf.mono ?_
            rintro e w7 ⟨v, rfl, ho7, hb7⟩
            obtain ⟨av, kv, rfl, -⟩ := row_open ho7
            have hd7 := hd.belowW hb7
            have hgw7 := grown_below hgw hb7
            have hA7 := hA.below hb7
            have HO7 := Lib.hid ho7
            have hA7n := hA7.alloc (.cells #[.slice av (fromL L).length kv] 26)
            have hc7 : (w7.alloc (.cells #[.slice av (fromL L).length kv] 26)).cell? ⟨w.heap.size, 0, none⟩ = some (.slice none 0 0) := hA7n.cell 0
            have hf7 := hA7n.frozen 0
            have HF := fun h => Lib.hid (fromL_isSg (L := L) h)
            clear cf hd hgw hA hb7 ho7 hA7
            generalize hkn : (fromL L).length = kn at *
            have HK := Lib.hid hkn
            clear hkn
            cases hfb : fromB L
            · clear hfb HF hc7 hf7
              go_wp2_with fail
              go_roundw
              case rel => exact ⟨k0 + 1, by omega, by go_num, hd7.alloc _, grown_alloc hgw7 _, hA7n⟩
              case measure => simp [intOf]; omega
            · have HS := HF hfb
              clear hfb HF hA7n
              go_wp2_with fail
              have hcf := World.cell?_setCell_same (w7.alloc (.cells #[.slice av kn kv] 26)) ⟨w.heap.size, 0, none⟩ (.slice av kn kv) hc7
              have hd8 : Dr W ((w7.alloc (.cells #[.slice av kn kv] 26)).setCell ⟨w.heap.size, 0, none⟩ (.slice av kn kv)) N a len cap zs := (hd7.alloc _).grownR (grownBy_setCell _ w.heap.size 0 _) (fun k hk => by cases hk; exact ⟨hWw, hNne⟩)
              have hg8 : w.grownBy ((w7.alloc (.cells #[.slice av kn kv] 26)).setCell ⟨w.heap.size, 0, none⟩ (.slice av kn kv)) (some N) := grown_more (grown_alloc hgw7 _) (grownBy_setCell _ w.heap.size 0 _) (fun k hk => by cases hk; exact .inl (Nat.le_refl _))
              refine bodyPost_ret (v := .agg #[.slice av kn kv]) (by simp [results, Tryz.results26, go_sem, hcf]) rfl ⟨fromL L, _, HS.out, rfl, ?_, hd8, hg8⟩
              have ho := HO7.out
              obtain rfl := HK.out
              refine ownsBase (row_kept ho fun j hj => ?_) (by omega)
              obtain ⟨hj1, hj2⟩ := ho.lt j hj
              rw [heap_setCell_other _ ⟨w.heap.size, 0, none⟩ j _ (by show j ≠ w.heap.size; omega), Below.heap_alloc w7 _ j hj2]
      · have hk4' : ¬ (k0 : Int) < 4 := by omega
        go_wp2_with fail
        refine (l3List_dr hd).mono ?_
        rintro e w6 ⟨G, v, hG, rfl, ho6, hd6, hg6⟩
        have hA6 := hA.grownN hg6 hNne
        have hgw6 := grown_trans hgw hg6
        have hb6 := hgw.size
        obtain ⟨a6, k6, rfl, r6⟩ := row_open ho6
        have cf := spec_FromGens (G.map fun g : Nat => (g : Int)) a6 k6 w6 r6.slv (by have := baseL_len hG; simp; omega)
        rw [List.length_map, from_post hG] at cf
        have HG := Lib.hid (baseL_sg hG)
        have hz6 := hg6.size
        have hltA := hA6.lt
        clear hg6 ho6 r6 hG
        go_wp2_with fail
        refine cf.mono ?_
        rintro e w7 ⟨v, rfl, ho7, hb7⟩
        obtain ⟨av, kv, rfl, -⟩ := row_open ho7
        have hd7 := hd6.belowW hb7
        have hgw7 := grown_below hgw6 hb7
        have hA7 := hA6.below hb7
        have HO7 := Lib.hid ho7
        have hA7n := hA7.alloc (.cells #[.slice av (G.map fun g : Nat => (g : Int)).length kv] 26)
        have hc7 : (w7.alloc (.cells #[.slice av (G.map fun g : Nat => (g : Int)).length kv] 26)).cell? ⟨w.heap.size, 0, none⟩ = some (.slice none 0 0) := hA7n.cell 0
        have hf7 := hA7n.frozen 0
        clear cf hd6 hgw6 hA6 hb7 ho7 hA7 hA7n
        generalize hkn : (G.map fun g : Nat => (g : Int)).length = kn at *
        have HK := Lib.hid hkn
        clear hkn
        go_wp2_with fail
        have hcf := World.cell?_setCell_same (w7.alloc (.cells #[.slice av kn kv] 26)) ⟨w.heap.size, 0, none⟩ (.slice av kn kv) hc7
        have hd8 : Dr W ((w7.alloc (.cells #[.slice av kn kv] 26)).setCell ⟨w.heap.size, 0, none⟩ (.slice av kn kv)) N a len cap zs := (hd7.alloc _).grownR (grownBy_setCell _ w.heap.size 0 _) (fun k hk => by cases hk; exact ⟨hWw, hNne⟩)
        have hg8 : w.grownBy ((w7.alloc (.cells #[.slice av kn kv] 26)).setCell ⟨w.heap.size, 0, none⟩ (.slice av kn kv)) (some N) := grown_more (grown_alloc hgw7 _) (grownBy_setCell _ w.heap.size 0 _) (fun k hk => by cases hk; exact .inl (Nat.le_refl _))
        refine bodyPost_ret (v := .agg #[.slice av kn kv]) (by simp [results, Tryz.results26, go_sem, hcf]) rfl ⟨G.map fun g : Nat => (g : Int), _, HG.out, rfl, ?_, hd8, hg8⟩
        have ho := HO7.out
        obtain rfl := HK.out
        refine ownsBase (row_kept ho fun j hj => ?_) (by have := hgw7.size; omega)
        obtain ⟨hj1, hj2⟩ := ho.lt j hj
        rw [heap_setCell_other _ ⟨w.heap.size, 0, none⟩ j _ (by show j ≠ w.heap.size; omega), Below.heap_alloc w7 _ j hj2]
  · go_wp2_with fail
    refine (l3List_dr hd1).mono ?_
    rintro e w6 ⟨G, v, hG, rfl, ho6, hd6, hg6⟩
    have hA6 := hA1.grownN hg6 hNne
    have hgw6 := grown_trans hgw1 hg6
    have hb6 := hgw1.size
    obtain ⟨a6, k6, rfl, r6⟩ := row_open ho6
    have cf := spec_FromGens (G.map fun g : Nat => (g : Int)) a6 k6 w6 r6.slv (by have := baseL_len hG; simp; omega)
    rw [List.length_map, from_post hG] at cf
    have HG := Lib.hid (baseL_sg hG)
    have hz6 := hg6.size
    have hltA := hA6.lt
    clear hg6 ho6 r6 hG
    go_wp2_with fail
    refine cf.mono ?_
    rintro e w7 ⟨v, rfl, ho7, hb7⟩
    obtain ⟨av, kv, rfl, -⟩ := row_open ho7
    have hd7 := hd6.belowW hb7
    have hgw7 := grown_below hgw6 hb7
    have hA7 := hA6.below hb7
    have HO7 := Lib.hid ho7
    have hA7n := hA7.alloc (.cells #[.slice av (G.map fun g : Nat => (g : Int)).length kv] 26)
    have hc7 : (w7.alloc (.cells #[.slice av (G.map fun g : Nat => (g : Int)).length kv] 26)).cell? ⟨w.heap.size, 0, none⟩ = some (.slice none 0 0) := hA7n.cell 0
    have hf7 := hA7n.frozen 0
    clear cf hd6 hgw6 hA6 hb7 ho7 hA7 hA7n
    generalize hkn : (G.map fun g : Nat => (g : Int)).length = kn at *
    have HK := Lib.hid hkn
    clear hkn
    go_wp2_with fail
    have hcf := World.cell?_setCell_same (w7.alloc (.cells #[.slice av kn kv] 26)) ⟨w.heap.size, 0, none⟩ (.slice av kn kv) hc7
    have hd8 : Dr W ((w7.alloc (.cells #[.slice av kn kv] 26)).setCell ⟨w.heap.size, 0, none⟩ (.slice av kn kv)) N a len cap zs := (hd7.alloc _).grownR (grownBy_setCell _ w.heap.size 0 _) (fun k hk => by cases hk; exact ⟨hWw, hNne⟩)
    have hg8 : w.grownBy ((w7.alloc (.cells #[.slice av kn kv] 26)).setCell ⟨w.heap.size, 0, none⟩ (.slice av kn kv)) (some N) := grown_more (grown_alloc hgw7 _) (grownBy_setCell _ w.heap.size 0 _) (fun k hk => by cases hk; exact .inl (Nat.le_refl _))
    refine bodyPost_ret (v := .agg #[.slice av kn kv]) (by simp [results, Tryz.results26, go_sem, hcf]) rfl ⟨G.map fun g : Nat => (g : Int), _, HG.out, rfl, ?_, hd8, hg8⟩
    have ho := HO7.out
    obtain rfl := HK.out
    refine ownsBase (row_kept ho fun j hj => ?_) (by have := hgw7.size; omega)
    obtain ⟨hj1, hj2⟩ := ho.lt j hj
    rw [heap_setCell_other _ ⟨w.heap.size, 0, none⟩ j _ (by show j ≠ w.heap.size; omega), Below.heap_alloc w7 _ j hj2]
end Go.Proofs.YtdjjagpecbflnaaGreatDoor
