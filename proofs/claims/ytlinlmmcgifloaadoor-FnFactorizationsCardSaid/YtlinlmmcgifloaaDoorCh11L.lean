/-
  CONTRACTS of the reference's chapters 11, 12. (Own work; merge.py.)
-/
import Derived.Test.YtlinlmmcgifloaaDoorCh11M
import Derived.Test.YtlinlmmcgifloaaDoorCh3L
import Derived.Test.YtlinlmmcgifloaaDoorSgA
import Derived.Test.YtlinlmmcgifloaaDoorSgL
import Derived.Maps.AppendAt
import Derived.WalkMore
import Derived.StillTailTactics

/-
  CONTRACTS of the reference's chapter 11: the search for factorizations. (Own work: mkL40.py.)
-/
namespace Go.Proofs.YtlinlmmcgifloaaDoor
open Go Go.RowKit

theorem rows2_empty {w : World} {lo q : Nat} (h : w.ownsRow lo 24 1 (.slice (some ⟨q, 0, none⟩) 0 0) 0 []) (hq : q < w.heap.size) : Rows2 w lo w.heap.size (.slice (some ⟨q, 0, none⟩) 0 0) [] (([] : List (List Int)).map fun L => L.map (Value.int .i64)) :=
  ⟨h, rfl, fun i h => absurd h (by simp), fun j hj => by simp [Value.ownBlock] at hj; omega, Nat.le_refl _, fun i j h => absurd h (by simp), fun i h => absurd h (by simp)⟩
theorem keepA {W w' : World} {b o : Nat} {v : Value} (hb : b < W.heap.size) (h : w'.cell? ⟨b, o, none⟩ = some v ∧ Below W.heap.size W w') (x : Obj) : (w'.alloc x).cell? ⟨b, o, none⟩ = some v ∧ Below W.heap.size W (w'.alloc x) :=
  ⟨(World.cell?_alloc_lt w' _ ⟨b, o, none⟩ (Nat.lt_of_lt_of_le hb h.2.size)).trans h.1, h.2.alloc h.2.size x⟩
theorem keepB {W w' w2 : World} {b o : Nat} {v : Value} {row : Option Nat} (hb : b < W.heap.size) (h : w'.cell? ⟨b, o, none⟩ = some v ∧ Below W.heap.size W w') (hg : w'.grownBy w2 row) (hr : ∀ j, row = some j → W.heap.size ≤ j) : w2.cell? ⟨b, o, none⟩ = some v ∧ Below W.heap.size W w2 :=
  ⟨hg.cell h.1 (fun e => by have := hr b e.symm; omega), h.2.grown hg h.2.size hr⟩
theorem addr_add (b o j : Nat) : (⟨b, o, none⟩ : Addr).add j = ⟨b, o + j, none⟩ := by
  unfold Addr.add
  split
  · next h => subst h; rfl
  · rfl
theorem alloc_sz (w : World) (o : Obj) : (w.alloc o).heap.size = w.heap.size + 1 := by simp
def SsPostA (LL : List (List Int)) (w : World) (e : Ending) (w' : World) : Prop :=
  ∃ ad c vs, e = .returned (.slice (some ad) vs.length c) ∧ Rows2 w' w.heap.size w'.heap.size (.slice (some ad) vs.length c) vs (LL.map fun L => L.map (Value.int .i64)) ∧ Below w.heap.size w w'
def OneAt (w : World) (q : Nat) (x : Value) : Prop := q < w.heap.size ∧ w.cell? ⟨q, 0, none⟩ = some x
theorem OneAt.at {w : World} {q : Nat} {x : Value} (h : OneAt w q x) : ∀ j u, [x][j]? = some u → w.cell? ((⟨q, 0, none⟩ : Addr).add j) = some u := by
  intro j u hj
  match j, hj with
  | 0, hj => cases hj; exact h.2
  | j + 1, hj => simp at hj
theorem OneAt.alloc {w : World} {q : Nat} {x : Value} (h : OneAt w q x) (o : Obj) : OneAt (w.alloc o) q x := ⟨Nat.lt_of_lt_of_le h.1 (by simp), (World.cell?_alloc_lt w _ ⟨q, 0, none⟩ h.1).trans h.2⟩
theorem OneAt.grown {w w' : World} {q : Nat} {x : Value} {row : Option Nat} (h : OneAt w q x) (hg : w.grownBy w' row) (hne : row ≠ some q) : OneAt w' q x := ⟨Nat.lt_of_lt_of_le h.1 hg.size, hg.cell h.2 fun e => hne e.symm⟩
theorem newEmpty {W w' : World} (h : Below W.heap.size W w') : (w'.alloc (.cells #[] 3)).ownsRow W.heap.size 3 1 (.slice (some ⟨w'.heap.size, 0, none⟩) 0 0) 0 [] := World.ownsRow_lit w' #[] 0 h.size (by simp) rfl
theorem newOne {base : Nat} {W w' : World} (_ : Below base W w') (x : Value) : OneAt (w'.alloc (.cells #[x] 3)) w'.heap.size x := ⟨by simp, cell_one_new _ _ _ 0 _ rfl⟩
theorem newOneS {base : Nat} {W w' : World} (_ : Below base W w') (x : Value) : OneAt (w'.alloc (.cells #[x] 24)) w'.heap.size x := ⟨by simp, cell_one_new _ _ _ 0 _ rfl⟩
theorem infoSlL2 : (Tryd.prog.info? 24).map (fun i => (i.zero, i.size, i.bytes)) = some (some (Value.slice none 0 0), 1, 24) := by kernel_rfl
theorem leaf_done {w W1 wc w8 : World} {D : List Int} {q d g6 c6 g8 c8 : Nat} (hown : W1.ownsRow w.heap.size 24 1 (.slice (some ⟨w.heap.size, 0, none⟩) 0 0) 0 []) (hz : W1.heap.size = w.heap.size + 1) (hB : Below W1.heap.size W1 wc) (hD1 : D.length ≤ d) (hD2 : d ≤ D.length)
    (h6 : wc.ownsRow W1.heap.size 3 1 (.slice (some ⟨g6, 0, none⟩) (d + 1) c6) (d + 1) ([] ++ D.map (Value.int .i64) ++ [.int .i64 (q : Int)]))
    (h8 : w8.ownsRow w.heap.size 24 1 (.slice (some ⟨g8, 0, none⟩) (0 + 1) c8) (0 + 1) ([] ++ [.slice (some ⟨g6, 0, none⟩) (d + 1) c6])) (hg : wc.grownBy w8 (Value.slice (some ⟨w.heap.size, 0, none⟩) 0 0).ownBlock) (hat : (Value.slice (some ⟨w.heap.size, 0, none⟩) 0 0).ownBlock = some g8 ∨ g8 = wc.heap.size) :
    Rows2 w8 w.heap.size w8.heap.size (.slice (some ⟨g8, 0, none⟩) (0 + 1) c8) [.slice (some ⟨g6, 0, none⟩) (d + 1) c6] ([D ++ [(q : Int)]].map fun L => L.map (Value.int .i64)) := by
  have hs := hB.size
  have h0 : Rows2 wc w.heap.size W1.heap.size (.slice (some ⟨w.heap.size, 0, none⟩) 0 0) [] [] :=
    ⟨owns_below hown hB, rfl, fun i h => absurd h (by simp), fun j hj => by simp [Value.ownBlock] at hj; omega, hs, fun i j h => absurd h (by simp), fun i h => absurd h (by simp)⟩
  have e : ((D ++ [(q : Int)]).map (Value.int .i64)) = [] ++ D.map (Value.int .i64) ++ [.int .i64 (q : Int)] := by simp
  have hl : ((D ++ [(q : Int)]).map (Value.int .i64)).length = d + 1 := by simp; omega
  have hu : wc.ownsRow W1.heap.size 3 1 (.slice (some ⟨g6, 0, none⟩) (d + 1) c6) ((D ++ [(q : Int)]).map (Value.int .i64)).length ((D ++ [(q : Int)]).map (Value.int .i64)) := by rw [hl, e]; exact h6
  exact h0.snoc h8 hg hu (by omega) fun b hb => by
    have e : b = g8 := by simp [Value.ownBlock] at hb; exact hb.symm
    subst e
    rcases hat with h1 | h1
    · exact .inl h1
    · exact .inr (by omega)
set_option maxRecDepth 100000 in
set_option maxHeartbeats 1600000 in
theorem spec_l11Leaf (D : List Int) (b off cap N d g t bd od cd : Nat) (w : World) (hN1 : d + 1 ≤ N) (hN2 : N ≤ d + 1) (hN : N ≤ 12) (hg1 : 1 ≤ g) (hg2 : g ≤ 60) (ht : t ≤ 100) (hD1 : D.length ≤ d) (hD2 : d ≤ D.length)
    (hbw : b < w.heap.size) (hc : w.cell? ⟨b, off + d, none⟩ = some (.int .i64 (g : Int))) (hdw : bd < w.heap.size) (hD : ∀ j u, (D.map (Value.int .i64))[j]? = some u → w.cell? ⟨bd, od + j, none⟩ = some u) :
    Calls Tryd.prog 33 #[.slice (some ⟨b, off, none⟩) N cap, .int .i64 (t : Int), .slice (some ⟨bd, od, none⟩) d cd] w (SsPostA ((findF [(g : Int)] t).map (D ++ ·)) w) := by
  have hd1 : ((d : Int) == (N : Int)) = false := by rw [beq_eq_false_iff_ne]; omega
  have hwp : IntKind.i64.wrap ((N : Int) - 1) = (d : Int) := by rw [IntWalk.i64_in _ (by omega)]; omega
  have hdN : (d : Int) < (N : Int) := by omega
  have hd0 : (0 : Int) ≤ (d : Int) := by omega
  have hqz : ((g : Int) == 0) = false := by rw [beq_eq_false_iff_ne]; omega
  have hgz : ¬ g = 0 := by omega
  have hwr : (t : Int) % (g : Int) = ((t % g : Nat) : Int) := (Int.natCast_emod t g).symm
  obtain ⟨W1, hW1⟩ : ∃ W1, W1 = w.alloc (.cells #[] 24) := ⟨_, rfl⟩
  have hb1 : Below w.heap.size w W1 := by rw [hW1]; exact (Below.refl _ _).alloc (Nat.le_refl _) _
  have hW1s : w.heap.size + 1 ≤ W1.heap.size := by rw [hW1]; simp
  have hW1t : W1.heap.size ≤ w.heap.size + 1 := by rw [hW1]; simp
  have hc1 : W1.cell? ⟨b, off + d, none⟩ = some (.int .i64 (g : Int)) := (hb1.cell (p := ⟨b, off + d, none⟩) hbw).trans hc
  have hbW : b < W1.heap.size := by omega
  have hown : W1.ownsRow w.heap.size 24 1 (.slice (some ⟨w.heap.size, 0, none⟩) 0 0) 0 [] := by rw [hW1]; exact World.ownsRow_lit w #[] 0 (Nat.le_refl _) (by simp) rfl
  have HW1 := Lib.hid hW1
  clear hW1
  have hDB : Hid (∀ w', Below W1.heap.size W1 w' → ∀ j u, (D.map (Value.int .i64))[j]? = some u → w'.cell? ((⟨bd, od, none⟩ : Addr).add j) = some u) := Lib.hid fun w' h j u hj => by have := ((hb1.trans (h.mono hb1.size)).cell (p := ⟨bd, od + j, none⟩) hdw).trans (hD j u hj); rw [addr_add]; exact this
  by_cases hz : t % g = 0
  · have hmz : (((t % g : Nat) : Int) == 0) = true := by rw [beq_iff_eq]; omega
    have hqx := wrapk t g (by omega)
    have hqw := wrapq t g (by omega)
    have HR : Hid ((findF [(g : Int)] t).map (D ++ ·) = [D ++ [((t / g : Nat) : Int)]]) := Lib.hid (by rw [findF_one, Int.toNat_natCast, if_pos hz]; rfl)
    generalize hq : t / g = q at *
    clear hq
    go_enter Tryd.func33, Tryd.ntmps33
    go_wp2_with fail
    rw [← HW1.out]
    obtain ⟨i0, hi, hz0, hz1, hz2⟩ := info_parts infoIntL
    obtain ⟨i1, hi', hz0', hz1', hz2'⟩ := info_parts infoSlL2
    have hS0 : W1.drew.cell? ⟨b, off + d, none⟩ = some (.int .i64 (g : Int)) ∧ Below w.heap.size w W1.drew := ⟨hc1, hb1.drew⟩
    have hB1 : Below W1.heap.size W1 W1.drew := (Below.refl _ _).drew
    refine wp_region_held_drew (S := fun w' => w'.cell? ⟨b, off + d, none⟩ = some (.int .i64 (g : Int)) ∧ Below w.heap.size w w') (by kernel_rfl) hS0 (fun hHeld => ?_)
    refine held_take 0 _ _ rfl (by kernel_rfl) (by kernel_rfl) (by kernel_rfl) (fun _ _ _ h => h) (by rfl) hHeld (fun w hSw => by (try dsimp only at hSw); go_simp; try with_reducible rfl) ?_
    (try simp only [Act.put, List.setIfInBounds_toArray, List.set_cons_zero, List.set_cons_succ, List.getElem_toArray, List.getElem_cons_zero])
    refine held_take 2 _ _ rfl (by kernel_rfl) (by kernel_rfl) (by kernel_rfl) (fun _ _ _ h => h) (by rfl) hHeld (fun w hSw => by (try dsimp only at hSw); go_simp; try with_reducible rfl) ?_
    (try simp only [Act.put, List.setIfInBounds_toArray, List.set_cons_zero, List.set_cons_succ, List.getElem_toArray, List.getElem_cons_succ, List.getElem_cons_zero])
    refine held_take 4 _ _ rfl (by kernel_rfl) (by kernel_rfl) (by kernel_rfl) (fun _ _ _ h => h) (by rfl) hHeld (fun w hSw => by (try dsimp only at hSw); go_simp; try with_reducible rfl) ?_
    (try simp only [Act.put, List.setIfInBounds_toArray, List.set_cons_zero, List.set_cons_succ, List.getElem_toArray, List.getElem_cons_succ, List.getElem_cons_zero])
    refine held_take 5 _ _ rfl (by kernel_rfl) (by kernel_rfl) (by kernel_rfl) (fun _ _ _ h => h) (by rfl) hHeld (fun w hSw => by (try dsimp only at hSw); go_simp; try with_reducible rfl) ?_
    (try simp only [Act.put, List.setIfInBounds_toArray, List.set_cons_zero, List.set_cons_succ, List.getElem_toArray, List.getElem_cons_succ, List.getElem_cons_zero])
    refine held_take 6 _ _ rfl (by kernel_rfl) (by kernel_rfl) (by kernel_rfl) (fun _ _ _ h => h) (by rfl) hHeld (fun w hSw => by (try dsimp only at hSw); go_simp; try with_reducible rfl) ?_
    (try simp only [Act.put, List.setIfInBounds_toArray, List.set_cons_zero, List.set_cons_succ, List.getElem_toArray, List.getElem_cons_succ, List.getElem_cons_zero])
    refine held_take 7 _ _ rfl (by kernel_rfl) (by kernel_rfl) (by kernel_rfl) (fun _ _ _ h => h) (by rfl) hHeld (fun w hSw => by (try dsimp only at hSw); go_simp; try with_reducible rfl) ?_
    (try simp only [Act.put, List.setIfInBounds_toArray, List.set_cons_zero, List.set_cons_succ, List.getElem_toArray, List.getElem_cons_succ, List.getElem_cons_zero])
    refine held_take 8 _ _ rfl (by kernel_rfl) (by kernel_rfl) (by kernel_rfl) (fun _ _ _ h => h) (by rfl) hHeld (fun w hSw => by (try dsimp only at hSw); go_simp; try with_reducible rfl) ?_
    (try simp only [Act.put, List.setIfInBounds_toArray, List.set_cons_zero, List.set_cons_succ, List.getElem_toArray, List.getElem_cons_succ, List.getElem_cons_zero])
    refine held_take 9 _ _ rfl (by kernel_rfl) (by kernel_rfl) (by kernel_rfl) (fun _ _ _ h => h) (by rfl) hHeld (fun w hSw => by (try dsimp only at hSw); go_simp; try with_reducible rfl) ?_
    (try simp only [Act.put, List.setIfInBounds_toArray, List.set_cons_zero, List.set_cons_succ, List.getElem_toArray, List.getElem_cons_succ, List.getElem_cons_zero])
    refine wpAnyH_ready (rs := [1, 10]) (by kernel_rfl) (by simp) ?_
    refine AllReadyH.cons rfl (fun K hK => ?_) (AllReadyH.cons rfl (fun K hK => ?_) AllReadyH.nil)
    · rw [if_pos (by rfl)]
      have hO := newEmpty hB1
      try simp only [alloc_sz] at hO
      try (replace hT := hT.alloc (.cells #[] 3))
      replace hB1 := hB1.alloc hB1.size (.cells #[] 3)
      go_wp2_with fail
      refine hK.out _ _ (keepA hbw hHeld _) (fun hHeld1 => ?_)
      clear hK K
      (try simp only [Act.put, List.setIfInBounds_toArray, List.set_cons_zero, List.set_cons_succ, List.getElem_toArray, List.getElem_cons_succ, List.getElem_cons_zero])
      refine wpAnyH_ready (rs := [3, 10]) (by kernel_rfl) (by simp) ?_
      refine AllReadyH.cons rfl (fun K hK => ?_) (AllReadyH.cons rfl (fun K hK => ?_) AllReadyH.nil)
      · rw [if_pos (by rfl)]
        refine wp_append_own _ (.tmp 37) (.tmp 38) 24 (by rfl) W1.heap.size 3 i0 (Value.int .i64 0) 1 8 Tryd.underlying24 hi hz0 hz1 hz2 rfl (by decide) _ 0 [] (by rfl) hO ⟨bd, od, none⟩ d _ (D.map (Value.int .i64)) (by rfl) (by rw [List.length_map]; omega) (hDB.out _ hB1) (fun u hu => by obtain ⟨x, -, rfl⟩ := List.mem_map.1 hu; rfl) (by unfold maxLen; omega) (by omega) hB1.size ?_; intro v5 wa hown5 hg5 _
        have hl5 := hO.lt
        try (replace hT := hT.grown hg5 (by simp [Value.ownBlock]))
        replace hB1 := hB1.grown hg5 hB1.size (fun j hj => (hl5 j hj).1)
        replace hO := hown5
        clear hown5
        refine hK.out _ _ (keepB hbw hHeld1 hg5 (fun j hj => by have := (hl5 j hj).1; omega)) (fun hHeld2 => ?_)
        clear hK K
        (try simp only [Act.put, List.setIfInBounds_toArray, List.set_cons_zero, List.set_cons_succ, List.getElem_toArray, List.getElem_cons_succ, List.getElem_cons_zero])
        refine wpAnyH_ready (rs := [10]) (by kernel_rfl) (by simp) ?_
        refine AllReadyH.cons rfl (fun K hK => ?_) AllReadyH.nil
        rw [if_pos (by rfl)]
        have hT := newOne (base := W1.heap.size) hB1 (.int .i64 (q : Int))
        try simp only [alloc_sz] at hT
        try (replace hO := hO.alloc (.cells #[.int .i64 (q : Int)] 3))
        replace hB1 := hB1.alloc hB1.size (.cells #[.int .i64 (q : Int)] 3)
        go_wp2_with fail
        refine hK.out _ _ (keepA hbw hHeld2 _) (fun hHeld3 => ?_)
        clear hK K
        (try simp only [Act.put, List.setIfInBounds_toArray, List.set_cons_zero, List.set_cons_succ, List.getElem_toArray, List.getElem_cons_succ, List.getElem_cons_zero])
        refine wpAnyH_ready (rs := [11]) (by kernel_rfl) (by simp) ?_
        refine AllReadyH.cons rfl (fun K hK => ?_) AllReadyH.nil
        rw [if_pos (by rfl)]
        refine wp_append_lies _ (.tmp 39) (.tmp 46) 24 (by rfl) W1.heap.size 3 i0 (Value.int .i64 0) 1 8 Tryd.underlying24 hi hz0 hz1 hz2 rfl (by decide) v5 (0 + d) ([] ++ D.map (Value.int .i64)) (by rfl) hO _ 1 _ [.int .i64 (q : Int)] (by rfl) rfl hT.at (by simp [Value.oneCell']) (by decide) (by unfold maxLen; omega) (by omega) hB1.size _ rfl ?_; intro g6 c6 w6 hown6 hg6 hat6 hlt6
        simp only [Nat.zero_add] at hown6 ⊢
        have hl6 := hO.lt
        replace hB1 := hB1.grown hg6 hB1.size (fun j hj => (hl6 j hj).1)
        clear hT hO
        refine hK.out _ _ (keepB hbw hHeld3 hg6 (fun j hj => by have := (hl6 j hj).1; omega)) (fun hHeld4 => ?_)
        clear hK K
        (try simp only [Act.put, List.setIfInBounds_toArray, List.set_cons_zero, List.set_cons_succ, List.getElem_toArray, List.getElem_cons_succ, List.getElem_cons_zero])
        refine wpAnyH_ready (rs := [12]) (by kernel_rfl) (by simp) ?_
        refine AllReadyH.cons rfl (fun K hK => ?_) AllReadyH.nil
        rw [if_pos (by rfl)]
        have hT := newOneS (base := W1.heap.size) hB1 (.slice (some ⟨g6, 0, none⟩) (d + 1) c6)
        replace hown6 := hown6.alloc (.cells #[.slice (some ⟨g6, 0, none⟩) (d + 1) c6] 24)
        replace hB1 := hB1.alloc hB1.size (.cells #[.slice (some ⟨g6, 0, none⟩) (d + 1) c6] 24)
        go_wp2_with fail
        refine hK.out _ _ (keepA hbw hHeld4 _) (fun hHeld5 => ?_)
        clear hK K
        (try simp only [Act.put, List.setIfInBounds_toArray, List.set_cons_zero, List.set_cons_succ, List.getElem_toArray, List.getElem_cons_succ, List.getElem_cons_zero])
        refine wpAnyH_ready (rs := [13]) (by kernel_rfl) (by simp) ?_
        refine AllReadyH.cons rfl (fun K hK => ?_) AllReadyH.nil
        rw [if_pos (by rfl)]
        refine wp_append_lies _ (.tmp 36) (.tmp 48) 29 (by rfl) w.heap.size 24 i1 (Value.slice none 0 0) 1 24 Tryd.underlying29 hi' hz0' hz1' hz2' rfl (by decide) (.slice (some ⟨w.heap.size, 0, none⟩) 0 0) 0 [] (by rfl) (owns_below hown hB1) _ 1 _ [.slice (some ⟨g6, 0, none⟩) (d + 1) c6] (by rfl) rfl hT.at (by simp [Value.oneCell']) (by decide) (by unfold maxLen; omega) (by omega) (Nat.le_trans hb1.size hB1.size) _ rfl ?_; intro g8 c8 w8 hown8 hg8 hat8 hlt8
        have hF := leaf_done (D := D) (q := q) hown (by omega) hB1 hD1 hD2 hown6 hown8 hg8 hat8
        refine hK.out _ _ (keepB hbw hHeld5 hg8 (fun j hj => by simp [Value.ownBlock] at hj; omega)) (fun hHeld6 => ?_)
        clear hK K
        (try simp only [Act.put, List.setIfInBounds_toArray, List.set_cons_zero, List.set_cons_succ, List.getElem_toArray, List.getElem_cons_succ, List.getElem_cons_zero])
        refine held_take 14 _ _ rfl (by kernel_rfl) (by kernel_rfl) (by kernel_rfl) (fun _ _ _ h => h) (by rfl) hHeld6 (fun w hSw => by (try dsimp only at hSw); go_simp; try with_reducible rfl) ?_
        (try simp only [Act.put, List.setIfInBounds_toArray, List.set_cons_zero, List.set_cons_succ, List.getElem_toArray, List.getElem_cons_succ, List.getElem_cons_zero])
        refine wpAnyH_done (by kernel_rfl) ?_ _
        try simp only [Nat.zero_add] at hF
        have hbF := (hHeld6).2
        clear hqx hqw hB1 hown6 hown8 hT
        go_wp2_with fail
        go_ret
        exact ⟨_, _, [_], rfl, by rw [HR.out]; exact hF, hbF⟩
      · rw [if_pos (by rfl)]
        have hT := newOne (base := W1.heap.size) hB1 (.int .i64 (q : Int))
        try simp only [alloc_sz] at hT
        try (replace hO := hO.alloc (.cells #[.int .i64 (q : Int)] 3))
        replace hB1 := hB1.alloc hB1.size (.cells #[.int .i64 (q : Int)] 3)
        go_wp2_with fail
        refine hK.out _ _ (keepA hbw hHeld1 _) (fun hHeld2 => ?_)
        clear hK K
        (try simp only [Act.put, List.setIfInBounds_toArray, List.set_cons_zero, List.set_cons_succ, List.getElem_toArray, List.getElem_cons_succ, List.getElem_cons_zero])
        refine wpAnyH_ready (rs := [3]) (by kernel_rfl) (by simp) ?_
        refine AllReadyH.cons rfl (fun K hK => ?_) AllReadyH.nil
        rw [if_pos (by rfl)]
        refine wp_append_own _ (.tmp 37) (.tmp 38) 24 (by rfl) W1.heap.size 3 i0 (Value.int .i64 0) 1 8 Tryd.underlying24 hi hz0 hz1 hz2 rfl (by decide) _ 0 [] (by rfl) hO ⟨bd, od, none⟩ d _ (D.map (Value.int .i64)) (by rfl) (by rw [List.length_map]; omega) (hDB.out _ hB1) (fun u hu => by obtain ⟨x, -, rfl⟩ := List.mem_map.1 hu; rfl) (by unfold maxLen; omega) (by omega) hB1.size ?_; intro v5 wa hown5 hg5 _
        have hl5 := hO.lt
        try (replace hT := hT.grown hg5 (by simp [Value.ownBlock]))
        replace hB1 := hB1.grown hg5 hB1.size (fun j hj => (hl5 j hj).1)
        replace hO := hown5
        clear hown5
        refine hK.out _ _ (keepB hbw hHeld2 hg5 (fun j hj => by have := (hl5 j hj).1; omega)) (fun hHeld3 => ?_)
        clear hK K
        (try simp only [Act.put, List.setIfInBounds_toArray, List.set_cons_zero, List.set_cons_succ, List.getElem_toArray, List.getElem_cons_succ, List.getElem_cons_zero])
        refine wpAnyH_ready (rs := [11]) (by kernel_rfl) (by simp) ?_
        refine AllReadyH.cons rfl (fun K hK => ?_) AllReadyH.nil
        rw [if_pos (by rfl)]
        refine wp_append_lies _ (.tmp 39) (.tmp 46) 24 (by rfl) W1.heap.size 3 i0 (Value.int .i64 0) 1 8 Tryd.underlying24 hi hz0 hz1 hz2 rfl (by decide) v5 (0 + d) ([] ++ D.map (Value.int .i64)) (by rfl) hO _ 1 _ [.int .i64 (q : Int)] (by rfl) rfl hT.at (by simp [Value.oneCell']) (by decide) (by unfold maxLen; omega) (by omega) hB1.size _ rfl ?_; intro g6 c6 w6 hown6 hg6 hat6 hlt6
        simp only [Nat.zero_add] at hown6 ⊢
        have hl6 := hO.lt
        replace hB1 := hB1.grown hg6 hB1.size (fun j hj => (hl6 j hj).1)
        clear hT hO
        refine hK.out _ _ (keepB hbw hHeld3 hg6 (fun j hj => by have := (hl6 j hj).1; omega)) (fun hHeld4 => ?_)
        clear hK K
        (try simp only [Act.put, List.setIfInBounds_toArray, List.set_cons_zero, List.set_cons_succ, List.getElem_toArray, List.getElem_cons_succ, List.getElem_cons_zero])
        refine wpAnyH_ready (rs := [12]) (by kernel_rfl) (by simp) ?_
        refine AllReadyH.cons rfl (fun K hK => ?_) AllReadyH.nil
        rw [if_pos (by rfl)]
        have hT := newOneS (base := W1.heap.size) hB1 (.slice (some ⟨g6, 0, none⟩) (d + 1) c6)
        replace hown6 := hown6.alloc (.cells #[.slice (some ⟨g6, 0, none⟩) (d + 1) c6] 24)
        replace hB1 := hB1.alloc hB1.size (.cells #[.slice (some ⟨g6, 0, none⟩) (d + 1) c6] 24)
        go_wp2_with fail
        refine hK.out _ _ (keepA hbw hHeld4 _) (fun hHeld5 => ?_)
        clear hK K
        (try simp only [Act.put, List.setIfInBounds_toArray, List.set_cons_zero, List.set_cons_succ, List.getElem_toArray, List.getElem_cons_succ, List.getElem_cons_zero])
        refine wpAnyH_ready (rs := [13]) (by kernel_rfl) (by simp) ?_
        refine AllReadyH.cons rfl (fun K hK => ?_) AllReadyH.nil
        rw [if_pos (by rfl)]
        refine wp_append_lies _ (.tmp 36) (.tmp 48) 29 (by rfl) w.heap.size 24 i1 (Value.slice none 0 0) 1 24 Tryd.underlying29 hi' hz0' hz1' hz2' rfl (by decide) (.slice (some ⟨w.heap.size, 0, none⟩) 0 0) 0 [] (by rfl) (owns_below hown hB1) _ 1 _ [.slice (some ⟨g6, 0, none⟩) (d + 1) c6] (by rfl) rfl hT.at (by simp [Value.oneCell']) (by decide) (by unfold maxLen; omega) (by omega) (Nat.le_trans hb1.size hB1.size) _ rfl ?_; intro g8 c8 w8 hown8 hg8 hat8 hlt8
        have hF := leaf_done (D := D) (q := q) hown (by omega) hB1 hD1 hD2 hown6 hown8 hg8 hat8
        refine hK.out _ _ (keepB hbw hHeld5 hg8 (fun j hj => by simp [Value.ownBlock] at hj; omega)) (fun hHeld6 => ?_)
        clear hK K
        (try simp only [Act.put, List.setIfInBounds_toArray, List.set_cons_zero, List.set_cons_succ, List.getElem_toArray, List.getElem_cons_succ, List.getElem_cons_zero])
        refine held_take 14 _ _ rfl (by kernel_rfl) (by kernel_rfl) (by kernel_rfl) (fun _ _ _ h => h) (by rfl) hHeld6 (fun w hSw => by (try dsimp only at hSw); go_simp; try with_reducible rfl) ?_
        (try simp only [Act.put, List.setIfInBounds_toArray, List.set_cons_zero, List.set_cons_succ, List.getElem_toArray, List.getElem_cons_succ, List.getElem_cons_zero])
        refine wpAnyH_done (by kernel_rfl) ?_ _
        try simp only [Nat.zero_add] at hF
        have hbF := (hHeld6).2
        clear hqx hqw hB1 hown6 hown8 hT
        go_wp2_with fail
        go_ret
        exact ⟨_, _, [_], rfl, by rw [HR.out]; exact hF, hbF⟩
    · rw [if_pos (by rfl)]
      have hT := newOne (base := W1.heap.size) hB1 (.int .i64 (q : Int))
      try simp only [alloc_sz] at hT
      try (replace hO := hO.alloc (.cells #[.int .i64 (q : Int)] 3))
      replace hB1 := hB1.alloc hB1.size (.cells #[.int .i64 (q : Int)] 3)
      go_wp2_with fail
      refine hK.out _ _ (keepA hbw hHeld _) (fun hHeld1 => ?_)
      clear hK K
      (try simp only [Act.put, List.setIfInBounds_toArray, List.set_cons_zero, List.set_cons_succ, List.getElem_toArray, List.getElem_cons_succ, List.getElem_cons_zero])
      refine wpAnyH_ready (rs := [1]) (by kernel_rfl) (by simp) ?_
      refine AllReadyH.cons rfl (fun K hK => ?_) AllReadyH.nil
      rw [if_pos (by rfl)]
      have hO := newEmpty hB1
      try simp only [alloc_sz] at hO
      try (replace hT := hT.alloc (.cells #[] 3))
      replace hB1 := hB1.alloc hB1.size (.cells #[] 3)
      go_wp2_with fail
      refine hK.out _ _ (keepA hbw hHeld1 _) (fun hHeld2 => ?_)
      clear hK K
      (try simp only [Act.put, List.setIfInBounds_toArray, List.set_cons_zero, List.set_cons_succ, List.getElem_toArray, List.getElem_cons_succ, List.getElem_cons_zero])
      refine wpAnyH_ready (rs := [3]) (by kernel_rfl) (by simp) ?_
      refine AllReadyH.cons rfl (fun K hK => ?_) AllReadyH.nil
      rw [if_pos (by rfl)]
      refine wp_append_own _ (.tmp 37) (.tmp 38) 24 (by rfl) W1.heap.size 3 i0 (Value.int .i64 0) 1 8 Tryd.underlying24 hi hz0 hz1 hz2 rfl (by decide) _ 0 [] (by rfl) hO ⟨bd, od, none⟩ d _ (D.map (Value.int .i64)) (by rfl) (by rw [List.length_map]; omega) (hDB.out _ hB1) (fun u hu => by obtain ⟨x, -, rfl⟩ := List.mem_map.1 hu; rfl) (by unfold maxLen; omega) (by omega) hB1.size ?_; intro v5 wa hown5 hg5 _
      have hl5 := hO.lt
      try (replace hT := hT.grown hg5 (by simp [Value.ownBlock]))
      replace hB1 := hB1.grown hg5 hB1.size (fun j hj => (hl5 j hj).1)
      replace hO := hown5
      clear hown5
      refine hK.out _ _ (keepB hbw hHeld2 hg5 (fun j hj => by have := (hl5 j hj).1; omega)) (fun hHeld3 => ?_)
      clear hK K
      (try simp only [Act.put, List.setIfInBounds_toArray, List.set_cons_zero, List.set_cons_succ, List.getElem_toArray, List.getElem_cons_succ, List.getElem_cons_zero])
      refine wpAnyH_ready (rs := [11]) (by kernel_rfl) (by simp) ?_
      refine AllReadyH.cons rfl (fun K hK => ?_) AllReadyH.nil
      rw [if_pos (by rfl)]
      refine wp_append_lies _ (.tmp 39) (.tmp 46) 24 (by rfl) W1.heap.size 3 i0 (Value.int .i64 0) 1 8 Tryd.underlying24 hi hz0 hz1 hz2 rfl (by decide) v5 (0 + d) ([] ++ D.map (Value.int .i64)) (by rfl) hO _ 1 _ [.int .i64 (q : Int)] (by rfl) rfl hT.at (by simp [Value.oneCell']) (by decide) (by unfold maxLen; omega) (by omega) hB1.size _ rfl ?_; intro g6 c6 w6 hown6 hg6 hat6 hlt6
      simp only [Nat.zero_add] at hown6 ⊢
      have hl6 := hO.lt
      replace hB1 := hB1.grown hg6 hB1.size (fun j hj => (hl6 j hj).1)
      clear hT hO
      refine hK.out _ _ (keepB hbw hHeld3 hg6 (fun j hj => by have := (hl6 j hj).1; omega)) (fun hHeld4 => ?_)
      clear hK K
      (try simp only [Act.put, List.setIfInBounds_toArray, List.set_cons_zero, List.set_cons_succ, List.getElem_toArray, List.getElem_cons_succ, List.getElem_cons_zero])
      refine wpAnyH_ready (rs := [12]) (by kernel_rfl) (by simp) ?_
      refine AllReadyH.cons rfl (fun K hK => ?_) AllReadyH.nil
      rw [if_pos (by rfl)]
      have hT := newOneS (base := W1.heap.size) hB1 (.slice (some ⟨g6, 0, none⟩) (d + 1) c6)
      replace hown6 := hown6.alloc (.cells #[.slice (some ⟨g6, 0, none⟩) (d + 1) c6] 24)
      replace hB1 := hB1.alloc hB1.size (.cells #[.slice (some ⟨g6, 0, none⟩) (d + 1) c6] 24)
      go_wp2_with fail
      refine hK.out _ _ (keepA hbw hHeld4 _) (fun hHeld5 => ?_)
      clear hK K
      (try simp only [Act.put, List.setIfInBounds_toArray, List.set_cons_zero, List.set_cons_succ, List.getElem_toArray, List.getElem_cons_succ, List.getElem_cons_zero])
      refine wpAnyH_ready (rs := [13]) (by kernel_rfl) (by simp) ?_
      refine AllReadyH.cons rfl (fun K hK => ?_) AllReadyH.nil
      rw [if_pos (by rfl)]
      refine wp_append_lies _ (.tmp 36) (.tmp 48) 29 (by rfl) w.heap.size 24 i1 (Value.slice none 0 0) 1 24 Tryd.underlying29 hi' hz0' hz1' hz2' rfl (by decide) (.slice (some ⟨w.heap.size, 0, none⟩) 0 0) 0 [] (by rfl) (owns_below hown hB1) _ 1 _ [.slice (some ⟨g6, 0, none⟩) (d + 1) c6] (by rfl) rfl hT.at (by simp [Value.oneCell']) (by decide) (by unfold maxLen; omega) (by omega) (Nat.le_trans hb1.size hB1.size) _ rfl ?_; intro g8 c8 w8 hown8 hg8 hat8 hlt8
      have hF := leaf_done (D := D) (q := q) hown (by omega) hB1 hD1 hD2 hown6 hown8 hg8 hat8
      refine hK.out _ _ (keepB hbw hHeld5 hg8 (fun j hj => by simp [Value.ownBlock] at hj; omega)) (fun hHeld6 => ?_)
      clear hK K
      (try simp only [Act.put, List.setIfInBounds_toArray, List.set_cons_zero, List.set_cons_succ, List.getElem_toArray, List.getElem_cons_succ, List.getElem_cons_zero])
      refine held_take 14 _ _ rfl (by kernel_rfl) (by kernel_rfl) (by kernel_rfl) (fun _ _ _ h => h) (by rfl) hHeld6 (fun w hSw => by (try dsimp only at hSw); go_simp; try with_reducible rfl) ?_
      (try simp only [Act.put, List.setIfInBounds_toArray, List.set_cons_zero, List.set_cons_succ, List.getElem_toArray, List.getElem_cons_succ, List.getElem_cons_zero])
      refine wpAnyH_done (by kernel_rfl) ?_ _
      try simp only [Nat.zero_add] at hF
      have hbF := (hHeld6).2
      clear hqx hqw hB1 hown6 hown8 hT
      go_wp2_with fail
      go_ret
      exact ⟨_, _, [_], rfl, by rw [HR.out]; exact hF, hbF⟩
  · have hmz : (((t % g : Nat) : Int) == 0) = false := by rw [beq_eq_false_iff_ne]; omega
    have hmz2 : (t % g == 0) = false := by rw [beq_eq_false_iff_ne]; exact hz
    have hmz3 : ((t : Int) % (g : Int) == 0) = false := by rw [hwr]; exact hmz
    clear hwr hmz
    have HR : Hid ((findF [(g : Int)] t).map (D ++ ·) = []) := Lib.hid (by rw [findF_one, Int.toNat_natCast, if_neg hz]; rfl)
    go_enter Tryd.func33, Tryd.ntmps33
    go_wp2_with fail
    rw [← HW1.out]
    go_wp2_with fail
    go_ret
    exact ⟨_, _, [], rfl, by rw [HR.out]; exact rows2_empty hown (by omega), hb1⟩
end Go.Proofs.YtlinlmmcgifloaaDoor

/-
  CONTRACTS of chapter 11: ValueOf, IsFactorization (spec). (Own work: mkVal.py.)
-/
namespace Go.Proofs.YtlinlmmcgifloaaDoor
open Go Go.RowKit

private theorem dot_take_bnd {L G : List Int} (hl : L.length = G.length) (hG : ∀ g ∈ G, 1 ≤ g ∧ g ≤ 60) {k : Nat} (ha : (L.take k).all (fun x => inB x 0 1000000) = true) (hk : k ≤ L.length) : 0 ≤ dotL (L.take k) (G.take k) ∧ dotL (L.take k) (G.take k) ≤ 60000000 * (k : Int) := by
  have h := dot_bnd (L := L.take k) (G := G.take k) (by rw [List.length_take, List.length_take]; omega) (fun g hg => hG g (List.mem_of_mem_take hg)) (fun x hx => inB_true (List.all_eq_true.1 ha x hx)) k (by rw [List.length_take]; omega)
  rw [List.take_take, List.take_take, Nat.min_self] at h
  exact h
set_option maxRecDepth 100000 in
set_option maxHeartbeats 1600000 in
theorem spec_ValueOf (G L : List Int) (a : Option Addr) (cap : Nat) (al : Option Addr) (cl : Nat) (w : World) (hr : SlV w a (G.map (Value.int .i64))) (hrl : SlV w al (L.map (Value.int .i64))) (hb : G.length ≤ 1048576) (hbl : L.length ≤ 1048576) :
    Calls Tryd.prog 17 #[.agg #[.slice a G.length cap], .slice al L.length cl] w fun e w' => e = .returned (.int .i64 (valueN G L)) ∧ Below w.heap.size w w' := by
  obtain ⟨W, hW⟩ : ∃ W, W = w.alloc (.cells #[.slice a G.length cap] 26) := ⟨_, rfl⟩
  have hbW : Below w.heap.size w W := by rw [hW]; exact box_below _ _
  have hc0 : W.cell? ⟨w.heap.size, 0, none⟩ = some (.slice a G.length cap) := by rw [hW]; exact box_cell w _
  have hWs : w.heap.size < W.heap.size := by rw [hW]; simp
  have HW := Lib.hid hW
  clear hW
  have c1 := spec_IsSemigroup G a cap W (hr.below hbW) hb
  have ci := fun (x : Int) w => l1In_any x 0 1000000 w
  cases hs : isSgB G
  · have HR := Lib.hid (valueN_sg L hs)
    rw [hs] at c1
    clear hs hr hrl
    go_enter Tryd.func17, Tryd.ntmps17
    go_wp2_with fail
    rw [← HW.out]
    refine c1.mono ?_
    rintro e w1 ⟨rfl, hb1⟩
    have hb01 := hbW.trans (hb1.mono hbW.size)
    go_wp2_with fail
    go_ret
    exact ⟨by rw [HR.out]; rfl, hb01⟩
  · rw [hs] at c1
    have HS := Lib.hid (isSgB_iff.1 hs).bounds
    have HS20 := Lib.hid (isSgB_iff.1 hs).len
    have HSG := Lib.hid hs
    clear hs
    by_cases hl : L.length = G.length
    · have HLG := Lib.hid hl
      obtain ⟨n, hn⟩ : ∃ n, n = G.length := ⟨_, rfl⟩
      have hn20 : n ≤ 12 := by rw [hn]; exact HS20.out
      rw [← hn] at c1 hc0 hb HW
      rw [hl, ← hn] at hbl
      rw [hl, ← hn]
      have HN := Lib.hid hn
      clear hn hl
      go_enter Tryd.func17, Tryd.ntmps17
      go_wp2_with fail
      rw [← HW.out]
      refine c1.mono ?_
      rintro e w1 ⟨rfl, hb1⟩
      have hb01 := hbW.trans (hb1.mono hbW.size)
      have hk1 : w1.cell? ⟨w.heap.size, 0, none⟩ = some (.slice a n cap) := by rw [hb1.cell (p := ⟨w.heap.size, 0, none⟩) hWs]; exact hc0
      have hz1 : w.heap.size < w1.heap.size := Nat.lt_of_lt_of_le hWs hb1.size
      clear c1 hb1 hc0 hWs hbW
      go_wp2_with fail
      go_loopw [5, 6] (fun s i wr => ∃ k : Nat, k ≤ n ∧ i = .int .i64 (k : Int) ∧ s = .int .i64 (dotL (L.take k) (G.take k)) ∧ Hid ((L.take k).all (fun x => inB x 0 1000000) = true) ∧ w.heap.size < wr.heap.size ∧ wr.cell? ⟨w.heap.size, 0, none⟩ = some (.slice a n cap) ∧ Below w.heap.size w wr) (fun _ i _ => n - (intOf i).toNat)
      case atStart => exact ⟨0, Nat.zero_le _, rfl, rfl, Lib.hid rfl, hz1, hk1, hb01⟩
      case round =>
        clear hz1 hk1 hb01
        obtain ⟨k, hk, rfl, rfl, HA, hzr, hkb, hbel⟩ := hrel
        by_cases hlt : k < n
        · have hlti : (k : Int) < (n : Int) := by omega
          have hkL : k < L.length := by rw [HLG.out, ← HN.out]; exact hlt
          have hkG : k < G.length := by rw [← HN.out]; exact hlt
          obtain ⟨bl, ol, rfl, hbs, hcl⟩ := (hrl.below hbel).open (by intro h; rw [List.map_eq_nil_iff] at h; subst h; simp at hkL)
          obtain ⟨bg, og, rfl, hgs, hcg⟩ := (hr.below hbel).open (by intro h; rw [List.map_eq_nil_iff] at h; subst h; simp at hkG)
          have hcx : wr.cell? ⟨bl, ol + k, none⟩ = some (.int .i64 L[k]) := hcl k _ (by simp [hkL])
          have hcy : wr.cell? ⟨bg, og + k, none⟩ = some (.int .i64 G[k]) := hcg k _ (by simp [hkG])
          obtain ⟨hg0, hg1⟩ := HS.out G[k] (List.getElem_mem hkG)
          obtain ⟨hd0, hd1⟩ := dot_take_bnd HLG.out HS.out HA.out (Nat.le_of_lt hkL)
          have HT := Lib.hid (dotL_take HLG.out hkL)
          have HT2 : Hid ((L.take (k + 1)).all (fun x => inB x 0 1000000) = inB L[k] 0 1000000) := Lib.hid (by rw [List.take_add_one, List.getElem?_eq_getElem hkL, List.all_append, HA.out]; simp)
          have HM := Lib.hid (List.getElem_mem hkL)
          have hk0 : (0 : Int) ≤ (k : Int) := by omega
          have hkb3 := hkb
          clear hcl hcg
          generalize G[k] = g at *
          generalize dotL (L.take k) (G.take k) = d at *
          cases hin : inB L[k] 0 1000000
          · have HR : Hid (valueN G L = -1) := Lib.hid (valueN_out (by rw [List.all_eq_false]; exact ⟨L[k], HM.out, by rw [hin]; simp⟩))
            have c2 := ci L[k]
            rw [hin] at c2
            clear hin HM HT2 HT
            generalize L[k] = x at *
            go_wp2_with fail
            refine (c2 _).mono ?_
            rintro e w2 ⟨rfl, hww⟩
            subst hww
            go_wp2_with fail
            go_ret
            exact ⟨by rw [HR.out]; rfl, hbel⟩
          · obtain ⟨hx0, hx1⟩ := inB_true hin
            have c2 := ci L[k]
            rw [hin] at c2
            rw [hin] at HT2
            clear hin HM
            generalize L[k] = x at *
            have hp0 : 0 ≤ x * g := Int.mul_nonneg hx0 (by omega)
            have hp1 : x * g ≤ 1000000 * 60 := Int.mul_le_mul hx1 hg1 (by omega) (by omega)
            obtain ⟨p, hp⟩ : ∃ p, p = x * g := ⟨_, rfl⟩
            rw [← hp] at hp0 hp1 HT
            have hw1 : IntKind.i64.wrap (x * g) = p := by rw [← hp]; exact IntWalk.i64_in _ (by omega)
            have hw2 : IntKind.i64.wrap (d + p) = d + p := IntWalk.i64_in _ (by omega)
            clear hp
            go_wp2_with fail
            refine (c2 _).mono ?_
            rintro e w2 ⟨rfl, hww⟩
            subst hww
            clear c2
            have hS0 : w2.drew.cell? ⟨w.heap.size, 0, none⟩ = some (.slice (some ⟨bg, og, none⟩) n cap) ∧ w2.drew.cell? ⟨bl, ol + k, none⟩ = some (.int .i64 x) ∧ w2.drew.cell? ⟨bg, og + k, none⟩ = some (.int .i64 g) ∧ Below w2.heap.size w2 w2.drew := ⟨hkb, hcx, hcy, (Below.refl _ _).drew⟩
            go_wp2_with fail
            refine wp_region_held_drew (S := fun w' => w'.cell? ⟨w.heap.size, 0, none⟩ = some (.slice (some ⟨bg, og, none⟩) n cap) ∧ w'.cell? ⟨bl, ol + k, none⟩ = some (.int .i64 x) ∧ w'.cell? ⟨bg, og + k, none⟩ = some (.int .i64 g) ∧ Below w2.heap.size w2 w') (by kernel_rfl) hS0 (fun hHeld => ?_)
            refine held_take 0 _ _ rfl (by kernel_rfl) (by kernel_rfl) (by kernel_rfl) (fun _ _ _ h => h) (by rfl) hHeld (fun w hSw => by (try dsimp only at hSw); go_simp; try with_reducible rfl) ?_
            (try simp only [Act.put, List.setIfInBounds_toArray, List.set_cons_zero, List.set_cons_succ, List.getElem_toArray, List.getElem_cons_zero])
            refine held_take 1 _ _ rfl (by kernel_rfl) (by kernel_rfl) (by kernel_rfl) (fun _ _ _ h => h) (by rfl) hHeld (fun w hSw => by (try dsimp only at hSw); go_simp; try with_reducible rfl) ?_
            (try simp only [Act.put, List.setIfInBounds_toArray, List.set_cons_zero, List.set_cons_succ, List.getElem_toArray, List.getElem_cons_succ, List.getElem_cons_zero])
            refine held_take 2 _ _ rfl (by kernel_rfl) (by kernel_rfl) (by kernel_rfl) (fun _ _ _ h => h) (by rfl) hHeld (fun w hSw => by (try dsimp only at hSw); go_simp; try with_reducible rfl) ?_
            (try simp only [Act.put, List.setIfInBounds_toArray, List.set_cons_zero, List.set_cons_succ, List.getElem_toArray, List.getElem_cons_succ, List.getElem_cons_zero])
            refine held_take 3 _ _ rfl (by kernel_rfl) (by kernel_rfl) (by kernel_rfl) (fun _ _ _ h => h) (by rfl) hHeld (fun w hSw => by (try dsimp only at hSw); go_simp; try with_reducible rfl) ?_
            (try simp only [Act.put, List.setIfInBounds_toArray, List.set_cons_zero, List.set_cons_succ, List.getElem_toArray, List.getElem_cons_succ, List.getElem_cons_zero])
            refine held_take 4 _ _ rfl (by kernel_rfl) (by kernel_rfl) (by kernel_rfl) (fun _ _ _ h => h) (by rfl) hHeld (fun w hSw => by (try dsimp only at hSw); go_simp; try with_reducible rfl) ?_
            (try simp only [Act.put, List.setIfInBounds_toArray, List.set_cons_zero, List.set_cons_succ, List.getElem_toArray, List.getElem_cons_succ, List.getElem_cons_zero])
            refine held_take 5 _ _ rfl (by kernel_rfl) (by kernel_rfl) (by kernel_rfl) (fun _ _ _ h => h) (by rfl) hHeld (fun w hSw => by (try dsimp only at hSw); go_simp; try with_reducible rfl) ?_
            (try simp only [Act.put, List.setIfInBounds_toArray, List.set_cons_zero, List.set_cons_succ, List.getElem_toArray, List.getElem_cons_succ, List.getElem_cons_zero])
            refine held_take 6 _ _ rfl (by kernel_rfl) (by kernel_rfl) (by kernel_rfl) (fun _ _ _ h => h) (by rfl) hHeld (fun w hSw => by (try dsimp only at hSw); go_simp; try with_reducible rfl) ?_
            (try simp only [Act.put, List.setIfInBounds_toArray, List.set_cons_zero, List.set_cons_succ, List.getElem_toArray, List.getElem_cons_succ, List.getElem_cons_zero])
            refine held_take 7 _ _ rfl (by kernel_rfl) (by kernel_rfl) (by kernel_rfl) (fun _ _ _ h => h) (by rfl) hHeld (fun w hSw => by (try dsimp only at hSw); go_simp; try with_reducible rfl) ?_
            (try simp only [Act.put, List.setIfInBounds_toArray, List.set_cons_zero, List.set_cons_succ, List.getElem_toArray, List.getElem_cons_succ, List.getElem_cons_zero])
            refine held_take 8 _ _ rfl (by kernel_rfl) (by kernel_rfl) (by kernel_rfl) (fun _ _ _ h => h) (by rfl) hHeld (fun w hSw => by (try dsimp only at hSw); go_simp; try with_reducible rfl) ?_
            (try simp only [Act.put, List.setIfInBounds_toArray, List.set_cons_zero, List.set_cons_succ, List.getElem_toArray, List.getElem_cons_succ, List.getElem_cons_zero])
            refine held_take 9 _ _ rfl (by kernel_rfl) (by kernel_rfl) (by kernel_rfl) (fun _ _ _ h => h) (by rfl) hHeld (fun w hSw => by (try dsimp only at hSw); go_simp; try with_reducible rfl) ?_
            (try simp only [Act.put, List.setIfInBounds_toArray, List.set_cons_zero, List.set_cons_succ, List.getElem_toArray, List.getElem_cons_succ, List.getElem_cons_zero])
            refine held_take 10 _ _ rfl (by kernel_rfl) (by kernel_rfl) (by kernel_rfl) (fun _ _ _ h => h) (by rfl) hHeld (fun w hSw => by (try dsimp only at hSw); go_simp; try with_reducible rfl) ?_
            (try simp only [Act.put, List.setIfInBounds_toArray, List.set_cons_zero, List.set_cons_succ, List.getElem_toArray, List.getElem_cons_succ, List.getElem_cons_zero])
            refine held_take 11 _ _ rfl (by kernel_rfl) (by kernel_rfl) (by kernel_rfl) (fun _ _ _ h => h) (by rfl) hHeld (fun w hSw => by (try dsimp only at hSw); go_simp; try with_reducible rfl) ?_
            (try simp only [Act.put, List.setIfInBounds_toArray, List.set_cons_zero, List.set_cons_succ, List.getElem_toArray, List.getElem_cons_succ, List.getElem_cons_zero])
            refine held_take 12 _ _ rfl (by kernel_rfl) (by kernel_rfl) (by kernel_rfl) (fun _ _ _ h => h) (by rfl) hHeld (fun w hSw => by (try dsimp only at hSw); go_simp; try with_reducible rfl) ?_
            (try simp only [Act.put, List.setIfInBounds_toArray, List.set_cons_zero, List.set_cons_succ, List.getElem_toArray, List.getElem_cons_succ, List.getElem_cons_zero])
            refine wpAnyH_done (by kernel_rfl) ?_ _
            have hb3 := hbel.trans ((hHeld.2.2.2).mono hbel.size)
            have hkb4 := hHeld.1
            have hz4 : w.heap.size < _ := Nat.lt_of_lt_of_le hzr (hHeld.2.2.2).size
            clear hS0 hHeld
            go_wp2_with fail
            go_roundw
            case rel => exact ⟨k + 1, by omega, by go_num, by rw [HT.out], HT2, hz4, hkb4, hb3⟩
            case measure => simp [intOf]; omega
        · obtain rfl : k = n := by omega
          have HR : Hid (valueN G L = dotL L G) := Lib.hid (valueN_yes HSG.out HLG.out (by have := HA.out; rw [HN.out, ← HLG.out, List.take_length] at this; exact this))
          have HD : Hid (dotL (L.take k) (G.take k) = dotL L G) := Lib.hid (by rw [HN.out, List.take_length, ← HLG.out, List.take_length])
          generalize dotL (L.take k) (G.take k) = d at *
          go_wp2_with fail
          go_ret
          exact ⟨by rw [HR.out, ← HD.out]; rfl, hbel⟩
    · have HR := Lib.hid (valueN_len (G := G) (L := L) hl)
      obtain ⟨n, hn⟩ : ∃ n, n = G.length := ⟨_, rfl⟩
      obtain ⟨m, hm⟩ : ∃ m, m = L.length := ⟨_, rfl⟩
      rw [← hn] at c1 hc0 hb hl HW
      rw [← hm] at hl hbl
      rw [← hn, ← hm]
      clear hn hm
      have hd1 : ((m : Int) != (n : Int)) = true := by rw [bne_iff_ne]; omega
      go_enter Tryd.func17, Tryd.ntmps17
      go_wp2_with fail
      rw [← HW.out]
      refine c1.mono ?_
      rintro e w1 ⟨rfl, hb1⟩
      have hb01 := hbW.trans (hb1.mono hbW.size)
      have hk1 : w1.cell? ⟨w.heap.size, 0, none⟩ = some (.slice a n cap) := by rw [hb1.cell (p := ⟨w.heap.size, 0, none⟩) hWs]; exact hc0
      have hz1 : w.heap.size < w1.heap.size := Nat.lt_of_lt_of_le hWs hb1.size
      clear c1 hb1 hc0 hWs hbW hr hrl
      go_wp2_with fail
      go_ret
      exact ⟨by rw [HR.out]; rfl, hb01⟩

set_option maxRecDepth 100000 in
set_option maxHeartbeats 800000 in
theorem spec_IsFactorization (G L : List Int) (x : Int) (a : Option Addr) (cap : Nat) (al : Option Addr) (cl : Nat) (w : World) (hr : SlV w a (G.map (Value.int .i64))) (hrl : SlV w al (L.map (Value.int .i64))) (hb : G.length ≤ 1048576) (hbl : L.length ≤ 1048576) :
    Calls Tryd.prog 15 #[.agg #[.slice a G.length cap], .int .i64 x, .slice al L.length cl] w fun e w' => e = .returned (.bool (isFacB G x L)) ∧ Below w.heap.size w w' := by
  have hb0 := box_below w (.cells #[.slice a G.length cap] 26)
  have hc0 := box_cell w (.slice a G.length cap)
  by_cases hx : 0 ≤ x
  · have c1 := spec_ValueOf G L a cap al cl _ (hr.below hb0) (hrl.below hb0) hb hbl
    have HR : Hid (isFacB G x L = decide (valueN G L = x)) := Lib.hid (by unfold isFacB; rw [decide_eq_true hx, Bool.true_and])
    clear hr hrl
    have hd : decide (x < 0) = false := decide_eq_false (by omega)
    generalize valueN G L = v at *
    go_enter Tryd.func15, Tryd.ntmps15
    go_wp2_with fail
    refine c1.mono ?_
    rintro e w1 ⟨rfl, hb1⟩
    have hb01 := hb0.trans (hb1.mono hb0.size)
    clear c1
    by_cases hvx : v = x
    · have hq : (v == x) = true := by rw [beq_iff_eq]; exact hvx
      replace HR : Hid (isFacB G x L = true) := Lib.hid (by rw [HR.out]; exact decide_eq_true hvx)
      clear hvx
      go_wp2_with fail
      go_ret
      exact ⟨by rw [HR.out]; rfl, hb01⟩
    · have hq : (v == x) = false := by rw [beq_eq_false_iff_ne]; exact hvx
      replace HR : Hid (isFacB G x L = false) := Lib.hid (by rw [HR.out]; exact decide_eq_false hvx)
      clear hvx
      go_wp2_with fail
      go_ret
      exact ⟨by rw [HR.out]; rfl, hb01⟩
  · have HR : Hid (isFacB G x L = false) := Lib.hid (by unfold isFacB; rw [decide_eq_false hx, Bool.false_and])
    have hd : x < 0 := by omega
    clear hr hrl hx
    go_enter Tryd.func15, Tryd.ntmps15
    go_wp2_with fail
    go_ret
    exact ⟨by rw [HR.out]; rfl, hb0⟩
end Go.Proofs.YtlinlmmcgifloaaDoor

/-
  CONTRACTS of the reference's chapter 11: CountFactorizations. (Own work: mkCnt.py.)
-/
namespace Go.Proofs.YtlinlmmcgifloaaDoor
open Go Go.RowKit

def tabI (f : Nat → Int) (m : Nat) : List Value := (List.range m).map fun i => Value.int .i64 (f i)
theorem tabI_len (f : Nat → Int) (m : Nat) : (tabI f m).length = m := by unfold tabI; simp
theorem tabI_get (f : Nat → Int) {m j : Nat} (h : j < m) : (tabI f m)[j]? = some (.int .i64 (f j)) := by unfold tabI; simp [h]
theorem tabI_congr {f g : Nat → Int} {m : Nat} (h : ∀ i, i < m → f i = g i) : tabI f m = tabI g m := by
  unfold tabI; exact List.map_congr_left fun i hi => by rw [h i (by simpa using hi)]
theorem tabI_set {f g : Nat → Int} {m j : Nat} (u : Int) (hj : g j = u) (h : ∀ i, i ≠ j → f i = g i) : (tabI f m).set j (.int .i64 u) = tabI g m := by
  apply List.ext_getElem?
  intro i
  by_cases hi : i < m
  · rw [tabI_get g hi]
    by_cases e : i = j
    · subst e; rw [List.getElem?_set_self (by rw [tabI_len]; exact hi), hj]
    · rw [List.getElem?_set_ne (Ne.symm e), tabI_get f hi, h i e]
  · rw [List.getElem?_eq_none (by rw [List.length_set, tabI_len]; omega), List.getElem?_eq_none (by rw [tabI_len]; omega)]
theorem mixW_at (g : Nat) (T : Nat → Int) (j : Nat) : mixW g T j j = T j := by unfold mixW; simp
theorem mixW_back {g : Nat} (T : Nat → Int) {j i : Nat} (h : i < j) : mixW g T j i = stepW g T i := by unfold mixW; simp [h]
theorem mixW_far {g : Nat} (T : Nat → Int) {j m : Nat} (h : m ≤ j) : tabI (mixW g T j) m = tabI (stepW g T) m := tabI_congr fun i hi => mixW_back T (by omega)
theorem mixW_set {g : Nat} (T : Nat → Int) {j m : Nat} : (tabI (mixW g T j) m).set j (.int .i64 (stepW g T j)) = tabI (mixW g T (j + 1)) m :=
  tabI_set _ (mixW_back T (Nat.lt_succ_self j)) fun i hi => by
    unfold mixW
    by_cases h : i < j
    · rw [if_pos h, if_pos (by omega)]
    · rw [if_neg h, if_neg (by omega)]
theorem countN_no {G : List Int} {n : Int} (h : isSgB G = false ∨ inB n 0 1000 = false) : countN G n = -1 := by
  unfold countN; rcases h with h | h <;> simp [h]
theorem countN_yes {G : List Int} {m : Nat} (hs : isSgB G = true) (h : inB (m : Int) 0 1000 = true) : countN G (m : Int) = waysT G m := by
  unfold countN; simp [hs, h]
/-- The new table, and what the first store leaves of it. -/
theorem tabI0 {w w1 : World} (M : Nat) (hM0 : 0 < M) (hown : w1.ownsRow w.heap.size 3 1 (.slice (some ⟨w.heap.size, 0, none⟩) M M) M (madeCells (Value.int .i64 0).cells (M * 1)).toList) (hgrow : w.grownBy w1 none) :
    (∃ u, w1.cell? ⟨w.heap.size, 0, none⟩ = some u) ∧ w1.frozen? ⟨w.heap.size, 0, none⟩ = false ∧
    Hid ((w1.setCell ⟨w.heap.size, 0, none⟩ (.int .i64 1)).ownsRow w.heap.size 3 1 (.slice (some ⟨w.heap.size, 0, none⟩) M M) M (tabI (waysT []) M)) ∧
    Hid (Below w.heap.size w (w1.setCell ⟨w.heap.size, 0, none⟩ (.int .i64 1))) := by
  have hbel : Below w.heap.size w w1 := (Below.refl _ w).grown hgrow (Nat.le_refl _) (fun k h => by cases h)
  have hown' : w1.ownsRow w.heap.size 3 1 (.slice (some ⟨w.heap.size, 0, none⟩) M M) M (tabI (fun _ => 0) M) := by
    have e : (madeCells (Value.int .i64 0).cells (M * 1)).toList = List.replicate M (Value.int .i64 0) := by rw [Nat.mul_one]; exact toList_madeCells_one _ _
    have e2 : tabI (fun _ => 0) M = List.replicate M (Value.int .i64 0) := by unfold tabI; exact List.map_const' .. |>.trans (by rw [List.length_range])
    rw [e2, ← e]; exact hown
  have hst := hown'.stored 0 (.int .i64 1)
  rw [tabI_set (g := waysT []) 1 rfl (fun i hi => by unfold waysT; simp [hi])] at hst
  refine ⟨?_, hown'.frozenAt 0, Lib.hid hst.1, Lib.hid (hbel.setCell (p := ⟨w.heap.size, 0, none⟩) (Nat.le_refl _) _)⟩
  rw [hown'.cellAt 0 (by omega)]; exact ⟨_, tabI_get _ (by omega)⟩

set_option maxRecDepth 100000 in
set_option maxHeartbeats 1600000 in
theorem spec_CountFactorizations (G : List Int) (x : Int) (a : Option Addr) (cap : Nat) (w : World) (hr : SlV w a (G.map (Value.int .i64))) (hb : G.length ≤ 1048576) :
    Calls Tryd.prog 13 #[.agg #[.slice a G.length cap], .int .i64 x] w fun e w' => e = .returned (.int .i64 (countN G x)) ∧ Below w.heap.size w w' := by
  obtain ⟨i0, hi, hz0, hz1, hz2⟩ := info_parts infoIntL
  obtain ⟨W, hW⟩ : ∃ W, W = w.alloc (.cells #[.slice a G.length cap] 26) := ⟨_, rfl⟩
  have hbW : Below w.heap.size w W := by rw [hW]; exact box_below _ _
  have hc0 : W.cell? ⟨w.heap.size, 0, none⟩ = some (.slice a G.length cap) := by rw [hW]; exact box_cell w _
  have hWs : w.heap.size < W.heap.size := by rw [hW]; simp
  have HW := Lib.hid hW
  clear hW
  have c1 := spec_IsSemigroup G a cap W (hr.below hbW) hb
  have ci := fun w => l1In_any x 0 1000 w
  cases hs : isSgB G
  · have HR := Lib.hid (countN_no (n := x) (.inl hs))
    rw [hs] at c1
    clear hs hr ci hi hz0 hz1 hz2
    go_enter Tryd.func13, Tryd.ntmps13
    go_wp2_with fail
    rw [← HW.out]
    refine c1.mono ?_
    rintro e w1 ⟨rfl, hb1⟩
    have hb01 := hbW.trans (hb1.mono hbW.size)
    go_wp2_with fail
    go_ret
    exact ⟨by rw [HR.out]; rfl, hb01⟩
  · rw [hs] at c1
    have HS := Lib.hid (isSgB_iff.1 hs).bounds
    have HSG := Lib.hid hs
    clear hs
    cases hx : inB x 0 1000
    · have HR := Lib.hid (countN_no (G := G) (.inr hx))
      rw [hx] at ci
      clear hx hr hi hz0 hz1 hz2
      go_enter Tryd.func13, Tryd.ntmps13
      go_wp2_with fail
      rw [← HW.out]
      refine c1.mono ?_
      rintro e w1 ⟨rfl, hb1⟩
      have hb01 := hbW.trans (hb1.mono hbW.size)
      go_wp2_with fail
      refine (ci _).mono ?_
      rintro e w2 ⟨rfl, rfl⟩
      go_wp2_with fail
      go_ret
      exact ⟨by rw [HR.out]; rfl, hb01⟩
    · obtain ⟨hx0, hx1⟩ := inB_true hx
      rw [hx] at ci
      obtain ⟨m, rfl⟩ := Int.eq_ofNat_of_zero_le hx0
      have HR := Lib.hid (countN_yes HSG.out hx)
      obtain ⟨M, hM, hM'⟩ : ∃ M, M ≤ m + 1 ∧ m + 1 ≤ M := ⟨m + 1, Nat.le_refl _, Nat.le_refl _⟩
      have hwm : IntKind.i64.wrap ((m : Int) + 1) = (M : Int) := by rw [IntWalk.i64_in _ (by omega)]; omega
      clear hx
      go_enter Tryd.func13, Tryd.ntmps13
      go_wp2_with fail
      rw [← HW.out]
      refine c1.mono ?_
      rintro e w1 ⟨rfl, hb1⟩
      have hb01 := hbW.trans (hb1.mono hbW.size)
      have hk1 : w1.cell? ⟨w.heap.size, 0, none⟩ = some (.slice a G.length cap) := by rw [hb1.cell (p := ⟨w.heap.size, 0, none⟩) hWs]; exact hc0
      have hz1' : w.heap.size < w1.heap.size := Nat.lt_of_lt_of_le hWs hb1.size
      clear c1 hb1 hc0 hWs hbW
      go_wp2_with fail
      refine (ci _).mono ?_
      rintro e w2 ⟨rfl, hww⟩
      subst hww
      clear ci
      go_wp2_with (at_make; refine wpList_make_full _ rfl _ _ 24 rfl w2.heap.size 3 i0 (Value.int .i64 0) 1 Tryd.underlying24 hi hz0 hz1 .i64 .i64 _ _ M rfl rfl (by first | rfl | (simp; done) | omega) (by first | rfl | (simp; done) | omega) (by rw [hz2]; omega) (by unfold maxLen; omega) (Nat.le_refl _) ?_; intro w1 hown hgrow; obtain ⟨⟨u, hu⟩, hfz, HO, HB⟩ := tabI0 M (by omega) hown hgrow; clear hown hgrow)
      clear hi hz0 hz1 hz2
      go_loopw [6] (fun i wr => ∃ k : Nat, k ≤ G.length ∧ i = .int .i64 (k : Int) ∧ wr.ownsRow w2.heap.size 3 1 (.slice (some ⟨w2.heap.size, 0, none⟩) M M) M (tabI (waysT (G.take k)) M) ∧ Below w2.heap.size w2 wr) (fun i _ => G.length - (intOf i).toNat)
      case atStart => exact ⟨0, Nat.zero_le _, rfl, HO.out, HB.out⟩
      case round =>
        clear HO HB hu hfz hwm
        obtain ⟨k, hk, rfl, hown, hbel⟩ := hrel
        have hkb : wr.cell? ⟨w.heap.size, 0, none⟩ = some (.slice a G.length cap) := (hbel.cell (p := ⟨w.heap.size, 0, none⟩) hz1').trans hk1
        by_cases hlt : k < G.length
        · have hlti : (k : Int) < (G.length : Int) := by omega
          have hb02 := hb01.trans (hbel.mono hb01.size)
          have HT := Lib.hid (waysT_take hlt)
          obtain ⟨hg0, hg1⟩ := HS.out G[k] (List.getElem_mem hlt)
          obtain ⟨g, hg⟩ : ∃ g : Nat, G[k] = (g : Int) := ⟨G[k].toNat, by omega⟩
          have hrG : ∀ w', Below w2.heap.size w2 w' → w'.cell? ⟨w.heap.size, 0, none⟩ = some (.slice a G.length cap) ∧ SlV w' a (G.map (Value.int .i64)) := fun w' h => ⟨(h.cell (p := ⟨w.heap.size, 0, none⟩) hz1').trans hk1, hr.below (hb01.trans (h.mono hb01.size))⟩
          have HG2 : Hid (∃ b off, a = some ⟨b, off, none⟩ ∧ ∀ w', Below w2.heap.size w2 w' → w'.cell? ⟨b, off + k, none⟩ = some (.int .i64 (g : Int))) := Lib.hid (by
            obtain ⟨b, off, ha, hbs, hc⟩ := hr.open (by intro h; rw [List.map_eq_nil_iff] at h; subst h; simp at hlt)
            exact ⟨b, off, ha, fun w' h => ((hb01.trans (h.mono hb01.size)).cell (p := ⟨b, off + k, none⟩) hbs).trans (hc k _ (by simp [hlt, hg]))⟩)
          obtain ⟨b, off, rfl, hgc⟩ := HG2.out
          have HGC := Lib.hid hgc
          have HRG := Lib.hid hrG
          have hgk := hgc wr hbel
          rw [hg] at HT hg0 hg1
          rw [Int.toNat_natCast] at HT
          clear hrG hgc hg HG2
          have HO := Lib.hid hown
          have HB := Lib.hid hbel
          clear hown hbel
          generalize waysT (G.take k) = T at *
          go_wp2_with fail
          go_loopw [7] (fun i wq => ∃ j : Nat, i = .int .i64 (j : Int) ∧ g ≤ j ∧ (j ≤ M ∨ j = g) ∧ wq.ownsRow w2.heap.size 3 1 (.slice (some ⟨w2.heap.size, 0, none⟩) M M) M (tabI (mixW g T j) M) ∧ Below w2.heap.size w2 wq) (fun i _ => M - (intOf i).toNat)
          case atStart => exact ⟨g, rfl, Nat.le_refl _, .inr rfl, by rw [mixW_start]; exact HO.out, HB.out⟩
          case round =>
            clear hkb hgk HO HB
            rename World => wq
            obtain ⟨j, rfl, hgj, hjm, hown, hbel⟩ := hrel
            have hkb := (HRG.out wq hbel).1
            have hgk := HGC.out wq hbel
            by_cases hle : j ≤ m
            · have hlei : (j : Int) ≤ (m : Int) := by omega
              have hcj : wq.cell? ⟨w2.heap.size, j, none⟩ = some (.int .i64 (T j)) := by rw [hown.cellAt j (by omega), tabI_get _ (by omega), mixW_at]
              obtain ⟨t, ht⟩ : ∃ t : Nat, j = t + g := ⟨j - g, by omega⟩
              have hct : wq.cell? ⟨w2.heap.size, t, none⟩ = some (.int .i64 (stepW g T t)) := by rw [hown.cellAt t (by omega), tabI_get _ (by omega), mixW_back T (by omega)]
              have hw1 : IntKind.i64.wrap ((j : Int) - (g : Int)) = (t : Int) := by rw [IntWalk.i64_in _ (by omega)]; omega
              have hw2 : IntKind.i64.wrap (T j + stepW g T t) = stepW g T j := by rw [stepW_ge T (by omega) hgj, show j - g = t by omega]
              have hownd : wq.drew.ownsRow w2.heap.size 3 1 (.slice (some ⟨w2.heap.size, 0, none⟩) M M) M (tabI (mixW g T j) M) := hown
              have hst := hownd.stored j (.int .i64 (stepW g T j))
              rw [mixW_set] at hst
              have HST := Lib.hid hst.1
              have hfz : wq.drew.frozen? ⟨w2.heap.size, j, none⟩ = false := hown.frozenAt j
              have HB2 := Lib.hid (hbel.drew.setCell (p := ⟨w2.heap.size, j, none⟩) (Nat.le_refl _) (.int .i64 (stepW g T j)))
              have hj0 : (0 : Int) ≤ (j : Int) := by omega
              have ht0 : (0 : Int) ≤ (t : Int) := by omega
              have hk0 : (0 : Int) ≤ (k : Int) := by omega
              have htm : (t : Int) < (M : Int) := by omega
              have hjm1 : (j : Int) < (M : Int) := by omega
              have hkbd : wq.drew.cell? ⟨w.heap.size, 0, none⟩ = some (.slice (some ⟨b, off, none⟩) G.length cap) := hkb
              have hgkd : wq.drew.cell? ⟨b, off + k, none⟩ = some (.int .i64 (g : Int)) := hgk
              have hcjd : wq.drew.cell? ⟨w2.heap.size, j, none⟩ = some (.int .i64 (T j)) := hcj
              have hctd : wq.drew.cell? ⟨w2.heap.size, t, none⟩ = some (.int .i64 (stepW g T t)) := hct
              clear hst hown hownd hbel ht hkb hgk hcj hct
              generalize T j = tj at *
              generalize stepW g T t = st at *
              generalize stepW g T j = sj at *
              go_wp2_with fail
              refine wp_region_still_tail 18 (by kernel_rfl) (by kernel_rfl) ?_
              change wpStill _ _ wq.drew _ _ _
              simp only [List.take_succ_cons, List.take_zero, List.drop_succ_cons, List.drop_zero]
              repeat still_step
              refine wpStill_nil ?_
              change wpList _ _ _ _ _ wq.drew
              generalize wq.drew = wd at *
              go_wp2_with fail
              go_roundw
              case rel => exact ⟨j + 1, by go_num, by omega, .inl (by omega), HST.out, HB2.out⟩
              case measure => simp [intOf]; omega
            · have HE := Lib.hid (mixW_far (g := g) T (show M ≤ j by omega))
              rw [HE.out] at hown
              have HO := Lib.hid hown
              clear hown
              go_wp2_with fail
              go_roundw
              case rel => exact ⟨k + 1, by omega, by go_num, by rw [HT.out]; exact HO.out, hbel⟩
              case measure => simp [intOf]; omega
        · obtain rfl : k = G.length := by omega
          have hcm : wr.cell? ⟨w2.heap.size, m, none⟩ = some (.int .i64 (waysT G m)) := by rw [hown.cellAt m (by omega), tabI_get _ (by omega), List.take_length]
          have hb02 := hb01.trans (hbel.mono hb01.size)
          clear hown hr
          go_wp2_with fail
          go_ret
          exact ⟨by rw [HR.out]; rfl, hb02⟩
end Go.Proofs.YtlinlmmcgifloaaDoor

/-
  CONTRACTS of chapter 12: GreatestElasticity (spec). (Own work: mkGr.py.)
-/
namespace Go.Proofs.YtlinlmmcgifloaaDoor
open Go Go.RowKit

end Go.Proofs.YtlinlmmcgifloaaDoor

/-
  CONTRACTS of the reference's chapter 11: the inner node of the search for factorizations. (Own work: mkL40.py.)
-/
namespace Go.Proofs.YtlinlmmcgifloaaDoor
open Go Go.RowKit

theorem keepD {W w' w2 : World} {b o : Nat} {v : Value} (hb : b < W.heap.size) (h : w'.cell? ⟨b, o, none⟩ = some v ∧ Below W.heap.size W w') (hg : Below w'.heap.size w' w2) : w2.cell? ⟨b, o, none⟩ = some v ∧ Below W.heap.size W w2 :=
  ⟨(hg.cell (p := ⟨b, o, none⟩) (Nat.lt_of_lt_of_le hb h.2.size)).trans h.1, h.2.trans (hg.mono h.2.size)⟩
theorem node_done {w wr w6 w7 w8 : World} {ad ad7 : Addr} {c c7 : Nat} {v8 : Value} {vs us : List Value} {xss yss : List (List Value)} (hbz : w.heap.size ≤ wr.heap.size) (hR : Rows2 w7 w.heap.size wr.heap.size (.slice (some ad) vs.length c) vs xss)
    (hU : Rows2 w7 w6.heap.size w7.heap.size (.slice (some ad7) us.length c7) us yss) (hz : wr.heap.size ≤ w6.heap.size) (ho : w8.ownsRow w.heap.size 24 1 v8 (vs.length + us.length) (vs ++ us)) (hg : w7.grownBy w8 (Value.slice (some ad) vs.length c).ownBlock)
    (hn : v8 = .slice none 0 0 ↔ (Value.slice (some ad) vs.length c) = .slice none 0 0 ∧ us.length = 0) (hat : v8.ownBlock = (Value.slice (some ad) vs.length c).ownBlock ∨ v8.ownBlock = some w7.heap.size) :
    ∃ ad8 c8, v8 = .slice (some ad8) (vs ++ us).length c8 ∧ Rows2 w8 w.heap.size w8.heap.size v8 (vs ++ us) (xss ++ yss) := by
  have hj := hR.join (hU.wider hz (Nat.le_refl _) (Nat.le_refl _)) hbz ho hg fun b hb => by
    rcases hat with h | h
    · rw [h] at hb; exact .inl hb
    · rw [h] at hb; cases hb; exact .inr (Nat.le_refl _)
  rcases ho.2 with ⟨e, -⟩ | ⟨g, cap, cur, e, -⟩
  · have := (hn.1 e).1; cases this
  · exact ⟨_, _, by rw [e, List.length_append], hj⟩
set_option maxRecDepth 100000 in
set_option maxHeartbeats 1600000 in
theorem spec_l11Node (D : List Int) (b off cap N d g t bd od cd : Nat) (f : Nat → List (List Int)) (w : World) (hN1 : d + 2 ≤ N) (hN : N ≤ 12) (hg1 : 1 ≤ g) (hg2 : g ≤ 60) (ht : t ≤ 100) (hD1 : D.length ≤ d) (hD2 : d ≤ D.length)
    (hbw : b < w.heap.size) (hc : w.cell? ⟨b, off + d, none⟩ = some (.int .i64 (g : Int))) (hdw : bd < w.heap.size) (hD : ∀ j u, (D.map (Value.int .i64))[j]? = some u → w.cell? ⟨bd, od + j, none⟩ = some u)
    (hB : ((downL (t / g)).flatMap fun k => (f (t - k * g)).map fun x => D ++ (k : Int) :: x).length ≤ 40000000000)
    (IH : ∀ (t' : Nat) (D' : List Int) (g' o' c' : Nat) (w' : World), t' ≤ t → D'.length = d + 1 → g' < w'.heap.size → (∀ j u, (D'.map (Value.int .i64))[j]? = some u → w'.cell? ⟨g', o' + j, none⟩ = some u) → Below w.heap.size w w' →
      Calls Tryd.prog 33 #[.slice (some ⟨b, off, none⟩) N cap, .int .i64 (t' : Int), .slice (some ⟨g', o', none⟩) (d + 1) c'] w' (SsPostA ((f t').map (D' ++ ·)) w')) :
    Calls Tryd.prog 33 #[.slice (some ⟨b, off, none⟩) N cap, .int .i64 (t : Int), .slice (some ⟨bd, od, none⟩) d cd] w (SsPostA ((downL (t / g)).flatMap fun k => (f (t - k * g)).map fun x => D ++ (k : Int) :: x) w) := by
  have hd1 : ((d : Int) == (N : Int)) = false := by rw [beq_eq_false_iff_ne]; omega
  have hwp : IntKind.i64.wrap ((N : Int) - 1) = ((N : Int) - 1) := IntWalk.i64_in _ (by omega)
  have hd2 : ((d : Int) == (N : Int) - 1) = false := by rw [beq_eq_false_iff_ne]; omega
  have hdN : (d : Int) < (N : Int) := by omega
  have hd0 : (0 : Int) ≤ (d : Int) := by omega
  have hqz : ((g : Int) == 0) = false := by rw [beq_eq_false_iff_ne]; omega
  have hgz : ¬ g = 0 := by omega
  have hqx := wrapk t g (by omega)
  have hqw := wrapq t g (by omega)
  have HPQ := Lib.hid (fun r (h : r ≤ t / g) => Nat.le_trans (Nat.mul_le_mul_right g h) (Nat.div_mul_le_self t g))
  have hq100 : t / g ≤ 100 := Nat.le_trans (Nat.div_le_self t g) ht
  generalize hqe : t / g = q at *
  clear hqe
  obtain ⟨i0, hi, hz0, hz1, hz2⟩ := info_parts infoIntL
  obtain ⟨i1, hi', hz0', hz1', hz2'⟩ := info_parts infoSlL2
  have hown0 : (w.alloc (.cells #[] 24)).ownsRow w.heap.size 24 1 (.slice (some ⟨w.heap.size, 0, none⟩) 0 0) 0 [] := World.ownsRow_lit w #[] 0 (Nat.le_refl _) (by simp) rfl
  have hb0 : Below w.heap.size w (w.alloc (.cells #[] 24)) := (Below.refl _ _).alloc (Nat.le_refl _) _
  have hR0 := rows2_empty hown0 (by simp)
  have hc0 : (w.alloc (.cells #[] 24)).cell? ⟨b, off + d, none⟩ = some (.int .i64 (g : Int)) := (hb0.cell (p := ⟨b, off + d, none⟩) hbw).trans hc
  have HR0 := Lib.hid hR0
  clear hR0 hown0
  go_enter Tryd.func33, Tryd.ntmps33
  go_wp2_with fail
  go_loopw [8, 9] (fun v i wr => ∃ (j : Nat) (F : List (List Int)) (ad : Addr) (c : Nat) (vs : List Value), j ≤ q + 1 ∧ i = .int .i64 ((j : Int) - 1) ∧ v = .slice (some ad) vs.length c ∧ Rows2 wr w.heap.size wr.heap.size (.slice (some ad) vs.length c) vs (F.map fun L => L.map (Value.int .i64)) ∧ Hid (F ++ ((List.range j).reverse.flatMap fun k => (f (t - k * g)).map fun x => D ++ (k : Int) :: x) = (downL q).flatMap fun k => (f (t - k * g)).map fun x => D ++ (k : Int) :: x) ∧ Below w.heap.size w wr) (fun _ i _ => (intOf i + 1).toNat)
  case atStart => exact ⟨q + 1, [], _, _, [], Nat.le_refl _, by go_num, rfl, HR0.out, Lib.hid (by unfold downL; rfl), hb0⟩
  case round =>
    clear hb0 hc0 HR0
    obtain ⟨j, F, ad, c, vs, hj, rfl, rfl, hR, HT, hbel⟩ := hrel
    cases j with
    | zero =>
      have e : F = (downL q).flatMap fun k => (f (t - k * g)).map fun x => D ++ (k : Int) :: x := by simpa using HT.out
      go_wp2_with fail
      go_ret
      exact ⟨ad, c, vs, rfl, by rw [← e]; exact hR, hbel⟩
    | succ r =>
      rw [show ((r + 1 : Nat) : Int) - 1 = (r : Int) by omega]
      have hpq : r * g ≤ t := HPQ.out r (Nat.le_of_succ_le_succ hj)
      obtain ⟨p, hp⟩ : ∃ p, p = r * g := ⟨_, rfl⟩
      rw [← hp] at hpq
      obtain ⟨u, hu⟩ : ∃ u, u = t - p := ⟨_, rfl⟩
      have hw1 : IntKind.i64.wrap ((r : Int) * (g : Int)) = (p : Int) := by rw [← Int.natCast_mul, ← hp]; exact IntWalk.i64_in _ (by omega)
      have hw2 : IntKind.i64.wrap ((t : Int) - (p : Int)) = (u : Int) := by rw [IntWalk.i64_in _ (by omega)]; omega
      have HT2 : Hid ((F ++ (f u).map fun x => D ++ (r : Int) :: x) ++ ((List.range r).reverse.flatMap fun k => (f (t - k * g)).map fun x => D ++ (k : Int) :: x) = (downL q).flatMap fun k => (f (t - k * g)).map fun x => D ++ (k : Int) :: x) := Lib.hid (by rw [← HT.out, List.range_succ, List.reverse_append, hu, hp]; simp)
      have HE : Hid ((f u).map ((D ++ [(r : Int)]) ++ ·) = (f u).map fun x => D ++ (r : Int) :: x) := Lib.hid (by simp)
      have hlen : vs.length + (f u).length ≤ 40000000000 := by refine Nat.le_trans ?_ hB; have h1 := hR.len; have h2 := congrArg List.length HT2.out; rw [List.length_map] at h1; simp only [List.length_append, List.length_map] at h2; omega
      have HI : Hid (∀ (D' : List Int) (g' o' c' : Nat) (w' : World), D'.length ≤ d + 1 → d + 1 ≤ D'.length → g' < w'.heap.size → (∀ j u, (D'.map (Value.int .i64))[j]? = some u → w'.cell? ⟨g', o' + j, none⟩ = some u) → Below wr.heap.size wr w' → Calls Tryd.prog 33 #[.slice (some ⟨b, off, none⟩) N cap, .int .i64 (u : Int), .slice (some ⟨g', o', none⟩) (d + 1) c'] w' (SsPostA ((f u).map (D' ++ ·)) w')) := Lib.hid fun D' g' o' c' w' h1 h2 h3 h4 h5 => IH u D' g' o' c' w' (by omega) (by omega) h3 h4 (hbel.trans (h5.mono hbel.size))
      have hDB : Hid (∀ w', Below wr.heap.size wr w' → ∀ j u, (D.map (Value.int .i64))[j]? = some u → w'.cell? ((⟨bd, od, none⟩ : Addr).add j) = some u) := Lib.hid fun w' h j u hj => by have := ((hbel.trans (h.mono hbel.size)).cell (p := ⟨bd, od + j, none⟩) hdw).trans (hD j u hj); rw [addr_add]; exact this
      have hRb : Hid (∀ w', Below wr.heap.size wr w' → Rows2 w' w.heap.size wr.heap.size (.slice (some ad) vs.length c) vs (F.map fun L => L.map (Value.int .i64))) := Lib.hid fun w' h => hR.below h
      have hbz := hbel.size
      have hS0 : wr.drew.cell? ⟨b, off + d, none⟩ = some (.int .i64 (g : Int)) ∧ Below w.heap.size w wr.drew := ⟨(hbel.cell (p := ⟨b, off + d, none⟩) hbw).trans hc, hbel.drew⟩
      have hB1 : Below wr.heap.size wr wr.drew := (Below.refl _ _).drew
      clear hu hp IH hB hR HT
      go_wp2_with fail
      refine wp_region_held_drew (S := fun w' => w'.cell? ⟨b, off + d, none⟩ = some (.int .i64 (g : Int)) ∧ Below w.heap.size w w') (by kernel_rfl) hS0 (fun hHeld => ?_)
      refine held_take 0 _ _ rfl (by kernel_rfl) (by kernel_rfl) (by kernel_rfl) (fun _ _ _ h => h) (by rfl) hHeld (fun w hSw => by (try dsimp only at hSw); go_simp; try with_reducible rfl) ?_
      (try simp only [Act.put, List.setIfInBounds_toArray, List.set_cons_zero, List.set_cons_succ, List.getElem_toArray, List.getElem_cons_zero])
      refine held_take 1 _ _ rfl (by kernel_rfl) (by kernel_rfl) (by kernel_rfl) (fun _ _ _ h => h) (by rfl) hHeld (fun w hSw => by (try dsimp only at hSw); go_simp; try with_reducible rfl) ?_
      (try simp only [Act.put, List.setIfInBounds_toArray, List.set_cons_zero, List.set_cons_succ, List.getElem_toArray, List.getElem_cons_succ, List.getElem_cons_zero])
      refine held_take 2 _ _ rfl (by kernel_rfl) (by kernel_rfl) (by kernel_rfl) (fun _ _ _ h => h) (by rfl) hHeld (fun w hSw => by (try dsimp only at hSw); go_simp; try with_reducible rfl) ?_
      (try simp only [Act.put, List.setIfInBounds_toArray, List.set_cons_zero, List.set_cons_succ, List.getElem_toArray, List.getElem_cons_succ, List.getElem_cons_zero])
      refine held_take 3 _ _ rfl (by kernel_rfl) (by kernel_rfl) (by kernel_rfl) (fun _ _ _ h => h) (by rfl) hHeld (fun w hSw => by (try dsimp only at hSw); go_simp; try with_reducible rfl) ?_
      (try simp only [Act.put, List.setIfInBounds_toArray, List.set_cons_zero, List.set_cons_succ, List.getElem_toArray, List.getElem_cons_succ, List.getElem_cons_zero])
      refine held_take 4 _ _ rfl (by kernel_rfl) (by kernel_rfl) (by kernel_rfl) (fun _ _ _ h => h) (by rfl) hHeld (fun w hSw => by (try dsimp only at hSw); go_simp; try with_reducible rfl) ?_
      (try simp only [Act.put, List.setIfInBounds_toArray, List.set_cons_zero, List.set_cons_succ, List.getElem_toArray, List.getElem_cons_succ, List.getElem_cons_zero])
      refine held_take 5 _ _ rfl (by kernel_rfl) (by kernel_rfl) (by kernel_rfl) (fun _ _ _ h => h) (by rfl) hHeld (fun w hSw => by (try dsimp only at hSw); go_simp; try with_reducible rfl) ?_
      (try simp only [Act.put, List.setIfInBounds_toArray, List.set_cons_zero, List.set_cons_succ, List.getElem_toArray, List.getElem_cons_succ, List.getElem_cons_zero])
      refine held_take 6 _ _ rfl (by kernel_rfl) (by kernel_rfl) (by kernel_rfl) (fun _ _ _ h => h) (by rfl) hHeld (fun w hSw => by (try dsimp only at hSw); go_simp; try with_reducible rfl) ?_
      (try simp only [Act.put, List.setIfInBounds_toArray, List.set_cons_zero, List.set_cons_succ, List.getElem_toArray, List.getElem_cons_succ, List.getElem_cons_zero])
      refine held_take 7 _ _ rfl (by kernel_rfl) (by kernel_rfl) (by kernel_rfl) (fun _ _ _ h => h) (by rfl) hHeld (fun w hSw => by (try dsimp only at hSw); go_simp; try with_reducible rfl) ?_
      (try simp only [Act.put, List.setIfInBounds_toArray, List.set_cons_zero, List.set_cons_succ, List.getElem_toArray, List.getElem_cons_succ, List.getElem_cons_zero])
      refine held_take 8 _ _ rfl (by kernel_rfl) (by kernel_rfl) (by kernel_rfl) (fun _ _ _ h => h) (by rfl) hHeld (fun w hSw => by (try dsimp only at hSw); go_simp; try with_reducible rfl) ?_
      (try simp only [Act.put, List.setIfInBounds_toArray, List.set_cons_zero, List.set_cons_succ, List.getElem_toArray, List.getElem_cons_succ, List.getElem_cons_zero])
      refine held_take 9 _ _ rfl (by kernel_rfl) (by kernel_rfl) (by kernel_rfl) (fun _ _ _ h => h) (by rfl) hHeld (fun w hSw => by (try dsimp only at hSw); go_simp; try with_reducible rfl) ?_
      (try simp only [Act.put, List.setIfInBounds_toArray, List.set_cons_zero, List.set_cons_succ, List.getElem_toArray, List.getElem_cons_succ, List.getElem_cons_zero])
      refine held_take 11 _ _ rfl (by kernel_rfl) (by kernel_rfl) (by kernel_rfl) (fun _ _ _ h => h) (by rfl) hHeld (fun w hSw => by (try dsimp only at hSw); go_simp; try with_reducible rfl) ?_
      (try simp only [Act.put, List.setIfInBounds_toArray, List.set_cons_zero, List.set_cons_succ, List.getElem_toArray, List.getElem_cons_succ, List.getElem_cons_zero])
      refine held_take 13 _ _ rfl (by kernel_rfl) (by kernel_rfl) (by kernel_rfl) (fun _ _ _ h => h) (by rfl) hHeld (fun w hSw => by (try dsimp only at hSw); go_simp; try with_reducible rfl) ?_
      (try simp only [Act.put, List.setIfInBounds_toArray, List.set_cons_zero, List.set_cons_succ, List.getElem_toArray, List.getElem_cons_succ, List.getElem_cons_zero])
      refine wpAnyH_ready (rs := [10, 14]) (by kernel_rfl) (by simp) ?_
      refine AllReadyH.cons rfl (fun K hK => ?_) (AllReadyH.cons rfl (fun K hK => ?_) AllReadyH.nil)
      · rw [if_pos (by rfl)]
        have hO := newEmpty hB1
        try simp only [alloc_sz] at hO
        try (replace hT := hT.alloc (.cells #[] 3))
        replace hB1 := hB1.alloc hB1.size (.cells #[] 3)
        go_wp2_with fail
        refine hK.out _ _ (keepA hbw hHeld _) (fun hHeld1 => ?_)
        clear hK K
        (try simp only [Act.put, List.setIfInBounds_toArray, List.set_cons_zero, List.set_cons_succ, List.getElem_toArray, List.getElem_cons_succ, List.getElem_cons_zero])
        refine wpAnyH_ready (rs := [12, 14]) (by kernel_rfl) (by simp) ?_
        refine AllReadyH.cons rfl (fun K hK => ?_) (AllReadyH.cons rfl (fun K hK => ?_) AllReadyH.nil)
        · rw [if_pos (by rfl)]
          refine wp_append_own _ (.tmp 71) (.tmp 72) 24 (by rfl) wr.heap.size 3 i0 (Value.int .i64 0) 1 8 Tryd.underlying24 hi hz0 hz1 hz2 rfl (by decide) _ 0 [] (by rfl) hO ⟨bd, od, none⟩ d _ (D.map (Value.int .i64)) (by rfl) (by rw [List.length_map]; omega) (hDB.out _ hB1) (fun u hu => by obtain ⟨x, -, rfl⟩ := List.mem_map.1 hu; rfl) (by unfold maxLen; omega) (by omega) hB1.size ?_; intro v5 wa hown5 hg5 _
          have hl5 := hO.lt
          try (replace hT := hT.grown hg5 (by simp [Value.ownBlock]))
          replace hB1 := hB1.grown hg5 hB1.size (fun j hj => (hl5 j hj).1)
          replace hO := hown5
          clear hown5
          refine hK.out _ _ (keepB hbw hHeld1 hg5 (fun j hj => by have := (hl5 j hj).1; omega)) (fun hHeld2 => ?_)
          clear hK K
          (try simp only [Act.put, List.setIfInBounds_toArray, List.set_cons_zero, List.set_cons_succ, List.getElem_toArray, List.getElem_cons_succ, List.getElem_cons_zero])
          refine wpAnyH_ready (rs := [14]) (by kernel_rfl) (by simp) ?_
          refine AllReadyH.cons rfl (fun K hK => ?_) AllReadyH.nil
          rw [if_pos (by rfl)]
          have hT := newOne (base := wr.heap.size) hB1 (.int .i64 (r : Int))
          try simp only [alloc_sz] at hT
          try (replace hO := hO.alloc (.cells #[.int .i64 (r : Int)] 3))
          replace hB1 := hB1.alloc hB1.size (.cells #[.int .i64 (r : Int)] 3)
          go_wp2_with fail
          refine hK.out _ _ (keepA hbw hHeld2 _) (fun hHeld3 => ?_)
          clear hK K
          (try simp only [Act.put, List.setIfInBounds_toArray, List.set_cons_zero, List.set_cons_succ, List.getElem_toArray, List.getElem_cons_succ, List.getElem_cons_zero])
          refine wpAnyH_ready (rs := [15]) (by kernel_rfl) (by simp) ?_
          refine AllReadyH.cons rfl (fun K hK => ?_) AllReadyH.nil
          rw [if_pos (by rfl)]
          refine wp_append_lies _ (.tmp 73) (.tmp 75) 24 (by rfl) wr.heap.size 3 i0 (Value.int .i64 0) 1 8 Tryd.underlying24 hi hz0 hz1 hz2 rfl (by decide) v5 (0 + d) ([] ++ D.map (Value.int .i64)) (by rfl) hO _ 1 _ [.int .i64 (r : Int)] (by rfl) rfl hT.at (by simp [Value.oneCell']) (by decide) (by unfold maxLen; omega) (by omega) hB1.size _ rfl ?_; intro g6 c6 w6 hown6 hg6 hat6 hlt6
          simp only [Nat.zero_add] at hown6 ⊢
          have hl6 := hO.lt
          replace hB1 := hB1.grown hg6 hB1.size (fun j hj => (hl6 j hj).1)
          have hz6 := hB1.size
          have cI := HI.out (D ++ [(r : Int)]) g6 0 c6 w6 (by simp; omega) (by simp; omega) hlt6 (by rw [show (D ++ [(r : Int)]).map (Value.int .i64) = [] ++ D.map (Value.int .i64) ++ [.int .i64 (r : Int)] by simp]; exact row_cells hown6) hB1
          clear hT hO
          refine hK.out _ _ (keepB hbw hHeld3 hg6 (fun j hj => by have := (hl6 j hj).1; omega)) (fun hHeld4 => ?_)
          clear hK K
          (try simp only [Act.put, List.setIfInBounds_toArray, List.set_cons_zero, List.set_cons_succ, List.getElem_toArray, List.getElem_cons_succ, List.getElem_cons_zero])
          refine wpAnyH_ready (rs := [16]) (by kernel_rfl) (by simp) ?_
          refine AllReadyH.cons rfl (fun K hK => ?_) AllReadyH.nil
          rw [if_pos (by rfl)]
          go_wp2_with (first | (go_at_call 33; (with_reducible refine cI.mono ?_); rintro e w7 ⟨ad7, c7, us, rfl, hRu, hb7⟩; rw [HE.out] at hRu; have hus := hRu.len; simp only [List.length_map] at hus; have hus1 := Nat.le_of_eq hus; have hus2 := Nat.le_of_eq hus.symm; clear hus; replace hB1 := hB1.trans (hb7.mono hB1.size)))
          refine hK.out _ _ (keepD hbw hHeld4 hb7) (fun hHeld5 => ?_)
          clear hK K
          (try simp only [Act.put, List.setIfInBounds_toArray, List.set_cons_zero, List.set_cons_succ, List.getElem_toArray, List.getElem_cons_succ, List.getElem_cons_zero])
          refine wpAnyH_ready (rs := [17]) (by kernel_rfl) (by simp) ?_
          refine AllReadyH.cons rfl (fun K hK => ?_) AllReadyH.nil
          rw [if_pos (by rfl)]
          refine wp_append_own_at _ (.tmp 61) (.tmp 77) 29 (by rfl) w.heap.size 24 i1 (Value.slice none 0 0) 1 24 Tryd.underlying29 hi' hz0' hz1' hz2' rfl (by decide) _ vs.length vs (by rfl) (hRb.out _ hB1).own _ us.length _ us (by rfl) (by omega) (row2_cells hRu) (row2_one hRu) (by unfold maxLen; omega) (by omega) (Nat.le_trans hbel.size hB1.size) ?_; intro v8 w8 hown8 hg8 hnil8 hat8
          refine hK.out _ _ (keepB hbw hHeld5 hg8 (fun j hj => ((hRb.out _ hB1).own.lt j hj).1)) (fun hHeld6 => ?_)
          clear hK K
          (try simp only [Act.put, List.setIfInBounds_toArray, List.set_cons_zero, List.set_cons_succ, List.getElem_toArray, List.getElem_cons_succ, List.getElem_cons_zero])
          refine held_take 18 _ _ rfl (by kernel_rfl) (by kernel_rfl) (by kernel_rfl) (fun _ _ _ h => h) (by rfl) hHeld6 (fun w hSw => by (try dsimp only at hSw); go_simp; try with_reducible rfl) ?_
          (try simp only [Act.put, List.setIfInBounds_toArray, List.set_cons_zero, List.set_cons_succ, List.getElem_toArray, List.getElem_cons_succ, List.getElem_cons_zero])
          refine wpAnyH_done (by kernel_rfl) ?_ _
          have hF := node_done hbz (hRb.out _ hB1) hRu hz6 hown8 hg8 hnil8 hat8
          have hbF := (hHeld6).2
          obtain ⟨ad8, c8, rfl, hR8⟩ := hF
          clear hqx hqw hB1 hown6 hown8 hg8 hnil8 hat8 hRu hus1 hus2 hlen hb7 hg6 hlt6 hat6 hl6 hz6
          go_wp2_with fail
          go_roundw
          case rel => exact ⟨r, F ++ (f u).map fun x => D ++ (r : Int) :: x, ad8, c8, vs ++ us, Nat.le_of_lt hj, by go_num, rfl, by rw [List.map_append]; exact hR8, HT2, hbF⟩
          case measure => (simp [intOf]; try omega)
        · rw [if_pos (by rfl)]
          have hT := newOne (base := wr.heap.size) hB1 (.int .i64 (r : Int))
          try simp only [alloc_sz] at hT
          try (replace hO := hO.alloc (.cells #[.int .i64 (r : Int)] 3))
          replace hB1 := hB1.alloc hB1.size (.cells #[.int .i64 (r : Int)] 3)
          go_wp2_with fail
          refine hK.out _ _ (keepA hbw hHeld1 _) (fun hHeld2 => ?_)
          clear hK K
          (try simp only [Act.put, List.setIfInBounds_toArray, List.set_cons_zero, List.set_cons_succ, List.getElem_toArray, List.getElem_cons_succ, List.getElem_cons_zero])
          refine wpAnyH_ready (rs := [12]) (by kernel_rfl) (by simp) ?_
          refine AllReadyH.cons rfl (fun K hK => ?_) AllReadyH.nil
          rw [if_pos (by rfl)]
          refine wp_append_own _ (.tmp 71) (.tmp 72) 24 (by rfl) wr.heap.size 3 i0 (Value.int .i64 0) 1 8 Tryd.underlying24 hi hz0 hz1 hz2 rfl (by decide) _ 0 [] (by rfl) hO ⟨bd, od, none⟩ d _ (D.map (Value.int .i64)) (by rfl) (by rw [List.length_map]; omega) (hDB.out _ hB1) (fun u hu => by obtain ⟨x, -, rfl⟩ := List.mem_map.1 hu; rfl) (by unfold maxLen; omega) (by omega) hB1.size ?_; intro v5 wa hown5 hg5 _
          have hl5 := hO.lt
          try (replace hT := hT.grown hg5 (by simp [Value.ownBlock]))
          replace hB1 := hB1.grown hg5 hB1.size (fun j hj => (hl5 j hj).1)
          replace hO := hown5
          clear hown5
          refine hK.out _ _ (keepB hbw hHeld2 hg5 (fun j hj => by have := (hl5 j hj).1; omega)) (fun hHeld3 => ?_)
          clear hK K
          (try simp only [Act.put, List.setIfInBounds_toArray, List.set_cons_zero, List.set_cons_succ, List.getElem_toArray, List.getElem_cons_succ, List.getElem_cons_zero])
          refine wpAnyH_ready (rs := [15]) (by kernel_rfl) (by simp) ?_
          refine AllReadyH.cons rfl (fun K hK => ?_) AllReadyH.nil
          rw [if_pos (by rfl)]
          refine wp_append_lies _ (.tmp 73) (.tmp 75) 24 (by rfl) wr.heap.size 3 i0 (Value.int .i64 0) 1 8 Tryd.underlying24 hi hz0 hz1 hz2 rfl (by decide) v5 (0 + d) ([] ++ D.map (Value.int .i64)) (by rfl) hO _ 1 _ [.int .i64 (r : Int)] (by rfl) rfl hT.at (by simp [Value.oneCell']) (by decide) (by unfold maxLen; omega) (by omega) hB1.size _ rfl ?_; intro g6 c6 w6 hown6 hg6 hat6 hlt6
          simp only [Nat.zero_add] at hown6 ⊢
          have hl6 := hO.lt
          replace hB1 := hB1.grown hg6 hB1.size (fun j hj => (hl6 j hj).1)
          have hz6 := hB1.size
          have cI := HI.out (D ++ [(r : Int)]) g6 0 c6 w6 (by simp; omega) (by simp; omega) hlt6 (by rw [show (D ++ [(r : Int)]).map (Value.int .i64) = [] ++ D.map (Value.int .i64) ++ [.int .i64 (r : Int)] by simp]; exact row_cells hown6) hB1
          clear hT hO
          refine hK.out _ _ (keepB hbw hHeld3 hg6 (fun j hj => by have := (hl6 j hj).1; omega)) (fun hHeld4 => ?_)
          clear hK K
          (try simp only [Act.put, List.setIfInBounds_toArray, List.set_cons_zero, List.set_cons_succ, List.getElem_toArray, List.getElem_cons_succ, List.getElem_cons_zero])
          refine wpAnyH_ready (rs := [16]) (by kernel_rfl) (by simp) ?_
          refine AllReadyH.cons rfl (fun K hK => ?_) AllReadyH.nil
          rw [if_pos (by rfl)]
          go_wp2_with (first | (go_at_call 33; (with_reducible refine cI.mono ?_); rintro e w7 ⟨ad7, c7, us, rfl, hRu, hb7⟩; rw [HE.out] at hRu; have hus := hRu.len; simp only [List.length_map] at hus; have hus1 := Nat.le_of_eq hus; have hus2 := Nat.le_of_eq hus.symm; clear hus; replace hB1 := hB1.trans (hb7.mono hB1.size)))
          refine hK.out _ _ (keepD hbw hHeld4 hb7) (fun hHeld5 => ?_)
          clear hK K
          (try simp only [Act.put, List.setIfInBounds_toArray, List.set_cons_zero, List.set_cons_succ, List.getElem_toArray, List.getElem_cons_succ, List.getElem_cons_zero])
          refine wpAnyH_ready (rs := [17]) (by kernel_rfl) (by simp) ?_
          refine AllReadyH.cons rfl (fun K hK => ?_) AllReadyH.nil
          rw [if_pos (by rfl)]
          refine wp_append_own_at _ (.tmp 61) (.tmp 77) 29 (by rfl) w.heap.size 24 i1 (Value.slice none 0 0) 1 24 Tryd.underlying29 hi' hz0' hz1' hz2' rfl (by decide) _ vs.length vs (by rfl) (hRb.out _ hB1).own _ us.length _ us (by rfl) (by omega) (row2_cells hRu) (row2_one hRu) (by unfold maxLen; omega) (by omega) (Nat.le_trans hbel.size hB1.size) ?_; intro v8 w8 hown8 hg8 hnil8 hat8
          refine hK.out _ _ (keepB hbw hHeld5 hg8 (fun j hj => ((hRb.out _ hB1).own.lt j hj).1)) (fun hHeld6 => ?_)
          clear hK K
          (try simp only [Act.put, List.setIfInBounds_toArray, List.set_cons_zero, List.set_cons_succ, List.getElem_toArray, List.getElem_cons_succ, List.getElem_cons_zero])
          refine held_take 18 _ _ rfl (by kernel_rfl) (by kernel_rfl) (by kernel_rfl) (fun _ _ _ h => h) (by rfl) hHeld6 (fun w hSw => by (try dsimp only at hSw); go_simp; try with_reducible rfl) ?_
          (try simp only [Act.put, List.setIfInBounds_toArray, List.set_cons_zero, List.set_cons_succ, List.getElem_toArray, List.getElem_cons_succ, List.getElem_cons_zero])
          refine wpAnyH_done (by kernel_rfl) ?_ _
          have hF := node_done hbz (hRb.out _ hB1) hRu hz6 hown8 hg8 hnil8 hat8
          have hbF := (hHeld6).2
          obtain ⟨ad8, c8, rfl, hR8⟩ := hF
          clear hqx hqw hB1 hown6 hown8 hg8 hnil8 hat8 hRu hus1 hus2 hlen hb7 hg6 hlt6 hat6 hl6 hz6
          go_wp2_with fail
          go_roundw
          case rel => exact ⟨r, F ++ (f u).map fun x => D ++ (r : Int) :: x, ad8, c8, vs ++ us, Nat.le_of_lt hj, by go_num, rfl, by rw [List.map_append]; exact hR8, HT2, hbF⟩
          case measure => (simp [intOf]; try omega)
      · rw [if_pos (by rfl)]
        have hT := newOne (base := wr.heap.size) hB1 (.int .i64 (r : Int))
        try simp only [alloc_sz] at hT
        try (replace hO := hO.alloc (.cells #[.int .i64 (r : Int)] 3))
        replace hB1 := hB1.alloc hB1.size (.cells #[.int .i64 (r : Int)] 3)
        go_wp2_with fail
        refine hK.out _ _ (keepA hbw hHeld _) (fun hHeld1 => ?_)
        clear hK K
        (try simp only [Act.put, List.setIfInBounds_toArray, List.set_cons_zero, List.set_cons_succ, List.getElem_toArray, List.getElem_cons_succ, List.getElem_cons_zero])
        refine wpAnyH_ready (rs := [10]) (by kernel_rfl) (by simp) ?_
        refine AllReadyH.cons rfl (fun K hK => ?_) AllReadyH.nil
        rw [if_pos (by rfl)]
        have hO := newEmpty hB1
        try simp only [alloc_sz] at hO
        try (replace hT := hT.alloc (.cells #[] 3))
        replace hB1 := hB1.alloc hB1.size (.cells #[] 3)
        go_wp2_with fail
        refine hK.out _ _ (keepA hbw hHeld1 _) (fun hHeld2 => ?_)
        clear hK K
        (try simp only [Act.put, List.setIfInBounds_toArray, List.set_cons_zero, List.set_cons_succ, List.getElem_toArray, List.getElem_cons_succ, List.getElem_cons_zero])
        refine wpAnyH_ready (rs := [12]) (by kernel_rfl) (by simp) ?_
        refine AllReadyH.cons rfl (fun K hK => ?_) AllReadyH.nil
        rw [if_pos (by rfl)]
        refine wp_append_own _ (.tmp 71) (.tmp 72) 24 (by rfl) wr.heap.size 3 i0 (Value.int .i64 0) 1 8 Tryd.underlying24 hi hz0 hz1 hz2 rfl (by decide) _ 0 [] (by rfl) hO ⟨bd, od, none⟩ d _ (D.map (Value.int .i64)) (by rfl) (by rw [List.length_map]; omega) (hDB.out _ hB1) (fun u hu => by obtain ⟨x, -, rfl⟩ := List.mem_map.1 hu; rfl) (by unfold maxLen; omega) (by omega) hB1.size ?_; intro v5 wa hown5 hg5 _
        have hl5 := hO.lt
        try (replace hT := hT.grown hg5 (by simp [Value.ownBlock]))
        replace hB1 := hB1.grown hg5 hB1.size (fun j hj => (hl5 j hj).1)
        replace hO := hown5
        clear hown5
        refine hK.out _ _ (keepB hbw hHeld2 hg5 (fun j hj => by have := (hl5 j hj).1; omega)) (fun hHeld3 => ?_)
        clear hK K
        (try simp only [Act.put, List.setIfInBounds_toArray, List.set_cons_zero, List.set_cons_succ, List.getElem_toArray, List.getElem_cons_succ, List.getElem_cons_zero])
        refine wpAnyH_ready (rs := [15]) (by kernel_rfl) (by simp) ?_
        refine AllReadyH.cons rfl (fun K hK => ?_) AllReadyH.nil
        rw [if_pos (by rfl)]
        refine wp_append_lies _ (.tmp 73) (.tmp 75) 24 (by rfl) wr.heap.size 3 i0 (Value.int .i64 0) 1 8 Tryd.underlying24 hi hz0 hz1 hz2 rfl (by decide) v5 (0 + d) ([] ++ D.map (Value.int .i64)) (by rfl) hO _ 1 _ [.int .i64 (r : Int)] (by rfl) rfl hT.at (by simp [Value.oneCell']) (by decide) (by unfold maxLen; omega) (by omega) hB1.size _ rfl ?_; intro g6 c6 w6 hown6 hg6 hat6 hlt6
        simp only [Nat.zero_add] at hown6 ⊢
        have hl6 := hO.lt
        replace hB1 := hB1.grown hg6 hB1.size (fun j hj => (hl6 j hj).1)
        have hz6 := hB1.size
        have cI := HI.out (D ++ [(r : Int)]) g6 0 c6 w6 (by simp; omega) (by simp; omega) hlt6 (by rw [show (D ++ [(r : Int)]).map (Value.int .i64) = [] ++ D.map (Value.int .i64) ++ [.int .i64 (r : Int)] by simp]; exact row_cells hown6) hB1
        clear hT hO
        refine hK.out _ _ (keepB hbw hHeld3 hg6 (fun j hj => by have := (hl6 j hj).1; omega)) (fun hHeld4 => ?_)
        clear hK K
        (try simp only [Act.put, List.setIfInBounds_toArray, List.set_cons_zero, List.set_cons_succ, List.getElem_toArray, List.getElem_cons_succ, List.getElem_cons_zero])
        refine wpAnyH_ready (rs := [16]) (by kernel_rfl) (by simp) ?_
        refine AllReadyH.cons rfl (fun K hK => ?_) AllReadyH.nil
        rw [if_pos (by rfl)]
        go_wp2_with (first | (go_at_call 33; (with_reducible refine cI.mono ?_); rintro e w7 ⟨ad7, c7, us, rfl, hRu, hb7⟩; rw [HE.out] at hRu; have hus := hRu.len; simp only [List.length_map] at hus; have hus1 := Nat.le_of_eq hus; have hus2 := Nat.le_of_eq hus.symm; clear hus; replace hB1 := hB1.trans (hb7.mono hB1.size)))
        refine hK.out _ _ (keepD hbw hHeld4 hb7) (fun hHeld5 => ?_)
        clear hK K
        (try simp only [Act.put, List.setIfInBounds_toArray, List.set_cons_zero, List.set_cons_succ, List.getElem_toArray, List.getElem_cons_succ, List.getElem_cons_zero])
        refine wpAnyH_ready (rs := [17]) (by kernel_rfl) (by simp) ?_
        refine AllReadyH.cons rfl (fun K hK => ?_) AllReadyH.nil
        rw [if_pos (by rfl)]
        refine wp_append_own_at _ (.tmp 61) (.tmp 77) 29 (by rfl) w.heap.size 24 i1 (Value.slice none 0 0) 1 24 Tryd.underlying29 hi' hz0' hz1' hz2' rfl (by decide) _ vs.length vs (by rfl) (hRb.out _ hB1).own _ us.length _ us (by rfl) (by omega) (row2_cells hRu) (row2_one hRu) (by unfold maxLen; omega) (by omega) (Nat.le_trans hbel.size hB1.size) ?_; intro v8 w8 hown8 hg8 hnil8 hat8
        refine hK.out _ _ (keepB hbw hHeld5 hg8 (fun j hj => ((hRb.out _ hB1).own.lt j hj).1)) (fun hHeld6 => ?_)
        clear hK K
        (try simp only [Act.put, List.setIfInBounds_toArray, List.set_cons_zero, List.set_cons_succ, List.getElem_toArray, List.getElem_cons_succ, List.getElem_cons_zero])
        refine held_take 18 _ _ rfl (by kernel_rfl) (by kernel_rfl) (by kernel_rfl) (fun _ _ _ h => h) (by rfl) hHeld6 (fun w hSw => by (try dsimp only at hSw); go_simp; try with_reducible rfl) ?_
        (try simp only [Act.put, List.setIfInBounds_toArray, List.set_cons_zero, List.set_cons_succ, List.getElem_toArray, List.getElem_cons_succ, List.getElem_cons_zero])
        refine wpAnyH_done (by kernel_rfl) ?_ _
        have hF := node_done hbz (hRb.out _ hB1) hRu hz6 hown8 hg8 hnil8 hat8
        have hbF := (hHeld6).2
        obtain ⟨ad8, c8, rfl, hR8⟩ := hF
        clear hqx hqw hB1 hown6 hown8 hg8 hnil8 hat8 hRu hus1 hus2 hlen hb7 hg6 hlt6 hat6 hl6 hz6
        go_wp2_with fail
        go_roundw
        case rel => exact ⟨r, F ++ (f u).map fun x => D ++ (r : Int) :: x, ad8, c8, vs ++ us, Nat.le_of_lt hj, by go_num, rfl, by rw [List.map_append]; exact hR8, HT2, hbF⟩
        case measure => (simp [intOf]; try omega)
end Go.Proofs.YtlinlmmcgifloaaDoor

/-
  CONTRACTS of the reference's chapter 11: the search as a whole; Factorizations. (Own work.)
-/
namespace Go.Proofs.YtlinlmmcgifloaaDoor
open Go Go.RowKit

theorem spec_l11Rec (G : List Int) (hs : isSgB G = true) : ∀ (k t : Nat) (D : List Int) (b off cap bd od cd : Nat) (w : World), D.length + (k + 1) = G.length → t ≤ 100 →
    b < w.heap.size → (∀ j u, (G.map (Value.int .i64))[j]? = some u → w.cell? ⟨b, off + j, none⟩ = some u) → bd < w.heap.size → (∀ j u, (D.map (Value.int .i64))[j]? = some u → w.cell? ⟨bd, od + j, none⟩ = some u) →
    Calls Tryd.prog 33 #[.slice (some ⟨b, off, none⟩) G.length cap, .int .i64 (t : Int), .slice (some ⟨bd, od, none⟩) D.length cd] w (SsPostA ((findF (G.drop D.length) t).map (D ++ ·)) w) := by
  have hS := isSgB_iff.1 hs
  have h12 := hS.len
  intro k
  induction k with
  | zero =>
    intro t D b off cap bd od cd w hl ht hbw hG hdw hD
    have hd : D.length < G.length := by omega
    have hbd := hS.bounds G[D.length] (List.getElem_mem hd)
    have hdrop : G.drop D.length = [((G[D.length].toNat : Nat) : Int)] := by
      rw [List.drop_eq_getElem_cons hd, List.drop_of_length_le (by omega), Int.toNat_of_nonneg (by omega)]
    rw [hdrop]
    refine spec_l11Leaf D b off cap G.length D.length G[D.length].toNat t bd od cd w (by omega) (by omega) h12 (by omega) (by omega) ht (Nat.le_refl _) (Nat.le_refl _) hbw ?_ hdw hD
    refine hG D.length _ ?_
    rw [List.getElem?_map, List.getElem?_eq_getElem hd, Int.toNat_of_nonneg (by omega)]; rfl
  | succ k ih =>
    intro t D b off cap bd od cd w hl ht hbw hG hdw hD
    have hd : D.length < G.length := by omega
    have hbd := hS.bounds G[D.length] (List.getElem_mem hd)
    obtain ⟨g2, r, hr⟩ : ∃ g2 r, G.drop (D.length + 1) = g2 :: r := by
      cases h : G.drop (D.length + 1) with
      | nil => have := congrArg List.length h; simp at this; omega
      | cons a r => exact ⟨a, r, rfl⟩
    have hE : (findF (G.drop D.length) t).map (D ++ ·) = (downL (t / G[D.length].toNat)).flatMap fun k => (findF (G.drop (D.length + 1)) (t - k * G[D.length].toNat)).map fun x => D ++ (k : Int) :: x := by
      rw [List.drop_eq_getElem_cons hd, hr, findF_cons, List.map_flatMap]
      refine congrArg (fun f => List.flatMap f _) (funext fun k => ?_)
      rw [List.map_map]; rfl
    have hB := findF_bound hs D.length t ht
    have hB2 := congrArg List.length hE
    rw [List.length_map] at hB2
    rw [hE]
    refine spec_l11Node D b off cap G.length D.length G[D.length].toNat t bd od cd (fun t' => findF (G.drop (D.length + 1)) t') w (by omega) h12 (by omega) (by omega) ht (Nat.le_refl _) (Nat.le_refl _) hbw ?_ hdw hD (by omega) ?_
    · refine hG D.length _ ?_
      rw [List.getElem?_map, List.getElem?_eq_getElem hd, Int.toNat_of_nonneg (by omega)]; rfl
    · intro t' D' g' o' c' w' ht' hl' hg' hc' hbel
      have h := ih t' D' b off cap g' o' c' w' (by omega) (by omega) (Nat.lt_of_lt_of_le hbw hbel.size) (fun j u hj => (hbel.cell (p := ⟨b, off + j, none⟩) hbw).trans (hG j u hj)) hg' hc'
      rw [hl'] at h
      exact h
theorem SsPostA.ss {LL : List (List Int)} {w : World} {e : Ending} {w' : World} (h : SsPostA LL w e w') : SsPost LL w e w' := by
  obtain ⟨ad, c, vs, rfl, hr, hb⟩ := h
  exact ⟨_, vs, rfl, hr, hb⟩
theorem factL_noL {G : List Int} {n : Int} (h : isSgB G = false ∨ inB n 0 100 = false) : factL G n = [] := by
  unfold factL
  rcases h with h | h <;> simp [h]
theorem factL_yesL {G : List Int} {n : Nat} (hs : isSgB G = true) (h : inB (n : Int) 0 100 = true) : factL G (n : Int) = (findF (G.drop ([] : List Int).length) n).map (([] : List Int) ++ ·) := by
  unfold factL; simp [hs, h]
theorem empty_ss {w w' : World} (hb : Below w.heap.size w w') : Rows2 (w'.alloc (.cells #[] 24)) w.heap.size (w'.alloc (.cells #[] 24)).heap.size (.slice (some ⟨w'.heap.size, 0, none⟩) 0 0) [] (([] : List (List Int)).map fun L => L.map (Value.int .i64)) :=
  rows2_empty (World.ownsRow_lit w' #[] 0 hb.size (by simp) rfl) (by simp)
set_option maxRecDepth 100000 in
set_option maxHeartbeats 1600000 in
theorem spec_Factorizations (G : List Int) (n : Int) (a : Option Addr) (cap : Nat) (w : World) (hr : SlV w a (G.map (Value.int .i64))) (hb : G.length ≤ 1048576) :
    Calls Tryd.prog 11 #[.agg #[.slice a G.length cap], .int .i64 n] w (SsPost (factL G n) w) := by
  obtain ⟨W, hW⟩ : ∃ W, W = w.alloc (.cells #[.slice a G.length cap] 26) := ⟨_, rfl⟩
  have hbW : Below w.heap.size w W := by rw [hW]; exact box_below _ _
  have hc0 : W.cell? ⟨w.heap.size, 0, none⟩ = some (.slice a G.length cap) := by rw [hW]; exact box_cell w _
  have hWs : w.heap.size < W.heap.size := by rw [hW]; simp
  have HW := Lib.hid hW
  clear hW
  have c1 := spec_IsSemigroup G a cap W (hr.below hbW) hb
  have ci := fun w => l1In_any n 0 100 w
  cases hs : isSgB G
  · have HR := Lib.hid (factL_noL (n := n) (.inl hs))
    rw [hs] at c1
    clear hs hr ci
    go_enter Tryd.func11, Tryd.ntmps11
    go_wp2_with fail
    rw [← HW.out]
    refine c1.mono ?_
    rintro e w1 ⟨rfl, hb1⟩
    have hb01 := hbW.trans (hb1.mono hbW.size)
    go_wp2_with fail
    go_ret
    exact ⟨_, [], rfl, by rw [HR.out]; exact empty_ss hb01, hb01.alloc hb01.size _⟩
  · rw [hs] at c1
    have HSG := Lib.hid hs
    clear hs
    cases hx : inB n 0 100
    · have HR := Lib.hid (factL_noL (G := G) (.inr hx))
      rw [hx] at ci
      clear hx hr
      go_enter Tryd.func11, Tryd.ntmps11
      go_wp2_with fail
      rw [← HW.out]
      refine c1.mono ?_
      rintro e w1 ⟨rfl, hb1⟩
      have hb01 := hbW.trans (hb1.mono hbW.size)
      go_wp2_with fail
      refine (ci _).mono ?_
      rintro e w2 ⟨rfl, rfl⟩
      go_wp2_with fail
      go_ret
      exact ⟨_, [], rfl, by rw [HR.out]; exact empty_ss hb01, hb01.alloc hb01.size _⟩
    · obtain ⟨hx0, hx1⟩ := inB_true hx
      rw [hx] at ci
      obtain ⟨m, rfl⟩ := Int.eq_ofNat_of_zero_le hx0
      have HR := Lib.hid (factL_yesL HSG.out hx)
      have hm : m ≤ 100 := by omega
      clear hx
      go_enter Tryd.func11, Tryd.ntmps11
      go_wp2_with fail
      rw [← HW.out]
      refine c1.mono ?_
      rintro e w1 ⟨rfl, hb1⟩
      have hb01 := hbW.trans (hb1.mono hbW.size)
      have hk1 : w1.cell? ⟨w.heap.size, 0, none⟩ = some (.slice a G.length cap) := (hb1.cell (p := ⟨w.heap.size, 0, none⟩) hWs).trans hc0
      have h0 : 0 < G.length := (okG_iff.1 (isSgB_iff.1 HSG.out).ok).2.1
      obtain ⟨b, off, rfl, hbs, hc⟩ := hr.open (by intro h; rw [List.map_eq_nil_iff] at h; subst h; simp at h0)
      have HC : Hid (∀ w', Below w1.heap.size w1 w' → ∀ j u, (G.map (Value.int .i64))[j]? = some u → w'.cell? ⟨b, off + j, none⟩ = some u) := Lib.hid fun w' h j u hj => ((hb01.trans (h.mono hb01.size)).cell (p := ⟨b, off + j, none⟩) hbs).trans (hc j u hj)
      have hbs1 := Nat.lt_of_lt_of_le hbs hb01.size
      have HB : Hid (Below w1.heap.size w1 (w1.alloc (.cells #[] 3))) := Lib.hid ((Below.refl _ _).alloc (Nat.le_refl _) _)
      have c2 := spec_l11Rec G HSG.out (G.length - 1) m [] b off cap w1.heap.size 0 0 (w1.alloc (.cells #[] 3)) (by simp; omega) hm (Nat.lt_of_lt_of_le hbs1 HB.out.size) (HC.out _ HB.out) (by simp) (fun j u hj => by simp at hj)
      clear c1 hb1 hc0 hWs hr hc hbW
      go_wp2_with fail
      refine (ci _).mono ?_
      rintro e w2 ⟨rfl, hww⟩
      subst hww
      clear ci
      go_wp2_with fail
      refine c2.mono ?_
      rintro e w3 hp
      obtain ⟨v, vs, rfl, hR, hb3⟩ := hp.ss
      clear c2 hp
      have hb13 := HB.out.trans (hb3.mono HB.out.size)
      have hb03 := hb01.trans (hb13.mono hb01.size)
      have HRR := Lib.hid (hR.wider (Nat.le_trans hb01.size HB.out.size) (Nat.le_refl _) (Nat.le_refl _))
      clear hR
      go_wp2_with fail
      go_ret
      exact ⟨_, vs, rfl, by rw [HR.out]; exact HRR.out, hb03⟩
end Go.Proofs.YtlinlmmcgifloaaDoor

/-
  CONTRACTS of the reference's chapter 12: l12Sum, LengthsOf. (Own work.)
-/
namespace Go.Proofs.YtlinlmmcgifloaaDoor
open Go Go.RowKit

end Go.Proofs.YtlinlmmcgifloaaDoor

/-
  CONTRACTS of chapter 12: DeltaOf (spec). (Own work: mkDel.py.)
-/
namespace Go.Proofs.YtlinlmmcgifloaaDoor
open Go Go.RowKit

end Go.Proofs.YtlinlmmcgifloaaDoor

/-
  CONTRACTS of chapter 12: ElasticityOf (spec). (Own work: mkEla.py.)
-/
namespace Go.Proofs.YtlinlmmcgifloaaDoor
open Go Go.RowKit

end Go.Proofs.YtlinlmmcgifloaaDoor

/-
  CONTRACTS of the reference's chapter 12: DeltaSet. (Own work.)
-/
namespace Go.Proofs.YtlinlmmcgifloaaDoor
open Go Go.RowKit

end Go.Proofs.YtlinlmmcgifloaaDoor
