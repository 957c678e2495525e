/-
  CONTRACTS of the reference's chapter 11: the search for factorizations. (Own work: mkL40.py.)
-/
import Derived.Test.YthalbmlgkkgheaaDoorRow4
import Derived.Test.YthalbmlgkkgheaaDoorSgX
import Derived.Test.YthalbmlgkkgheaaDoorSgZ
import Derived.Test.YthalbmlgkkgheaaDoorCh3L
import Derived.Maps.AppendAt
import Derived.WalkMore
namespace Go.Proofs.YthalbmlgkkgheaaDoor
open Go Go.RowKit

theorem rows2_empty {w : World} {lo q : Nat} (h : w.ownsRow lo 24 1 (.slice (some ⟨q, 0, none⟩) 0 0) 0 []) (hq : q < w.heap.size) : Rows2 w lo w.heap.size (.slice (some ⟨q, 0, none⟩) 0 0) [] (([] : List (List Int)).map fun L => L.map (Value.int .i64)) :=
  ⟨h, rfl, fun i h => absurd h (by simp), fun j hj => by simp [Value.ownBlock] at hj; omega, Nat.le_refl _, fun i j h => absurd h (by simp), fun i h => absurd h (by simp)⟩
theorem keepA {W w' : World} {b o : Nat} {v : Value} (hb : b < W.heap.size) (h : w'.cell? ⟨b, o, none⟩ = some v ∧ Below W.heap.size W w') (x : Obj) : (w'.alloc x).cell? ⟨b, o, none⟩ = some v ∧ Below W.heap.size W (w'.alloc x) :=
  ⟨(World.cell?_alloc_lt w' _ ⟨b, o, none⟩ (Nat.lt_of_lt_of_le hb h.2.size)).trans h.1, h.2.alloc h.2.size x⟩
theorem keepB {W w' w2 : World} {b o : Nat} {v : Value} {row : Option Nat} (hb : b < W.heap.size) (h : w'.cell? ⟨b, o, none⟩ = some v ∧ Below W.heap.size W w') (hg : w'.grownBy w2 row) (hr : ∀ j, row = some j → W.heap.size ≤ j) : w2.cell? ⟨b, o, none⟩ = some v ∧ Below W.heap.size W w2 :=
  ⟨hg.cell h.1 (fun e => by have := hr b e.symm; omega), h.2.grown hg h.2.size hr⟩
theorem addr_add (b o j : Nat) : (⟨b, o, none⟩ : Addr).add j = ⟨b, o + j, none⟩ := by
  unfold Addr.add
  split
  · next h => subst h; rfl
  · rfl
theorem alloc_sz (w : World) (o : Obj) : (w.alloc o).heap.size = w.heap.size + 1 := by simp
def SsPostA (LL : List (List Int)) (w : World) (e : Ending) (w' : World) : Prop :=
  ∃ ad c vs, e = .returned (.slice (some ad) vs.length c) ∧ Rows2 w' w.heap.size w'.heap.size (.slice (some ad) vs.length c) vs (LL.map fun L => L.map (Value.int .i64)) ∧ Below w.heap.size w w'
def OneAt (w : World) (q : Nat) (x : Value) : Prop := q < w.heap.size ∧ w.cell? ⟨q, 0, none⟩ = some x
theorem OneAt.at {w : World} {q : Nat} {x : Value} (h : OneAt w q x) : ∀ j u, [x][j]? = some u → w.cell? ((⟨q, 0, none⟩ : Addr).add j) = some u := by
  intro j u hj
  match j, hj with
  | 0, hj => cases hj; exact h.2
  | j + 1, hj => simp at hj
theorem OneAt.alloc {w : World} {q : Nat} {x : Value} (h : OneAt w q x) (o : Obj) : OneAt (w.alloc o) q x := ⟨Nat.lt_of_lt_of_le h.1 (by simp), (World.cell?_alloc_lt w _ ⟨q, 0, none⟩ h.1).trans h.2⟩
theorem OneAt.grown {w w' : World} {q : Nat} {x : Value} {row : Option Nat} (h : OneAt w q x) (hg : w.grownBy w' row) (hne : row ≠ some q) : OneAt w' q x := ⟨Nat.lt_of_lt_of_le h.1 hg.size, hg.cell h.2 fun e => hne e.symm⟩
theorem newEmpty {W w' : World} (h : Below W.heap.size W w') : (w'.alloc (.cells #[] 3)).ownsRow W.heap.size 3 1 (.slice (some ⟨w'.heap.size, 0, none⟩) 0 0) 0 [] := World.ownsRow_lit w' #[] 0 h.size (by simp) rfl
theorem newOne {base : Nat} {W w' : World} (_ : Below base W w') (x : Value) : OneAt (w'.alloc (.cells #[x] 3)) w'.heap.size x := ⟨by simp, cell_one_new _ _ _ 0 _ rfl⟩
theorem newOneS {base : Nat} {W w' : World} (_ : Below base W w') (x : Value) : OneAt (w'.alloc (.cells #[x] 24)) w'.heap.size x := ⟨by simp, cell_one_new _ _ _ 0 _ rfl⟩
theorem infoSlL2 : (Tryd.prog.info? 24).map (fun i => (i.zero, i.size, i.bytes)) = some (some (Value.slice none 0 0), 1, 24) := by kernel_rfl
theorem leaf_done {w W1 wc w8 : World} {D : List Int} {q d g6 c6 g8 c8 : Nat} (hown : W1.ownsRow w.heap.size 24 1 (.slice (some ⟨w.heap.size, 0, none⟩) 0 0) 0 []) (hz : W1.heap.size = w.heap.size + 1) (hB : Below W1.heap.size W1 wc) (hD1 : D.length ≤ d) (hD2 : d ≤ D.length)
    (h6 : wc.ownsRow W1.heap.size 3 1 (.slice (some ⟨g6, 0, none⟩) (d + 1) c6) (d + 1) ([] ++ D.map (Value.int .i64) ++ [.int .i64 (q : Int)]))
    (h8 : w8.ownsRow w.heap.size 24 1 (.slice (some ⟨g8, 0, none⟩) (0 + 1) c8) (0 + 1) ([] ++ [.slice (some ⟨g6, 0, none⟩) (d + 1) c6])) (hg : wc.grownBy w8 (Value.slice (some ⟨w.heap.size, 0, none⟩) 0 0).ownBlock) (hat : (Value.slice (some ⟨w.heap.size, 0, none⟩) 0 0).ownBlock = some g8 ∨ g8 = wc.heap.size) :
    Rows2 w8 w.heap.size w8.heap.size (.slice (some ⟨g8, 0, none⟩) (0 + 1) c8) [.slice (some ⟨g6, 0, none⟩) (d + 1) c6] ([D ++ [(q : Int)]].map fun L => L.map (Value.int .i64)) := by
  have hs := hB.size
  have h0 : Rows2 wc w.heap.size W1.heap.size (.slice (some ⟨w.heap.size, 0, none⟩) 0 0) [] [] :=
    ⟨owns_below hown hB, rfl, fun i h => absurd h (by simp), fun j hj => by simp [Value.ownBlock] at hj; omega, hs, fun i j h => absurd h (by simp), fun i h => absurd h (by simp)⟩
  have e : ((D ++ [(q : Int)]).map (Value.int .i64)) = [] ++ D.map (Value.int .i64) ++ [.int .i64 (q : Int)] := by simp
  have hl : ((D ++ [(q : Int)]).map (Value.int .i64)).length = d + 1 := by simp; omega
  have hu : wc.ownsRow W1.heap.size 3 1 (.slice (some ⟨g6, 0, none⟩) (d + 1) c6) ((D ++ [(q : Int)]).map (Value.int .i64)).length ((D ++ [(q : Int)]).map (Value.int .i64)) := by rw [hl, e]; exact h6
  exact h0.snoc h8 hg hu (by omega) fun b hb => by
    have e : b = g8 := by simp [Value.ownBlock] at hb; exact hb.symm
    subst e
    rcases hat with h1 | h1
    · exact .inl h1
    · exact .inr (by omega)
set_option maxRecDepth 100000 in
set_option maxHeartbeats 1600000 in
theorem spec_l11Leaf (D : List Int) (b off cap N d g t bd od cd : Nat) (w : World) (hN1 : d + 1 ≤ N) (hN2 : N ≤ d + 1) (hN : N ≤ 12) (hg1 : 1 ≤ g) (hg2 : g ≤ 60) (ht : t ≤ 100) (hD1 : D.length ≤ d) (hD2 : d ≤ D.length)
    (hbw : b < w.heap.size) (hc : w.cell? ⟨b, off + d, none⟩ = some (.int .i64 (g : Int))) (hdw : bd < w.heap.size) (hD : ∀ j u, (D.map (Value.int .i64))[j]? = some u → w.cell? ⟨bd, od + j, none⟩ = some u) :
    Calls Tryd.prog 39 #[.slice (some ⟨b, off, none⟩) N cap, .int .i64 (t : Int), .slice (some ⟨bd, od, none⟩) d cd] w (SsPostA ((findF [(g : Int)] t).map (D ++ ·)) w) := by
  have hd1 : ((d : Int) == (N : Int)) = false := by rw [beq_eq_false_iff_ne]; omega
  have hwp : IntKind.i64.wrap ((N : Int) - 1) = (d : Int) := by rw [IntWalk.i64_in _ (by omega)]; omega
  have hdN : (d : Int) < (N : Int) := by omega
  have hd0 : (0 : Int) ≤ (d : Int) := by omega
  have hqz : ((g : Int) == 0) = false := by rw [beq_eq_false_iff_ne]; omega
  have hgz : ¬ g = 0 := by omega
  have hwr : (t : Int) % (g : Int) = ((t % g : Nat) : Int) := (Int.natCast_emod t g).symm
  obtain ⟨W1, hW1⟩ : ∃ W1, W1 = w.alloc (.cells #[] 24) := ⟨_, rfl⟩
  have hb1 : Below w.heap.size w W1 := by rw [hW1]; exact (Below.refl _ _).alloc (Nat.le_refl _) _
  have hW1s : w.heap.size + 1 ≤ W1.heap.size := by rw [hW1]; simp
  have hW1t : W1.heap.size ≤ w.heap.size + 1 := by rw [hW1]; simp
  have hc1 : W1.cell? ⟨b, off + d, none⟩ = some (.int .i64 (g : Int)) := (hb1.cell (p := ⟨b, off + d, none⟩) hbw).trans hc
  have hbW : b < W1.heap.size := by omega
  have hown : W1.ownsRow w.heap.size 24 1 (.slice (some ⟨w.heap.size, 0, none⟩) 0 0) 0 [] := by rw [hW1]; exact World.ownsRow_lit w #[] 0 (Nat.le_refl _) (by simp) rfl
  have HW1 := Lib.hid hW1
  clear hW1
  have hDB : Hid (∀ w', Below W1.heap.size W1 w' → ∀ j u, (D.map (Value.int .i64))[j]? = some u → w'.cell? ((⟨bd, od, none⟩ : Addr).add j) = some u) := Lib.hid fun w' h j u hj => by have := ((hb1.trans (h.mono hb1.size)).cell (p := ⟨bd, od + j, none⟩) hdw).trans (hD j u hj); rw [addr_add]; exact this
  by_cases hz : t % g = 0
  · have hmz : (((t % g : Nat) : Int) == 0) = true := by rw [beq_iff_eq]; omega
    have hqx := wrapk t g (by omega)
    have hqw := wrapq t g (by omega)
    have HR : Hid ((findF [(g : Int)] t).map (D ++ ·) = [D ++ [((t / g : Nat) : Int)]]) := Lib.hid (by rw [findF_one, Int.toNat_natCast, if_pos hz]; rfl)
    generalize hq : t / g = q at *
    clear hq
    go_enter Tryd.func39, Tryd.ntmps39
    go_wp2_with fail
    rw [← HW1.out]
    obtain ⟨i0, hi, hz0, hz1, hz2⟩ := info_parts infoIntL
    obtain ⟨i1, hi', hz0', hz1', hz2'⟩ := info_parts infoSlL2
    have hS0 : W1.drew.cell? ⟨b, off + d, none⟩ = some (.int .i64 (g : Int)) ∧ Below w.heap.size w W1.drew := ⟨hc1, hb1.drew⟩
    have hB1 : Below W1.heap.size W1 W1.drew := (Below.refl _ _).drew
    refine wp_region_held_drew (S := fun w' => w'.cell? ⟨b, off + d, none⟩ = some (.int .i64 (g : Int)) ∧ Below w.heap.size w w') (by kernel_rfl) hS0 (fun hHeld => ?_)
    refine held_take 0 _ _ rfl (by kernel_rfl) (by kernel_rfl) (by kernel_rfl) (fun _ _ _ h => h) (by rfl) hHeld (fun w hSw => by (try dsimp only at hSw); go_simp; try with_reducible rfl) ?_
    (try simp only [Act.put, List.setIfInBounds_toArray, List.set_cons_zero, List.set_cons_succ, List.getElem_toArray, List.getElem_cons_zero])
    refine held_take 2 _ _ rfl (by kernel_rfl) (by kernel_rfl) (by kernel_rfl) (fun _ _ _ h => h) (by rfl) hHeld (fun w hSw => by (try dsimp only at hSw); go_simp; try with_reducible rfl) ?_
    (try simp only [Act.put, List.setIfInBounds_toArray, List.set_cons_zero, List.set_cons_succ, List.getElem_toArray, List.getElem_cons_succ, List.getElem_cons_zero])
    refine held_take 4 _ _ rfl (by kernel_rfl) (by kernel_rfl) (by kernel_rfl) (fun _ _ _ h => h) (by rfl) hHeld (fun w hSw => by (try dsimp only at hSw); go_simp; try with_reducible rfl) ?_
    (try simp only [Act.put, List.setIfInBounds_toArray, List.set_cons_zero, List.set_cons_succ, List.getElem_toArray, List.getElem_cons_succ, List.getElem_cons_zero])
    refine held_take 5 _ _ rfl (by kernel_rfl) (by kernel_rfl) (by kernel_rfl) (fun _ _ _ h => h) (by rfl) hHeld (fun w hSw => by (try dsimp only at hSw); go_simp; try with_reducible rfl) ?_
    (try simp only [Act.put, List.setIfInBounds_toArray, List.set_cons_zero, List.set_cons_succ, List.getElem_toArray, List.getElem_cons_succ, List.getElem_cons_zero])
    refine held_take 6 _ _ rfl (by kernel_rfl) (by kernel_rfl) (by kernel_rfl) (fun _ _ _ h => h) (by rfl) hHeld (fun w hSw => by (try dsimp only at hSw); go_simp; try with_reducible rfl) ?_
    (try simp only [Act.put, List.setIfInBounds_toArray, List.set_cons_zero, List.set_cons_succ, List.getElem_toArray, List.getElem_cons_succ, List.getElem_cons_zero])
    refine held_take 7 _ _ rfl (by kernel_rfl) (by kernel_rfl) (by kernel_rfl) (fun _ _ _ h => h) (by rfl) hHeld (fun w hSw => by (try dsimp only at hSw); go_simp; try with_reducible rfl) ?_
    (try simp only [Act.put, List.setIfInBounds_toArray, List.set_cons_zero, List.set_cons_succ, List.getElem_toArray, List.getElem_cons_succ, List.getElem_cons_zero])
    refine held_take 8 _ _ rfl (by kernel_rfl) (by kernel_rfl) (by kernel_rfl) (fun _ _ _ h => h) (by rfl) hHeld (fun w hSw => by (try dsimp only at hSw); go_simp; try with_reducible rfl) ?_
    (try simp only [Act.put, List.setIfInBounds_toArray, List.set_cons_zero, List.set_cons_succ, List.getElem_toArray, List.getElem_cons_succ, List.getElem_cons_zero])
    refine held_take 9 _ _ rfl (by kernel_rfl) (by kernel_rfl) (by kernel_rfl) (fun _ _ _ h => h) (by rfl) hHeld (fun w hSw => by (try dsimp only at hSw); go_simp; try with_reducible rfl) ?_
    (try simp only [Act.put, List.setIfInBounds_toArray, List.set_cons_zero, List.set_cons_succ, List.getElem_toArray, List.getElem_cons_succ, List.getElem_cons_zero])
    refine wpAnyH_ready (rs := [1, 10]) (by kernel_rfl) (by simp) ?_
    refine AllReadyH.cons rfl (fun K hK => ?_) (AllReadyH.cons rfl (fun K hK => ?_) AllReadyH.nil)
    · rw [if_pos (by rfl)]
      have hO := newEmpty hB1
      try simp only [alloc_sz] at hO
      try (replace hT := hT.alloc (.cells #[] 3))
      replace hB1 := hB1.alloc hB1.size (.cells #[] 3)
      go_wp2_with fail
      refine hK.out _ _ (keepA hbw hHeld _) (fun hHeld1 => ?_)
      clear hK K
      (try simp only [Act.put, List.setIfInBounds_toArray, List.set_cons_zero, List.set_cons_succ, List.getElem_toArray, List.getElem_cons_succ, List.getElem_cons_zero])
      refine wpAnyH_ready (rs := [3, 10]) (by kernel_rfl) (by simp) ?_
      refine AllReadyH.cons rfl (fun K hK => ?_) (AllReadyH.cons rfl (fun K hK => ?_) AllReadyH.nil)
      · rw [if_pos (by rfl)]
        refine wp_append_own _ (.tmp 37) (.tmp 38) 24 (by rfl) W1.heap.size 3 i0 (Value.int .i64 0) 1 8 Tryd.underlying24 hi hz0 hz1 hz2 rfl (by decide) _ 0 [] (by rfl) hO ⟨bd, od, none⟩ d _ (D.map (Value.int .i64)) (by rfl) (by rw [List.length_map]; omega) (hDB.out _ hB1) (fun u hu => by obtain ⟨x, -, rfl⟩ := List.mem_map.1 hu; rfl) (by unfold maxLen; omega) (by omega) hB1.size ?_; intro v5 wa hown5 hg5 _
        have hl5 := hO.lt
        try (replace hT := hT.grown hg5 (by simp [Value.ownBlock]))
        replace hB1 := hB1.grown hg5 hB1.size (fun j hj => (hl5 j hj).1)
        replace hO := hown5
        clear hown5
        refine hK.out _ _ (keepB hbw hHeld1 hg5 (fun j hj => by have := (hl5 j hj).1; omega)) (fun hHeld2 => ?_)
        clear hK K
        (try simp only [Act.put, List.setIfInBounds_toArray, List.set_cons_zero, List.set_cons_succ, List.getElem_toArray, List.getElem_cons_succ, List.getElem_cons_zero])
        refine wpAnyH_ready (rs := [10]) (by kernel_rfl) (by simp) ?_
        refine AllReadyH.cons rfl (fun K hK => ?_) AllReadyH.nil
        rw [if_pos (by rfl)]
        have hT := newOne (base := W1.heap.size) hB1 (.int .i64 (q : Int))
        try simp only [alloc_sz] at hT
        try (replace hO := hO.alloc (.cells #[.int .i64 (q : Int)] 3))
        replace hB1 := hB1.alloc hB1.size (.cells #[.int .i64 (q : Int)] 3)
        go_wp2_with fail
        refine hK.out _ _ (keepA hbw hHeld2 _) (fun hHeld3 => ?_)
        clear hK K
        (try simp only [Act.put, List.setIfInBounds_toArray, List.set_cons_zero, List.set_cons_succ, List.getElem_toArray, List.getElem_cons_succ, List.getElem_cons_zero])
        refine wpAnyH_ready (rs := [11]) (by kernel_rfl) (by simp) ?_
        refine AllReadyH.cons rfl (fun K hK => ?_) AllReadyH.nil
        rw [if_pos (by rfl)]
        refine wp_append_lies _ (.tmp 39) (.tmp 46) 24 (by rfl) W1.heap.size 3 i0 (Value.int .i64 0) 1 8 Tryd.underlying24 hi hz0 hz1 hz2 rfl (by decide) v5 (0 + d) ([] ++ D.map (Value.int .i64)) (by rfl) hO _ 1 _ [.int .i64 (q : Int)] (by rfl) rfl hT.at (by simp [Value.oneCell']) (by decide) (by unfold maxLen; omega) (by omega) hB1.size _ rfl ?_; intro g6 c6 w6 hown6 hg6 hat6 hlt6
        simp only [Nat.zero_add] at hown6 ⊢
        have hl6 := hO.lt
        replace hB1 := hB1.grown hg6 hB1.size (fun j hj => (hl6 j hj).1)
        clear hT hO
        refine hK.out _ _ (keepB hbw hHeld3 hg6 (fun j hj => by have := (hl6 j hj).1; omega)) (fun hHeld4 => ?_)
        clear hK K
        (try simp only [Act.put, List.setIfInBounds_toArray, List.set_cons_zero, List.set_cons_succ, List.getElem_toArray, List.getElem_cons_succ, List.getElem_cons_zero])
        refine wpAnyH_ready (rs := [12]) (by kernel_rfl) (by simp) ?_
        refine AllReadyH.cons rfl (fun K hK => ?_) AllReadyH.nil
        rw [if_pos (by rfl)]
        have hT := newOneS (base := W1.heap.size) hB1 (.slice (some ⟨g6, 0, none⟩) (d + 1) c6)
        replace hown6 := hown6.alloc (.cells #[.slice (some ⟨g6, 0, none⟩) (d + 1) c6] 24)
        replace hB1 := hB1.alloc hB1.size (.cells #[.slice (some ⟨g6, 0, none⟩) (d + 1) c6] 24)
        go_wp2_with fail
        refine hK.out _ _ (keepA hbw hHeld4 _) (fun hHeld5 => ?_)
        clear hK K
        (try simp only [Act.put, List.setIfInBounds_toArray, List.set_cons_zero, List.set_cons_succ, List.getElem_toArray, List.getElem_cons_succ, List.getElem_cons_zero])
        refine wpAnyH_ready (rs := [13]) (by kernel_rfl) (by simp) ?_
        refine AllReadyH.cons rfl (fun K hK => ?_) AllReadyH.nil
        rw [if_pos (by rfl)]
        refine wp_append_lies _ (.tmp 36) (.tmp 48) 29 (by rfl) w.heap.size 24 i1 (Value.slice none 0 0) 1 24 Tryd.underlying29 hi' hz0' hz1' hz2' rfl (by decide) (.slice (some ⟨w.heap.size, 0, none⟩) 0 0) 0 [] (by rfl) (owns_below hown hB1) _ 1 _ [.slice (some ⟨g6, 0, none⟩) (d + 1) c6] (by rfl) rfl hT.at (by simp [Value.oneCell']) (by decide) (by unfold maxLen; omega) (by omega) (Nat.le_trans hb1.size hB1.size) _ rfl ?_; intro g8 c8 w8 hown8 hg8 hat8 hlt8
        have hF := leaf_done (D := D) (q := q) hown (by omega) hB1 hD1 hD2 hown6 hown8 hg8 hat8
        refine hK.out _ _ (keepB hbw hHeld5 hg8 (fun j hj => by simp [Value.ownBlock] at hj; omega)) (fun hHeld6 => ?_)
        clear hK K
        (try simp only [Act.put, List.setIfInBounds_toArray, List.set_cons_zero, List.set_cons_succ, List.getElem_toArray, List.getElem_cons_succ, List.getElem_cons_zero])
        refine held_take 14 _ _ rfl (by kernel_rfl) (by kernel_rfl) (by kernel_rfl) (fun _ _ _ h => h) (by rfl) hHeld6 (fun w hSw => by (try dsimp only at hSw); go_simp; try with_reducible rfl) ?_
        (try simp only [Act.put, List.setIfInBounds_toArray, List.set_cons_zero, List.set_cons_succ, List.getElem_toArray, List.getElem_cons_succ, List.getElem_cons_zero])
        refine wpAnyH_done (by kernel_rfl) ?_ _
        try simp only [Nat.zero_add] at hF
        have hbF := (hHeld6).2
        clear hqx hqw hB1 hown6 hown8 hT
        go_wp2_with fail
        go_ret
        exact ⟨_, _, [_], rfl, by rw [HR.out]; exact hF, hbF⟩
      · rw [if_pos (by rfl)]
        have hT := newOne (base := W1.heap.size) hB1 (.int .i64 (q : Int))
        try simp only [alloc_sz] at hT
        try (replace hO := hO.alloc (.cells #[.int .i64 (q : Int)] 3))
        replace hB1 := hB1.alloc hB1.size (.cells #[.int .i64 (q : Int)] 3)
        go_wp2_with fail
        refine hK.out _ _ (keepA hbw hHeld1 _) (fun hHeld2 => ?_)
        clear hK K
        (try simp only [Act.put, List.setIfInBounds_toArray, List.set_cons_zero, List.set_cons_succ, List.getElem_toArray, List.getElem_cons_succ, List.getElem_cons_zero])
        refine wpAnyH_ready (rs := [3]) (by kernel_rfl) (by simp) ?_
        refine AllReadyH.cons rfl (fun K hK => ?_) AllReadyH.nil
        rw [if_pos (by rfl)]
        refine wp_append_own _ (.tmp 37) (.tmp 38) 24 (by rfl) W1.heap.size 3 i0 (Value.int .i64 0) 1 8 Tryd.underlying24 hi hz0 hz1 hz2 rfl (by decide) _ 0 [] (by rfl) hO ⟨bd, od, none⟩ d _ (D.map (Value.int .i64)) (by rfl) (by rw [List.length_map]; omega) (hDB.out _ hB1) (fun u hu => by obtain ⟨x, -, rfl⟩ := List.mem_map.1 hu; rfl) (by unfold maxLen; omega) (by omega) hB1.size ?_; intro v5 wa hown5 hg5 _
        have hl5 := hO.lt
        try (replace hT := hT.grown hg5 (by simp [Value.ownBlock]))
        replace hB1 := hB1.grown hg5 hB1.size (fun j hj => (hl5 j hj).1)
        replace hO := hown5
        clear hown5
        refine hK.out _ _ (keepB hbw hHeld2 hg5 (fun j hj => by have := (hl5 j hj).1; omega)) (fun hHeld3 => ?_)
        clear hK K
        (try simp only [Act.put, List.setIfInBounds_toArray, List.set_cons_zero, List.set_cons_succ, List.getElem_toArray, List.getElem_cons_succ, List.getElem_cons_zero])
        refine wpAnyH_ready (rs := [11]) (by kernel_rfl) (by simp) ?_
        refine AllReadyH.cons rfl (fun K hK => ?_) AllReadyH.nil
        rw [if_pos (by rfl)]
        refine wp_append_lies _ (.tmp 39) (.tmp 46) 24 (by rfl) W1.heap.size 3 i0 (Value.int .i64 0) 1 8 Tryd.underlying24 hi hz0 hz1 hz2 rfl (by decide) v5 (0 + d) ([] ++ D.map (Value.int .i64)) (by rfl) hO _ 1 _ [.int .i64 (q : Int)] (by rfl) rfl hT.at (by simp [Value.oneCell']) (by decide) (by unfold maxLen; omega) (by omega) hB1.size _ rfl ?_; intro g6 c6 w6 hown6 hg6 hat6 hlt6
        simp only [Nat.zero_add] at hown6 ⊢
        have hl6 := hO.lt
        replace hB1 := hB1.grown hg6 hB1.size (fun j hj => (hl6 j hj).1)
        clear hT hO
        refine hK.out _ _ (keepB hbw hHeld3 hg6 (fun j hj => by have := (hl6 j hj).1; omega)) (fun hHeld4 => ?_)
        clear hK K
        (try simp only [Act.put, List.setIfInBounds_toArray, List.set_cons_zero, List.set_cons_succ, List.getElem_toArray, List.getElem_cons_succ, List.getElem_cons_zero])
        refine wpAnyH_ready (rs := [12]) (by kernel_rfl) (by simp) ?_
        refine AllReadyH.cons rfl (fun K hK => ?_) AllReadyH.nil
        rw [if_pos (by rfl)]
        have hT := newOneS (base := W1.heap.size) hB1 (.slice (some ⟨g6, 0, none⟩) (d + 1) c6)
        replace hown6 := hown6.alloc (.cells #[.slice (some ⟨g6, 0, none⟩) (d + 1) c6] 24)
        replace hB1 := hB1.alloc hB1.size (.cells #[.slice (some ⟨g6, 0, none⟩) (d + 1) c6] 24)
        go_wp2_with fail
        refine hK.out _ _ (keepA hbw hHeld4 _) (fun hHeld5 => ?_)
        clear hK K
        (try simp only [Act.put, List.setIfInBounds_toArray, List.set_cons_zero, List.set_cons_succ, List.getElem_toArray, List.getElem_cons_succ, List.getElem_cons_zero])
        refine wpAnyH_ready (rs := [13]) (by kernel_rfl) (by simp) ?_
        refine AllReadyH.cons rfl (fun K hK => ?_) AllReadyH.nil
        rw [if_pos (by rfl)]
        refine wp_append_lies _ (.tmp 36) (.tmp 48) 29 (by rfl) w.heap.size 24 i1 (Value.slice none 0 0) 1 24 Tryd.underlying29 hi' hz0' hz1' hz2' rfl (by decide) (.slice (some ⟨w.heap.size, 0, none⟩) 0 0) 0 [] (by rfl) (owns_below hown hB1) _ 1 _ [.slice (some ⟨g6, 0, none⟩) (d + 1) c6] (by rfl) rfl hT.at (by simp [Value.oneCell']) (by decide) (by unfold maxLen; omega) (by omega) (Nat.le_trans hb1.size hB1.size) _ rfl ?_; intro g8 c8 w8 hown8 hg8 hat8 hlt8
        have hF := leaf_done (D := D) (q := q) hown (by omega) hB1 hD1 hD2 hown6 hown8 hg8 hat8
        refine hK.out _ _ (keepB hbw hHeld5 hg8 (fun j hj => by simp [Value.ownBlock] at hj; omega)) (fun hHeld6 => ?_)
        clear hK K
        (try simp only [Act.put, List.setIfInBounds_toArray, List.set_cons_zero, List.set_cons_succ, List.getElem_toArray, List.getElem_cons_succ, List.getElem_cons_zero])
        refine held_take 14 _ _ rfl (by kernel_rfl) (by kernel_rfl) (by kernel_rfl) (fun _ _ _ h => h) (by rfl) hHeld6 (fun w hSw => by (try dsimp only at hSw); go_simp; try with_reducible rfl) ?_
        (try simp only [Act.put, List.setIfInBounds_toArray, List.set_cons_zero, List.set_cons_succ, List.getElem_toArray, List.getElem_cons_succ, List.getElem_cons_zero])
        refine wpAnyH_done (by kernel_rfl) ?_ _
        try simp only [Nat.zero_add] at hF
        have hbF := (hHeld6).2
        clear hqx hqw hB1 hown6 hown8 hT
        go_wp2_with fail
        go_ret
        exact ⟨_, _, [_], rfl, by rw [HR.out]; exact hF, hbF⟩
    · rw [if_pos (by rfl)]
      have hT := newOne (base := W1.heap.size) hB1 (.int .i64 (q : Int))
      try simp only [alloc_sz] at hT
      try (replace hO := hO.alloc (.cells #[.int .i64 (q : Int)] 3))
      replace hB1 := hB1.alloc hB1.size (.cells #[.int .i64 (q : Int)] 3)
      go_wp2_with fail
      refine hK.out _ _ (keepA hbw hHeld _) (fun hHeld1 => ?_)
      clear hK K
      (try simp only [Act.put, List.setIfInBounds_toArray, List.set_cons_zero, List.set_cons_succ, List.getElem_toArray, List.getElem_cons_succ, List.getElem_cons_zero])
      refine wpAnyH_ready (rs := [1]) (by kernel_rfl) (by simp) ?_
      refine AllReadyH.cons rfl (fun K hK => ?_) AllReadyH.nil
      rw [if_pos (by rfl)]
      have hO := newEmpty hB1
      try simp only [alloc_sz] at hO
      try (replace hT := hT.alloc (.cells #[] 3))
      replace hB1 := hB1.alloc hB1.size (.cells #[] 3)
      go_wp2_with fail
      refine hK.out _ _ (keepA hbw hHeld1 _) (fun hHeld2 => ?_)
      clear hK K
      (try simp only [Act.put, List.setIfInBounds_toArray, List.set_cons_zero, List.set_cons_succ, List.getElem_toArray, List.getElem_cons_succ, List.getElem_cons_zero])
      refine wpAnyH_ready (rs := [3]) (by kernel_rfl) (by simp) ?_
      refine AllReadyH.cons rfl (fun K hK => ?_) AllReadyH.nil
      rw [if_pos (by rfl)]
      refine wp_append_own _ (.tmp 37) (.tmp 38) 24 (by rfl) W1.heap.size 3 i0 (Value.int .i64 0) 1 8 Tryd.underlying24 hi hz0 hz1 hz2 rfl (by decide) _ 0 [] (by rfl) hO ⟨bd, od, none⟩ d _ (D.map (Value.int .i64)) (by rfl) (by rw [List.length_map]; omega) (hDB.out _ hB1) (fun u hu => by obtain ⟨x, -, rfl⟩ := List.mem_map.1 hu; rfl) (by unfold maxLen; omega) (by omega) hB1.size ?_; intro v5 wa hown5 hg5 _
      have hl5 := hO.lt
      try (replace hT := hT.grown hg5 (by simp [Value.ownBlock]))
      replace hB1 := hB1.grown hg5 hB1.size (fun j hj => (hl5 j hj).1)
      replace hO := hown5
      clear hown5
      refine hK.out _ _ (keepB hbw hHeld2 hg5 (fun j hj => by have := (hl5 j hj).1; omega)) (fun hHeld3 => ?_)
      clear hK K
      (try simp only [Act.put, List.setIfInBounds_toArray, List.set_cons_zero, List.set_cons_succ, List.getElem_toArray, List.getElem_cons_succ, List.getElem_cons_zero])
      refine wpAnyH_ready (rs := [11]) (by kernel_rfl) (by simp) ?_
      refine AllReadyH.cons rfl (fun K hK => ?_) AllReadyH.nil
      rw [if_pos (by rfl)]
      refine wp_append_lies _ (.tmp 39) (.tmp 46) 24 (by rfl) W1.heap.size 3 i0 (Value.int .i64 0) 1 8 Tryd.underlying24 hi hz0 hz1 hz2 rfl (by decide) v5 (0 + d) ([] ++ D.map (Value.int .i64)) (by rfl) hO _ 1 _ [.int .i64 (q : Int)] (by rfl) rfl hT.at (by simp [Value.oneCell']) (by decide) (by unfold maxLen; omega) (by omega) hB1.size _ rfl ?_; intro g6 c6 w6 hown6 hg6 hat6 hlt6
      simp only [Nat.zero_add] at hown6 ⊢
      have hl6 := hO.lt
      replace hB1 := hB1.grown hg6 hB1.size (fun j hj => (hl6 j hj).1)
      clear hT hO
      refine hK.out _ _ (keepB hbw hHeld3 hg6 (fun j hj => by have := (hl6 j hj).1; omega)) (fun hHeld4 => ?_)
      clear hK K
      (try simp only [Act.put, List.setIfInBounds_toArray, List.set_cons_zero, List.set_cons_succ, List.getElem_toArray, List.getElem_cons_succ, List.getElem_cons_zero])
      refine wpAnyH_ready (rs := [12]) (by kernel_rfl) (by simp) ?_
      refine AllReadyH.cons rfl (fun K hK => ?_) AllReadyH.nil
      rw [if_pos (by rfl)]
      have hT := newOneS (base := W1.heap.size) hB1 (.slice (some ⟨g6, 0, none⟩) (d + 1) c6)
      replace hown6 := hown6.alloc (.cells #[.slice (some ⟨g6, 0, none⟩) (d + 1) c6] 24)
      replace hB1 := hB1.alloc hB1.size (.cells #[.slice (some ⟨g6, 0, none⟩) (d + 1) c6] 24)
      go_wp2_with fail
      refine hK.out _ _ (keepA hbw hHeld4 _) (fun hHeld5 => ?_)
      clear hK K
      (try simp only [Act.put, List.setIfInBounds_toArray, List.set_cons_zero, List.set_cons_succ, List.getElem_toArray, List.getElem_cons_succ, List.getElem_cons_zero])
      refine wpAnyH_ready (rs := [13]) (by kernel_rfl) (by simp) ?_
      refine AllReadyH.cons rfl (fun K hK => ?_) AllReadyH.nil
      rw [if_pos (by rfl)]
      refine wp_append_lies _ (.tmp 36) (.tmp 48) 29 (by rfl) w.heap.size 24 i1 (Value.slice none 0 0) 1 24 Tryd.underlying29 hi' hz0' hz1' hz2' rfl (by decide) (.slice (some ⟨w.heap.size, 0, none⟩) 0 0) 0 [] (by rfl) (owns_below hown hB1) _ 1 _ [.slice (some ⟨g6, 0, none⟩) (d + 1) c6] (by rfl) rfl hT.at (by simp [Value.oneCell']) (by decide) (by unfold maxLen; omega) (by omega) (Nat.le_trans hb1.size hB1.size) _ rfl ?_; intro g8 c8 w8 hown8 hg8 hat8 hlt8
      have hF := leaf_done (D := D) (q := q) hown (by omega) hB1 hD1 hD2 hown6 hown8 hg8 hat8
      refine hK.out _ _ (keepB hbw hHeld5 hg8 (fun j hj => by simp [Value.ownBlock] at hj; omega)) (fun hHeld6 => ?_)
      clear hK K
      (try simp only [Act.put, List.setIfInBounds_toArray, List.set_cons_zero, List.set_cons_succ, List.getElem_toArray, List.getElem_cons_succ, List.getElem_cons_zero])
      refine held_take 14 _ _ rfl (by kernel_rfl) (by kernel_rfl) (by kernel_rfl) (fun _ _ _ h => h) (by rfl) hHeld6 (fun w hSw => by (try dsimp only at hSw); go_simp; try with_reducible rfl) ?_
      (try simp only [Act.put, List.setIfInBounds_toArray, List.set_cons_zero, List.set_cons_succ, List.getElem_toArray, List.getElem_cons_succ, List.getElem_cons_zero])
      refine wpAnyH_done (by kernel_rfl) ?_ _
      try simp only [Nat.zero_add] at hF
      have hbF := (hHeld6).2
      clear hqx hqw hB1 hown6 hown8 hT
      go_wp2_with fail
      go_ret
      exact ⟨_, _, [_], rfl, by rw [HR.out]; exact hF, hbF⟩
  · have hmz : (((t % g : Nat) : Int) == 0) = false := by rw [beq_eq_false_iff_ne]; omega
    have hmz2 : (t % g == 0) = false := by rw [beq_eq_false_iff_ne]; exact hz
    have hmz3 : ((t : Int) % (g : Int) == 0) = false := by rw [hwr]; exact hmz
    clear hwr hmz
    have HR : Hid ((findF [(g : Int)] t).map (D ++ ·) = []) := Lib.hid (by rw [findF_one, Int.toNat_natCast, if_neg hz]; rfl)
    go_enter Tryd.func39, Tryd.ntmps39
    go_wp2_with fail
    rw [← HW1.out]
    go_wp2_with fail
    go_ret
    exact ⟨_, _, [], rfl, by rw [HR.out]; exact rows2_empty hown (by omega), hb1⟩
end Go.Proofs.YthalbmlgkkgheaaDoor
