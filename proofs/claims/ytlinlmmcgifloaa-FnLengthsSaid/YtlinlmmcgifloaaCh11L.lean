/-
  CONTRACTS of the reference's chapters 11, 12. (Own work; merge.py.)
-/
import Derived.Test.YtlinlmmcgifloaaCh11M
import Derived.Test.YtlinlmmcgifloaaCh3L
import Derived.Test.YtlinlmmcgifloaaSgA
import Derived.Test.YtlinlmmcgifloaaSgL
import Derived.Maps.AppendAt
import Derived.WalkMore
import Derived.StillTailTactics

/-
  CONTRACTS of the reference's chapter 11: the search for factorizations. (Own work: mkL40.py.)
-/
namespace Go.Proofs.Ytlinlmmcgifloaa
open Go Go.RowKit

theorem rows2_empty {w : World} {lo q : Nat} (h : w.ownsRow lo 24 1 (.slice (some ⟨q, 0, none⟩) 0 0) 0 []) (hq : q < w.heap.size) : Rows2 w lo w.heap.size (.slice (some ⟨q, 0, none⟩) 0 0) [] (([] : List (List Int)).map fun L => L.map (Value.int .i64)) :=
  ⟨h, rfl, fun i h => absurd h (by simp), fun j hj => by simp [Value.ownBlock] at hj; omega, Nat.le_refl _, fun i j h => absurd h (by simp), fun i h => absurd h (by simp)⟩
theorem keepA {W w' : World} {b o : Nat} {v : Value} (hb : b < W.heap.size) (h : w'.cell? ⟨b, o, none⟩ = some v ∧ Below W.heap.size W w') (x : Obj) : (w'.alloc x).cell? ⟨b, o, none⟩ = some v ∧ Below W.heap.size W (w'.alloc x) :=
  ⟨(World.cell?_alloc_lt w' _ ⟨b, o, none⟩ (Nat.lt_of_lt_of_le hb h.2.size)).trans h.1, h.2.alloc h.2.size x⟩
theorem keepB {W w' w2 : World} {b o : Nat} {v : Value} {row : Option Nat} (hb : b < W.heap.size) (h : w'.cell? ⟨b, o, none⟩ = some v ∧ Below W.heap.size W w') (hg : w'.grownBy w2 row) (hr : ∀ j, row = some j → W.heap.size ≤ j) : w2.cell? ⟨b, o, none⟩ = some v ∧ Below W.heap.size W w2 :=
  ⟨hg.cell h.1 (fun e => by have := hr b e.symm; omega), h.2.grown hg h.2.size hr⟩
theorem addr_add (b o j : Nat) : (⟨b, o, none⟩ : Addr).add j = ⟨b, o + j, none⟩ := by
  unfold Addr.add
  split
  · next h => subst h; rfl
  · rfl
theorem alloc_sz (w : World) (o : Obj) : (w.alloc o).heap.size = w.heap.size + 1 := by simp
def SsPostA (LL : List (List Int)) (w : World) (e : Ending) (w' : World) : Prop :=
  ∃ ad c vs, e = .returned (.slice (some ad) vs.length c) ∧ Rows2 w' w.heap.size w'.heap.size (.slice (some ad) vs.length c) vs (LL.map fun L => L.map (Value.int .i64)) ∧ Below w.heap.size w w'
def OneAt (w : World) (q : Nat) (x : Value) : Prop := q < w.heap.size ∧ w.cell? ⟨q, 0, none⟩ = some x
theorem OneAt.at {w : World} {q : Nat} {x : Value} (h : OneAt w q x) : ∀ j u, [x][j]? = some u → w.cell? ((⟨q, 0, none⟩ : Addr).add j) = some u := by
  intro j u hj
  match j, hj with
  | 0, hj => cases hj; exact h.2
  | j + 1, hj => simp at hj
theorem OneAt.alloc {w : World} {q : Nat} {x : Value} (h : OneAt w q x) (o : Obj) : OneAt (w.alloc o) q x := ⟨Nat.lt_of_lt_of_le h.1 (by simp), (World.cell?_alloc_lt w _ ⟨q, 0, none⟩ h.1).trans h.2⟩
theorem OneAt.grown {w w' : World} {q : Nat} {x : Value} {row : Option Nat} (h : OneAt w q x) (hg : w.grownBy w' row) (hne : row ≠ some q) : OneAt w' q x := ⟨Nat.lt_of_lt_of_le h.1 hg.size, hg.cell h.2 fun e => hne e.symm⟩
theorem newEmpty {W w' : World} (h : Below W.heap.size W w') : (w'.alloc (.cells #[] 3)).ownsRow W.heap.size 3 1 (.slice (some ⟨w'.heap.size, 0, none⟩) 0 0) 0 [] := World.ownsRow_lit w' #[] 0 h.size (by simp) rfl
theorem newOne {base : Nat} {W w' : World} (_ : Below base W w') (x : Value) : OneAt (w'.alloc (.cells #[x] 3)) w'.heap.size x := ⟨by simp, cell_one_new _ _ _ 0 _ rfl⟩
theorem newOneS {base : Nat} {W w' : World} (_ : Below base W w') (x : Value) : OneAt (w'.alloc (.cells #[x] 24)) w'.heap.size x := ⟨by simp, cell_one_new _ _ _ 0 _ rfl⟩
theorem infoSlL2 : (Try.prog.info? 24).map (fun i => (i.zero, i.size, i.bytes)) = some (some (Value.slice none 0 0), 1, 24) := by kernel_rfl
theorem leaf_done {w W1 wc w8 : World} {D : List Int} {q d g6 c6 g8 c8 : Nat} (hown : W1.ownsRow w.heap.size 24 1 (.slice (some ⟨w.heap.size, 0, none⟩) 0 0) 0 []) (hz : W1.heap.size = w.heap.size + 1) (hB : Below W1.heap.size W1 wc) (hD1 : D.length ≤ d) (hD2 : d ≤ D.length)
    (h6 : wc.ownsRow W1.heap.size 3 1 (.slice (some ⟨g6, 0, none⟩) (d + 1) c6) (d + 1) ([] ++ D.map (Value.int .i64) ++ [.int .i64 (q : Int)]))
    (h8 : w8.ownsRow w.heap.size 24 1 (.slice (some ⟨g8, 0, none⟩) (0 + 1) c8) (0 + 1) ([] ++ [.slice (some ⟨g6, 0, none⟩) (d + 1) c6])) (hg : wc.grownBy w8 (Value.slice (some ⟨w.heap.size, 0, none⟩) 0 0).ownBlock) (hat : (Value.slice (some ⟨w.heap.size, 0, none⟩) 0 0).ownBlock = some g8 ∨ g8 = wc.heap.size) :
    Rows2 w8 w.heap.size w8.heap.size (.slice (some ⟨g8, 0, none⟩) (0 + 1) c8) [.slice (some ⟨g6, 0, none⟩) (d + 1) c6] ([D ++ [(q : Int)]].map fun L => L.map (Value.int .i64)) := by
  have hs := hB.size
  have h0 : Rows2 wc w.heap.size W1.heap.size (.slice (some ⟨w.heap.size, 0, none⟩) 0 0) [] [] :=
    ⟨owns_below hown hB, rfl, fun i h => absurd h (by simp), fun j hj => by simp [Value.ownBlock] at hj; omega, hs, fun i j h => absurd h (by simp), fun i h => absurd h (by simp)⟩
  have e : ((D ++ [(q : Int)]).map (Value.int .i64)) = [] ++ D.map (Value.int .i64) ++ [.int .i64 (q : Int)] := by simp
  have hl : ((D ++ [(q : Int)]).map (Value.int .i64)).length = d + 1 := by simp; omega
  have hu : wc.ownsRow W1.heap.size 3 1 (.slice (some ⟨g6, 0, none⟩) (d + 1) c6) ((D ++ [(q : Int)]).map (Value.int .i64)).length ((D ++ [(q : Int)]).map (Value.int .i64)) := by rw [hl, e]; exact h6
  exact h0.snoc h8 hg hu (by omega) fun b hb => by
    have e : b = g8 := by simp [Value.ownBlock] at hb; exact hb.symm
    subst e
    rcases hat with h1 | h1
    · exact .inl h1
    · exact .inr (by omega)
set_option maxRecDepth 100000 in
set_option maxHeartbeats 1600000 in
theorem spec_l11Leaf (D : List Int) (b off cap N d g t bd od cd : Nat) (w : World) (hN1 : d + 1 ≤ N) (hN2 : N ≤ d + 1) (hN : N ≤ 12) (hg1 : 1 ≤ g) (hg2 : g ≤ 60) (ht : t ≤ 100) (hD1 : D.length ≤ d) (hD2 : d ≤ D.length)
    (hbw : b < w.heap.size) (hc : w.cell? ⟨b, off + d, none⟩ = some (.int .i64 (g : Int))) (hdw : bd < w.heap.size) (hD : ∀ j u, (D.map (Value.int .i64))[j]? = some u → w.cell? ⟨bd, od + j, none⟩ = some u) :
    Calls Try.prog 136 #[.slice (some ⟨b, off, none⟩) N cap, .int .i64 (t : Int), .slice (some ⟨bd, od, none⟩) d cd] w (SsPostA ((findF [(g : Int)] t).map (D ++ ·)) w) := by
  have hd1 : ((d : Int) == (N : Int)) = false := by rw [beq_eq_false_iff_ne]; omega
  have hwp : IntKind.i64.wrap ((N : Int) - 1) = (d : Int) := by rw [IntWalk.i64_in _ (by omega)]; omega
  have hdN : (d : Int) < (N : Int) := by omega
  have hd0 : (0 : Int) ≤ (d : Int) := by omega
  have hqz : ((g : Int) == 0) = false := by rw [beq_eq_false_iff_ne]; omega
  have hgz : ¬ g = 0 := by omega
  have hwr : (t : Int) % (g : Int) = ((t % g : Nat) : Int) := (Int.natCast_emod t g).symm
  obtain ⟨W1, hW1⟩ : ∃ W1, W1 = w.alloc (.cells #[] 24) := ⟨_, rfl⟩
  have hb1 : Below w.heap.size w W1 := by rw [hW1]; exact (Below.refl _ _).alloc (Nat.le_refl _) _
  have hW1s : w.heap.size + 1 ≤ W1.heap.size := by rw [hW1]; simp
  have hW1t : W1.heap.size ≤ w.heap.size + 1 := by rw [hW1]; simp
  have hc1 : W1.cell? ⟨b, off + d, none⟩ = some (.int .i64 (g : Int)) := (hb1.cell (p := ⟨b, off + d, none⟩) hbw).trans hc
  have hbW : b < W1.heap.size := by omega
  have hown : W1.ownsRow w.heap.size 24 1 (.slice (some ⟨w.heap.size, 0, none⟩) 0 0) 0 [] := by rw [hW1]; exact World.ownsRow_lit w #[] 0 (Nat.le_refl _) (by simp) rfl
  have HW1 := Lib.hid hW1
  clear hW1
  have hDB : Hid (∀ w', Below W1.heap.size W1 w' → ∀ j u, (D.map (Value.int .i64))[j]? = some u → w'.cell? ((⟨bd, od, none⟩ : Addr).add j) = some u) := Lib.hid fun w' h j u hj => by have := ((hb1.trans (h.mono hb1.size)).cell (p := ⟨bd, od + j, none⟩) hdw).trans (hD j u hj); rw [addr_add]; exact this
  by_cases hz : t % g = 0
  · have hmz : (((t % g : Nat) : Int) == 0) = true := by rw [beq_iff_eq]; omega
    have hqx := wrapk t g (by omega)
    have hqw := wrapq t g (by omega)
    have HR : Hid ((findF [(g : Int)] t).map (D ++ ·) = [D ++ [((t / g : Nat) : Int)]]) := Lib.hid (by rw [findF_one, Int.toNat_natCast, if_pos hz]; rfl)
    generalize hq : t / g = q at *
    clear hq
    go_enter Try.func136, Try.ntmps136
    go_wp2_with fail
    rw [← HW1.out]
    obtain ⟨i0, hi, hz0, hz1, hz2⟩ := info_parts infoIntL
    obtain ⟨i1, hi', hz0', hz1', hz2'⟩ := info_parts infoSlL2
    have hS0 : W1.drew.cell? ⟨b, off + d, none⟩ = some (.int .i64 (g : Int)) ∧ Below w.heap.size w W1.drew := ⟨hc1, hb1.drew⟩
    have hB1 : Below W1.heap.size W1 W1.drew := (Below.refl _ _).drew
    refine wp_region_held_drew (S := fun w' => w'.cell? ⟨b, off + d, none⟩ = some (.int .i64 (g : Int)) ∧ Below w.heap.size w w') (by kernel_rfl) hS0 (fun hHeld => ?_)
    refine held_take 0 _ _ rfl (by kernel_rfl) (by kernel_rfl) (by kernel_rfl) (fun _ _ _ h => h) (by rfl) hHeld (fun w hSw => by (try dsimp only at hSw); go_simp; try with_reducible rfl) ?_
    (try simp only [Act.put, List.setIfInBounds_toArray, List.set_cons_zero, List.set_cons_succ, List.getElem_toArray, List.getElem_cons_zero])
    refine held_take 2 _ _ rfl (by kernel_rfl) (by kernel_rfl) (by kernel_rfl) (fun _ _ _ h => h) (by rfl) hHeld (fun w hSw => by (try dsimp only at hSw); go_simp; try with_reducible rfl) ?_
    (try simp only [Act.put, List.setIfInBounds_toArray, List.set_cons_zero, List.set_cons_succ, List.getElem_toArray, List.getElem_cons_succ, List.getElem_cons_zero])
    refine held_take 4 _ _ rfl (by kernel_rfl) (by kernel_rfl) (by kernel_rfl) (fun _ _ _ h => h) (by rfl) hHeld (fun w hSw => by (try dsimp only at hSw); go_simp; try with_reducible rfl) ?_
    (try simp only [Act.put, List.setIfInBounds_toArray, List.set_cons_zero, List.set_cons_succ, List.getElem_toArray, List.getElem_cons_succ, List.getElem_cons_zero])
    refine held_take 5 _ _ rfl (by kernel_rfl) (by kernel_rfl) (by kernel_rfl) (fun _ _ _ h => h) (by rfl) hHeld (fun w hSw => by (try dsimp only at hSw); go_simp; try with_reducible rfl) ?_
    (try simp only [Act.put, List.setIfInBounds_toArray, List.set_cons_zero, List.set_cons_succ, List.getElem_toArray, List.getElem_cons_succ, List.getElem_cons_zero])
    refine held_take 6 _ _ rfl (by kernel_rfl) (by kernel_rfl) (by kernel_rfl) (fun _ _ _ h => h) (by rfl) hHeld (fun w hSw => by (try dsimp only at hSw); go_simp; try with_reducible rfl) ?_
    (try simp only [Act.put, List.setIfInBounds_toArray, List.set_cons_zero, List.set_cons_succ, List.getElem_toArray, List.getElem_cons_succ, List.getElem_cons_zero])
    refine held_take 7 _ _ rfl (by kernel_rfl) (by kernel_rfl) (by kernel_rfl) (fun _ _ _ h => h) (by rfl) hHeld (fun w hSw => by (try dsimp only at hSw); go_simp; try with_reducible rfl) ?_
    (try simp only [Act.put, List.setIfInBounds_toArray, List.set_cons_zero, List.set_cons_succ, List.getElem_toArray, List.getElem_cons_succ, List.getElem_cons_zero])
    refine held_take 8 _ _ rfl (by kernel_rfl) (by kernel_rfl) (by kernel_rfl) (fun _ _ _ h => h) (by rfl) hHeld (fun w hSw => by (try dsimp only at hSw); go_simp; try with_reducible rfl) ?_
    (try simp only [Act.put, List.setIfInBounds_toArray, List.set_cons_zero, List.set_cons_succ, List.getElem_toArray, List.getElem_cons_succ, List.getElem_cons_zero])
    refine held_take 9 _ _ rfl (by kernel_rfl) (by kernel_rfl) (by kernel_rfl) (fun _ _ _ h => h) (by rfl) hHeld (fun w hSw => by (try dsimp only at hSw); go_simp; try with_reducible rfl) ?_
    (try simp only [Act.put, List.setIfInBounds_toArray, List.set_cons_zero, List.set_cons_succ, List.getElem_toArray, List.getElem_cons_succ, List.getElem_cons_zero])
    refine wpAnyH_ready (rs := [1, 10]) (by kernel_rfl) (by simp) ?_
    refine AllReadyH.cons rfl (fun K hK => ?_) (AllReadyH.cons rfl (fun K hK => ?_) AllReadyH.nil)
    · rw [if_pos (by rfl)]
      have hO := newEmpty hB1
      try simp only [alloc_sz] at hO
      try (replace hT := hT.alloc (.cells #[] 3))
      replace hB1 := hB1.alloc hB1.size (.cells #[] 3)
      go_wp2_with fail
      refine hK.out _ _ (keepA hbw hHeld _) (fun hHeld1 => ?_)
      clear hK K
      (try simp only [Act.put, List.setIfInBounds_toArray, List.set_cons_zero, List.set_cons_succ, List.getElem_toArray, List.getElem_cons_succ, List.getElem_cons_zero])
      refine wpAnyH_ready (rs := [3, 10]) (by kernel_rfl) (by simp) ?_
      refine AllReadyH.cons rfl (fun K hK => ?_) (AllReadyH.cons rfl (fun K hK => ?_) AllReadyH.nil)
      · rw [if_pos (by rfl)]
        refine wp_append_own _ (.tmp 37) (.tmp 38) 24 (by rfl) W1.heap.size 3 i0 (Value.int .i64 0) 1 8 Try.underlying24 hi hz0 hz1 hz2 rfl (by decide) _ 0 [] (by rfl) hO ⟨bd, od, none⟩ d _ (D.map (Value.int .i64)) (by rfl) (by rw [List.length_map]; omega) (hDB.out _ hB1) (fun u hu => by obtain ⟨x, -, rfl⟩ := List.mem_map.1 hu; rfl) (by unfold maxLen; omega) (by omega) hB1.size ?_; intro v5 wa hown5 hg5 _
        have hl5 := hO.lt
        try (replace hT := hT.grown hg5 (by simp [Value.ownBlock]))
        replace hB1 := hB1.grown hg5 hB1.size (fun j hj => (hl5 j hj).1)
        replace hO := hown5
        clear hown5
        refine hK.out _ _ (keepB hbw hHeld1 hg5 (fun j hj => by have := (hl5 j hj).1; omega)) (fun hHeld2 => ?_)
        clear hK K
        (try simp only [Act.put, List.setIfInBounds_toArray, List.set_cons_zero, List.set_cons_succ, List.getElem_toArray, List.getElem_cons_succ, List.getElem_cons_zero])
        refine wpAnyH_ready (rs := [10]) (by kernel_rfl) (by simp) ?_
        refine AllReadyH.cons rfl (fun K hK => ?_) AllReadyH.nil
        rw [if_pos (by rfl)]
        have hT := newOne (base := W1.heap.size) hB1 (.int .i64 (q : Int))
        try simp only [alloc_sz] at hT
        try (replace hO := hO.alloc (.cells #[.int .i64 (q : Int)] 3))
        replace hB1 := hB1.alloc hB1.size (.cells #[.int .i64 (q : Int)] 3)
        go_wp2_with fail
        refine hK.out _ _ (keepA hbw hHeld2 _) (fun hHeld3 => ?_)
        clear hK K
        (try simp only [Act.put, List.setIfInBounds_toArray, List.set_cons_zero, List.set_cons_succ, List.getElem_toArray, List.getElem_cons_succ, List.getElem_cons_zero])
        refine wpAnyH_ready (rs := [11]) (by kernel_rfl) (by simp) ?_
        refine AllReadyH.cons rfl (fun K hK => ?_) AllReadyH.nil
        rw [if_pos (by rfl)]
        refine wp_append_lies _ (.tmp 39) (.tmp 46) 24 (by rfl) W1.heap.size 3 i0 (Value.int .i64 0) 1 8 Try.underlying24 hi hz0 hz1 hz2 rfl (by decide) v5 (0 + d) ([] ++ D.map (Value.int .i64)) (by rfl) hO _ 1 _ [.int .i64 (q : Int)] (by rfl) rfl hT.at (by simp [Value.oneCell']) (by decide) (by unfold maxLen; omega) (by omega) hB1.size _ rfl ?_; intro g6 c6 w6 hown6 hg6 hat6 hlt6
        simp only [Nat.zero_add] at hown6 ⊢
        have hl6 := hO.lt
        replace hB1 := hB1.grown hg6 hB1.size (fun j hj => (hl6 j hj).1)
        clear hT hO
        refine hK.out _ _ (keepB hbw hHeld3 hg6 (fun j hj => by have := (hl6 j hj).1; omega)) (fun hHeld4 => ?_)
        clear hK K
        (try simp only [Act.put, List.setIfInBounds_toArray, List.set_cons_zero, List.set_cons_succ, List.getElem_toArray, List.getElem_cons_succ, List.getElem_cons_zero])
        refine wpAnyH_ready (rs := [12]) (by kernel_rfl) (by simp) ?_
        refine AllReadyH.cons rfl (fun K hK => ?_) AllReadyH.nil
        rw [if_pos (by rfl)]
        have hT := newOneS (base := W1.heap.size) hB1 (.slice (some ⟨g6, 0, none⟩) (d + 1) c6)
        replace hown6 := hown6.alloc (.cells #[.slice (some ⟨g6, 0, none⟩) (d + 1) c6] 24)
        replace hB1 := hB1.alloc hB1.size (.cells #[.slice (some ⟨g6, 0, none⟩) (d + 1) c6] 24)
        go_wp2_with fail
        refine hK.out _ _ (keepA hbw hHeld4 _) (fun hHeld5 => ?_)
        clear hK K
        (try simp only [Act.put, List.setIfInBounds_toArray, List.set_cons_zero, List.set_cons_succ, List.getElem_toArray, List.getElem_cons_succ, List.getElem_cons_zero])
        refine wpAnyH_ready (rs := [13]) (by kernel_rfl) (by simp) ?_
        refine AllReadyH.cons rfl (fun K hK => ?_) AllReadyH.nil
        rw [if_pos (by rfl)]
        refine wp_append_lies _ (.tmp 36) (.tmp 48) 64 (by rfl) w.heap.size 24 i1 (Value.slice none 0 0) 1 24 Try.underlying64 hi' hz0' hz1' hz2' rfl (by decide) (.slice (some ⟨w.heap.size, 0, none⟩) 0 0) 0 [] (by rfl) (owns_below hown hB1) _ 1 _ [.slice (some ⟨g6, 0, none⟩) (d + 1) c6] (by rfl) rfl hT.at (by simp [Value.oneCell']) (by decide) (by unfold maxLen; omega) (by omega) (Nat.le_trans hb1.size hB1.size) _ rfl ?_; intro g8 c8 w8 hown8 hg8 hat8 hlt8
        have hF := leaf_done (D := D) (q := q) hown (by omega) hB1 hD1 hD2 hown6 hown8 hg8 hat8
        refine hK.out _ _ (keepB hbw hHeld5 hg8 (fun j hj => by simp [Value.ownBlock] at hj; omega)) (fun hHeld6 => ?_)
        clear hK K
        (try simp only [Act.put, List.setIfInBounds_toArray, List.set_cons_zero, List.set_cons_succ, List.getElem_toArray, List.getElem_cons_succ, List.getElem_cons_zero])
        refine held_take 14 _ _ rfl (by kernel_rfl) (by kernel_rfl) (by kernel_rfl) (fun _ _ _ h => h) (by rfl) hHeld6 (fun w hSw => by (try dsimp only at hSw); go_simp; try with_reducible rfl) ?_
        (try simp only [Act.put, List.setIfInBounds_toArray, List.set_cons_zero, List.set_cons_succ, List.getElem_toArray, List.getElem_cons_succ, List.getElem_cons_zero])
        refine wpAnyH_done (by kernel_rfl) ?_ _
        try simp only [Nat.zero_add] at hF
        have hbF := (hHeld6).2
        clear hqx hqw hB1 hown6 hown8 hT
        go_wp2_with fail
        go_ret
        exact ⟨_, _, [_], rfl, by rw [HR.out]; exact hF, hbF⟩
      · rw [if_pos (by rfl)]
        have hT := newOne (base := W1.heap.size) hB1 (.int .i64 (q : Int))
        try simp only [alloc_sz] at hT
        try (replace hO := hO.alloc (.cells #[.int .i64 (q : Int)] 3))
        replace hB1 := hB1.alloc hB1.size (.cells #[.int .i64 (q : Int)] 3)
        go_wp2_with fail
        refine hK.out _ _ (keepA hbw hHeld1 _) (fun hHeld2 => ?_)
        clear hK K
        (try simp only [Act.put, List.setIfInBounds_toArray, List.set_cons_zero, List.set_cons_succ, List.getElem_toArray, List.getElem_cons_succ, List.getElem_cons_zero])
        refine wpAnyH_ready (rs := [3]) (by kernel_rfl) (by simp) ?_
        refine AllReadyH.cons rfl (fun K hK => ?_) AllReadyH.nil
        rw [if_pos (by rfl)]
        refine wp_append_own _ (.tmp 37) (.tmp 38) 24 (by rfl) W1.heap.size 3 i0 (Value.int .i64 0) 1 8 Try.underlying24 hi hz0 hz1 hz2 rfl (by decide) _ 0 [] (by rfl) hO ⟨bd, od, none⟩ d _ (D.map (Value.int .i64)) (by rfl) (by rw [List.length_map]; omega) (hDB.out _ hB1) (fun u hu => by obtain ⟨x, -, rfl⟩ := List.mem_map.1 hu; rfl) (by unfold maxLen; omega) (by omega) hB1.size ?_; intro v5 wa hown5 hg5 _
        have hl5 := hO.lt
        try (replace hT := hT.grown hg5 (by simp [Value.ownBlock]))
        replace hB1 := hB1.grown hg5 hB1.size (fun j hj => (hl5 j hj).1)
        replace hO := hown5
        clear hown5
        refine hK.out _ _ (keepB hbw hHeld2 hg5 (fun j hj => by have := (hl5 j hj).1; omega)) (fun hHeld3 => ?_)
        clear hK K
        (try simp only [Act.put, List.setIfInBounds_toArray, List.set_cons_zero, List.set_cons_succ, List.getElem_toArray, List.getElem_cons_succ, List.getElem_cons_zero])
        refine wpAnyH_ready (rs := [11]) (by kernel_rfl) (by simp) ?_
        refine AllReadyH.cons rfl (fun K hK => ?_) AllReadyH.nil
        rw [if_pos (by rfl)]
        refine wp_append_lies _ (.tmp 39) (.tmp 46) 24 (by rfl) W1.heap.size 3 i0 (Value.int .i64 0) 1 8 Try.underlying24 hi hz0 hz1 hz2 rfl (by decide) v5 (0 + d) ([] ++ D.map (Value.int .i64)) (by rfl) hO _ 1 _ [.int .i64 (q : Int)] (by rfl) rfl hT.at (by simp [Value.oneCell']) (by decide) (by unfold maxLen; omega) (by omega) hB1.size _ rfl ?_; intro g6 c6 w6 hown6 hg6 hat6 hlt6
        simp only [Nat.zero_add] at hown6 ⊢
        have hl6 := hO.lt
        replace hB1 := hB1.grown hg6 hB1.size (fun j hj => (hl6 j hj).1)
        clear hT hO
        refine hK.out _ _ (keepB hbw hHeld3 hg6 (fun j hj => by have := (hl6 j hj).1; omega)) (fun hHeld4 => ?_)
        clear hK K
        (try simp only [Act.put, List.setIfInBounds_toArray, List.set_cons_zero, List.set_cons_succ, List.getElem_toArray, List.getElem_cons_succ, List.getElem_cons_zero])
        refine wpAnyH_ready (rs := [12]) (by kernel_rfl) (by simp) ?_
        refine AllReadyH.cons rfl (fun K hK => ?_) AllReadyH.nil
        rw [if_pos (by rfl)]
        have hT := newOneS (base := W1.heap.size) hB1 (.slice (some ⟨g6, 0, none⟩) (d + 1) c6)
        replace hown6 := hown6.alloc (.cells #[.slice (some ⟨g6, 0, none⟩) (d + 1) c6] 24)
        replace hB1 := hB1.alloc hB1.size (.cells #[.slice (some ⟨g6, 0, none⟩) (d + 1) c6] 24)
        go_wp2_with fail
        refine hK.out _ _ (keepA hbw hHeld4 _) (fun hHeld5 => ?_)
        clear hK K
        (try simp only [Act.put, List.setIfInBounds_toArray, List.set_cons_zero, List.set_cons_succ, List.getElem_toArray, List.getElem_cons_succ, List.getElem_cons_zero])
        refine wpAnyH_ready (rs := [13]) (by kernel_rfl) (by simp) ?_
        refine AllReadyH.cons rfl (fun K hK => ?_) AllReadyH.nil
        rw [if_pos (by rfl)]
        refine wp_append_lies _ (.tmp 36) (.tmp 48) 64 (by rfl) w.heap.size 24 i1 (Value.slice none 0 0) 1 24 Try.underlying64 hi' hz0' hz1' hz2' rfl (by decide) (.slice (some ⟨w.heap.size, 0, none⟩) 0 0) 0 [] (by rfl) (owns_below hown hB1) _ 1 _ [.slice (some ⟨g6, 0, none⟩) (d + 1) c6] (by rfl) rfl hT.at (by simp [Value.oneCell']) (by decide) (by unfold maxLen; omega) (by omega) (Nat.le_trans hb1.size hB1.size) _ rfl ?_; intro g8 c8 w8 hown8 hg8 hat8 hlt8
        have hF := leaf_done (D := D) (q := q) hown (by omega) hB1 hD1 hD2 hown6 hown8 hg8 hat8
        refine hK.out _ _ (keepB hbw hHeld5 hg8 (fun j hj => by simp [Value.ownBlock] at hj; omega)) (fun hHeld6 => ?_)
        clear hK K
        (try simp only [Act.put, List.setIfInBounds_toArray, List.set_cons_zero, List.set_cons_succ, List.getElem_toArray, List.getElem_cons_succ, List.getElem_cons_zero])
        refine held_take 14 _ _ rfl (by kernel_rfl) (by kernel_rfl) (by kernel_rfl) (fun _ _ _ h => h) (by rfl) hHeld6 (fun w hSw => by (try dsimp only at hSw); go_simp; try with_reducible rfl) ?_
        (try simp only [Act.put, List.setIfInBounds_toArray, List.set_cons_zero, List.set_cons_succ, List.getElem_toArray, List.getElem_cons_succ, List.getElem_cons_zero])
        refine wpAnyH_done (by kernel_rfl) ?_ _
        try simp only [Nat.zero_add] at hF
        have hbF := (hHeld6).2
        clear hqx hqw hB1 hown6 hown8 hT
        go_wp2_with fail
        go_ret
        exact ⟨_, _, [_], rfl, by rw [HR.out]; exact hF, hbF⟩
    · rw [if_pos (by rfl)]
      have hT := newOne (base := W1.heap.size) hB1 (.int .i64 (q : Int))
      try simp only [alloc_sz] at hT
      try (replace hO := hO.alloc (.cells #[.int .i64 (q : Int)] 3))
      replace hB1 := hB1.alloc hB1.size (.cells #[.int .i64 (q : Int)] 3)
      go_wp2_with fail
      refine hK.out _ _ (keepA hbw hHeld _) (fun hHeld1 => ?_)
      clear hK K
      (try simp only [Act.put, List.setIfInBounds_toArray, List.set_cons_zero, List.set_cons_succ, List.getElem_toArray, List.getElem_cons_succ, List.getElem_cons_zero])
      refine wpAnyH_ready (rs := [1]) (by kernel_rfl) (by simp) ?_
      refine AllReadyH.cons rfl (fun K hK => ?_) AllReadyH.nil
      rw [if_pos (by rfl)]
      have hO := newEmpty hB1
      try simp only [alloc_sz] at hO
      try (replace hT := hT.alloc (.cells #[] 3))
      replace hB1 := hB1.alloc hB1.size (.cells #[] 3)
      go_wp2_with fail
      refine hK.out _ _ (keepA hbw hHeld1 _) (fun hHeld2 => ?_)
      clear hK K
      (try simp only [Act.put, List.setIfInBounds_toArray, List.set_cons_zero, List.set_cons_succ, List.getElem_toArray, List.getElem_cons_succ, List.getElem_cons_zero])
      refine wpAnyH_ready (rs := [3]) (by kernel_rfl) (by simp) ?_
      refine AllReadyH.cons rfl (fun K hK => ?_) AllReadyH.nil
      rw [if_pos (by rfl)]
      refine wp_append_own _ (.tmp 37) (.tmp 38) 24 (by rfl) W1.heap.size 3 i0 (Value.int .i64 0) 1 8 Try.underlying24 hi hz0 hz1 hz2 rfl (by decide) _ 0 [] (by rfl) hO ⟨bd, od, none⟩ d _ (D.map (Value.int .i64)) (by rfl) (by rw [List.length_map]; omega) (hDB.out _ hB1) (fun u hu => by obtain ⟨x, -, rfl⟩ := List.mem_map.1 hu; rfl) (by unfold maxLen; omega) (by omega) hB1.size ?_; intro v5 wa hown5 hg5 _
      have hl5 := hO.lt
      try (replace hT := hT.grown hg5 (by simp [Value.ownBlock]))
      replace hB1 := hB1.grown hg5 hB1.size (fun j hj => (hl5 j hj).1)
      replace hO := hown5
      clear hown5
      refine hK.out _ _ (keepB hbw hHeld2 hg5 (fun j hj => by have := (hl5 j hj).1; omega)) (fun hHeld3 => ?_)
      clear hK K
      (try simp only [Act.put, List.setIfInBounds_toArray, List.set_cons_zero, List.set_cons_succ, List.getElem_toArray, List.getElem_cons_succ, List.getElem_cons_zero])
      refine wpAnyH_ready (rs := [11]) (by kernel_rfl) (by simp) ?_
      refine AllReadyH.cons rfl (fun K hK => ?_) AllReadyH.nil
      rw [if_pos (by rfl)]
      refine wp_append_lies _ (.tmp 39) (.tmp 46) 24 (by rfl) W1.heap.size 3 i0 (Value.int .i64 0) 1 8 Try.underlying24 hi hz0 hz1 hz2 rfl (by decide) v5 (0 + d) ([] ++ D.map (Value.int .i64)) (by rfl) hO _ 1 _ [.int .i64 (q : Int)] (by rfl) rfl hT.at (by simp [Value.oneCell']) (by decide) (by unfold maxLen; omega) (by omega) hB1.size _ rfl ?_; intro g6 c6 w6 hown6 hg6 hat6 hlt6
      simp only [Nat.zero_add] at hown6 ⊢
      have hl6 := hO.lt
      replace hB1 := hB1.grown hg6 hB1.size (fun j hj => (hl6 j hj).1)
      clear hT hO
      refine hK.out _ _ (keepB hbw hHeld3 hg6 (fun j hj => by have := (hl6 j hj).1; omega)) (fun hHeld4 => ?_)
      clear hK K
      (try simp only [Act.put, List.setIfInBounds_toArray, List.set_cons_zero, List.set_cons_succ, List.getElem_toArray, List.getElem_cons_succ, List.getElem_cons_zero])
      refine wpAnyH_ready (rs := [12]) (by kernel_rfl) (by simp) ?_
      refine AllReadyH.cons rfl (fun K hK => ?_) AllReadyH.nil
      rw [if_pos (by rfl)]
      have hT := newOneS (base := W1.heap.size) hB1 (.slice (some ⟨g6, 0, none⟩) (d + 1) c6)
      replace hown6 := hown6.alloc (.cells #[.slice (some ⟨g6, 0, none⟩) (d + 1) c6] 24)
      replace hB1 := hB1.alloc hB1.size (.cells #[.slice (some ⟨g6, 0, none⟩) (d + 1) c6] 24)
      go_wp2_with fail
      refine hK.out _ _ (keepA hbw hHeld4 _) (fun hHeld5 => ?_)
      clear hK K
      (try simp only [Act.put, List.setIfInBounds_toArray, List.set_cons_zero, List.set_cons_succ, List.getElem_toArray, List.getElem_cons_succ, List.getElem_cons_zero])
      refine wpAnyH_ready (rs := [13]) (by kernel_rfl) (by simp) ?_
      refine AllReadyH.cons rfl (fun K hK => ?_) AllReadyH.nil
      rw [if_pos (by rfl)]
      refine wp_append_lies _ (.tmp 36) (.tmp 48) 64 (by rfl) w.heap.size 24 i1 (Value.slice none 0 0) 1 24 Try.underlying64 hi' hz0' hz1' hz2' rfl (by decide) (.slice (some ⟨w.heap.size, 0, none⟩) 0 0) 0 [] (by rfl) (owns_below hown hB1) _ 1 _ [.slice (some ⟨g6, 0, none⟩) (d + 1) c6] (by rfl) rfl hT.at (by simp [Value.oneCell']) (by decide) (by unfold maxLen; omega) (by omega) (Nat.le_trans hb1.size hB1.size) _ rfl ?_; intro g8 c8 w8 hown8 hg8 hat8 hlt8
      have hF := leaf_done (D := D) (q := q) hown (by omega) hB1 hD1 hD2 hown6 hown8 hg8 hat8
      refine hK.out _ _ (keepB hbw hHeld5 hg8 (fun j hj => by simp [Value.ownBlock] at hj; omega)) (fun hHeld6 => ?_)
      clear hK K
      (try simp only [Act.put, List.setIfInBounds_toArray, List.set_cons_zero, List.set_cons_succ, List.getElem_toArray, List.getElem_cons_succ, List.getElem_cons_zero])
      refine held_take 14 _ _ rfl (by kernel_rfl) (by kernel_rfl) (by kernel_rfl) (fun _ _ _ h => h) (by rfl) hHeld6 (fun w hSw => by (try dsimp only at hSw); go_simp; try with_reducible rfl) ?_
      (try simp only [Act.put, List.setIfInBounds_toArray, List.set_cons_zero, List.set_cons_succ, List.getElem_toArray, List.getElem_cons_succ, List.getElem_cons_zero])
      refine wpAnyH_done (by kernel_rfl) ?_ _
      try simp only [Nat.zero_add] at hF
      have hbF := (hHeld6).2
      clear hqx hqw hB1 hown6 hown8 hT
      go_wp2_with fail
      go_ret
      exact ⟨_, _, [_], rfl, by rw [HR.out]; exact hF, hbF⟩
  · have hmz : (((t % g : Nat) : Int) == 0) = false := by rw [beq_eq_false_iff_ne]; omega
    have hmz2 : (t % g == 0) = false := by rw [beq_eq_false_iff_ne]; exact hz
    have hmz3 : ((t : Int) % (g : Int) == 0) = false := by rw [hwr]; exact hmz
    clear hwr hmz
    have HR : Hid ((findF [(g : Int)] t).map (D ++ ·) = []) := Lib.hid (by rw [findF_one, Int.toNat_natCast, if_neg hz]; rfl)
    go_enter Try.func136, Try.ntmps136
    go_wp2_with fail
    rw [← HW1.out]
    go_wp2_with fail
    go_ret
    exact ⟨_, _, [], rfl, by rw [HR.out]; exact rows2_empty hown (by omega), hb1⟩
end Go.Proofs.Ytlinlmmcgifloaa

/-
  CONTRACTS of chapter 11: ValueOf, IsFactorization (spec). (Own work: mkVal.py.)
-/
namespace Go.Proofs.Ytlinlmmcgifloaa
open Go Go.RowKit


end Go.Proofs.Ytlinlmmcgifloaa

/-
  CONTRACTS of the reference's chapter 11: CountFactorizations. (Own work: mkCnt.py.)
-/
namespace Go.Proofs.Ytlinlmmcgifloaa
open Go Go.RowKit

def tabI (f : Nat → Int) (m : Nat) : List Value := (List.range m).map fun i => Value.int .i64 (f i)
theorem tabI_len (f : Nat → Int) (m : Nat) : (tabI f m).length = m := by unfold tabI; simp
theorem tabI_get (f : Nat → Int) {m j : Nat} (h : j < m) : (tabI f m)[j]? = some (.int .i64 (f j)) := by unfold tabI; simp [h]
theorem tabI_congr {f g : Nat → Int} {m : Nat} (h : ∀ i, i < m → f i = g i) : tabI f m = tabI g m := by
  unfold tabI; exact List.map_congr_left fun i hi => by rw [h i (by simpa using hi)]
theorem tabI_set {f g : Nat → Int} {m j : Nat} (u : Int) (hj : g j = u) (h : ∀ i, i ≠ j → f i = g i) : (tabI f m).set j (.int .i64 u) = tabI g m := by
  apply List.ext_getElem?
  intro i
  by_cases hi : i < m
  · rw [tabI_get g hi]
    by_cases e : i = j
    · subst e; rw [List.getElem?_set_self (by rw [tabI_len]; exact hi), hj]
    · rw [List.getElem?_set_ne (Ne.symm e), tabI_get f hi, h i e]
  · rw [List.getElem?_eq_none (by rw [List.length_set, tabI_len]; omega), List.getElem?_eq_none (by rw [tabI_len]; omega)]
theorem mixW_at (g : Nat) (T : Nat → Int) (j : Nat) : mixW g T j j = T j := by unfold mixW; simp
theorem mixW_back {g : Nat} (T : Nat → Int) {j i : Nat} (h : i < j) : mixW g T j i = stepW g T i := by unfold mixW; simp [h]
theorem mixW_far {g : Nat} (T : Nat → Int) {j m : Nat} (h : m ≤ j) : tabI (mixW g T j) m = tabI (stepW g T) m := tabI_congr fun i hi => mixW_back T (by omega)
theorem mixW_set {g : Nat} (T : Nat → Int) {j m : Nat} : (tabI (mixW g T j) m).set j (.int .i64 (stepW g T j)) = tabI (mixW g T (j + 1)) m :=
  tabI_set _ (mixW_back T (Nat.lt_succ_self j)) fun i hi => by
    unfold mixW
    by_cases h : i < j
    · rw [if_pos h, if_pos (by omega)]
    · rw [if_neg h, if_neg (by omega)]
theorem countN_no {G : List Int} {n : Int} (h : isSgB G = false ∨ inB n 0 1000 = false) : countN G n = -1 := by
  unfold countN; rcases h with h | h <;> simp [h]
theorem countN_yes {G : List Int} {m : Nat} (hs : isSgB G = true) (h : inB (m : Int) 0 1000 = true) : countN G (m : Int) = waysT G m := by
  unfold countN; simp [hs, h]
/-- The new table, and what the first store leaves of it. -/
theorem tabI0 {w w1 : World} (M : Nat) (hM0 : 0 < M) (hown : w1.ownsRow w.heap.size 3 1 (.slice (some ⟨w.heap.size, 0, none⟩) M M) M (madeCells (Value.int .i64 0).cells (M * 1)).toList) (hgrow : w.grownBy w1 none) :
    (∃ u, w1.cell? ⟨w.heap.size, 0, none⟩ = some u) ∧ w1.frozen? ⟨w.heap.size, 0, none⟩ = false ∧
    Hid ((w1.setCell ⟨w.heap.size, 0, none⟩ (.int .i64 1)).ownsRow w.heap.size 3 1 (.slice (some ⟨w.heap.size, 0, none⟩) M M) M (tabI (waysT []) M)) ∧
    Hid (Below w.heap.size w (w1.setCell ⟨w.heap.size, 0, none⟩ (.int .i64 1))) := by
  have hbel : Below w.heap.size w w1 := (Below.refl _ w).grown hgrow (Nat.le_refl _) (fun k h => by cases h)
  have hown' : w1.ownsRow w.heap.size 3 1 (.slice (some ⟨w.heap.size, 0, none⟩) M M) M (tabI (fun _ => 0) M) := by
    have e : (madeCells (Value.int .i64 0).cells (M * 1)).toList = List.replicate M (Value.int .i64 0) := by rw [Nat.mul_one]; exact toList_madeCells_one _ _
    have e2 : tabI (fun _ => 0) M = List.replicate M (Value.int .i64 0) := by unfold tabI; exact List.map_const' .. |>.trans (by rw [List.length_range])
    rw [e2, ← e]; exact hown
  have hst := hown'.stored 0 (.int .i64 1)
  rw [tabI_set (g := waysT []) 1 rfl (fun i hi => by unfold waysT; simp [hi])] at hst
  refine ⟨?_, hown'.frozenAt 0, Lib.hid hst.1, Lib.hid (hbel.setCell (p := ⟨w.heap.size, 0, none⟩) (Nat.le_refl _) _)⟩
  rw [hown'.cellAt 0 (by omega)]; exact ⟨_, tabI_get _ (by omega)⟩

end Go.Proofs.Ytlinlmmcgifloaa

/-
  CONTRACTS of chapter 12: GreatestElasticity (spec). (Own work: mkGr.py.)
-/
namespace Go.Proofs.Ytlinlmmcgifloaa
open Go Go.RowKit

set_option maxRecDepth 100000 in
set_option maxHeartbeats 1600000 in
theorem spec_GreatestElasticity (G : List Int) (a : Option Addr) (cap : Nat) (w : World) (hr : SlV w a (G.map (Value.int .i64))) (hb : G.length ≤ 1048576) :
    Calls Try.prog 15 #[.agg #[.slice a G.length cap]] w fun e w' => e = .returned (.tuple #[.int .i64 (greatA G), .int .i64 (greatB G)]) ∧ Below w.heap.size w w' := by
  obtain ⟨W, hW⟩ : ∃ W, W = w.alloc (.cells #[.slice a G.length cap] 26) := ⟨_, rfl⟩
  have hbW : Below w.heap.size w W := by rw [hW]; exact box_below _ _
  have hc0 : W.cell? ⟨w.heap.size, 0, none⟩ = some (.slice a G.length cap) := by rw [hW]; exact box_cell w _
  have hWs : w.heap.size < W.heap.size := by rw [hW]; simp
  have HW := Lib.hid hW
  clear hW
  have c1 := spec_IsSemigroup G a cap W (hr.below hbW) hb
  cases hs : isSgB G
  · have HR := Lib.hid (great_no hs)
    rw [hs] at c1
    clear hs hr
    go_enter Try.func15, Try.ntmps15
    go_wp2_with fail
    rw [← HW.out]
    refine c1.mono ?_
    rintro e w1 ⟨rfl, hb1⟩
    have hb01 := hbW.trans (hb1.mono hbW.size)
    go_wp2_with fail
    go_ret2
    exact ⟨by rw [HR.out.1, HR.out.2]; rfl, hb01⟩
  · rw [hs] at c1
    obtain ⟨p, x, y, hp1, hp2, hgp, hg0, hx0, hx1, hy0, hy1, hRA, hRB⟩ := great_ends hs
    clear hs
    obtain ⟨d, hd, hd1⟩ := gcd_nat x y
    have hdz : d ≠ 0 := fun e => gcd_pos hx0 (by omega) (by omega : y ≤ 1000000) (by rw [hd, e])
    obtain ⟨hlA, hlB⟩ := low_yes hd hdz
    have hn : ∃ n, n = G.length := ⟨_, rfl⟩
    obtain ⟨n, hn⟩ := hn
    rw [← hn] at c1 hc0 hb HW hp1 hp2
    rw [← hn]
    obtain ⟨b, off, rfl, hbs, hcl⟩ := hr.open (by intro h; rw [List.map_eq_nil_iff] at h; subst h; simp at hn; omega)
    have HP : Hid (∀ w', Below w.heap.size w w' → w'.cell? ⟨b, off + p, none⟩ = some (.int .i64 (x : Int)) ∧ w'.cell? ⟨b, off, none⟩ = some (.int .i64 (y : Int))) := Lib.hid fun w' h => ⟨(h.cell (p := ⟨b, off + p, none⟩) hbs).trans (hcl p _ (by rw [List.getElem?_map, hgp]; rfl)), (h.cell (p := ⟨b, off, none⟩) hbs).trans (by have := hcl 0 _ (by rw [List.getElem?_map, hg0]; rfl); rwa [Nat.add_zero] at this)⟩
    have hwp : IntKind.i64.wrap ((n : Int) - 1) = (p : Int) := by rw [IntWalk.i64_in _ (by omega)]; omega
    have hpn : (p : Int) < (n : Int) := by omega
    have hp0 : (0 : Int) ≤ (p : Int) := by omega
    have h0n : (0 : Int) < (n : Int) := by omega
    have h0n2 : 0 < n := by omega
    have hqz : ((d : Int) == 0) = false := by rw [beq_eq_false_iff_ne]; omega
    have hqx := Lib.hid (wrapk x d (by omega))
    have hqy := Lib.hid (wrapk y d (by omega))
    have HR : Hid (greatA G = ((x / d : Nat) : Int) ∧ greatB G = ((y / d : Nat) : Int)) := Lib.hid ⟨hRA.trans hlA, hRB.trans hlB⟩
    have cG := fun w => spec_GcdOf (x : Int) (y : Int) w
    rw [hd] at cG
    clear hn hgp hg0 hRA hRB hlA hlB hd hr hcl
    generalize x / d = qx at *
    generalize y / d = qy at *
    go_enter Try.func15, Try.ntmps15
    go_wp2_with fail
    rw [← HW.out]
    refine c1.mono ?_
    rintro e w1 ⟨rfl, hb1⟩
    have hb01 := hbW.trans (hb1.mono hbW.size)
    have hk1 : w1.cell? ⟨w.heap.size, 0, none⟩ = some (.slice (some ⟨b, off, none⟩) n cap) := by rw [hb1.cell (p := ⟨w.heap.size, 0, none⟩) hWs]; exact hc0
    have hz1 : w.heap.size < w1.heap.size := Nat.lt_of_lt_of_le hWs hb1.size
    clear c1 hb1 hc0 hWs hbW
    obtain ⟨hcx, hcy⟩ := HP.out w1 hb01
    have hl1 : b < w1.heap.size := Nat.lt_of_lt_of_le hbs hb01.size
    clear HP
    go_wp2_with fail
    refine (cG _).mono ?_
    rintro e w2 ⟨rfl, hww⟩
    subst hww
    clear cG
    have hS0 : Below w2.heap.size w2 w2.drew := (Below.refl _ _).drew
    go_wp2_with fail
    refine wp_region_held_drew (S := fun w' => Below w2.heap.size w2 w') (by kernel_rfl) hS0 (fun hHeld => ?_)
    refine held_take 0 _ _ rfl (by kernel_rfl) (by kernel_rfl) (by kernel_rfl) (fun _ _ _ h => h) (by rfl) hHeld (fun w hSw => by (try dsimp only at hSw); go_simp; try with_reducible rfl) ?_
    (try simp only [Act.put, List.setIfInBounds_toArray, List.set_cons_zero, List.set_cons_succ, List.getElem_toArray, List.getElem_cons_zero])
    refine held_take 1 _ _ rfl (by kernel_rfl) (by kernel_rfl) (by kernel_rfl) (fun _ _ _ h => h) (by rfl) hHeld (fun w hSw => by (try dsimp only at hSw); go_simp; try with_reducible rfl) ?_
    (try simp only [Act.put, List.setIfInBounds_toArray, List.set_cons_zero, List.set_cons_succ, List.getElem_toArray, List.getElem_cons_succ, List.getElem_cons_zero])
    refine held_take 2 _ _ rfl (by kernel_rfl) (by kernel_rfl) (by kernel_rfl) (fun _ _ _ h => h) (by rfl) hHeld (fun w hSw => by (try dsimp only at hSw); go_simp; try with_reducible rfl) ?_
    (try simp only [Act.put, List.setIfInBounds_toArray, List.set_cons_zero, List.set_cons_succ, List.getElem_toArray, List.getElem_cons_succ, List.getElem_cons_zero])
    refine held_take 3 _ _ rfl (by kernel_rfl) (by kernel_rfl) (by kernel_rfl) (fun _ _ _ h => h) (by rfl) hHeld (fun w hSw => by (try dsimp only at hSw); go_simp; try with_reducible rfl) ?_
    (try simp only [Act.put, List.setIfInBounds_toArray, List.set_cons_zero, List.set_cons_succ, List.getElem_toArray, List.getElem_cons_succ, List.getElem_cons_zero])
    refine held_take 4 _ _ rfl (by kernel_rfl) (by kernel_rfl) (by kernel_rfl) (fun _ _ _ h => h) (by rfl) hHeld (fun w hSw => by (try dsimp only at hSw); go_simp; try with_reducible rfl) ?_
    (try simp only [Act.put, List.setIfInBounds_toArray, List.set_cons_zero, List.set_cons_succ, List.getElem_toArray, List.getElem_cons_succ, List.getElem_cons_zero])
    refine held_take 5 _ _ rfl (by kernel_rfl) (by kernel_rfl) (by kernel_rfl) (fun _ _ _ h => h) (by rfl) hHeld (fun w hSw => by (try dsimp only at hSw); go_simp; try with_reducible rfl) ?_
    (try simp only [Act.put, List.setIfInBounds_toArray, List.set_cons_zero, List.set_cons_succ, List.getElem_toArray, List.getElem_cons_succ, List.getElem_cons_zero])
    refine held_take 6 _ _ rfl (by kernel_rfl) (by kernel_rfl) (by kernel_rfl) (fun _ _ _ h => h) (by rfl) hHeld (fun w hSw => by (try dsimp only at hSw); go_simp; try with_reducible rfl) ?_
    (try simp only [Act.put, List.setIfInBounds_toArray, List.set_cons_zero, List.set_cons_succ, List.getElem_toArray, List.getElem_cons_succ, List.getElem_cons_zero])
    refine held_take 7 _ _ rfl (by kernel_rfl) (by kernel_rfl) (by kernel_rfl) (fun _ _ _ h => h) (by rfl) hHeld (fun w hSw => by (try dsimp only at hSw); go_simp; try with_reducible rfl) ?_
    (try simp only [Act.put, List.setIfInBounds_toArray, List.set_cons_zero, List.set_cons_succ, List.getElem_toArray, List.getElem_cons_succ, List.getElem_cons_zero])
    refine wpAnyH_done (by kernel_rfl) ?_ _
    have hb3 := hb01.trans ((hHeld).mono hb01.size)
    clear hS0 hHeld
    go_wp2_with fail
    go_ret2
    exact ⟨by rw [HR.out.1, HR.out.2, ← hqx.out, ← hqy.out]; rfl, hb3⟩
end Go.Proofs.Ytlinlmmcgifloaa

/-
  CONTRACTS of the reference's chapter 11: the inner node of the search for factorizations. (Own work: mkL40.py.)
-/
namespace Go.Proofs.Ytlinlmmcgifloaa
open Go Go.RowKit

theorem keepD {W w' w2 : World} {b o : Nat} {v : Value} (hb : b < W.heap.size) (h : w'.cell? ⟨b, o, none⟩ = some v ∧ Below W.heap.size W w') (hg : Below w'.heap.size w' w2) : w2.cell? ⟨b, o, none⟩ = some v ∧ Below W.heap.size W w2 :=
  ⟨(hg.cell (p := ⟨b, o, none⟩) (Nat.lt_of_lt_of_le hb h.2.size)).trans h.1, h.2.trans (hg.mono h.2.size)⟩
theorem node_done {w wr w6 w7 w8 : World} {ad ad7 : Addr} {c c7 : Nat} {v8 : Value} {vs us : List Value} {xss yss : List (List Value)} (hbz : w.heap.size ≤ wr.heap.size) (hR : Rows2 w7 w.heap.size wr.heap.size (.slice (some ad) vs.length c) vs xss)
    (hU : Rows2 w7 w6.heap.size w7.heap.size (.slice (some ad7) us.length c7) us yss) (hz : wr.heap.size ≤ w6.heap.size) (ho : w8.ownsRow w.heap.size 24 1 v8 (vs.length + us.length) (vs ++ us)) (hg : w7.grownBy w8 (Value.slice (some ad) vs.length c).ownBlock)
    (hn : v8 = .slice none 0 0 ↔ (Value.slice (some ad) vs.length c) = .slice none 0 0 ∧ us.length = 0) (hat : v8.ownBlock = (Value.slice (some ad) vs.length c).ownBlock ∨ v8.ownBlock = some w7.heap.size) :
    ∃ ad8 c8, v8 = .slice (some ad8) (vs ++ us).length c8 ∧ Rows2 w8 w.heap.size w8.heap.size v8 (vs ++ us) (xss ++ yss) := by
  have hj := hR.join (hU.wider hz (Nat.le_refl _) (Nat.le_refl _)) hbz ho hg fun b hb => by
    rcases hat with h | h
    · rw [h] at hb; exact .inl hb
    · rw [h] at hb; cases hb; exact .inr (Nat.le_refl _)
  rcases ho.2 with ⟨e, -⟩ | ⟨g, cap, cur, e, -⟩
  · have := (hn.1 e).1; cases this
  · exact ⟨_, _, by rw [e, List.length_append], hj⟩
set_option maxRecDepth 100000 in
set_option maxHeartbeats 1600000 in
theorem spec_l11Node (D : List Int) (b off cap N d g t bd od cd : Nat) (f : Nat → List (List Int)) (w : World) (hN1 : d + 2 ≤ N) (hN : N ≤ 12) (hg1 : 1 ≤ g) (hg2 : g ≤ 60) (ht : t ≤ 100) (hD1 : D.length ≤ d) (hD2 : d ≤ D.length)
    (hbw : b < w.heap.size) (hc : w.cell? ⟨b, off + d, none⟩ = some (.int .i64 (g : Int))) (hdw : bd < w.heap.size) (hD : ∀ j u, (D.map (Value.int .i64))[j]? = some u → w.cell? ⟨bd, od + j, none⟩ = some u)
    (hB : ((downL (t / g)).flatMap fun k => (f (t - k * g)).map fun x => D ++ (k : Int) :: x).length ≤ 40000000000)
    (IH : ∀ (t' : Nat) (D' : List Int) (g' o' c' : Nat) (w' : World), t' ≤ t → D'.length = d + 1 → g' < w'.heap.size → (∀ j u, (D'.map (Value.int .i64))[j]? = some u → w'.cell? ⟨g', o' + j, none⟩ = some u) → Below w.heap.size w w' →
      Calls Try.prog 136 #[.slice (some ⟨b, off, none⟩) N cap, .int .i64 (t' : Int), .slice (some ⟨g', o', none⟩) (d + 1) c'] w' (SsPostA ((f t').map (D' ++ ·)) w')) :
    Calls Try.prog 136 #[.slice (some ⟨b, off, none⟩) N cap, .int .i64 (t : Int), .slice (some ⟨bd, od, none⟩) d cd] w (SsPostA ((downL (t / g)).flatMap fun k => (f (t - k * g)).map fun x => D ++ (k : Int) :: x) w) := by
  have hd1 : ((d : Int) == (N : Int)) = false := by rw [beq_eq_false_iff_ne]; omega
  have hwp : IntKind.i64.wrap ((N : Int) - 1) = ((N : Int) - 1) := IntWalk.i64_in _ (by omega)
  have hd2 : ((d : Int) == (N : Int) - 1) = false := by rw [beq_eq_false_iff_ne]; omega
  have hdN : (d : Int) < (N : Int) := by omega
  have hd0 : (0 : Int) ≤ (d : Int) := by omega
  have hqz : ((g : Int) == 0) = false := by rw [beq_eq_false_iff_ne]; omega
  have hgz : ¬ g = 0 := by omega
  have hqx := wrapk t g (by omega)
  have hqw := wrapq t g (by omega)
  have HPQ := Lib.hid (fun r (h : r ≤ t / g) => Nat.le_trans (Nat.mul_le_mul_right g h) (Nat.div_mul_le_self t g))
  have hq100 : t / g ≤ 100 := Nat.le_trans (Nat.div_le_self t g) ht
  generalize hqe : t / g = q at *
  clear hqe
  obtain ⟨i0, hi, hz0, hz1, hz2⟩ := info_parts infoIntL
  obtain ⟨i1, hi', hz0', hz1', hz2'⟩ := info_parts infoSlL2
  have hown0 : (w.alloc (.cells #[] 24)).ownsRow w.heap.size 24 1 (.slice (some ⟨w.heap.size, 0, none⟩) 0 0) 0 [] := World.ownsRow_lit w #[] 0 (Nat.le_refl _) (by simp) rfl
  have hb0 : Below w.heap.size w (w.alloc (.cells #[] 24)) := (Below.refl _ _).alloc (Nat.le_refl _) _
  have hR0 := rows2_empty hown0 (by simp)
  have hc0 : (w.alloc (.cells #[] 24)).cell? ⟨b, off + d, none⟩ = some (.int .i64 (g : Int)) := (hb0.cell (p := ⟨b, off + d, none⟩) hbw).trans hc
  have HR0 := Lib.hid hR0
  clear hR0 hown0
  go_enter Try.func136, Try.ntmps136
  go_wp2_with fail
  go_loopw [8, 9] (fun v i wr => ∃ (j : Nat) (F : List (List Int)) (ad : Addr) (c : Nat) (vs : List Value), j ≤ q + 1 ∧ i = .int .i64 ((j : Int) - 1) ∧ v = .slice (some ad) vs.length c ∧ Rows2 wr w.heap.size wr.heap.size (.slice (some ad) vs.length c) vs (F.map fun L => L.map (Value.int .i64)) ∧ Hid (F ++ ((List.range j).reverse.flatMap fun k => (f (t - k * g)).map fun x => D ++ (k : Int) :: x) = (downL q).flatMap fun k => (f (t - k * g)).map fun x => D ++ (k : Int) :: x) ∧ Below w.heap.size w wr) (fun _ i _ => (intOf i + 1).toNat)
  case atStart => exact ⟨q + 1, [], _, _, [], Nat.le_refl _, by go_num, rfl, HR0.out, Lib.hid (by unfold downL; rfl), hb0⟩
  case round =>
    clear hb0 hc0 HR0
    obtain ⟨j, F, ad, c, vs, hj, rfl, rfl, hR, HT, hbel⟩ := hrel
    cases j with
    | zero =>
      have e : F = (downL q).flatMap fun k => (f (t - k * g)).map fun x => D ++ (k : Int) :: x := by simpa using HT.out
      go_wp2_with fail
      go_ret
      exact ⟨ad, c, vs, rfl, by rw [← e]; exact hR, hbel⟩
    | succ r =>
      rw [show ((r + 1 : Nat) : Int) - 1 = (r : Int) by omega]
      have hpq : r * g ≤ t := HPQ.out r (Nat.le_of_succ_le_succ hj)
      obtain ⟨p, hp⟩ : ∃ p, p = r * g := ⟨_, rfl⟩
      rw [← hp] at hpq
      obtain ⟨u, hu⟩ : ∃ u, u = t - p := ⟨_, rfl⟩
      have hw1 : IntKind.i64.wrap ((r : Int) * (g : Int)) = (p : Int) := by rw [← Int.natCast_mul, ← hp]; exact IntWalk.i64_in _ (by omega)
      have hw2 : IntKind.i64.wrap ((t : Int) - (p : Int)) = (u : Int) := by rw [IntWalk.i64_in _ (by omega)]; omega
      have HT2 : Hid ((F ++ (f u).map fun x => D ++ (r : Int) :: x) ++ ((List.range r).reverse.flatMap fun k => (f (t - k * g)).map fun x => D ++ (k : Int) :: x) = (downL q).flatMap fun k => (f (t - k * g)).map fun x => D ++ (k : Int) :: x) := Lib.hid (by rw [← HT.out, List.range_succ, List.reverse_append, hu, hp]; simp)
      have HE : Hid ((f u).map ((D ++ [(r : Int)]) ++ ·) = (f u).map fun x => D ++ (r : Int) :: x) := Lib.hid (by simp)
      have hlen : vs.length + (f u).length ≤ 40000000000 := by refine Nat.le_trans ?_ hB; have h1 := hR.len; have h2 := congrArg List.length HT2.out; rw [List.length_map] at h1; simp only [List.length_append, List.length_map] at h2; omega
      have HI : Hid (∀ (D' : List Int) (g' o' c' : Nat) (w' : World), D'.length ≤ d + 1 → d + 1 ≤ D'.length → g' < w'.heap.size → (∀ j u, (D'.map (Value.int .i64))[j]? = some u → w'.cell? ⟨g', o' + j, none⟩ = some u) → Below wr.heap.size wr w' → Calls Try.prog 136 #[.slice (some ⟨b, off, none⟩) N cap, .int .i64 (u : Int), .slice (some ⟨g', o', none⟩) (d + 1) c'] w' (SsPostA ((f u).map (D' ++ ·)) w')) := Lib.hid fun D' g' o' c' w' h1 h2 h3 h4 h5 => IH u D' g' o' c' w' (by omega) (by omega) h3 h4 (hbel.trans (h5.mono hbel.size))
      have hDB : Hid (∀ w', Below wr.heap.size wr w' → ∀ j u, (D.map (Value.int .i64))[j]? = some u → w'.cell? ((⟨bd, od, none⟩ : Addr).add j) = some u) := Lib.hid fun w' h j u hj => by have := ((hbel.trans (h.mono hbel.size)).cell (p := ⟨bd, od + j, none⟩) hdw).trans (hD j u hj); rw [addr_add]; exact this
      have hRb : Hid (∀ w', Below wr.heap.size wr w' → Rows2 w' w.heap.size wr.heap.size (.slice (some ad) vs.length c) vs (F.map fun L => L.map (Value.int .i64))) := Lib.hid fun w' h => hR.below h
      have hbz := hbel.size
      have hS0 : wr.drew.cell? ⟨b, off + d, none⟩ = some (.int .i64 (g : Int)) ∧ Below w.heap.size w wr.drew := ⟨(hbel.cell (p := ⟨b, off + d, none⟩) hbw).trans hc, hbel.drew⟩
      have hB1 : Below wr.heap.size wr wr.drew := (Below.refl _ _).drew
      clear hu hp IH hB hR HT
      go_wp2_with fail
      refine wp_region_held_drew (S := fun w' => w'.cell? ⟨b, off + d, none⟩ = some (.int .i64 (g : Int)) ∧ Below w.heap.size w w') (by kernel_rfl) hS0 (fun hHeld => ?_)
      refine held_take 0 _ _ rfl (by kernel_rfl) (by kernel_rfl) (by kernel_rfl) (fun _ _ _ h => h) (by rfl) hHeld (fun w hSw => by (try dsimp only at hSw); go_simp; try with_reducible rfl) ?_
      (try simp only [Act.put, List.setIfInBounds_toArray, List.set_cons_zero, List.set_cons_succ, List.getElem_toArray, List.getElem_cons_zero])
      refine held_take 1 _ _ rfl (by kernel_rfl) (by kernel_rfl) (by kernel_rfl) (fun _ _ _ h => h) (by rfl) hHeld (fun w hSw => by (try dsimp only at hSw); go_simp; try with_reducible rfl) ?_
      (try simp only [Act.put, List.setIfInBounds_toArray, List.set_cons_zero, List.set_cons_succ, List.getElem_toArray, List.getElem_cons_succ, List.getElem_cons_zero])
      refine held_take 2 _ _ rfl (by kernel_rfl) (by kernel_rfl) (by kernel_rfl) (fun _ _ _ h => h) (by rfl) hHeld (fun w hSw => by (try dsimp only at hSw); go_simp; try with_reducible rfl) ?_
      (try simp only [Act.put, List.setIfInBounds_toArray, List.set_cons_zero, List.set_cons_succ, List.getElem_toArray, List.getElem_cons_succ, List.getElem_cons_zero])
      refine held_take 3 _ _ rfl (by kernel_rfl) (by kernel_rfl) (by kernel_rfl) (fun _ _ _ h => h) (by rfl) hHeld (fun w hSw => by (try dsimp only at hSw); go_simp; try with_reducible rfl) ?_
      (try simp only [Act.put, List.setIfInBounds_toArray, List.set_cons_zero, List.set_cons_succ, List.getElem_toArray, List.getElem_cons_succ, List.getElem_cons_zero])
      refine held_take 4 _ _ rfl (by kernel_rfl) (by kernel_rfl) (by kernel_rfl) (fun _ _ _ h => h) (by rfl) hHeld (fun w hSw => by (try dsimp only at hSw); go_simp; try with_reducible rfl) ?_
      (try simp only [Act.put, List.setIfInBounds_toArray, List.set_cons_zero, List.set_cons_succ, List.getElem_toArray, List.getElem_cons_succ, List.getElem_cons_zero])
      refine held_take 5 _ _ rfl (by kernel_rfl) (by kernel_rfl) (by kernel_rfl) (fun _ _ _ h => h) (by rfl) hHeld (fun w hSw => by (try dsimp only at hSw); go_simp; try with_reducible rfl) ?_
      (try simp only [Act.put, List.setIfInBounds_toArray, List.set_cons_zero, List.set_cons_succ, List.getElem_toArray, List.getElem_cons_succ, List.getElem_cons_zero])
      refine held_take 6 _ _ rfl (by kernel_rfl) (by kernel_rfl) (by kernel_rfl) (fun _ _ _ h => h) (by rfl) hHeld (fun w hSw => by (try dsimp only at hSw); go_simp; try with_reducible rfl) ?_
      (try simp only [Act.put, List.setIfInBounds_toArray, List.set_cons_zero, List.set_cons_succ, List.getElem_toArray, List.getElem_cons_succ, List.getElem_cons_zero])
      refine held_take 7 _ _ rfl (by kernel_rfl) (by kernel_rfl) (by kernel_rfl) (fun _ _ _ h => h) (by rfl) hHeld (fun w hSw => by (try dsimp only at hSw); go_simp; try with_reducible rfl) ?_
      (try simp only [Act.put, List.setIfInBounds_toArray, List.set_cons_zero, List.set_cons_succ, List.getElem_toArray, List.getElem_cons_succ, List.getElem_cons_zero])
      refine held_take 8 _ _ rfl (by kernel_rfl) (by kernel_rfl) (by kernel_rfl) (fun _ _ _ h => h) (by rfl) hHeld (fun w hSw => by (try dsimp only at hSw); go_simp; try with_reducible rfl) ?_
      (try simp only [Act.put, List.setIfInBounds_toArray, List.set_cons_zero, List.set_cons_succ, List.getElem_toArray, List.getElem_cons_succ, List.getElem_cons_zero])
      refine held_take 9 _ _ rfl (by kernel_rfl) (by kernel_rfl) (by kernel_rfl) (fun _ _ _ h => h) (by rfl) hHeld (fun w hSw => by (try dsimp only at hSw); go_simp; try with_reducible rfl) ?_
      (try simp only [Act.put, List.setIfInBounds_toArray, List.set_cons_zero, List.set_cons_succ, List.getElem_toArray, List.getElem_cons_succ, List.getElem_cons_zero])
      refine held_take 11 _ _ rfl (by kernel_rfl) (by kernel_rfl) (by kernel_rfl) (fun _ _ _ h => h) (by rfl) hHeld (fun w hSw => by (try dsimp only at hSw); go_simp; try with_reducible rfl) ?_
      (try simp only [Act.put, List.setIfInBounds_toArray, List.set_cons_zero, List.set_cons_succ, List.getElem_toArray, List.getElem_cons_succ, List.getElem_cons_zero])
      refine held_take 13 _ _ rfl (by kernel_rfl) (by kernel_rfl) (by kernel_rfl) (fun _ _ _ h => h) (by rfl) hHeld (fun w hSw => by (try dsimp only at hSw); go_simp; try with_reducible rfl) ?_
      (try simp only [Act.put, List.setIfInBounds_toArray, List.set_cons_zero, List.set_cons_succ, List.getElem_toArray, List.getElem_cons_succ, List.getElem_cons_zero])
      refine wpAnyH_ready (rs := [10, 14]) (by kernel_rfl) (by simp) ?_
      refine AllReadyH.cons rfl (fun K hK => ?_) (AllReadyH.cons rfl (fun K hK => ?_) AllReadyH.nil)
      · rw [if_pos (by rfl)]
        have hO := newEmpty hB1
        try simp only [alloc_sz] at hO
        try (replace hT := hT.alloc (.cells #[] 3))
        replace hB1 := hB1.alloc hB1.size (.cells #[] 3)
        go_wp2_with fail
        refine hK.out _ _ (keepA hbw hHeld _) (fun hHeld1 => ?_)
        clear hK K
        (try simp only [Act.put, List.setIfInBounds_toArray, List.set_cons_zero, List.set_cons_succ, List.getElem_toArray, List.getElem_cons_succ, List.getElem_cons_zero])
        refine wpAnyH_ready (rs := [12, 14]) (by kernel_rfl) (by simp) ?_
        refine AllReadyH.cons rfl (fun K hK => ?_) (AllReadyH.cons rfl (fun K hK => ?_) AllReadyH.nil)
        · rw [if_pos (by rfl)]
          refine wp_append_own _ (.tmp 71) (.tmp 72) 24 (by rfl) wr.heap.size 3 i0 (Value.int .i64 0) 1 8 Try.underlying24 hi hz0 hz1 hz2 rfl (by decide) _ 0 [] (by rfl) hO ⟨bd, od, none⟩ d _ (D.map (Value.int .i64)) (by rfl) (by rw [List.length_map]; omega) (hDB.out _ hB1) (fun u hu => by obtain ⟨x, -, rfl⟩ := List.mem_map.1 hu; rfl) (by unfold maxLen; omega) (by omega) hB1.size ?_; intro v5 wa hown5 hg5 _
          have hl5 := hO.lt
          try (replace hT := hT.grown hg5 (by simp [Value.ownBlock]))
          replace hB1 := hB1.grown hg5 hB1.size (fun j hj => (hl5 j hj).1)
          replace hO := hown5
          clear hown5
          refine hK.out _ _ (keepB hbw hHeld1 hg5 (fun j hj => by have := (hl5 j hj).1; omega)) (fun hHeld2 => ?_)
          clear hK K
          (try simp only [Act.put, List.setIfInBounds_toArray, List.set_cons_zero, List.set_cons_succ, List.getElem_toArray, List.getElem_cons_succ, List.getElem_cons_zero])
          refine wpAnyH_ready (rs := [14]) (by kernel_rfl) (by simp) ?_
          refine AllReadyH.cons rfl (fun K hK => ?_) AllReadyH.nil
          rw [if_pos (by rfl)]
          have hT := newOne (base := wr.heap.size) hB1 (.int .i64 (r : Int))
          try simp only [alloc_sz] at hT
          try (replace hO := hO.alloc (.cells #[.int .i64 (r : Int)] 3))
          replace hB1 := hB1.alloc hB1.size (.cells #[.int .i64 (r : Int)] 3)
          go_wp2_with fail
          refine hK.out _ _ (keepA hbw hHeld2 _) (fun hHeld3 => ?_)
          clear hK K
          (try simp only [Act.put, List.setIfInBounds_toArray, List.set_cons_zero, List.set_cons_succ, List.getElem_toArray, List.getElem_cons_succ, List.getElem_cons_zero])
          refine wpAnyH_ready (rs := [15]) (by kernel_rfl) (by simp) ?_
          refine AllReadyH.cons rfl (fun K hK => ?_) AllReadyH.nil
          rw [if_pos (by rfl)]
          refine wp_append_lies _ (.tmp 73) (.tmp 75) 24 (by rfl) wr.heap.size 3 i0 (Value.int .i64 0) 1 8 Try.underlying24 hi hz0 hz1 hz2 rfl (by decide) v5 (0 + d) ([] ++ D.map (Value.int .i64)) (by rfl) hO _ 1 _ [.int .i64 (r : Int)] (by rfl) rfl hT.at (by simp [Value.oneCell']) (by decide) (by unfold maxLen; omega) (by omega) hB1.size _ rfl ?_; intro g6 c6 w6 hown6 hg6 hat6 hlt6
          simp only [Nat.zero_add] at hown6 ⊢
          have hl6 := hO.lt
          replace hB1 := hB1.grown hg6 hB1.size (fun j hj => (hl6 j hj).1)
          have hz6 := hB1.size
          have cI := HI.out (D ++ [(r : Int)]) g6 0 c6 w6 (by simp; omega) (by simp; omega) hlt6 (by rw [show (D ++ [(r : Int)]).map (Value.int .i64) = [] ++ D.map (Value.int .i64) ++ [.int .i64 (r : Int)] by simp]; exact row_cells hown6) hB1
          clear hT hO
          refine hK.out _ _ (keepB hbw hHeld3 hg6 (fun j hj => by have := (hl6 j hj).1; omega)) (fun hHeld4 => ?_)
          clear hK K
          (try simp only [Act.put, List.setIfInBounds_toArray, List.set_cons_zero, List.set_cons_succ, List.getElem_toArray, List.getElem_cons_succ, List.getElem_cons_zero])
          refine wpAnyH_ready (rs := [16]) (by kernel_rfl) (by simp) ?_
          refine AllReadyH.cons rfl (fun K hK => ?_) AllReadyH.nil
          rw [if_pos (by rfl)]
          go_wp2_with (first | (go_at_call 136; (with_reducible refine cI.mono ?_); rintro e w7 ⟨ad7, c7, us, rfl, hRu, hb7⟩; rw [HE.out] at hRu; have hus := hRu.len; simp only [List.length_map] at hus; have hus1 := Nat.le_of_eq hus; have hus2 := Nat.le_of_eq hus.symm; clear hus; replace hB1 := hB1.trans (hb7.mono hB1.size)))
          refine hK.out _ _ (keepD hbw hHeld4 hb7) (fun hHeld5 => ?_)
          clear hK K
          (try simp only [Act.put, List.setIfInBounds_toArray, List.set_cons_zero, List.set_cons_succ, List.getElem_toArray, List.getElem_cons_succ, List.getElem_cons_zero])
          refine wpAnyH_ready (rs := [17]) (by kernel_rfl) (by simp) ?_
          refine AllReadyH.cons rfl (fun K hK => ?_) AllReadyH.nil
          rw [if_pos (by rfl)]
          refine wp_append_own_at _ (.tmp 61) (.tmp 77) 64 (by rfl) w.heap.size 24 i1 (Value.slice none 0 0) 1 24 Try.underlying64 hi' hz0' hz1' hz2' rfl (by decide) _ vs.length vs (by rfl) (hRb.out _ hB1).own _ us.length _ us (by rfl) (by omega) (row2_cells hRu) (row2_one hRu) (by unfold maxLen; omega) (by omega) (Nat.le_trans hbel.size hB1.size) ?_; intro v8 w8 hown8 hg8 hnil8 hat8
          refine hK.out _ _ (keepB hbw hHeld5 hg8 (fun j hj => ((hRb.out _ hB1).own.lt j hj).1)) (fun hHeld6 => ?_)
          clear hK K
          (try simp only [Act.put, List.setIfInBounds_toArray, List.set_cons_zero, List.set_cons_succ, List.getElem_toArray, List.getElem_cons_succ, List.getElem_cons_zero])
          refine held_take 18 _ _ rfl (by kernel_rfl) (by kernel_rfl) (by kernel_rfl) (fun _ _ _ h => h) (by rfl) hHeld6 (fun w hSw => by (try dsimp only at hSw); go_simp; try with_reducible rfl) ?_
          (try simp only [Act.put, List.setIfInBounds_toArray, List.set_cons_zero, List.set_cons_succ, List.getElem_toArray, List.getElem_cons_succ, List.getElem_cons_zero])
          refine wpAnyH_done (by kernel_rfl) ?_ _
          have hF := node_done hbz (hRb.out _ hB1) hRu hz6 hown8 hg8 hnil8 hat8
          have hbF := (hHeld6).2
          obtain ⟨ad8, c8, rfl, hR8⟩ := hF
          clear hqx hqw hB1 hown6 hown8 hg8 hnil8 hat8 hRu hus1 hus2 hlen hb7 hg6 hlt6 hat6 hl6 hz6
          go_wp2_with fail
          go_roundw
          case rel => exact ⟨r, F ++ (f u).map fun x => D ++ (r : Int) :: x, ad8, c8, vs ++ us, Nat.le_of_lt hj, by go_num, rfl, by rw [List.map_append]; exact hR8, HT2, hbF⟩
          case measure => (simp [intOf]; try omega)
        · rw [if_pos (by rfl)]
          have hT := newOne (base := wr.heap.size) hB1 (.int .i64 (r : Int))
          try simp only [alloc_sz] at hT
          try (replace hO := hO.alloc (.cells #[.int .i64 (r : Int)] 3))
          replace hB1 := hB1.alloc hB1.size (.cells #[.int .i64 (r : Int)] 3)
          go_wp2_with fail
          refine hK.out _ _ (keepA hbw hHeld1 _) (fun hHeld2 => ?_)
          clear hK K
          (try simp only [Act.put, List.setIfInBounds_toArray, List.set_cons_zero, List.set_cons_succ, List.getElem_toArray, List.getElem_cons_succ, List.getElem_cons_zero])
          refine wpAnyH_ready (rs := [12]) (by kernel_rfl) (by simp) ?_
          refine AllReadyH.cons rfl (fun K hK => ?_) AllReadyH.nil
          rw [if_pos (by rfl)]
          refine wp_append_own _ (.tmp 71) (.tmp 72) 24 (by rfl) wr.heap.size 3 i0 (Value.int .i64 0) 1 8 Try.underlying24 hi hz0 hz1 hz2 rfl (by decide) _ 0 [] (by rfl) hO ⟨bd, od, none⟩ d _ (D.map (Value.int .i64)) (by rfl) (by rw [List.length_map]; omega) (hDB.out _ hB1) (fun u hu => by obtain ⟨x, -, rfl⟩ := List.mem_map.1 hu; rfl) (by unfold maxLen; omega) (by omega) hB1.size ?_; intro v5 wa hown5 hg5 _
          have hl5 := hO.lt
          try (replace hT := hT.grown hg5 (by simp [Value.ownBlock]))
          replace hB1 := hB1.grown hg5 hB1.size (fun j hj => (hl5 j hj).1)
          replace hO := hown5
          clear hown5
          refine hK.out _ _ (keepB hbw hHeld2 hg5 (fun j hj => by have := (hl5 j hj).1; omega)) (fun hHeld3 => ?_)
          clear hK K
          (try simp only [Act.put, List.setIfInBounds_toArray, List.set_cons_zero, List.set_cons_succ, List.getElem_toArray, List.getElem_cons_succ, List.getElem_cons_zero])
          refine wpAnyH_ready (rs := [15]) (by kernel_rfl) (by simp) ?_
          refine AllReadyH.cons rfl (fun K hK => ?_) AllReadyH.nil
          rw [if_pos (by rfl)]
          refine wp_append_lies _ (.tmp 73) (.tmp 75) 24 (by rfl) wr.heap.size 3 i0 (Value.int .i64 0) 1 8 Try.underlying24 hi hz0 hz1 hz2 rfl (by decide) v5 (0 + d) ([] ++ D.map (Value.int .i64)) (by rfl) hO _ 1 _ [.int .i64 (r : Int)] (by rfl) rfl hT.at (by simp [Value.oneCell']) (by decide) (by unfold maxLen; omega) (by omega) hB1.size _ rfl ?_; intro g6 c6 w6 hown6 hg6 hat6 hlt6
          simp only [Nat.zero_add] at hown6 ⊢
          have hl6 := hO.lt
          replace hB1 := hB1.grown hg6 hB1.size (fun j hj => (hl6 j hj).1)
          have hz6 := hB1.size
          have cI := HI.out (D ++ [(r : Int)]) g6 0 c6 w6 (by simp; omega) (by simp; omega) hlt6 (by rw [show (D ++ [(r : Int)]).map (Value.int .i64) = [] ++ D.map (Value.int .i64) ++ [.int .i64 (r : Int)] by simp]; exact row_cells hown6) hB1
          clear hT hO
          refine hK.out _ _ (keepB hbw hHeld3 hg6 (fun j hj => by have := (hl6 j hj).1; omega)) (fun hHeld4 => ?_)
          clear hK K
          (try simp only [Act.put, List.setIfInBounds_toArray, List.set_cons_zero, List.set_cons_succ, List.getElem_toArray, List.getElem_cons_succ, List.getElem_cons_zero])
          refine wpAnyH_ready (rs := [16]) (by kernel_rfl) (by simp) ?_
          refine AllReadyH.cons rfl (fun K hK => ?_) AllReadyH.nil
          rw [if_pos (by rfl)]
          go_wp2_with (first | (go_at_call 136; (with_reducible refine cI.mono ?_); rintro e w7 ⟨ad7, c7, us, rfl, hRu, hb7⟩; rw [HE.out] at hRu; have hus := hRu.len; simp only [List.length_map] at hus; have hus1 := Nat.le_of_eq hus; have hus2 := Nat.le_of_eq hus.symm; clear hus; replace hB1 := hB1.trans (hb7.mono hB1.size)))
          refine hK.out _ _ (keepD hbw hHeld4 hb7) (fun hHeld5 => ?_)
          clear hK K
          (try simp only [Act.put, List.setIfInBounds_toArray, List.set_cons_zero, List.set_cons_succ, List.getElem_toArray, List.getElem_cons_succ, List.getElem_cons_zero])
          refine wpAnyH_ready (rs := [17]) (by kernel_rfl) (by simp) ?_
          refine AllReadyH.cons rfl (fun K hK => ?_) AllReadyH.nil
          rw [if_pos (by rfl)]
          refine wp_append_own_at _ (.tmp 61) (.tmp 77) 64 (by rfl) w.heap.size 24 i1 (Value.slice none 0 0) 1 24 Try.underlying64 hi' hz0' hz1' hz2' rfl (by decide) _ vs.length vs (by rfl) (hRb.out _ hB1).own _ us.length _ us (by rfl) (by omega) (row2_cells hRu) (row2_one hRu) (by unfold maxLen; omega) (by omega) (Nat.le_trans hbel.size hB1.size) ?_; intro v8 w8 hown8 hg8 hnil8 hat8
          refine hK.out _ _ (keepB hbw hHeld5 hg8 (fun j hj => ((hRb.out _ hB1).own.lt j hj).1)) (fun hHeld6 => ?_)
          clear hK K
          (try simp only [Act.put, List.setIfInBounds_toArray, List.set_cons_zero, List.set_cons_succ, List.getElem_toArray, List.getElem_cons_succ, List.getElem_cons_zero])
          refine held_take 18 _ _ rfl (by kernel_rfl) (by kernel_rfl) (by kernel_rfl) (fun _ _ _ h => h) (by rfl) hHeld6 (fun w hSw => by (try dsimp only at hSw); go_simp; try with_reducible rfl) ?_
          (try simp only [Act.put, List.setIfInBounds_toArray, List.set_cons_zero, List.set_cons_succ, List.getElem_toArray, List.getElem_cons_succ, List.getElem_cons_zero])
          refine wpAnyH_done (by kernel_rfl) ?_ _
          have hF := node_done hbz (hRb.out _ hB1) hRu hz6 hown8 hg8 hnil8 hat8
          have hbF := (hHeld6).2
          obtain ⟨ad8, c8, rfl, hR8⟩ := hF
          clear hqx hqw hB1 hown6 hown8 hg8 hnil8 hat8 hRu hus1 hus2 hlen hb7 hg6 hlt6 hat6 hl6 hz6
          go_wp2_with fail
          go_roundw
          case rel => exact ⟨r, F ++ (f u).map fun x => D ++ (r : Int) :: x, ad8, c8, vs ++ us, Nat.le_of_lt hj, by go_num, rfl, by rw [List.map_append]; exact hR8, HT2, hbF⟩
          case measure => (simp [intOf]; try omega)
      · rw [if_pos (by rfl)]
        have hT := newOne (base := wr.heap.size) hB1 (.int .i64 (r : Int))
        try simp only [alloc_sz] at hT
        try (replace hO := hO.alloc (.cells #[.int .i64 (r : Int)] 3))
        replace hB1 := hB1.alloc hB1.size (.cells #[.int .i64 (r : Int)] 3)
        go_wp2_with fail
        refine hK.out _ _ (keepA hbw hHeld _) (fun hHeld1 => ?_)
        clear hK K
        (try simp only [Act.put, List.setIfInBounds_toArray, List.set_cons_zero, List.set_cons_succ, List.getElem_toArray, List.getElem_cons_succ, List.getElem_cons_zero])
        refine wpAnyH_ready (rs := [10]) (by kernel_rfl) (by simp) ?_
        refine AllReadyH.cons rfl (fun K hK => ?_) AllReadyH.nil
        rw [if_pos (by rfl)]
        have hO := newEmpty hB1
        try simp only [alloc_sz] at hO
        try (replace hT := hT.alloc (.cells #[] 3))
        replace hB1 := hB1.alloc hB1.size (.cells #[] 3)
        go_wp2_with fail
        refine hK.out _ _ (keepA hbw hHeld1 _) (fun hHeld2 => ?_)
        clear hK K
        (try simp only [Act.put, List.setIfInBounds_toArray, List.set_cons_zero, List.set_cons_succ, List.getElem_toArray, List.getElem_cons_succ, List.getElem_cons_zero])
        refine wpAnyH_ready (rs := [12]) (by kernel_rfl) (by simp) ?_
        refine AllReadyH.cons rfl (fun K hK => ?_) AllReadyH.nil
        rw [if_pos (by rfl)]
        refine wp_append_own _ (.tmp 71) (.tmp 72) 24 (by rfl) wr.heap.size 3 i0 (Value.int .i64 0) 1 8 Try.underlying24 hi hz0 hz1 hz2 rfl (by decide) _ 0 [] (by rfl) hO ⟨bd, od, none⟩ d _ (D.map (Value.int .i64)) (by rfl) (by rw [List.length_map]; omega) (hDB.out _ hB1) (fun u hu => by obtain ⟨x, -, rfl⟩ := List.mem_map.1 hu; rfl) (by unfold maxLen; omega) (by omega) hB1.size ?_; intro v5 wa hown5 hg5 _
        have hl5 := hO.lt
        try (replace hT := hT.grown hg5 (by simp [Value.ownBlock]))
        replace hB1 := hB1.grown hg5 hB1.size (fun j hj => (hl5 j hj).1)
        replace hO := hown5
        clear hown5
        refine hK.out _ _ (keepB hbw hHeld2 hg5 (fun j hj => by have := (hl5 j hj).1; omega)) (fun hHeld3 => ?_)
        clear hK K
        (try simp only [Act.put, List.setIfInBounds_toArray, List.set_cons_zero, List.set_cons_succ, List.getElem_toArray, List.getElem_cons_succ, List.getElem_cons_zero])
        refine wpAnyH_ready (rs := [15]) (by kernel_rfl) (by simp) ?_
        refine AllReadyH.cons rfl (fun K hK => ?_) AllReadyH.nil
        rw [if_pos (by rfl)]
        refine wp_append_lies _ (.tmp 73) (.tmp 75) 24 (by rfl) wr.heap.size 3 i0 (Value.int .i64 0) 1 8 Try.underlying24 hi hz0 hz1 hz2 rfl (by decide) v5 (0 + d) ([] ++ D.map (Value.int .i64)) (by rfl) hO _ 1 _ [.int .i64 (r : Int)] (by rfl) rfl hT.at (by simp [Value.oneCell']) (by decide) (by unfold maxLen; omega) (by omega) hB1.size _ rfl ?_; intro g6 c6 w6 hown6 hg6 hat6 hlt6
        simp only [Nat.zero_add] at hown6 ⊢
        have hl6 := hO.lt
        replace hB1 := hB1.grown hg6 hB1.size (fun j hj => (hl6 j hj).1)
        have hz6 := hB1.size
        have cI := HI.out (D ++ [(r : Int)]) g6 0 c6 w6 (by simp; omega) (by simp; omega) hlt6 (by rw [show (D ++ [(r : Int)]).map (Value.int .i64) = [] ++ D.map (Value.int .i64) ++ [.int .i64 (r : Int)] by simp]; exact row_cells hown6) hB1
        clear hT hO
        refine hK.out _ _ (keepB hbw hHeld3 hg6 (fun j hj => by have := (hl6 j hj).1; omega)) (fun hHeld4 => ?_)
        clear hK K
        (try simp only [Act.put, List.setIfInBounds_toArray, List.set_cons_zero, List.set_cons_succ, List.getElem_toArray, List.getElem_cons_succ, List.getElem_cons_zero])
        refine wpAnyH_ready (rs := [16]) (by kernel_rfl) (by simp) ?_
        refine AllReadyH.cons rfl (fun K hK => ?_) AllReadyH.nil
        rw [if_pos (by rfl)]
        go_wp2_with (first | (go_at_call 136; (with_reducible refine cI.mono ?_); rintro e w7 ⟨ad7, c7, us, rfl, hRu, hb7⟩; rw [HE.out] at hRu; have hus := hRu.len; simp only [List.length_map] at hus; have hus1 := Nat.le_of_eq hus; have hus2 := Nat.le_of_eq hus.symm; clear hus; replace hB1 := hB1.trans (hb7.mono hB1.size)))
        refine hK.out _ _ (keepD hbw hHeld4 hb7) (fun hHeld5 => ?_)
        clear hK K
        (try simp only [Act.put, List.setIfInBounds_toArray, List.set_cons_zero, List.set_cons_succ, List.getElem_toArray, List.getElem_cons_succ, List.getElem_cons_zero])
        refine wpAnyH_ready (rs := [17]) (by kernel_rfl) (by simp) ?_
        refine AllReadyH.cons rfl (fun K hK => ?_) AllReadyH.nil
        rw [if_pos (by rfl)]
        refine wp_append_own_at _ (.tmp 61) (.tmp 77) 64 (by rfl) w.heap.size 24 i1 (Value.slice none 0 0) 1 24 Try.underlying64 hi' hz0' hz1' hz2' rfl (by decide) _ vs.length vs (by rfl) (hRb.out _ hB1).own _ us.length _ us (by rfl) (by omega) (row2_cells hRu) (row2_one hRu) (by unfold maxLen; omega) (by omega) (Nat.le_trans hbel.size hB1.size) ?_; intro v8 w8 hown8 hg8 hnil8 hat8
        refine hK.out _ _ (keepB hbw hHeld5 hg8 (fun j hj => ((hRb.out _ hB1).own.lt j hj).1)) (fun hHeld6 => ?_)
        clear hK K
        (try simp only [Act.put, List.setIfInBounds_toArray, List.set_cons_zero, List.set_cons_succ, List.getElem_toArray, List.getElem_cons_succ, List.getElem_cons_zero])
        refine held_take 18 _ _ rfl (by kernel_rfl) (by kernel_rfl) (by kernel_rfl) (fun _ _ _ h => h) (by rfl) hHeld6 (fun w hSw => by (try dsimp only at hSw); go_simp; try with_reducible rfl) ?_
        (try simp only [Act.put, List.setIfInBounds_toArray, List.set_cons_zero, List.set_cons_succ, List.getElem_toArray, List.getElem_cons_succ, List.getElem_cons_zero])
        refine wpAnyH_done (by kernel_rfl) ?_ _
        have hF := node_done hbz (hRb.out _ hB1) hRu hz6 hown8 hg8 hnil8 hat8
        have hbF := (hHeld6).2
        obtain ⟨ad8, c8, rfl, hR8⟩ := hF
        clear hqx hqw hB1 hown6 hown8 hg8 hnil8 hat8 hRu hus1 hus2 hlen hb7 hg6 hlt6 hat6 hl6 hz6
        go_wp2_with fail
        go_roundw
        case rel => exact ⟨r, F ++ (f u).map fun x => D ++ (r : Int) :: x, ad8, c8, vs ++ us, Nat.le_of_lt hj, by go_num, rfl, by rw [List.map_append]; exact hR8, HT2, hbF⟩
        case measure => (simp [intOf]; try omega)
end Go.Proofs.Ytlinlmmcgifloaa

/-
  CONTRACTS of the reference's chapter 11: the search as a whole; Factorizations. (Own work.)
-/
namespace Go.Proofs.Ytlinlmmcgifloaa
open Go Go.RowKit

theorem spec_l11Rec (G : List Int) (hs : isSgB G = true) : ∀ (k t : Nat) (D : List Int) (b off cap bd od cd : Nat) (w : World), D.length + (k + 1) = G.length → t ≤ 100 →
    b < w.heap.size → (∀ j u, (G.map (Value.int .i64))[j]? = some u → w.cell? ⟨b, off + j, none⟩ = some u) → bd < w.heap.size → (∀ j u, (D.map (Value.int .i64))[j]? = some u → w.cell? ⟨bd, od + j, none⟩ = some u) →
    Calls Try.prog 136 #[.slice (some ⟨b, off, none⟩) G.length cap, .int .i64 (t : Int), .slice (some ⟨bd, od, none⟩) D.length cd] w (SsPostA ((findF (G.drop D.length) t).map (D ++ ·)) w) := by
  have hS := isSgB_iff.1 hs
  have h12 := hS.len
  intro k
  induction k with
  | zero =>
    intro t D b off cap bd od cd w hl ht hbw hG hdw hD
    have hd : D.length < G.length := by omega
    have hbd := hS.bounds G[D.length] (List.getElem_mem hd)
    have hdrop : G.drop D.length = [((G[D.length].toNat : Nat) : Int)] := by
      rw [List.drop_eq_getElem_cons hd, List.drop_of_length_le (by omega), Int.toNat_of_nonneg (by omega)]
    rw [hdrop]
    refine spec_l11Leaf D b off cap G.length D.length G[D.length].toNat t bd od cd w (by omega) (by omega) h12 (by omega) (by omega) ht (Nat.le_refl _) (Nat.le_refl _) hbw ?_ hdw hD
    refine hG D.length _ ?_
    rw [List.getElem?_map, List.getElem?_eq_getElem hd, Int.toNat_of_nonneg (by omega)]; rfl
  | succ k ih =>
    intro t D b off cap bd od cd w hl ht hbw hG hdw hD
    have hd : D.length < G.length := by omega
    have hbd := hS.bounds G[D.length] (List.getElem_mem hd)
    obtain ⟨g2, r, hr⟩ : ∃ g2 r, G.drop (D.length + 1) = g2 :: r := by
      cases h : G.drop (D.length + 1) with
      | nil => have := congrArg List.length h; simp at this; omega
      | cons a r => exact ⟨a, r, rfl⟩
    have hE : (findF (G.drop D.length) t).map (D ++ ·) = (downL (t / G[D.length].toNat)).flatMap fun k => (findF (G.drop (D.length + 1)) (t - k * G[D.length].toNat)).map fun x => D ++ (k : Int) :: x := by
      rw [List.drop_eq_getElem_cons hd, hr, findF_cons, List.map_flatMap]
      refine congrArg (fun f => List.flatMap f _) (funext fun k => ?_)
      rw [List.map_map]; rfl
    have hB := findF_bound hs D.length t ht
    have hB2 := congrArg List.length hE
    rw [List.length_map] at hB2
    rw [hE]
    refine spec_l11Node D b off cap G.length D.length G[D.length].toNat t bd od cd (fun t' => findF (G.drop (D.length + 1)) t') w (by omega) h12 (by omega) (by omega) ht (Nat.le_refl _) (Nat.le_refl _) hbw ?_ hdw hD (by omega) ?_
    · refine hG D.length _ ?_
      rw [List.getElem?_map, List.getElem?_eq_getElem hd, Int.toNat_of_nonneg (by omega)]; rfl
    · intro t' D' g' o' c' w' ht' hl' hg' hc' hbel
      have h := ih t' D' b off cap g' o' c' w' (by omega) (by omega) (Nat.lt_of_lt_of_le hbw hbel.size) (fun j u hj => (hbel.cell (p := ⟨b, off + j, none⟩) hbw).trans (hG j u hj)) hg' hc'
      rw [hl'] at h
      exact h
theorem SsPostA.ss {LL : List (List Int)} {w : World} {e : Ending} {w' : World} (h : SsPostA LL w e w') : SsPost LL w e w' := by
  obtain ⟨ad, c, vs, rfl, hr, hb⟩ := h
  exact ⟨_, vs, rfl, hr, hb⟩
theorem factL_noL {G : List Int} {n : Int} (h : isSgB G = false ∨ inB n 0 100 = false) : factL G n = [] := by
  unfold factL
  rcases h with h | h <;> simp [h]
theorem factL_yesL {G : List Int} {n : Nat} (hs : isSgB G = true) (h : inB (n : Int) 0 100 = true) : factL G (n : Int) = (findF (G.drop ([] : List Int).length) n).map (([] : List Int) ++ ·) := by
  unfold factL; simp [hs, h]
theorem empty_ss {w w' : World} (hb : Below w.heap.size w w') : Rows2 (w'.alloc (.cells #[] 24)) w.heap.size (w'.alloc (.cells #[] 24)).heap.size (.slice (some ⟨w'.heap.size, 0, none⟩) 0 0) [] (([] : List (List Int)).map fun L => L.map (Value.int .i64)) :=
  rows2_empty (World.ownsRow_lit w' #[] 0 hb.size (by simp) rfl) (by simp)
set_option maxRecDepth 100000 in
set_option maxHeartbeats 1600000 in
theorem spec_Factorizations (G : List Int) (n : Int) (a : Option Addr) (cap : Nat) (w : World) (hr : SlV w a (G.map (Value.int .i64))) (hb : G.length ≤ 1048576) :
    Calls Try.prog 77 #[.agg #[.slice a G.length cap], .int .i64 n] w (SsPost (factL G n) w) := by
  obtain ⟨W, hW⟩ : ∃ W, W = w.alloc (.cells #[.slice a G.length cap] 26) := ⟨_, rfl⟩
  have hbW : Below w.heap.size w W := by rw [hW]; exact box_below _ _
  have hc0 : W.cell? ⟨w.heap.size, 0, none⟩ = some (.slice a G.length cap) := by rw [hW]; exact box_cell w _
  have hWs : w.heap.size < W.heap.size := by rw [hW]; simp
  have HW := Lib.hid hW
  clear hW
  have c1 := spec_IsSemigroup G a cap W (hr.below hbW) hb
  have ci := fun w => l1In_any n 0 100 w
  cases hs : isSgB G
  · have HR := Lib.hid (factL_noL (n := n) (.inl hs))
    rw [hs] at c1
    clear hs hr ci
    go_enter Try.func77, Try.ntmps77
    go_wp2_with fail
    rw [← HW.out]
    refine c1.mono ?_
    rintro e w1 ⟨rfl, hb1⟩
    have hb01 := hbW.trans (hb1.mono hbW.size)
    go_wp2_with fail
    go_ret
    exact ⟨_, [], rfl, by rw [HR.out]; exact empty_ss hb01, hb01.alloc hb01.size _⟩
  · rw [hs] at c1
    have HSG := Lib.hid hs
    clear hs
    cases hx : inB n 0 100
    · have HR := Lib.hid (factL_noL (G := G) (.inr hx))
      rw [hx] at ci
      clear hx hr
      go_enter Try.func77, Try.ntmps77
      go_wp2_with fail
      rw [← HW.out]
      refine c1.mono ?_
      rintro e w1 ⟨rfl, hb1⟩
      have hb01 := hbW.trans (hb1.mono hbW.size)
      go_wp2_with fail
      refine (ci _).mono ?_
      rintro e w2 ⟨rfl, rfl⟩
      go_wp2_with fail
      go_ret
      exact ⟨_, [], rfl, by rw [HR.out]; exact empty_ss hb01, hb01.alloc hb01.size _⟩
    · obtain ⟨hx0, hx1⟩ := inB_true hx
      rw [hx] at ci
      obtain ⟨m, rfl⟩ := Int.eq_ofNat_of_zero_le hx0
      have HR := Lib.hid (factL_yesL HSG.out hx)
      have hm : m ≤ 100 := by omega
      clear hx
      go_enter Try.func77, Try.ntmps77
      go_wp2_with fail
      rw [← HW.out]
      refine c1.mono ?_
      rintro e w1 ⟨rfl, hb1⟩
      have hb01 := hbW.trans (hb1.mono hbW.size)
      have hk1 : w1.cell? ⟨w.heap.size, 0, none⟩ = some (.slice a G.length cap) := (hb1.cell (p := ⟨w.heap.size, 0, none⟩) hWs).trans hc0
      have h0 : 0 < G.length := (okG_iff.1 (isSgB_iff.1 HSG.out).ok).2.1
      obtain ⟨b, off, rfl, hbs, hc⟩ := hr.open (by intro h; rw [List.map_eq_nil_iff] at h; subst h; simp at h0)
      have HC : Hid (∀ w', Below w1.heap.size w1 w' → ∀ j u, (G.map (Value.int .i64))[j]? = some u → w'.cell? ⟨b, off + j, none⟩ = some u) := Lib.hid fun w' h j u hj => ((hb01.trans (h.mono hb01.size)).cell (p := ⟨b, off + j, none⟩) hbs).trans (hc j u hj)
      have hbs1 := Nat.lt_of_lt_of_le hbs hb01.size
      have HB : Hid (Below w1.heap.size w1 (w1.alloc (.cells #[] 3))) := Lib.hid ((Below.refl _ _).alloc (Nat.le_refl _) _)
      have c2 := spec_l11Rec G HSG.out (G.length - 1) m [] b off cap w1.heap.size 0 0 (w1.alloc (.cells #[] 3)) (by simp; omega) hm (Nat.lt_of_lt_of_le hbs1 HB.out.size) (HC.out _ HB.out) (by simp) (fun j u hj => by simp at hj)
      clear c1 hb1 hc0 hWs hr hc hbW
      go_wp2_with fail
      refine (ci _).mono ?_
      rintro e w2 ⟨rfl, hww⟩
      subst hww
      clear ci
      go_wp2_with fail
      refine c2.mono ?_
      rintro e w3 hp
      obtain ⟨v, vs, rfl, hR, hb3⟩ := hp.ss
      clear c2 hp
      have hb13 := HB.out.trans (hb3.mono HB.out.size)
      have hb03 := hb01.trans (hb13.mono hb01.size)
      have HRR := Lib.hid (hR.wider (Nat.le_trans hb01.size HB.out.size) (Nat.le_refl _) (Nat.le_refl _))
      clear hR
      go_wp2_with fail
      go_ret
      exact ⟨_, vs, rfl, by rw [HR.out]; exact HRR.out, hb03⟩
end Go.Proofs.Ytlinlmmcgifloaa

/-
  CONTRACTS of the reference's chapter 12: l12Sum, LengthsOf. (Own work.)
-/
namespace Go.Proofs.Ytlinlmmcgifloaa
open Go Go.RowKit

set_option maxRecDepth 100000 in
set_option maxHeartbeats 800000 in
theorem spec_l12Sum (L : List Int) (a : Option Addr) (cap : Nat) (w : World) (hr : SlV w a (L.map (Value.int .i64))) (hb : L.length ≤ 12) (hL : ∀ x ∈ L, 0 ≤ x ∧ x ≤ 100) :
    Calls Try.prog 78 #[.slice a L.length cap] w fun e w' => e = .returned (.int .i64 L.sum) ∧ w' = w := by
  have HL := Lib.hid hL
  clear hL
  go_enter Try.func78, Try.ntmps78
  go_wp2_with fail
  go_loop [3, 4] (fun s i => ∃ k : Nat, k ≤ L.length ∧ i = .int .i64 (k : Int) ∧ s = .int .i64 (L.take k).sum) (fun _ i => L.length - (intOf i).toNat)
  case atStart => exact ⟨0, Nat.zero_le _, rfl, rfl⟩
  case round =>
    obtain ⟨k, hk, rfl, rfl⟩ := hrel
    by_cases hlt : k < L.length
    · obtain ⟨b, off, rfl, hbs, hc⟩ := hr.open (by intro h; rw [List.map_eq_nil_iff] at h; subst h; simp at hlt)
      have hcell : w.cell? ⟨b, off + k, none⟩ = some (.int .i64 L[k]) := hc k _ (by simp [hlt])
      have HT := Lib.hid (sum_take1 hlt)
      have hs := sum_bnd (L := L.take k) fun x hx => HL.out x (List.mem_of_mem_take hx)
      have hl1 : (L.take k).length ≤ 12 := by rw [List.length_take]; omega
      have hx := HL.out L[k] (List.getElem_mem hlt)
      clear hc hr
      generalize L[k] = x at *
      generalize (L.take k).sum = s at *
      have hw1 : IntKind.i64.wrap (s + x) = s + x := IntWalk.i64_in _ (by omega)
      go_wp2_with fail
      go_round
      case rel => exact ⟨k + 1, by omega, by go_num, by rw [HT.out]⟩
      case measure => simp [intOf]; omega
    · obtain rfl : k = L.length := by omega
      have HT := Lib.hid (List.take_of_length_le (Nat.le_refl L.length))
      clear hr
      go_wp2_with fail
      go_ret
      exact ⟨by rw [← HT.out]; simp, rfl⟩
set_option maxRecDepth 100000 in
set_option maxHeartbeats 1600000 in
theorem spec_LengthsOf (G : List Int) (n : Int) (a : Option Addr) (cap : Nat) (w : World) (hr : SlV w a (G.map (Value.int .i64))) (hb : G.length ≤ 1048576) :
    Calls Try.prog 18 #[.agg #[.slice a G.length cap], .int .i64 n] w (SlPost (lenL G n) w) := by
  obtain ⟨i0, hi, hz0, hz1, hz2⟩ := info_parts infoIntL
  obtain ⟨W, hW⟩ : ∃ W, W = (w.alloc (.cells #[.slice a G.length cap] 26)).alloc (.cells #[] 3) := ⟨_, rfl⟩
  have hbW : Below w.heap.size w W := by rw [hW]; exact (box_below _ _).alloc (by simp) _
  have hsz : (w.alloc (.cells #[.slice a G.length cap] 26)).heap.size = w.heap.size + 1 := by simp
  have hc0 : W.cell? ⟨w.heap.size, 0, none⟩ = some (.slice a G.length cap) := by rw [hW]; exact (World.cell?_alloc_lt _ _ ⟨w.heap.size, 0, none⟩ (by simp)).trans (box_cell w _)
  have hown : W.ownsRow w.heap.size 3 1 (.slice (some ⟨(w.alloc (.cells #[.slice a G.length cap] 26)).heap.size, 0, none⟩) 0 0) 0 [] := by rw [hW]; exact World.ownsRow_lit _ #[] 0 (by simp) (by simp) rfl
  have c1 := spec_Factorizations G n a cap W (hr.below hbW) hb
  have HW := Lib.hid hW
  have HLE := Lib.hid (factL_len G n)
  have HWD := Lib.hid (factL_width G n)
  have HEN := Lib.hid (fun (L : List Int) (h : L ∈ factL G n) => fact_ent h)
  have HF : Hid (lenL G n = sortL ((factL G n).map List.sum)) := Lib.hid rfl
  have hS := hown
  rw [hsz] at hS
  clear hW hsz hown
  go_enter Try.func18, Try.ntmps18
  go_wp2_with fail
  rw [← HW.out]
  refine c1.mono ?_
  intro e w1 hp
  obtain ⟨a1, k1, vs, rfl, -, hR, hb1⟩ := hp.opened
  have hb01 := hbW.trans (hb1.mono hbW.size)
  have hB0 : Beside w W.heap.size w1.heap.size (factL G n) a1 k1 vs w1 (.slice (some ⟨w.heap.size + 1, 0, none⟩) 0 0) [] :=
    ⟨owns_below hS hb1, fun b hb => by have := hS.lt b hb; exact .inl this.2, hR, hb01⟩
  have HB0 := Lib.hid hB0
  clear hB0 hS hR hb1 hb01 hp c1 hc0 hr HW hbW
  generalize factL G n = F at *
  have hle := HLE.out
  go_wp2_with fail
  go_loopw [5, 7] (fun v i wr => ∃ (k : Nat) (M : List Int), k ≤ F.length ∧ i = .int .i64 (k : Int) ∧ Once M ((F.take k).map List.sum) ∧ M.length ≤ k ∧ Beside w W.heap.size w1.heap.size F a1 k1 vs wr v M) (fun _ i _ => F.length - (intOf i).toNat)
  case atStart => exact ⟨0, [], Nat.zero_le _, rfl, Once.nil, Nat.le_refl _, HB0.out⟩
  case round =>
    clear HB0
    obtain ⟨k, M, hk, rfl, hO, hMl, hB⟩ := hrel
    have hsz := hB.bel.size
    by_cases hlt : k < F.length
    · obtain ⟨b, o, u, d, rfl, hcell, hsl⟩ := hB.at hlt
      have cs := spec_l12Sum F[k] u d wr hsl (HWD.out _ (List.getElem_mem hlt)) (HEN.out _ (List.getElem_mem hlt))
      have HT : Hid ((F.take (k + 1)).map List.sum = (F.take k).map List.sum ++ [F[k].sum]) := Lib.hid (by rw [List.take_add_one, List.getElem?_eq_getElem hlt, List.map_append]; rfl)
      obtain ⟨av, cv, rfl, -, -, hsv, -⟩ := SlV.of_owns hB.own
      have hh := spec_HasNumber M F[k].sum av cv wr hsv (by unfold maxLen; omega)
      generalize F[k].sum = x at *
      generalize F[k].length = m at *
      have HB := Lib.hid hB
      have hlt0 := fun j hj => (hB.own.lt j hj).1
      have hown := hB.own
      clear hB hsl hsv
      cases hin : hasB M x
      · have HO2 := Lib.hid (hO.new hin)
        rw [hin] at hh
        clear hin hO
        go_wp2_with fail
        refine cs.mono ?_
        rintro e w' ⟨rfl, rfl⟩
        go_wp2_with fail
        refine hh.mono ?_
        rintro e w' ⟨rfl, hww⟩
        subst hww
        clear cs hh
        go_wp2_with (at_builtin; refine wpList_append_own_at _ rfl _ _ 24 rfl w.heap.size 3 i0 (Value.int .i64 0) 1 8 Try.underlying24 hi hz0 hz1 hz2 rfl (by decide) _ _ _ rfl (hown.alloc _) ⟨_, 0, none⟩ 1 1 [.int .i64 x] rfl rfl (World.news_of_block (cs := #[.int .i64 x]) (t := 3) (fr := (0, 0)) (heap_alloc_new _ _)) (by simp [Value.oneCell']) (by unfold maxLen; omega) (by omega) (by simp; omega) ?_; intro v2 w2 hown2 hgrow2 _ hat2)
        have HB2 := Lib.hid (HB.out.grow _ x hown2 hgrow2 hat2)
        clear hown hown2 hgrow2 hat2 HB hlt0 hcell
        go_wp2_with fail
        go_roundw
        case rel => exact ⟨k + 1, M ++ [x], by omega, by go_num, by rw [HT.out]; exact HO2.out, by simp; omega, HB2.out⟩
        case measure => simp [intOf]; omega
      · have HO2 := Lib.hid (hO.old hin)
        rw [hin] at hh
        clear hin hO hown hlt0
        go_wp2_with fail
        refine cs.mono ?_
        rintro e w' ⟨rfl, rfl⟩
        go_wp2_with fail
        refine hh.mono ?_
        rintro e w' ⟨rfl, hww⟩
        subst hww
        clear cs hh hcell
        go_wp2_with fail
        go_roundw
        case rel => exact ⟨k + 1, M, by omega, by go_num, by rw [HT.out]; exact HO2.out, by omega, HB.out⟩
        case measure => simp [intOf]; omega
    · obtain rfl : k = F.length := by omega
      rw [List.take_of_length_le (Nat.le_refl _)] at hO
      have HE : Hid (lenL G n = sortL M) := Lib.hid (by rw [HF.out, hO.sort])
      have hml : M.length ≤ 1201 := hO.len fun y hy => by
        obtain ⟨L, hL, rfl⟩ := List.mem_map.1 hy
        have h1 := sum_bnd (HEN.out L hL)
        have h2 := HWD.out L hL
        omega
      have hs := sort_of_owns hB.own hB.bel (by omega)
      clear hB hO
      go_wp2_with fail
      refine hs.mono ?_
      rintro e w' ⟨u, rfl, hp⟩
      go_wp2_with fail
      go_ret
      obtain ⟨g, c, e1, ho, hb⟩ := hp
      injection e1 with e1
      subst e1
      exact ⟨_, rfl, by rw [HE.out]; exact ho, hb⟩
end Go.Proofs.Ytlinlmmcgifloaa

/-
  CONTRACTS of chapter 12: DeltaOf (spec). (Own work: mkDel.py.)
-/
namespace Go.Proofs.Ytlinlmmcgifloaa
open Go Go.RowKit

set_option maxRecDepth 100000 in
set_option maxHeartbeats 1600000 in
theorem spec_DeltaOf (G : List Int) (n : Int) (a : Option Addr) (cap : Nat) (w : World) (hr : SlV w a (G.map (Value.int .i64))) (hb : G.length ≤ 1048576) :
    Calls Try.prog 19 #[.agg #[.slice a G.length cap], .int .i64 n] w (SlPost (deltaL G n) w) := by
  obtain ⟨i0, hi, hz0, hz1, hz2⟩ := info_parts infoIntL
  obtain ⟨W, hW⟩ : ∃ W, W = (w.alloc (.cells #[.slice a G.length cap] 26)).alloc (.cells #[] 3) := ⟨_, rfl⟩
  have hbW : Below w.heap.size w W := by rw [hW]; exact (box_below _ _).alloc (by simp) _
  have hS : W.ownsRow w.heap.size 3 1 (.slice (some ⟨(w.alloc (.cells #[.slice a G.length cap] 26)).heap.size, 0, none⟩) 0 0) 0 [] := by rw [hW]; exact World.ownsRow_lit _ #[] 0 (by simp) (by simp) rfl
  rw [show (w.alloc (.cells #[.slice a G.length cap] 26)).heap.size = w.heap.size + 1 by simp] at hS
  have hc0 : W.cell? ⟨w.heap.size, 0, none⟩ = some (.slice a G.length cap) := by rw [hW]; exact (World.cell?_alloc_lt _ _ ⟨w.heap.size, 0, none⟩ (by simp)).trans (box_cell w _)
  have c1 := spec_LengthsOf G n a cap W (hr.below hbW) hb
  have HW := Lib.hid hW
  have HLB := Lib.hid (fun (x : Int) (h : x ∈ lenL G n) => lenL_bnd h)
  have hle := lenL_len G n
  have HF : Hid (deltaL G n = sortL (diffsL (lenL G n))) := Lib.hid rfl
  clear hW
  go_enter Try.func19, Try.ntmps19
  go_wp2_with fail
  rw [← HW.out]
  refine c1.mono ?_
  rintro e w1 ⟨v, rfl, ho, hb1⟩
  obtain ⟨a1, k1, rfl, rX⟩ := row_open ho
  have hb01 := hbW.trans (hb1.mono hbW.size)
  have hB0 : Beside1 w W.heap.size w1.heap.size (lenL G n) a1 k1 w1 (.slice (some ⟨w.heap.size + 1, 0, none⟩) 0 0) [] := ⟨owns_below hS hb1, fun b hb => by have := hS.lt b hb; exact .inl this.2, rX, hb01⟩
  have HB0 := Lib.hid hB0
  clear hB0 hS rX ho hb1 hb01 c1 hc0 hr HW hbW
  generalize lenL G n = L at *
  go_wp2_with fail
  go_loopw [5, 7] (fun v i wr => ∃ k : Nat, (k ≤ L.length ∨ k = 1) ∧ 1 ≤ k ∧ i = .int .i64 (k : Int) ∧ Beside1 w W.heap.size w1.heap.size L a1 k1 wr v (diffsK L (k - 1))) (fun _ i _ => L.length - (intOf i).toNat)
  case atStart => exact ⟨1, .inr rfl, Nat.le_refl _, rfl, HB0.out⟩
  case round =>
    clear HB0
    obtain ⟨k, hk, hk1, rfl, hB⟩ := hrel
    have hsz := hB.bel.size
    by_cases hlt : k < L.length
    · obtain ⟨b, o, rfl, hbs, hne, hc⟩ := hB.at (by intro h; rw [h] at hlt; simp at hlt)
      have hx0 : (0 : Int) ≤ (k : Int) := by omega
      have hx1 : (k : Int) < (L.length : Int) := by omega
      have hx2 : (0 : Int) ≤ (k : Int) - 1 := by omega
      have hx4 : (1 : Int) ≤ (k : Int) := by omega
      have hx3 : (k : Int) - 1 < (L.length : Int) := by omega
      have hw1 : IntKind.i64.wrap ((k : Int) - 1) = (k : Int) - 1 := IntWalk.i64_in _ (by omega)
      have ht1 : ((k : Int) - 1).toNat = k - 1 := by omega
      have hk' : k - 1 < L.length := by omega
      have hS0 : wr.drew.cell? ⟨b, o + k, none⟩ = some (.int .i64 L[k]) ∧ wr.drew.cell? ⟨b, o + (k - 1), none⟩ = some (.int .i64 L[k - 1]) := ⟨hc k hlt, hc (k - 1) hk'⟩
      have hX := HLB.out L[k] (List.getElem_mem hlt)
      have hY := HLB.out L[k - 1] (List.getElem_mem hk')
      have HT : Hid (diffsK L (k + 1 - 1) = diffsK L (k - 1) ++ [L[k] - L[k - 1]]) := Lib.hid (by
        obtain ⟨j, rfl⟩ : ∃ j, k = j + 1 := ⟨k - 1, by omega⟩
        exact diffsK_succ (M := L) (k := j) hlt)
      have hMl : (diffsK L (k - 1)).length ≤ 1200 := by rw [diffsK_len]; omega
      generalize L[k] = x at *
      generalize L[k - 1] = y at *
      generalize diffsK L (k - 1) = M at *
      have hw2 : IntKind.i64.wrap (x - y) = x - y := IntWalk.i64_in _ (by omega)
      have HB := Lib.hid hB.drew
      have hown : wr.drew.ownsRow w.heap.size 3 1 _ M.length (M.map (Value.int .i64)) := hB.own
      have hbsd : b < wr.drew.heap.size := hbs
      clear hB hc
      go_wp2_with fail
      refine wp_region_held_drew (S := fun w' => w'.cell? ⟨b, o + k, none⟩ = some (.int .i64 x) ∧ w'.cell? ⟨b, o + (k - 1), none⟩ = some (.int .i64 y)) (by kernel_rfl) hS0 (fun hHeld => ?_)
      refine held_take 0 _ _ rfl (by kernel_rfl) (by kernel_rfl) (by kernel_rfl) (fun _ _ _ h => h) (by rfl) hHeld (fun w hSw => by (try dsimp only at hSw); go_simp; try with_reducible rfl) ?_
      (try simp only [Act.put, List.setIfInBounds_toArray, List.set_cons_zero, List.set_cons_succ, List.getElem_toArray, List.getElem_cons_zero])
      refine held_take 1 _ _ rfl (by kernel_rfl) (by kernel_rfl) (by kernel_rfl) (fun _ _ _ h => h) (by rfl) hHeld (fun w hSw => by (try dsimp only at hSw); go_simp; try with_reducible rfl) ?_
      (try simp only [Act.put, List.setIfInBounds_toArray, List.set_cons_zero, List.set_cons_succ, List.getElem_toArray, List.getElem_cons_succ, List.getElem_cons_zero])
      refine held_take 2 _ _ rfl (by kernel_rfl) (by kernel_rfl) (by kernel_rfl) (fun _ _ _ h => h) (by rfl) hHeld (fun w hSw => by (try dsimp only at hSw); go_simp; try with_reducible rfl) ?_
      (try simp only [Act.put, List.setIfInBounds_toArray, List.set_cons_zero, List.set_cons_succ, List.getElem_toArray, List.getElem_cons_succ, List.getElem_cons_zero])
      refine held_take 3 _ _ rfl (by kernel_rfl) (by kernel_rfl) (by kernel_rfl) (fun _ _ _ h => h) (by rfl) hHeld (fun w hSw => by (try dsimp only at hSw); go_simp; try with_reducible rfl) ?_
      (try simp only [Act.put, List.setIfInBounds_toArray, List.set_cons_zero, List.set_cons_succ, List.getElem_toArray, List.getElem_cons_succ, List.getElem_cons_zero])
      refine held_take 4 _ _ rfl (by kernel_rfl) (by kernel_rfl) (by kernel_rfl) (fun _ _ _ h => h) (by rfl) hHeld (fun w hSw => by (try dsimp only at hSw); go_simp; try with_reducible rfl) ?_
      (try simp only [Act.put, List.setIfInBounds_toArray, List.set_cons_zero, List.set_cons_succ, List.getElem_toArray, List.getElem_cons_succ, List.getElem_cons_zero])
      refine held_take 5 _ _ rfl (by kernel_rfl) (by kernel_rfl) (by kernel_rfl) (fun _ _ _ h => h) (by rfl) hHeld (fun w hSw => by (try dsimp only at hSw); go_simp; try with_reducible rfl) ?_
      (try simp only [Act.put, List.setIfInBounds_toArray, List.set_cons_zero, List.set_cons_succ, List.getElem_toArray, List.getElem_cons_succ, List.getElem_cons_zero])
      refine held_take 6 _ _ rfl (by kernel_rfl) (by kernel_rfl) (by kernel_rfl) (fun _ _ _ h => h) (by rfl) hHeld (fun w hSw => by (try dsimp only at hSw); go_simp; try with_reducible rfl) ?_
      (try simp only [Act.put, List.setIfInBounds_toArray, List.set_cons_zero, List.set_cons_succ, List.getElem_toArray, List.getElem_cons_succ, List.getElem_cons_zero])
      refine held_take 7 _ _ rfl (by kernel_rfl) (by kernel_rfl) (by kernel_rfl) (fun _ _ _ h => h) (by rfl) hHeld (fun w hSw => by (try dsimp only at hSw); go_simp; try with_reducible rfl) ?_
      (try simp only [Act.put, List.setIfInBounds_toArray, List.set_cons_zero, List.set_cons_succ, List.getElem_toArray, List.getElem_cons_succ, List.getElem_cons_zero])
      refine held_take 8 _ _ rfl (by kernel_rfl) (by kernel_rfl) (by kernel_rfl) (fun _ _ _ h => h) (by rfl) hHeld (fun w hSw => by (try dsimp only at hSw); go_simp; try with_reducible rfl) ?_
      (try simp only [Act.put, List.setIfInBounds_toArray, List.set_cons_zero, List.set_cons_succ, List.getElem_toArray, List.getElem_cons_succ, List.getElem_cons_zero])
      refine held_take 9 _ _ rfl (by kernel_rfl) (by kernel_rfl) (by kernel_rfl) (fun _ _ _ h => h) (by rfl) hHeld (fun w hSw => by (try dsimp only at hSw); go_simp; try with_reducible rfl) ?_
      (try simp only [Act.put, List.setIfInBounds_toArray, List.set_cons_zero, List.set_cons_succ, List.getElem_toArray, List.getElem_cons_succ, List.getElem_cons_zero])
      refine held_take 10 _ _ rfl (by kernel_rfl) (by kernel_rfl) (by kernel_rfl) (fun _ _ _ h => h) (by rfl) hHeld (fun w hSw => by (try dsimp only at hSw); go_simp; try with_reducible rfl) ?_
      (try simp only [Act.put, List.setIfInBounds_toArray, List.set_cons_zero, List.set_cons_succ, List.getElem_toArray, List.getElem_cons_succ, List.getElem_cons_zero])
      refine wpAnyH_ready (rs := [11]) (by kernel_rfl) (by simp) ?_
      refine AllReadyH.cons rfl (fun K hK => ?_) AllReadyH.nil
      rw [if_pos (by rfl)]
      have hownA := hown.alloc (.cells #[.int .i64 (x - y)] 3)
      have hszA : w.heap.size ≤ (wr.drew.alloc (.cells #[.int .i64 (x - y)] 3)).heap.size := Nat.le_trans hsz (by rw [World.size_alloc]; exact Nat.le_succ _)
      go_wp2_with fail
      refine hK.out _ _ (keepC hHeld hbsd _) (fun hHeld1 => ?_)
      clear hK K
      (try simp only [Act.put, List.setIfInBounds_toArray, List.set_cons_zero, List.set_cons_succ, List.getElem_toArray, List.getElem_cons_succ, List.getElem_cons_zero])
      refine wpAnyH_ready (rs := [12]) (by kernel_rfl) (by simp) ?_
      refine AllReadyH.cons rfl (fun K hK => ?_) AllReadyH.nil
      rw [if_pos (by rfl)]
      refine wp_append_own_at _ (.tmp 18) (.tmp 29) 24 (by rfl) w.heap.size 3 i0 (Value.int .i64 0) 1 8 Try.underlying24 hi hz0 hz1 hz2 rfl (by decide) _ M.length (M.map (Value.int .i64)) (by rfl) hownA _ 1 _ [.int .i64 (x - y)] (by rfl) rfl (World.news_of_block (cs := #[.int .i64 (x - y)]) (t := 3) (fr := (0, 0)) (heap_alloc_new _ _)) (by simp [Value.oneCell']) (by unfold maxLen; omega) (by omega) hszA ?_; intro v2 w2 hown2 hg2 _ hat2
      have HB2 := Lib.hid (HB.out.grow _ (x - y) hown2 hg2 hat2)
      refine hK.out _ _ (keepGr hHeld1 hg2 hne) (fun hHeld2 => ?_)
      clear hK K
      (try simp only [Act.put, List.setIfInBounds_toArray, List.set_cons_zero, List.set_cons_succ, List.getElem_toArray, List.getElem_cons_succ, List.getElem_cons_zero])
      refine held_take 13 _ _ rfl (by kernel_rfl) (by kernel_rfl) (by kernel_rfl) (fun _ _ _ h => h) (by rfl) hHeld2 (fun w hSw => by (try dsimp only at hSw); go_simp; try with_reducible rfl) ?_
      (try simp only [Act.put, List.setIfInBounds_toArray, List.set_cons_zero, List.set_cons_succ, List.getElem_toArray, List.getElem_cons_succ, List.getElem_cons_zero])
      refine wpAnyH_done (by kernel_rfl) ?_ _
      clear hown hownA hszA hown2 hg2 hat2 HB hS0 hx2 hx3 hw1 ht1 hw2
      go_wp2_with fail
      go_roundw
      case rel => exact ⟨k + 1, .inl (by omega), by omega, by go_num, by rw [HT.out]; exact HB2.out⟩
      case measure => simp [intOf]; omega
    · have hje : k - 1 = L.length - 1 := by omega
      rw [hje, diffs_all] at hB
      have hml : (diffsL L).length ≤ 1201 := by rw [← diffs_all, diffsK_len]; omega
      have hlti : ¬ (k : Int) < (L.length : Int) := by omega
      clear hje
      have hs := sort_of_owns hB.own hB.bel (by omega)
      clear hB
      go_wp2_with fail
      refine hs.mono ?_
      rintro e w' ⟨u, rfl, hp⟩
      go_wp2_with fail
      go_ret
      obtain ⟨g, c, e1, ho, hb⟩ := hp
      injection e1 with e1
      subst e1
      exact ⟨_, rfl, by rw [HF.out]; exact ho, hb⟩
end Go.Proofs.Ytlinlmmcgifloaa

/-
  CONTRACTS of chapter 12: ElasticityOf (spec). (Own work: mkEla.py.)
-/
namespace Go.Proofs.Ytlinlmmcgifloaa
open Go Go.RowKit

set_option maxRecDepth 100000 in
set_option maxHeartbeats 1600000 in
theorem spec_ElasticityOf (G : List Int) (n : Int) (a : Option Addr) (cap : Nat) (w : World) (hr : SlV w a (G.map (Value.int .i64))) (hb : G.length ≤ 1048576) :
    Calls Try.prog 13 #[.agg #[.slice a G.length cap], .int .i64 n] w fun e w' => e = .returned (.tuple #[.int .i64 (elaA G n), .int .i64 (elaB G n)]) ∧ Below w.heap.size w w' := by
  obtain ⟨W, hW⟩ : ∃ W, W = w.alloc (.cells #[.slice a G.length cap] 26) := ⟨_, rfl⟩
  have hbW : Below w.heap.size w W := by rw [hW]; exact box_below _ _
  have hc0 : W.cell? ⟨w.heap.size, 0, none⟩ = some (.slice a G.length cap) := by rw [hW]; exact box_cell w _
  have c1 := spec_LengthsOf G n a cap W (hr.below hbW) hb
  have HW := Lib.hid hW
  clear hW
  by_cases hz : (lenL G n).length = 0
  · have HR := Lib.hid (ela_none hz)
    have hlz : (((lenL G n).length : Int) == 0) = true := by rw [beq_iff_eq]; omega
    clear hz hr
    go_enter Try.func13, Try.ntmps13
    go_wp2_with fail
    rw [← HW.out]
    refine c1.mono ?_
    rintro e w1 ⟨v, rfl, ho, hb1⟩
    obtain ⟨a1, k1, rfl, rX⟩ := row_open ho
    have hb01 := hbW.trans (hb1.mono hbW.size)
    clear c1 rX ho hb1 hbW hc0
    generalize (lenL G n).length = m at *
    go_wp2_with fail
    go_ret2
    exact ⟨by rw [HR.out.1, HR.out.2]; rfl, hb01⟩
  · by_cases hn : n = 0
    · obtain ⟨p, x, y, hp1, hp2, hgp, hg0, hx1, hy1, hRA, hRB, hpos, hzer⟩ := ela_ends hz
      subst hn
      obtain ⟨rfl, rfl⟩ := hzer rfl
      have HR : Hid (elaA G 0 = 0 ∧ elaB G 0 = 0) := Lib.hid ⟨hRA.trans low_zero.1, hRB.trans low_zero.2⟩
      have hlz : (((lenL G 0).length : Int) == 0) = false := by rw [beq_eq_false_iff_ne]; omega
      clear hz hr hgp hg0 hRA hRB hpos hzer hp1 hp2
      go_enter Try.func13, Try.ntmps13
      go_wp2_with fail
      rw [← HW.out]
      refine c1.mono ?_
      rintro e w1 ⟨v, rfl, ho, hb1⟩
      obtain ⟨a1, k1, rfl, rX⟩ := row_open ho
      have hb01 := hbW.trans (hb1.mono hbW.size)
      clear c1 rX ho hb1 hbW hc0
      generalize (lenL G 0).length = m at *
      go_wp2_with fail
      go_ret2
      exact ⟨by rw [HR.out.1, HR.out.2]; rfl, hb01⟩
    · obtain ⟨p, x, y, hp1, hp2, hgp, hg0, hx1, hy1, hRA, hRB, hpos, hzer⟩ := ela_ends hz
      have hx0 := hpos hn
      have hnz : (n == 0) = false := by rw [beq_eq_false_iff_ne]; exact hn
      obtain ⟨d, hd, hd1⟩ := gcd_nat x y
      have hdz : d ≠ 0 := fun e => gcd_pos hx0 (by omega) (by omega : y ≤ 1000000) (by rw [hd, e])
      obtain ⟨hlA, hlB⟩ := low_yes hd hdz
      have hqz : ((d : Int) == 0) = false := by rw [beq_eq_false_iff_ne]; omega
      have hqx := Lib.hid (wrapk x d (by omega))
      have hqy := Lib.hid (wrapk y d (by omega))
      have HR : Hid (elaA G n = ((x / d : Nat) : Int) ∧ elaB G n = ((y / d : Nat) : Int)) := Lib.hid ⟨hRA.trans hlA, hRB.trans hlB⟩
      have cG := fun w => spec_GcdOf (x : Int) (y : Int) w
      rw [hd] at cG
      clear hRA hRB hlA hlB hd hpos hzer hn
      have HG := Lib.hid (And.intro hgp hg0)
      clear hgp hg0 hr
      have HWP : Hid (IntKind.i64.wrap (((lenL G n).length : Int) - 1) = (p : Int)) := Lib.hid (by rw [IntWalk.i64_in _ (by have := lenL_len G n; omega)]; omega)
      have hpn : (p : Int) < ((lenL G n).length : Int) := by omega
      have hp0 : (0 : Int) ≤ (p : Int) := by omega
      have h0n : (0 : Int) < ((lenL G n).length : Int) := by omega
      have h0n2 : 0 < (lenL G n).length := by omega
      generalize x / d = qx at *
      generalize y / d = qy at *
      go_enter Try.func13, Try.ntmps13
      go_wp2_with fail
      rw [← HW.out]
      refine c1.mono ?_
      rintro e w1 ⟨v, rfl, ho, hb1⟩
      obtain ⟨a1, k1, rfl, rX⟩ := row_open ho
      have hb01 := hbW.trans (hb1.mono hbW.size)
      obtain ⟨b, off, rfl, hbs, hcl⟩ := rX.slv.open (by intro h; rw [List.map_eq_nil_iff] at h; rw [h] at hz; exact hz rfl)
      have hcx : w1.cell? ⟨b, off + p, none⟩ = some (.int .i64 (x : Int)) := hcl p _ (by rw [List.getElem?_map, HG.out.1]; rfl)
      have hcy : w1.cell? ⟨b, off, none⟩ = some (.int .i64 (y : Int)) := by have := hcl 0 _ (by rw [List.getElem?_map, HG.out.2]; rfl); rwa [Nat.add_zero] at this
      have hwp := HWP.out
      clear c1 rX ho hb1 hbW hc0 hcl HG HWP
      have hlz : (((lenL G n).length : Int) == 0) = false := by rw [beq_eq_false_iff_ne]; omega
      clear hz
      generalize (lenL G n).length = m at *
      go_wp2_with fail
      refine (cG _).mono ?_
      rintro e w2 ⟨rfl, hww⟩
      subst hww
      clear cG
      have hS0 : Below w2.heap.size w2 w2.drew := (Below.refl _ _).drew
      go_wp2_with fail
      refine wp_region_held_drew (S := fun w' => Below w2.heap.size w2 w') (by kernel_rfl) hS0 (fun hHeld => ?_)
      refine held_take 0 _ _ rfl (by kernel_rfl) (by kernel_rfl) (by kernel_rfl) (fun _ _ _ h => h) (by rfl) hHeld (fun w hSw => by (try dsimp only at hSw); go_simp; try with_reducible rfl) ?_
      (try simp only [Act.put, List.setIfInBounds_toArray, List.set_cons_zero, List.set_cons_succ, List.getElem_toArray, List.getElem_cons_zero])
      refine held_take 1 _ _ rfl (by kernel_rfl) (by kernel_rfl) (by kernel_rfl) (fun _ _ _ h => h) (by rfl) hHeld (fun w hSw => by (try dsimp only at hSw); go_simp; try with_reducible rfl) ?_
      (try simp only [Act.put, List.setIfInBounds_toArray, List.set_cons_zero, List.set_cons_succ, List.getElem_toArray, List.getElem_cons_succ, List.getElem_cons_zero])
      refine held_take 2 _ _ rfl (by kernel_rfl) (by kernel_rfl) (by kernel_rfl) (fun _ _ _ h => h) (by rfl) hHeld (fun w hSw => by (try dsimp only at hSw); go_simp; try with_reducible rfl) ?_
      (try simp only [Act.put, List.setIfInBounds_toArray, List.set_cons_zero, List.set_cons_succ, List.getElem_toArray, List.getElem_cons_succ, List.getElem_cons_zero])
      refine held_take 3 _ _ rfl (by kernel_rfl) (by kernel_rfl) (by kernel_rfl) (fun _ _ _ h => h) (by rfl) hHeld (fun w hSw => by (try dsimp only at hSw); go_simp; try with_reducible rfl) ?_
      (try simp only [Act.put, List.setIfInBounds_toArray, List.set_cons_zero, List.set_cons_succ, List.getElem_toArray, List.getElem_cons_succ, List.getElem_cons_zero])
      refine held_take 4 _ _ rfl (by kernel_rfl) (by kernel_rfl) (by kernel_rfl) (fun _ _ _ h => h) (by rfl) hHeld (fun w hSw => by (try dsimp only at hSw); go_simp; try with_reducible rfl) ?_
      (try simp only [Act.put, List.setIfInBounds_toArray, List.set_cons_zero, List.set_cons_succ, List.getElem_toArray, List.getElem_cons_succ, List.getElem_cons_zero])
      refine held_take 5 _ _ rfl (by kernel_rfl) (by kernel_rfl) (by kernel_rfl) (fun _ _ _ h => h) (by rfl) hHeld (fun w hSw => by (try dsimp only at hSw); go_simp; try with_reducible rfl) ?_
      (try simp only [Act.put, List.setIfInBounds_toArray, List.set_cons_zero, List.set_cons_succ, List.getElem_toArray, List.getElem_cons_succ, List.getElem_cons_zero])
      refine held_take 6 _ _ rfl (by kernel_rfl) (by kernel_rfl) (by kernel_rfl) (fun _ _ _ h => h) (by rfl) hHeld (fun w hSw => by (try dsimp only at hSw); go_simp; try with_reducible rfl) ?_
      (try simp only [Act.put, List.setIfInBounds_toArray, List.set_cons_zero, List.set_cons_succ, List.getElem_toArray, List.getElem_cons_succ, List.getElem_cons_zero])
      refine held_take 7 _ _ rfl (by kernel_rfl) (by kernel_rfl) (by kernel_rfl) (fun _ _ _ h => h) (by rfl) hHeld (fun w hSw => by (try dsimp only at hSw); go_simp; try with_reducible rfl) ?_
      (try simp only [Act.put, List.setIfInBounds_toArray, List.set_cons_zero, List.set_cons_succ, List.getElem_toArray, List.getElem_cons_succ, List.getElem_cons_zero])
      refine wpAnyH_done (by kernel_rfl) ?_ _
      have hb3 := hb01.trans ((hHeld).mono hb01.size)
      clear hS0 hHeld
      go_wp2_with fail
      go_ret2
      exact ⟨by rw [HR.out.1, HR.out.2, ← hqx.out, ← hqy.out]; rfl, hb3⟩
end Go.Proofs.Ytlinlmmcgifloaa

/-
  CONTRACTS of the reference's chapter 12: DeltaSet. (Own work.)
-/
namespace Go.Proofs.Ytlinlmmcgifloaa
open Go Go.RowKit

set_option maxRecDepth 100000 in
set_option maxHeartbeats 1600000 in
theorem spec_DeltaSet (G : List Int) (x : Int) (a : Option Addr) (cap : Nat) (w : World) (hr : SlV w a (G.map (Value.int .i64))) (hb : G.length ≤ 1048576) :
    Calls Try.prog 21 #[.agg #[.slice a G.length cap], .int .i64 x] w (SlPost (deltasL G x) w) := by
  obtain ⟨i0, hi, hz0, hz1, hz2⟩ := info_parts infoIntL
  obtain ⟨V, hV⟩ : ∃ V, V = w.alloc (.cells #[.slice a G.length cap] 26) := ⟨_, rfl⟩
  obtain ⟨W, hW⟩ : ∃ W, W = V.alloc (.cells #[] 3) := ⟨_, rfl⟩
  have hbV : Below w.heap.size w V := by rw [hV]; exact box_below _ _
  have hbVW : Below V.heap.size V W := by rw [hW]; exact (Below.refl _ _).alloc (Nat.le_refl _) _
  have hbW := hbV.trans (hbVW.mono hbV.size)
  have hcV : V.cell? ⟨w.heap.size, 0, none⟩ = some (.slice a G.length cap) := by rw [hV]; exact box_cell w _
  have hVs : w.heap.size < V.heap.size := by rw [hV]; simp
  have hVs1 : V.heap.size ≤ w.heap.size + 1 := by rw [hV]; simp
  have hVe : V.heap.size = w.heap.size + 1 := by omega
  have hc0 : W.cell? ⟨w.heap.size, 0, none⟩ = some (.slice a G.length cap) := (hbVW.cell (p := ⟨w.heap.size, 0, none⟩) hVs).trans hcV
  have hS : W.ownsRow V.heap.size 3 1 (.slice (some ⟨V.heap.size, 0, none⟩) 0 0) 0 [] := by rw [hW]; exact World.ownsRow_lit _ #[] 0 (Nat.le_refl _) (by simp) rfl
  have HV : Hid (W = (w.alloc (.cells #[.slice a G.length cap] 26)).alloc (.cells #[] 3)) := Lib.hid (by rw [hW, hV])
  have HVE := Lib.hid hVe
  have c1 := spec_IsSemigroup G a cap W (hr.below hbW) hb
  have ci := fun w => l1In_any x 0 100 w
  have HS := Lib.hid hS
  clear hV hW hVe hS
  cases hs : isSgB G
  · have HR := Lib.hid (deltasL_no x hs)
    rw [hs] at c1
    clear hs hr ci hi hz0 hz1 hz2 hcV
    go_enter Try.func21, Try.ntmps21
    go_wp2_with fail
    rw [← HV.out]
    refine c1.mono ?_
    rintro e w1 ⟨rfl, hb1⟩
    have hb01 := hbW.trans (hb1.mono hbW.size)
    go_wp2_with fail
    go_ret
    exact ⟨_, rfl, by rw [HR.out, ← HVE.out]; exact ownsBase (owns_below HS.out hb1) hbV.size, hb01⟩
  · rw [hs] at c1
    clear hs
    cases hx : inB x 0 100
    · have HR := Lib.hid (deltasL_out (G := G) hx)
      rw [hx] at ci
      clear hx hr hi hz0 hz1 hz2 hcV
      go_enter Try.func21, Try.ntmps21
      go_wp2_with fail
      rw [← HV.out]
      refine c1.mono ?_
      rintro e w1 ⟨rfl, hb1⟩
      have hb01 := hbW.trans (hb1.mono hbW.size)
      go_wp2_with fail
      refine (ci _).mono ?_
      rintro e w2 ⟨rfl, rfl⟩
      go_wp2_with fail
      go_ret
      exact ⟨_, rfl, by rw [HR.out, ← HVE.out]; exact ownsBase (owns_below HS.out hb1) hbV.size, hb01⟩
    · obtain ⟨hx0, hx1⟩ := inB_true hx
      obtain ⟨m, rfl⟩ := Int.eq_ofNat_of_zero_le hx0
      have HR := Lib.hid (deltasL_yes (G := G) hx)
      rw [hx] at ci
      clear hx
      go_enter Try.func21, Try.ntmps21
      go_wp2_with fail
      rw [← HV.out]
      refine c1.mono ?_
      rintro e w1 ⟨rfl, hb1⟩
      have hbV1 := hbVW.trans (hb1.mono hbVW.size)
      have HO1 : Hid (w1.ownsRow V.heap.size 3 1 (.slice (some ⟨w.heap.size + 1, 0, none⟩) 0 0) ([] : List Int).length (([] : List Int).map (Value.int .i64))) := Lib.hid (by rw [← HVE.out]; exact owns_below HS.out hb1)
      clear c1 hb1 hc0 hbVW hbW HV HS
      go_wp2_with fail
      refine (ci _).mono ?_
      rintro e w2 ⟨rfl, hww⟩
      subst hww
      clear ci
      go_wp2_with fail
      go_loopw [5, 6] (fun v i wr => ∃ (k : Nat) (M : List Int), k ≤ m + 1 ∧ i = .int .i64 (k : Int) ∧ Once M (upD G k) ∧ wr.ownsRow V.heap.size 3 1 v M.length (M.map (Value.int .i64)) ∧ Below V.heap.size V wr) (fun _ i _ => m + 1 - (intOf i).toNat)
      case atStart => exact ⟨0, [], Nat.zero_le _, rfl, Once.nil, HO1.out, hbV1⟩
      case round =>
        clear HO1 hbV1
        obtain ⟨k, M, hk, rfl, hO, hown, hbel⟩ := hrel
        have hsz := hbel.size
        by_cases hlt : k < m + 1
        · have hk0 : wr.cell? ⟨w.heap.size, 0, none⟩ = some (.slice a G.length cap) := (hbel.cell (p := ⟨w.heap.size, 0, none⟩) hVs).trans hcV
          have c1 := spec_DeltaOf G (k : Int) a cap wr (hr.below (hbV.trans (hbel.mono hbV.size))) hb
          have HU := Lib.hid (upD_succ G k)
          have hlti : (k : Int) ≤ (m : Int) := by omega
          have hdl := deltaL_len G (k : Int)
          have HDB := Lib.hid (fun (x : Int) (h : x ∈ deltaL G (k : Int)) => deltaL_bnd h)
          have HQB := Lib.hid (fun (x : Int) (h : x ∈ upD G k) => upD_bnd h)
          generalize upD G k = Q at *
          have HB0 := Lib.hid hbel
          have HW0 := Lib.hid hown
          clear hown hbel
          go_wp2_with fail
          refine c1.mono ?_
          rintro e w1 ⟨u, rfl, ho, hb1⟩
          obtain ⟨a1, k1, rfl, rX⟩ := row_open ho
          generalize deltaL G (k : Int) = D at *
          have hB0 : Beside1 V wr.heap.size w1.heap.size D a1 k1 w1 _ M := ⟨owns_below HW0.out hb1, fun b hb => .inl (HW0.out.lt b hb).2, rX, HB0.out.trans (hb1.mono hsz)⟩
          have HBB := Lib.hid hB0
          clear c1 ho rX hk0 hB0 hb1 HW0 HB0
          have HOO := Lib.hid hO
          clear hO
          go_wp2_with fail
          go_loopw [5, 8] (fun v i w3 => ∃ (j : Nat) (M : List Int), j ≤ D.length ∧ i = .int .i64 (j : Int) ∧ Once M (Q ++ D.take j) ∧ Beside1 V wr.heap.size w1.heap.size D a1 k1 w3 v M) (fun _ i _ => D.length - (intOf i).toNat)
          case atStart => exact ⟨0, M, Nat.zero_le _, rfl, by simpa using HOO.out, HBB.out⟩
          case round =>
            clear HOO HBB
            rename World => w3
            obtain ⟨j, M, hj, rfl, hO, hB⟩ := hrel
            have hsz3 := hB.bel.size
            by_cases hjl : j < D.length
            · obtain ⟨b, o, rfl, hbs, hne, hc⟩ := hB.at (by intro h; rw [h] at hjl; simp at hjl)
              have hcell : w3.cell? ⟨b, o + j, none⟩ = some (.int .i64 D[j]) := hc j hjl
              have HT : Hid (Q ++ D.take (j + 1) = (Q ++ D.take j) ++ [D[j]]) := Lib.hid (by rw [List.take_add_one, List.getElem?_eq_getElem hjl, ← List.append_assoc]; rfl)
              have hMl : M.length ≤ 1201 := hO.len fun y hy => by
                rcases List.mem_append.1 hy with h | h
                · have := HQB.out y h; omega
                · have := HDB.out y (List.mem_of_mem_take h); omega
              obtain ⟨av, cv, rfl, -, -, hsv, -⟩ := SlV.of_owns hB.own
              have hh := spec_HasNumber M D[j] av cv w3 hsv (by unfold maxLen; omega)
              have HB := Lib.hid hB
              have hown := hB.own
              clear hB hsv hc hne
              generalize D[j] = x at *
              cases hin : hasB M x
              · have HO2 := Lib.hid (hO.new hin)
                rw [hin] at hh
                clear hin hO
                go_wp2_with fail
                refine hh.mono ?_
                rintro e w' ⟨rfl, hww⟩
                subst hww
                clear hh
                go_wp2_with (at_builtin; refine wpList_append_own_at _ rfl _ _ 24 rfl V.heap.size 3 i0 (Value.int .i64 0) 1 8 Try.underlying24 hi hz0 hz1 hz2 rfl (by decide) _ _ _ rfl (hown.alloc _) ⟨_, 0, none⟩ 1 1 [.int .i64 x] rfl rfl (World.news_of_block (cs := #[.int .i64 x]) (t := 3) (fr := (0, 0)) (heap_alloc_new _ _)) (by simp [Value.oneCell']) (by unfold maxLen; omega) (by omega) (by simp; omega) ?_; intro v2 w2 hown2 hgrow2 _ hat2)
                have HB2 := Lib.hid (HB.out.grow _ x hown2 hgrow2 hat2)
                clear hown hown2 hgrow2 hat2 HB hcell
                go_wp2_with fail
                go_roundw
                case rel => exact ⟨j + 1, M ++ [x], by omega, by go_num, by rw [HT.out]; exact HO2.out, HB2.out⟩
                case measure => simp [intOf]; omega
              · have HO2 := Lib.hid (hO.old hin)
                rw [hin] at hh
                clear hin hO hown
                go_wp2_with fail
                refine hh.mono ?_
                rintro e w' ⟨rfl, hww⟩
                subst hww
                clear hh hcell
                go_wp2_with fail
                go_roundw
                case rel => exact ⟨j + 1, M, by omega, by go_num, by rw [HT.out]; exact HO2.out, HB.out⟩
                case measure => simp [intOf]; omega
            · obtain rfl : j = D.length := by omega
              rw [List.take_of_length_le (Nat.le_refl _), ← HU.out] at hO
              have HO2 := Lib.hid hO
              have HB := Lib.hid hB
              clear hO hB
              go_wp2_with fail
              go_roundw
              case rel => exact ⟨k + 1, M, by omega, by go_num, HO2.out, HB.out.own, HB.out.bel⟩
              case measure => simp [intOf]; omega
        · obtain rfl : k = m + 1 := by omega
          have hlti : ¬ ((m + 1 : Nat) : Int) ≤ (m : Int) := by omega
          have HE : Hid (deltasL G (m : Int) = sortL M) := Lib.hid (by rw [HR.out, hO.sort])
          have hml : M.length ≤ 1201 := hO.len fun y hy => by have := upD_bnd hy; omega
          have hs := sort_of_owns hown hbel (by omega)
          clear hown hO
          go_wp2_with fail
          refine hs.mono ?_
          rintro e w' ⟨u, rfl, hp⟩
          go_wp2_with fail
          go_ret
          obtain ⟨g, c, e1, ho, hb'⟩ := hp
          injection e1 with e1
          subst e1
          exact ⟨_, rfl, by rw [HE.out]; exact ownsBase ho hbV.size, hbV.trans (hb'.mono hbV.size)⟩
end Go.Proofs.Ytlinlmmcgifloaa
