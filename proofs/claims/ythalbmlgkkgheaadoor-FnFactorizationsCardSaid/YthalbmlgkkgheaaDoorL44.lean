/-
  CONTRACTS of the reference's chapter 11: the inner node of the search for factorizations. (Own work: mkL40.py.)
-/
import Derived.Test.YthalbmlgkkgheaaDoorL40
namespace Go.Proofs.YthalbmlgkkgheaaDoor
open Go Go.RowKit

theorem keepD {W w' w2 : World} {b o : Nat} {v : Value} (hb : b < W.heap.size) (h : w'.cell? ⟨b, o, none⟩ = some v ∧ Below W.heap.size W w') (hg : Below w'.heap.size w' w2) : w2.cell? ⟨b, o, none⟩ = some v ∧ Below W.heap.size W w2 :=
  ⟨(hg.cell (p := ⟨b, o, none⟩) (Nat.lt_of_lt_of_le hb h.2.size)).trans h.1, h.2.trans (hg.mono h.2.size)⟩
theorem node_done {w wr w6 w7 w8 : World} {ad ad7 : Addr} {c c7 : Nat} {v8 : Value} {vs us : List Value} {xss yss : List (List Value)} (hbz : w.heap.size ≤ wr.heap.size) (hR : Rows2 w7 w.heap.size wr.heap.size (.slice (some ad) vs.length c) vs xss)
    (hU : Rows2 w7 w6.heap.size w7.heap.size (.slice (some ad7) us.length c7) us yss) (hz : wr.heap.size ≤ w6.heap.size) (ho : w8.ownsRow w.heap.size 24 1 v8 (vs.length + us.length) (vs ++ us)) (hg : w7.grownBy w8 (Value.slice (some ad) vs.length c).ownBlock)
    (hn : v8 = .slice none 0 0 ↔ (Value.slice (some ad) vs.length c) = .slice none 0 0 ∧ us.length = 0) (hat : v8.ownBlock = (Value.slice (some ad) vs.length c).ownBlock ∨ v8.ownBlock = some w7.heap.size) :
    ∃ ad8 c8, v8 = .slice (some ad8) (vs ++ us).length c8 ∧ Rows2 w8 w.heap.size w8.heap.size v8 (vs ++ us) (xss ++ yss) := by
  have hj := hR.join (hU.wider hz (Nat.le_refl _) (Nat.le_refl _)) hbz ho hg fun b hb => by
    rcases hat with h | h
    · rw [h] at hb; exact .inl hb
    · rw [h] at hb; cases hb; exact .inr (Nat.le_refl _)
  rcases ho.2 with ⟨e, -⟩ | ⟨g, cap, cur, e, -⟩
  · have := (hn.1 e).1; cases this
  · exact ⟨_, _, by rw [e, List.length_append], hj⟩
set_option maxRecDepth 100000 in
set_option maxHeartbeats 1600000 in
theorem spec_l11Node (D : List Int) (b off cap N d g t bd od cd : Nat) (f : Nat → List (List Int)) (w : World) (hN1 : d + 2 ≤ N) (hN : N ≤ 12) (hg1 : 1 ≤ g) (hg2 : g ≤ 60) (ht : t ≤ 100) (hD1 : D.length ≤ d) (hD2 : d ≤ D.length)
    (hbw : b < w.heap.size) (hc : w.cell? ⟨b, off + d, none⟩ = some (.int .i64 (g : Int))) (hdw : bd < w.heap.size) (hD : ∀ j u, (D.map (Value.int .i64))[j]? = some u → w.cell? ⟨bd, od + j, none⟩ = some u)
    (hB : ((downL (t / g)).flatMap fun k => (f (t - k * g)).map fun x => D ++ (k : Int) :: x).length ≤ 40000000000)
    (IH : ∀ (t' : Nat) (D' : List Int) (g' o' c' : Nat) (w' : World), t' ≤ t → D'.length = d + 1 → g' < w'.heap.size → (∀ j u, (D'.map (Value.int .i64))[j]? = some u → w'.cell? ⟨g', o' + j, none⟩ = some u) → Below w.heap.size w w' →
      Calls Tryd.prog 39 #[.slice (some ⟨b, off, none⟩) N cap, .int .i64 (t' : Int), .slice (some ⟨g', o', none⟩) (d + 1) c'] w' (SsPostA ((f t').map (D' ++ ·)) w')) :
    Calls Tryd.prog 39 #[.slice (some ⟨b, off, none⟩) N cap, .int .i64 (t : Int), .slice (some ⟨bd, od, none⟩) d cd] w (SsPostA ((downL (t / g)).flatMap fun k => (f (t - k * g)).map fun x => D ++ (k : Int) :: x) w) := by
  have hd1 : ((d : Int) == (N : Int)) = false := by rw [beq_eq_false_iff_ne]; omega
  have hwp : IntKind.i64.wrap ((N : Int) - 1) = ((N : Int) - 1) := IntWalk.i64_in _ (by omega)
  have hd2 : ((d : Int) == (N : Int) - 1) = false := by rw [beq_eq_false_iff_ne]; omega
  have hdN : (d : Int) < (N : Int) := by omega
  have hd0 : (0 : Int) ≤ (d : Int) := by omega
  have hqz : ((g : Int) == 0) = false := by rw [beq_eq_false_iff_ne]; omega
  have hgz : ¬ g = 0 := by omega
  have hqx := wrapk t g (by omega)
  have hqw := wrapq t g (by omega)
  have HPQ := Lib.hid (fun r (h : r ≤ t / g) => Nat.le_trans (Nat.mul_le_mul_right g h) (Nat.div_mul_le_self t g))
  have hq100 : t / g ≤ 100 := Nat.le_trans (Nat.div_le_self t g) ht
  generalize hqe : t / g = q at *
  clear hqe
  obtain ⟨i0, hi, hz0, hz1, hz2⟩ := info_parts infoIntL
  obtain ⟨i1, hi', hz0', hz1', hz2'⟩ := info_parts infoSlL2
  have hown0 : (w.alloc (.cells #[] 24)).ownsRow w.heap.size 24 1 (.slice (some ⟨w.heap.size, 0, none⟩) 0 0) 0 [] := World.ownsRow_lit w #[] 0 (Nat.le_refl _) (by simp) rfl
  have hb0 : Below w.heap.size w (w.alloc (.cells #[] 24)) := (Below.refl _ _).alloc (Nat.le_refl _) _
  have hR0 := rows2_empty hown0 (by simp)
  have hc0 : (w.alloc (.cells #[] 24)).cell? ⟨b, off + d, none⟩ = some (.int .i64 (g : Int)) := (hb0.cell (p := ⟨b, off + d, none⟩) hbw).trans hc
  have HR0 := Lib.hid hR0
  clear hR0 hown0
  go_enter Tryd.func39, Tryd.ntmps39
  go_wp2_with fail
  go_loopw [8, 9] (fun v i wr => ∃ (j : Nat) (F : List (List Int)) (ad : Addr) (c : Nat) (vs : List Value), j ≤ q + 1 ∧ i = .int .i64 ((j : Int) - 1) ∧ v = .slice (some ad) vs.length c ∧ Rows2 wr w.heap.size wr.heap.size (.slice (some ad) vs.length c) vs (F.map fun L => L.map (Value.int .i64)) ∧ Hid (F ++ ((List.range j).reverse.flatMap fun k => (f (t - k * g)).map fun x => D ++ (k : Int) :: x) = (downL q).flatMap fun k => (f (t - k * g)).map fun x => D ++ (k : Int) :: x) ∧ Below w.heap.size w wr) (fun _ i _ => (intOf i + 1).toNat)
  case atStart => exact ⟨q + 1, [], _, _, [], Nat.le_refl _, by go_num, rfl, HR0.out, Lib.hid (by unfold downL; rfl), hb0⟩
  case round =>
    clear hb0 hc0 HR0
    obtain ⟨j, F, ad, c, vs, hj, rfl, rfl, hR, HT, hbel⟩ := hrel
    cases j with
    | zero =>
      have e : F = (downL q).flatMap fun k => (f (t - k * g)).map fun x => D ++ (k : Int) :: x := by simpa using HT.out
      go_wp2_with fail
      go_ret
      exact ⟨ad, c, vs, rfl, by rw [← e]; exact hR, hbel⟩
    | succ r =>
      rw [show ((r + 1 : Nat) : Int) - 1 = (r : Int) by omega]
      have hpq : r * g ≤ t := HPQ.out r (Nat.le_of_succ_le_succ hj)
      obtain ⟨p, hp⟩ : ∃ p, p = r * g := ⟨_, rfl⟩
      rw [← hp] at hpq
      obtain ⟨u, hu⟩ : ∃ u, u = t - p := ⟨_, rfl⟩
      have hw1 : IntKind.i64.wrap ((r : Int) * (g : Int)) = (p : Int) := by rw [← Int.natCast_mul, ← hp]; exact IntWalk.i64_in _ (by omega)
      have hw2 : IntKind.i64.wrap ((t : Int) - (p : Int)) = (u : Int) := by rw [IntWalk.i64_in _ (by omega)]; omega
      have HT2 : Hid ((F ++ (f u).map fun x => D ++ (r : Int) :: x) ++ ((List.range r).reverse.flatMap fun k => (f (t - k * g)).map fun x => D ++ (k : Int) :: x) = (downL q).flatMap fun k => (f (t - k * g)).map fun x => D ++ (k : Int) :: x) := Lib.hid (by rw [← HT.out, List.range_succ, List.reverse_append, hu, hp]; simp)
      have HE : Hid ((f u).map ((D ++ [(r : Int)]) ++ ·) = (f u).map fun x => D ++ (r : Int) :: x) := Lib.hid (by simp)
      have hlen : vs.length + (f u).length ≤ 40000000000 := by refine Nat.le_trans ?_ hB; have h1 := hR.len; have h2 := congrArg List.length HT2.out; rw [List.length_map] at h1; simp only [List.length_append, List.length_map] at h2; omega
      have HI : Hid (∀ (D' : List Int) (g' o' c' : Nat) (w' : World), D'.length ≤ d + 1 → d + 1 ≤ D'.length → g' < w'.heap.size → (∀ j u, (D'.map (Value.int .i64))[j]? = some u → w'.cell? ⟨g', o' + j, none⟩ = some u) → Below wr.heap.size wr w' → Calls Tryd.prog 39 #[.slice (some ⟨b, off, none⟩) N cap, .int .i64 (u : Int), .slice (some ⟨g', o', none⟩) (d + 1) c'] w' (SsPostA ((f u).map (D' ++ ·)) w')) := Lib.hid fun D' g' o' c' w' h1 h2 h3 h4 h5 => IH u D' g' o' c' w' (by omega) (by omega) h3 h4 (hbel.trans (h5.mono hbel.size))
      have hDB : Hid (∀ w', Below wr.heap.size wr w' → ∀ j u, (D.map (Value.int .i64))[j]? = some u → w'.cell? ((⟨bd, od, none⟩ : Addr).add j) = some u) := Lib.hid fun w' h j u hj => by have := ((hbel.trans (h.mono hbel.size)).cell (p := ⟨bd, od + j, none⟩) hdw).trans (hD j u hj); rw [addr_add]; exact this
      have hRb : Hid (∀ w', Below wr.heap.size wr w' → Rows2 w' w.heap.size wr.heap.size (.slice (some ad) vs.length c) vs (F.map fun L => L.map (Value.int .i64))) := Lib.hid fun w' h => hR.below h
      have hbz := hbel.size
      have hS0 : wr.drew.cell? ⟨b, off + d, none⟩ = some (.int .i64 (g : Int)) ∧ Below w.heap.size w wr.drew := ⟨(hbel.cell (p := ⟨b, off + d, none⟩) hbw).trans hc, hbel.drew⟩
      have hB1 : Below wr.heap.size wr wr.drew := (Below.refl _ _).drew
      clear hu hp IH hB hR HT
      go_wp2_with fail
      refine wp_region_held_drew (S := fun w' => w'.cell? ⟨b, off + d, none⟩ = some (.int .i64 (g : Int)) ∧ Below w.heap.size w w') (by kernel_rfl) hS0 (fun hHeld => ?_)
      refine held_take 0 _ _ rfl (by kernel_rfl) (by kernel_rfl) (by kernel_rfl) (fun _ _ _ h => h) (by rfl) hHeld (fun w hSw => by (try dsimp only at hSw); go_simp; try with_reducible rfl) ?_
      (try simp only [Act.put, List.setIfInBounds_toArray, List.set_cons_zero, List.set_cons_succ, List.getElem_toArray, List.getElem_cons_zero])
      refine held_take 1 _ _ rfl (by kernel_rfl) (by kernel_rfl) (by kernel_rfl) (fun _ _ _ h => h) (by rfl) hHeld (fun w hSw => by (try dsimp only at hSw); go_simp; try with_reducible rfl) ?_
      (try simp only [Act.put, List.setIfInBounds_toArray, List.set_cons_zero, List.set_cons_succ, List.getElem_toArray, List.getElem_cons_succ, List.getElem_cons_zero])
      refine held_take 2 _ _ rfl (by kernel_rfl) (by kernel_rfl) (by kernel_rfl) (fun _ _ _ h => h) (by rfl) hHeld (fun w hSw => by (try dsimp only at hSw); go_simp; try with_reducible rfl) ?_
      (try simp only [Act.put, List.setIfInBounds_toArray, List.set_cons_zero, List.set_cons_succ, List.getElem_toArray, List.getElem_cons_succ, List.getElem_cons_zero])
      refine held_take 3 _ _ rfl (by kernel_rfl) (by kernel_rfl) (by kernel_rfl) (fun _ _ _ h => h) (by rfl) hHeld (fun w hSw => by (try dsimp only at hSw); go_simp; try with_reducible rfl) ?_
      (try simp only [Act.put, List.setIfInBounds_toArray, List.set_cons_zero, List.set_cons_succ, List.getElem_toArray, List.getElem_cons_succ, List.getElem_cons_zero])
      refine held_take 4 _ _ rfl (by kernel_rfl) (by kernel_rfl) (by kernel_rfl) (fun _ _ _ h => h) (by rfl) hHeld (fun w hSw => by (try dsimp only at hSw); go_simp; try with_reducible rfl) ?_
      (try simp only [Act.put, List.setIfInBounds_toArray, List.set_cons_zero, List.set_cons_succ, List.getElem_toArray, List.getElem_cons_succ, List.getElem_cons_zero])
      refine held_take 5 _ _ rfl (by kernel_rfl) (by kernel_rfl) (by kernel_rfl) (fun _ _ _ h => h) (by rfl) hHeld (fun w hSw => by (try dsimp only at hSw); go_simp; try with_reducible rfl) ?_
      (try simp only [Act.put, List.setIfInBounds_toArray, List.set_cons_zero, List.set_cons_succ, List.getElem_toArray, List.getElem_cons_succ, List.getElem_cons_zero])
      refine held_take 6 _ _ rfl (by kernel_rfl) (by kernel_rfl) (by kernel_rfl) (fun _ _ _ h => h) (by rfl) hHeld (fun w hSw => by (try dsimp only at hSw); go_simp; try with_reducible rfl) ?_
      (try simp only [Act.put, List.setIfInBounds_toArray, List.set_cons_zero, List.set_cons_succ, List.getElem_toArray, List.getElem_cons_succ, List.getElem_cons_zero])
      refine held_take 7 _ _ rfl (by kernel_rfl) (by kernel_rfl) (by kernel_rfl) (fun _ _ _ h => h) (by rfl) hHeld (fun w hSw => by (try dsimp only at hSw); go_simp; try with_reducible rfl) ?_
      (try simp only [Act.put, List.setIfInBounds_toArray, List.set_cons_zero, List.set_cons_succ, List.getElem_toArray, List.getElem_cons_succ, List.getElem_cons_zero])
      refine held_take 8 _ _ rfl (by kernel_rfl) (by kernel_rfl) (by kernel_rfl) (fun _ _ _ h => h) (by rfl) hHeld (fun w hSw => by (try dsimp only at hSw); go_simp; try with_reducible rfl) ?_
      (try simp only [Act.put, List.setIfInBounds_toArray, List.set_cons_zero, List.set_cons_succ, List.getElem_toArray, List.getElem_cons_succ, List.getElem_cons_zero])
      refine held_take 9 _ _ rfl (by kernel_rfl) (by kernel_rfl) (by kernel_rfl) (fun _ _ _ h => h) (by rfl) hHeld (fun w hSw => by (try dsimp only at hSw); go_simp; try with_reducible rfl) ?_
      (try simp only [Act.put, List.setIfInBounds_toArray, List.set_cons_zero, List.set_cons_succ, List.getElem_toArray, List.getElem_cons_succ, List.getElem_cons_zero])
      refine held_take 11 _ _ rfl (by kernel_rfl) (by kernel_rfl) (by kernel_rfl) (fun _ _ _ h => h) (by rfl) hHeld (fun w hSw => by (try dsimp only at hSw); go_simp; try with_reducible rfl) ?_
      (try simp only [Act.put, List.setIfInBounds_toArray, List.set_cons_zero, List.set_cons_succ, List.getElem_toArray, List.getElem_cons_succ, List.getElem_cons_zero])
      refine held_take 13 _ _ rfl (by kernel_rfl) (by kernel_rfl) (by kernel_rfl) (fun _ _ _ h => h) (by rfl) hHeld (fun w hSw => by (try dsimp only at hSw); go_simp; try with_reducible rfl) ?_
      (try simp only [Act.put, List.setIfInBounds_toArray, List.set_cons_zero, List.set_cons_succ, List.getElem_toArray, List.getElem_cons_succ, List.getElem_cons_zero])
      refine wpAnyH_ready (rs := [10, 14]) (by kernel_rfl) (by simp) ?_
      refine AllReadyH.cons rfl (fun K hK => ?_) (AllReadyH.cons rfl (fun K hK => ?_) AllReadyH.nil)
      · rw [if_pos (by rfl)]
        have hO := newEmpty hB1
        try simp only [alloc_sz] at hO
        try (replace hT := hT.alloc (.cells #[] 3))
        replace hB1 := hB1.alloc hB1.size (.cells #[] 3)
        go_wp2_with fail
        refine hK.out _ _ (keepA hbw hHeld _) (fun hHeld1 => ?_)
        clear hK K
        (try simp only [Act.put, List.setIfInBounds_toArray, List.set_cons_zero, List.set_cons_succ, List.getElem_toArray, List.getElem_cons_succ, List.getElem_cons_zero])
        refine wpAnyH_ready (rs := [12, 14]) (by kernel_rfl) (by simp) ?_
        refine AllReadyH.cons rfl (fun K hK => ?_) (AllReadyH.cons rfl (fun K hK => ?_) AllReadyH.nil)
        · rw [if_pos (by rfl)]
          refine wp_append_own _ (.tmp 71) (.tmp 72) 24 (by rfl) wr.heap.size 3 i0 (Value.int .i64 0) 1 8 Tryd.underlying24 hi hz0 hz1 hz2 rfl (by decide) _ 0 [] (by rfl) hO ⟨bd, od, none⟩ d _ (D.map (Value.int .i64)) (by rfl) (by rw [List.length_map]; omega) (hDB.out _ hB1) (fun u hu => by obtain ⟨x, -, rfl⟩ := List.mem_map.1 hu; rfl) (by unfold maxLen; omega) (by omega) hB1.size ?_; intro v5 wa hown5 hg5 _
          have hl5 := hO.lt
          try (replace hT := hT.grown hg5 (by simp [Value.ownBlock]))
          replace hB1 := hB1.grown hg5 hB1.size (fun j hj => (hl5 j hj).1)
          replace hO := hown5
          clear hown5
          refine hK.out _ _ (keepB hbw hHeld1 hg5 (fun j hj => by have := (hl5 j hj).1; omega)) (fun hHeld2 => ?_)
          clear hK K
          (try simp only [Act.put, List.setIfInBounds_toArray, List.set_cons_zero, List.set_cons_succ, List.getElem_toArray, List.getElem_cons_succ, List.getElem_cons_zero])
          refine wpAnyH_ready (rs := [14]) (by kernel_rfl) (by simp) ?_
          refine AllReadyH.cons rfl (fun K hK => ?_) AllReadyH.nil
          rw [if_pos (by rfl)]
          have hT := newOne (base := wr.heap.size) hB1 (.int .i64 (r : Int))
          try simp only [alloc_sz] at hT
          try (replace hO := hO.alloc (.cells #[.int .i64 (r : Int)] 3))
          replace hB1 := hB1.alloc hB1.size (.cells #[.int .i64 (r : Int)] 3)
          go_wp2_with fail
          refine hK.out _ _ (keepA hbw hHeld2 _) (fun hHeld3 => ?_)
          clear hK K
          (try simp only [Act.put, List.setIfInBounds_toArray, List.set_cons_zero, List.set_cons_succ, List.getElem_toArray, List.getElem_cons_succ, List.getElem_cons_zero])
          refine wpAnyH_ready (rs := [15]) (by kernel_rfl) (by simp) ?_
          refine AllReadyH.cons rfl (fun K hK => ?_) AllReadyH.nil
          rw [if_pos (by rfl)]
          refine wp_append_lies _ (.tmp 73) (.tmp 75) 24 (by rfl) wr.heap.size 3 i0 (Value.int .i64 0) 1 8 Tryd.underlying24 hi hz0 hz1 hz2 rfl (by decide) v5 (0 + d) ([] ++ D.map (Value.int .i64)) (by rfl) hO _ 1 _ [.int .i64 (r : Int)] (by rfl) rfl hT.at (by simp [Value.oneCell']) (by decide) (by unfold maxLen; omega) (by omega) hB1.size _ rfl ?_; intro g6 c6 w6 hown6 hg6 hat6 hlt6
          simp only [Nat.zero_add] at hown6 ⊢
          have hl6 := hO.lt
          replace hB1 := hB1.grown hg6 hB1.size (fun j hj => (hl6 j hj).1)
          have hz6 := hB1.size
          have cI := HI.out (D ++ [(r : Int)]) g6 0 c6 w6 (by simp; omega) (by simp; omega) hlt6 (by rw [show (D ++ [(r : Int)]).map (Value.int .i64) = [] ++ D.map (Value.int .i64) ++ [.int .i64 (r : Int)] by simp]; exact row_cells hown6) hB1
          clear hT hO
          refine hK.out _ _ (keepB hbw hHeld3 hg6 (fun j hj => by have := (hl6 j hj).1; omega)) (fun hHeld4 => ?_)
          clear hK K
          (try simp only [Act.put, List.setIfInBounds_toArray, List.set_cons_zero, List.set_cons_succ, List.getElem_toArray, List.getElem_cons_succ, List.getElem_cons_zero])
          refine wpAnyH_ready (rs := [16]) (by kernel_rfl) (by simp) ?_
          refine AllReadyH.cons rfl (fun K hK => ?_) AllReadyH.nil
          rw [if_pos (by rfl)]
          go_wp2_with (first | (go_at_call 39; (with_reducible refine cI.mono ?_); rintro e w7 ⟨ad7, c7, us, rfl, hRu, hb7⟩; rw [HE.out] at hRu; have hus := hRu.len; simp only [List.length_map] at hus; have hus1 := Nat.le_of_eq hus; have hus2 := Nat.le_of_eq hus.symm; clear hus; replace hB1 := hB1.trans (hb7.mono hB1.size)))
          refine hK.out _ _ (keepD hbw hHeld4 hb7) (fun hHeld5 => ?_)
          clear hK K
          (try simp only [Act.put, List.setIfInBounds_toArray, List.set_cons_zero, List.set_cons_succ, List.getElem_toArray, List.getElem_cons_succ, List.getElem_cons_zero])
          refine wpAnyH_ready (rs := [17]) (by kernel_rfl) (by simp) ?_
          refine AllReadyH.cons rfl (fun K hK => ?_) AllReadyH.nil
          rw [if_pos (by rfl)]
          refine wp_append_own_at _ (.tmp 61) (.tmp 77) 29 (by rfl) w.heap.size 24 i1 (Value.slice none 0 0) 1 24 Tryd.underlying29 hi' hz0' hz1' hz2' rfl (by decide) _ vs.length vs (by rfl) (hRb.out _ hB1).own _ us.length _ us (by rfl) (by omega) (row2_cells hRu) (row2_one hRu) (by unfold maxLen; omega) (by omega) (Nat.le_trans hbel.size hB1.size) ?_; intro v8 w8 hown8 hg8 hnil8 hat8
          refine hK.out _ _ (keepB hbw hHeld5 hg8 (fun j hj => ((hRb.out _ hB1).own.lt j hj).1)) (fun hHeld6 => ?_)
          clear hK K
          (try simp only [Act.put, List.setIfInBounds_toArray, List.set_cons_zero, List.set_cons_succ, List.getElem_toArray, List.getElem_cons_succ, List.getElem_cons_zero])
          refine held_take 18 _ _ rfl (by kernel_rfl) (by kernel_rfl) (by kernel_rfl) (fun _ _ _ h => h) (by rfl) hHeld6 (fun w hSw => by (try dsimp only at hSw); go_simp; try with_reducible rfl) ?_
          (try simp only [Act.put, List.setIfInBounds_toArray, List.set_cons_zero, List.set_cons_succ, List.getElem_toArray, List.getElem_cons_succ, List.getElem_cons_zero])
          refine wpAnyH_done (by kernel_rfl) ?_ _
          have hF := node_done hbz (hRb.out _ hB1) hRu hz6 hown8 hg8 hnil8 hat8
          have hbF := (hHeld6).2
          obtain ⟨ad8, c8, rfl, hR8⟩ := hF
          clear hqx hqw hB1 hown6 hown8 hg8 hnil8 hat8 hRu hus1 hus2 hlen hb7 hg6 hlt6 hat6 hl6 hz6
          go_wp2_with fail
          go_roundw
          case rel => exact ⟨r, F ++ (f u).map fun x => D ++ (r : Int) :: x, ad8, c8, vs ++ us, Nat.le_of_lt hj, by go_num, rfl, by rw [List.map_append]; exact hR8, HT2, hbF⟩
          case measure => (simp [intOf]; try omega)
        · rw [if_pos (by rfl)]
          have hT := newOne (base := wr.heap.size) hB1 (.int .i64 (r : Int))
          try simp only [alloc_sz] at hT
          try (replace hO := hO.alloc (.cells #[.int .i64 (r : Int)] 3))
          replace hB1 := hB1.alloc hB1.size (.cells #[.int .i64 (r : Int)] 3)
          go_wp2_with fail
          refine hK.out _ _ (keepA hbw hHeld1 _) (fun hHeld2 => ?_)
          clear hK K
          (try simp only [Act.put, List.setIfInBounds_toArray, List.set_cons_zero, List.set_cons_succ, List.getElem_toArray, List.getElem_cons_succ, List.getElem_cons_zero])
          refine wpAnyH_ready (rs := [12]) (by kernel_rfl) (by simp) ?_
          refine AllReadyH.cons rfl (fun K hK => ?_) AllReadyH.nil
          rw [if_pos (by rfl)]
          refine wp_append_own _ (.tmp 71) (.tmp 72) 24 (by rfl) wr.heap.size 3 i0 (Value.int .i64 0) 1 8 Tryd.underlying24 hi hz0 hz1 hz2 rfl (by decide) _ 0 [] (by rfl) hO ⟨bd, od, none⟩ d _ (D.map (Value.int .i64)) (by rfl) (by rw [List.length_map]; omega) (hDB.out _ hB1) (fun u hu => by obtain ⟨x, -, rfl⟩ := List.mem_map.1 hu; rfl) (by unfold maxLen; omega) (by omega) hB1.size ?_; intro v5 wa hown5 hg5 _
          have hl5 := hO.lt
          try (replace hT := hT.grown hg5 (by simp [Value.ownBlock]))
          replace hB1 := hB1.grown hg5 hB1.size (fun j hj => (hl5 j hj).1)
          replace hO := hown5
          clear hown5
          refine hK.out _ _ (keepB hbw hHeld2 hg5 (fun j hj => by have := (hl5 j hj).1; omega)) (fun hHeld3 => ?_)
          clear hK K
          (try simp only [Act.put, List.setIfInBounds_toArray, List.set_cons_zero, List.set_cons_succ, List.getElem_toArray, List.getElem_cons_succ, List.getElem_cons_zero])
          refine wpAnyH_ready (rs := [15]) (by kernel_rfl) (by simp) ?_
          refine AllReadyH.cons rfl (fun K hK => ?_) AllReadyH.nil
          rw [if_pos (by rfl)]
          refine wp_append_lies _ (.tmp 73) (.tmp 75) 24 (by rfl) wr.heap.size 3 i0 (Value.int .i64 0) 1 8 Tryd.underlying24 hi hz0 hz1 hz2 rfl (by decide) v5 (0 + d) ([] ++ D.map (Value.int .i64)) (by rfl) hO _ 1 _ [.int .i64 (r : Int)] (by rfl) rfl hT.at (by simp [Value.oneCell']) (by decide) (by unfold maxLen; omega) (by omega) hB1.size _ rfl ?_; intro g6 c6 w6 hown6 hg6 hat6 hlt6
          simp only [Nat.zero_add] at hown6 ⊢
          have hl6 := hO.lt
          replace hB1 := hB1.grown hg6 hB1.size (fun j hj => (hl6 j hj).1)
          have hz6 := hB1.size
          have cI := HI.out (D ++ [(r : Int)]) g6 0 c6 w6 (by simp; omega) (by simp; omega) hlt6 (by rw [show (D ++ [(r : Int)]).map (Value.int .i64) = [] ++ D.map (Value.int .i64) ++ [.int .i64 (r : Int)] by simp]; exact row_cells hown6) hB1
          clear hT hO
          refine hK.out _ _ (keepB hbw hHeld3 hg6 (fun j hj => by have := (hl6 j hj).1; omega)) (fun hHeld4 => ?_)
          clear hK K
          (try simp only [Act.put, List.setIfInBounds_toArray, List.set_cons_zero, List.set_cons_succ, List.getElem_toArray, List.getElem_cons_succ, List.getElem_cons_zero])
          refine wpAnyH_ready (rs := [16]) (by kernel_rfl) (by simp) ?_
          refine AllReadyH.cons rfl (fun K hK => ?_) AllReadyH.nil
          rw [if_pos (by rfl)]
          go_wp2_with (first | (go_at_call 39; (with_reducible refine cI.mono ?_); rintro e w7 ⟨ad7, c7, us, rfl, hRu, hb7⟩; rw [HE.out] at hRu; have hus := hRu.len; simp only [List.length_map] at hus; have hus1 := Nat.le_of_eq hus; have hus2 := Nat.le_of_eq hus.symm; clear hus; replace hB1 := hB1.trans (hb7.mono hB1.size)))
          refine hK.out _ _ (keepD hbw hHeld4 hb7) (fun hHeld5 => ?_)
          clear hK K
          (try simp only [Act.put, List.setIfInBounds_toArray, List.set_cons_zero, List.set_cons_succ, List.getElem_toArray, List.getElem_cons_succ, List.getElem_cons_zero])
          refine wpAnyH_ready (rs := [17]) (by kernel_rfl) (by simp) ?_
          refine AllReadyH.cons rfl (fun K hK => ?_) AllReadyH.nil
          rw [if_pos (by rfl)]
          refine wp_append_own_at _ (.tmp 61) (.tmp 77) 29 (by rfl) w.heap.size 24 i1 (Value.slice none 0 0) 1 24 Tryd.underlying29 hi' hz0' hz1' hz2' rfl (by decide) _ vs.length vs (by rfl) (hRb.out _ hB1).own _ us.length _ us (by rfl) (by omega) (row2_cells hRu) (row2_one hRu) (by unfold maxLen; omega) (by omega) (Nat.le_trans hbel.size hB1.size) ?_; intro v8 w8 hown8 hg8 hnil8 hat8
          refine hK.out _ _ (keepB hbw hHeld5 hg8 (fun j hj => ((hRb.out _ hB1).own.lt j hj).1)) (fun hHeld6 => ?_)
          clear hK K
          (try simp only [Act.put, List.setIfInBounds_toArray, List.set_cons_zero, List.set_cons_succ, List.getElem_toArray, List.getElem_cons_succ, List.getElem_cons_zero])
          refine held_take 18 _ _ rfl (by kernel_rfl) (by kernel_rfl) (by kernel_rfl) (fun _ _ _ h => h) (by rfl) hHeld6 (fun w hSw => by (try dsimp only at hSw); go_simp; try with_reducible rfl) ?_
          (try simp only [Act.put, List.setIfInBounds_toArray, List.set_cons_zero, List.set_cons_succ, List.getElem_toArray, List.getElem_cons_succ, List.getElem_cons_zero])
          refine wpAnyH_done (by kernel_rfl) ?_ _
          have hF := node_done hbz (hRb.out _ hB1) hRu hz6 hown8 hg8 hnil8 hat8
          have hbF := (hHeld6).2
          obtain ⟨ad8, c8, rfl, hR8⟩ := hF
          clear hqx hqw hB1 hown6 hown8 hg8 hnil8 hat8 hRu hus1 hus2 hlen hb7 hg6 hlt6 hat6 hl6 hz6
          go_wp2_with fail
          go_roundw
          case rel => exact ⟨r, F ++ (f u).map fun x => D ++ (r : Int) :: x, ad8, c8, vs ++ us, Nat.le_of_lt hj, by go_num, rfl, by rw [List.map_append]; exact hR8, HT2, hbF⟩
          case measure => (simp [intOf]; try omega)
      · rw [if_pos (by rfl)]
        have hT := newOne (base := wr.heap.size) hB1 (.int .i64 (r : Int))
        try simp only [alloc_sz] at hT
        try (replace hO := hO.alloc (.cells #[.int .i64 (r : Int)] 3))
        replace hB1 := hB1.alloc hB1.size (.cells #[.int .i64 (r : Int)] 3)
        go_wp2_with fail
        refine hK.out _ _ (keepA hbw hHeld _) (fun hHeld1 => ?_)
        clear hK K
        (try simp only [Act.put, List.setIfInBounds_toArray, List.set_cons_zero, List.set_cons_succ, List.getElem_toArray, List.getElem_cons_succ, List.getElem_cons_zero])
        refine wpAnyH_ready (rs := [10]) (by kernel_rfl) (by simp) ?_
        refine AllReadyH.cons rfl (fun K hK => ?_) AllReadyH.nil
        rw [if_pos (by rfl)]
        have hO := newEmpty hB1
        try simp only [alloc_sz] at hO
        try (replace hT := hT.alloc (.cells #[] 3))
        replace hB1 := hB1.alloc hB1.size (.cells #[] 3)
        go_wp2_with fail
        refine hK.out _ _ (keepA hbw hHeld1 _) (fun hHeld2 => ?_)
        clear hK K
        (try simp only [Act.put, List.setIfInBounds_toArray, List.set_cons_zero, List.set_cons_succ, List.getElem_toArray, List.getElem_cons_succ, List.getElem_cons_zero])
        refine wpAnyH_ready (rs := [12]) (by kernel_rfl) (by simp) ?_
        refine AllReadyH.cons rfl (fun K hK => ?_) AllReadyH.nil
        rw [if_pos (by rfl)]
        refine wp_append_own _ (.tmp 71) (.tmp 72) 24 (by rfl) wr.heap.size 3 i0 (Value.int .i64 0) 1 8 Tryd.underlying24 hi hz0 hz1 hz2 rfl (by decide) _ 0 [] (by rfl) hO ⟨bd, od, none⟩ d _ (D.map (Value.int .i64)) (by rfl) (by rw [List.length_map]; omega) (hDB.out _ hB1) (fun u hu => by obtain ⟨x, -, rfl⟩ := List.mem_map.1 hu; rfl) (by unfold maxLen; omega) (by omega) hB1.size ?_; intro v5 wa hown5 hg5 _
        have hl5 := hO.lt
        try (replace hT := hT.grown hg5 (by simp [Value.ownBlock]))
        replace hB1 := hB1.grown hg5 hB1.size (fun j hj => (hl5 j hj).1)
        replace hO := hown5
        clear hown5
        refine hK.out _ _ (keepB hbw hHeld2 hg5 (fun j hj => by have := (hl5 j hj).1; omega)) (fun hHeld3 => ?_)
        clear hK K
        (try simp only [Act.put, List.setIfInBounds_toArray, List.set_cons_zero, List.set_cons_succ, List.getElem_toArray, List.getElem_cons_succ, List.getElem_cons_zero])
        refine wpAnyH_ready (rs := [15]) (by kernel_rfl) (by simp) ?_
        refine AllReadyH.cons rfl (fun K hK => ?_) AllReadyH.nil
        rw [if_pos (by rfl)]
        refine wp_append_lies _ (.tmp 73) (.tmp 75) 24 (by rfl) wr.heap.size 3 i0 (Value.int .i64 0) 1 8 Tryd.underlying24 hi hz0 hz1 hz2 rfl (by decide) v5 (0 + d) ([] ++ D.map (Value.int .i64)) (by rfl) hO _ 1 _ [.int .i64 (r : Int)] (by rfl) rfl hT.at (by simp [Value.oneCell']) (by decide) (by unfold maxLen; omega) (by omega) hB1.size _ rfl ?_; intro g6 c6 w6 hown6 hg6 hat6 hlt6
        simp only [Nat.zero_add] at hown6 ⊢
        have hl6 := hO.lt
        replace hB1 := hB1.grown hg6 hB1.size (fun j hj => (hl6 j hj).1)
        have hz6 := hB1.size
        have cI := HI.out (D ++ [(r : Int)]) g6 0 c6 w6 (by simp; omega) (by simp; omega) hlt6 (by rw [show (D ++ [(r : Int)]).map (Value.int .i64) = [] ++ D.map (Value.int .i64) ++ [.int .i64 (r : Int)] by simp]; exact row_cells hown6) hB1
        clear hT hO
        refine hK.out _ _ (keepB hbw hHeld3 hg6 (fun j hj => by have := (hl6 j hj).1; omega)) (fun hHeld4 => ?_)
        clear hK K
        (try simp only [Act.put, List.setIfInBounds_toArray, List.set_cons_zero, List.set_cons_succ, List.getElem_toArray, List.getElem_cons_succ, List.getElem_cons_zero])
        refine wpAnyH_ready (rs := [16]) (by kernel_rfl) (by simp) ?_
        refine AllReadyH.cons rfl (fun K hK => ?_) AllReadyH.nil
        rw [if_pos (by rfl)]
        go_wp2_with (first | (go_at_call 39; (with_reducible refine cI.mono ?_); rintro e w7 ⟨ad7, c7, us, rfl, hRu, hb7⟩; rw [HE.out] at hRu; have hus := hRu.len; simp only [List.length_map] at hus; have hus1 := Nat.le_of_eq hus; have hus2 := Nat.le_of_eq hus.symm; clear hus; replace hB1 := hB1.trans (hb7.mono hB1.size)))
        refine hK.out _ _ (keepD hbw hHeld4 hb7) (fun hHeld5 => ?_)
        clear hK K
        (try simp only [Act.put, List.setIfInBounds_toArray, List.set_cons_zero, List.set_cons_succ, List.getElem_toArray, List.getElem_cons_succ, List.getElem_cons_zero])
        refine wpAnyH_ready (rs := [17]) (by kernel_rfl) (by simp) ?_
        refine AllReadyH.cons rfl (fun K hK => ?_) AllReadyH.nil
        rw [if_pos (by rfl)]
        refine wp_append_own_at _ (.tmp 61) (.tmp 77) 29 (by rfl) w.heap.size 24 i1 (Value.slice none 0 0) 1 24 Tryd.underlying29 hi' hz0' hz1' hz2' rfl (by decide) _ vs.length vs (by rfl) (hRb.out _ hB1).own _ us.length _ us (by rfl) (by omega) (row2_cells hRu) (row2_one hRu) (by unfold maxLen; omega) (by omega) (Nat.le_trans hbel.size hB1.size) ?_; intro v8 w8 hown8 hg8 hnil8 hat8
        refine hK.out _ _ (keepB hbw hHeld5 hg8 (fun j hj => ((hRb.out _ hB1).own.lt j hj).1)) (fun hHeld6 => ?_)
        clear hK K
        (try simp only [Act.put, List.setIfInBounds_toArray, List.set_cons_zero, List.set_cons_succ, List.getElem_toArray, List.getElem_cons_succ, List.getElem_cons_zero])
        refine held_take 18 _ _ rfl (by kernel_rfl) (by kernel_rfl) (by kernel_rfl) (fun _ _ _ h => h) (by rfl) hHeld6 (fun w hSw => by (try dsimp only at hSw); go_simp; try with_reducible rfl) ?_
        (try simp only [Act.put, List.setIfInBounds_toArray, List.set_cons_zero, List.set_cons_succ, List.getElem_toArray, List.getElem_cons_succ, List.getElem_cons_zero])
        refine wpAnyH_done (by kernel_rfl) ?_ _
        have hF := node_done hbz (hRb.out _ hB1) hRu hz6 hown8 hg8 hnil8 hat8
        have hbF := (hHeld6).2
        obtain ⟨ad8, c8, rfl, hR8⟩ := hF
        clear hqx hqw hB1 hown6 hown8 hg8 hnil8 hat8 hRu hus1 hus2 hlen hb7 hg6 hlt6 hat6 hl6 hz6
        go_wp2_with fail
        go_roundw
        case rel => exact ⟨r, F ++ (f u).map fun x => D ++ (r : Int) :: x, ad8, c8, vs ++ us, Nat.le_of_lt hj, by go_num, rfl, by rw [List.map_append]; exact hR8, HT2, hbF⟩
        case measure => (simp [intOf]; try omega)
end Go.Proofs.YthalbmlgkkgheaaDoor
