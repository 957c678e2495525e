/-
  CONTRACTS of the reference's chapter 24: BlowUp, MultiplicitySequence. (Own work: mk72.py.)
-/
import Derived.Test.YtipfonpaaebjjaaGreatSgAr
import Derived.Test.YtipfonpaaebjjaaGreatSgL
import Derived.Test.YtipfonpaaebjjaaGreatL26
import Derived.Maps.AppendAt
import Derived.WalkMore
namespace Go.Proofs.YtipfonpaaebjjaaGreat
open Go Go.RowKit
attribute [local go_sem] Oper.semAt_some

set_option maxRecDepth 100000 in
set_option maxHeartbeats 1600000 in
theorem spec_BlowUp (G : List Int) (a : Option Addr) (cap : Nat) (w : World) (hr : SlV w a (G.map (Value.int .i64))) (hb : G.length ≤ 1048576) :
    Calls Tryz.prog 28 #[.agg #[.slice a G.length cap]] w (SgPost (blowL G) (blowB G) w) := by
  obtain ⟨i0, hi, hz0, hz1, hz2⟩ := info_parts infoIntL
  have c1 := fun w2 (h : SlV w2 a (G.map (Value.int .i64))) => spec_IsSemigroup G a cap w2 h hb
  obtain ⟨dS, hdS, hrS⟩ := undSg
  obtain ⟨U, hU⟩ : ∃ U, U = (w.alloc (.cells #[.slice a G.length cap] 26)) := ⟨_, rfl⟩
  obtain ⟨V, hV⟩ : ∃ V, V = U.alloc (.cells [Value.slice none 0 0].toArray 26) := ⟨_, rfl⟩
  have hbU : Below w.heap.size w U := by rw [hU]; exact box_below _ _
  have hbUV : Below U.heap.size U V := by rw [hV]; exact box_below _ _
  have hbV := hbU.trans (hbUV.mono hbU.size)
  have hUe : U.heap.size = w.heap.size + 1 := by rw [hU]; simp
  have hcV : V.cell? ⟨w.heap.size, 0, none⟩ = some (.slice a G.length cap) := by rw [hV]; exact (World.cell?_alloc_lt _ _ ⟨w.heap.size, 0, none⟩ (show w.heap.size < U.heap.size by omega)).trans (by rw [hU]; exact box_cell w _)
  have hAV : Arr V (w.heap.size + 1) 26 [Value.slice none 0 0] := by rw [hV, ← hUe]; exact Arr.new _ _ _
  have hVs : w.heap.size + 1 < V.heap.size := hAV.lt
  have HV : Hid (V = (w.alloc (.cells #[.slice a G.length cap] 26)).alloc (.cells [Value.slice none 0 0].toArray 26)) := Lib.hid (by rw [hV, hU])
  have HRS := Lib.hid (fun w2 (h : Below V.heap.size V w2) => hr.below (hbV.trans (h.mono hbV.size)))
  have HKC := Lib.hid (fun w2 (h : Below V.heap.size V w2) => (h.cell (p := ⟨w.heap.size, 0, none⟩) (show w.heap.size < V.heap.size by omega)).trans hcV)
  have HAV := Lib.hid hAV
  clear hU hV hUe hbU hbUV hr hAV
  have c1 := c1 V (HRS.out V (Below.refl _ _))
  cases hs : isSgB G
  · have HB : Hid (blowB G = false) := Lib.hid (by unfold blowB; rw [hs]; rfl)
    have HL : Hid (blowL G = []) := Lib.hid (by unfold blowL; rw [hs]; rfl)
    rw [hs] at c1
    clear hs hi hz0 hz1 hz2
    go_enter Tryz.func28, Tryz.ntmps28
    go_wp2_with (first | (refine wpList_alloc_arr 26 [Value.slice none 0 0] zeroSg rfl rfl ?_; rw [← HV.out]))
    go_wp2_with fail
    refine c1.mono ?_
    rintro e w1 ⟨rfl, hb1⟩
    clear c1 hcV
    have hA9' := HAV.out.below hb1
    have hbw9 := hbV.trans (hb1.mono hbV.size)
    go_wp2_with (first | (refine wpList_store_arr 26 (.tmp 2) (.tmp 11) (w.heap.size + 1) [Value.slice none 0 0] [Value.slice none 0 0] rfl rfl rfl rfl hA9' rfl sizeSg (by simp [Value.oneCell']) ?_; intro w9 hA9 hg9 hz9; clear hz9))
    have hb9 := hbw9.grown hg9 hbw9.size (fun k hk => by cases hk; omega)
    exact bodyPost_ret (results_arr_tmp rfl _ _ (w.heap.size + 1) [Value.slice none 0 0] dS rfl hA9 hdS hrS sizeSg) rfl ⟨_, by rw [HB.out]; rfl, by rw [HL.out]; exact World.ownsRow_nil _ _ _ _, hb9⟩
  · rw [hs] at c1
    have HB : Hid (blowB G = fromB (blowG G)) := Lib.hid (by unfold blowB; rw [hs]; rfl)
    have HL : Hid (blowL G = fromL (blowG G)) := Lib.hid (by unfold blowL; rw [hs]; rfl)
    have hne : G ≠ [] := (isSgB_iff.1 hs).ne
    have hlen : G.length ≤ 12 := (isSgB_iff.1 hs).len
    have hl0 : 0 < G.length := List.length_pos_iff.2 hne
    have HBN := Lib.hid (isSgB_iff.1 hs).bounds
    have HF := Lib.hid (blowG_full hne)
    have HBL := Lib.hid (blowG_len hne)
    have h0b := HBN.out _ (List.getElem_mem hl0)
    have hhd := headD_get hl0
    have HONE := Lib.hid (blowG_one G)
    have HTK := Lib.hid (fun k => blowG_take (G := G) k)
    clear hs
    rw [hhd] at HONE
    rw [hhd] at HTK
    obtain ⟨b, off, rfl, hbsV, hclV⟩ := (HRS.out V (Below.refl _ _)).open (by simpa using hne)
    have HCK : Hid (∀ w2, Below V.heap.size V w2 → ∀ (j : Nat) (hj : j < G.length), w2.cell? ⟨b, off + j, none⟩ = some (.int .i64 G[j])) := Lib.hid fun w2 h j hj => (h.cell (p := ⟨b, off + j, none⟩) hbsV).trans (hclV j _ (by simp [hj]))
    clear hbsV hclV
    go_enter Tryz.func28, Tryz.ntmps28
    go_wp2_with (first | (refine wpList_alloc_arr 26 [Value.slice none 0 0] zeroSg rfl rfl ?_; rw [← HV.out]))
    go_wp2_with fail
    refine c1.mono ?_
    rintro e w1 ⟨rfl, hb1⟩
    have hkc := HKC.out _ hb1
    have hc0 : w1.cell? ⟨b, off, none⟩ = some (.int .i64 G[0]) := HCK.out _ hb1 0 hl0
    clear c1 hcV
    generalize hg0 : G[0] = g0 at *
    have hO1 : (w1.alloc (.cells #[.int .i64 g0] 3)).ownsRow V.heap.size 3 1 (.slice (some ⟨w1.heap.size, 0, none⟩) 1 1) ((blowG G).take 1).length (((blowG G).take 1).map (Value.int .i64)) := by rw [HONE.out]; exact World.ownsRow_lit w1 #[.int .i64 g0] 1 hb1.size (by decide) rfl
    have hB1 : Below V.heap.size V (w1.alloc (.cells #[.int .i64 g0] 3)) := hb1.alloc hb1.size _
    have HO1 := Lib.hid hO1
    clear hO1
    go_wp2_with fail
    go_loopw [4, 5] (fun v i wr => ∃ k : Nat, 1 ≤ k ∧ k ≤ G.length ∧ i = .int .i64 (k : Int) ∧ wr.ownsRow V.heap.size 3 1 v ((blowG G).take k).length (((blowG G).take k).map (Value.int .i64)) ∧ Below V.heap.size V wr) (fun _ i _ => G.length - (intOf i).toNat)
    case atStart => exact ⟨1, Nat.le_refl _, by omega, rfl, HO1.out, hB1⟩
    case round =>
      clear HO1 hB1 hc0 hkc
      obtain ⟨k, hk1, hk, rfl, hown, hbel⟩ := hrel
      have hkc := HKC.out _ hbel
      have hsz := hbel.size
      by_cases hlt : k < G.length
      · have hlti : (k : Int) < (G.length : Int) := by omega
        have hx := HBN.out G[k] (List.getElem_mem hlt)
        have HT := Lib.hid (HTK.out k hk1 hlt)
        have hMl : ((blowG G).take k).length ≤ 12 := by rw [List.length_take]; omega
        have HK : Hid (∀ w2, Below V.heap.size V w2 → (w2.cell? ⟨w.heap.size, 0, none⟩ = some (.slice (some ⟨b, off, none⟩) G.length cap) ∧ w2.cell? ⟨b, off + k, none⟩ = some (.int .i64 G[k]) ∧ w2.cell? ⟨b, off, none⟩ = some (.int .i64 g0) ∧ Below V.heap.size V w2)) := Lib.hid fun w2 h => ⟨HKC.out _ h, HCK.out _ h k hlt, Eq.trans (HCK.out _ h 0 hl0) (by rw [hg0]), h⟩
        generalize G[k] = x at *
        generalize (blowG G).take k = M at *
        have hw1 : IntKind.i64.wrap (x - g0) = x - g0 := IntWalk.i64_in _ (by omega)
        go_wp2_with fail
        have hownD : wr.drew.ownsRow V.heap.size 3 1 _ M.length (M.map (Value.int .i64)) := hown
        have hS0 := HK.out _ hbel.drew
        clear hkc hown
        refine wp_region_held_drew (S := fun w' => (w'.cell? ⟨w.heap.size, 0, none⟩ = some (.slice (some ⟨b, off, none⟩) G.length cap) ∧ w'.cell? ⟨b, off + k, none⟩ = some (.int .i64 x) ∧ w'.cell? ⟨b, off, none⟩ = some (.int .i64 g0) ∧ Below V.heap.size V w')) (by kernel_rfl) hS0 (fun hHeld => ?_)
        refine held_take 0 _ _ rfl (by kernel_rfl) (by kernel_rfl) (by kernel_rfl) (fun _ _ _ h => h) (by rfl) hHeld (fun w hSw => by (try dsimp only at hSw); go_simp; try with_reducible rfl) ?_
        (try simp only [Act.put, List.setIfInBounds_toArray, List.set_cons_zero, List.set_cons_succ, List.getElem_toArray, List.getElem_cons_zero])
        refine held_take 1 _ _ rfl (by kernel_rfl) (by kernel_rfl) (by kernel_rfl) (fun _ _ _ h => h) (by rfl) hHeld (fun w hSw => by (try dsimp only at hSw); go_simp; try with_reducible rfl) ?_
        (try simp only [Act.put, List.setIfInBounds_toArray, List.set_cons_zero, List.set_cons_succ, List.getElem_toArray, List.getElem_cons_succ, List.getElem_cons_zero])
        refine held_take 2 _ _ rfl (by kernel_rfl) (by kernel_rfl) (by kernel_rfl) (fun _ _ _ h => h) (by rfl) hHeld (fun w hSw => by (try dsimp only at hSw); go_simp; try with_reducible rfl) ?_
        (try simp only [Act.put, List.setIfInBounds_toArray, List.set_cons_zero, List.set_cons_succ, List.getElem_toArray, List.getElem_cons_succ, List.getElem_cons_zero])
        refine held_take 3 _ _ rfl (by kernel_rfl) (by kernel_rfl) (by kernel_rfl) (fun _ _ _ h => h) (by rfl) hHeld (fun w hSw => by (try dsimp only at hSw); go_simp; try with_reducible rfl) ?_
        (try simp only [Act.put, List.setIfInBounds_toArray, List.set_cons_zero, List.set_cons_succ, List.getElem_toArray, List.getElem_cons_succ, List.getElem_cons_zero])
        refine held_take 4 _ _ rfl (by kernel_rfl) (by kernel_rfl) (by kernel_rfl) (fun _ _ _ h => h) (by rfl) hHeld (fun w hSw => by (try dsimp only at hSw); go_simp; try with_reducible rfl) ?_
        (try simp only [Act.put, List.setIfInBounds_toArray, List.set_cons_zero, List.set_cons_succ, List.getElem_toArray, List.getElem_cons_succ, List.getElem_cons_zero])
        refine held_take 5 _ _ rfl (by kernel_rfl) (by kernel_rfl) (by kernel_rfl) (fun _ _ _ h => h) (by rfl) hHeld (fun w hSw => by (try dsimp only at hSw); go_simp; try with_reducible rfl) ?_
        (try simp only [Act.put, List.setIfInBounds_toArray, List.set_cons_zero, List.set_cons_succ, List.getElem_toArray, List.getElem_cons_succ, List.getElem_cons_zero])
        refine held_take 6 _ _ rfl (by kernel_rfl) (by kernel_rfl) (by kernel_rfl) (fun _ _ _ h => h) (by rfl) hHeld (fun w hSw => by (try dsimp only at hSw); go_simp; try with_reducible rfl) ?_
        (try simp only [Act.put, List.setIfInBounds_toArray, List.set_cons_zero, List.set_cons_succ, List.getElem_toArray, List.getElem_cons_succ, List.getElem_cons_zero])
        refine held_take 7 _ _ rfl (by kernel_rfl) (by kernel_rfl) (by kernel_rfl) (fun _ _ _ h => h) (by rfl) hHeld (fun w hSw => by (try dsimp only at hSw); go_simp; try with_reducible rfl) ?_
        (try simp only [Act.put, List.setIfInBounds_toArray, List.set_cons_zero, List.set_cons_succ, List.getElem_toArray, List.getElem_cons_succ, List.getElem_cons_zero])
        refine held_take 8 _ _ rfl (by kernel_rfl) (by kernel_rfl) (by kernel_rfl) (fun _ _ _ h => h) (by rfl) hHeld (fun w hSw => by (try dsimp only at hSw); go_simp; try with_reducible rfl) ?_
        (try simp only [Act.put, List.setIfInBounds_toArray, List.set_cons_zero, List.set_cons_succ, List.getElem_toArray, List.getElem_cons_succ, List.getElem_cons_zero])
        refine held_take 9 _ _ rfl (by kernel_rfl) (by kernel_rfl) (by kernel_rfl) (fun _ _ _ h => h) (by rfl) hHeld (fun w hSw => by (try dsimp only at hSw); go_simp; try with_reducible rfl) ?_
        (try simp only [Act.put, List.setIfInBounds_toArray, List.set_cons_zero, List.set_cons_succ, List.getElem_toArray, List.getElem_cons_succ, List.getElem_cons_zero])
        refine held_take 10 _ _ rfl (by kernel_rfl) (by kernel_rfl) (by kernel_rfl) (fun _ _ _ h => h) (by rfl) hHeld (fun w hSw => by (try dsimp only at hSw); go_simp; try with_reducible rfl) ?_
        (try simp only [Act.put, List.setIfInBounds_toArray, List.set_cons_zero, List.set_cons_succ, List.getElem_toArray, List.getElem_cons_succ, List.getElem_cons_zero])
        refine wpAnyH_ready (rs := [11]) (by kernel_rfl) (by simp) ?_
        refine AllReadyH.cons rfl (fun K hK => ?_) AllReadyH.nil
        rw [if_pos (by rfl)]
        have hownC := hownD.alloc (.cells #[.int .i64 (x - g0)] 3)
        have hszC := ((hHeld).2.2.2.alloc (hHeld).2.2.2.size (.cells #[.int .i64 (x - g0)] 3)).size
        go_wp2_with fail
        refine hK.out _ _ (HK.out _ ((hHeld).2.2.2.alloc (hHeld).2.2.2.size _)) (fun hHeld1 => ?_)
        clear hK K
        (try simp only [Act.put, List.setIfInBounds_toArray, List.set_cons_zero, List.set_cons_succ, List.getElem_toArray, List.getElem_cons_succ, List.getElem_cons_zero])
        refine wpAnyH_ready (rs := [12]) (by kernel_rfl) (by simp) ?_
        refine AllReadyH.cons rfl (fun K hK => ?_) AllReadyH.nil
        rw [if_pos (by rfl)]
        refine wp_append_own _ (.tmp 24) (.tmp 35) 24 (by rfl) V.heap.size 3 i0 (Value.int .i64 0) 1 8 Tryz.underlying24 hi hz0 hz1 hz2 rfl (by decide) _ M.length (M.map (Value.int .i64)) (by rfl) hownC _ 1 _ [.int .i64 (x - g0)] (by rfl) rfl (World.news_of_block (cs := #[.int .i64 (x - g0)]) (t := 3) (fr := (0, 0)) (heap_alloc_new _ _)) (by simp [Value.oneCell']) (by unfold maxLen; omega) (by omega) hszC ?_; intro v2 w2 hown2 hg2 _
        refine hK.out _ _ (HK.out _ ((hHeld1).2.2.2.grown hg2 hszC (fun j hj => (hownC.lt j hj).1))) (fun hHeld2 => ?_)
        clear hK K
        (try simp only [Act.put, List.setIfInBounds_toArray, List.set_cons_zero, List.set_cons_succ, List.getElem_toArray, List.getElem_cons_succ, List.getElem_cons_zero])
        refine held_take 13 _ _ rfl (by kernel_rfl) (by kernel_rfl) (by kernel_rfl) (fun _ _ _ h => h) (by rfl) hHeld2 (fun w hSw => by (try dsimp only at hSw); go_simp; try with_reducible rfl) ?_
        (try simp only [Act.put, List.setIfInBounds_toArray, List.set_cons_zero, List.set_cons_succ, List.getElem_toArray, List.getElem_cons_succ, List.getElem_cons_zero])
        refine wpAnyH_done (by kernel_rfl) ?_ _
        have hbF := (hHeld2).2.2.2
        have HO : Hid (w2.ownsRow V.heap.size 3 1 v2 (M ++ [x - g0]).length ((M ++ [x - g0]).map (Value.int .i64))) := Lib.hid (by simpa using hown2)
        clear hownC hownD hown2 hg2 hszC hS0
        go_wp2_with fail
        go_roundw
        case rel => exact ⟨k + 1, by omega, by omega, by go_num, by rw [HT.out]; exact HO.out, hbF⟩
        case measure => simp [intOf]; omega
      · obtain rfl : k = G.length := by omega
        rw [HF.out] at hown
        obtain ⟨a1, k1, rfl, rX⟩ := row_open hown
        have cf := spec_FromGens (blowG G) a1 k1 wr rX.slv (by have := HBL.out; omega)
        have hlti : ¬ ((G.length : Nat) : Int) < (G.length : Int) := by omega
        clear hown rX
        generalize fromB (blowG G) = fb at *
        generalize hK : fromL (blowG G) = K at *
        clear hK
        go_wp2_with fail
        refine cf.mono ?_
        rintro e w5 ⟨v5, rfl, ho5, hb5⟩
        have hb5V := hbel.trans (hb5.mono hsz)
        clear cf hkc
        obtain ⟨a9, k9, rfl, -⟩ := row_open ho5
        have hbw8 := hbV.trans (hb5V.mono hbV.size)
        have hA8 := HAV.out.below hb5V
        have hN := Arr.new w5 26 [Value.slice none 0 0]
        have hA8c := hA8.alloc (.cells [Value.slice none 0 0].toArray 26)
        have hbw7 := hbw8.alloc (o := .cells [Value.slice none 0 0].toArray 26) hbw8.size
        have ho8c := ho5.alloc (.cells [Value.slice none 0 0].toArray 26)
        have hsw8 := hb5V.size
        have hsb8 := hbel.size
        have hn8 := own_apart ho5 (g := w5.heap.size) (.inr (Nat.le_refl _))
        have hn7 := own_apart ho5 (g := w.heap.size + 1) (.inl (by omega))
        clear ho5 hA8
        go_wp2_with (first | (refine wpList_alloc_arr 26 [Value.slice none 0 0] zeroSg rfl rfl ?_) | (refine wpList_store_arr 26 (.tmp 6) (.tmp 40) w5.heap.size [Value.slice none 0 0] [Value.slice a9 K.length k9] rfl rfl rfl rfl hN rfl sizeSg (by simp [Value.oneCell']) ?_; intro wN hN6 hg6 hz6; clear hz6; have hcN := hN6.cell 0) | (refine wpList_store_arr 26 (.tmp 2) (.tmp 42) (w.heap.size + 1) [Value.slice none 0 0] [Value.slice a9 K.length k9] rfl rfl rfl rfl (hA8c.grown hg6 (by simp; omega)) rfl sizeSg (by simp [Value.oneCell']) ?_; intro w9 hA9 hg9 hz9; clear hz9))
        have hb6 := hbw7.grown hg6 hbw7.size (fun k hk => by cases hk; omega)
        have hb9 := hb6.grown hg9 hb6.size (fun k hk => by cases hk; omega)
        have ho9 := (ho8c.kept hg6 hn8).kept hg9 hn7
        exact bodyPost_ret (results_arr_tmp rfl _ _ (w.heap.size + 1) [Value.slice a9 K.length k9] dS rfl hA9 hdS hrS sizeSg) rfl ⟨_, by rw [HB.out]; rfl, by rw [HL.out]; exact ownsBase ho9 (by omega), hb9⟩

set_option maxRecDepth 100000 in
set_option maxHeartbeats 1600000 in
theorem spec_MultiplicitySequence (G : List Int) (a : Option Addr) (cap : Nat) (w : World) (hr : SlV w a (G.map (Value.int .i64))) (hb : G.length ≤ 1048576) :
    Calls Tryz.prog 30 #[.agg #[.slice a G.length cap]] w (ReadPost (seqF 201 G) w) := by
  obtain ⟨i0, hi, hz0, hz1, hz2⟩ := info_parts infoIntL
  have hA0 := Arr.new w 26 [.slice a G.length cap]
  have hb0 := box_below w (.cells #[.slice a G.length cap] 26)
  have hr0 := hr.below hb0
  obtain ⟨X, hX⟩ : ∃ X, X = w.alloc (.cells #[.slice a G.length cap] 26) := ⟨_, rfl⟩
  rw [show w.alloc (.cells [Value.slice a G.length cap].toArray 26) = X from hX.symm] at hA0
  rw [← hX] at hb0 hr0
  have hzX : X.heap.size = w.heap.size + 1 := by rw [hX]; simp
  have HX := Lib.hid hX
  clear hX
  have hO : (X.alloc (.cells #[] 3)).ownsRow (w.heap.size + 1) 3 1 (.slice (some ⟨w.heap.size + 1, 0, none⟩) 0 0) 0 [] := by rw [← hzX]; exact World.ownsRow_lit X #[] 0 (by omega) (by simp) rfl
  have hap0 : G.map (Value.int .i64) = [] ∨ ∀ b o, a = some ⟨b, o, none⟩ → ∀ j, Value.ownBlock (.slice (some ⟨w.heap.size + 1, 0, none⟩) 0 0) = some j → j ≠ b := by
    rcases hr with h | ⟨b', o', e', hl, -⟩
    · exact .inl h
    · right
      intro b o e j hj
      rw [e] at e'; cases e'
      simp [Value.ownBlock] at hj
      omega
  have hS : (fun (v : Value) (wr : World) => ∃ (out H : List Int) (aH : Option Addr) (cH f : Nat), SeqAt G out H f ∧ wr.ownsRow (w.heap.size + 1) 3 1 v out.length (out.map (Value.int .i64)) ∧ Arr wr w.heap.size 26 [.slice aH H.length cH] ∧ SlV wr aH (H.map (Value.int .i64)) ∧ (H.map (Value.int .i64) = [] ∨ ∀ b o, aH = some ⟨b, o, none⟩ → ∀ j, Value.ownBlock v = some j → j ≠ b) ∧ H.length ≤ 1048576 ∧ w.heap.size + 1 ≤ wr.heap.size ∧ Below w.heap.size w wr) (.slice (some ⟨w.heap.size + 1, 0, none⟩) 0 0) (X.alloc (.cells #[] 3)) := ⟨[], G, a, cap, 201, SeqAt.start G, hO, hA0.alloc _, hr0.below (box_below X (.cells #[] 3)), hap0, hb, by simp; omega, hb0.alloc hb0.size _⟩
  have HS := Lib.hid hS
  clear hS hO hap0 hA0 hb0 hr0 hr hb
  go_enter Tryz.func30, Tryz.ntmps30
  go_wp2_with (rw [← HX.out])
  go_loopw [4] (fun v wr => ∃ (out H : List Int) (aH : Option Addr) (cH f : Nat), SeqAt G out H f ∧ wr.ownsRow (w.heap.size + 1) 3 1 v out.length (out.map (Value.int .i64)) ∧ Arr wr w.heap.size 26 [.slice aH H.length cH] ∧ SlV wr aH (H.map (Value.int .i64)) ∧ (H.map (Value.int .i64) = [] ∨ ∀ b o, aH = some ⟨b, o, none⟩ → ∀ j, Value.ownBlock v = some j → j ≠ b) ∧ H.length ≤ 1048576 ∧ w.heap.size + 1 ≤ wr.heap.size ∧ Below w.heap.size w wr) (fun v _ => 202 - lenV v)
  case atStart => exact HS.out
  case round =>
    clear HS
    obtain ⟨out, H, aH, cH, f, hat, hown, hA, hsl, hap, hHl, hsz, hbel⟩ := hrel
    obtain ⟨cv, kv, rfl, -⟩ := row_open hown
    have hcell := hA.cell 0
    have ci := spec_IsSemigroup H aH cH wr hsl hHl
    cases hs : isSgB H
    · have HR := Lib.hid (hat.outF hs)
      rw [hs] at ci
      clear hs hat
      go_wp2_with fail
      refine ci.mono ?_
      rintro e w2 ⟨rfl, hb2⟩
      have hbel2 := hbel.trans (hb2.mono hbel.size)
      go_wp2_with fail
      go_ret2
      exact ⟨_, by rw [HR.out]; rfl, by rw [HR.out]; exact World.ownsRow_lit w2 #[] 0 hbel2.size (by simp) rfl, hbel2.alloc hbel2.size _⟩
    · obtain ⟨g, rfl⟩ := hat.pos hs
      have hne : H ≠ [] := (isSgB_iff.1 hs).ne
      have hl0 : 0 < H.length := List.length_pos_iff.2 hne
      have hhd := headD_get hl0
      have hat6 : ∀ W, SlV W aH (H.map (Value.int .i64)) → ∃ b o, aH = some ⟨b, o, none⟩ ∧ W.cell? ⟨b, o, none⟩ = some (.int .i64 H[0]) := fun W h => by
        obtain ⟨b, o, e, -, hc⟩ := h.open (by simpa using hne)
        exact ⟨b, o, e, hc 0 _ (by simp)⟩
      obtain ⟨b, o, rfl, -⟩ := hat6 wr hsl
      replace hat6 : ∀ W, SlV W (some ⟨b, o, none⟩) (H.map (Value.int .i64)) → W.cell? ⟨b, o, none⟩ = some (.int .i64 H[0]) := fun W h => by
        obtain ⟨b', o', e, hc⟩ := hat6 W h
        cases e; exact hc
      have hol : out.length ≤ 201 := by have := hat.len; omega
      have HLEN := Lib.hid hat.len
      have hbl := blowL_len H
      have cb := fun W (h : SlV W (some ⟨b, o, none⟩) (H.map (Value.int .i64))) => spec_BlowUp H (some ⟨b, o, none⟩) cH W h hHl
      rw [hs] at ci
      by_cases h1 : H[0] = 1
      · have HR := Lib.hid (hat.doneF hs (hhd.trans h1))
        rw [h1] at hat6
        obtain ⟨h0, hh0⟩ : ∃ h0 : Int, h0 = 1 := ⟨1, rfl⟩
        rw [← hh0] at hat6 HR
        have hq : (h0 == 1) = true := by rw [hh0]; rfl
        clear hs hat h1 hhd hh0
        go_wp2_with fail
        refine ci.mono ?_
        rintro e w2 ⟨rfl, hb2⟩
        have hownX := owns_below hown hb2
        have hAX := hA.below hb2
        have hslX := hsl.below hb2
        have hbX := hbel.trans (hb2.mono hbel.size)
        have hszX := Nat.le_trans hsz hb2.size
        have hkX := hAX.cell 0
        have hcX := hat6 _ hslX
        clear ci hown hA hsl hbel hcell hb2
        go_wp2_with (first
              | (at_builtin; refine wpList_append_own _ rfl (.tmp 8) (.tmp 13) 24 rfl (w.heap.size + 1) 3 i0 (Value.int .i64 0) 1 8 Tryz.underlying24 hi hz0 hz1 hz2 rfl (by decide) _ _ _ rfl (hownX.alloc _) ⟨_, 0, none⟩ 1 1 [.int .i64 h0] rfl rfl (World.news_of_block (cs := #[.int .i64 h0]) (t := 3) (fr := (0, 0)) (heap_alloc_new _ _)) (by simp [Value.oneCell']) (by unfold maxLen; omega) (by omega) (by simp; omega) ?_; intro v6 w6 hown6 hg6 _; have hlx := hownX.lt; have hA6 := (hAX.alloc (.cells #[.int .i64 h0] 3)).grown hg6 (fun e => by have := (hlx _ e.symm).1; omega); have hsl6 := slv_grown (hslX.below (box_below _ (.cells #[.int .i64 h0] 3))) hg6 hap; have hbel6 := (hbX.alloc hbX.size (.cells #[.int .i64 h0] 3)).grown hg6 (by simp; omega) (fun j hj => by have := (hlx j hj).1; omega); have hsz6 : w.heap.size + 1 ≤ w6.heap.size := (by have := hg6.size; simp at this; omega); have hk6 := hA6.cell 0; have hc6 := hat6 _ hsl6))
        go_ret2
        exact ⟨_, by rw [HR.out]; rfl, by rw [HR.out]; have := ownsBase hown6 (Nat.le_succ w.heap.size); simpa using this, hbel6⟩
      · have hn1 : H.headD 0 ≠ 1 := by rw [hhd]; exact h1
        have HN := Lib.hid (hat.next hs hn1)
        rw [hhd] at HN
        clear hs hat hhd hn1
        generalize H[0] = h0 at *
        have hq : (h0 == 1) = false := by rw [beq_eq_false_iff_ne]; exact h1
        clear h1
        go_wp2_with fail
        refine ci.mono ?_
        rintro e w2 ⟨rfl, hb2⟩
        have hownX := owns_below hown hb2
        have hAX := hA.below hb2
        have hslX := hsl.below hb2
        have hbX := hbel.trans (hb2.mono hbel.size)
        have hszX := Nat.le_trans hsz hb2.size
        have hkX := hAX.cell 0
        have hcX := hat6 _ hslX
        clear ci hown hA hsl hbel hcell hb2
        go_wp2_with (first
              | (at_builtin; refine wpList_append_own _ rfl (.tmp 8) (.tmp 13) 24 rfl (w.heap.size + 1) 3 i0 (Value.int .i64 0) 1 8 Tryz.underlying24 hi hz0 hz1 hz2 rfl (by decide) _ _ _ rfl (hownX.alloc _) ⟨_, 0, none⟩ 1 1 [.int .i64 h0] rfl rfl (World.news_of_block (cs := #[.int .i64 h0]) (t := 3) (fr := (0, 0)) (heap_alloc_new _ _)) (by simp [Value.oneCell']) (by unfold maxLen; omega) (by omega) (by simp; omega) ?_; intro v6 w6 hown6 hg6 _; have hlx := hownX.lt; have hA6 := (hAX.alloc (.cells #[.int .i64 h0] 3)).grown hg6 (fun e => by have := (hlx _ e.symm).1; omega); have hsl6 := slv_grown (hslX.below (box_below _ (.cells #[.int .i64 h0] 3))) hg6 hap; have hbel6 := (hbX.alloc hbX.size (.cells #[.int .i64 h0] 3)).grown hg6 (by simp; omega) (fun j hj => by have := (hlx j hj).1; omega); have hsz6 : w.heap.size + 1 ≤ w6.heap.size := (by have := hg6.size; simp at this; omega); have hk6 := hA6.cell 0; have hc6 := hat6 _ hsl6))
        refine (cb _ hsl6).mono ?_
        rintro e w7 ⟨v7, rfl, ho7, hb7⟩
        obtain ⟨a7, k7, rfl, rX7⟩ := row_open ho7
        have hown7 := owns_below hown6 hb7
        have hA7 := hA6.below hb7
        have hbel7 := hbel6.trans (hb7.mono hbel6.size)
        have hsz7 := Nat.le_trans hsz6 hb7.size
        have hl6 := hown6.lt
        have hl7 := ho7.lt
        clear cb hk6 hc6 hAX hownX hslX hbX hkX hcX hlx
        go_wp2_with (first | (refine wpList_store_arr 26 (.tmp 1) (.tmp 24) w.heap.size [Value.slice (some ⟨b, o, none⟩) H.length cH] [Value.slice a7 (blowL H).length k7] rfl rfl rfl rfl hA7 rfl sizeSg (by simp [Value.oneCell']) ?_; intro w9 hA9 hg9 hz9))
        have hbel9 := hbel7.grown hg9 hbel7.size (fun k hk => by cases hk; exact Nat.le_refl _)
        have hown9 := hown7.kept hg9 (own_apart hown7 (g := w.heap.size) (.inl (by omega)))
        have hsl9 := slv_grown rX7.slv hg9 (.inr (fun b' o' e j hj => by cases hj; have := (hl7 b' (by rw [e]; rfl)).1; omega))
        have HO : Hid (w9.ownsRow (w.heap.size + 1) 3 1 v6 (out ++ [h0]).length ((out ++ [h0]).map (Value.int .i64))) := Lib.hid (by simpa using hown9)
        obtain ⟨c6, k6, e6, -⟩ := row_open hown6
        simp only [Act.put]
        go_roundw
        case rel => exact ⟨out ++ [h0], blowL H, a7, k7, g, HN.out, HO.out, hA9, hsl9, .inr (fun b' o' e j hj => by have h1 := (hl6 j hj).2; have h2 := (hl7 b' (by rw [e]; rfl)).1; omega), by omega, by have := hg9.size; omega, hbel9⟩
        case measure => subst e6; simp [lenV]; omega

end Go.Proofs.YtipfonpaaebjjaaGreat
