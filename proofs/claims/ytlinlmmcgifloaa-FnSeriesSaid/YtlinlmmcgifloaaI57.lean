/-
  CONTRACTS of the program's chapter 15: EulerList. (Own work: mkI57.py.)
-/
import Derived.Test.YtlinlmmcgifloaaI56
import Derived.Test.YtlinlmmcgifloaaCh11I
namespace Go.Proofs.Ytlinlmmcgifloaa
open Go Go.RowKit
attribute [local go_sem] Oper.semAt_some

theorem own_drew {w : World} {base : Nat} {e : TypeId} {v : Value} {n : Nat} {xs : List Value} (h : w.ownsRow base e 1 v n xs) : w.drew.ownsRow base e 1 v n xs := h
theorem row_slv {w : World} {lo n c : Nat} {a : Option Addr} {xs : List Value} (h : w.ownsRow lo 3 1 (.slice a n c) n xs) : SlV w a xs := by
  obtain ⟨a', c', e, rX⟩ := row_open h
  cases e; exact rX.slv
theorem fac_more {G : List Int} {base b5 b0 n k5 : Nat} {vs : List Value} {w w6 : World} {a5 : Option Addr} {v6 : Value} {M : List Int} (f : FacAt G base G.length vs w) (o5 : w.ownsRow b5 3 1 (.slice a5 n k5) n (M.map (Value.int .i64))) (hb : base < b5)
    (hg : w.grownBy w6 (Value.slice (some ⟨base, 0, none⟩) G.length G.length).ownBlock) (ho : w6.ownsRow b0 24 1 v6 (G.length + 1) (vs ++ [.slice a5 n k5])) : ∃ a6 k6, v6 = .slice a6 (G.length + 1) k6 ∧ Sl2 w6 a6 (G.map facF ++ [M]) := by
  obtain ⟨g, k6, rfl⟩ := ownsRow_succ ho
  have o6 := o5.kept hg (.inr fun e => by have h : base = base := rfl; have := (o5.lt base e).1; omega)
  have hn : n = M.length := by have := o5.1; simp at this; omega
  subst hn
  refine ⟨_, k6, rfl, vs ++ [.slice a5 M.length k5], .inr ⟨g, 0, rfl, (ho.lt g rfl).2, row_cells ho⟩, by simp [f.len], fun i h h' => ?_⟩
  by_cases hi : i < G.length
  · obtain ⟨p, c, h1, h2, h3, h4⟩ := (f.rows i hi hi).keep hg.size (fun j hj hne => hg.block j hj (fun e => hne (Option.some.inj e)))
    refine ⟨some ⟨p, 0, none⟩, c, ?_, .inr ⟨p, 0, rfl, h2, ?_⟩⟩
    · rw [List.getElem_append_left (by rw [f.len]; exact hi)]
      rw [List.getElem?_eq_getElem (by rw [f.len]; exact hi)] at h3
      rw [Option.some.inj h3]
      simp [List.getElem_append_left, hi]
    · have e : (G.map facF ++ [M])[i] = facF G[i] := by simp [List.getElem_append_left, hi]
      rw [e]; exact h4
  · have hie : i = G.length := by simp [f.len] at h; omega
    have e1 : (vs ++ [Value.slice a5 M.length k5])[i] = .slice a5 M.length k5 := by rw [List.getElem_append_right (by rw [f.len]; omega)]; simp
    have e2 : (G.map facF ++ [M])[i] = M := by rw [List.getElem_append_right (by simp; omega)]; simp
    rw [e1, e2]
    exact ⟨a5, k5, rfl, row_slv o6⟩
theorem eul_prod {G : List Int} : prodW (G.map facF ++ [numL G]) = eulP G := by
  rw [prodW_snoc]; unfold eulP facP; rw [List.take_length]
theorem eul_lists2 {G : List Int} (hs : isSgB G = true) : (G.map facF ++ [numL G]).length ≤ 1048576 ∧ (∀ L ∈ G.map facF ++ [numL G], 1 ≤ L.length ∧ L.length ≤ 1048576) ∧ (∀ k, k ≤ (G.map facF ++ [numL G]).length → (prodW ((G.map facF ++ [numL G]).take k)).length ≤ 1048576) := by
  obtain ⟨h1, h2, -⟩ := eul_lists hs
  have hc := condNat_le G
  have hn : (numL G).length = condNat G + 1 := by rw [numL_yes hs]; simp
  have hl : ∀ L ∈ G.map facF ++ [numL G], 1 ≤ L.length ∧ L.length ≤ 1048576 := fun L hL => by
    rcases List.mem_append.1 hL with h | h
    · exact h2 L h
    · simp at h; subst h; omega
  refine ⟨by have := (isSgB_iff.1 hs).len; simp; omega, hl, fun k hk => ?_⟩
  rw [prodW_len (fun L hL => (hl L hL).1) k hk, List.map_take]
  have h3 := sum_take_le ((G.map facF ++ [numL G]).map fun L => L.length - 1) k
  have h4 := fac_sum hs
  rw [List.map_append, List.sum_append] at h3
  simp only [List.map_cons, List.map_nil, List.sum_cons, List.sum_nil] at h3
  rw [List.map_append]
  simp only [List.map_cons, List.map_nil]
  omega

set_option maxRecDepth 100000 in
set_option maxHeartbeats 1600000 in
theorem impl_EulerList (G : List Int) (a : Option Addr) (cap : Nat) (w : World) (hr : SlV w a (G.map (Value.int .i64))) (hb : G.length ≤ 1048576) :
    Calls Try.prog 30 #[.agg #[.slice a G.length cap]] w (SlPost (eulL G) w) := by
  obtain ⟨j0, ji, jz0, jz1, jz2⟩ := info_parts infoSlI
  obtain ⟨V, hV⟩ : ∃ V, V = w.alloc (.cells #[.slice a G.length cap] 26) := ⟨_, rfl⟩
  have hbV : Below w.heap.size w V := by rw [hV]; exact box_below _ _
  have hc0 : V.cell? ⟨w.heap.size, 0, none⟩ = some (.slice a G.length cap) := by rw [hV]; exact box_cell w _
  have hVs : w.heap.size < V.heap.size := by rw [hV]; simp
  have HV := Lib.hid hV
  have HKV : Hid (∀ w2, Below V.heap.size V w2 → w2.cell? ⟨w.heap.size, 0, none⟩ = some (.slice a G.length cap)) := Lib.hid fun w2 h => (h.cell (p := ⟨w.heap.size, 0, none⟩) hVs).trans hc0
  clear hV
  have c1 := impl_IsSemigroup G a cap V (hr.below hbV) hb
  cases hs : isSgB G
  · have HE := Lib.hid (eulL_no hs)
    rw [hs] at c1
    clear hs hr ji jz0 jz1 jz2
    go_enter Try.func30, Try.ntmps30
    go_wp2_with fail
    rw [← HV.out]
    refine c1.mono ?_
    rintro e w1 ⟨rfl, hb1⟩
    go_wp2_with fail
    go_ret
    exact ⟨_, rfl, by rw [HE.out]; exact World.ownsRow_nil _ _ _ _, hbV.trans (hb1.mono hbV.size)⟩
  · rw [hs] at c1
    have hS := isSgB_iff.1 hs
    have hlenG := hS.len
    have h0G := (okG_iff.1 hS.ok).2.1
    have cf := fun W (h : Below V.heap.size V W) => impl_factorsOf G hS.bounds h0G hlenG a cap W (hr.below (hbV.trans (h.mono hbV.size)))
    have cn := fun W (h : Below V.heap.size V W) => impl_NumeratorOf G a cap W (hr.below (hbV.trans (h.mono hbV.size))) hb
    have cr := fun W (h : Below V.heap.size V W) => impl_FrobeniusOf G a cap W (hr.below (hbV.trans (h.mono hbV.size))) hb
    have cs := fun W (h : Below V.heap.size V W) => impl_sumOf G a cap W (hr.below (hbV.trans (h.mono hbV.size))) hlenG (fun x hx => by have := hS.bounds x hx; omega)
    have cp : ∀ q k W, Sl2 W q (G.map facF ++ [numL G]) → Calls Try.prog 93 #[.slice q (G.length + 1) k] W (SlPost (eulP G) W) := fun q k W h => by
      have c := impl_productOf (G.map facF ++ [numL G]) q k W h (eul_lists2 hs).1 (eul_lists2 hs).2.1 (eul_lists2 hs).2.2
      rw [eul_prod, show (G.map facF ++ [numL G]).length = G.length + 1 by simp] at c
      exact c
    have hSb := eulS_bnd hs G.length
    have hPl := eulP_len hs
    have hSe : frobN G + G.sum + 1 = eulS G G.length := by have := condN_yes hs; unfold condN at this; unfold eulS; rw [List.take_length]; omega
    have hfb : -1 ≤ frobN G ∧ frobN G ≤ 200 := by have := condN_yes hs; have := condNat_le G; unfold condN at *; omega
    have hsb := genSum_bnd G hS.bounds
    have HE := Lib.hid (eul_series hs)
    have cx : ∀ q k W, SlV W q ((eulP G).map (Value.int .i64)) → Calls Try.prog 32 #[.slice q (eulP G).length k, .int .i64 (frobN G + G.sum + 1)] W (SlPost (seriesL (eulP G) (eulS G G.length)) W) := fun q k W h => by
      have c := impl_SeriesFrom (eulP G) (eulS G G.length) q k W h (by omega)
      rw [← hSe] at c
      rw [← hSe]
      exact c
    have hw1 : IntKind.i64.wrap (frobN G + G.sum) = frobN G + G.sum := IntWalk.i64_in _ (by omega)
    have hw2 : IntKind.i64.wrap (frobN G + G.sum + 1) = frobN G + G.sum + 1 := IntWalk.i64_in _ (by omega)
    have HK : Hid (∀ w2, Below V.heap.size V w2 → w2.cell? ⟨w.heap.size, 0, none⟩ = some (.slice a G.length cap) ∧ Below V.heap.size V w2) := Lib.hid fun w2 h => ⟨HKV.out w2 h, h⟩
    replace HE : Hid (eulL G = seriesL (eulP G) (eulS G G.length)) := Lib.hid HE.out.symm
    clear hr hs hS hPl hSe hSb hsb hfb hc0
    go_enter Try.func30, Try.ntmps30
    go_wp2_with fail
    rw [← HV.out]
    refine c1.mono ?_
    rintro e w1 ⟨rfl, hb1⟩
    have hS0 := HK.out _ hb1.drew
    clear c1
    go_wp2_with fail
    refine wp_region_held_drew (S := fun w' => w'.cell? ⟨w.heap.size, 0, none⟩ = some (.slice a G.length cap) ∧ Below V.heap.size V w') (by kernel_rfl) hS0 (fun hHeld => ?_)
    refine held_take 0 _ _ rfl (by kernel_rfl) (by kernel_rfl) (by kernel_rfl) (fun _ _ _ h => h) (by rfl) hHeld (fun w hSw => by (try dsimp only at hSw); go_simp; try with_reducible rfl) ?_
    (try simp only [Act.put, List.setIfInBounds_toArray, List.set_cons_zero, List.set_cons_succ, List.getElem_toArray, List.getElem_cons_zero])
    refine held_take 1 _ _ rfl (by kernel_rfl) (by kernel_rfl) (by kernel_rfl) (fun _ _ _ h => h) (by rfl) hHeld (fun w hSw => by (try dsimp only at hSw); go_simp; try with_reducible rfl) ?_
    (try simp only [Act.put, List.setIfInBounds_toArray, List.set_cons_zero, List.set_cons_succ, List.getElem_toArray, List.getElem_cons_succ, List.getElem_cons_zero])
    refine held_take 3 _ _ rfl (by kernel_rfl) (by kernel_rfl) (by kernel_rfl) (fun _ _ _ h => h) (by rfl) hHeld (fun w hSw => by (try dsimp only at hSw); go_simp; try with_reducible rfl) ?_
    (try simp only [Act.put, List.setIfInBounds_toArray, List.set_cons_zero, List.set_cons_succ, List.getElem_toArray, List.getElem_cons_succ, List.getElem_cons_zero])
    refine wpAnyH_ready (rs := [2]) (by kernel_rfl) (by simp) ?_
    refine AllReadyH.cons rfl (fun K hK => ?_) AllReadyH.nil
    rw [if_pos (by rfl)]
    go_wp2_with (first | (go_at_call 94; (with_reducible refine (cf _ hHeld.2).mono ?_); rintro e w4 ⟨vs, rfl, hfac, hb4⟩; have hzf := (hHeld).2.size))
    refine hK.out _ _ (HK.out _ ((hHeld).2.trans (hb4.mono (hHeld).2.size))) (fun hHeld1 => ?_)
    clear hK K
    (try simp only [Act.put, List.setIfInBounds_toArray, List.set_cons_zero, List.set_cons_succ, List.getElem_toArray, List.getElem_cons_succ, List.getElem_cons_zero])
    refine wpAnyH_ready (rs := [4]) (by kernel_rfl) (by simp) ?_
    refine AllReadyH.cons rfl (fun K hK => ?_) AllReadyH.nil
    rw [if_pos (by rfl)]
    go_wp2_with (first | (go_at_call 24; (with_reducible refine (cn _ hHeld1.2).mono ?_); rintro e w5 ⟨v5, rfl, ho5, hb5⟩; obtain ⟨a5, k5, rfl, -⟩ := row_open ho5; have hz5 := (hfac.own.lt _ rfl).2; replace hfac := hfac.below hb5))
    refine hK.out _ _ (HK.out _ ((hHeld1).2.trans (hb5.mono (hHeld1).2.size))) (fun hHeld2 => ?_)
    clear hK K
    (try simp only [Act.put, List.setIfInBounds_toArray, List.set_cons_zero, List.set_cons_succ, List.getElem_toArray, List.getElem_cons_succ, List.getElem_cons_zero])
    refine wpAnyH_ready (rs := [5]) (by kernel_rfl) (by simp) ?_
    refine AllReadyH.cons rfl (fun K hK => ?_) AllReadyH.nil
    rw [if_pos (by rfl)]
    have hfac6 := hfac.below (box_below w5 (.cells #[.slice a5 (numL G).length k5] 24))
    have ho6 := owns_below ho5 (box_below w5 (.cells #[.slice a5 (numL G).length k5] 24))
    clear hfac ho5
    go_wp2_with fail
    refine hK.out _ _ (HK.out _ ((hHeld2).2.alloc (hHeld2).2.size _)) (fun hHeld3 => ?_)
    clear hK K
    (try simp only [Act.put, List.setIfInBounds_toArray, List.set_cons_zero, List.set_cons_succ, List.getElem_toArray, List.getElem_cons_succ, List.getElem_cons_zero])
    refine wpAnyH_ready (rs := [6]) (by kernel_rfl) (by simp) ?_
    refine AllReadyH.cons rfl (fun K hK => ?_) AllReadyH.nil
    rw [if_pos (by rfl)]
    refine wp_append_own_at _ (.tmp 9) (.tmp 12) 64 (by rfl) _ 24 j0 (Value.slice none 0 0) 1 24 Try.underlying64 ji jz0 jz1 jz2 rfl (by decide) _ _ _ (by rfl) hfac6.own ⟨w5.heap.size, 0, none⟩ 1 _ [.slice a5 (numL G).length k5] (by rfl) (by simp) (cell_one_new _ _ _) (by simp [Value.oneCell']) (by unfold maxLen; omega) (by omega) (Nat.le_of_lt (hfac6.own.lt _ rfl).2) ?_
    intro v6 w6 hov hg6 _ _
    obtain ⟨a6, k6, rfl, hS6⟩ := fac_more hfac6 ho6 hz5 hg6 hov
    clear hfac6 ho6 hov
    refine hK.out _ _ (HK.out _ ((hHeld3).2.grown hg6 (hHeld3).2.size (fun j hj => by rw [← Option.some.inj hj]; exact hzf))) (fun hHeld4 => ?_)
    clear hK K
    (try simp only [Act.put, List.setIfInBounds_toArray, List.set_cons_zero, List.set_cons_succ, List.getElem_toArray, List.getElem_cons_succ, List.getElem_cons_zero])
    refine wpAnyH_ready (rs := [7]) (by kernel_rfl) (by simp) ?_
    refine AllReadyH.cons rfl (fun K hK => ?_) AllReadyH.nil
    rw [if_pos (by rfl)]
    go_wp2_with (first | (go_at_call 93; (with_reducible refine (cp _ _ _ hS6).mono ?_); rintro e w7 ⟨v7, rfl, ho7, hb7⟩; obtain ⟨a7, k7, rfl, -⟩ := row_open ho7; have hz7 := Nat.le_trans hbV.size (hHeld4).2.size))
    refine hK.out _ _ (HK.out _ ((hHeld4).2.trans (hb7.mono (hHeld4).2.size))) (fun hHeld5 => ?_)
    clear hK K
    (try simp only [Act.put, List.setIfInBounds_toArray, List.set_cons_zero, List.set_cons_succ, List.getElem_toArray, List.getElem_cons_succ, List.getElem_cons_zero])
    refine held_take 8 _ _ rfl (by kernel_rfl) (by kernel_rfl) (by kernel_rfl) (fun _ _ _ h => h) (by rfl) hHeld5 (fun w hSw => by (try dsimp only at hSw); go_simp; try with_reducible rfl) ?_
    (try simp only [Act.put, List.setIfInBounds_toArray, List.set_cons_zero, List.set_cons_succ, List.getElem_toArray, List.getElem_cons_succ, List.getElem_cons_zero])
    refine wpAnyH_done (by kernel_rfl) ?_ _
    have hS7 := HK.out _ (hHeld5).2.drew
    have ho7d := own_drew ho7
    clear hS0 ho7
    go_wp2_with fail
    have ho7 := ho7d
    clear ho7d
    refine wp_region_held_drew (S := fun w' => w'.cell? ⟨w.heap.size, 0, none⟩ = some (.slice a G.length cap) ∧ Below V.heap.size V w') (by kernel_rfl) hS7 (fun hHeldB => ?_)
    refine held_take 0 _ _ rfl (by kernel_rfl) (by kernel_rfl) (by kernel_rfl) (fun _ _ _ h => h) (by rfl) hHeldB (fun w hSw => by (try dsimp only at hSw); go_simp; try with_reducible rfl) ?_
    (try simp only [Act.put, List.setIfInBounds_toArray, List.set_cons_zero, List.set_cons_succ, List.getElem_toArray, List.getElem_cons_zero])
    refine held_take 1 _ _ rfl (by kernel_rfl) (by kernel_rfl) (by kernel_rfl) (fun _ _ _ h => h) (by rfl) hHeldB (fun w hSw => by (try dsimp only at hSw); go_simp; try with_reducible rfl) ?_
    (try simp only [Act.put, List.setIfInBounds_toArray, List.set_cons_zero, List.set_cons_succ, List.getElem_toArray, List.getElem_cons_succ, List.getElem_cons_zero])
    refine held_take 3 _ _ rfl (by kernel_rfl) (by kernel_rfl) (by kernel_rfl) (fun _ _ _ h => h) (by rfl) hHeldB (fun w hSw => by (try dsimp only at hSw); go_simp; try with_reducible rfl) ?_
    (try simp only [Act.put, List.setIfInBounds_toArray, List.set_cons_zero, List.set_cons_succ, List.getElem_toArray, List.getElem_cons_succ, List.getElem_cons_zero])
    refine held_take 4 _ _ rfl (by kernel_rfl) (by kernel_rfl) (by kernel_rfl) (fun _ _ _ h => h) (by rfl) hHeldB (fun w hSw => by (try dsimp only at hSw); go_simp; try with_reducible rfl) ?_
    (try simp only [Act.put, List.setIfInBounds_toArray, List.set_cons_zero, List.set_cons_succ, List.getElem_toArray, List.getElem_cons_succ, List.getElem_cons_zero])
    refine wpAnyH_ready (rs := [2]) (by kernel_rfl) (by simp) ?_
    refine AllReadyH.cons rfl (fun K hK => ?_) AllReadyH.nil
    rw [if_pos (by rfl)]
    go_wp2_with (first | (go_at_call 95; (with_reducible refine (cr _ hHeldB.2).mono ?_); rintro e w8 ⟨rfl, hb8⟩; replace ho7 := owns_below ho7 hb8))
    refine hK.out _ _ (HK.out _ ((hHeldB).2.trans (hb8.mono (hHeldB).2.size))) (fun hHeldB1 => ?_)
    clear hK K
    (try simp only [Act.put, List.setIfInBounds_toArray, List.set_cons_zero, List.set_cons_succ, List.getElem_toArray, List.getElem_cons_succ, List.getElem_cons_zero])
    refine wpAnyH_ready (rs := [5]) (by kernel_rfl) (by simp) ?_
    refine AllReadyH.cons rfl (fun K hK => ?_) AllReadyH.nil
    rw [if_pos (by rfl)]
    go_wp2_with (first | (go_at_call 73; (with_reducible refine (cs _ hHeldB1.2).mono ?_); rintro e w9 ⟨rfl, rfl⟩))
    refine hK.out _ _ (hHeldB1) (fun hHeldB2 => ?_)
    clear hK K
    (try simp only [Act.put, List.setIfInBounds_toArray, List.set_cons_zero, List.set_cons_succ, List.getElem_toArray, List.getElem_cons_succ, List.getElem_cons_zero])
    refine held_take 6 _ _ rfl (by kernel_rfl) (by kernel_rfl) (by kernel_rfl) (fun _ _ _ h => h) (by rfl) hHeldB2 (fun w hSw => by (try dsimp only at hSw); go_simp; try with_reducible rfl) ?_
    (try simp only [Act.put, List.setIfInBounds_toArray, List.set_cons_zero, List.set_cons_succ, List.getElem_toArray, List.getElem_cons_succ, List.getElem_cons_zero])
    refine held_take 7 _ _ rfl (by kernel_rfl) (by kernel_rfl) (by kernel_rfl) (fun _ _ _ h => h) (by rfl) hHeldB2 (fun w hSw => by (try dsimp only at hSw); go_simp; try with_reducible rfl) ?_
    (try simp only [Act.put, List.setIfInBounds_toArray, List.set_cons_zero, List.set_cons_succ, List.getElem_toArray, List.getElem_cons_succ, List.getElem_cons_zero])
    refine wpAnyH_ready (rs := [8]) (by kernel_rfl) (by simp) ?_
    refine AllReadyH.cons rfl (fun K hK => ?_) AllReadyH.nil
    rw [if_pos (by rfl)]
    go_wp2_with (first | (go_at_call 32; (with_reducible refine (cx _ _ _ (row_slv ho7)).mono ?_); rintro e wA ⟨vA, rfl, hoA, hbA⟩; have hzA := Nat.le_trans hbV.size (hHeldB2).2.size))
    refine hK.out _ _ (HK.out _ ((hHeldB2).2.trans (hbA.mono (hHeldB2).2.size))) (fun hHeldB3 => ?_)
    clear hK K
    (try simp only [Act.put, List.setIfInBounds_toArray, List.set_cons_zero, List.set_cons_succ, List.getElem_toArray, List.getElem_cons_succ, List.getElem_cons_zero])
    refine held_take 9 _ _ rfl (by kernel_rfl) (by kernel_rfl) (by kernel_rfl) (fun _ _ _ h => h) (by rfl) hHeldB3 (fun w hSw => by (try dsimp only at hSw); go_simp; try with_reducible rfl) ?_
    (try simp only [Act.put, List.setIfInBounds_toArray, List.set_cons_zero, List.set_cons_succ, List.getElem_toArray, List.getElem_cons_succ, List.getElem_cons_zero])
    refine wpAnyH_done (by kernel_rfl) ?_ _
    have hbF := hbV.trans ((hHeldB3).2.mono hbV.size)
    obtain ⟨aA, kA, rfl, -⟩ := row_open hoA
    clear hS7 ho7
    go_wp2_with fail
    go_ret
    exact ⟨_, rfl, by rw [HE.out]; exact owns_wider hoA hzA, hbF⟩
end Go.Proofs.Ytlinlmmcgifloaa
