/-
  CONTRACTS of the reference's chapter 15: NumeratorOf, l15Euler, EulerAt. (Own work: mkL52.py.)
-/
import Derived.Test.YtlinlmmcgifloaaL51
import Derived.Test.YtlinlmmcgifloaaCh11M
namespace Go.Proofs.Ytlinlmmcgifloaa
open Go Go.RowKit

noncomputable def numK (G : List Int) (k : Nat) : List Int := (List.range k).map fun (n : Nat) => bitI (hasN G (n : Int)) - bitI (hasN G ((n : Int) - 1))
theorem numK_succ (G : List Int) (k : Nat) : numK G (k + 1) = numK G k ++ [bitI (hasN G (k : Int)) - bitI (hasN G ((k : Int) - 1))] := by unfold numK; rw [List.range_succ, List.map_append]; rfl
theorem numK_len (G : List Int) (k : Nat) : (numK G k).length = k := by unfold numK; simp
theorem pow_le12 {n : Nat} (h : n ≤ 12) : (2 ^ n : Int) ≤ 4096 := by
  rcases (by omega : n = 0 ∨ n = 1 ∨ n = 2 ∨ n = 3 ∨ n = 4 ∨ n = 5 ∨ n = 6 ∨ n = 7 ∨ n = 8 ∨ n = 9 ∨ n = 10 ∨ n = 11 ∨ n = 12) with rfl | rfl | rfl | rfl | rfl | rfl | rfl | rfl | rfl | rfl | rfl | rfl | rfl <;> decide
set_option maxRecDepth 100000 in
set_option maxHeartbeats 1600000 in
theorem spec_NumeratorOf (G : List Int) (a : Option Addr) (cap : Nat) (w : World) (hr : SlV w a (G.map (Value.int .i64))) (hb : G.length ≤ 1048576) :
    Calls Try.prog 31 #[.agg #[.slice a G.length cap]] w (SlPost (numL G) w) := by
  obtain ⟨i0, hi, hz0, hz1, hz2⟩ := info_parts infoIntL
  obtain ⟨V, hV⟩ : ∃ V, V = w.alloc (.cells #[.slice a G.length cap] 26) := ⟨_, rfl⟩
  have hbV : Below w.heap.size w V := by rw [hV]; exact box_below _ _
  have hc0 : V.cell? ⟨w.heap.size, 0, none⟩ = some (.slice a G.length cap) := by rw [hV]; exact box_cell w _
  have hVs : w.heap.size < V.heap.size := by rw [hV]; simp
  obtain ⟨W, hW⟩ : ∃ W, W = V.alloc (.cells #[] 3) := ⟨_, rfl⟩
  have hbVW : Below V.heap.size V W := by rw [hW]; exact (Below.refl _ _).alloc (Nat.le_refl _) _
  have hbW := hbV.trans (hbVW.mono hbV.size)
  have hVe : V.heap.size = w.heap.size + 1 := by rw [hV]; simp
  have hS : W.ownsRow V.heap.size 3 1 (.slice (some ⟨V.heap.size, 0, none⟩) 0 0) 0 [] := by rw [hW]; exact World.ownsRow_lit _ #[] 0 (Nat.le_refl _) (by simp) rfl
  have HW : Hid (W = (w.alloc (.cells #[.slice a G.length cap] 26)).alloc (.cells #[] 3)) := Lib.hid (by rw [hW, hV])
  have HVE := Lib.hid hVe
  have HS := Lib.hid hS
  have c1 := spec_IsSemigroup G a cap W (hr.below hbW) hb
  clear hV hW hVe hS
  cases hs : isSgB G
  · have HR := Lib.hid (numL_no hs)
    rw [hs] at c1
    clear hs hr hi hz0 hz1 hz2 hc0
    go_enter Try.func31, Try.ntmps31
    go_wp2_with fail
    rw [← HW.out]
    refine c1.mono ?_
    rintro e w1 ⟨rfl, hb1⟩
    have hb01 := hbW.trans (hb1.mono hbW.size)
    go_wp2_with fail
    go_ret
    exact ⟨_, rfl, by rw [HR.out, ← HVE.out]; exact ownsBase (owns_below HS.out hb1) hbV.size, hb01⟩
  · rw [hs] at c1
    have HR := Lib.hid (numL_yes hs)
    have HSG := Lib.hid hs
    have hm := condNat_le G
    have hcn := condN_yes hs
    have HK : Hid (∀ w2, Below V.heap.size V w2 → w2.cell? ⟨w.heap.size, 0, none⟩ = some (.slice a G.length cap) ∧ Below V.heap.size V w2) := Lib.hid fun w2 h => ⟨(h.cell (p := ⟨w.heap.size, 0, none⟩) hVs).trans hc0, h⟩
    have HRS := Lib.hid (fun w2 (h : Below V.heap.size V w2) => hr.below (hbV.trans (h.mono hbV.size)))
    have HCC := Lib.hid (fun w2 (h : Below V.heap.size V w2) => hcn ▸ spec_ConductorOf G a cap w2 (hr.below (hbV.trans (h.mono hbV.size))) hb)
    clear hs hr hcn hc0
    generalize condNat G = m at *
    go_enter Try.func31, Try.ntmps31
    go_wp2_with fail
    rw [← HW.out]
    refine c1.mono ?_
    rintro e w1 ⟨rfl, hb1⟩
    have hbV1 := hbVW.trans (hb1.mono hbVW.size)
    have HO1 : Hid (w1.ownsRow V.heap.size 3 1 (.slice (some ⟨w.heap.size + 1, 0, none⟩) 0 0) (numK G 0).length ((numK G 0).map (Value.int .i64))) := Lib.hid (by rw [← HVE.out]; exact owns_below HS.out hb1)
    clear c1 hb1 hbVW hbW HW HS
    go_wp2_with fail
    go_loopw [3, 4] (fun v i wr => ∃ k : Nat, k ≤ m + 1 ∧ i = .int .i64 (k : Int) ∧ wr.ownsRow V.heap.size 3 1 v (numK G k).length ((numK G k).map (Value.int .i64)) ∧ Below V.heap.size V wr) (fun _ i _ => m + 1 - (intOf i).toNat)
    case atStart => exact ⟨0, Nat.zero_le _, rfl, HO1.out, hbV1⟩
    case round =>
      clear HO1 hbV1
      obtain ⟨k, hk, rfl, hown, hbel⟩ := hrel
      have hkl := numK_len G k
      have hcb := (HK.out wr hbel).1
      have cc := HCC.out wr hbel
      have hsz := hbel.size
      by_cases hle : k ≤ m
      · have hlei : (k : Int) ≤ (m : Int) := by omega
        have HT := Lib.hid (numK_succ G k)
        have hMl : (numK G k).length ≤ 201 := by omega
        clear hkl
        generalize numK G k = M at *
        have ch1 := fun w' (h : Below V.heap.size V w') => spec_l15Has G (k : Int) a cap w' (HRS.out w' h) HSG.out
        have ch2 := fun w' (h : Below V.heap.size V w') => spec_l15Has G ((k : Int) - 1) a cap w' (HRS.out w' h) HSG.out
        generalize hasN G (k : Int) = p at *
        generalize hasN G ((k : Int) - 1) = q at *
        have hbp := bit_bnd p
        have hbq := bit_bnd q
        have cb := fun (b : Bool) (w : World) => l1Bit_any b w
        have hk1 : IntKind.i64.wrap ((k : Int) - 1) = (k : Int) - 1 := IntWalk.i64_in _ (by omega)
        have hw2 : IntKind.i64.wrap (bitI p - bitI q) = bitI p - bitI q := IntWalk.i64_in _ (by omega)
        have HBP : Hid True := Lib.hid trivial
        go_wp2_with fail
        refine cc.mono ?_
        rintro e w3 ⟨rfl, hb3⟩
        have hbel3 := hbel.trans (hb3.mono hsz)
        have hown3 := owns_below hown hb3
        have hownD : w3.drew.ownsRow V.heap.size 3 1 _ M.length (M.map (Value.int .i64)) := hown3
        have hS0 := HK.out _ hbel3.drew
        have hcb3 := (HK.out _ hbel3).1
        clear cc hown hown3 hbel hb3 hcb
        go_wp2_with fail
        refine wp_region_held_drew (S := fun w' => w'.cell? ⟨w.heap.size, 0, none⟩ = some (.slice a G.length cap) ∧ Below V.heap.size V w') (by kernel_rfl) hS0 (fun hHeld => ?_)
        refine held_take 0 _ _ rfl (by kernel_rfl) (by kernel_rfl) (by kernel_rfl) (fun _ _ _ h => h) (by rfl) hHeld (fun w hSw => by (try dsimp only at hSw); go_simp; try with_reducible rfl) ?_
        (try simp only [Act.put, List.setIfInBounds_toArray, List.set_cons_zero, List.set_cons_succ, List.getElem_toArray, List.getElem_cons_zero])
        refine held_take 1 _ _ rfl (by kernel_rfl) (by kernel_rfl) (by kernel_rfl) (fun _ _ _ h => h) (by rfl) hHeld (fun w hSw => by (try dsimp only at hSw); go_simp; try with_reducible rfl) ?_
        (try simp only [Act.put, List.setIfInBounds_toArray, List.set_cons_zero, List.set_cons_succ, List.getElem_toArray, List.getElem_cons_succ, List.getElem_cons_zero])
        refine held_take 2 _ _ rfl (by kernel_rfl) (by kernel_rfl) (by kernel_rfl) (fun _ _ _ h => h) (by rfl) hHeld (fun w hSw => by (try dsimp only at hSw); go_simp; try with_reducible rfl) ?_
        (try simp only [Act.put, List.setIfInBounds_toArray, List.set_cons_zero, List.set_cons_succ, List.getElem_toArray, List.getElem_cons_succ, List.getElem_cons_zero])
        refine held_take 5 _ _ rfl (by kernel_rfl) (by kernel_rfl) (by kernel_rfl) (fun _ _ _ h => h) (by rfl) hHeld (fun w hSw => by (try dsimp only at hSw); go_simp; try with_reducible rfl) ?_
        (try simp only [Act.put, List.setIfInBounds_toArray, List.set_cons_zero, List.set_cons_succ, List.getElem_toArray, List.getElem_cons_succ, List.getElem_cons_zero])
        refine held_take 6 _ _ rfl (by kernel_rfl) (by kernel_rfl) (by kernel_rfl) (fun _ _ _ h => h) (by rfl) hHeld (fun w hSw => by (try dsimp only at hSw); go_simp; try with_reducible rfl) ?_
        (try simp only [Act.put, List.setIfInBounds_toArray, List.set_cons_zero, List.set_cons_succ, List.getElem_toArray, List.getElem_cons_succ, List.getElem_cons_zero])
        refine held_take 7 _ _ rfl (by kernel_rfl) (by kernel_rfl) (by kernel_rfl) (fun _ _ _ h => h) (by rfl) hHeld (fun w hSw => by (try dsimp only at hSw); go_simp; try with_reducible rfl) ?_
        (try simp only [Act.put, List.setIfInBounds_toArray, List.set_cons_zero, List.set_cons_succ, List.getElem_toArray, List.getElem_cons_succ, List.getElem_cons_zero])
        refine wpAnyH_ready (rs := [3]) (by kernel_rfl) (by simp) ?_
        refine AllReadyH.cons rfl (fun K hK => ?_) AllReadyH.nil
        rw [if_pos (by rfl)]
        go_wp2_with (first | (go_at_call 98; (with_reducible refine (ch1 _ hHeld.2).mono ?_); rintro e wA ⟨rfl, hbA⟩; have hownA := owns_below hownD hbA))
        refine hK.out _ _ (HK.out _ ((hHeld).2.trans (hbA.mono (hHeld).2.size))) (fun hHeld1 => ?_)
        clear hK K
        (try simp only [Act.put, List.setIfInBounds_toArray, List.set_cons_zero, List.set_cons_succ, List.getElem_toArray, List.getElem_cons_succ, List.getElem_cons_zero])
        refine wpAnyH_ready (rs := [4]) (by kernel_rfl) (by simp) ?_
        refine AllReadyH.cons rfl (fun K hK => ?_) AllReadyH.nil
        rw [if_pos (by rfl)]
        go_wp2_with (first | (go_at_call 97; (with_reducible refine (cb p _).mono ?_); rintro e wx ⟨rfl, hwx⟩; subst hwx))
        refine hK.out _ _ (hHeld1) (fun hHeld2 => ?_)
        clear hK K
        (try simp only [Act.put, List.setIfInBounds_toArray, List.set_cons_zero, List.set_cons_succ, List.getElem_toArray, List.getElem_cons_succ, List.getElem_cons_zero])
        refine wpAnyH_ready (rs := [8]) (by kernel_rfl) (by simp) ?_
        refine AllReadyH.cons rfl (fun K hK => ?_) AllReadyH.nil
        rw [if_pos (by rfl)]
        go_wp2_with (first | (go_at_call 98; (with_reducible refine (ch2 _ hHeld2.2).mono ?_); rintro e wB ⟨rfl, hbB⟩; have hownB := owns_below hownA hbB))
        refine hK.out _ _ (HK.out _ ((hHeld2).2.trans (hbB.mono (hHeld2).2.size))) (fun hHeld3 => ?_)
        clear hK K
        (try simp only [Act.put, List.setIfInBounds_toArray, List.set_cons_zero, List.set_cons_succ, List.getElem_toArray, List.getElem_cons_succ, List.getElem_cons_zero])
        refine wpAnyH_ready (rs := [9]) (by kernel_rfl) (by simp) ?_
        refine AllReadyH.cons rfl (fun K hK => ?_) AllReadyH.nil
        rw [if_pos (by rfl)]
        go_wp2_with (first | (go_at_call 97; (with_reducible refine (cb q _).mono ?_); rintro e wx ⟨rfl, hwx⟩; subst hwx))
        refine hK.out _ _ (hHeld3) (fun hHeld4 => ?_)
        clear hK K
        (try simp only [Act.put, List.setIfInBounds_toArray, List.set_cons_zero, List.set_cons_succ, List.getElem_toArray, List.getElem_cons_succ, List.getElem_cons_zero])
        refine held_take 10 _ _ rfl (by kernel_rfl) (by kernel_rfl) (by kernel_rfl) (fun _ _ _ h => h) (by rfl) hHeld4 (fun w hSw => by (try dsimp only at hSw); go_simp; try with_reducible rfl) ?_
        (try simp only [Act.put, List.setIfInBounds_toArray, List.set_cons_zero, List.set_cons_succ, List.getElem_toArray, List.getElem_cons_succ, List.getElem_cons_zero])
        refine wpAnyH_ready (rs := [11]) (by kernel_rfl) (by simp) ?_
        refine AllReadyH.cons rfl (fun K hK => ?_) AllReadyH.nil
        rw [if_pos (by rfl)]
        have hownC := hownB.alloc (.cells #[.int .i64 (bitI p - bitI q)] 3)
        have hszC := ((hHeld4).2.alloc (hHeld4).2.size (.cells #[.int .i64 (bitI p - bitI q)] 3)).size
        go_wp2_with fail
        refine hK.out _ _ (HK.out _ ((hHeld4).2.alloc (hHeld4).2.size _)) (fun hHeld5 => ?_)
        clear hK K
        (try simp only [Act.put, List.setIfInBounds_toArray, List.set_cons_zero, List.set_cons_succ, List.getElem_toArray, List.getElem_cons_succ, List.getElem_cons_zero])
        refine wpAnyH_ready (rs := [12]) (by kernel_rfl) (by simp) ?_
        refine AllReadyH.cons rfl (fun K hK => ?_) AllReadyH.nil
        rw [if_pos (by rfl)]
        refine wp_append_own_at _ (.tmp 16) (.tmp 27) 24 (by rfl) V.heap.size 3 i0 (Value.int .i64 0) 1 8 Try.underlying24 hi hz0 hz1 hz2 rfl (by decide) _ M.length (M.map (Value.int .i64)) (by rfl) hownC _ 1 _ [.int .i64 (bitI p - bitI q)] (by rfl) rfl (World.news_of_block (cs := #[.int .i64 (bitI p - bitI q)]) (t := 3) (fr := (0, 0)) (heap_alloc_new _ _)) (by simp [Value.oneCell']) (by unfold maxLen; omega) (by omega) hszC ?_; intro v2 w2 hown2 hg2 _ _
        refine hK.out _ _ (HK.out _ ((hHeld5).2.grown hg2 hszC (fun j hj => (hownC.lt j hj).1))) (fun hHeld6 => ?_)
        clear hK K
        (try simp only [Act.put, List.setIfInBounds_toArray, List.set_cons_zero, List.set_cons_succ, List.getElem_toArray, List.getElem_cons_succ, List.getElem_cons_zero])
        refine held_take 13 _ _ rfl (by kernel_rfl) (by kernel_rfl) (by kernel_rfl) (fun _ _ _ h => h) (by rfl) hHeld6 (fun w hSw => by (try dsimp only at hSw); go_simp; try with_reducible rfl) ?_
        (try simp only [Act.put, List.setIfInBounds_toArray, List.set_cons_zero, List.set_cons_succ, List.getElem_toArray, List.getElem_cons_succ, List.getElem_cons_zero])
        refine wpAnyH_done (by kernel_rfl) ?_ _
        have hbF := (hHeld6).2
        have HO : Hid (w2.ownsRow V.heap.size 3 1 v2 (M ++ [bitI p - bitI q]).length ((M ++ [bitI p - bitI q]).map (Value.int .i64))) := Lib.hid (by simpa using hown2)
        clear hownA hownB hownC hownD hown2 hg2 hszC hS0 ch1 ch2 cb hcb3 hbA hbB hw2 hk1
        go_wp2_with fail
        go_roundw
        case rel => exact ⟨k + 1, by omega, by go_num, by rw [HT.out]; exact HO.out, hbF⟩
        case measure => simp [intOf]; omega
      · obtain rfl : k = m + 1 := by omega
        have hlei : ¬ ((m + 1 : Nat) : Int) ≤ (m : Int) := by omega
        have HO := Lib.hid hown
        clear hown hkl
        go_wp2_with fail
        refine cc.mono ?_
        rintro e w3 ⟨rfl, hb3⟩
        have hbel3 := hbel.trans (hb3.mono hsz)
        have HO3 := Lib.hid (owns_below HO.out hb3)
        clear cc hcb hb3 hbel
        go_wp2_with fail
        go_ret
        exact ⟨_, rfl, by rw [HR.out]; exact ownsBase HO3.out hbV.size, hbV.trans (hbel3.mono hbV.size)⟩
set_option maxRecDepth 100000 in
set_option maxHeartbeats 1600000 in
theorem spec_l15Euler (G : List Int) (hs : isSgB G = true) : ∀ (r k : Nat) (n : Int) (a : Option Addr) (cap : Nat) (w : World), k + r = G.length → -60 ≤ n → n ≤ 1000 → SlV w a (G.map (Value.int .i64)) →
    Calls Try.prog 100 #[.agg #[.slice a G.length cap], .int .i64 (k : Int), .int .i64 n] w fun e w' => e = .returned (.int .i64 (eulR G (G.drop k) n)) ∧ Below w.heap.size w w' := by
  have HSG := Lib.hid hs
  have h12 := (isSgB_iff.1 hs).len
  have HBD := Lib.hid (isSgB_iff.1 hs).bounds
  clear hs
  intro r
  induction r with
  | zero =>
    intro k n a cap w hl hn0 hn1 hr
    obtain rfl : k = G.length := by omega
    rw [List.drop_length]
    obtain ⟨V, hV⟩ : ∃ V, V = w.alloc (.cells #[.slice a G.length cap] 26) := ⟨_, rfl⟩
    have hbV : Below w.heap.size w V := by rw [hV]; exact box_below _ _
    have hc0 : V.cell? ⟨w.heap.size, 0, none⟩ = some (.slice a G.length cap) := by rw [hV]; exact box_cell w _
    have hVs : w.heap.size < V.heap.size := by rw [hV]; simp
    have HV := Lib.hid hV
    clear hV
    by_cases hneg : n < 0
    · have HR := Lib.hid (eulR_neg G ([]) hneg)
      have hd := decide_eq_true hneg
      clear hr hc0
      go_enter Try.func100, Try.ntmps100
      go_wp2_with fail
      rw [← HV.out]
      go_ret
      exact ⟨by rw [HR.out]; rfl, hbV⟩
    · have hnn : 0 ≤ n := by omega
      have HR := Lib.hid (eulR_nil G hnn)
      have hd := decide_eq_false hneg
      have hkk : ((G.length : Int) == (G.length : Int)) = true := by simp
      have ch := spec_l15Has G n a cap V (hr.below hbV) HSG.out
      clear hr hneg
      generalize hasN G n = q at *
      go_enter Try.func100, Try.ntmps100
      go_wp2_with fail
      rw [← HV.out]
      refine ch.mono ?_
      rintro e w1 ⟨rfl, hb1⟩
      have hb01 := hbV.trans (hb1.mono hbV.size)
      clear ch hc0
      go_wp2_with fail
      refine (l1Bit_any q _).mono ?_
      rintro e w2 ⟨rfl, rfl⟩
      go_wp2_with fail
      go_ret
      exact ⟨by rw [HR.out]; rfl, hb01⟩
  | succ r ih =>
    intro k n a cap w hl hn0 hn1 hr
    have hk : k < G.length := by omega
    rw [List.drop_eq_getElem_cons hk]
    obtain ⟨V, hV⟩ : ∃ V, V = w.alloc (.cells #[.slice a G.length cap] 26) := ⟨_, rfl⟩
    have hbV : Below w.heap.size w V := by rw [hV]; exact box_below _ _
    have hc0 : V.cell? ⟨w.heap.size, 0, none⟩ = some (.slice a G.length cap) := by rw [hV]; exact box_cell w _
    have hVs : w.heap.size < V.heap.size := by rw [hV]; simp
    have HV := Lib.hid hV
    clear hV
    by_cases hneg : n < 0
    · have HR := Lib.hid (eulR_neg G (G[k] :: G.drop (k + 1)) hneg)
      have hd := decide_eq_true hneg
      clear hr hc0
      go_enter Try.func100, Try.ntmps100
      go_wp2_with fail
      rw [← HV.out]
      go_ret
      exact ⟨by rw [HR.out]; rfl, hbV⟩
    · have hnn : 0 ≤ n := by omega
      have HR := Lib.hid (eulR_cons G G[k] (G.drop (k + 1)) hnn)
      have hd := decide_eq_false hneg
      have hkk : ((k : Int) == (G.length : Int)) = false := by rw [beq_eq_false_iff_ne]; omega
      obtain ⟨b, off, rfl, hbs, hcl⟩ := hr.open (by intro h; rw [List.map_eq_nil_iff] at h; rw [h] at hk; simp at hk)
      have hg := HBD.out G[k] (List.getElem_mem hk)
      have HK : Hid (∀ w2, Below V.heap.size V w2 → w2.cell? ⟨w.heap.size, 0, none⟩ = some (.slice (some ⟨b, off, none⟩) G.length cap) ∧ w2.cell? ⟨b, off + k, none⟩ = some (.int .i64 G[k]) ∧ Below V.heap.size V w2) := Lib.hid fun w2 h => ⟨(h.cell (p := ⟨w.heap.size, 0, none⟩) hVs).trans hc0, ((hbV.trans (h.mono hbV.size)).cell (p := ⟨b, off + k, none⟩) hbs).trans (hcl k _ (by simp [hk])), h⟩
      have ce1 := fun w' (h : Below V.heap.size V w') => ih (k + 1) n (some ⟨b, off, none⟩) cap w' (by omega) hn0 hn1 (hr.below (hbV.trans (h.mono hbV.size)))
      have e1 : ((k + 1 : Nat) : Int) = (k : Int) + 1 := by omega
      simp only [e1] at ce1
      have ce2 := fun w' (h : Below V.heap.size V w') => ih (k + 1) (n - G[k]) (some ⟨b, off, none⟩) cap w' (by omega) (by omega) (by omega) (hr.below (hbV.trans (h.mono hbV.size)))
      simp only [e1] at ce2
      clear e1
      have hq1 := eulR_bnd G (G.drop (k + 1)) n
      have hq2 := eulR_bnd G (G.drop (k + 1)) (n - G[k])
      have hpow : (2 ^ (G.drop (k + 1)).length : Int) ≤ 4096 := pow_le12 (by rw [List.length_drop]; omega)
      generalize G[k] = g at *
      generalize eulR G (G.drop (k + 1)) n = q1 at *
      generalize eulR G (G.drop (k + 1)) (n - g) = q2 at *
      generalize (2 ^ (G.drop (k + 1)).length : Int) = pw at *
      have hw1 : IntKind.i64.wrap ((k : Int) + 1) = (k : Int) + 1 := IntWalk.i64_in _ (by omega)
      have hw2 : IntKind.i64.wrap (n - g) = n - g := IntWalk.i64_in _ (by omega)
      have hw3 : IntKind.i64.wrap (q1 - q2) = q1 - q2 := IntWalk.i64_in _ (by omega)
      have hk0 : (0 : Int) ≤ (k : Int) := by omega
      have hki : (k : Int) < (G.length : Int) := by omega
      have hS0 := HK.out _ (Below.refl V.heap.size V).drew
      clear hr hcl ih hneg
      go_enter Try.func100, Try.ntmps100
      go_wp2_with fail
      rw [← HV.out]
      go_wp2_with fail
      refine wp_region_held_drew (S := fun w' => w'.cell? ⟨w.heap.size, 0, none⟩ = some (.slice (some ⟨b, off, none⟩) G.length cap) ∧ w'.cell? ⟨b, off + k, none⟩ = some (.int .i64 g) ∧ Below V.heap.size V w') (by kernel_rfl) hS0 (fun hHeld => ?_)
      refine held_take 0 _ _ rfl (by kernel_rfl) (by kernel_rfl) (by kernel_rfl) (fun _ _ _ h => h) (by rfl) hHeld (fun w hSw => by (try dsimp only at hSw); go_simp; try with_reducible rfl) ?_
      (try simp only [Act.put, List.setIfInBounds_toArray, List.set_cons_zero, List.set_cons_succ, List.getElem_toArray, List.getElem_cons_zero])
      refine held_take 1 _ _ rfl (by kernel_rfl) (by kernel_rfl) (by kernel_rfl) (fun _ _ _ h => h) (by rfl) hHeld (fun w hSw => by (try dsimp only at hSw); go_simp; try with_reducible rfl) ?_
      (try simp only [Act.put, List.setIfInBounds_toArray, List.set_cons_zero, List.set_cons_succ, List.getElem_toArray, List.getElem_cons_succ, List.getElem_cons_zero])
      refine held_take 2 _ _ rfl (by kernel_rfl) (by kernel_rfl) (by kernel_rfl) (fun _ _ _ h => h) (by rfl) hHeld (fun w hSw => by (try dsimp only at hSw); go_simp; try with_reducible rfl) ?_
      (try simp only [Act.put, List.setIfInBounds_toArray, List.set_cons_zero, List.set_cons_succ, List.getElem_toArray, List.getElem_cons_succ, List.getElem_cons_zero])
      refine held_take 3 _ _ rfl (by kernel_rfl) (by kernel_rfl) (by kernel_rfl) (fun _ _ _ h => h) (by rfl) hHeld (fun w hSw => by (try dsimp only at hSw); go_simp; try with_reducible rfl) ?_
      (try simp only [Act.put, List.setIfInBounds_toArray, List.set_cons_zero, List.set_cons_succ, List.getElem_toArray, List.getElem_cons_succ, List.getElem_cons_zero])
      refine held_take 5 _ _ rfl (by kernel_rfl) (by kernel_rfl) (by kernel_rfl) (fun _ _ _ h => h) (by rfl) hHeld (fun w hSw => by (try dsimp only at hSw); go_simp; try with_reducible rfl) ?_
      (try simp only [Act.put, List.setIfInBounds_toArray, List.set_cons_zero, List.set_cons_succ, List.getElem_toArray, List.getElem_cons_succ, List.getElem_cons_zero])
      refine held_take 6 _ _ rfl (by kernel_rfl) (by kernel_rfl) (by kernel_rfl) (fun _ _ _ h => h) (by rfl) hHeld (fun w hSw => by (try dsimp only at hSw); go_simp; try with_reducible rfl) ?_
      (try simp only [Act.put, List.setIfInBounds_toArray, List.set_cons_zero, List.set_cons_succ, List.getElem_toArray, List.getElem_cons_succ, List.getElem_cons_zero])
      refine held_take 7 _ _ rfl (by kernel_rfl) (by kernel_rfl) (by kernel_rfl) (fun _ _ _ h => h) (by rfl) hHeld (fun w hSw => by (try dsimp only at hSw); go_simp; try with_reducible rfl) ?_
      (try simp only [Act.put, List.setIfInBounds_toArray, List.set_cons_zero, List.set_cons_succ, List.getElem_toArray, List.getElem_cons_succ, List.getElem_cons_zero])
      refine held_take 8 _ _ rfl (by kernel_rfl) (by kernel_rfl) (by kernel_rfl) (fun _ _ _ h => h) (by rfl) hHeld (fun w hSw => by (try dsimp only at hSw); go_simp; try with_reducible rfl) ?_
      (try simp only [Act.put, List.setIfInBounds_toArray, List.set_cons_zero, List.set_cons_succ, List.getElem_toArray, List.getElem_cons_succ, List.getElem_cons_zero])
      refine held_take 9 _ _ rfl (by kernel_rfl) (by kernel_rfl) (by kernel_rfl) (fun _ _ _ h => h) (by rfl) hHeld (fun w hSw => by (try dsimp only at hSw); go_simp; try with_reducible rfl) ?_
      (try simp only [Act.put, List.setIfInBounds_toArray, List.set_cons_zero, List.set_cons_succ, List.getElem_toArray, List.getElem_cons_succ, List.getElem_cons_zero])
      refine held_take 10 _ _ rfl (by kernel_rfl) (by kernel_rfl) (by kernel_rfl) (fun _ _ _ h => h) (by rfl) hHeld (fun w hSw => by (try dsimp only at hSw); go_simp; try with_reducible rfl) ?_
      (try simp only [Act.put, List.setIfInBounds_toArray, List.set_cons_zero, List.set_cons_succ, List.getElem_toArray, List.getElem_cons_succ, List.getElem_cons_zero])
      refine held_take 11 _ _ rfl (by kernel_rfl) (by kernel_rfl) (by kernel_rfl) (fun _ _ _ h => h) (by rfl) hHeld (fun w hSw => by (try dsimp only at hSw); go_simp; try with_reducible rfl) ?_
      (try simp only [Act.put, List.setIfInBounds_toArray, List.set_cons_zero, List.set_cons_succ, List.getElem_toArray, List.getElem_cons_succ, List.getElem_cons_zero])
      refine held_take 12 _ _ rfl (by kernel_rfl) (by kernel_rfl) (by kernel_rfl) (fun _ _ _ h => h) (by rfl) hHeld (fun w hSw => by (try dsimp only at hSw); go_simp; try with_reducible rfl) ?_
      (try simp only [Act.put, List.setIfInBounds_toArray, List.set_cons_zero, List.set_cons_succ, List.getElem_toArray, List.getElem_cons_succ, List.getElem_cons_zero])
      refine held_take 13 _ _ rfl (by kernel_rfl) (by kernel_rfl) (by kernel_rfl) (fun _ _ _ h => h) (by rfl) hHeld (fun w hSw => by (try dsimp only at hSw); go_simp; try with_reducible rfl) ?_
      (try simp only [Act.put, List.setIfInBounds_toArray, List.set_cons_zero, List.set_cons_succ, List.getElem_toArray, List.getElem_cons_succ, List.getElem_cons_zero])
      refine held_take 14 _ _ rfl (by kernel_rfl) (by kernel_rfl) (by kernel_rfl) (fun _ _ _ h => h) (by rfl) hHeld (fun w hSw => by (try dsimp only at hSw); go_simp; try with_reducible rfl) ?_
      (try simp only [Act.put, List.setIfInBounds_toArray, List.set_cons_zero, List.set_cons_succ, List.getElem_toArray, List.getElem_cons_succ, List.getElem_cons_zero])
      refine wpAnyH_ready (rs := [4]) (by kernel_rfl) (by simp) ?_
      refine AllReadyH.cons rfl (fun K hK => ?_) AllReadyH.nil
      rw [if_pos (by rfl)]
      go_wp2_with (first | (go_at_call 100; (with_reducible refine (ce1 _ hHeld.2.2).mono ?_); rintro e wA ⟨rfl, hbA⟩))
      refine hK.out _ _ (HK.out _ ((hHeld).2.2.trans (hbA.mono (hHeld).2.2.size))) (fun hHeld1 => ?_)
      clear hK K
      (try simp only [Act.put, List.setIfInBounds_toArray, List.set_cons_zero, List.set_cons_succ, List.getElem_toArray, List.getElem_cons_succ, List.getElem_cons_zero])
      refine wpAnyH_ready (rs := [15]) (by kernel_rfl) (by simp) ?_
      refine AllReadyH.cons rfl (fun K hK => ?_) AllReadyH.nil
      rw [if_pos (by rfl)]
      go_wp2_with (first | (go_at_call 100; (with_reducible refine (ce2 _ hHeld1.2.2).mono ?_); rintro e wB ⟨rfl, hbB⟩))
      refine hK.out _ _ (HK.out _ ((hHeld1).2.2.trans (hbB.mono (hHeld1).2.2.size))) (fun hHeld2 => ?_)
      clear hK K
      (try simp only [Act.put, List.setIfInBounds_toArray, List.set_cons_zero, List.set_cons_succ, List.getElem_toArray, List.getElem_cons_succ, List.getElem_cons_zero])
      refine held_take 16 _ _ rfl (by kernel_rfl) (by kernel_rfl) (by kernel_rfl) (fun _ _ _ h => h) (by rfl) hHeld2 (fun w hSw => by (try dsimp only at hSw); go_simp; try with_reducible rfl) ?_
      (try simp only [Act.put, List.setIfInBounds_toArray, List.set_cons_zero, List.set_cons_succ, List.getElem_toArray, List.getElem_cons_succ, List.getElem_cons_zero])
      refine held_take 17 _ _ rfl (by kernel_rfl) (by kernel_rfl) (by kernel_rfl) (fun _ _ _ h => h) (by rfl) hHeld2 (fun w hSw => by (try dsimp only at hSw); go_simp; try with_reducible rfl) ?_
      (try simp only [Act.put, List.setIfInBounds_toArray, List.set_cons_zero, List.set_cons_succ, List.getElem_toArray, List.getElem_cons_succ, List.getElem_cons_zero])
      refine wpAnyH_done (by kernel_rfl) ?_ _
      have hbF := hbV.trans ((hHeld2).2.2.mono hbV.size)
      clear ce1 ce2 hS0 hbA hbB hw1 hw2 hw3
      go_wp2_with fail
      go_ret
      exact ⟨by rw [HR.out]; rfl, hbF⟩
set_option maxRecDepth 100000 in
set_option maxHeartbeats 1600000 in
theorem spec_EulerAt (G : List Int) (x : Int) (a : Option Addr) (cap : Nat) (w : World) (hr : SlV w a (G.map (Value.int .i64))) (hb : G.length ≤ 1048576) :
    Calls Try.prog 39 #[.agg #[.slice a G.length cap], .int .i64 x] w fun e w' => e = .returned (.int .i64 (eulN G x)) ∧ Below w.heap.size w w' := by
  obtain ⟨V, hV⟩ : ∃ V, V = w.alloc (.cells #[.slice a G.length cap] 26) := ⟨_, rfl⟩
  have hbV : Below w.heap.size w V := by rw [hV]; exact box_below _ _
  have hc0 : V.cell? ⟨w.heap.size, 0, none⟩ = some (.slice a G.length cap) := by rw [hV]; exact box_cell w _
  have hVs : w.heap.size < V.heap.size := by rw [hV]; simp
  have HV := Lib.hid hV
  clear hV
  have c1 := spec_IsSemigroup G a cap V (hr.below hbV) hb
  have ci := fun w => l1In_any x 0 1000 w
  cases hs : isSgB G
  · have HR : Hid (eulN G x = 0) := Lib.hid (by unfold eulN; rw [hs]; rfl)
    rw [hs] at c1
    clear hs hr hc0 ci
    go_enter Try.func39, Try.ntmps39
    go_wp2_with fail
    rw [← HV.out]
    refine c1.mono ?_
    rintro e w1 ⟨rfl, hb1⟩
    have hb01 := hbV.trans (hb1.mono hbV.size)
    go_wp2_with fail
    go_ret
    exact ⟨by rw [HR.out]; rfl, hb01⟩
  · rw [hs] at c1
    cases hx : inB x 0 1000
    · have HR : Hid (eulN G x = 0) := Lib.hid (by unfold eulN; rw [hs, hx]; rfl)
      rw [hx] at ci
      clear hs hr hx
      go_enter Try.func39, Try.ntmps39
      go_wp2_with fail
      rw [← HV.out]
      refine c1.mono ?_
      rintro e w1 ⟨rfl, hb1⟩
      have hb01 := hbV.trans (hb1.mono hbV.size)
      go_wp2_with fail
      refine (ci _).mono ?_
      rintro e w2 ⟨rfl, rfl⟩
      go_wp2_with fail
      go_ret
      exact ⟨by rw [HR.out]; rfl, hb01⟩
    · have HR : Hid (eulN G x = eulR G (G.drop 0) x) := Lib.hid (by unfold eulN; rw [hs, hx]; rfl)
      obtain ⟨hx0, hx1⟩ := inB_true hx
      rw [hx] at ci
      have cE := fun w' (h : Below V.heap.size V w') => spec_l15Euler G hs G.length 0 x a cap w' (by omega) (by omega) hx1 (hr.below (hbV.trans (h.mono hbV.size)))
      clear hs hr hx
      go_enter Try.func39, Try.ntmps39
      go_wp2_with fail
      rw [← HV.out]
      refine c1.mono ?_
      rintro e w1 ⟨rfl, hb1⟩
      have hb01 := hbV.trans (hb1.mono hbV.size)
      have hk1 : w1.cell? ⟨w.heap.size, 0, none⟩ = some (.slice a G.length cap) := (hb1.cell (p := ⟨w.heap.size, 0, none⟩) hVs).trans hc0
      have cE1 := cE w1 hb1
      clear c1 cE hc0
      generalize eulR G (G.drop 0) x = z at *
      go_wp2_with fail
      refine (ci _).mono ?_
      rintro e w2 ⟨rfl, hww⟩
      subst hww
      clear ci
      go_wp2_with fail
      refine cE1.mono ?_
      rintro e w3 ⟨rfl, hb3⟩
      have hb03 := hb01.trans (hb3.mono hb01.size)
      clear cE1 hk1
      go_wp2_with fail
      go_ret
      exact ⟨by rw [HR.out]; rfl, hb03⟩
end Go.Proofs.Ytlinlmmcgifloaa
