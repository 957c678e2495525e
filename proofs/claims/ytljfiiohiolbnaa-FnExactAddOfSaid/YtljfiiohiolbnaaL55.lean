/-
  CONTRACTS of the reference's chapters 17, 18: ScaledElements, IsWithin, QuotientOf. (Own work: mkL55.py.)
-/
import Derived.Test.YtljfiiohiolbnaaSgId
import Derived.Test.YtljfiiohiolbnaaL26
import Derived.Test.YtljfiiohiolbnaaCh11M
namespace Go.Proofs.Ytljfiiohiolbnaa
open Go Go.RowKit

noncomputable def quotK (G : List Int) (d : Int) (k : Nat) : List Int := ((List.range k).map fun (i : Nat) => (i : Int) + 1).filter fun n => !hasN G (n * d)
theorem quotK_succ (G : List Int) (d : Int) (k : Nat) : quotK G d (k + 1) = quotK G d k ++ if hasN G (((k : Int) + 1) * d) = true then [] else [(k : Int) + 1] := by
  unfold quotK
  rw [List.range_succ, List.map_append, List.filter_append, List.map_singleton, List.filter_cons, List.filter_nil]
  cases hasN G (((k : Int) + 1) * d) <;> rfl
theorem quotK_len (G : List Int) (d : Int) (k : Nat) : (quotK G d k).length ≤ k := by
  unfold quotK
  refine Nat.le_trans (List.length_filter_le _ _) ?_
  rw [List.length_map, List.length_range]; exact Nat.le_refl _
set_option maxRecDepth 100000 in
set_option maxHeartbeats 1600000 in
theorem spec_ScaledElements (G : List Int) (d x : Int) (a : Option Addr) (cap : Nat) (w : World) (hr : SlV w a (G.map (Value.int .i64))) (hb : G.length ≤ 1048576) :
    Calls Try.prog 18 #[.agg #[.slice a G.length cap], .int .i64 d, .int .i64 x] w (SlPost (scaledL G d x) w) := by
  obtain ⟨i0, hi, hz0, hz1, hz2⟩ := info_parts infoIntL
  obtain ⟨U, hU⟩ : ∃ U, U = w.alloc (.cells #[.slice a G.length cap] 26) := ⟨_, rfl⟩
  obtain ⟨V, hV⟩ : ∃ V, V = U.alloc (.cells #[] 3) := ⟨_, rfl⟩
  have hbU : Below w.heap.size w U := by rw [hU]; exact box_below _ _
  have hbUV : Below U.heap.size U V := by rw [hV]; exact (Below.refl _ _).alloc (Nat.le_refl _) _
  have hbV := hbU.trans (hbUV.mono hbU.size)
  have hcU : U.cell? ⟨w.heap.size, 0, none⟩ = some (.slice a G.length cap) := by rw [hU]; exact box_cell w _
  have hUs : w.heap.size < U.heap.size := by rw [hU]; simp
  have hUe : U.heap.size = w.heap.size + 1 := by rw [hU]; simp
  have hS : V.ownsRow U.heap.size 3 1 (.slice (some ⟨U.heap.size, 0, none⟩) 0 0) 0 [] := by rw [hV]; exact World.ownsRow_lit _ #[] 0 (Nat.le_refl _) (by simp) rfl
  have HV : Hid (V = (w.alloc (.cells #[.slice a G.length cap] 26)).alloc (.cells #[] 3)) := Lib.hid (by rw [hV, hU])
  have HUE := Lib.hid hUe
  have HS := Lib.hid hS
  have c1 := spec_IsSemigroup G a cap V (hr.below hbV) hb
  have cd := fun w => l1In_any d 1 20 w
  have cm := fun w => l1In_any x 0 200 w
  clear hU hV hUe hS
  cases hs : isSgB G
  · have HE : Hid (scaledL G d x = []) := Lib.hid (by unfold scaledL; rw [hs]; rfl)
    rw [hs] at c1
    clear hs hr hi hz0 hz1 hz2 cd cm hcU
    go_enter Try.func18, Try.ntmps18
    go_wp2_with fail
    rw [← HV.out]
    refine c1.mono ?_
    rintro e w1 ⟨rfl, hb1⟩
    have hb01 := hbV.trans (hb1.mono hbV.size)
    go_wp2_with fail
    go_ret
    exact ⟨_, rfl, by rw [HE.out, ← HUE.out]; exact ownsBase (owns_below HS.out hb1) hbU.size, hb01⟩
  · rw [hs] at c1
    cases hd : inB d 1 20
    · have HE : Hid (scaledL G d x = []) := Lib.hid (by unfold scaledL; rw [hs, hd]; rfl)
      rw [hd] at cd
      clear hs hd hr hi hz0 hz1 hz2 cm hcU
      go_enter Try.func18, Try.ntmps18
      go_wp2_with fail
      rw [← HV.out]
      refine c1.mono ?_
      rintro e w1 ⟨rfl, hb1⟩
      have hb01 := hbV.trans (hb1.mono hbV.size)
      go_wp2_with fail
      refine (cd _).mono ?_
      rintro e w2 ⟨rfl, hww⟩
      rw [hww]
      go_wp2_with fail
      go_ret
      exact ⟨_, rfl, by rw [HE.out, ← HUE.out]; exact ownsBase (owns_below HS.out hb1) hbU.size, hb01⟩
    · cases hx : inB x 0 200
      · have HE : Hid (scaledL G d x = []) := Lib.hid (by unfold scaledL; rw [hs, hd, hx]; rfl)
        rw [hd] at cd
        rw [hx] at cm
        clear hs hd hx hr hi hz0 hz1 hz2 hcU
        go_enter Try.func18, Try.ntmps18
        go_wp2_with fail
        rw [← HV.out]
        refine c1.mono ?_
        rintro e w1 ⟨rfl, hb1⟩
        have hb01 := hbV.trans (hb1.mono hbV.size)
        go_wp2_with fail
        refine (cd _).mono ?_
        rintro e w2 ⟨rfl, hww⟩
        rw [hww]
        go_wp2_with fail
        refine (cm _).mono ?_
        rintro e w3 ⟨rfl, hww3⟩
        rw [hww3]
        go_wp2_with fail
        go_ret
        exact ⟨_, rfl, by rw [HE.out, ← HUE.out]; exact ownsBase (owns_below HS.out hb1) hbU.size, hb01⟩
      · obtain ⟨hx0, hx1⟩ := inB_true hx
        obtain ⟨hd0, hd1⟩ := inB_true hd
        obtain ⟨q, rfl⟩ := Int.eq_ofNat_of_zero_le hx0
        have HE : Hid (scaledL G d (q : Int) = (upB (sumB G) (q + 1)).map fun (k : Nat) => (k : Int) * d) := Lib.hid (by unfold scaledL; rw [hs, hd, hx, Int.toNat_natCast]; rfl)
        rw [hd] at cd
        rw [hx] at cm
        have csm := fun w' (h : Below V.heap.size V w') => spec_l4Small G a cap w' (hr.below (hbV.trans (h.mono hbV.size))) hs (q + 1) (by omega)
        simp only [show ((q + 1 : Nat) : Int) = (q : Int) + 1 by omega] at csm
        have hul := upB_len_le (sumB G) (q + 1)
        have HUB : Hid (∀ y ∈ upB (sumB G) (q + 1), y ≤ 201) := Lib.hid (fun y hy => by unfold upB at hy; have := List.mem_range.1 (List.mem_filter.1 hy).1; omega)
        clear hs hd hx hr
        generalize upB (sumB G) (q + 1) = L at *
        go_enter Try.func18, Try.ntmps18
        go_wp2_with fail
        rw [← HV.out]
        refine c1.mono ?_
        rintro e w1 ⟨rfl, hb1⟩
        have hb01 := hbV.trans (hb1.mono hbV.size)
        have hk1 : w1.cell? ⟨w.heap.size, 0, none⟩ = some (.slice a G.length cap) := (hb1.cell (p := ⟨w.heap.size, 0, none⟩) (Nat.lt_of_lt_of_le hUs hbUV.size)).trans ((hbUV.cell (p := ⟨w.heap.size, 0, none⟩) hUs).trans hcU)
        have csm1 := csm w1 hb1
        clear c1 csm
        go_wp2_with fail
        refine (cd _).mono ?_
        rintro e w2 ⟨rfl, hww⟩
        rw [hww]
        clear hww cd
        go_wp2_with fail
        refine (cm _).mono ?_
        rintro e w3 ⟨rfl, hww⟩
        rw [hww]
        clear hww cm
        go_wp2_with fail
        refine csm1.mono ?_
        rintro e w4 ⟨v, rfl, ho, hb4⟩
        obtain ⟨a1, k1, rfl, rX⟩ := row_open ho
        have hml : (L.map Int.ofNat).length = L.length := List.length_map _
        have hb14 := hb1.trans (hb4.mono hb1.size)
        have hbU4 := hbUV.trans (hb14.mono hbUV.size)
        have hown4 : w4.ownsRow U.heap.size 3 1 (.slice (some ⟨w.heap.size + 1, 0, none⟩) 0 0) 0 [] := by rw [← HUE.out]; exact owns_below HS.out hb14
        have hz1' := hb1.size
        have hUV := hbUV.size
        have hB0 : Beside1 U w1.heap.size w4.heap.size (L.map Int.ofNat) a1 k1 w4 (.slice (some ⟨w.heap.size + 1, 0, none⟩) 0 0) [] := ⟨hown4, fun b hb => by have h1 := (owns_below HS.out hb1).lt b (by rw [HUE.out]; exact hb); exact .inl h1.2, rX, hbU4⟩
        have HB0 := Lib.hid hB0
        clear hB0 rX ho csm1 hk1 hown4 hbU4 hb14 hb4 hb1 hb01 hcU HS
        generalize hLL : L.map Int.ofNat = LL at *
        have HLL := Lib.hid hLL
        clear hLL
        go_wp2_with fail
        go_loopw [7, 9] (fun v i wr => ∃ k : Nat, k ≤ LL.length ∧ i = .int .i64 (k : Int) ∧ Beside1 U w1.heap.size w4.heap.size LL a1 k1 wr v ((L.take k).map fun (y : Nat) => (y : Int) * d)) (fun _ i _ => LL.length - (intOf i).toNat)
        case atStart => exact ⟨0, Nat.zero_le _, rfl, HB0.out⟩
        case round =>
          clear HB0
          obtain ⟨k, hk, rfl, hB⟩ := hrel
          have hsz := hB.bel.size
          by_cases hlt : k < LL.length
          · obtain ⟨b, o, rfl, hbs, hne, hc⟩ := hB.at (by intro h; rw [h] at hlt; simp at hlt)
            have hlti : (k : Int) < (LL.length : Int) := by omega
            have hkL : k < L.length := by omega
            have hcell := hc k hlt
            have hLk : LL[k] = ((L[k] : Nat) : Int) := by simp only [← HLL.out, List.getElem_map, Int.ofNat_eq_natCast]
            rw [hLk] at hcell
            have hy := HUB.out L[k] (List.getElem_mem hkL)
            have HT : Hid ((L.take (k + 1)).map (fun (y : Nat) => (y : Int) * d) = ((L.take k).map fun (y : Nat) => (y : Int) * d) ++ [((L[k] : Nat) : Int) * d]) := Lib.hid (by rw [List.take_add_one, List.getElem?_eq_getElem hkL, List.map_append]; rfl)
            have hMl : ((L.take k).map fun (y : Nat) => (y : Int) * d).length ≤ 201 := by rw [List.length_map, List.length_take]; omega
            have HB := Lib.hid hB
            have hown := hB.own
            clear hB hc hne hLk
            generalize L[k] = y at *
            generalize ((L.take k).map fun (y : Nat) => (y : Int) * d) = M at *
            have hp0 : 0 ≤ (y : Int) * d := Int.mul_nonneg (by omega) (by omega)
            have hp1 : (y : Int) * d ≤ 201 * 20 := Int.mul_le_mul (by omega) hd1 (by omega) (by omega)
            go_wp2_with (at_builtin; refine wpList_append_own_at _ rfl _ _ 24 rfl U.heap.size 3 i0 (Value.int .i64 0) 1 8 Try.underlying24 hi hz0 hz1 hz2 rfl (by decide) _ _ _ rfl (hown.alloc _) ⟨_, 0, none⟩ 1 1 [.int .i64 ((y : Int) * d)] rfl rfl (World.news_of_block (cs := #[.int .i64 ((y : Int) * d)]) (t := 3) (fr := (0, 0)) (heap_alloc_new _ _)) (by simp [Value.oneCell']) (by unfold maxLen; omega) (by omega) (by simp; omega) ?_; intro v2 w2 hown2 hgrow2 _ hat2)
            have HB2 := Lib.hid (HB.out.grow _ _ hown2 hgrow2 hat2)
            clear hown hown2 hgrow2 hat2 HB hcell
            go_wp2_with fail
            go_roundw
            case rel => exact ⟨k + 1, by omega, by go_num, by rw [HT.out]; exact HB2.out⟩
            case measure => simp [intOf]; omega
          · obtain rfl : k = LL.length := by omega
            rw [List.take_of_length_le (show L.length ≤ LL.length by omega)] at hB
            have hlti : ¬ ((LL.length : Nat) : Int) < (LL.length : Int) := by omega
            have HO := Lib.hid hB.own
            have hbF := hbU.trans (hB.bel.mono hbU.size)
            clear hB
            go_wp2_with fail
            go_ret
            exact ⟨_, rfl, by rw [HE.out]; exact ownsBase HO.out hbU.size, hbF⟩
set_option maxRecDepth 100000 in
set_option maxHeartbeats 1600000 in
theorem spec_IsWithin (A B : List Int) (a : Option Addr) (ca : Nat) (b : Option Addr) (cb : Nat) (w : World) (hra : SlV w a (A.map (Value.int .i64))) (hrb : SlV w b (B.map (Value.int .i64))) (hba : A.length ≤ 1048576) (hbb : B.length ≤ 1048576) :
    Calls Try.prog 29 #[.agg #[.slice a A.length ca], .agg #[.slice b B.length cb]] w fun e w' => e = .returned (.bool (withinB A B)) ∧ Below w.heap.size w w' := by
  obtain ⟨V, hV⟩ : ∃ V, V = (w.alloc (.cells #[.slice a A.length ca] 26)).alloc (.cells #[.slice b B.length cb] 26) := ⟨_, rfl⟩
  have hbV : Below w.heap.size w V := by rw [hV]; exact (box_below _ _).alloc (by simp) _
  have hcA : V.cell? ⟨w.heap.size, 0, none⟩ = some (.slice a A.length ca) := by rw [hV]; exact (World.cell?_alloc_lt _ _ ⟨w.heap.size, 0, none⟩ (by simp)).trans (box_cell w _)
  have hcB : V.cell? ⟨w.heap.size + 1, 0, none⟩ = some (.slice b B.length cb) := by rw [hV]; have := box_cell (w.alloc (.cells #[.slice a A.length ca] 26)) (.slice b B.length cb); rw [show (w.alloc (.cells #[.slice a A.length ca] 26)).heap.size = w.heap.size + 1 by simp] at this; exact this
  have hVs : w.heap.size + 1 < V.heap.size := by rw [hV]; simp
  have HV := Lib.hid hV
  clear hV
  have c1 := spec_IsSemigroup A a ca V (hra.below hbV) hba
  have c2 := fun w' (h : Below V.heap.size V w') => spec_IsSemigroup B b cb w' (hrb.below (hbV.trans (h.mono hbV.size))) hbb
  have HK0 : Hid (∀ w2, Below V.heap.size V w2 → w2.cell? ⟨w.heap.size, 0, none⟩ = some (.slice a A.length ca) ∧ w2.cell? ⟨w.heap.size + 1, 0, none⟩ = some (.slice b B.length cb)) := Lib.hid fun w2 h => ⟨(h.cell (p := ⟨w.heap.size, 0, none⟩) (show w.heap.size < V.heap.size by omega)).trans hcA, (h.cell (p := ⟨w.heap.size + 1, 0, none⟩) hVs).trans hcB⟩
  cases hsa : isSgB A
  · have HE : Hid (withinB A B = false) := Lib.hid (by unfold withinB; rw [hsa]; rfl)
    rw [hsa] at c1
    clear hsa hra hrb c2 hcB
    go_enter Try.func29, Try.ntmps29
    go_wp2_with fail
    rw [← HV.out]
    refine c1.mono ?_
    rintro e w1 ⟨rfl, hb1⟩
    have hb01 := hbV.trans (hb1.mono hbV.size)
    go_wp2_with fail
    go_ret
    exact ⟨by rw [HE.out]; rfl, hb01⟩
  · rw [hsa] at c1
    cases hsb : isSgB B
    · have HE : Hid (withinB A B = false) := Lib.hid (by unfold withinB; rw [hsa, hsb]; rfl)
      rw [hsb] at c2
      clear hsa hsb hra hrb
      go_enter Try.func29, Try.ntmps29
      go_wp2_with fail
      rw [← HV.out]
      refine c1.mono ?_
      rintro e w1 ⟨rfl, hb1⟩
      have hb01 := hbV.trans (hb1.mono hbV.size)
      obtain ⟨hk1, hk2⟩ := HK0.out w1 hb1
      have c21 := c2 w1 hb1
      clear c1 c2 hcA hcB
      go_wp2_with fail
      refine c21.mono ?_
      rintro e w2 ⟨rfl, hb2⟩
      have hb12 := hb1.trans (hb2.mono hb1.size)
      clear c21 hk1 hk2 hb2
      go_wp2_with fail
      go_ret
      exact ⟨by rw [HE.out]; rfl, hbV.trans (hb12.mono hbV.size)⟩
    · rw [hsb] at c2
      have h0 : 0 < A.length := (okG_iff.1 (isSgB_iff.1 hsa).ok).2.1
      have HW2 : Hid (withinB A B = A.all (hasN B)) := Lib.hid (by unfold withinB; rw [hsa, hsb]; rfl)
      have HSB := Lib.hid hsb
      have HRB := Lib.hid (fun w2 (h : Below V.heap.size V w2) => hrb.below (hbV.trans (h.mono hbV.size)))
      obtain ⟨bg, og, rfl, hbg, hcg⟩ := hra.open (by intro h; rw [List.map_eq_nil_iff] at h; subst h; simp at h0)
      clear hsa hsb hrb hra
      go_enter Try.func29, Try.ntmps29
      go_wp2_with fail
      rw [← HV.out]
      refine c1.mono ?_
      rintro e w1 ⟨rfl, hb1⟩
      have hb01 := hbV.trans (hb1.mono hbV.size)
      obtain ⟨hk1, hk2⟩ := HK0.out w1 hb1
      have c21 := c2 w1 hb1
      clear c1 c2 hcA hcB
      go_wp2_with fail
      refine c21.mono ?_
      rintro e w2 ⟨rfl, hb2⟩
      have hb12 := hb1.trans (hb2.mono hb1.size)
      clear c21 hk1 hk2 hb2
      go_wp2_with fail
      go_loopw [5] (fun i wr => ∃ k : Nat, k ≤ A.length ∧ i = .int .i64 (k : Int) ∧ (A.take k).all (hasN B) = true ∧ Below V.heap.size V wr) (fun i _ => A.length - (intOf i).toNat)
      case atStart => exact ⟨0, Nat.zero_le _, rfl, by simp, hb12⟩
      case round =>
        clear hb12 hb1 hb01
        obtain ⟨k, hk, rfl, hall, hbel⟩ := hrel
        have HA := Lib.hid hall
        have hkA := (HK0.out wr hbel).1
        clear hall
        by_cases hlt : k < A.length
        · have hlti : (k : Int) < (A.length : Int) := by omega
          have hk0 : (0 : Int) ≤ (k : Int) := by omega
          have hm := List.getElem_mem hlt
          have HK : Hid (∀ w2, Below V.heap.size V w2 → w2.cell? ⟨w.heap.size, 0, none⟩ = some (.slice (some ⟨bg, og, none⟩) A.length ca) ∧ w2.cell? ⟨w.heap.size + 1, 0, none⟩ = some (.slice b B.length cb) ∧ w2.cell? ⟨bg, og + k, none⟩ = some (.int .i64 A[k]) ∧ Below V.heap.size V w2) := Lib.hid fun w2 h => ⟨(HK0.out w2 h).1, (HK0.out w2 h).2, ((hbV.trans (h.mono hbV.size)).cell (p := ⟨bg, og + k, none⟩) hbg).trans (hcg k _ (by simp [hlt])), h⟩
          have HT : Hid (A.take (k + 1) = A.take k ++ [A[k]]) := Lib.hid (by rw [List.take_add_one, List.getElem?_eq_getElem hlt]; rfl)
          have ch := fun w' (h : Below V.heap.size V w') => spec_l3Has B A[k] b cb w' (HRB.out w' h) HSB.out
          have hS0 := HK.out _ hbel.drew
          cases hx : hasN B A[k]
          · have HE : Hid (withinB A B = false) := Lib.hid (by rw [HW2.out]; exact List.all_eq_false.2 ⟨A[k], hm, by rw [hx]; exact Bool.false_ne_true⟩)
            rw [hx] at ch
            clear hx hm HT
            generalize A[k] = y at *
            go_wp2_with fail
            clear hkA
            refine wp_region_held_drew (S := fun w' => w'.cell? ⟨w.heap.size, 0, none⟩ = some (.slice (some ⟨bg, og, none⟩) A.length ca) ∧ w'.cell? ⟨w.heap.size + 1, 0, none⟩ = some (.slice b B.length cb) ∧ w'.cell? ⟨bg, og + k, none⟩ = some (.int .i64 y) ∧ Below V.heap.size V w') (by kernel_rfl) hS0 (fun hHeld => ?_)
            refine held_take 0 _ _ rfl (by kernel_rfl) (by kernel_rfl) (by kernel_rfl) (fun _ _ _ h => h) (by rfl) hHeld (fun w hSw => by (try dsimp only at hSw); go_simp; try with_reducible rfl) ?_
            (try simp only [Act.put, List.setIfInBounds_toArray, List.set_cons_zero, List.set_cons_succ, List.getElem_toArray, List.getElem_cons_zero])
            refine held_take 1 _ _ rfl (by kernel_rfl) (by kernel_rfl) (by kernel_rfl) (fun _ _ _ h => h) (by rfl) hHeld (fun w hSw => by (try dsimp only at hSw); go_simp; try with_reducible rfl) ?_
            (try simp only [Act.put, List.setIfInBounds_toArray, List.set_cons_zero, List.set_cons_succ, List.getElem_toArray, List.getElem_cons_succ, List.getElem_cons_zero])
            refine held_take 2 _ _ rfl (by kernel_rfl) (by kernel_rfl) (by kernel_rfl) (fun _ _ _ h => h) (by rfl) hHeld (fun w hSw => by (try dsimp only at hSw); go_simp; try with_reducible rfl) ?_
            (try simp only [Act.put, List.setIfInBounds_toArray, List.set_cons_zero, List.set_cons_succ, List.getElem_toArray, List.getElem_cons_succ, List.getElem_cons_zero])
            refine held_take 3 _ _ rfl (by kernel_rfl) (by kernel_rfl) (by kernel_rfl) (fun _ _ _ h => h) (by rfl) hHeld (fun w hSw => by (try dsimp only at hSw); go_simp; try with_reducible rfl) ?_
            (try simp only [Act.put, List.setIfInBounds_toArray, List.set_cons_zero, List.set_cons_succ, List.getElem_toArray, List.getElem_cons_succ, List.getElem_cons_zero])
            refine held_take 4 _ _ rfl (by kernel_rfl) (by kernel_rfl) (by kernel_rfl) (fun _ _ _ h => h) (by rfl) hHeld (fun w hSw => by (try dsimp only at hSw); go_simp; try with_reducible rfl) ?_
            (try simp only [Act.put, List.setIfInBounds_toArray, List.set_cons_zero, List.set_cons_succ, List.getElem_toArray, List.getElem_cons_succ, List.getElem_cons_zero])
            refine held_take 5 _ _ rfl (by kernel_rfl) (by kernel_rfl) (by kernel_rfl) (fun _ _ _ h => h) (by rfl) hHeld (fun w hSw => by (try dsimp only at hSw); go_simp; try with_reducible rfl) ?_
            (try simp only [Act.put, List.setIfInBounds_toArray, List.set_cons_zero, List.set_cons_succ, List.getElem_toArray, List.getElem_cons_succ, List.getElem_cons_zero])
            refine wpAnyH_ready (rs := [6]) (by kernel_rfl) (by simp) ?_
            refine AllReadyH.cons rfl (fun K hK => ?_) AllReadyH.nil
            rw [if_pos (by rfl)]
            go_wp2_with (first | (go_at_call 50; (with_reducible refine (ch _ hHeld.2.2.2).mono ?_); rintro e wA ⟨rfl, hbA⟩))
            refine hK.out _ _ (HK.out _ ((hHeld).2.2.2.trans (hbA.mono (hHeld).2.2.2.size))) (fun hHeld1 => ?_)
            clear hK K
            (try simp only [Act.put, List.setIfInBounds_toArray, List.set_cons_zero, List.set_cons_succ, List.getElem_toArray, List.getElem_cons_succ, List.getElem_cons_zero])
            refine held_take 7 _ _ rfl (by kernel_rfl) (by kernel_rfl) (by kernel_rfl) (fun _ _ _ h => h) (by rfl) hHeld1 (fun w hSw => by (try dsimp only at hSw); go_simp; try with_reducible rfl) ?_
            (try simp only [Act.put, List.setIfInBounds_toArray, List.set_cons_zero, List.set_cons_succ, List.getElem_toArray, List.getElem_cons_succ, List.getElem_cons_zero])
            refine wpAnyH_done (by kernel_rfl) ?_ _
            have hbF := hbV.trans ((hHeld1).2.2.2.mono hbV.size)
            clear ch hS0 hbA
            go_wp2_with fail
            go_ret
            exact ⟨by rw [HE.out]; rfl, hbF⟩
          · have HN : Hid ((A.take (k + 1)).all (hasN B) = true) := Lib.hid (by rw [HT.out, List.all_append, HA.out]; simp [hx])
            rw [hx] at ch
            clear hx hm HT
            generalize A[k] = y at *
            go_wp2_with fail
            clear hkA
            refine wp_region_held_drew (S := fun w' => w'.cell? ⟨w.heap.size, 0, none⟩ = some (.slice (some ⟨bg, og, none⟩) A.length ca) ∧ w'.cell? ⟨w.heap.size + 1, 0, none⟩ = some (.slice b B.length cb) ∧ w'.cell? ⟨bg, og + k, none⟩ = some (.int .i64 y) ∧ Below V.heap.size V w') (by kernel_rfl) hS0 (fun hHeld => ?_)
            refine held_take 0 _ _ rfl (by kernel_rfl) (by kernel_rfl) (by kernel_rfl) (fun _ _ _ h => h) (by rfl) hHeld (fun w hSw => by (try dsimp only at hSw); go_simp; try with_reducible rfl) ?_
            (try simp only [Act.put, List.setIfInBounds_toArray, List.set_cons_zero, List.set_cons_succ, List.getElem_toArray, List.getElem_cons_zero])
            refine held_take 1 _ _ rfl (by kernel_rfl) (by kernel_rfl) (by kernel_rfl) (fun _ _ _ h => h) (by rfl) hHeld (fun w hSw => by (try dsimp only at hSw); go_simp; try with_reducible rfl) ?_
            (try simp only [Act.put, List.setIfInBounds_toArray, List.set_cons_zero, List.set_cons_succ, List.getElem_toArray, List.getElem_cons_succ, List.getElem_cons_zero])
            refine held_take 2 _ _ rfl (by kernel_rfl) (by kernel_rfl) (by kernel_rfl) (fun _ _ _ h => h) (by rfl) hHeld (fun w hSw => by (try dsimp only at hSw); go_simp; try with_reducible rfl) ?_
            (try simp only [Act.put, List.setIfInBounds_toArray, List.set_cons_zero, List.set_cons_succ, List.getElem_toArray, List.getElem_cons_succ, List.getElem_cons_zero])
            refine held_take 3 _ _ rfl (by kernel_rfl) (by kernel_rfl) (by kernel_rfl) (fun _ _ _ h => h) (by rfl) hHeld (fun w hSw => by (try dsimp only at hSw); go_simp; try with_reducible rfl) ?_
            (try simp only [Act.put, List.setIfInBounds_toArray, List.set_cons_zero, List.set_cons_succ, List.getElem_toArray, List.getElem_cons_succ, List.getElem_cons_zero])
            refine held_take 4 _ _ rfl (by kernel_rfl) (by kernel_rfl) (by kernel_rfl) (fun _ _ _ h => h) (by rfl) hHeld (fun w hSw => by (try dsimp only at hSw); go_simp; try with_reducible rfl) ?_
            (try simp only [Act.put, List.setIfInBounds_toArray, List.set_cons_zero, List.set_cons_succ, List.getElem_toArray, List.getElem_cons_succ, List.getElem_cons_zero])
            refine held_take 5 _ _ rfl (by kernel_rfl) (by kernel_rfl) (by kernel_rfl) (fun _ _ _ h => h) (by rfl) hHeld (fun w hSw => by (try dsimp only at hSw); go_simp; try with_reducible rfl) ?_
            (try simp only [Act.put, List.setIfInBounds_toArray, List.set_cons_zero, List.set_cons_succ, List.getElem_toArray, List.getElem_cons_succ, List.getElem_cons_zero])
            refine wpAnyH_ready (rs := [6]) (by kernel_rfl) (by simp) ?_
            refine AllReadyH.cons rfl (fun K hK => ?_) AllReadyH.nil
            rw [if_pos (by rfl)]
            go_wp2_with (first | (go_at_call 50; (with_reducible refine (ch _ hHeld.2.2.2).mono ?_); rintro e wA ⟨rfl, hbA⟩))
            refine hK.out _ _ (HK.out _ ((hHeld).2.2.2.trans (hbA.mono (hHeld).2.2.2.size))) (fun hHeld1 => ?_)
            clear hK K
            (try simp only [Act.put, List.setIfInBounds_toArray, List.set_cons_zero, List.set_cons_succ, List.getElem_toArray, List.getElem_cons_succ, List.getElem_cons_zero])
            refine held_take 7 _ _ rfl (by kernel_rfl) (by kernel_rfl) (by kernel_rfl) (fun _ _ _ h => h) (by rfl) hHeld1 (fun w hSw => by (try dsimp only at hSw); go_simp; try with_reducible rfl) ?_
            (try simp only [Act.put, List.setIfInBounds_toArray, List.set_cons_zero, List.set_cons_succ, List.getElem_toArray, List.getElem_cons_succ, List.getElem_cons_zero])
            refine wpAnyH_done (by kernel_rfl) ?_ _
            have hbF := (hHeld1).2.2.2
            clear ch hS0 hbA
            go_wp2_with fail
            go_roundw
            case rel => exact ⟨k + 1, by omega, by go_num, HN.out, hbF⟩
            case measure => simp [intOf]; omega
        · obtain rfl : k = A.length := by omega
          have hlti : ¬ ((A.length : Nat) : Int) < (A.length : Int) := by omega
          have HE : Hid (withinB A B = true) := Lib.hid (by have := HA.out; rw [List.take_length] at this; rw [HW2.out]; exact this)
          have hbF := hbV.trans (hbel.mono hbV.size)
          clear hbel hcg
          go_wp2_with fail
          go_ret
          exact ⟨by rw [HE.out]; rfl, hbF⟩
set_option maxRecDepth 100000 in
set_option maxHeartbeats 1600000 in
theorem spec_QuotientOf (G : List Int) (d : Int) (a : Option Addr) (cap : Nat) (w : World) (hr : SlV w a (G.map (Value.int .i64))) (hb : G.length ≤ 1048576) :
    Calls Try.prog 13 #[.agg #[.slice a G.length cap], .int .i64 d] w (SgPost (quotL G d) (quotB G d) w) := by
  obtain ⟨i0, hi, hz0, hz1, hz2⟩ := info_parts infoIntL
  obtain ⟨dS, hdS, hrS⟩ := undSg
  obtain ⟨U, hU⟩ : ∃ U, U = w.alloc (.cells #[.slice a G.length cap] 26) := ⟨_, rfl⟩
  obtain ⟨V, hV⟩ : ∃ V, V = U.alloc (.cells [Value.slice none 0 0].toArray 26) := ⟨_, rfl⟩
  have hbU : Below w.heap.size w U := by rw [hU]; exact box_below _ _
  have hbUV : Below U.heap.size U V := by rw [hV]; exact box_below _ _
  have hbV := hbU.trans (hbUV.mono hbU.size)
  have hUe : U.heap.size = w.heap.size + 1 := by rw [hU]; simp
  have hcV : V.cell? ⟨w.heap.size, 0, none⟩ = some (.slice a G.length cap) := by rw [hV]; exact (World.cell?_alloc_lt _ _ ⟨w.heap.size, 0, none⟩ (show w.heap.size < U.heap.size by omega)).trans (by rw [hU]; exact box_cell w _)
  have hAV : Arr V (w.heap.size + 1) 26 [Value.slice none 0 0] := by rw [hV, ← hUe]; exact Arr.new _ _ _
  have hVs : w.heap.size + 1 < V.heap.size := hAV.lt
  have HV : Hid (V = (w.alloc (.cells #[.slice a G.length cap] 26)).alloc (.cells [Value.slice none 0 0].toArray 26)) := Lib.hid (by rw [hV, hU])
  have HUE := Lib.hid hUe
  have c1 := spec_IsSemigroup G a cap V (hr.below hbV) hb
  have cd := fun w => l1In_any d 1 20 w
  clear hU hV hUe hbU hbUV
  cases hs : isSgB G
  · have HB : Hid (quotB G d = false) := Lib.hid (by unfold quotB; rw [hs]; rfl)
    have HL : Hid (quotL G d = []) := Lib.hid (by unfold quotL; rw [hs]; rfl)
    rw [hs] at c1
    clear hs hr hi hz0 hz1 hz2 cd
    go_enter Try.func13, Try.ntmps13
    go_wp2_with (first | (refine wpList_alloc_arr 26 [Value.slice none 0 0] zeroSg rfl rfl ?_; rw [← HV.out]))
    go_wp2_with fail
    refine c1.mono ?_
    rintro e w1 ⟨rfl, hb1⟩
    have hb01 := hbV.trans (hb1.mono hbV.size)
    have hA1 := hAV.below hb1
    go_wp2_with (first | (refine wpList_store_arr 26 (.tmp 4) (.tmp 18) (w.heap.size + 1) [Value.slice none 0 0] [Value.slice none 0 0] rfl rfl rfl rfl hA1 rfl sizeSg (by simp [Value.oneCell']) ?_; intro w9 hA9 hg9 hz9; clear hz9))
    have hb9 := hb01.grown hg9 hb01.size (fun k hk => by cases hk; omega)
    exact bodyPost_ret (results_arr_tmp rfl _ _ (w.heap.size + 1) [Value.slice none 0 0] dS rfl hA9 hdS hrS sizeSg) rfl ⟨_, by rw [HB.out]; rfl, by rw [HL.out]; exact World.ownsRow_nil _ _ _ _, hb9⟩
  · rw [hs] at c1
    cases hd : inB d 1 20
    · have HB : Hid (quotB G d = false) := Lib.hid (by unfold quotB; rw [hs, hd]; rfl)
      have HL : Hid (quotL G d = []) := Lib.hid (by unfold quotL; rw [hs, hd]; rfl)
      rw [hd] at cd
      clear hs hd hr hi hz0 hz1 hz2
      go_enter Try.func13, Try.ntmps13
      go_wp2_with (first | (refine wpList_alloc_arr 26 [Value.slice none 0 0] zeroSg rfl rfl ?_; rw [← HV.out]))
      go_wp2_with fail
      refine c1.mono ?_
      rintro e w1 ⟨rfl, hb1⟩
      have hb01 := hbV.trans (hb1.mono hbV.size)
      have hA1 := hAV.below hb1
      clear hcV c1
      go_wp2_with fail
      refine (cd _).mono ?_
      rintro e w2 ⟨rfl, hww⟩
      rw [hww]
      go_wp2_with (first | (refine wpList_store_arr 26 (.tmp 4) (.tmp 18) (w.heap.size + 1) [Value.slice none 0 0] [Value.slice none 0 0] rfl rfl rfl rfl hA1 rfl sizeSg (by simp [Value.oneCell']) ?_; intro w9 hA9 hg9 hz9; clear hz9))
      have hb9 := hb01.grown hg9 hb01.size (fun k hk => by cases hk; omega)
      exact bodyPost_ret (results_arr_tmp rfl _ _ (w.heap.size + 1) [Value.slice none 0 0] dS rfl hA9 hdS hrS sizeSg) rfl ⟨_, by rw [HB.out]; rfl, by rw [HL.out]; exact World.ownsRow_nil _ _ _ _, hb9⟩
    · obtain ⟨hd0, hd1⟩ := inB_true hd
      have HB : Hid (quotB G d = fromGpB (quotGaps G d)) := Lib.hid (by unfold quotB; rw [hs, hd]; rfl)
      have HL : Hid (quotL G d = fromGpL (quotGaps G d)) := Lib.hid (by unfold quotL; rw [hs, hd]; rfl)
      have HGK : Hid (quotK G d 199 = quotGaps G d) := Lib.hid rfl
      rw [hd] at cd
      have HSG := Lib.hid hs
      have HRS := Lib.hid (fun w2 (h : Below V.heap.size V w2) => hr.below (hbV.trans (h.mono hbV.size)))
      have HKC := Lib.hid (fun w2 (h : Below V.heap.size V w2) => (h.cell (p := ⟨w.heap.size, 0, none⟩) (show w.heap.size < V.heap.size by omega)).trans hcV)
      have HAV := Lib.hid hAV
      clear hs hd hr
      go_enter Try.func13, Try.ntmps13
      go_wp2_with (first | (refine wpList_alloc_arr 26 [Value.slice none 0 0] zeroSg rfl rfl ?_; rw [← HV.out]))
      go_wp2_with fail
      refine c1.mono ?_
      rintro e w1 ⟨rfl, hb1⟩
      have hb01 := hbV.trans (hb1.mono hbV.size)
      have hA1 := hAV.below hb1
      clear c1 hA1 hAV hb01 hcV
      go_wp2_with fail
      refine (cd _).mono ?_
      rintro e w2 ⟨rfl, hww⟩
      rw [hww]
      clear hww cd
      go_wp2_with fail
      have HO0 : Hid ((w1.alloc (.cells #[] 3)).ownsRow V.heap.size 3 1 (.slice (some ⟨w1.heap.size, 0, none⟩) 0 0) (quotK G d 0).length ((quotK G d 0).map (Value.int .i64))) := Lib.hid (World.ownsRow_lit w1 #[] 0 hb1.size (by simp) rfl)
      have HB0 := Lib.hid (hb1.alloc hb1.size (.cells #[] 3))
      clear hb1
      go_loopw [6, 7] (fun v i wr => ∃ k : Nat, k ≤ 199 ∧ i = .int .i64 ((k : Int) + 1) ∧ wr.ownsRow V.heap.size 3 1 v (quotK G d k).length ((quotK G d k).map (Value.int .i64)) ∧ Below V.heap.size V wr) (fun _ i _ => (200 - intOf i).toNat)
      case atStart => exact ⟨0, by omega, rfl, HO0.out, HB0.out⟩
      case round =>
        clear HO0 HB0
        obtain ⟨k, hk, rfl, hown, hbel⟩ := hrel
        have hsz := hbel.size
        have hMl := quotK_len G d k
        by_cases hlt : k < 199
        · have hlti : (k : Int) + 1 < 200 := by omega
          have hkc := HKC.out wr hbel
          have HT := Lib.hid (quotK_succ G d k)
          have hnx : ((k + 1 : Nat) : Int) + 1 = (k : Int) + 1 + 1 := by omega
          have ch := spec_l3Has G (((k : Int) + 1) * d) a cap wr (HRS.out wr hbel) HSG.out
          have hp0 : 0 ≤ ((k : Int) + 1) * d := Int.mul_nonneg (by omega) (by omega)
          have hp1 : ((k : Int) + 1) * d ≤ 200 * 20 := Int.mul_le_mul (by omega) hd1 (by omega) (by omega)
          generalize quotK G d k = M at *
          cases hq : hasN G (((k : Int) + 1) * d)
          · rw [if_neg (by rw [hq]; exact Bool.false_ne_true)] at HT
            rw [hq] at ch
            clear hq
            go_wp2_with fail
            refine ch.mono ?_
            rintro e w3 ⟨rfl, hb3⟩
            have hbel3 := hbel.trans (hb3.mono hsz)
            have hsz3 := hbel3.size
            have hown3 := owns_below hown hb3
            clear ch hown hbel hb3 hkc
            go_wp2_with (at_builtin; refine wpList_append_own _ rfl _ _ 24 rfl V.heap.size 3 i0 (Value.int .i64 0) 1 8 Try.underlying24 hi hz0 hz1 hz2 rfl (by decide) _ _ _ rfl (hown3.alloc _) ⟨_, 0, none⟩ 1 1 [.int .i64 ((k : Int) + 1)] rfl rfl (World.news_of_block (cs := #[.int .i64 ((k : Int) + 1)]) (t := 3) (fr := (0, 0)) (heap_alloc_new _ _)) (by simp [Value.oneCell']) (by unfold maxLen; omega) (by omega) (by simp; omega) ?_; intro v2 w2 hown2 hgrow2 _)
            have hb2 := (hbel3.alloc hsz3 _).grown hgrow2 (by simp; omega) (fun j hj => (hown3.lt j hj).1)
            have HO := Lib.hid hown2
            clear hown3 hown2 hgrow2
            go_wp2_with fail
            go_roundw
            case rel => exact ⟨k + 1, by omega, by rw [hnx], by rw [HT.out]; have := HO.out; simpa using this, hb2⟩
            case measure => simp [intOf]; omega
          · rw [if_pos hq, List.append_nil] at HT
            rw [hq] at ch
            clear hq
            go_wp2_with fail
            refine ch.mono ?_
            rintro e w3 ⟨rfl, hb3⟩
            have hbel3 := hbel.trans (hb3.mono hsz)
            have HO := Lib.hid (owns_below hown hb3)
            clear ch hown hbel hb3 hkc
            go_wp2_with fail
            go_roundw
            case rel => exact ⟨k + 1, by omega, by rw [hnx], by rw [HT.out]; exact HO.out, hbel3⟩
            case measure => simp [intOf]; omega
        · obtain rfl : k = 199 := by omega
          rw [HGK.out] at hown hMl
          obtain ⟨a1, k1, rfl, rX⟩ := row_open hown
          have c2 := spec_FromGaps (quotGaps G d) a1 k1 wr rX.slv (by omega)
          have hlti : ¬ (((199 : Nat) : Int) + 1 < 200) := by omega
          clear hown rX
          generalize fromGpB (quotGaps G d) = fb at *
          generalize hK : fromGpL (quotGaps G d) = K at *
          clear hK
          go_wp2_with fail
          refine c2.mono ?_
          rintro e w4 ⟨v4, rfl, ho4, hb4⟩
          obtain ⟨a4, k4, rfl, -⟩ := row_open ho4
          have hbV4 := hbel.trans (hb4.mono hsz)
          have hbw4 := hbV.trans (hbV4.mono hbV.size)
          have hA4 := HAV.out.below hbV4
          have hN := Arr.new w4 26 [Value.slice none 0 0]
          have hA4c := hA4.alloc (.cells [Value.slice none 0 0].toArray 26)
          have hbw5 := hbw4.alloc (o := .cells [Value.slice none 0 0].toArray 26) hbw4.size
          have ho4c := ho4.alloc (.cells [Value.slice none 0 0].toArray 26)
          have hsw4 := hbV4.size
          have hsr4 := hb4.size
          have hn4 := own_apart ho4 (g := w4.heap.size) (.inr (Nat.le_refl _))
          have hn5 := own_apart ho4 (g := w.heap.size + 1) (.inl (by omega))
          clear c2 hb4 ho4 hA4
          go_wp2_with (first | (refine wpList_alloc_arr 26 [Value.slice none 0 0] zeroSg rfl rfl ?_) | (refine wpList_store_arr 26 (.tmp 8) (.tmp 37) w4.heap.size [Value.slice none 0 0] [Value.slice a4 K.length k4] rfl rfl rfl rfl hN rfl sizeSg (by simp [Value.oneCell']) ?_; intro w6 hN6 hg6 hz6; clear hz6; have hcN := hN6.cell 0) | (refine wpList_store_arr 26 (.tmp 4) (.tmp 39) (w.heap.size + 1) [Value.slice none 0 0] [Value.slice a4 K.length k4] rfl rfl rfl rfl (hA4c.grown hg6 (by simp; omega)) rfl sizeSg (by simp [Value.oneCell']) ?_; intro w9 hA9 hg9 hz9; clear hz9))
          have hb6 := hbw5.grown hg6 hbw5.size (fun k hk => by cases hk; omega)
          have hb9 := hb6.grown hg9 hb6.size (fun k hk => by cases hk; omega)
          have ho9 := (ho4c.kept hg6 hn4).kept hg9 hn5
          exact bodyPost_ret (results_arr_tmp rfl _ _ (w.heap.size + 1) [Value.slice a4 K.length k4] dS rfl hA9 hdS hrS sizeSg) rfl ⟨_, by rw [HB.out]; rfl, by rw [HL.out]; exact ownsBase ho9 (by omega), hb9⟩
end Go.Proofs.Ytljfiiohiolbnaa
