/-
  CONTRACTS of the reference's chapter 16: CanonicalGens, DualGens. (Own work: mkL54.py.)
-/
import Derived.Test.YtopnehkhigacpaaGreatL53
import Derived.Test.YtopnehkhigacpaaGreatL29
import Derived.Test.YtopnehkhigacpaaGreatCh11M
namespace Go.Proofs.YtopnehkhigacpaaGreat
open Go Go.RowKit

theorem psf_bnd {G : List Int} (hs : isSgB G = true) : ∀ x ∈ psfL G, 0 ≤ x ∧ x ≤ 200 := by
  intro x hx
  unfold psfL at hx
  rw [if_pos hs] at hx
  obtain ⟨n, hn, rfl⟩ := List.mem_map.1 hx
  unfold upB at hn
  have h1 := (List.mem_filter.1 hn).1
  rw [List.mem_range] at h1
  simp only [Int.ofNat_eq_natCast]; omega
theorem least_facts {L : List Int} (hv : validB L = true) : 0 < (sortL L).length ∧ (sortL L)[0]? = some (leastI L) ∧ -200 ≤ leastI L ∧ leastI L ≤ 200 := by
  obtain ⟨h1, h2, h3⟩ := validB_iff.1 hv
  have hne : sortL L ≠ [] := by
    intro e
    have : L[0] ∈ sortL L := (sortL_spec L).2 _ |>.2 (List.getElem_mem (by omega))
    rw [e] at this; cases this
  have hp := List.length_pos_iff.2 hne
  have e : leastI L = (sortL L)[0] := by
    unfold leastI
    rw [List.headD_eq_head?_getD, List.head?_eq_getElem?, List.getElem?_eq_getElem hp]; rfl
  have hm : leastI L ∈ L := by rw [e]; exact (sortL_spec L).2 _ |>.1 (List.getElem_mem hp)
  exact ⟨hp, by rw [e]; exact List.getElem?_eq_getElem hp, h1 _ hm⟩
noncomputable def dualK (G L : List Int) (l : Int) (k : Nat) : List Int := ((List.range k).map fun (i : Nat) => (i : Int) - l).filter (dualB G L)
theorem dualK_succ (G L : List Int) (l : Int) (k : Nat) : dualK G L l (k + 1) = dualK G L l k ++ if dualB G L ((k : Int) - l) = true then [(k : Int) - l] else [] := by
  unfold dualK
  rw [List.range_succ, List.map_append, List.filter_append, List.map_singleton, List.filter_cons, List.filter_nil]
theorem dualK_len (G L : List Int) (l : Int) (k : Nat) : (dualK G L l k).length ≤ k := by
  unfold dualK
  refine Nat.le_trans (List.length_filter_le _ _) ?_
  rw [List.length_map, List.length_range]; exact Nat.le_refl _
theorem dual_way {G L : List Int} {g : Nat} (hs : isSgB G = true) (hv : validB L = true) (h0 : 0 < G.length) (hg : G[0] = (g : Int)) : dualL G L = topL G (dualK G L (leastI L) (condNat G + g)) true := by
  have e : (G.headD 0).toNat = g := by
    cases G with
    | nil => simp at h0
    | cons a r => simp only [List.getElem_cons_zero] at hg; simp [hg]
  unfold dualL dualAll dualK
  rw [hs, hv, e]; rfl
set_option maxRecDepth 100000 in
set_option maxHeartbeats 1600000 in
theorem spec_CanonicalGens (G : List Int) (a : Option Addr) (cap : Nat) (w : World) (hr : SlV w a (G.map (Value.int .i64))) (hb : G.length ≤ 1048576) :
    Calls Tryz.prog 19 #[.agg #[.slice a G.length cap]] w (SlPost (canonL G) w) := by
  obtain ⟨i0, hi, hz0, hz1, hz2⟩ := info_parts infoIntL
  obtain ⟨V, hV⟩ : ∃ V, V = w.alloc (.cells #[.slice a G.length cap] 26) := ⟨_, rfl⟩
  have hbV : Below w.heap.size w V := by rw [hV]; exact box_below _ _
  have hc0 : V.cell? ⟨w.heap.size, 0, none⟩ = some (.slice a G.length cap) := by rw [hV]; exact box_cell w _
  have hVs : w.heap.size < V.heap.size := by rw [hV]; simp
  have HV := Lib.hid hV
  clear hV
  have c1 := spec_IsSemigroup G a cap V (hr.below hbV) hb
  cases hs : isSgB G
  · have HE : Hid (canonL G = []) := Lib.hid (by unfold canonL; rw [hs]; rfl)
    rw [hs] at c1
    clear hs hr hc0 hi hz0 hz1 hz2
    go_enter Tryz.func19, Tryz.ntmps19
    go_wp2_with fail
    rw [← HV.out]
    refine c1.mono ?_
    rintro e w1 ⟨rfl, hb1⟩
    have hb01 := hbV.trans (hb1.mono hbV.size)
    go_wp2_with fail
    go_ret
    exact ⟨_, rfl, by rw [HE.out]; exact World.ownsRow_lit _ #[] 0 hb01.size (by simp) rfl, hb01.alloc hb01.size _⟩
  · rw [hs] at c1
    have hfb : -1 ≤ frobN G ∧ frobN G ≤ 199 := by have h1 := frob_cond hs; have h2 := condNat_le G; omega
    have HPB : Hid (∀ x ∈ psfL G, 0 ≤ x ∧ x ≤ 200) := Lib.hid (psf_bnd hs)
    have hpl := psfL_len_le G
    have HE : Hid (canonL G = if psfL G = [] then [0] else sortL ((psfL G).map fun x => frobN G - x)) := Lib.hid (by unfold canonL; rw [hs]; rfl)
    have cf := fun w' (h : Below V.heap.size V w') => spec_FrobeniusOf G a cap w' (hr.below (hbV.trans (h.mono hbV.size))) hb
    have cp := fun w' (h : Below V.heap.size V w') => spec_PseudoFrobenius G a cap w' (hr.below (hbV.trans (h.mono hbV.size))) hb
    clear hs hr
    generalize frobN G = f at *
    generalize psfL G = L at *
    go_enter Tryz.func19, Tryz.ntmps19
    go_wp2_with fail
    rw [← HV.out]
    refine c1.mono ?_
    rintro e w1 ⟨rfl, hb1⟩
    have hb01 := hbV.trans (hb1.mono hbV.size)
    have hk1 : w1.cell? ⟨w.heap.size, 0, none⟩ = some (.slice a G.length cap) := (hb1.cell (p := ⟨w.heap.size, 0, none⟩) hVs).trans hc0
    have hz1' : w.heap.size < w1.heap.size := Nat.lt_of_lt_of_le hVs hb1.size
    have cf1 := cf w1 hb1
    clear c1 cf
    go_wp2_with fail
    refine cf1.mono ?_
    rintro e w2 ⟨rfl, hb2⟩
    have hbV2 := hb1.trans (hb2.mono hb1.size)
    have hk2 : w2.cell? ⟨w.heap.size, 0, none⟩ = some (.slice a G.length cap) := (hb2.cell (p := ⟨w.heap.size, 0, none⟩) hz1').trans hk1
    have cp1 := cp w2 hbV2
    clear cf1 cp hk1 hc0
    go_wp2_with fail
    refine cp1.mono ?_
    rintro e w3 ⟨v, rfl, ho, hb3⟩
    obtain ⟨a1, k1, rfl, rX⟩ := row_open ho
    have hbV3 := hbV2.trans (hb3.mono hbV2.size)
    have hz3 := hb3.size
    have hb03 := hbV.trans (hbV3.mono hbV.size)
    clear cp1 hk2 ho hb1 hb2 hb3 hb01
    by_cases hne : L = []
    · subst hne
      rw [if_pos rfl] at HE
      have hz : ((([] : List Int).length : Int) == 0) = true := rfl
      clear rX HPB
      go_wp2_with fail
      go_ret
      exact ⟨_, rfl, by rw [HE.out]; exact World.ownsRow_lit _ #[.int .i64 0] 1 hb03.size (by first | rfl | decide | simp) rfl, hb03.alloc hb03.size _⟩
    · rw [if_neg hne] at HE
      have hp : 0 < L.length := List.length_pos_iff.2 hne
      have hz : ((L.length : Int) == 0) = false := by rw [beq_eq_false_iff_ne]; omega
      have hB0 : Beside1 V w2.heap.size w3.heap.size L a1 k1 (w3.alloc (.cells #[] 3)) (.slice (some ⟨w3.heap.size, 0, none⟩) 0 0) [] := ⟨World.ownsRow_lit w3 #[] 0 hbV3.size (by simp) rfl, fun b hb => by simp [Value.ownBlock] at hb; omega, rX.below (box_below w3 (.cells #[] 3)), hbV3.alloc hbV3.size _⟩
      have HB0 := Lib.hid hB0
      clear hB0 rX hne
      go_wp2_with fail
      go_loopw [5, 6] (fun v i wr => ∃ k : Nat, k ≤ L.length ∧ i = .int .i64 (k : Int) ∧ Beside1 V w2.heap.size w3.heap.size L a1 k1 wr v ((L.take k).map fun x => f - x)) (fun _ i _ => L.length - (intOf i).toNat)
      case atStart => exact ⟨0, Nat.zero_le _, rfl, HB0.out⟩
      case round =>
        clear HB0
        obtain ⟨k, hk, rfl, hB⟩ := hrel
        have hsz := hB.bel.size
        by_cases hlt : k < L.length
        · obtain ⟨b, o, rfl, hbs, hne, hc⟩ := hB.at (by intro h; rw [h] at hlt; simp at hlt)
          have hlti : (k : Int) < (L.length : Int) := by omega
          have hcell := hc k hlt
          have hx := HPB.out L[k] (List.getElem_mem hlt)
          have HT : Hid ((L.take (k + 1)).map (fun x => f - x) = ((L.take k).map fun x => f - x) ++ [f - L[k]]) := Lib.hid (by rw [List.take_add_one, List.getElem?_eq_getElem hlt, List.map_append]; rfl)
          have hMl : ((L.take k).map fun x => f - x).length ≤ 200 := by rw [List.length_map, List.length_take]; omega
          have HB := Lib.hid hB
          have hown := hB.own
          clear hB hc hne
          generalize L[k] = x at *
          generalize ((L.take k).map fun x => f - x) = M at *
          have hw1 : IntKind.i64.wrap (f - x) = f - x := IntWalk.i64_in _ (by omega)
          go_wp2_with (at_builtin; refine wpList_append_own_at _ rfl _ _ 24 rfl V.heap.size 3 i0 (Value.int .i64 0) 1 8 Tryz.underlying24 hi hz0 hz1 hz2 rfl (by decide) _ _ _ rfl (hown.alloc _) ⟨_, 0, none⟩ 1 1 [.int .i64 (f - x)] rfl rfl (World.news_of_block (cs := #[.int .i64 (f - x)]) (t := 3) (fr := (0, 0)) (heap_alloc_new _ _)) (by simp [Value.oneCell']) (by unfold maxLen; omega) (by omega) (by simp; omega) ?_; intro v2 w2 hown2 hgrow2 _ hat2)
          have HB2 := Lib.hid (HB.out.grow _ (f - x) hown2 hgrow2 hat2)
          clear hown hown2 hgrow2 hat2 HB hcell hw1
          go_wp2_with fail
          go_roundw
          case rel => exact ⟨k + 1, by omega, by go_num, by rw [HT.out]; exact HB2.out⟩
          case measure => simp [intOf]; omega
        · obtain rfl : k = L.length := by omega
          rw [List.take_of_length_le (Nat.le_refl _)] at hB
          have hlti : ¬ ((L.length : Nat) : Int) < (L.length : Int) := by omega
          have hs := sort_of_owns hB.own hB.bel (by rw [List.length_map]; omega)
          rw [← HE.out] at hs
          clear hB
          go_wp2_with fail
          refine hs.mono ?_
          rintro e w' ⟨u, rfl, hp⟩
          go_wp2_with fail
          go_ret
          obtain ⟨g, c, e1, ho, hb'⟩ := hp
          injection e1 with e1
          subst e1
          exact ⟨_, rfl, ownsBase ho hbV.size, hbV.trans (hb'.mono hbV.size)⟩
set_option maxRecDepth 100000 in
set_option maxHeartbeats 1600000 in
theorem spec_DualGens (G L : List Int) (a : Option Addr) (cap : Nat) (al : Option Addr) (cl : Nat) (w : World) (hr : SlV w a (G.map (Value.int .i64))) (hrl : SlV w al (L.map (Value.int .i64))) (hb : G.length ≤ 1048576) (hbl : L.length ≤ 1048576) :
    Calls Tryz.prog 18 #[.agg #[.slice a G.length cap], .slice al L.length cl] w (SlPost (dualL G L) w) := by
  obtain ⟨i0, hi, hz0, hz1, hz2⟩ := info_parts infoIntL
  obtain ⟨V, hV⟩ : ∃ V, V = w.alloc (.cells #[.slice a G.length cap] 26) := ⟨_, rfl⟩
  have hbV : Below w.heap.size w V := by rw [hV]; exact box_below _ _
  have hc0 : V.cell? ⟨w.heap.size, 0, none⟩ = some (.slice a G.length cap) := by rw [hV]; exact box_cell w _
  have hVs : w.heap.size < V.heap.size := by rw [hV]; simp
  have HV := Lib.hid hV
  clear hV
  have c1 := spec_IsSemigroup G a cap V (hr.below hbV) hb
  cases hs : isSgB G
  · have HE : Hid (dualL G L = []) := Lib.hid (by unfold dualL; rw [hs]; rfl)
    rw [hs] at c1
    clear hs hr hrl hc0 hi hz0 hz1 hz2
    go_enter Tryz.func18, Tryz.ntmps18
    go_wp2_with fail
    rw [← HV.out]
    refine c1.mono ?_
    rintro e w1 ⟨rfl, hb1⟩
    have hb01 := hbV.trans (hb1.mono hbV.size)
    go_wp2_with fail
    go_ret
    exact ⟨_, rfl, by rw [HE.out]; exact World.ownsRow_lit _ #[] 0 hb01.size (by simp) rfl, hb01.alloc hb01.size _⟩
  · rw [hs] at c1
    have cv := fun w' (h : Below V.heap.size V w') => spec_l16Valid L al cl w' (hrl.below (hbV.trans (h.mono hbV.size))) hbl
    cases hv : validB L
    · have HE : Hid (dualL G L = []) := Lib.hid (by unfold dualL; rw [hs, hv]; rfl)
      rw [hv] at cv
      clear hs hv hr hrl hi hz0 hz1 hz2
      go_enter Tryz.func18, Tryz.ntmps18
      go_wp2_with fail
      rw [← HV.out]
      refine c1.mono ?_
      rintro e w1 ⟨rfl, hb1⟩
      have hb01 := hbV.trans (hb1.mono hbV.size)
      have cv1 := cv w1 hb1
      clear c1 cv hc0
      go_wp2_with fail
      refine cv1.mono ?_
      rintro e w2 ⟨rfl, hww⟩
      rw [hww]
      go_wp2_with fail
      go_ret
      exact ⟨_, rfl, by rw [HE.out]; exact World.ownsRow_lit _ #[] 0 hb01.size (by simp) rfl, hb01.alloc hb01.size _⟩
    · rw [hv] at cv
      obtain ⟨hval, hl1, hl2⟩ := validB_iff.1 hv
      have hS := isSgB_iff.1 hs
      have h0 : 0 < G.length := (okG_iff.1 hS.ok).2.1
      have hg0 := hS.bounds G[0] (List.getElem_mem h0)
      obtain ⟨g, hg⟩ : ∃ g : Nat, G[0] = (g : Int) := ⟨G[0].toNat, by omega⟩
      rw [hg] at hg0
      obtain ⟨hsl, hse, hlb⟩ := least_facts hv
      have hm := condNat_le G
      have HE : Hid (dualL G L = topL G (dualK G L (leastI L) (condNat G + g)) true) := Lib.hid (dual_way hs hv h0 hg)
      obtain ⟨bg, og, rfl, hbg, hcg⟩ := hr.open (by intro h; rw [List.map_eq_nil_iff] at h; subst h; simp at h0)
      have HK : Hid (∀ w2, Below V.heap.size V w2 → w2.cell? ⟨w.heap.size, 0, none⟩ = some (.slice (some ⟨bg, og, none⟩) G.length cap) ∧ w2.cell? ⟨bg, og, none⟩ = some (.int .i64 (g : Int)) ∧ Below V.heap.size V w2) := Lib.hid fun w2 h => ⟨(h.cell (p := ⟨w.heap.size, 0, none⟩) hVs).trans hc0, ((hbV.trans (h.mono hbV.size)).cell (p := ⟨bg, og, none⟩) hbg).trans (by have := hcg 0 _ (by rw [List.getElem?_map, List.getElem?_eq_getElem h0, hg]; rfl); rwa [Nat.add_zero] at this), h⟩
      have hcn := condN_yes hs
      have HRS := Lib.hid (fun w2 (h : Below V.heap.size V w2) => hr.below (hbV.trans (h.mono hbV.size)))
      have HCC := Lib.hid (fun w2 (h : Below V.heap.size V w2) => hcn ▸ spec_ConductorOf G (some ⟨bg, og, none⟩) cap w2 (HRS.out w2 h) hb)
      have HCD := Lib.hid (fun (x : Int) w2 (h : Below V.heap.size V w2) (h1 : -2000000 ≤ x) (h2 : x ≤ 2000000) => spec_l16Dual G L x (some ⟨bg, og, none⟩) cap al cl w2 (HRS.out w2 h) (hrl.below (hbV.trans (h.mono hbV.size))) hs hbl (fun y hy => by have := hval y hy; omega) h1 h2)
      have csl := fun w' (h : Below V.heap.size V w') => spec_SortList L al cl w' (hrl.below (hbV.trans (h.mono hbV.size))) hbl
      have HSE := Lib.hid hse
      clear hs hv hr hrl hval hcg hg hcn hS hse
      generalize condNat G = m at *
      generalize leastI L = l at *
      go_enter Tryz.func18, Tryz.ntmps18
      go_wp2_with fail
      rw [← HV.out]
      refine c1.mono ?_
      rintro e w1 ⟨rfl, hb1⟩
      have hb01 := hbV.trans (hb1.mono hbV.size)
      have cv1 := cv w1 hb1
      have csl1 := csl w1 hb1
      clear c1 cv csl
      go_wp2_with fail
      refine cv1.mono ?_
      rintro e w2 ⟨rfl, hww⟩
      rw [hww]
      clear cv1 hww
      go_wp2_with fail
      refine csl1.mono ?_
      rintro e w3 ⟨q, c3, rfl, ho3, hb3⟩
      have hbV3 := hb1.trans (hb3.mono hb1.size)
      have hcl0 : w3.cell? ⟨q, 0, none⟩ = some (.int .i64 l) := by rw [ho3.cellAt 0 (by omega), List.getElem?_map, HSE.out]; rfl
      have hsl0 : (0 : Int) < ((sortL L).length : Int) := by omega
      have hwn : IntKind.i64.wrap (-l) = -l := IntWalk.i64_in _ (by omega)
      clear csl1 hb1 hb3 ho3 hc0 hb01
      generalize (sortL L).length = sl at *
      go_wp2_with fail
      have HO0 : Hid ((w3.alloc (.cells #[] 3)).ownsRow V.heap.size 3 1 (.slice (some ⟨w3.heap.size, 0, none⟩) 0 0) (dualK G L l 0).length ((dualK G L l 0).map (Value.int .i64))) := Lib.hid (World.ownsRow_lit w3 #[] 0 hbV3.size (by simp) rfl)
      have HB0 := Lib.hid (hbV3.alloc hbV3.size (.cells #[] 3))
      clear hbV3 hcl0
      go_loopw [6, 7] (fun v i wr => ∃ k : Nat, k ≤ m + g ∧ i = .int .i64 ((k : Int) - l) ∧ wr.ownsRow V.heap.size 3 1 v (dualK G L l k).length ((dualK G L l k).map (Value.int .i64)) ∧ Below V.heap.size V wr) (fun _ i _ => (((m + g : Nat) : Int) - l - intOf i).toNat)
      case atStart => exact ⟨0, Nat.zero_le _, by first | rfl | (rw [show ((0 : Nat) : Int) - l = -l by omega]), HO0.out, HB0.out⟩
      case round =>
        clear HO0 HB0
        obtain ⟨k, hk, rfl, hown, hbel⟩ := hrel
        have hsz := hbel.size
        have hMl := dualK_len G L l k
        have hownD : wr.drew.ownsRow V.heap.size 3 1 _ (dualK G L l k).length ((dualK G L l k).map (Value.int .i64)) := hown
        have hS0 := HK.out _ hbel.drew
        have hw1 : IntKind.i64.wrap ((m : Int) - l) = (m : Int) - l := IntWalk.i64_in _ (by omega)
        have hw2 : IntKind.i64.wrap ((m : Int) - l + (g : Int)) = (m : Int) - l + (g : Int) := IntWalk.i64_in _ (by omega)
        have h0i : (0 : Int) < (G.length : Int) := by omega
        clear hown hbel
        by_cases hlt : k < m + g
        · have hlti : (k : Int) - l < (m : Int) - l + (g : Int) := by omega
          have HT := Lib.hid (dualK_succ G L l k)
          have hnx : ((k + 1 : Nat) : Int) - l = (k : Int) - l + 1 := by omega
          generalize dualK G L l k = M at *
          go_wp2_with fail
          refine wp_region_held_drew (S := fun w' => w'.cell? ⟨w.heap.size, 0, none⟩ = some (.slice (some ⟨bg, og, none⟩) G.length cap) ∧ w'.cell? ⟨bg, og, none⟩ = some (.int .i64 (g : Int)) ∧ Below V.heap.size V w') (by kernel_rfl) hS0 (fun hHeld => ?_)
          refine held_take 0 _ _ rfl (by kernel_rfl) (by kernel_rfl) (by kernel_rfl) (fun _ _ _ h => h) (by rfl) hHeld (fun w hSw => by (try dsimp only at hSw); go_simp; try with_reducible rfl) ?_
          (try simp only [Act.put, List.setIfInBounds_toArray, List.set_cons_zero, List.set_cons_succ, List.getElem_toArray, List.getElem_cons_zero])
          refine held_take 1 _ _ rfl (by kernel_rfl) (by kernel_rfl) (by kernel_rfl) (fun _ _ _ h => h) (by rfl) hHeld (fun w hSw => by (try dsimp only at hSw); go_simp; try with_reducible rfl) ?_
          (try simp only [Act.put, List.setIfInBounds_toArray, List.set_cons_zero, List.set_cons_succ, List.getElem_toArray, List.getElem_cons_succ, List.getElem_cons_zero])
          refine held_take 3 _ _ rfl (by kernel_rfl) (by kernel_rfl) (by kernel_rfl) (fun _ _ _ h => h) (by rfl) hHeld (fun w hSw => by (try dsimp only at hSw); go_simp; try with_reducible rfl) ?_
          (try simp only [Act.put, List.setIfInBounds_toArray, List.set_cons_zero, List.set_cons_succ, List.getElem_toArray, List.getElem_cons_succ, List.getElem_cons_zero])
          refine held_take 5 _ _ rfl (by kernel_rfl) (by kernel_rfl) (by kernel_rfl) (fun _ _ _ h => h) (by rfl) hHeld (fun w hSw => by (try dsimp only at hSw); go_simp; try with_reducible rfl) ?_
          (try simp only [Act.put, List.setIfInBounds_toArray, List.set_cons_zero, List.set_cons_succ, List.getElem_toArray, List.getElem_cons_succ, List.getElem_cons_zero])
          refine held_take 6 _ _ rfl (by kernel_rfl) (by kernel_rfl) (by kernel_rfl) (fun _ _ _ h => h) (by rfl) hHeld (fun w hSw => by (try dsimp only at hSw); go_simp; try with_reducible rfl) ?_
          (try simp only [Act.put, List.setIfInBounds_toArray, List.set_cons_zero, List.set_cons_succ, List.getElem_toArray, List.getElem_cons_succ, List.getElem_cons_zero])
          refine held_take 7 _ _ rfl (by kernel_rfl) (by kernel_rfl) (by kernel_rfl) (fun _ _ _ h => h) (by rfl) hHeld (fun w hSw => by (try dsimp only at hSw); go_simp; try with_reducible rfl) ?_
          (try simp only [Act.put, List.setIfInBounds_toArray, List.set_cons_zero, List.set_cons_succ, List.getElem_toArray, List.getElem_cons_succ, List.getElem_cons_zero])
          refine held_take 8 _ _ rfl (by kernel_rfl) (by kernel_rfl) (by kernel_rfl) (fun _ _ _ h => h) (by rfl) hHeld (fun w hSw => by (try dsimp only at hSw); go_simp; try with_reducible rfl) ?_
          (try simp only [Act.put, List.setIfInBounds_toArray, List.set_cons_zero, List.set_cons_succ, List.getElem_toArray, List.getElem_cons_succ, List.getElem_cons_zero])
          refine wpAnyH_ready (rs := [2]) (by kernel_rfl) (by simp) ?_
          refine AllReadyH.cons rfl (fun K hK => ?_) AllReadyH.nil
          rw [if_pos (by rfl)]
          go_wp2_with (first | (go_at_call 46; (with_reducible refine (HCC.out _ hHeld.2.2).mono ?_); rintro e wA ⟨rfl, hbA⟩))
          refine hK.out _ _ (HK.out _ ((hHeld).2.2.trans (hbA.mono (hHeld).2.2.size))) (fun hHeld1 => ?_)
          clear hK K
          (try simp only [Act.put, List.setIfInBounds_toArray, List.set_cons_zero, List.set_cons_succ, List.getElem_toArray, List.getElem_cons_succ, List.getElem_cons_zero])
          refine held_take 4 _ _ rfl (by kernel_rfl) (by kernel_rfl) (by kernel_rfl) (fun _ _ _ h => h) (by rfl) hHeld1 (fun w hSw => by (try dsimp only at hSw); go_simp; try with_reducible rfl) ?_
          (try simp only [Act.put, List.setIfInBounds_toArray, List.set_cons_zero, List.set_cons_succ, List.getElem_toArray, List.getElem_cons_succ, List.getElem_cons_zero])
          refine held_take 9 _ _ rfl (by kernel_rfl) (by kernel_rfl) (by kernel_rfl) (fun _ _ _ h => h) (by rfl) hHeld1 (fun w hSw => by (try dsimp only at hSw); go_simp; try with_reducible rfl) ?_
          (try simp only [Act.put, List.setIfInBounds_toArray, List.set_cons_zero, List.set_cons_succ, List.getElem_toArray, List.getElem_cons_succ, List.getElem_cons_zero])
          refine held_take 10 _ _ rfl (by kernel_rfl) (by kernel_rfl) (by kernel_rfl) (fun _ _ _ h => h) (by rfl) hHeld1 (fun w hSw => by (try dsimp only at hSw); go_simp; try with_reducible rfl) ?_
          (try simp only [Act.put, List.setIfInBounds_toArray, List.set_cons_zero, List.set_cons_succ, List.getElem_toArray, List.getElem_cons_succ, List.getElem_cons_zero])
          refine wpAnyH_done (by kernel_rfl) ?_ _
          have hbA2 := (hHeld1).2.2
          have hown1 := owns_below hownD hbA
          have hszA := hbA2.size
          have hcA := (HK.out _ hbA2).1
          clear hS0 hw1 hw2 hbA hownD
          go_wp2_with fail
          have cd := HCD.out ((k : Int) - l) wA hbA2 (by omega) (by omega)
          cases hq : dualB G L ((k : Int) - l)
          · rw [if_neg (by rw [hq]; exact Bool.false_ne_true)] at HT
            rw [show (L.all fun y => hasN G ((k : Int) - l + y)) = false from hq] at cd
            clear hq
            refine cd.mono ?_
            rintro e wB ⟨rfl, hbB⟩
            have hbB2 := hbA2.trans (hbB.mono hszA)
            have HO := Lib.hid (owns_below hown1 hbB)
            clear cd hown1 hcA hbB
            go_wp2_with fail
            go_roundw
            case rel => exact ⟨k + 1, by omega, by rw [hnx], by rw [HT.out, List.append_nil]; exact HO.out, hbB2⟩
            case measure => simp [intOf]; omega
          · rw [if_pos hq] at HT
            rw [show (L.all fun y => hasN G ((k : Int) - l + y)) = true from hq] at cd
            clear hq
            refine cd.mono ?_
            rintro e wB ⟨rfl, hbB⟩
            have hbB2 := hbA2.trans (hbB.mono hszA)
            have hszB := hbB2.size
            have hownA := owns_below hown1 hbB
            clear cd hown1 hcA hbB
            go_wp2_with (at_builtin; refine wpList_append_own _ rfl _ _ 24 rfl V.heap.size 3 i0 (Value.int .i64 0) 1 8 Tryz.underlying24 hi hz0 hz1 hz2 rfl (by decide) _ _ _ rfl (hownA.alloc _) ⟨_, 0, none⟩ 1 1 [.int .i64 ((k : Int) - l)] rfl rfl (World.news_of_block (cs := #[.int .i64 ((k : Int) - l)]) (t := 3) (fr := (0, 0)) (heap_alloc_new _ _)) (by simp [Value.oneCell']) (by unfold maxLen; omega) (by omega) (by simp; omega) ?_; intro v2 w2 hown2 hgrow2 _)
            have hb2 := (hbB2.alloc hszB _).grown hgrow2 (by simp; omega) (fun j hj => (hownA.lt j hj).1)
            have HO := Lib.hid hown2
            clear hownA hown2 hgrow2
            go_wp2_with fail
            go_roundw
            case rel => exact ⟨k + 1, by omega, by rw [hnx], by rw [HT.out]; have := HO.out; simpa using this, hb2⟩
            case measure => simp [intOf]; omega
        · obtain rfl : k = m + g := by omega
          have hlti : ¬ (((m + g : Nat) : Int) - l < (m : Int) - l + (g : Int)) := by omega
          go_wp2_with fail
          refine wp_region_held_drew (S := fun w' => w'.cell? ⟨w.heap.size, 0, none⟩ = some (.slice (some ⟨bg, og, none⟩) G.length cap) ∧ w'.cell? ⟨bg, og, none⟩ = some (.int .i64 (g : Int)) ∧ Below V.heap.size V w') (by kernel_rfl) hS0 (fun hHeld => ?_)
          refine held_take 0 _ _ rfl (by kernel_rfl) (by kernel_rfl) (by kernel_rfl) (fun _ _ _ h => h) (by rfl) hHeld (fun w hSw => by (try dsimp only at hSw); go_simp; try with_reducible rfl) ?_
          (try simp only [Act.put, List.setIfInBounds_toArray, List.set_cons_zero, List.set_cons_succ, List.getElem_toArray, List.getElem_cons_zero])
          refine held_take 1 _ _ rfl (by kernel_rfl) (by kernel_rfl) (by kernel_rfl) (fun _ _ _ h => h) (by rfl) hHeld (fun w hSw => by (try dsimp only at hSw); go_simp; try with_reducible rfl) ?_
          (try simp only [Act.put, List.setIfInBounds_toArray, List.set_cons_zero, List.set_cons_succ, List.getElem_toArray, List.getElem_cons_succ, List.getElem_cons_zero])
          refine held_take 3 _ _ rfl (by kernel_rfl) (by kernel_rfl) (by kernel_rfl) (fun _ _ _ h => h) (by rfl) hHeld (fun w hSw => by (try dsimp only at hSw); go_simp; try with_reducible rfl) ?_
          (try simp only [Act.put, List.setIfInBounds_toArray, List.set_cons_zero, List.set_cons_succ, List.getElem_toArray, List.getElem_cons_succ, List.getElem_cons_zero])
          refine held_take 5 _ _ rfl (by kernel_rfl) (by kernel_rfl) (by kernel_rfl) (fun _ _ _ h => h) (by rfl) hHeld (fun w hSw => by (try dsimp only at hSw); go_simp; try with_reducible rfl) ?_
          (try simp only [Act.put, List.setIfInBounds_toArray, List.set_cons_zero, List.set_cons_succ, List.getElem_toArray, List.getElem_cons_succ, List.getElem_cons_zero])
          refine held_take 6 _ _ rfl (by kernel_rfl) (by kernel_rfl) (by kernel_rfl) (fun _ _ _ h => h) (by rfl) hHeld (fun w hSw => by (try dsimp only at hSw); go_simp; try with_reducible rfl) ?_
          (try simp only [Act.put, List.setIfInBounds_toArray, List.set_cons_zero, List.set_cons_succ, List.getElem_toArray, List.getElem_cons_succ, List.getElem_cons_zero])
          refine held_take 7 _ _ rfl (by kernel_rfl) (by kernel_rfl) (by kernel_rfl) (fun _ _ _ h => h) (by rfl) hHeld (fun w hSw => by (try dsimp only at hSw); go_simp; try with_reducible rfl) ?_
          (try simp only [Act.put, List.setIfInBounds_toArray, List.set_cons_zero, List.set_cons_succ, List.getElem_toArray, List.getElem_cons_succ, List.getElem_cons_zero])
          refine held_take 8 _ _ rfl (by kernel_rfl) (by kernel_rfl) (by kernel_rfl) (fun _ _ _ h => h) (by rfl) hHeld (fun w hSw => by (try dsimp only at hSw); go_simp; try with_reducible rfl) ?_
          (try simp only [Act.put, List.setIfInBounds_toArray, List.set_cons_zero, List.set_cons_succ, List.getElem_toArray, List.getElem_cons_succ, List.getElem_cons_zero])
          refine wpAnyH_ready (rs := [2]) (by kernel_rfl) (by simp) ?_
          refine AllReadyH.cons rfl (fun K hK => ?_) AllReadyH.nil
          rw [if_pos (by rfl)]
          go_wp2_with (first | (go_at_call 46; (with_reducible refine (HCC.out _ hHeld.2.2).mono ?_); rintro e wA ⟨rfl, hbA⟩))
          refine hK.out _ _ (HK.out _ ((hHeld).2.2.trans (hbA.mono (hHeld).2.2.size))) (fun hHeld1 => ?_)
          clear hK K
          (try simp only [Act.put, List.setIfInBounds_toArray, List.set_cons_zero, List.set_cons_succ, List.getElem_toArray, List.getElem_cons_succ, List.getElem_cons_zero])
          refine held_take 4 _ _ rfl (by kernel_rfl) (by kernel_rfl) (by kernel_rfl) (fun _ _ _ h => h) (by rfl) hHeld1 (fun w hSw => by (try dsimp only at hSw); go_simp; try with_reducible rfl) ?_
          (try simp only [Act.put, List.setIfInBounds_toArray, List.set_cons_zero, List.set_cons_succ, List.getElem_toArray, List.getElem_cons_succ, List.getElem_cons_zero])
          refine held_take 9 _ _ rfl (by kernel_rfl) (by kernel_rfl) (by kernel_rfl) (fun _ _ _ h => h) (by rfl) hHeld1 (fun w hSw => by (try dsimp only at hSw); go_simp; try with_reducible rfl) ?_
          (try simp only [Act.put, List.setIfInBounds_toArray, List.set_cons_zero, List.set_cons_succ, List.getElem_toArray, List.getElem_cons_succ, List.getElem_cons_zero])
          refine held_take 10 _ _ rfl (by kernel_rfl) (by kernel_rfl) (by kernel_rfl) (fun _ _ _ h => h) (by rfl) hHeld1 (fun w hSw => by (try dsimp only at hSw); go_simp; try with_reducible rfl) ?_
          (try simp only [Act.put, List.setIfInBounds_toArray, List.set_cons_zero, List.set_cons_succ, List.getElem_toArray, List.getElem_cons_succ, List.getElem_cons_zero])
          refine wpAnyH_done (by kernel_rfl) ?_ _
          have hbA2 := (hHeld1).2.2
          have hown1 := owns_below hownD hbA
          have HO := Lib.hid hown1
          have hcA := (HK.out _ hbA2).1
          obtain ⟨av, cv', rfl, -, -, hsv, -⟩ := SlV.of_owns hown1
          have cm := spec_MinimalIn G (dualK G L l (m + g)) (some ⟨bg, og, none⟩) cap av cv' wA (HRS.out wA hbA2) hsv hb (by omega)
          clear hS0 hw1 hw2 hbA hownD hown1 hsv HO
          go_wp2_with fail
          refine cm.mono ?_
          rintro e wB ⟨vB, rfl, hoB, hbB⟩
          have HO := Lib.hid (ownsBase hoB (show w.heap.size ≤ wA.heap.size by have h1 := hbA2.size; have h2 := hbV.size; omega))
          have hbF := hbV.trans ((hbA2.trans (hbB.mono hbA2.size)).mono hbV.size)
          clear cm hoB hbB hcA
          go_wp2_with fail
          go_ret
          exact ⟨_, rfl, by rw [HE.out]; exact HO.out, hbF⟩
end Go.Proofs.YtopnehkhigacpaaGreat
