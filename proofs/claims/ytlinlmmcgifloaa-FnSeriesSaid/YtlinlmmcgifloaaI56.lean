/-
  CONTRACTS of the program's chapter 15: EulerAt. (Own work: mkI56.py.)
-/
import Derived.Test.YtlinlmmcgifloaaI55
import Derived.Test.YtlinlmmcgifloaaI54
import Derived.Test.YtlinlmmcgifloaaCh4I
import Derived.Test.YtlinlmmcgifloaaHta
namespace Go.Proofs.Ytlinlmmcgifloaa
open Go Go.RowKit
attribute [local go_sem] Oper.semAt_some

theorem sumN_toNat : ∀ (L : List Int), (∀ x ∈ L, 1 ≤ x) → (((L.map fun g => g.toNat).sum : Nat) : Int) = L.sum
  | [], _ => rfl
  | x :: L, h => by
    have h1 := h x (by simp)
    have h2 := sumN_toNat L (fun y hy => h y (by simp [hy]))
    simp only [List.map_cons, List.sum_cons]; omega
theorem fac_sum {G : List Int} (hs : isSgB G = true) : ((G.map facF).map fun L => L.length - 1).sum ≤ 720 := by
  have hS := isSgB_iff.1 hs
  have h1 := sumN_toNat G (fun x hx => (hS.bounds x hx).1)
  have h2 := genSum_bnd G hS.bounds
  have h3 := hS.len
  rw [List.map_map, show ((fun L : List Int => L.length - 1) ∘ facF) = fun g => g.toNat from funext fun g => by show (facF g).length - 1 = _; rw [facF_len]; omega]
  omega
theorem eul_lists {G : List Int} (hs : isSgB G = true) : (G.map facF).length ≤ 1048576 ∧ (∀ L ∈ G.map facF, 1 ≤ L.length ∧ L.length ≤ 1048576) ∧ (∀ k, k ≤ (G.map facF).length → (prodW ((G.map facF).take k)).length ≤ 1048576) := by
  have hS := isSgB_iff.1 hs
  have hl : ∀ L ∈ G.map facF, 1 ≤ L.length ∧ L.length ≤ 1048576 := fun L hL => by
    obtain ⟨g, hg, rfl⟩ := List.mem_map.1 hL
    have := hS.bounds g hg
    rw [facF_len]; omega
  refine ⟨by rw [List.length_map]; have := hS.len; omega, hl, fun k hk => ?_⟩
  rw [prodW_len (fun L hL => (hl L hL).1) k hk, List.map_take]
  have h1 := sum_take_le ((G.map facF).map fun L => L.length - 1) k
  have h2 := fac_sum hs
  omega

set_option maxRecDepth 100000 in
set_option maxHeartbeats 1600000 in
theorem impl_EulerAt (G : List Int) (x : Int) (a : Option Addr) (cap : Nat) (w : World) (hr : SlV w a (G.map (Value.int .i64))) (hb : G.length ≤ 1048576) :
    Calls Try.prog 38 #[.agg #[.slice a G.length cap], .int .i64 x] w fun e w' => e = .returned (.int .i64 (eulN G x)) ∧ Below w.heap.size w w' := by
  obtain ⟨V, hV⟩ : ∃ V, V = w.alloc (.cells #[.slice a G.length cap] 26) := ⟨_, rfl⟩
  have hbV : Below w.heap.size w V := by rw [hV]; exact box_below _ _
  have hc0 : V.cell? ⟨w.heap.size, 0, none⟩ = some (.slice a G.length cap) := by rw [hV]; exact box_cell w _
  have hVs : w.heap.size < V.heap.size := by rw [hV]; simp
  have HV := Lib.hid hV
  have HKV : Hid (∀ w2, Below V.heap.size V w2 → w2.cell? ⟨w.heap.size, 0, none⟩ = some (.slice a G.length cap)) := Lib.hid fun w2 h => (h.cell (p := ⟨w.heap.size, 0, none⟩) hVs).trans hc0
  clear hV
  have c1 := impl_elementsOf G a cap V (hr.below hbV) hb
  have HT := fun f => Lib.hid (tabB_one f 260)
  cases hs : isSgB G
  · have HE : Hid (eulN G x = 0) := Lib.hid (by unfold eulN; rw [hs]; rfl)
    unfold ElPost at c1
    rw [hs] at c1
    clear hs hr
    go_enter Try.func38, Try.ntmps38
    go_wp2_with fail
    rw [← HV.out]
    refine c1.mono ?_
    rintro e w1 ⟨rfl, hb1⟩
    have hA := Arr.new w1 74 (tabB (fun _ => false) 260)
    have hbA := hb1.alloc (o := .cells (tabB (fun _ => false) 260).toArray 74) hb1.size
    clear c1
    go_wp2_with (first | (refine wpList_alloc_arr 74 (tabB (fun _ => false) 260) zeroT rfl rfl ?_) | (refine wpList_store_arr 74 (.tmp 5) (.tmp 13) w1.heap.size (tabB (fun _ => false) 260) (tabB (elF G) 260) rfl rfl rfl rfl hA (by rw [tabB_length, tabB_length]) (sizeTl _) (HT _).out ?_; intro w3 hB hg3 hz3; clear hz3; have hb3 := hbA.grown hg3 hbA.size (fun k hk => by cases hk; exact hb1.size); have hc3 := HKV.out _ hb3; clear hg3 hA hbA))
    go_ret
    exact ⟨by rw [HE.out]; rfl, hbV.trans (hb3.mono hbV.size)⟩
  · unfold ElPost at c1
    rw [hs] at c1
    by_cases h0 : x < 0
    · have HE : Hid (eulN G x = 0) := Lib.hid (by unfold eulN inB; rw [decide_eq_false (by omega : ¬ 0 ≤ x)]; simp)
      have hd := decide_eq_true h0
      clear hs hr h0
      go_enter Try.func38, Try.ntmps38
      go_wp2_with fail
      rw [← HV.out]
      refine c1.mono ?_
      rintro e w1 ⟨rfl, hb1⟩
      have hA := Arr.new w1 74 (tabB (fun _ => false) 260)
      have hbA := hb1.alloc (o := .cells (tabB (fun _ => false) 260).toArray 74) hb1.size
      clear c1
      go_wp2_with (first | (refine wpList_alloc_arr 74 (tabB (fun _ => false) 260) zeroT rfl rfl ?_) | (refine wpList_store_arr 74 (.tmp 5) (.tmp 13) w1.heap.size (tabB (fun _ => false) 260) (tabB (elF G) 260) rfl rfl rfl rfl hA (by rw [tabB_length, tabB_length]) (sizeTl _) (HT _).out ?_; intro w3 hB hg3 hz3; clear hz3; have hb3 := hbA.grown hg3 hbA.size (fun k hk => by cases hk; exact hb1.size); have hc3 := HKV.out _ hb3; clear hg3 hA hbA))
      go_ret
      exact ⟨by rw [HE.out]; rfl, hbV.trans (hb3.mono hbV.size)⟩
    · have hd := decide_eq_false h0
      by_cases h1 : 1000 < x
      · have HE : Hid (eulN G x = 0) := Lib.hid (by unfold eulN inB; rw [decide_eq_false (by omega : ¬ x ≤ 1000)]; simp)
        have hd1 := decide_eq_true h1
        clear hs hr h0 h1
        go_enter Try.func38, Try.ntmps38
        go_wp2_with fail
        rw [← HV.out]
        refine c1.mono ?_
        rintro e w1 ⟨rfl, hb1⟩
        have hA := Arr.new w1 74 (tabB (fun _ => false) 260)
        have hbA := hb1.alloc (o := .cells (tabB (fun _ => false) 260).toArray 74) hb1.size
        clear c1
        go_wp2_with (first | (refine wpList_alloc_arr 74 (tabB (fun _ => false) 260) zeroT rfl rfl ?_) | (refine wpList_store_arr 74 (.tmp 5) (.tmp 13) w1.heap.size (tabB (fun _ => false) 260) (tabB (elF G) 260) rfl rfl rfl rfl hA (by rw [tabB_length, tabB_length]) (sizeTl _) (HT _).out ?_; intro w3 hB hg3 hz3; clear hz3; have hb3 := hbA.grown hg3 hbA.size (fun k hk => by cases hk; exact hb1.size); have hc3 := HKV.out _ hb3; clear hg3 hA hbA))
        go_ret
        exact ⟨by rw [HE.out]; rfl, hbV.trans (hb3.mono hbV.size)⟩
      · have hd1 := decide_eq_false h1
        have hS := isSgB_iff.1 hs
        have HE : Hid (eulN G x = eulR G G x) := Lib.hid (by unfold eulN inB; rw [hs, decide_eq_true (by omega : 0 ≤ x), decide_eq_true (by omega : x ≤ 1000)]; rfl)
        have hlenG := hS.len
        have h0G := (okG_iff.1 hS.ok).2.1
        have cf := fun W (h : Below V.heap.size V W) => impl_factorsOf G hS.bounds h0G hlenG a cap W (hr.below (hbV.trans (h.mono hbV.size)))
        have HPr := Lib.hid (eul_lists hs)
        have HP : Hid (prodW (G.map facF) = facP G G.length) := Lib.hid (by unfold facP; rw [List.take_length])
        have HB1 := Lib.hid (facP_bnd hs)
        have HB2 := Lib.hid (evK_bnd hs x)
        have HEN := Lib.hid (ev_all hs x)
        have hPl := facP_len hS.bounds G.length (Nat.le_refl _)
        have hsum := genSum_bnd G hS.bounds
        rw [List.take_length] at hPl
        have hP0 : 0 < (facP G G.length).length := by omega
        have hP1 : (facP G G.length).length ≤ 800 := by omega
        have ch : ∀ (z : Int) W, Calls Try.prog 87 #[.agg (tabB (elF G) 260).toArray, .int .i64 z] W fun e w' => e = .returned (.bool (hasN G z)) ∧ Below W.heap.size W w' := fun z W =>
          impl_has (elF G) z _ W (hasN_way G z hs)
        clear hr hs hS hPl hsum
        go_enter Try.func38, Try.ntmps38
        go_wp2_with fail
        rw [← HV.out]
        refine c1.mono ?_
        rintro e w1 ⟨rfl, hb1⟩
        have hA := Arr.new w1 74 (tabB (fun _ => false) 260)
        have hbA := hb1.alloc (o := .cells (tabB (fun _ => false) 260).toArray 74) hb1.size
        clear c1
        go_wp2_with (first | (refine wpList_alloc_arr 74 (tabB (fun _ => false) 260) zeroT rfl rfl ?_) | (refine wpList_store_arr 74 (.tmp 5) (.tmp 13) w1.heap.size (tabB (fun _ => false) 260) (tabB (elF G) 260) rfl rfl rfl rfl hA (by rw [tabB_length, tabB_length]) (sizeTl _) (HT _).out ?_; intro w3 hB hg3 hz3; clear hz3; have hb3 := hbA.grown hg3 hbA.size (fun k hk => by cases hk; exact hb1.size); have hc3 := HKV.out _ hb3; clear hg3 hA hbA))
        refine (cf _ hb3).mono ?_
        rintro e w4 ⟨vs, rfl, hfac, hb4⟩
        have cp := impl_productOf (G.map facF) _ G.length w4 hfac.sl2 HPr.out.1 HPr.out.2.1 HPr.out.2.2
        rw [List.length_map, HP.out] at cp
        have hB4 := hB.below hb4
        have hb04 := hb3.trans (hb4.mono hb3.size)
        clear cf hfac hb4 hB hc3 hb3
        go_wp2_with fail
        refine cp.mono ?_
        rintro e w5 ⟨v5, rfl, ho5, hb5⟩
        obtain ⟨a5, k5, rfl, rX⟩ := row_open ho5
        have hs5 := rX.slv
        have hB5 := hB4.below hb5
        have hb05 := hb04.trans (hb5.mono hb04.size)
        clear cp ho5 rX hB4 hb04 hb5
        generalize facP G G.length = P at *
        obtain ⟨bp, op, rfl, hbp, hcp⟩ := hs5.open (by intro h; rw [List.map_eq_nil_iff] at h; subst h; simp at hP0)
        have HCP : Hid (∀ w', Below w5.heap.size w5 w' → ∀ i (h : i < P.length), w'.cell? ⟨bp, op + i, none⟩ = some (.int .i64 P[i])) := Lib.hid fun w' h i hi' => (h.cell (p := ⟨bp, op + i, none⟩) hbp).trans (hcp i _ (by simp [hi']))
        clear hs5 hbp hcp
        go_wp2_with fail
        go_loopw [7, 30] (fun s i wr => ∃ k : Nat, k ≤ P.length ∧ i = .int .i64 (k : Int) ∧ s = .int .i64 (evK G P x k) ∧ Arr wr w1.heap.size 74 (tabB (elF G) 260) ∧ Below w5.heap.size w5 wr) (fun _ i _ => P.length - (intOf i).toNat)
        case atStart => exact ⟨0, Nat.zero_le _, rfl, rfl, hB5, Below.refl _ _⟩
        case round =>
          clear hB5
          obtain ⟨k, hk, rfl, rfl, hB, hbel⟩ := hrel
          by_cases hlt : k < P.length
          · have hlti : (k : Int) < (P.length : Int) := by omega
            have hk0 : (0 : Int) ≤ (k : Int) := by omega
            have hcell := HCP.out _ hbel k hlt
            have c := ch (x - (k : Int)) wr
            have hy := HB1.out k
            have hs1 := HB2.out k
            have hev := evK_succ G P x k
            have hget : P.getD k 0 = P[k] := by rw [List.getD_eq_getElem?_getD, List.getElem?_eq_getElem hlt]; rfl
            rw [hget] at hy hev
            have hs2 : -3300000 ≤ evK G P x k ∧ evK G P x k ≤ 3300000 := by omega
            unfold chiZ at hev
            have HEV := Lib.hid hev
            have hwx : IntKind.i64.wrap (x - (k : Int)) = x - (k : Int) := IntWalk.i64_in _ (by omega)
            clear hev hget hs1 ch
            generalize P[k] = y at *
            generalize hasN G (x - (k : Int)) = q at *
            generalize evK G P x k = s at *
            go_wp2_with (first | (refine wpList_load_arr 74 (.tmp 5) w1.heap.size (tabB (elF G) 260) (.array 260 4) rfl rfl rfl hB undT rfl (sizeTl _) ?_))
            refine c.mono ?_
            rintro e w6 ⟨rfl, hb6⟩
            have hB6 := hB.below hb6
            have hbel6 := hbel.trans (hb6.mono hbel.size)
            clear c hB hbel hb6 hcell
            cases q
            · have HN : Hid (evK G P x (k + 1) = s) := Lib.hid (by rw [HEV.out]; simp [bitI])
              clear HEV
              go_wp2_with fail
              go_roundw
              case rel => exact ⟨k + 1, by omega, by go_num, by rw [HN.out], hB6, hbel6⟩
              case measure => simp [intOf]; omega
            · have HN : Hid (evK G P x (k + 1) = s + y) := Lib.hid (by rw [HEV.out]; simp [bitI])
              have hw2 : IntKind.i64.wrap (s + y) = s + y := IntWalk.i64_in _ (by omega)
              have hw3 : wrap64 (s + y) = s + y := by rw [← IntWalk.i64_left]; exact hw2
              clear HEV
              go_wp2_with fail
              go_roundw
              case rel => exact ⟨k + 1, by omega, by go_num, by rw [HN.out], hB6, hbel6⟩
              case measure => simp [intOf]; omega
          · obtain rfl : k = P.length := by omega
            have hlti : ¬ ((P.length : Nat) : Int) < (P.length : Int) := by omega
            have hbF := hbV.trans ((hb05.trans (hbel.mono hb05.size)).mono hbV.size)
            have HR : Hid (eulN G x = evK G P x P.length) := Lib.hid (by rw [HE.out]; exact HEN.out.symm)
            clear ch
            go_wp2_with fail
            go_ret
            exact ⟨by rw [HR.out]; rfl, hbF⟩
end Go.Proofs.Ytlinlmmcgifloaa
