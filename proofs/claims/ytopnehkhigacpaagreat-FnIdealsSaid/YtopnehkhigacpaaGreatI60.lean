/-
  CONTRACTS of the program's chapter 16: isIdealList, IdealGens, IdealSum. (Own work: mkI60.py.)
-/
import Derived.Test.YtopnehkhigacpaaGreatSgId
import Derived.Test.YtopnehkhigacpaaGreatI36
import Derived.Test.YtopnehkhigacpaaGreatCh3I
import Derived.Test.YtopnehkhigacpaaGreatSh
namespace Go.Proofs.YtopnehkhigacpaaGreat
open Go Go.RowKit
attribute [local go_sem] Oper.semAt_some

theorem minFold : ∀ (L : List Int) (a c : Int), c ≤ L.foldl min a ↔ c ≤ a ∧ ∀ x ∈ L, c ≤ x
  | [], a, c => by simp
  | y :: L, a, c => by
    rw [List.foldl_cons, minFold L (min a y) c, Int.le_min, and_assoc]
    simp only [List.mem_cons, forall_eq_or_imp]
theorem maxFold : ∀ (L : List Int) (a c : Int), L.foldl max a ≤ c ↔ a ≤ c ∧ ∀ x ∈ L, x ≤ c
  | [], a, c => by simp
  | y :: L, a, c => by
    rw [List.foldl_cons, maxFold L (max a y) c, Int.max_le, and_assoc]
    simp only [List.mem_cons, forall_eq_or_imp]
theorem headD_mem {L : List Int} (h : 0 < L.length) : L.headD 0 ∈ L := by
  cases L with
  | nil => simp at h
  | cons x r => simp
theorem minOf_ge {L : List Int} (h : 0 < L.length) (c : Int) : c ≤ Lib.minOf L ↔ ∀ x ∈ L, c ≤ x := by
  unfold Lib.minOf
  rw [minFold]
  exact ⟨fun h => h.2, fun k => ⟨k _ (headD_mem h), k⟩⟩
theorem maxOf_le {L : List Int} (h : 0 < L.length) (c : Int) : Lib.maxOf L ≤ c ↔ ∀ x ∈ L, x ≤ c := by
  unfold Lib.maxOf
  rw [maxFold]
  exact ⟨fun h => h.2, fun k => ⟨k _ (headD_mem h), k⟩⟩
theorem valid_min {L : List Int} (h0 : 0 < L.length) (h1 : L.length ≤ 20) : validB L = (decide (-200 ≤ Lib.minOf L) && decide (Lib.maxOf L ≤ 200)) := by
  rw [Bool.eq_iff_iff, validB_iff, Bool.and_eq_true, decide_eq_true_eq, decide_eq_true_eq, minOf_ge h0, maxOf_le h0]
  constructor
  · rintro ⟨h, -, -⟩; exact ⟨fun x hx => (h x hx).1, fun x hx => (h x hx).2⟩
  · rintro ⟨h, k⟩; exact ⟨fun x hx => ⟨h x hx, k x hx⟩, by omega, h1⟩

theorem not_valid {L : List Int} (h : L.length = 0 ∨ 20 < L.length) : validB L = false := by
  cases hv : validB L with
  | false => rfl
  | true => have := (validB_iff.1 hv).2; omega

set_option maxRecDepth 100000 in
set_option maxHeartbeats 1600000 in
theorem impl_isIdealList (L : List Int) (al : Option Addr) (cl : Nat) (w : World) (hrl : SlV w al (L.map (Value.int .i64))) (hbl : L.length ≤ 1048576) :
    Calls Tryz.prog 32 #[.slice al L.length cl] w fun e w' => e = .returned (.bool (validB L)) ∧ w' = w := by
  by_cases h0 : L.length = 0
  · have HR : Hid (validB L = false) := Lib.hid (not_valid (.inl h0))
    have hd : decide ((L.length : Int) = 0) = true := decide_eq_true (by omega)
    have hd' : ((L.length : Int) == 0) = true := by rw [beq_iff_eq]; omega
    clear hrl h0
    go_enter Tryz.func32, Tryz.ntmps32
    go_wp2_with fail
    go_ret
    exact ⟨by rw [HR.out]; rfl, rfl⟩
  · have hd' : ((L.length : Int) == 0) = false := by rw [beq_eq_false_iff_ne]; omega
    by_cases h1 : 20 < L.length
    · have HR : Hid (validB L = false) := Lib.hid (not_valid (.inr h1))
      have hd1 : decide ((20 : Int) < (L.length : Int)) = true := decide_eq_true (by omega)
      clear hrl h0
      go_enter Tryz.func32, Tryz.ntmps32
      go_wp2_with fail
      go_ret
      exact ⟨by rw [HR.out]; rfl, rfl⟩
    · have hd1 : decide ((20 : Int) < (L.length : Int)) = false := decide_eq_false (by omega)
      obtain ⟨b, off, rfl, hbs, hc⟩ := hrl.open (by intro h; rw [List.map_eq_nil_iff] at h; subst h; simp at h0)
      have hcells : ∀ j, j < L.length → w.cell? ⟨b, off + j, none⟩ = some (.int .i64 (L.getD j 0)) := fun j hj => hc j _ (by rw [List.getElem?_map, List.getElem?_eq_getElem hj, List.getD_eq_getElem?_getD, List.getElem?_eq_getElem hj]; rfl)
      have c1 := Tryz.slices_Min_int b off L.length cl L w (by omega) (Nat.le_refl _) (by omega) hcells
      have c2 := Tryz.slices_Max_int b off L.length cl L w (by omega) (Nat.le_refl _) (by omega) hcells
      rw [List.take_length] at c1 c2
      have HV := Lib.hid (valid_min (L := L) (by omega) (by omega))
      clear hrl hc hcells hbs
      generalize Lib.minOf L = mn at *
      generalize Lib.maxOf L = mx at *
      by_cases h2 : -200 ≤ mn
      · have hd2 := decide_eq_true h2
        have HR : Hid (validB L = decide (mx ≤ 200)) := Lib.hid (by rw [HV.out, hd2, Bool.true_and])
        clear HV h2
        go_enter Tryz.func32, Tryz.ntmps32
        go_wp2_with fail
        refine c1.mono ?_
        rintro e w1 ⟨rfl, hww⟩
        rw [hww]
        clear hww c1
        go_wp2_with fail
        refine c2.mono ?_
        rintro e w2 ⟨rfl, hww⟩
        rw [hww]
        clear hww c2
        go_wp2_with fail
        go_ret
        exact ⟨by rw [HR.out]; rfl, rfl⟩
      · have hd2 := decide_eq_false h2
        have HR : Hid (validB L = false) := Lib.hid (by rw [HV.out, hd2]; rfl)
        clear HV h2 c2
        go_enter Tryz.func32, Tryz.ntmps32
        go_wp2_with fail
        refine c1.mono ?_
        rintro e w1 ⟨rfl, hww⟩
        rw [hww]
        clear hww c1
        go_wp2_with fail
        go_ret
        exact ⟨by rw [HR.out]; rfl, rfl⟩

set_option maxRecDepth 100000 in
set_option maxHeartbeats 1600000 in
theorem impl_IdealGens (G L : List Int) (a : Option Addr) (cap : Nat) (al : Option Addr) (cl : Nat) (w : World) (hr : SlV w a (G.map (Value.int .i64))) (hrl : SlV w al (L.map (Value.int .i64))) (hb : G.length ≤ 1048576) (hbl : L.length ≤ 1048576) :
    Calls Tryz.prog 7 #[.agg #[.slice a G.length cap], .slice al L.length cl] w (SlPost (idGensL G L) w) := by
  obtain ⟨V, hV⟩ : ∃ V, V = w.alloc (.cells #[.slice a G.length cap] 26) := ⟨_, rfl⟩
  have hbV : Below w.heap.size w V := by rw [hV]; exact box_below _ _
  have hc0 : V.cell? ⟨w.heap.size, 0, none⟩ = some (.slice a G.length cap) := by rw [hV]; exact box_cell w _
  have hVs : w.heap.size < V.heap.size := by rw [hV]; simp
  have HV := Lib.hid hV
  have HKV : Hid (∀ w2, Below V.heap.size V w2 → w2.cell? ⟨w.heap.size, 0, none⟩ = some (.slice a G.length cap)) := Lib.hid fun w2 h => (h.cell (p := ⟨w.heap.size, 0, none⟩) hVs).trans hc0
  clear hV
  have c1 := impl_isIdealList L al cl V (hrl.below hbV) hbl
  cases hv : validB L
  · have HE : Hid (idGensL G L = []) := Lib.hid (by unfold idGensL; rw [hv]; rfl)
    rw [hv] at c1
    clear hv hr hrl
    go_enter Tryz.func7, Tryz.ntmps7
    go_wp2_with fail
    rw [← HV.out]
    refine c1.mono ?_
    rintro e w1 ⟨rfl, hww⟩
    rw [hww]
    clear hww c1
    go_wp2_with fail
    go_ret
    exact ⟨_, rfl, by rw [HE.out]; exact World.ownsRow_nil _ _ _ _, hbV⟩
  · have HE : Hid (idGensL G L = topL G L true) := Lib.hid (by unfold idGensL; rw [hv]; rfl)
    rw [hv] at c1
    have c2 := impl_MinimalIn G L a cap al cl V (hr.below hbV) (hrl.below hbV) hb hbl
    clear hv hr hrl
    go_enter Tryz.func7, Tryz.ntmps7
    go_wp2_with fail
    rw [← HV.out]
    refine c1.mono ?_
    rintro e w1 ⟨rfl, hww⟩
    rw [hww]
    clear hww c1
    go_wp2_with fail
    refine c2.mono ?_
    rintro e w2 ⟨v, rfl, ho, hb2⟩
    clear c2
    go_wp2_with fail
    go_ret
    exact ⟨_, rfl, by rw [HE.out]; exact owns_wider ho hbV.size, hbV.trans (hb2.mono hbV.size)⟩

set_option maxRecDepth 100000 in
set_option maxHeartbeats 1600000 in
theorem impl_IdealSum (G A B : List Int) (a : Option Addr) (cap : Nat) (aa : Option Addr) (ca0 : Nat) (ab : Option Addr) (cb0 : Nat) (w : World) (hr : SlV w a (G.map (Value.int .i64))) (hra : SlV w aa (A.map (Value.int .i64))) (hrb : SlV w ab (B.map (Value.int .i64))) (hb : G.length ≤ 1048576) (hba : A.length ≤ 1048576) (hbb : B.length ≤ 1048576) :
    Calls Tryz.prog 16 #[.agg #[.slice a G.length cap], .slice aa A.length ca0, .slice ab B.length cb0] w (SlPost (idSumL G A B) w) := by
  obtain ⟨V, hV⟩ : ∃ V, V = w.alloc (.cells #[.slice a G.length cap] 26) := ⟨_, rfl⟩
  have hbV : Below w.heap.size w V := by rw [hV]; exact box_below _ _
  have hc0 : V.cell? ⟨w.heap.size, 0, none⟩ = some (.slice a G.length cap) := by rw [hV]; exact box_cell w _
  have hVs : w.heap.size < V.heap.size := by rw [hV]; simp
  have HV := Lib.hid hV
  have HKV : Hid (∀ w2, Below V.heap.size V w2 → w2.cell? ⟨w.heap.size, 0, none⟩ = some (.slice a G.length cap)) := Lib.hid fun w2 h => (h.cell (p := ⟨w.heap.size, 0, none⟩) hVs).trans hc0
  clear hV
  have c1 := impl_isIdealList A aa ca0 V (hra.below hbV) hba
  have c2 := impl_isIdealList B ab cb0 V (hrb.below hbV) hbb
  cases hv : validB A
  · have HE : Hid (idSumL G A B = []) := Lib.hid (by unfold idSumL; rw [hv]; rfl)
    rw [hv] at c1
    clear hv hr hra hrb c2
    go_enter Tryz.func16, Tryz.ntmps16
    go_wp2_with fail
    rw [← HV.out]
    refine c1.mono ?_
    rintro e w1 ⟨rfl, hww⟩
    rw [hww]
    clear hww c1
    go_wp2_with fail
    go_ret
    exact ⟨_, rfl, by rw [HE.out]; exact World.ownsRow_nil _ _ _ _, hbV⟩
  · rw [hv] at c1
    cases hu : validB B
    · have HE : Hid (idSumL G A B = []) := Lib.hid (by unfold idSumL; rw [hv, hu]; rfl)
      rw [hu] at c2
      clear hv hu hr hra hrb
      go_enter Tryz.func16, Tryz.ntmps16
      go_wp2_with fail
      rw [← HV.out]
      refine c1.mono ?_
      rintro e w1 ⟨rfl, hww⟩
      rw [hww]
      clear hww c1
      go_wp2_with fail
      refine c2.mono ?_
      rintro e w2 ⟨rfl, hww⟩
      rw [hww]
      clear hww c2
      go_wp2_with fail
      go_ret
      exact ⟨_, rfl, by rw [HE.out]; exact World.ownsRow_nil _ _ _ _, hbV⟩
    · have HE : Hid (idSumL G A B = topL G (sums A B) true) := Lib.hid (by unfold idSumL; rw [hv, hu]; rfl)
      rw [hu] at c2
      have hsl := sums_len hv hu
      have c3 := fun W (h : Below V.heap.size V W) => impl_SumsOf A B aa ab ca0 cb0 W (hra.below (hbV.trans (h.mono hbV.size))) (hrb.below (hbV.trans (h.mono hbV.size))) hba hbb
      have c4 := fun q k W (h : Below V.heap.size V W) (h2 : SlV W q ((sums A B).map (Value.int .i64))) => impl_MinimalIn G (sums A B) a cap q k W (hr.below (hbV.trans (h.mono hbV.size))) h2 hb (by omega)
      have HK : Hid (∀ w2, Below V.heap.size V w2 → w2.cell? ⟨w.heap.size, 0, none⟩ = some (.slice a G.length cap) ∧ Below V.heap.size V w2) := Lib.hid fun w2 h => ⟨HKV.out w2 h, h⟩
      have hS0 := HK.out _ (Below.refl V.heap.size V).drew
      clear hv hu hr hra hrb hc0
      go_enter Tryz.func16, Tryz.ntmps16
      go_wp2_with fail
      rw [← HV.out]
      refine c1.mono ?_
      rintro e w1 ⟨rfl, hww⟩
      rw [hww]
      clear hww c1
      go_wp2_with fail
      refine c2.mono ?_
      rintro e w2 ⟨rfl, hww⟩
      rw [hww]
      clear hww c2
      go_wp2_with fail
      refine wp_region_held_drew (S := fun w' => w'.cell? ⟨w.heap.size, 0, none⟩ = some (.slice a G.length cap) ∧ Below V.heap.size V w') (by kernel_rfl) hS0 (fun hHeld => ?_)
      refine held_take 0 _ _ rfl (by kernel_rfl) (by kernel_rfl) (by kernel_rfl) (fun _ _ _ h => h) (by rfl) hHeld (fun w hSw => by (try dsimp only at hSw); go_simp; try with_reducible rfl) ?_
      (try simp only [Act.put, List.setIfInBounds_toArray, List.set_cons_zero, List.set_cons_succ, List.getElem_toArray, List.getElem_cons_zero])
      refine held_take 1 _ _ rfl (by kernel_rfl) (by kernel_rfl) (by kernel_rfl) (fun _ _ _ h => h) (by rfl) hHeld (fun w hSw => by (try dsimp only at hSw); go_simp; try with_reducible rfl) ?_
      (try simp only [Act.put, List.setIfInBounds_toArray, List.set_cons_zero, List.set_cons_succ, List.getElem_toArray, List.getElem_cons_succ, List.getElem_cons_zero])
      refine held_take 2 _ _ rfl (by kernel_rfl) (by kernel_rfl) (by kernel_rfl) (fun _ _ _ h => h) (by rfl) hHeld (fun w hSw => by (try dsimp only at hSw); go_simp; try with_reducible rfl) ?_
      (try simp only [Act.put, List.setIfInBounds_toArray, List.set_cons_zero, List.set_cons_succ, List.getElem_toArray, List.getElem_cons_succ, List.getElem_cons_zero])
      refine wpAnyH_ready (rs := [3]) (by kernel_rfl) (by simp) ?_
      refine AllReadyH.cons rfl (fun K hK => ?_) AllReadyH.nil
      rw [if_pos (by rfl)]
      go_wp2_with (first | (go_at_call 43; (with_reducible refine (c3 _ hHeld.2).mono ?_); rintro e w4 ⟨v4, rfl, ho4, hb4⟩; obtain ⟨a4, k4, rfl, rX⟩ := row_open ho4; have hs4 := rX.slv; clear rX ho4))
      refine hK.out _ _ (HK.out _ ((hHeld).2.trans (hb4.mono (hHeld).2.size))) (fun hHeld1 => ?_)
      clear hK K
      (try simp only [Act.put, List.setIfInBounds_toArray, List.set_cons_zero, List.set_cons_succ, List.getElem_toArray, List.getElem_cons_succ, List.getElem_cons_zero])
      refine wpAnyH_ready (rs := [4]) (by kernel_rfl) (by simp) ?_
      refine AllReadyH.cons rfl (fun K hK => ?_) AllReadyH.nil
      rw [if_pos (by rfl)]
      go_wp2_with (first | (go_at_call 33; (with_reducible refine (c4 _ _ _ hHeld1.2 hs4).mono ?_); rintro e w5 ⟨v5, rfl, ho5, hb5⟩; have hz5 := Nat.le_trans hbV.size (hHeld1).2.size))
      refine hK.out _ _ (HK.out _ ((hHeld1).2.trans (hb5.mono (hHeld1).2.size))) (fun hHeld2 => ?_)
      clear hK K
      (try simp only [Act.put, List.setIfInBounds_toArray, List.set_cons_zero, List.set_cons_succ, List.getElem_toArray, List.getElem_cons_succ, List.getElem_cons_zero])
      refine held_take 5 _ _ rfl (by kernel_rfl) (by kernel_rfl) (by kernel_rfl) (fun _ _ _ h => h) (by rfl) hHeld2 (fun w hSw => by (try dsimp only at hSw); go_simp; try with_reducible rfl) ?_
      (try simp only [Act.put, List.setIfInBounds_toArray, List.set_cons_zero, List.set_cons_succ, List.getElem_toArray, List.getElem_cons_succ, List.getElem_cons_zero])
      refine wpAnyH_done (by kernel_rfl) ?_ _
      have hbF := hbV.trans ((hHeld2).2.mono hbV.size)
      obtain ⟨a5, k5, rfl, -⟩ := row_open ho5
      clear hS0
      go_wp2_with fail
      go_ret
      exact ⟨_, rfl, by rw [HE.out]; exact owns_wider ho5 hz5, hbF⟩

end Go.Proofs.YtopnehkhigacpaaGreat
