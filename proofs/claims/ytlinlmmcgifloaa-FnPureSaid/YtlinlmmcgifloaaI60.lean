/-
  CONTRACTS of the program's chapter 16: isIdealList, IdealGens, IdealSum. (Own work: mkI60.py.)
-/
import Derived.Test.YtlinlmmcgifloaaSgId
import Derived.Test.YtlinlmmcgifloaaI36
import Derived.Test.YtlinlmmcgifloaaCh3I
import Derived.Test.YtlinlmmcgifloaaSh
namespace Go.Proofs.Ytlinlmmcgifloaa
open Go Go.RowKit
attribute [local go_sem] Oper.semAt_some

theorem minFold : ∀ (L : List Int) (a c : Int), c ≤ L.foldl min a ↔ c ≤ a ∧ ∀ x ∈ L, c ≤ x
  | [], a, c => by simp
  | y :: L, a, c => by
    rw [List.foldl_cons, minFold L (min a y) c, Int.le_min, and_assoc]
    simp only [List.mem_cons, forall_eq_or_imp]
theorem maxFold : ∀ (L : List Int) (a c : Int), L.foldl max a ≤ c ↔ a ≤ c ∧ ∀ x ∈ L, x ≤ c
  | [], a, c => by simp
  | y :: L, a, c => by
    rw [List.foldl_cons, maxFold L (max a y) c, Int.max_le, and_assoc]
    simp only [List.mem_cons, forall_eq_or_imp]
theorem headD_mem {L : List Int} (h : 0 < L.length) : L.headD 0 ∈ L := by
  cases L with
  | nil => simp at h
  | cons x r => simp
theorem minOf_ge {L : List Int} (h : 0 < L.length) (c : Int) : c ≤ Lib.minOf L ↔ ∀ x ∈ L, c ≤ x := by
  unfold Lib.minOf
  rw [minFold]
  exact ⟨fun h => h.2, fun k => ⟨k _ (headD_mem h), k⟩⟩
theorem maxOf_le {L : List Int} (h : 0 < L.length) (c : Int) : Lib.maxOf L ≤ c ↔ ∀ x ∈ L, x ≤ c := by
  unfold Lib.maxOf
  rw [maxFold]
  exact ⟨fun h => h.2, fun k => ⟨k _ (headD_mem h), k⟩⟩
theorem valid_min {L : List Int} (h0 : 0 < L.length) (h1 : L.length ≤ 20) : validB L = (decide (-200 ≤ Lib.minOf L) && decide (Lib.maxOf L ≤ 200)) := by
  rw [Bool.eq_iff_iff, validB_iff, Bool.and_eq_true, decide_eq_true_eq, decide_eq_true_eq, minOf_ge h0, maxOf_le h0]
  constructor
  · rintro ⟨h, -, -⟩; exact ⟨fun x hx => (h x hx).1, fun x hx => (h x hx).2⟩
  · rintro ⟨h, k⟩; exact ⟨fun x hx => ⟨h x hx, k x hx⟩, by omega, h1⟩

theorem not_valid {L : List Int} (h : L.length = 0 ∨ 20 < L.length) : validB L = false := by
  cases hv : validB L with
  | false => rfl
  | true => have := (validB_iff.1 hv).2; omega

set_option maxRecDepth 100000 in
set_option maxHeartbeats 1600000 in
theorem impl_isIdealList (L : List Int) (al : Option Addr) (cl : Nat) (w : World) (hrl : SlV w al (L.map (Value.int .i64))) (hbl : L.length ≤ 1048576) :
    Calls Try.prog 123 #[.slice al L.length cl] w fun e w' => e = .returned (.bool (validB L)) ∧ w' = w := by
  by_cases h0 : L.length = 0
  · have HR : Hid (validB L = false) := Lib.hid (not_valid (.inl h0))
    have hd : decide ((L.length : Int) = 0) = true := decide_eq_true (by omega)
    have hd' : ((L.length : Int) == 0) = true := by rw [beq_iff_eq]; omega
    clear hrl h0
    go_enter Try.func123, Try.ntmps123
    go_wp2_with fail
    go_ret
    exact ⟨by rw [HR.out]; rfl, rfl⟩
  · have hd' : ((L.length : Int) == 0) = false := by rw [beq_eq_false_iff_ne]; omega
    by_cases h1 : 20 < L.length
    · have HR : Hid (validB L = false) := Lib.hid (not_valid (.inr h1))
      have hd1 : decide ((20 : Int) < (L.length : Int)) = true := decide_eq_true (by omega)
      clear hrl h0
      go_enter Try.func123, Try.ntmps123
      go_wp2_with fail
      go_ret
      exact ⟨by rw [HR.out]; rfl, rfl⟩
    · have hd1 : decide ((20 : Int) < (L.length : Int)) = false := decide_eq_false (by omega)
      obtain ⟨b, off, rfl, hbs, hc⟩ := hrl.open (by intro h; rw [List.map_eq_nil_iff] at h; subst h; simp at h0)
      have hcells : ∀ j, j < L.length → w.cell? ⟨b, off + j, none⟩ = some (.int .i64 (L.getD j 0)) := fun j hj => hc j _ (by rw [List.getElem?_map, List.getElem?_eq_getElem hj, List.getD_eq_getElem?_getD, List.getElem?_eq_getElem hj]; rfl)
      have c1 := Try.slices_Min_int b off L.length cl L w (by omega) (Nat.le_refl _) (by omega) hcells
      have c2 := Try.slices_Max_int b off L.length cl L w (by omega) (Nat.le_refl _) (by omega) hcells
      rw [List.take_length] at c1 c2
      have HV := Lib.hid (valid_min (L := L) (by omega) (by omega))
      clear hrl hc hcells hbs
      generalize Lib.minOf L = mn at *
      generalize Lib.maxOf L = mx at *
      by_cases h2 : -200 ≤ mn
      · have hd2 := decide_eq_true h2
        have HR : Hid (validB L = decide (mx ≤ 200)) := Lib.hid (by rw [HV.out, hd2, Bool.true_and])
        clear HV h2
        go_enter Try.func123, Try.ntmps123
        go_wp2_with fail
        refine c1.mono ?_
        rintro e w1 ⟨rfl, hww⟩
        rw [hww]
        clear hww c1
        go_wp2_with fail
        refine c2.mono ?_
        rintro e w2 ⟨rfl, hww⟩
        rw [hww]
        clear hww c2
        go_wp2_with fail
        go_ret
        exact ⟨by rw [HR.out]; rfl, rfl⟩
      · have hd2 := decide_eq_false h2
        have HR : Hid (validB L = false) := Lib.hid (by rw [HV.out, hd2]; rfl)
        clear HV h2 c2
        go_enter Try.func123, Try.ntmps123
        go_wp2_with fail
        refine c1.mono ?_
        rintro e w1 ⟨rfl, hww⟩
        rw [hww]
        clear hww c1
        go_wp2_with fail
        go_ret
        exact ⟨by rw [HR.out]; rfl, rfl⟩

set_option maxRecDepth 100000 in
set_option maxHeartbeats 1600000 in
theorem impl_IdealGens (G L : List Int) (a : Option Addr) (cap : Nat) (al : Option Addr) (cl : Nat) (w : World) (hr : SlV w a (G.map (Value.int .i64))) (hrl : SlV w al (L.map (Value.int .i64))) (hb : G.length ≤ 1048576) (hbl : L.length ≤ 1048576) :
    Calls Try.prog 66 #[.agg #[.slice a G.length cap], .slice al L.length cl] w (SlPost (idGensL G L) w) := by
  obtain ⟨V, hV⟩ : ∃ V, V = w.alloc (.cells #[.slice a G.length cap] 26) := ⟨_, rfl⟩
  have hbV : Below w.heap.size w V := by rw [hV]; exact box_below _ _
  have hc0 : V.cell? ⟨w.heap.size, 0, none⟩ = some (.slice a G.length cap) := by rw [hV]; exact box_cell w _
  have hVs : w.heap.size < V.heap.size := by rw [hV]; simp
  have HV := Lib.hid hV
  have HKV : Hid (∀ w2, Below V.heap.size V w2 → w2.cell? ⟨w.heap.size, 0, none⟩ = some (.slice a G.length cap)) := Lib.hid fun w2 h => (h.cell (p := ⟨w.heap.size, 0, none⟩) hVs).trans hc0
  clear hV
  have c1 := impl_isIdealList L al cl V (hrl.below hbV) hbl
  cases hv : validB L
  · have HE : Hid (idGensL G L = []) := Lib.hid (by unfold idGensL; rw [hv]; rfl)
    rw [hv] at c1
    clear hv hr hrl
    go_enter Try.func66, Try.ntmps66
    go_wp2_with fail
    rw [← HV.out]
    refine c1.mono ?_
    rintro e w1 ⟨rfl, hww⟩
    rw [hww]
    clear hww c1
    go_wp2_with fail
    go_ret
    exact ⟨_, rfl, by rw [HE.out]; exact World.ownsRow_nil _ _ _ _, hbV⟩
  · have HE : Hid (idGensL G L = topL G L true) := Lib.hid (by unfold idGensL; rw [hv]; rfl)
    rw [hv] at c1
    have c2 := impl_MinimalIn G L a cap al cl V (hr.below hbV) (hrl.below hbV) hb hbl
    clear hv hr hrl
    go_enter Try.func66, Try.ntmps66
    go_wp2_with fail
    rw [← HV.out]
    refine c1.mono ?_
    rintro e w1 ⟨rfl, hww⟩
    rw [hww]
    clear hww c1
    go_wp2_with fail
    refine c2.mono ?_
    rintro e w2 ⟨v, rfl, ho, hb2⟩
    clear c2
    go_wp2_with fail
    go_ret
    exact ⟨_, rfl, by rw [HE.out]; exact owns_wider ho hbV.size, hbV.trans (hb2.mono hbV.size)⟩


end Go.Proofs.Ytlinlmmcgifloaa
