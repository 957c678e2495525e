/-
  CONTRACTS of the reference's chapter 15: MultiplyLists. (Own work: mkL56.py.)
-/
import Derived.Test.YtlinlmmcgifloaaSgSr
import Derived.Test.YtlinlmmcgifloaaCh11M
import Derived.StillTailTactics
namespace Go.Proofs.Ytlinlmmcgifloaa
open Go Go.RowKit

def tabJ (f : Nat → Int) (m : Nat) : List Value := (List.range m).map fun i => Value.int .i64 (f i)
theorem tabJ_len (f : Nat → Int) (m : Nat) : (tabJ f m).length = m := by unfold tabJ; simp
theorem tabJ_get (f : Nat → Int) {m j : Nat} (h : j < m) : (tabJ f m)[j]? = some (.int .i64 (f j)) := by unfold tabJ; simp [h]
theorem tabJ_congr {f g : Nat → Int} {m : Nat} (h : ∀ i, i < m → f i = g i) : tabJ f m = tabJ g m := by
  unfold tabJ; exact List.map_congr_left fun i hi => by rw [h i (by simpa using hi)]
theorem tabJ_set {f g : Nat → Int} {m j : Nat} (u : Int) (hj : g j = u) (h : ∀ i, i ≠ j → f i = g i) : (tabJ f m).set j (.int .i64 u) = tabJ g m := by
  apply List.ext_getElem?
  intro i
  by_cases hi : i < m
  · rw [tabJ_get g hi]
    by_cases e : i = j
    · subst e; rw [List.getElem?_set_self (by rw [tabJ_len]; exact hi), hj]
    · rw [List.getElem?_set_ne (Ne.symm e), tabJ_get f hi, h i e]
  · rw [List.getElem?_eq_none (by rw [List.length_set, tabJ_len]; omega), List.getElem?_eq_none (by rw [tabJ_len]; omega)]
def cvI (A B : List Int) (i j : Nat) : Int := ((List.range i).map fun i' => if i' ≤ j then A.getD i' 0 * B.getD (j - i') 0 else 0).sum
theorem cvI_succ (A B : List Int) (i j : Nat) : cvI A B (i + 1) j = cvI A B i j + if i ≤ j then A.getD i 0 * B.getD (j - i) 0 else 0 := by
  unfold cvI; rw [List.range_succ, List.map_append, List.sum_append]; simp
def cvP (A B : List Int) (i k j : Nat) : Int := IntKind.i64.wrap (cvI A B i j + if i ≤ j ∧ j < i + k then A.getD i 0 * B.getD (j - i) 0 else 0)
theorem cvP_first (A B : List Int) (j : Nat) : cvP A B 0 0 j = 0 := by
  unfold cvP; rw [if_neg (by omega)]; exact IntWalk.i64_in _ (by simp [cvI])
theorem cvP_full (A B : List Int) {k : Nat} (h : B.length ≤ k) (i j : Nat) : cvP A B i k j = cvP A B (i + 1) 0 j := by
  unfold cvP
  rw [if_neg (show ¬ (i + 1 ≤ j ∧ j < i + 1 + 0) by omega), Int.add_zero, cvI_succ]
  by_cases h1 : i ≤ j
  · rw [if_pos h1]
    by_cases h2 : j < i + k
    · rw [if_pos ⟨h1, h2⟩]
    · rw [if_neg (by omega), List.getD_eq_getElem?_getD (l := B), List.getElem?_eq_none (by omega)]; simp
  · rw [if_neg h1, if_neg (by omega)]
theorem wrap_two (a b : Int) : IntKind.i64.wrap (IntKind.i64.wrap a + IntKind.i64.wrap b) = IntKind.i64.wrap (a + b) := by
  rw [IntKind.wrap_i64, IntKind.wrap_i64 (n := a), IntKind.wrap_i64 (n := b), IntKind.wrap_i64 (n := a + b)]; omega
theorem cvP_here {A B : List Int} {i k : Nat} (hi : i < A.length) (hk : k < B.length) : cvP A B i (k + 1) (i + k) = IntKind.i64.wrap (cvP A B i k (i + k) + IntKind.i64.wrap (A[i] * B[k])) := by
  unfold cvP
  rw [if_pos (by omega), if_neg (by omega), Int.add_zero, wrap_two, Nat.add_sub_cancel_left]
  simp [List.getD_eq_getElem?_getD, List.getElem?_eq_getElem hi, List.getElem?_eq_getElem hk]
theorem cvP_else (A B : List Int) {i k j : Nat} (h : j ≠ i + k) : cvP A B i k j = cvP A B i (k + 1) j := by
  unfold cvP
  by_cases h1 : i ≤ j ∧ j < i + k
  · rw [if_pos h1, if_pos (by omega)]
  · rw [if_neg h1, if_neg (by omega)]
theorem mul_last {A B : List Int} {M : Nat} (h : inB A.length 1 500 = true) (h' : inB B.length 1 500 = true) (hM : M + 1 = A.length + B.length) : (mulL A B).length = M ∧ (mulL A B).map (Value.int .i64) = tabJ (cvP A B A.length 0) M := by
  unfold mulL
  rw [h, h', if_pos (by rfl), show A.length + B.length - 1 = M by omega]
  refine ⟨by simp, ?_⟩
  rw [List.map_map]
  unfold tabJ
  refine List.map_congr_left fun j _ => ?_
  show Value.int .i64 _ = Value.int .i64 _
  unfold cvP
  rw [if_neg (by omega), Int.add_zero]; rfl
/-- The new table. -/
theorem tabM0 {w w1 : World} (A B : List Int) (M : Nat) (hown : w1.ownsRow w.heap.size 3 1 (.slice (some ⟨w.heap.size, 0, none⟩) M M) M (madeCells (Value.int .i64 0).cells (M * 1)).toList) (hgrow : w.grownBy w1 none) :
    Hid (w1.ownsRow w.heap.size 3 1 (.slice (some ⟨w.heap.size, 0, none⟩) M M) M (tabJ (cvP A B 0 0) M)) ∧ Hid (Below w.heap.size w w1) := by
  refine ⟨Lib.hid ?_, Lib.hid ((Below.refl _ w).grown hgrow (Nat.le_refl _) (fun k h => by cases h))⟩
  have e : (madeCells (Value.int .i64 0).cells (M * 1)).toList = List.replicate M (Value.int .i64 0) := by rw [Nat.mul_one]; exact toList_madeCells_one _ _
  have e2 : tabJ (cvP A B 0 0) M = List.replicate M (Value.int .i64 0) := by
    rw [tabJ_congr (g := fun _ => 0) (fun i _ => cvP_first A B i)]
    unfold tabJ; exact List.map_const' .. |>.trans (by rw [List.length_range])
  rw [e2, ← e]; exact hown

set_option maxRecDepth 100000 in
set_option maxHeartbeats 1600000 in
theorem spec_MultiplyLists (A B : List Int) (a : Option Addr) (ca : Nat) (b : Option Addr) (cb : Nat) (w : World) (hra : SlV w a (A.map (Value.int .i64))) (hrb : SlV w b (B.map (Value.int .i64))) (hba : A.length ≤ 1048576) (hbb : B.length ≤ 1048576) :
    Calls Try.prog 37 #[.slice a A.length ca, .slice b B.length cb] w (SlPost (mulL A B) w) := by
  obtain ⟨i0, hi, hz0, hz1, hz2⟩ := info_parts infoIntL
  have c1 := fun w => l1In_any (A.length : Int) 1 500 w
  have c2 := fun w => l1In_any (B.length : Int) 1 500 w
  cases hA : inB (A.length : Int) 1 500
  · have HE : Hid (mulL A B = []) := Lib.hid (by unfold mulL; rw [hA]; rfl)
    rw [hA] at c1
    clear hA hra hrb hi hz0 hz1 hz2 c2
    go_enter Try.func37, Try.ntmps37
    go_wp2_with fail
    refine (c1 _).mono ?_
    rintro e w2 ⟨rfl, hww⟩
    rw [hww]
    clear hww c1
    go_wp2_with fail
    go_ret
    exact ⟨_, rfl, by rw [HE.out]; exact World.ownsRow_lit _ #[] 0 (Nat.le_refl _) (by simp) rfl, box_below w _⟩
  · rw [hA] at c1
    cases hB : inB (B.length : Int) 1 500
    · have HE : Hid (mulL A B = []) := Lib.hid (by unfold mulL; rw [hA, hB]; rfl)
      rw [hB] at c2
      clear hA hB hra hrb hi hz0 hz1 hz2
      go_enter Try.func37, Try.ntmps37
      go_wp2_with fail
      refine (c1 _).mono ?_
      rintro e w2 ⟨rfl, hww⟩
      rw [hww]
      clear hww c1
      go_wp2_with fail
      refine (c2 _).mono ?_
      rintro e w3 ⟨rfl, hww⟩
      rw [hww]
      clear hww c2
      go_wp2_with fail
      go_ret
      exact ⟨_, rfl, by rw [HE.out]; exact World.ownsRow_lit _ #[] 0 (Nat.le_refl _) (by simp) rfl, box_below w _⟩
    · rw [hB] at c2
      obtain ⟨hA0, hA1⟩ := inB_true hA
      obtain ⟨hB0, hB1⟩ := inB_true hB
      obtain ⟨M, hM⟩ : ∃ M, M + 1 = A.length + B.length := ⟨A.length + B.length - 1, by omega⟩
      have HML := Lib.hid (mul_last hA hB hM)
      have hMi : (A.length : Int) + (B.length : Int) - 1 = (M : Int) := by omega
      obtain ⟨ba, oa, rfl, hba', hca⟩ := hra.open (by intro h; rw [List.map_eq_nil_iff] at h; subst h; simp at hA0)
      obtain ⟨bb, ob, rfl, hbb', hcb⟩ := hrb.open (by intro h; rw [List.map_eq_nil_iff] at h; subst h; simp at hB0)
      have HCA : Hid (∀ w', Below w.heap.size w w' → ∀ i (h : i < A.length), w'.cell? ⟨ba, oa + i, none⟩ = some (.int .i64 A[i])) := Lib.hid fun w' h i hi' => (h.cell (p := ⟨ba, oa + i, none⟩) hba').trans (hca i _ (by simp [hi']))
      have HCB : Hid (∀ w', Below w.heap.size w w' → ∀ i (h : i < B.length), w'.cell? ⟨bb, ob + i, none⟩ = some (.int .i64 B[i])) := Lib.hid fun w' h i hi' => (h.cell (p := ⟨bb, ob + i, none⟩) hbb').trans (hcb i _ (by simp [hi']))
      clear hA hB hra hrb hba' hbb' hca hcb
      go_enter Try.func37, Try.ntmps37
      go_wp2_with fail
      refine (c1 _).mono ?_
      rintro e w2 ⟨rfl, hww⟩
      rw [hww]
      clear hww c1
      go_wp2_with fail
      refine (c2 _).mono ?_
      rintro e w3 ⟨rfl, hww⟩
      rw [hww]
      clear hww c2
      go_wp2_with (at_make; refine wpList_make_full _ rfl _ _ 24 rfl w.heap.size 3 i0 (Value.int .i64 0) 1 Try.underlying24 hi hz0 hz1 .i64 .i64 _ _ M rfl rfl (by first | rfl | (simp; done) | omega) (by first | rfl | (simp; done) | omega) (by rw [hz2]; omega) (by unfold maxLen; omega) (Nat.le_refl _) ?_; intro w1 hown hgrow; obtain ⟨HO, HB⟩ := tabM0 A B M hown hgrow; clear hown hgrow)
      clear hi hz0 hz1 hz2
      go_loopw [6] (fun i wr => ∃ k : Nat, k ≤ A.length ∧ i = .int .i64 (k : Int) ∧ wr.ownsRow w.heap.size 3 1 (.slice (some ⟨w.heap.size, 0, none⟩) M M) M (tabJ (cvP A B k 0) M) ∧ Below w.heap.size w wr) (fun i _ => A.length - (intOf i).toNat)
      case atStart => exact ⟨0, Nat.zero_le _, rfl, HO.out, HB.out⟩
      case round =>
        clear HO HB
        obtain ⟨i, hile, rfl, hown, hbel⟩ := hrel
        by_cases hlt : i < A.length
        · have hlti : (i : Int) < (A.length : Int) := by omega
          have HO := Lib.hid hown
          have HB := Lib.hid hbel
          clear hown hbel
          go_wp2_with fail
          go_loopw [7] (fun i' wq => ∃ k : Nat, k ≤ B.length ∧ i' = .int .i64 (k : Int) ∧ wq.ownsRow w.heap.size 3 1 (.slice (some ⟨w.heap.size, 0, none⟩) M M) M (tabJ (cvP A B i k) M) ∧ Below w.heap.size w wq) (fun i' _ => B.length - (intOf i').toNat)
          case atStart => exact ⟨0, Nat.zero_le _, rfl, HO.out, HB.out⟩
          case round =>
            clear HO HB
            rename World => wq
            obtain ⟨k, hkle, rfl, hown, hbel⟩ := hrel
            by_cases hltk : k < B.length
            · have hltki : (k : Int) < (B.length : Int) := by omega
              obtain ⟨t, ht⟩ : ∃ t : Nat, t = i + k := ⟨_, rfl⟩
              have hct : wq.drew.cell? ⟨w.heap.size, t, none⟩ = some (.int .i64 (cvP A B i k t)) := by have := hown.cellAt t (by omega); rw [tabJ_get _ (by omega)] at this; exact this
              have hcad : wq.drew.cell? ⟨ba, oa + i, none⟩ = some (.int .i64 A[i]) := HCA.out _ hbel.drew i hlt
              have hcbd : wq.drew.cell? ⟨bb, ob + k, none⟩ = some (.int .i64 B[k]) := HCB.out _ hbel.drew k hltk
              have hw1 : IntKind.i64.wrap ((i : Int) + (k : Int)) = (t : Int) := by rw [IntWalk.i64_in _ (by omega)]; omega
              obtain ⟨p, hp⟩ : ∃ p, IntKind.i64.wrap (A[i] * B[k]) = p := ⟨_, rfl⟩
              have hq : IntKind.i64.wrap (cvP A B i k t + p) = cvP A B i (k + 1) t := by subst ht; rw [cvP_here hlt hltk, hp]
              have hownd : wq.drew.ownsRow w.heap.size 3 1 (.slice (some ⟨w.heap.size, 0, none⟩) M M) M (tabJ (cvP A B i k) M) := hown
              have hst := hownd.stored t (.int .i64 (cvP A B i (k + 1) t))
              rw [tabJ_set (g := cvP A B i (k + 1)) _ rfl (fun j hj => cvP_else A B (by omega))] at hst
              have HST := Lib.hid hst.1
              have hfz : wq.drew.frozen? ⟨w.heap.size, t, none⟩ = false := hown.frozenAt t
              have HB2 := Lib.hid (hbel.drew.setCell (p := ⟨w.heap.size, t, none⟩) (Nat.le_refl _) (.int .i64 (cvP A B i (k + 1) t)))
              have hi0 : (0 : Int) ≤ (i : Int) := by omega
              have hk0 : (0 : Int) ≤ (k : Int) := by omega
              have ht0 : (0 : Int) ≤ (t : Int) := by omega
              have htm : (t : Int) < (M : Int) := by omega
              clear hst hown hownd hbel ht
              generalize cvP A B i k t = cj at *
              generalize cvP A B i (k + 1) t = cn at *
              generalize A[i] = ai at *
              generalize B[k] = bk at *
              go_wp2_with fail
              refine wp_region_still_tail 21 (by kernel_rfl) (by kernel_rfl) ?_
              change wpStill _ _ wq.drew _ _ _
              simp only [List.take_succ_cons, List.take_zero, List.drop_succ_cons, List.drop_zero]
              repeat still_step
              refine wpStill_nil ?_
              change wpList _ _ _ _ _ wq.drew
              generalize wq.drew = wd at *
              go_wp2_with fail
              go_roundw
              case rel => exact ⟨k + 1, by omega, by go_num, HST.out, HB2.out⟩
              case measure => simp [intOf]; omega
            · obtain rfl : k = B.length := by omega
              have hltki : ¬ ((B.length : Nat) : Int) < (B.length : Int) := by omega
              rw [tabJ_congr (g := cvP A B (i + 1) 0) (fun j _ => cvP_full A B (Nat.le_refl _) i j)] at hown
              have HO := Lib.hid hown
              clear hown
              go_wp2_with fail
              go_roundw
              case rel => exact ⟨i + 1, by omega, by go_num, HO.out, hbel⟩
              case measure => simp [intOf]; omega
        · obtain rfl : i = A.length := by omega
          have hlti : ¬ ((A.length : Nat) : Int) < (A.length : Int) := by omega
          rw [← HML.out.2] at hown
          have HO := Lib.hid hown
          clear hown
          go_wp2_with fail
          go_ret
          exact ⟨_, rfl, by rw [HML.out.1]; exact HO.out, hbel⟩
end Go.Proofs.Ytlinlmmcgifloaa
