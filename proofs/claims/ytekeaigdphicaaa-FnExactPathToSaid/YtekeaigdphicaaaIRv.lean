/-
  CONTRACT of slices.Reverse at a list of semigroups: it is turned round in its place. (Own work.)
-/
import Derived.Test.YtekeaigdphicaaaSgSs
import Derived.Test.YtekeaigdphicaaaCh4I
import Derived.BigRegion
import Derived.OwnWalk
import Derived.WalkMore
namespace Go.Proofs.Ytekeaigdphicaaa
open Go Go.RowKit
attribute [local go_sem] Oper.semAt_some

def revK (vs : List Value) (k : Nat) : List Value := (List.range vs.length).map fun x => if x < k ∨ vs.length - 1 - x < k then vs.getD (vs.length - 1 - x) undef else vs.getD x undef
theorem revK_len (vs : List Value) (k : Nat) : (revK vs k).length = vs.length := by simp [revK]
theorem revK_at (vs : List Value) (k : Nat) {x : Nat} (hx : x < vs.length) : (revK vs k)[x]? = some (if x < k ∨ vs.length - 1 - x < k then vs.getD (vs.length - 1 - x) undef else vs.getD x undef) := by
  unfold revK
  rw [List.getElem?_map, List.getElem?_range hx]; rfl
theorem revK_zero (vs : List Value) : revK vs 0 = vs := by
  apply List.ext_getElem?
  intro x
  rcases Nat.lt_or_ge x vs.length with hx | hx
  · rw [revK_at vs 0 hx, if_neg (by omega), List.getD_eq_getElem?_getD, List.getElem?_eq_getElem hx]; rfl
  · rw [List.getElem?_eq_none (by rw [revK_len]; exact hx), List.getElem?_eq_none hx]
theorem revK_all (vs : List Value) {k : Nat} (h : ¬ (k : Int) < (vs.length : Int) - 1 - (k : Int)) : revK vs k = vs.reverse := by
  apply List.ext_getElem?
  intro x
  rcases Nat.lt_or_ge x vs.length with hx | hx
  · rw [revK_at vs k hx, List.getElem?_reverse hx]
    have h1 : vs.length - 1 - x < vs.length := by omega
    rw [List.getElem?_eq_getElem h1]
    congr 1
    by_cases hc : x < k ∨ vs.length - 1 - x < k
    · rw [if_pos hc, List.getD_eq_getElem?_getD, List.getElem?_eq_getElem h1]; rfl
    · rw [if_neg hc]
      have e : vs.length - 1 - x = x := by omega
      simp only [e]
      rw [List.getD_eq_getElem?_getD, List.getElem?_eq_getElem hx]; rfl
  · rw [List.getElem?_eq_none (by rw [revK_len]; exact hx), List.getElem?_eq_none (by rw [List.length_reverse]; exact hx)]
theorem revK_lo (vs : List Value) {k : Nat} (h : (k : Int) < (vs.length : Int) - 1 - (k : Int)) (hk : k < vs.length) : (revK vs k)[k]? = some vs[k] := by
  rw [revK_at vs k hk, if_neg (by omega), List.getD_eq_getElem?_getD, List.getElem?_eq_getElem hk]; rfl
theorem revK_hi (vs : List Value) {k : Nat} (h : (k : Int) < (vs.length : Int) - 1 - (k : Int)) (hk : vs.length - 1 - k < vs.length) : (revK vs k)[vs.length - 1 - k]? = some vs[vs.length - 1 - k] := by
  rw [revK_at vs k hk, if_neg (by omega), List.getD_eq_getElem?_getD, List.getElem?_eq_getElem hk]; rfl
theorem revK_next (vs : List Value) {k : Nat} (h : (k : Int) < (vs.length : Int) - 1 - (k : Int)) (h1 : k < vs.length) (h2 : vs.length - 1 - k < vs.length) : ((revK vs k).set k vs[vs.length - 1 - k]).set (vs.length - 1 - k) vs[k] = revK vs (k + 1) := by
  apply List.ext_getElem?
  intro x
  rcases Nat.lt_or_ge x vs.length with hx | hx
  · rw [revK_at vs (k + 1) hx, List.getElem?_set, List.getElem?_set, revK_at vs k hx]
    by_cases e1 : vs.length - 1 - k = x
    · subst e1
      rw [if_pos rfl, if_pos (by rw [List.length_set, revK_len]; exact hx), if_pos (by omega)]
      have : vs.length - 1 - (vs.length - 1 - k) = k := by omega
      rw [this, List.getD_eq_getElem?_getD, List.getElem?_eq_getElem h1]; rfl
    · rw [if_neg e1]
      by_cases e2 : k = x
      · subst e2
        rw [if_pos rfl, if_pos (by rw [revK_len]; exact hx), if_pos (by omega), List.getD_eq_getElem?_getD, List.getElem?_eq_getElem h2]; rfl
      · rw [if_neg e2]
        congr 1
        by_cases hc : x < k ∨ vs.length - 1 - x < k
        · rw [if_pos hc, if_pos (by omega)]
        · rw [if_neg hc, if_neg (by omega)]
  · rw [List.getElem?_eq_none (by rw [List.length_set, List.length_set, revK_len]; exact hx), List.getElem?_eq_none (by rw [revK_len]; exact hx)]

set_option maxRecDepth 100000 in
set_option maxHeartbeats 1600000 in
theorem impl_reverse (lo hi g c : Nat) (vs : List Value) (xss : List (List Value)) (w : World) (h : RowsG w lo hi (.slice (some ⟨g, 0, none⟩) vs.length c) vs xss) (hl : vs.length ≤ 1048576) :
    Calls Try.prog 33 #[.slice (some ⟨g, 0, none⟩) vs.length c] w fun e w' => e = .returned (.tuple #[]) ∧ RowsG w' lo hi (.slice (some ⟨g, 0, none⟩) vs.length c) vs.reverse xss.reverse ∧ w.grownBy w' (some g) := by
  have HT := Lib.hid (fun w' (ho : w'.ownsRow lo 42 1 (.slice (some ⟨g, 0, none⟩) vs.length c) vs.length vs.reverse) (hg : w.grownBy w' (some g)) => h.turned ho hg)
  have HV : Hid (∀ k (hk : k < vs.length), ∃ p n c', vs[k] = .slice p n c') := Lib.hid fun k hk => by
    have r := h.inn k hk (by rw [← h.len]; exact hk)
    obtain ⟨p, c2, e, -⟩ := SlV.of_owns r.own
    exact ⟨p, _, c2, e⟩
  have ho := h.own
  rw [show vs.length = vs.length from rfl] at ho
  have HO0 : Hid (w.ownsRow lo 42 1 (.slice (some ⟨g, 0, none⟩) vs.length c) vs.length (revK vs 0)) := Lib.hid (by rw [revK_zero]; exact ho)
  have HN := Lib.hid (fun (k : Nat) (h : (k : Int) < (vs.length : Int) - 1 - (k : Int)) h1 h2 => revK_next vs (k := k) h h1 h2)
  have HA := Lib.hid (fun (k : Nat) (h : ¬ (k : Int) < (vs.length : Int) - 1 - (k : Int)) => revK_all vs (k := k) h)
  have HLo := Lib.hid (fun (k : Nat) (h : (k : Int) < (vs.length : Int) - 1 - (k : Int)) hk => revK_lo vs (k := k) h hk)
  have HHi := Lib.hid (fun (k : Nat) (h : (k : Int) < (vs.length : Int) - 1 - (k : Int)) hk => revK_hi vs (k := k) h hk)
  clear h ho
  have hw1 : IntKind.i64.wrap ((vs.length : Int) - 1) = (vs.length : Int) - 1 := IntWalk.i64_in _ (by omega)
  go_enter Try.func33, Try.ntmps33
  go_wp2_with fail
  go_loopw [2, 3] (fun i j wr => ∃ k : Nat, k ≤ vs.length ∧ i = .int .i64 (k : Int) ∧ j = .int .i64 ((vs.length : Int) - 1 - (k : Int)) ∧ wr.ownsRow lo 42 1 (.slice (some ⟨g, 0, none⟩) vs.length c) vs.length (revK vs k) ∧ w.grownBy wr (some g)) (fun i _ _ => vs.length - (intOf i).toNat)
  case atStart => exact ⟨0, Nat.zero_le _, rfl, by simp, HO0.out, World.grownBy.refl _ _⟩
  case round =>
    rename World => wr
    obtain ⟨k, hk, rfl, rfl, hown, hgr⟩ := hrel
    by_cases hlt : (k : Int) < (vs.length : Int) - 1 - (k : Int)
    · obtain ⟨m, hm⟩ : ∃ m, m = vs.length - 1 - k := ⟨_, rfl⟩
      have hmi : (vs.length : Int) - 1 - (k : Int) = (m : Int) := by omega
      have hk0 : (0 : Int) ≤ (k : Int) := by omega
      have hm0 : (0 : Int) ≤ (m : Int) := by omega
      have hkl : k < vs.length := by omega
      have hml : m < vs.length := by omega
      have hmli : (m : Int) < (vs.length : Int) := by omega
      have hkli : (k : Int) < (vs.length : Int) := by omega
      have hkm : k ≠ m := by omega
      have hkmi : (k : Int) < (m : Int) := by omega
      have hcl := HLo.out k hlt hkl
      have hch := HHi.out k hlt (by omega)
      have hn := HN.out k hlt hkl (by omega)
      simp only [← hm] at hch hn
      obtain ⟨p1, n1, c1, e1⟩ := HV.out k hkl
      obtain ⟨p2, n2, c2, e2⟩ := HV.out m hml
      rw [e1] at hcl hn
      rw [e2] at hch hn
      rw [hmi]
      have hck : wr.cell? ⟨g, k, none⟩ = some (.slice p1 n1 c1) := by rw [hown.cellAt k (by omega)]; exact hcl
      have hcm : wr.cell? ⟨g, m, none⟩ = some (.slice p2 n2 c2) := by rw [hown.cellAt m (by omega)]; exact hch
      have hfk : wr.frozen? ⟨g, k, none⟩ = false := hown.frozenAt k
      have hs1 := hown.stored k (.slice p2 n2 c2)
      have hfm : (wr.setCell ⟨g, k, none⟩ (.slice p2 n2 c2)).frozen? ⟨g, m, none⟩ = false := hs1.1.frozenAt m
      have hcm2 : (wr.setCell ⟨g, k, none⟩ (.slice p2 n2 c2)).cell? ⟨g, m, none⟩ = some (.slice p2 n2 c2) := by rw [hs1.1.cellAt m (by omega), List.getElem?_set_ne hkm]; exact hch
      have hs2 := hs1.1.stored m (.slice p1 n1 c1)
      rw [hn] at hs2
      have HO := Lib.hid hs2.1.drew
      have HG := Lib.hid (grownBy_drew (hgr.trans (hs1.2.trans hs2.2)))
      have hw2 : IntKind.i64.wrap ((k : Int) + 1) = (k : Int) + 1 := IntWalk.i64_in _ (by omega)
      have hw3 : IntKind.i64.wrap ((m : Int) - 1) = (m : Int) - 1 := IntWalk.i64_in _ (by omega)
      have HM := Lib.hid hm
      clear hs1 hs2 hown hgr hcl hch hn e1 e2 hm hmi
      go_wp2_with fail
      go_region
      go_wp2_with fail
      go_roundw
      case rel => exact ⟨k + 1, by omega, by go_num, by have := HM.out; congr 1; omega, HO.out, HG.out⟩
      case measure => simp [intOf]; omega
    · have HE := HA.out k (by omega)
      rw [HE] at hown
      have HR := Lib.hid (HT.out wr hown hgr)
      clear HE hown
      go_wp2_with fail
      go_end0
      exact ⟨rfl, HR.out, hgr⟩
end Go.Proofs.Ytekeaigdphicaaa
