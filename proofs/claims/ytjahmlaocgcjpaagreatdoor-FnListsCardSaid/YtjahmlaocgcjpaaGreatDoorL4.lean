/-
  CONTRACTS of the reference's l2All, SharedOf, SumsOf.
-/
import Derived.Test.YtjahmlaocgcjpaaGreatDoorL3
namespace Go.Proofs.YtjahmlaocgcjpaaGreatDoor
open Go Go.RowKit

/-- A call made a list of ints. -/
def ListPost (M : List Int) (w : World) (e : Ending) (w' : World) : Prop :=
  ∃ g cap, e = .returned (.slice (some ⟨g, 0, none⟩) M.length cap) ∧ w'.ownsRow w.heap.size 3 1 (.slice (some ⟨g, 0, none⟩) M.length cap) M.length (M.map (Value.int .i64)) ∧ Below w.heap.size w w'

def allB (L : List Int) : Bool := L.all small && decide (L.length ≤ 300)

set_option maxRecDepth 100000 in
set_option maxHeartbeats 400000 in
theorem spec_l2All (L : List Int) (a : Option Addr) (cap : Nat) (w : World) (hr : SlV w a (L.map (Value.int .i64))) (hb : L.length ≤ maxLen) :
    Calls Tryz.prog 49 #[.slice a L.length cap] w fun e w' => e = .returned (.bool (allB L)) ∧ w' = w := by
  unfold maxLen at hb
  go_enter Tryz.func49, Tryz.ntmps49
  go_wp2_with fail
  go_loop [3] (fun i => ∃ k : Nat, k ≤ L.length ∧ i = .int .i64 (k : Int) ∧ (L.take k).all small = true) (fun i => L.length - (intOf i).toNat)
  case atStart => exact ⟨0, Nat.zero_le _, rfl, by simp⟩
  case round =>
    obtain ⟨k, hk, rfl, hal⟩ := hrel
    have HA := Lib.hid hal
    clear hal
    by_cases hlt : k < L.length
    · obtain ⟨b, off, rfl, hbs, hc⟩ := hr.open (by intro h; rw [List.map_eq_nil_iff] at h; subst h; simp at hlt)
      have hcell : w.cell? ⟨b, off + k, none⟩ = some (.int .i64 L[k]) := hc k _ (by simp [hlt])
      have HT : Hid (L.take (k + 1) = L.take k ++ [L[k]]) := Lib.hid (by rw [List.take_add_one, List.getElem?_eq_getElem hlt]; rfl)
      have HM := Lib.hid (List.getElem_mem hlt)
      clear hc hr
      have hs := fun w => l2Small_any L[k] w
      cases hsm : small L[k]
      · have HR : Hid (allB L = false) := Lib.hid (by
          unfold allB
          rw [Bool.and_eq_false_iff]
          left
          rw [List.all_eq_false]
          exact ⟨L[k], HM.out, by rw [hsm]; simp⟩)
        rw [hsm] at hs
        clear hsm HM HT
        generalize L[k] = x at *
        go_wp2_with fail
        refine (hs _).mono ?_
        rintro e w' ⟨rfl, rfl⟩
        go_wp2_with fail
        go_ret
        exact ⟨by rw [HR.out]; rfl, rfl⟩
      · have HN : Hid ((L.take (k + 1)).all small = true) := Lib.hid (by rw [HT.out, List.all_append, HA.out]; simp [hsm])
        rw [hsm] at hs
        clear hsm HM HT
        generalize L[k] = x at *
        go_wp2_with fail
        refine (hs _).mono ?_
        rintro e w' ⟨rfl, rfl⟩
        go_wp2_with fail
        go_round
        case rel => exact ⟨k + 1, by omega, by go_num, HN.out⟩
        case measure => simp [intOf]; omega
    · obtain rfl : k = L.length := by omega
      have HR : Hid (allB L = decide ((L.length : Int) ≤ 300)) := Lib.hid (by
        have := HA.out
        rw [List.take_of_length_le (Nat.le_refl _)] at this
        unfold allB
        rw [this, Bool.true_and]
        congr 1
        exact propext (by omega))
      clear hr
      by_cases h3 : (L.length : Int) ≤ 300
      · have HQ := Lib.hid (decide_eq_true h3)
        go_wp2_with fail
        go_ret
        exact ⟨by rw [HR.out, HQ.out]; rfl, rfl⟩
      · have HQ := Lib.hid (decide_eq_false h3)
        go_wp2_with fail
        go_ret
        exact ⟨by rw [HR.out, HQ.out]; rfl, rfl⟩

/-- The result of a sorting of a list that the call itself owns. -/
theorem sort_of_owns {W w : World} {base : Nat} {M : List Int} {v : Value} (ho : w.ownsRow base 3 1 v M.length (M.map (Value.int .i64))) (hbel : Below W.heap.size W w) (hm : M.length ≤ 1048576) :
    Calls Tryz.prog 18 #[v] w fun e w' => ∃ u, e = .returned u ∧ ListPost (sortL M) W e w' := by
  obtain ⟨a, cap, rfl, -, -, hs, -⟩ := SlV.of_owns ho
  refine (spec_SortList M a cap w hs hm).mono ?_
  rintro e w' ⟨g, c, rfl, ho', hb'⟩
  exact ⟨_, rfl, g, c, rfl, owns_base ho' (Nat.le_trans hbel.size (owns_facts ho').1), hbel.trans (hb'.mono hbel.size)⟩

def shared (A B : List Int) : List Int := sortL (A.filter (hasB B))

set_option maxRecDepth 100000 in
set_option maxHeartbeats 800000 in
theorem spec_SharedOf (A B : List Int) (a b : Option Addr) (ca cb : Nat) (w : World) (ha : SlV w a (A.map (Value.int .i64))) (hb : SlV w b (B.map (Value.int .i64))) (hA : A.length ≤ 1048576) (hB : B.length ≤ 1048576) :
    Calls Tryz.prog 23 #[.slice a A.length ca, .slice b B.length cb] w (ListPost (shared A B) w) := by
  obtain ⟨i0, hi, hz0, hz1, hz2⟩ := info_parts infoIntL
  go_enter Tryz.func23, Tryz.ntmps23
  go_wp2_with fail
  have hown0 : (w.alloc (.cells #[] 3)).ownsRow w.heap.size 3 1 (.slice (some ⟨w.heap.size, 0, none⟩) 0 0) 0 [] := World.ownsRow_lit w #[] 0 (Nat.le_refl _) (by simp) rfl
  have hbel0 : Below w.heap.size w (w.alloc (.cells #[] 3)) := (Below.refl _ _).alloc (Nat.le_refl _) _
  go_loopw [5, 6] (fun v i wr => ∃ k : Nat, k ≤ A.length ∧ i = .int .i64 (k : Int) ∧
      wr.ownsRow w.heap.size 3 1 v ((A.take k).filter (hasB B)).length (((A.take k).filter (hasB B)).map (Value.int .i64)) ∧ Below w.heap.size w wr) (fun _ i _ => A.length - (intOf i).toNat)
  case atStart => exact ⟨0, Nat.zero_le _, rfl, hown0, hbel0⟩
  case round =>
    clear hown0 hbel0
    obtain ⟨k, hk, rfl, hown, hbel⟩ := hrel
    have hsz := hbel.size
    by_cases hlt : k < A.length
    · obtain ⟨ba, off, rfl, hbs, hc⟩ := ha.open (by intro h; rw [List.map_eq_nil_iff] at h; subst h; simp at hlt)
      have hcell : wr.cell? ⟨ba, off + k, none⟩ = some (.int .i64 A[k]) := by rw [hbel.cell (p := ⟨ba, off + k, none⟩) hbs]; exact hc k _ (by simp [hlt])
      have HT : Hid (A.take (k + 1) = A.take k ++ [A[k]]) := Lib.hid (by rw [List.take_add_one, List.getElem?_eq_getElem hlt]; rfl)
      have hFl : ((A.take k).filter (hasB B)).length ≤ k := Nat.le_trans (List.length_filter_le _ _) (by rw [List.length_take]; omega)
      have hh := spec_HasNumber B A[k] b cb wr (hb.below hbel) (by unfold maxLen; omega)
      clear hc ha hb
      cases hin : hasB B A[k]
      · have HF : Hid ((A.take (k + 1)).filter (hasB B) = (A.take k).filter (hasB B)) := Lib.hid (by rw [HT.out, List.filter_append]; simp [hin])
        rw [hin] at hh
        clear hin HT
        generalize A[k] = x at *
        go_wp2_with fail
        refine hh.mono ?_
        rintro e w' ⟨rfl, rfl⟩
        go_wp2_with fail
        go_roundw
        case rel => exact ⟨k + 1, by omega, by go_num, by rw [HF.out]; exact hown, hbel⟩
        case measure => simp [intOf]; omega
      · have HF : Hid ((A.take (k + 1)).filter (hasB B) = (A.take k).filter (hasB B) ++ [A[k]]) := Lib.hid (by rw [HT.out, List.filter_append]; simp [hin])
        rw [hin] at hh
        clear hin HT
        generalize A[k] = x at *
        generalize (A.take k).filter (hasB B) = M at *
        go_wp2_with fail
        refine hh.mono ?_
        rintro e w' ⟨rfl, rfl⟩
        go_wp2_with (at_builtin; refine wpList_append_own _ rfl (.tmp 20) (.tmp 25) 27 rfl w.heap.size 3 i0 (Value.int .i64 0) 1 8 Tryz.underlying27 hi hz0 hz1 hz2 rfl (by decide) _ _ _ rfl (hown.alloc _) ⟨_, 0, none⟩ 1 1 [.int .i64 x] rfl rfl (World.news_of_block (cs := #[.int .i64 x]) (t := 3) (fr := (0, 0)) (heap_alloc_new _ _)) (by simp [Value.oneCell']) (by unfold maxLen; omega) (by omega) (by simp; omega) ?_; intro v2 w2 hown2 hgrow2 _)
        have hb2 := (hbel.alloc hsz _).grown hgrow2 (by simp; omega) (fun j hj => (hown.lt j hj).1)
        have HO := Lib.hid hown2
        clear hown hown2 hgrow2
        go_wp2_with fail
        go_roundw
        case rel => exact ⟨k + 1, by omega, by go_num, by rw [HF.out]; have := HO.out; simpa using this, hb2⟩
        case measure => simp [intOf]; omega
    · obtain rfl : k = A.length := by omega
      rw [List.take_of_length_le (Nat.le_refl _)] at hown
      have hs := sort_of_owns hown hbel (Nat.le_trans (List.length_filter_le _ _) hA)
      clear ha hb hown
      go_wp2_with fail
      refine hs.mono ?_
      rintro e w' ⟨u, rfl, hp⟩
      go_wp2_with fail
      go_ret
      exact hp
end Go.Proofs.YtjahmlaocgcjpaaGreatDoor
