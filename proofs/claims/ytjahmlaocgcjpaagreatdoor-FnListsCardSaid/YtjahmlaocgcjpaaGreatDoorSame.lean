/-
  CONTRACTS of the laws' own sameInts and big in the form of fnwalk.py.
-/
import Derived.Test.YtjahmlaocgcjpaaGreatDoorSl
import Derived.Test.YtjahmlaocgcjpaaGreatDoorBig
import Derived.WalkKit
import Derived.WalkLawsBesides
import Derived.BigQuiet
import Derived.Deep.QuietTactic
import Derived.Outline
namespace Go.Proofs.YtjahmlaocgcjpaaGreatDoor
open Go Go.RowKit

set_option maxRecDepth 100000 in
set_option maxHeartbeats 400000 in
/-- sameInts: whether the two lists are equal. -/
theorem sameInts_any (L M : List Int) (a c : Option Addr) (cap cap2 : Nat) (w : World) (hr : SlV w a (L.map (Value.int .i64))) (hs : SlV w c (M.map (Value.int .i64))) (hb : L.length ≤ 4611686018427387904) (hb2 : M.length ≤ 4611686018427387904) :
    Calls Tryz.prog 17 #[.slice a L.length cap, .slice c M.length cap2] w fun e w' => e = .returned (.bool (decide (L = M))) ∧ Below w.heap.size w w' := by
  by_cases hlen : L.length = M.length
  · have hne : ((L.length : Int) != (M.length : Int)) = false := by simp [hlen]
    have HL := Lib.hid hlen
    clear hlen
    go_enter Tryz.func17, Tryz.ntmps17
    go_wp2_with fail
    go_loopw [5] (fun i wr => ∃ k : Nat, k ≤ L.length ∧ i = .int .i64 (k : Int) ∧ (∀ j, j < k → L[j]? = M[j]?) ∧ Below w.heap.size w wr) (fun i _ => L.length - (intOf i).toNat)
    case atStart => exact ⟨0, Nat.zero_le _, rfl, fun j h => by omega, Below.refl _ _⟩
    case round =>
      obtain ⟨k, hk, rfl, heq, hbel⟩ := hrel
      have HE := Lib.hid heq
      clear heq
      by_cases hlt : k < L.length
      · have hltM : k < M.length := by have := HL.out; omega
        obtain ⟨b, off, rfl, hbs, hc⟩ := hr.open (by intro h; rw [List.map_eq_nil_iff] at h; subst h; simp at hlt)
        obtain ⟨b2, off2, rfl, hbs2, hc2⟩ := hs.open (by intro h; rw [List.map_eq_nil_iff] at h; subst h; simp at hltM)
        have hcell : wr.cell? ⟨b, off + k, none⟩ = some ((Value.int .i64) L[k]) := by rw [hbel.cell (p := ⟨b, off + k, none⟩) hbs]; exact hc k _ (by simp [hlt])
        have hcell2 : wr.cell? ⟨b2, off2 + k, none⟩ = some ((Value.int .i64) M[k]) := by rw [hbel.cell (p := ⟨b2, off2 + k, none⟩) hbs2]; exact hc2 k _ (by simp [hltM])
        clear hc hc2 hr hs
        have hx0 : (0 : Int) ≤ (k : Int) := by omega
        have hx1 : (k : Int) < (L.length : Int) := by omega
        have hx2 : (k : Int) < (M.length : Int) := by omega
        by_cases he : L[k] = M[k]
        · have HEQ := Lib.hid (show L[k]? = M[k]? by rw [List.getElem?_eq_getElem hlt, List.getElem?_eq_getElem hltM, he])
          rw [← he] at hcell2
          clear he
          generalize L[k] = x at *
          go_wp2_with fail
          go_quiet (fail)
          go_wp2_with fail
          go_roundw
          case rel => exact ⟨k + 1, by omega, by go_num, (fun j hj => by
            by_cases h : j < k
            · exact HE.out j h
            · obtain rfl : j = k := by omega
              exact HEQ.out), by first | exact hbel | exact below_drewN hbel _⟩
          case measure => simp [intOf]; omega
        · have HNE := Lib.hid (decide_eq_false (p := L = M) (fun h => he (by subst h; rfl)))
          have hne2 : (L[k] != M[k]) = true := by rw [bne_iff_ne]; exact he
          clear he
          generalize L[k] = x at *
          generalize M[k] = y at *
          go_wp2_with fail
          go_quiet (fail)
          go_wp2_with fail
          go_ret
          exact ⟨by rw [HNE.out]; rfl, by first | exact hbel | exact below_drewN hbel _⟩
      · obtain rfl : k = L.length := by omega
        have HEQ := Lib.hid (decide_eq_true (p := L = M) (by
          apply List.ext_getElem? 
          intro j
          by_cases hj : j < L.length
          · exact HE.out j hj
          · rw [List.getElem?_eq_none (by omega), List.getElem?_eq_none (by have := HL.out; omega)]))
        clear hr hs
        go_wp2_with fail
        go_ret
        exact ⟨by rw [HEQ.out]; rfl, hbel⟩
  · have hne : ((L.length : Int) != (M.length : Int)) = true := by simp; omega
    have HNE := Lib.hid (decide_eq_false (p := L = M) (fun h => hlen (by rw [h])))
    clear hlen
    go_enter Tryz.func17, Tryz.ntmps17
    go_wp2_with fail
    go_ret
    exact ⟨by rw [HNE.out]; rfl, Below.refl _ _⟩

theorem cq (L M : List Int) (a b : Option Addr) (ca cb : Nat) (w : World) (hr : SlV w a (L.map (Value.int .i64))) (hs : SlV w b (M.map (Value.int .i64))) (hb : L.length ≤ 4611686018427387904) (hb2 : M.length ≤ 4611686018427387904) :
    Calls Tryz.prog 17 #[.slice a L.length ca, .slice b M.length cb] w fun e w' => e = .returned (.bool (decide (L = M))) ∧ Below w.heap.size w w' :=
  sameInts_any L M a b ca cb w hr hs hb hb2

theorem big_b (a : Option Addr) (len cap : Nat) (w : World) (hl : len ≤ maxLen) :
    Calls Tryz.prog 4 #[.slice a len cap] w fun e w' => e = .returned (.bool (decide (1048576 < len))) ∧ Below w.heap.size w w' :=
  (big_any a len cap w hl).mono fun _ _ ⟨he, hw⟩ => ⟨he, by rw [hw]; exact Below.refl _ _⟩
end Go.Proofs.YtjahmlaocgcjpaaGreatDoor
