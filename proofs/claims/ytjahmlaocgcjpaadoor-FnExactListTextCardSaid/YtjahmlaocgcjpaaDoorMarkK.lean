/-
  CONTRACTS of the laws' markIntS and heldIntS: k0, k0 + 1, .. written into a row of ints, and read again.
-/
import Derived.Test.YtjahmlaocgcjpaaDoorSl
import Derived.WalkKit
import Derived.WalkLawsBesides
import Derived.Outline
namespace Go.Proofs.YtjahmlaocgcjpaaDoor
open Go Go.RowKit

def marksK (k0 : Int) (n : Nat) : List Value := (List.range n).map fun (j : Nat) => Value.int .i64 (k0 + (j : Int))
def markedK (k0 : Int) (xs : List Value) (i : Nat) : List Value := marksK k0 i ++ xs.drop i
theorem markedK_zero (k0 : Int) (xs : List Value) : markedK k0 xs 0 = xs := by simp [markedK, marksK]
theorem markedK_all (k0 : Int) (xs : List Value) : markedK k0 xs xs.length = marksK k0 xs.length := by simp [markedK]
theorem marksK_length (k0 : Int) (n : Nat) : (marksK k0 n).length = n := by simp [marksK]
theorem markedK_set (k0 : Int) (xs : List Value) (i : Nat) (h : i < xs.length) : (markedK k0 xs i).set i (.int .i64 (k0 + (i : Int))) = markedK k0 xs (i + 1) := by
  unfold markedK
  rw [List.set_append_right _ _ (by rw [marksK_length]; exact Nat.le_refl _)]
  have e1 : i - (marksK k0 i).length = 0 := by rw [marksK_length]; omega
  rw [e1, List.drop_eq_getElem_cons h, List.set_cons_zero]
  have e2 : marksK k0 (i + 1) = marksK k0 i ++ [.int .i64 (k0 + (i : Int))] := by unfold marksK; rw [List.range_succ, List.map_append]; rfl
  rw [e2, List.append_assoc]; rfl
theorem markedK_length (k0 : Int) (xs : List Value) (i : Nat) (h : i ≤ xs.length) : (markedK k0 xs i).length = xs.length := by
  unfold markedK; rw [List.length_append, marksK_length, List.length_drop]; omega

set_option maxRecDepth 100000 in
set_option maxHeartbeats 400000 in
theorem markIntS_some (k0 : Int) (B g n cap : Nat) (xs : List Value) (w : World) (ho : w.ownsRow B 3 1 (.slice (some ⟨g, 0, none⟩) n cap) n xs) (hn : n ≤ 4611686018427387904) (h0 : 0 ≤ k0) (h1 : k0 ≤ 1152921504606846976) :
    Calls Tryd.prog 11 #[.slice (some ⟨g, 0, none⟩) n cap, .int .i64 k0] w fun e w' => e = .returned (.int .i64 (k0 + (n : Int))) ∧
      w'.ownsRow B 3 1 (.slice (some ⟨g, 0, none⟩) n cap) n (marksK k0 n) ∧ w.grownBy w' (some g) := by
  have hxl : xs.length = n := by have := ho.1; omega
  go_enter Tryd.func11, Tryd.ntmps11
  go_wp2_with fail
  go_loopw [1, 5] (fun c i wr => ∃ k : Nat, k ≤ n ∧ i = .int .i64 (k : Int) ∧ c = .int .i64 (k0 + (k : Int)) ∧ wr.ownsRow B 3 1 (.slice (some ⟨g, 0, none⟩) n cap) n (markedK k0 xs k) ∧ w.grownBy wr (some g)) (fun _ i _ => n - (intOf i).toNat)
  case atStart => exact ⟨0, Nat.zero_le _, rfl, by go_num, by rw [markedK_zero]; exact ho, ⟨rfl, rfl, rfl, Nat.le_refl _, fun _ _ _ => rfl⟩⟩
  case round =>
    clear ho
    obtain ⟨k, hk, rfl, rfl, hown, hg⟩ := hrel
    have HX := Lib.hid hxl
    have HG := Lib.hid hg
    by_cases hlt : k < n
    · have hst := hown.stored k (.int .i64 (k0 + (k : Int)))
      rw [markedK_set k0 xs k (by omega)] at hst
      have HS := Lib.hid hst
      obtain ⟨u, hu⟩ : ∃ u, wr.cell? ⟨g, k, none⟩ = some u := by
        rw [hown.cellAt k (by omega)]; exact ⟨_, List.getElem?_eq_getElem (by rw [markedK_length k0 xs k (by omega)]; omega)⟩
      have hfz := hown.frozenAt k
      clear hst hown hxl hg
      go_wp2_with fail
      go_roundw
      case rel =>
        exact ⟨k + 1, by omega, by go_num, by go_num, HS.out.1, ⟨HS.out.2.os.trans HG.out.os, HS.out.2.tape.trans HG.out.tape, HS.out.2.output.trans HG.out.output, Nat.le_trans HG.out.size HS.out.2.size, fun j hj hN => (HS.out.2.block j (Nat.lt_of_lt_of_le hj HG.out.size) hN).trans (HG.out.block j hj hN)⟩⟩
      case measure => simp [intOf]; omega
    · obtain rfl : k = n := by omega
      have HO := Lib.hid hown
      clear hown hxl hg
      go_wp2_with fail
      go_ret
      have h1 := HO.out
      have h2 := markedK_all k0 xs
      rw [HX.out] at h2
      rw [h2] at h1
      exact ⟨rfl, h1, HG.out⟩

set_option maxRecDepth 100000 in
theorem markIntS_nil (k0 : Int) (w : World) :
    Calls Tryd.prog 11 #[.slice none 0 0, .int .i64 k0] w fun e w' => e = .returned (.int .i64 k0) ∧ w' = w := by
  go_enter Tryd.func11, Tryd.ntmps11
  go_wp2_with fail
  go_loop [1, 5] (fun c i => i = .int .i64 0 ∧ c = .int .i64 k0) (fun _ i => (intOf i).toNat)
  case atStart => exact ⟨rfl, rfl⟩
  case round =>
    obtain ⟨rfl, rfl⟩ := hrel
    go_wp2_with fail
    go_ret
    exact ⟨rfl, rfl⟩

/-- markIntS from k0 on over any row that the callers own, a nil slice too. -/
theorem markIntS_any (k0 : Int) (B n : Nat) (v : Value) (xs : List Value) (w : World) (ho : w.ownsRow B 3 1 v n xs) (hn : n ≤ 4611686018427387904) (h0 : 0 ≤ k0) (h1 : k0 ≤ 1152921504606846976) :
    Calls Tryd.prog 11 #[v, .int .i64 k0] w fun e w' => e = .returned (.int .i64 (k0 + (n : Int))) ∧
      w'.ownsRow B 3 1 v n (marksK k0 n) ∧ w.grownBy w' v.ownBlock := by
  have ho2 := ho
  obtain ⟨hx, ⟨rfl, rfl⟩ | ⟨g, cap, cur, rfl, g1, g2, g3⟩⟩ := ho
  · refine (markIntS_nil k0 w).mono ?_
    rintro e w' ⟨rfl, rfl⟩
    exact ⟨by simp, ⟨rfl, .inl ⟨rfl, rfl⟩⟩, ⟨rfl, rfl, rfl, Nat.le_refl _, fun _ _ _ => rfl⟩⟩
  · exact markIntS_some k0 B g n cap xs w ho2 hn h0 h1

set_option maxRecDepth 100000 in
set_option maxHeartbeats 400000 in
/-- heldIntS from k0 on, where each cell holds its mark. -/
theorem heldIntS_any (k0 : Int) (n cap : Nat) (a : Option Addr) (w : World) (hr : SlV w a (marksK k0 n)) (hn : n ≤ 4611686018427387904) (h0 : 0 ≤ k0) (h1 : k0 ≤ 1152921504606846976) :
    Calls Tryd.prog 12 #[.slice a n cap, .int .i64 k0] w fun e w' => e = .returned (.int .i64 (k0 + (n : Int))) ∧ w' = w := by
  go_enter Tryd.func12, Tryd.ntmps12
  go_wp2_with fail
  go_loop [1, 5] (fun c i => ∃ k : Nat, k ≤ n ∧ i = .int .i64 (k : Int) ∧ c = .int .i64 (k0 + (k : Int))) (fun _ i => n - (intOf i).toNat)
  case atStart => exact ⟨0, Nat.zero_le _, rfl, by go_num⟩
  case round =>
    obtain ⟨k, hk, rfl, rfl⟩ := hrel
    by_cases hlt : k < n
    · obtain ⟨b, off, rfl, hbs, hc⟩ := hr.open (by intro h; have := marksK_length k0 n; rw [h] at this; simp at this; omega)
      have hcell : w.cell? ⟨b, off + k, none⟩ = some (.int .i64 (k0 + (k : Int))) := hc k _ (by unfold marksK; simp [hlt])
      clear hc hr
      go_wp2_with fail
      go_round
      case rel => exact ⟨k + 1, by omega, by go_num, by go_num⟩
      case measure => simp [intOf]; omega
    · obtain rfl : k = n := by omega
      clear hr
      go_wp2_with fail
      go_ret
      exact ⟨rfl, rfl⟩

end Go.Proofs.YtjahmlaocgcjpaaDoor
