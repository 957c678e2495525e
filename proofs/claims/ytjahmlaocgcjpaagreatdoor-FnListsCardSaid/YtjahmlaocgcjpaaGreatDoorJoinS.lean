/-
  CONTRACTS of szStringS and of the reference's Join.
-/
import Derived.Test.YtjahmlaocgcjpaaGreatDoorJoinM
import Derived.WalkKit
import Derived.WalkLawsBesides
import Derived.Lib.Join
import Derived.Lib.AppendStr
import Derived.Laws.BytesArg
import Derived.Outline
namespace Go.Proofs.YtjahmlaocgcjpaaGreatDoor
open Go Go.RowKit

theorem infoByte : (Tryz.prog.info? 5).map (fun i => (i.zero, i.size, i.bytes)) = some (some (.int .u8 0), 1, 1) := by kernel_rfl

set_option maxRecDepth 100000 in
set_option maxHeartbeats 800000 in
/-- THE REFERENCE's Join. -/
theorem spec_JoinW (L : List ByteArray) (sep : ByteArray) (a : Option Addr) (cap : Nat) (w : World) (hr : SlV w a (L.map Value.string)) (h1 : L.length ≤ 1048576) (h2 : sizes L ≤ 1099511627776) (h3 : sep.size ≤ 1048576) :
    Calls Tryz.prog 55 #[.slice a L.length cap, .string sep] w fun e w' => e = .returned (.string ⟨(Lib.join (L.map (·.data.toList)) sep.data.toList).toArray⟩) ∧ Below w.heap.size w w' := by
  obtain ⟨i0, hi, hz0, hz1, hz2⟩ := info_parts infoByte
  go_enter Tryz.func55, Tryz.ntmps55
  go_wp2_with fail
  have hown0 : (w.alloc (.cells #[] 5)).ownsRow w.heap.size 5 1 (.slice (some ⟨w.heap.size, 0, none⟩) 0 0) 0 (bytesV (J L sep 0)) := by
    rw [J_zero]; exact World.ownsRow_lit w #[] 0 (Nat.le_refl _) (by simp) rfl
  have hbel0 : Below w.heap.size w (w.alloc (.cells #[] 5)) := (Below.refl _ _).alloc (Nat.le_refl _) _
  have hz : (J L sep 0).length = 0 := by rw [J_zero]; rfl
  rw [← hz] at hown0
  clear hz
  go_loopw [5, 6] (fun v i wr => ∃ k : Nat, k ≤ L.length ∧ i = .int .i64 (k : Int) ∧ wr.ownsRow w.heap.size 5 1 v (J L sep k).length (bytesV (J L sep k)) ∧ Below w.heap.size w wr) (fun _ i _ => L.length - (intOf i).toNat)
  case atStart => exact ⟨0, Nat.zero_le _, rfl, by simpa [J_zero] using hown0, hbel0⟩
  case round =>
    clear hown0 hbel0
    obtain ⟨k, hk, rfl, hown, hbel⟩ := hrel
    have hJ := J_lengthW L sep k h1 h2 h3
    by_cases hlt : k < L.length
    · obtain ⟨b, off, rfl, hbs, hc⟩ := hr.open (by intro h; rw [List.map_eq_nil_iff] at h; subst h; simp at hlt)
      have hc1 : ∀ w1, Below w.heap.size w w1 → w1.cell? ⟨b, off + k, none⟩ = some (.string L[k]) := fun w1 hb => by rw [hb.cell (p := ⟨b, off + k, none⟩) hbs]; exact hc k _ (by simp [hlt])
      have hJ1 := J_lengthW L sep (k + 1) h1 h2 h3
      have hsz := hbel.size
      by_cases h0 : k = 0
      · subst h0
        have hx : L[0].size = (J L sep 1).length := by rw [J_one L sep hlt]; simp
        have hJ11 := J_lengthW L sep 1 h1 h2 h3
        have hsx : L[0].size ≤ 2199024304128 := by omega
        have HE := Lib.hid (show bytesV (J L sep 0) ++ Lib.strCells L[0] = bytesV (J L sep 1) by rw [J_zero, J_one L sep hlt]; rfl)
        have HX := Lib.hid hx
        have HC := Lib.hid hc1
        have hcell := hc1 wr hbel
        rw [Nat.add_zero] at hcell
        have hj0 : (J L sep 0).length = 0 := by rw [J_zero]; rfl
        rw [hj0] at hown
        clear hc hr hx hc1 hJ hj0
        go_wp2_with (at_builtin; (refine Lib.wpList_append_own_string _ rfl (.tmp 19) (.tmp 23) 22 9 rfl w.heap.size 5 i0 Tryz.underlying22 Tryz.underlying9 hi hz0 hz1 hz2 _ _ _ rfl hown L[0] rfl (by unfold maxLen; omega) (by omega) (by omega) ?_); intro v2 w2 hown2 hgrow2 _)
        have hb2 := hbel.grown hgrow2 hsz (fun j hj => (hown.lt j hj).1)
        rw [Nat.zero_add, HX.out, HE.out] at hown2
        have HO := Lib.hid hown2
        clear hown hown2
        go_wp2_with fail
        go_roundw
        case rel => exact ⟨1, by omega, by go_num, HO.out, hb2⟩
        case measure => simp [intOf]; omega
      · have hk1 : 1 ≤ k := by omega
        have hl := congrArg List.length (J_succ L sep k hk1 hlt)
        simp only [List.length_append] at hl
        have hsep : sep.size = sep.data.toList.length := by simp
        have hLk : L[k].size = L[k].data.toList.length := by simp
        have hb3 : (J L sep k).length + sep.size + L[k].size ≤ 2199024304128 := by omega
        have HE := Lib.hid (show bytesV (J L sep k) ++ Lib.strCells sep ++ Lib.strCells L[k] = bytesV (J L sep (k + 1)) by rw [J_succ L sep k hk1 hlt, bytesV_append, bytesV_append]; rfl)
        have HX := Lib.hid (show (J L sep k).length + sep.size + L[k].size = (J L sep (k + 1)).length by omega)
        have HC := Lib.hid hc1
        have hpos : (0 : Int) < (k : Int) := by omega
        clear hc hr hc1 hJ hl hsep hLk h0
        go_wp2_with (first | (at_builtin; (refine Lib.wpList_append_own_string _ rfl (.tmp 16) (.tmp 17) 22 9 rfl w.heap.size 5 i0 Tryz.underlying22 Tryz.underlying9 hi hz0 hz1 hz2 _ _ _ rfl hown sep rfl (by unfold maxLen; omega) (by omega) (by omega) ?_); intro v2 w2 hown2 hgrow2 _; have hb2 := hbel.grown hgrow2 hsz (fun j hj => (hown.lt j hj).1); have hcell := HC.out w2 hb2; have hsz2 := hb2.size) | (at_builtin; (refine Lib.wpList_append_own_string _ rfl (.tmp 19) (.tmp 23) 22 9 rfl w.heap.size 5 i0 Tryz.underlying22 Tryz.underlying9 hi hz0 hz1 hz2 _ _ _ rfl hown2 L[k] rfl (by unfold maxLen; omega) (by omega) (by omega) ?_); intro v3 w3 hown3 hgrow3 _))
        have hb4 := hb2.grown hgrow3 hsz2 (fun j hj => (hown2.lt j hj).1)
        rw [HX.out, HE.out] at hown3
        have HO := Lib.hid hown3
        clear hown2 hown3
        go_wp2_with fail
        go_roundw
        case rel => exact ⟨k + 1, by omega, by go_num, HO.out, hb4⟩
        case measure => simp [intOf]; omega
    · obtain rfl : k = L.length := by omega
      have hcv := conv_owned (P := Tryz.prog) (dst := 9) Tryz.underlying22 Tryz.underlying5 Tryz.underlying9 hown
      have HO := Lib.hid hown
      clear hown hr
      go_wp2_with fail
      go_ret
      exact ⟨by rw [← J_all]; rfl, hbel⟩

theorem spec_Join (L : List ByteArray) (sep : ByteArray) (a : Option Addr) (cap : Nat) (w : World) (hr : SlV w a (L.map Value.string)) (h1 : L.length ≤ 1048576) (h2 : sizes L ≤ 1048576) (h3 : sep.size ≤ 1048576) :
    Calls Tryz.prog 55 #[.slice a L.length cap, .string sep] w fun e w' => e = .returned (.string ⟨(Lib.join (L.map (·.data.toList)) sep.data.toList).toArray⟩) ∧ Below w.heap.size w w' :=
  spec_JoinW L sep a cap w hr h1 (by omega) h3

/-- What szStringS gives back: not negative only where all fits. -/
def SzPost (L : List ByteArray) (left : Nat) (w : World) (e : Ending) (w' : World) : Prop :=
  ∃ r : Int, e = .returned (.int .i64 r) ∧ (0 ≤ r → L.length + sizes L ≤ left) ∧ w' = w

end Go.Proofs.YtjahmlaocgcjpaaGreatDoor
