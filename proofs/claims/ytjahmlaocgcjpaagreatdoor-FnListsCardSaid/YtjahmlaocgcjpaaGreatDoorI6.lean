/-
  CONTRACTS of the program's ListText and ParseList.
-/
import Derived.Test.YtjahmlaocgcjpaaGreatDoorL7
import Derived.Test.YtjahmlaocgcjpaaGreatDoorLaw
import Derived.Test.YtjahmlaocgcjpaaGreatDoorParse
import Derived.Test.YtjahmlaocgcjpaaGreatDoorJoinI
import Derived.Test.YtjahmlaocgcjpaaGreatDoorEnv
import Derived.Lib.ItoaLen
namespace Go.Proofs.YtjahmlaocgcjpaaGreatDoor
open Go Go.RowKit

theorem sizes_numerals (L : List Int) (hI : ∀ x ∈ L, -9223372036854775808 ≤ x ∧ x ≤ 9223372036854775807) : sizes (L.map numeral) ≤ 21 * L.length := by
  induction L with
  | nil => simp [sizes]
  | cons a r ih =>
    have h1 := ih (fun x hx => hI x (List.mem_cons_of_mem _ hx))
    have h2 := Lib.itoa_length_le a (hI a (by simp)).1 (hI a (by simp)).2
    have h3 : (numeral a).size = (Lib.itoa a).length := by unfold numeral; show (Lib.itoa a).toArray.size = _; simp
    rw [List.map_cons, show numeral a :: r.map numeral = [numeral a] ++ r.map numeral from rfl, sizes_append, List.length_cons]
    have h4 : sizes [numeral a] = (numeral a).size := by simp [sizes]
    omega

set_option maxRecDepth 100000 in
set_option maxHeartbeats 800000 in
theorem impl_ListText (L : List Int) (a : Option Addr) (cap : Nat) (w : World) (hr : SlV w a (L.map (Value.int .i64))) (hL : L.length ≤ 1048576) (hI : ∀ x ∈ L, -9223372036854775808 ≤ x ∧ x ≤ 9223372036854775807) (hv : EnvFmt w) :
    Calls Tryz.prog 30 #[.slice a L.length cap] w fun e w' => e = .returned (.string (listText L)) ∧ Below w.heap.size w w' := by
  obtain ⟨i0, hi, hz0, hz1, hz2⟩ := info_parts infoStrL
  by_cases h0 : L = []
  · subst h0
    clear hv
    go_enter Tryz.func30, Tryz.ntmps30
    go_wp2_with fail
    go_ret
    exact ⟨by simp [listText, noneB], Below.refl _ _⟩
  · have HT := Lib.hid (listText_cons h0)
    have hpos : 0 < L.length := List.length_pos_iff.2 h0
    have hne : ((L.length : Int) == 0) = false := by rw [beq_eq_false_iff_ne]; omega
    have HV := Lib.hid hv
    clear h0 hv
    go_enter Tryz.func30, Tryz.ntmps30
    go_wp2_with (at_make; refine wpList_make_full _ rfl _ _ 52 rfl w.heap.size 9 i0 (Value.string ByteArray.empty) 1 Tryz.underlying52 hi hz0 hz1 .i64 .i64 _ _ L.length rfl rfl rfl rfl (by rw [hz2]; omega) (by unfold maxLen; omega) (Nat.le_refl _) ?_; intro w1 hown hgrow)
    have hbel : Below w.heap.size w w1 := (Below.refl _ w).grown hgrow (Nat.le_refl _) (fun k h => by cases h)
    have hown' : w1.ownsRow w.heap.size 9 1 (.slice (some ⟨w.heap.size, 0, none⟩) L.length L.length) L.length (filled ((L.map numeral).map Value.string) (Value.string ByteArray.empty) 0) := by
      rw [filled_zero, List.length_map, List.length_map]
      have e : (madeCells (Value.string ByteArray.empty).cells (L.length * 1)).toList = List.replicate L.length (Value.string ByteArray.empty) := by rw [Nat.mul_one]; exact toList_madeCells_one _ _
      rw [← e]; exact hown
    clear hown hgrow hi hz0 hz1 hz2
    go_wp2_with fail
    go_loopw [14] (fun i wr => ∃ k : Nat, k ≤ L.length ∧ i = .int .i64 (k : Int) ∧
        wr.ownsRow w.heap.size 9 1 (.slice (some ⟨w.heap.size, 0, none⟩) L.length L.length) L.length (filled ((L.map numeral).map Value.string) (Value.string ByteArray.empty) k) ∧ Below w.heap.size w wr) (fun i _ => L.length - (intOf i).toNat)
    case atStart => exact ⟨0, Nat.zero_le _, rfl, hown', hbel⟩
    case round =>
      clear hown' hbel
      obtain ⟨k, hk, rfl, hown, hbel⟩ := hrel
      have hsz := hbel.size
      by_cases hlt : k < L.length
      · obtain ⟨b, off, rfl, hbs, hc⟩ := hr.open (by intro h; rw [List.map_eq_nil_iff] at h; subst h; simp at hlt)
        have hcell : wr.cell? ⟨b, off + k, none⟩ = some (.int .i64 L[k]) := by rw [hbel.cell (p := ⟨b, off + k, none⟩) hbs]; exact hc k _ (by simp [hlt])
        have hx : ((L.map numeral).map Value.string)[k]? = some (Value.string (numeral L[k])) := by simp [hlt]
        have HX := Lib.hid hx
        obtain ⟨x0, x1⟩ := int_bounds_of L hI k hlt
        have cf := impl_FormatInt L[k] x0 x1 wr (HV.out.below hbel)
        clear hc hr hI hx
        generalize L[k] = x at *
        go_wp2_with fail
        refine cf.mono ?_
        rintro e w2 ⟨rfl, hb2⟩
        have hown2 := row_kept hown fun j hj => hb2.block j (hown.lt j hj).2
        have hbel2 := hbel.trans (hb2.mono hsz)
        have hst := hown2.stored k (.string (numeral x))
        rw [filled_set _ _ _ _ HX.out] at hst
        have HS := Lib.hid hst
        have hlen : (filled ((L.map numeral).map Value.string) (Value.string ByteArray.empty) k).length = L.length := by have := hown2.1; omega
        obtain ⟨u, hu⟩ : ∃ u, w2.cell? ⟨w.heap.size, k, none⟩ = some u := by
          rw [hown2.cellAt k (by omega)]; exact ⟨_, List.getElem?_eq_getElem (by omega)⟩
        have hfz := hown2.frozenAt k
        have HB := Lib.hid (hbel2.setCell (p := ⟨w.heap.size, k, none⟩) (Nat.le_refl _) (.string (numeral x)))
        clear hst hown hown2 hlen cf hcell hbel hbel2 hb2
        go_wp2_with fail
        go_roundw
        case rel => exact ⟨k + 1, by omega, by go_num, HS.out.1, HB.out⟩
        case measure => simp [intOf]; omega
      · obtain rfl : k = L.length := by omega
        have HJ : Hid (Lib.join ((L.map numeral).map (·.data.toList)) (⟨#[44]⟩ : ByteArray).data.toList = Lib.join (L.map Lib.itoa) [44]) := Lib.hid (by
          congr 1
          rw [List.map_map]
          exact List.map_congr_left fun x _ => by simp [numeral])
        have e := filled_all ((L.map numeral).map Value.string) (Value.string ByteArray.empty)
        rw [List.length_map, List.length_map] at e
        rw [e] at hown
        obtain ⟨a2, c2, e2, -, hcp, hs2, -⟩ := SlV.of_owns hown
        cases e2
        have hjl := J_lengthW (L.map numeral) ⟨#[44]⟩ (L.map numeral).length (by simp; omega) (by have := sizes_numerals L hI; omega) (by decide)
        rw [J_all] at hjl
        have cj := impl_JoinW (L.map numeral) ⟨#[44]⟩ (some ⟨w.heap.size, 0, none⟩) L.length wr hs2 (by simp; omega) (by omega) (by simp)
        rw [HJ.out, ← HT.out] at cj
        clear hr hown hs2 hjl e
        rw [List.length_map] at cj
        go_wp2_with fail
        refine cj.mono ?_
        rintro e w1 ⟨rfl, hb1⟩
        go_wp2_with fail
        go_ret
        exact ⟨rfl, hbel.trans (hb1.mono hbel.size)⟩
end Go.Proofs.YtjahmlaocgcjpaaGreatDoor
