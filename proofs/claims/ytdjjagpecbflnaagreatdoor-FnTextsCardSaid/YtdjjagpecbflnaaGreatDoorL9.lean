/-
  CONTRACTS of the reference's chapter 3: l3Gens, Generates.
-/
import Derived.Test.YtdjjagpecbflnaaGreatDoorL8
namespace Go.Proofs.YtdjjagpecbflnaaGreatDoor
open Go Go.RowKit

set_option maxRecDepth 100000 in
set_option maxHeartbeats 400000 in
theorem spec_l3Gens (L : List Int) (a : Option Addr) (cap : Nat) (w : World) (hr : SlV w a (L.map (Value.int .i64))) (hb : L.length ≤ 1048576) :
    Calls Tryz.prog 29 #[.slice a L.length cap] w fun e w' => e = .returned (.bool (okG L)) ∧ w' = w := by
  go_enter Tryz.func29, Tryz.ntmps29
  go_wp2_with fail
  go_loop [3] (fun i => ∃ k : Nat, k ≤ L.length ∧ i = .int .i64 (k : Int) ∧ (L.take k).all (fun x => inB x 1 60) = true) (fun i => L.length - (intOf i).toNat)
  case atStart => exact ⟨0, Nat.zero_le _, rfl, by simp⟩
  case round =>
    obtain ⟨k, hk, rfl, hal⟩ := hrel
    have HA := Lib.hid hal
    clear hal
    by_cases hlt : k < L.length
    · obtain ⟨b, off, rfl, hbs, hc⟩ := hr.open (by intro h; rw [List.map_eq_nil_iff] at h; subst h; simp at hlt)
      have hcell : w.cell? ⟨b, off + k, none⟩ = some (.int .i64 L[k]) := hc k _ (by simp [hlt])
      have HT : Hid (L.take (k + 1) = L.take k ++ [L[k]]) := Lib.hid (by rw [List.take_add_one, List.getElem?_eq_getElem hlt]; rfl)
      have HM := Lib.hid (List.getElem_mem hlt)
      clear hc hr
      have hs := fun w => l1In_any L[k] 1 60 w
      cases hsm : inB L[k] 1 60
      · have HR : Hid (okG L = false) := Lib.hid (by
          unfold okG
          rw [Bool.and_eq_false_iff, Bool.and_eq_false_iff]
          left; left
          rw [List.all_eq_false]
          exact ⟨L[k], HM.out, by rw [hsm]; simp⟩)
        rw [hsm] at hs
        clear hsm HM HT
        generalize L[k] = x at *
        go_wp2_with fail
        refine (hs _).mono ?_
        rintro e w' ⟨rfl, rfl⟩
        go_wp2_with fail
        go_ret
        exact ⟨by rw [HR.out]; rfl, rfl⟩
      · have HN : Hid ((L.take (k + 1)).all (fun x => inB x 1 60) = true) := Lib.hid (by rw [HT.out, List.all_append, HA.out]; simp [hsm])
        rw [hsm] at hs
        clear hsm HM HT
        generalize L[k] = x at *
        go_wp2_with fail
        refine (hs _).mono ?_
        rintro e w' ⟨rfl, rfl⟩
        go_wp2_with fail
        go_round
        case rel => exact ⟨k + 1, by omega, by go_num, HN.out⟩
        case measure => simp [intOf]; omega
    · obtain rfl : k = L.length := by omega
      have HR : Hid (okG L = inB (L.length : Int) 1 20) := Lib.hid (by
        have := HA.out
        rw [List.take_of_length_le (Nat.le_refl _)] at this
        unfold okG
        rw [this, Bool.true_and]
        unfold inB
        congr 1 <;> exact decide_eq_decide.2 (by omega))
      have hs := fun w => l1In_any (L.length : Int) 1 20 w
      clear hr
      generalize inB (L.length : Int) 1 20 = r at *
      go_wp2_with fail
      refine (hs _).mono ?_
      rintro e w' ⟨rfl, rfl⟩
      go_wp2_with fail
      go_ret
      exact ⟨by rw [HR.out]; rfl, rfl⟩

theorem generatesB_in {G : List Int} {n : Int} (h : okG G = true) (hn : inB n 0 1000000 = true) : generatesB G n = sumB G n.toNat := by unfold generatesB; rw [h, hn]; rfl
theorem generatesB_out {G : List Int} {n : Int} (h : okG G = false ∨ inB n 0 1000000 = false) : generatesB G n = false := by
  unfold generatesB
  rcases h with h | h <;> simp [h]
/-- No multiple of the common divisor: no sum. -/
theorem sumB_no {G : List Int} (h : okG G = true) {n : Nat} (hd : ¬ (gcdL G).natAbs ∣ n) : sumB G n = false := by
  rw [sumB_false]
  intro hs
  exact hd (isSum_dvd (fun g hg => by simpa using gcdL_dvd (okG_iff.1 h).1 _ hg) hs)

/-- The table, read at its last place. -/
theorem tab_last {w : World} {base : Nat} {v : Value} {G : List Int} {m : Nat} (ho : w.ownsRow base 4 1 v (m + 1) (tabL G (m + 1))) :
    ∃ g c, v = .slice (some ⟨g, 0, none⟩) (m + 1) c ∧ ∀ j, j ≤ m → w.cell? ⟨g, j, none⟩ = some (.bool (sumB G j)) := by
  obtain ⟨hx, ⟨rfl, h0⟩ | ⟨g, cap, cur, rfl, h1, h2, h3⟩⟩ := ho
  · omega
  · refine ⟨g, cap, rfl, fun j hj => ?_⟩
    rw [World.ownsRow.cellAt (base := base) (e := 4) (size := 1) (n := m + 1) (cap := cap) (xs := tabL G (m + 1)) ⟨hx, .inr ⟨g, cap, cur, rfl, h1, h2, h3⟩⟩ j (by omega)]
    unfold tabL
    rw [List.getElem?_map, List.getElem?_range (by omega)]
    rfl

end Go.Proofs.YtdjjagpecbflnaaGreatDoor
