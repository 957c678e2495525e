/-
  CONTRACTS of the reference's chapter 16: l16Valid, l16In, l16Dual, InIdeal, IdealGens, IdealSum. (Own work: mkL53.py.)
-/
import Derived.Test.YtopnehkhigacpaaGreatL51
import Derived.Test.YtopnehkhigacpaaGreatSgId
import Derived.Test.YtopnehkhigacpaaGreatL36
namespace Go.Proofs.YtopnehkhigacpaaGreat
open Go Go.RowKit

set_option maxRecDepth 100000 in
set_option maxHeartbeats 1600000 in
theorem spec_l16Valid (L : List Int) (al : Option Addr) (cl : Nat) (w : World) (hrl : SlV w al (L.map (Value.int .i64))) (hbl : L.length ≤ 1048576) :
    Calls Tryz.prog 39 #[.slice al L.length cl] w fun e w' => e = .returned (.bool (validB L)) ∧ w' = w := by
  have ci := fun (x : Int) w => l1In_any x (-200) 200 w
  have cj := fun w => l1In_any (L.length : Int) 1 20 w
  go_enter Tryz.func39, Tryz.ntmps39
  go_wp2_with fail
  go_loop [3] (fun i => ∃ k : Nat, k ≤ L.length ∧ i = .int .i64 (k : Int) ∧ (L.take k).all (fun x => inB x (-200) 200) = true) (fun i => L.length - (intOf i).toNat)
  case atStart => exact ⟨0, Nat.zero_le _, rfl, by simp⟩
  case round =>
    obtain ⟨k, hk, rfl, hall⟩ := hrel
    have HA := Lib.hid hall
    clear hall
    by_cases hlt : k < L.length
    · obtain ⟨b, off, rfl, hbs, hc⟩ := hrl.open (by intro h; rw [List.map_eq_nil_iff] at h; subst h; simp at hlt)
      have hcell : w.cell? ⟨b, off + k, none⟩ = some (.int .i64 L[k]) := hc k _ (by simp [hlt])
      have hlti : (k : Int) < (L.length : Int) := by omega
      have hm := List.getElem_mem hlt
      have HT : Hid (L.take (k + 1) = L.take k ++ [L[k]]) := Lib.hid (by rw [List.take_add_one, List.getElem?_eq_getElem hlt]; rfl)
      have cx := fun w => ci L[k] w
      clear hc hrl ci
      cases hx : inB L[k] (-200) 200
      · have HR : Hid (validB L = false) := Lib.hid (by unfold validB; rw [show L.all (fun x => inB x (-200) 200) = false from List.all_eq_false.2 ⟨L[k], hm, by rw [hx]; exact Bool.false_ne_true⟩]; rfl)
        rw [hx] at cx
        clear hx hm HT
        generalize L[k] = x at *
        go_wp2_with fail
        refine (cx _).mono ?_
        rintro e w2 ⟨rfl, hww⟩
        subst hww
        go_wp2_with fail
        go_ret
        exact ⟨by rw [HR.out]; rfl, rfl⟩
      · have HS : Hid ((L.take (k + 1)).all (fun x => inB x (-200) 200) = true) := Lib.hid (by rw [HT.out, List.all_append, HA.out]; simp [hx])
        rw [hx] at cx
        clear hx hm HT
        generalize L[k] = x at *
        go_wp2_with fail
        refine (cx _).mono ?_
        rintro e w2 ⟨rfl, hww⟩
        subst hww
        clear cx
        go_wp2_with fail
        go_round
        case rel => exact ⟨k + 1, by omega, by go_num, HS.out⟩
        case measure => simp [intOf]; omega
    · obtain rfl : k = L.length := by omega
      have hlti : ¬ ((L.length : Nat) : Int) < (L.length : Int) := by omega
      have HR : Hid (validB L = inB (L.length : Int) 1 20) := Lib.hid (by have := HA.out; rw [List.take_length] at this; unfold validB; rw [this, Bool.true_and])
      clear hrl ci
      generalize inB (L.length : Int) 1 20 = q at *
      go_wp2_with fail
      refine (cj _).mono ?_
      rintro e w2 ⟨rfl, hww⟩
      subst hww
      go_wp2_with fail
      go_ret
      exact ⟨by rw [HR.out]; rfl, rfl⟩
set_option maxRecDepth 100000 in
set_option maxHeartbeats 1600000 in
theorem spec_l16In (G L : List Int) (x : Int) (a : Option Addr) (cap : Nat) (al : Option Addr) (cl : Nat) (w : World) (hr : SlV w a (G.map (Value.int .i64))) (hrl : SlV w al (L.map (Value.int .i64))) (hs : isSgB G = true) (hbl : L.length ≤ 1048576) (hL : ∀ y ∈ L, -2000000 ≤ y ∧ y ≤ 2000000) (hx0 : -2000000 ≤ x) (hx1 : x ≤ 2000000) :
    Calls Tryz.prog 41 #[.agg #[.slice a G.length cap], .slice al L.length cl, .int .i64 x] w fun e w' => e = .returned (.bool (L.any fun y => hasN G (x - y))) ∧ Below w.heap.size w w' := by
  have HSG := Lib.hid hs
  have HL := Lib.hid hL
  obtain ⟨V, hV⟩ : ∃ V, V = w.alloc (.cells #[.slice a G.length cap] 26) := ⟨_, rfl⟩
  have hbV : Below w.heap.size w V := by rw [hV]; exact box_below _ _
  have hc0 : V.cell? ⟨w.heap.size, 0, none⟩ = some (.slice a G.length cap) := by rw [hV]; exact box_cell w _
  have hVs : w.heap.size < V.heap.size := by rw [hV]; simp
  have HV := Lib.hid hV
  clear hV
  have HRS := Lib.hid (fun w2 (h : Below V.heap.size V w2) => hr.below (hbV.trans (h.mono hbV.size)))
  have HRL := Lib.hid (fun w2 (h : Below V.heap.size V w2) => hrl.below (hbV.trans (h.mono hbV.size)))
  clear hr
  go_enter Tryz.func41, Tryz.ntmps41
  go_wp2_with fail
  rw [← HV.out]
  go_loopw [7] (fun i wr => ∃ k : Nat, k ≤ L.length ∧ i = .int .i64 (k : Int) ∧ (L.take k).any (fun y => hasN G (x - y)) = false ∧ Below V.heap.size V wr) (fun i _ => L.length - (intOf i).toNat)
  case atStart => exact ⟨0, Nat.zero_le _, rfl, by simp, Below.refl _ _⟩
  case round =>
    obtain ⟨k, hk, rfl, hany, hbel⟩ := hrel
    have HA := Lib.hid hany
    clear hany
    by_cases hlt : k < L.length
    · obtain ⟨b, off, rfl, hbs, hc⟩ := hrl.open (by intro h; rw [List.map_eq_nil_iff] at h; subst h; simp at hlt)
      have hlti : (k : Int) < (L.length : Int) := by omega
      have hk0 : (0 : Int) ≤ (k : Int) := by omega
      have hm := List.getElem_mem hlt
      have hy := HL.out L[k] hm
      have HK : Hid (∀ w2, Below V.heap.size V w2 → w2.cell? ⟨w.heap.size, 0, none⟩ = some (.slice a G.length cap) ∧ w2.cell? ⟨b, off + k, none⟩ = some (.int .i64 L[k]) ∧ Below V.heap.size V w2) := Lib.hid fun w2 h => ⟨(h.cell (p := ⟨w.heap.size, 0, none⟩) hVs).trans hc0, ((hbV.trans (h.mono hbV.size)).cell (p := ⟨b, off + k, none⟩) hbs).trans (hc k _ (by simp [hlt])), h⟩
      have HT : Hid (L.take (k + 1) = L.take k ++ [L[k]]) := Lib.hid (by rw [List.take_add_one, List.getElem?_eq_getElem hlt]; rfl)
      have ch := fun w' (h : Below V.heap.size V w') => spec_l15Has G (x - L[k]) a cap w' (HRS.out w' h) HSG.out
      have hS0 := HK.out _ hbel.drew
      clear hc
      cases hx : hasN G (x - L[k])
      · have HN : Hid ((L.take (k + 1)).any (fun y => hasN G (x - y)) = false) := Lib.hid (by rw [HT.out, List.any_append, HA.out]; simp [hx])
        rw [hx] at ch
        clear hx hm HT
        generalize L[k] = y at *
        have hw1 : IntKind.i64.wrap (x - y) = x - y := IntWalk.i64_in _ (by omega)
        go_wp2_with fail
        refine wp_region_held_drew (S := fun w' => w'.cell? ⟨w.heap.size, 0, none⟩ = some (.slice a G.length cap) ∧ w'.cell? ⟨b, off + k, none⟩ = some (.int .i64 y) ∧ Below V.heap.size V w') (by kernel_rfl) hS0 (fun hHeld => ?_)
        refine held_take 0 _ _ rfl (by kernel_rfl) (by kernel_rfl) (by kernel_rfl) (fun _ _ _ h => h) (by rfl) hHeld (fun w hSw => by (try dsimp only at hSw); go_simp; try with_reducible rfl) ?_
        (try simp only [Act.put, List.setIfInBounds_toArray, List.set_cons_zero, List.set_cons_succ, List.getElem_toArray, List.getElem_cons_zero])
        refine held_take 1 _ _ rfl (by kernel_rfl) (by kernel_rfl) (by kernel_rfl) (fun _ _ _ h => h) (by rfl) hHeld (fun w hSw => by (try dsimp only at hSw); go_simp; try with_reducible rfl) ?_
        (try simp only [Act.put, List.setIfInBounds_toArray, List.set_cons_zero, List.set_cons_succ, List.getElem_toArray, List.getElem_cons_succ, List.getElem_cons_zero])
        refine held_take 2 _ _ rfl (by kernel_rfl) (by kernel_rfl) (by kernel_rfl) (fun _ _ _ h => h) (by rfl) hHeld (fun w hSw => by (try dsimp only at hSw); go_simp; try with_reducible rfl) ?_
        (try simp only [Act.put, List.setIfInBounds_toArray, List.set_cons_zero, List.set_cons_succ, List.getElem_toArray, List.getElem_cons_succ, List.getElem_cons_zero])
        refine held_take 3 _ _ rfl (by kernel_rfl) (by kernel_rfl) (by kernel_rfl) (fun _ _ _ h => h) (by rfl) hHeld (fun w hSw => by (try dsimp only at hSw); go_simp; try with_reducible rfl) ?_
        (try simp only [Act.put, List.setIfInBounds_toArray, List.set_cons_zero, List.set_cons_succ, List.getElem_toArray, List.getElem_cons_succ, List.getElem_cons_zero])
        refine held_take 4 _ _ rfl (by kernel_rfl) (by kernel_rfl) (by kernel_rfl) (fun _ _ _ h => h) (by rfl) hHeld (fun w hSw => by (try dsimp only at hSw); go_simp; try with_reducible rfl) ?_
        (try simp only [Act.put, List.setIfInBounds_toArray, List.set_cons_zero, List.set_cons_succ, List.getElem_toArray, List.getElem_cons_succ, List.getElem_cons_zero])
        refine held_take 5 _ _ rfl (by kernel_rfl) (by kernel_rfl) (by kernel_rfl) (fun _ _ _ h => h) (by rfl) hHeld (fun w hSw => by (try dsimp only at hSw); go_simp; try with_reducible rfl) ?_
        (try simp only [Act.put, List.setIfInBounds_toArray, List.set_cons_zero, List.set_cons_succ, List.getElem_toArray, List.getElem_cons_succ, List.getElem_cons_zero])
        refine held_take 6 _ _ rfl (by kernel_rfl) (by kernel_rfl) (by kernel_rfl) (fun _ _ _ h => h) (by rfl) hHeld (fun w hSw => by (try dsimp only at hSw); go_simp; try with_reducible rfl) ?_
        (try simp only [Act.put, List.setIfInBounds_toArray, List.set_cons_zero, List.set_cons_succ, List.getElem_toArray, List.getElem_cons_succ, List.getElem_cons_zero])
        refine wpAnyH_ready (rs := [7]) (by kernel_rfl) (by simp) ?_
        refine AllReadyH.cons rfl (fun K hK => ?_) AllReadyH.nil
        rw [if_pos (by rfl)]
        go_wp2_with (first | (go_at_call 79; (with_reducible refine (ch _ hHeld.2.2).mono ?_); rintro e wA ⟨rfl, hbA⟩))
        refine hK.out _ _ (HK.out _ ((hHeld).2.2.trans (hbA.mono (hHeld).2.2.size))) (fun hHeld1 => ?_)
        clear hK K
        (try simp only [Act.put, List.setIfInBounds_toArray, List.set_cons_zero, List.set_cons_succ, List.getElem_toArray, List.getElem_cons_succ, List.getElem_cons_zero])
        refine wpAnyH_done (by kernel_rfl) ?_ _
        have hbF := (hHeld1).2.2
        clear ch hS0 hbA hw1
        go_wp2_with fail
        go_roundw
        case rel => exact ⟨k + 1, by omega, by go_num, HN.out, hbF⟩
        case measure => simp [intOf]; omega
      · have HE : Hid (L.any (fun y => hasN G (x - y)) = true) := Lib.hid (List.any_eq_true.2 ⟨L[k], hm, hx⟩)
        rw [hx] at ch
        clear hx hm HT
        generalize L[k] = y at *
        have hw1 : IntKind.i64.wrap (x - y) = x - y := IntWalk.i64_in _ (by omega)
        go_wp2_with fail
        refine wp_region_held_drew (S := fun w' => w'.cell? ⟨w.heap.size, 0, none⟩ = some (.slice a G.length cap) ∧ w'.cell? ⟨b, off + k, none⟩ = some (.int .i64 y) ∧ Below V.heap.size V w') (by kernel_rfl) hS0 (fun hHeld => ?_)
        refine held_take 0 _ _ rfl (by kernel_rfl) (by kernel_rfl) (by kernel_rfl) (fun _ _ _ h => h) (by rfl) hHeld (fun w hSw => by (try dsimp only at hSw); go_simp; try with_reducible rfl) ?_
        (try simp only [Act.put, List.setIfInBounds_toArray, List.set_cons_zero, List.set_cons_succ, List.getElem_toArray, List.getElem_cons_zero])
        refine held_take 1 _ _ rfl (by kernel_rfl) (by kernel_rfl) (by kernel_rfl) (fun _ _ _ h => h) (by rfl) hHeld (fun w hSw => by (try dsimp only at hSw); go_simp; try with_reducible rfl) ?_
        (try simp only [Act.put, List.setIfInBounds_toArray, List.set_cons_zero, List.set_cons_succ, List.getElem_toArray, List.getElem_cons_succ, List.getElem_cons_zero])
        refine held_take 2 _ _ rfl (by kernel_rfl) (by kernel_rfl) (by kernel_rfl) (fun _ _ _ h => h) (by rfl) hHeld (fun w hSw => by (try dsimp only at hSw); go_simp; try with_reducible rfl) ?_
        (try simp only [Act.put, List.setIfInBounds_toArray, List.set_cons_zero, List.set_cons_succ, List.getElem_toArray, List.getElem_cons_succ, List.getElem_cons_zero])
        refine held_take 3 _ _ rfl (by kernel_rfl) (by kernel_rfl) (by kernel_rfl) (fun _ _ _ h => h) (by rfl) hHeld (fun w hSw => by (try dsimp only at hSw); go_simp; try with_reducible rfl) ?_
        (try simp only [Act.put, List.setIfInBounds_toArray, List.set_cons_zero, List.set_cons_succ, List.getElem_toArray, List.getElem_cons_succ, List.getElem_cons_zero])
        refine held_take 4 _ _ rfl (by kernel_rfl) (by kernel_rfl) (by kernel_rfl) (fun _ _ _ h => h) (by rfl) hHeld (fun w hSw => by (try dsimp only at hSw); go_simp; try with_reducible rfl) ?_
        (try simp only [Act.put, List.setIfInBounds_toArray, List.set_cons_zero, List.set_cons_succ, List.getElem_toArray, List.getElem_cons_succ, List.getElem_cons_zero])
        refine held_take 5 _ _ rfl (by kernel_rfl) (by kernel_rfl) (by kernel_rfl) (fun _ _ _ h => h) (by rfl) hHeld (fun w hSw => by (try dsimp only at hSw); go_simp; try with_reducible rfl) ?_
        (try simp only [Act.put, List.setIfInBounds_toArray, List.set_cons_zero, List.set_cons_succ, List.getElem_toArray, List.getElem_cons_succ, List.getElem_cons_zero])
        refine held_take 6 _ _ rfl (by kernel_rfl) (by kernel_rfl) (by kernel_rfl) (fun _ _ _ h => h) (by rfl) hHeld (fun w hSw => by (try dsimp only at hSw); go_simp; try with_reducible rfl) ?_
        (try simp only [Act.put, List.setIfInBounds_toArray, List.set_cons_zero, List.set_cons_succ, List.getElem_toArray, List.getElem_cons_succ, List.getElem_cons_zero])
        refine wpAnyH_ready (rs := [7]) (by kernel_rfl) (by simp) ?_
        refine AllReadyH.cons rfl (fun K hK => ?_) AllReadyH.nil
        rw [if_pos (by rfl)]
        go_wp2_with (first | (go_at_call 79; (with_reducible refine (ch _ hHeld.2.2).mono ?_); rintro e wA ⟨rfl, hbA⟩))
        refine hK.out _ _ (HK.out _ ((hHeld).2.2.trans (hbA.mono (hHeld).2.2.size))) (fun hHeld1 => ?_)
        clear hK K
        (try simp only [Act.put, List.setIfInBounds_toArray, List.set_cons_zero, List.set_cons_succ, List.getElem_toArray, List.getElem_cons_succ, List.getElem_cons_zero])
        refine wpAnyH_done (by kernel_rfl) ?_ _
        have hbF := hbV.trans ((hHeld1).2.2.mono hbV.size)
        clear ch hS0 hbA hw1
        go_wp2_with fail
        go_ret
        exact ⟨by rw [HE.out]; rfl, hbF⟩
    · obtain rfl : k = L.length := by omega
      have hlti : ¬ ((L.length : Nat) : Int) < (L.length : Int) := by omega
      have HE : Hid (L.any (fun y => hasN G (x - y)) = false) := Lib.hid (by have := HA.out; rw [List.take_length] at this; exact this)
      have hbF := hbV.trans (hbel.mono hbV.size)
      clear hrl hbel hc0
      go_wp2_with fail
      go_ret
      exact ⟨by rw [HE.out]; rfl, hbF⟩
set_option maxRecDepth 100000 in
set_option maxHeartbeats 1600000 in
theorem spec_l16Dual (G L : List Int) (x : Int) (a : Option Addr) (cap : Nat) (al : Option Addr) (cl : Nat) (w : World) (hr : SlV w a (G.map (Value.int .i64))) (hrl : SlV w al (L.map (Value.int .i64))) (hs : isSgB G = true) (hbl : L.length ≤ 1048576) (hL : ∀ y ∈ L, -2000000 ≤ y ∧ y ≤ 2000000) (hx0 : -2000000 ≤ x) (hx1 : x ≤ 2000000) :
    Calls Tryz.prog 47 #[.agg #[.slice a G.length cap], .slice al L.length cl, .int .i64 x] w fun e w' => e = .returned (.bool (L.all fun y => hasN G (x + y))) ∧ Below w.heap.size w w' := by
  have HSG := Lib.hid hs
  have HL := Lib.hid hL
  obtain ⟨V, hV⟩ : ∃ V, V = w.alloc (.cells #[.slice a G.length cap] 26) := ⟨_, rfl⟩
  have hbV : Below w.heap.size w V := by rw [hV]; exact box_below _ _
  have hc0 : V.cell? ⟨w.heap.size, 0, none⟩ = some (.slice a G.length cap) := by rw [hV]; exact box_cell w _
  have hVs : w.heap.size < V.heap.size := by rw [hV]; simp
  have HV := Lib.hid hV
  clear hV
  have HRS := Lib.hid (fun w2 (h : Below V.heap.size V w2) => hr.below (hbV.trans (h.mono hbV.size)))
  have HRL := Lib.hid (fun w2 (h : Below V.heap.size V w2) => hrl.below (hbV.trans (h.mono hbV.size)))
  clear hr
  go_enter Tryz.func47, Tryz.ntmps47
  go_wp2_with fail
  rw [← HV.out]
  go_loopw [7] (fun i wr => ∃ k : Nat, k ≤ L.length ∧ i = .int .i64 (k : Int) ∧ (L.take k).all (fun y => hasN G (x + y)) = true ∧ Below V.heap.size V wr) (fun i _ => L.length - (intOf i).toNat)
  case atStart => exact ⟨0, Nat.zero_le _, rfl, by simp, Below.refl _ _⟩
  case round =>
    obtain ⟨k, hk, rfl, hany, hbel⟩ := hrel
    have HA := Lib.hid hany
    clear hany
    by_cases hlt : k < L.length
    · obtain ⟨b, off, rfl, hbs, hc⟩ := hrl.open (by intro h; rw [List.map_eq_nil_iff] at h; subst h; simp at hlt)
      have hlti : (k : Int) < (L.length : Int) := by omega
      have hk0 : (0 : Int) ≤ (k : Int) := by omega
      have hm := List.getElem_mem hlt
      have hy := HL.out L[k] hm
      have HK : Hid (∀ w2, Below V.heap.size V w2 → w2.cell? ⟨w.heap.size, 0, none⟩ = some (.slice a G.length cap) ∧ w2.cell? ⟨b, off + k, none⟩ = some (.int .i64 L[k]) ∧ Below V.heap.size V w2) := Lib.hid fun w2 h => ⟨(h.cell (p := ⟨w.heap.size, 0, none⟩) hVs).trans hc0, ((hbV.trans (h.mono hbV.size)).cell (p := ⟨b, off + k, none⟩) hbs).trans (hc k _ (by simp [hlt])), h⟩
      have HT : Hid (L.take (k + 1) = L.take k ++ [L[k]]) := Lib.hid (by rw [List.take_add_one, List.getElem?_eq_getElem hlt]; rfl)
      have ch := fun w' (h : Below V.heap.size V w') => spec_l15Has G (x + L[k]) a cap w' (HRS.out w' h) HSG.out
      have hS0 := HK.out _ hbel.drew
      clear hc
      cases hx : hasN G (x + L[k])
      · have HE : Hid (L.all (fun y => hasN G (x + y)) = false) := Lib.hid (List.all_eq_false.2 ⟨L[k], hm, by rw [hx]; exact Bool.false_ne_true⟩)
        rw [hx] at ch
        clear hx hm HT
        generalize L[k] = y at *
        have hw1 : IntKind.i64.wrap (x + y) = x + y := IntWalk.i64_in _ (by omega)
        go_wp2_with fail
        refine wp_region_held_drew (S := fun w' => w'.cell? ⟨w.heap.size, 0, none⟩ = some (.slice a G.length cap) ∧ w'.cell? ⟨b, off + k, none⟩ = some (.int .i64 y) ∧ Below V.heap.size V w') (by kernel_rfl) hS0 (fun hHeld => ?_)
        refine held_take 0 _ _ rfl (by kernel_rfl) (by kernel_rfl) (by kernel_rfl) (fun _ _ _ h => h) (by rfl) hHeld (fun w hSw => by (try dsimp only at hSw); go_simp; try with_reducible rfl) ?_
        (try simp only [Act.put, List.setIfInBounds_toArray, List.set_cons_zero, List.set_cons_succ, List.getElem_toArray, List.getElem_cons_zero])
        refine held_take 1 _ _ rfl (by kernel_rfl) (by kernel_rfl) (by kernel_rfl) (fun _ _ _ h => h) (by rfl) hHeld (fun w hSw => by (try dsimp only at hSw); go_simp; try with_reducible rfl) ?_
        (try simp only [Act.put, List.setIfInBounds_toArray, List.set_cons_zero, List.set_cons_succ, List.getElem_toArray, List.getElem_cons_succ, List.getElem_cons_zero])
        refine held_take 2 _ _ rfl (by kernel_rfl) (by kernel_rfl) (by kernel_rfl) (fun _ _ _ h => h) (by rfl) hHeld (fun w hSw => by (try dsimp only at hSw); go_simp; try with_reducible rfl) ?_
        (try simp only [Act.put, List.setIfInBounds_toArray, List.set_cons_zero, List.set_cons_succ, List.getElem_toArray, List.getElem_cons_succ, List.getElem_cons_zero])
        refine held_take 3 _ _ rfl (by kernel_rfl) (by kernel_rfl) (by kernel_rfl) (fun _ _ _ h => h) (by rfl) hHeld (fun w hSw => by (try dsimp only at hSw); go_simp; try with_reducible rfl) ?_
        (try simp only [Act.put, List.setIfInBounds_toArray, List.set_cons_zero, List.set_cons_succ, List.getElem_toArray, List.getElem_cons_succ, List.getElem_cons_zero])
        refine held_take 4 _ _ rfl (by kernel_rfl) (by kernel_rfl) (by kernel_rfl) (fun _ _ _ h => h) (by rfl) hHeld (fun w hSw => by (try dsimp only at hSw); go_simp; try with_reducible rfl) ?_
        (try simp only [Act.put, List.setIfInBounds_toArray, List.set_cons_zero, List.set_cons_succ, List.getElem_toArray, List.getElem_cons_succ, List.getElem_cons_zero])
        refine held_take 5 _ _ rfl (by kernel_rfl) (by kernel_rfl) (by kernel_rfl) (fun _ _ _ h => h) (by rfl) hHeld (fun w hSw => by (try dsimp only at hSw); go_simp; try with_reducible rfl) ?_
        (try simp only [Act.put, List.setIfInBounds_toArray, List.set_cons_zero, List.set_cons_succ, List.getElem_toArray, List.getElem_cons_succ, List.getElem_cons_zero])
        refine held_take 6 _ _ rfl (by kernel_rfl) (by kernel_rfl) (by kernel_rfl) (fun _ _ _ h => h) (by rfl) hHeld (fun w hSw => by (try dsimp only at hSw); go_simp; try with_reducible rfl) ?_
        (try simp only [Act.put, List.setIfInBounds_toArray, List.set_cons_zero, List.set_cons_succ, List.getElem_toArray, List.getElem_cons_succ, List.getElem_cons_zero])
        refine wpAnyH_ready (rs := [7]) (by kernel_rfl) (by simp) ?_
        refine AllReadyH.cons rfl (fun K hK => ?_) AllReadyH.nil
        rw [if_pos (by rfl)]
        go_wp2_with (first | (go_at_call 79; (with_reducible refine (ch _ hHeld.2.2).mono ?_); rintro e wA ⟨rfl, hbA⟩))
        refine hK.out _ _ (HK.out _ ((hHeld).2.2.trans (hbA.mono (hHeld).2.2.size))) (fun hHeld1 => ?_)
        clear hK K
        (try simp only [Act.put, List.setIfInBounds_toArray, List.set_cons_zero, List.set_cons_succ, List.getElem_toArray, List.getElem_cons_succ, List.getElem_cons_zero])
        refine held_take 8 _ _ rfl (by kernel_rfl) (by kernel_rfl) (by kernel_rfl) (fun _ _ _ h => h) (by rfl) hHeld1 (fun w hSw => by (try dsimp only at hSw); go_simp; try with_reducible rfl) ?_
        (try simp only [Act.put, List.setIfInBounds_toArray, List.set_cons_zero, List.set_cons_succ, List.getElem_toArray, List.getElem_cons_succ, List.getElem_cons_zero])
        refine wpAnyH_done (by kernel_rfl) ?_ _
        have hbF := hbV.trans ((hHeld1).2.2.mono hbV.size)
        clear ch hS0 hbA hw1
        go_wp2_with fail
        go_ret
        exact ⟨by rw [HE.out]; rfl, hbF⟩
      · have HN : Hid ((L.take (k + 1)).all (fun y => hasN G (x + y)) = true) := Lib.hid (by rw [HT.out, List.all_append, HA.out]; simp [hx])
        rw [hx] at ch
        clear hx hm HT
        generalize L[k] = y at *
        have hw1 : IntKind.i64.wrap (x + y) = x + y := IntWalk.i64_in _ (by omega)
        go_wp2_with fail
        refine wp_region_held_drew (S := fun w' => w'.cell? ⟨w.heap.size, 0, none⟩ = some (.slice a G.length cap) ∧ w'.cell? ⟨b, off + k, none⟩ = some (.int .i64 y) ∧ Below V.heap.size V w') (by kernel_rfl) hS0 (fun hHeld => ?_)
        refine held_take 0 _ _ rfl (by kernel_rfl) (by kernel_rfl) (by kernel_rfl) (fun _ _ _ h => h) (by rfl) hHeld (fun w hSw => by (try dsimp only at hSw); go_simp; try with_reducible rfl) ?_
        (try simp only [Act.put, List.setIfInBounds_toArray, List.set_cons_zero, List.set_cons_succ, List.getElem_toArray, List.getElem_cons_zero])
        refine held_take 1 _ _ rfl (by kernel_rfl) (by kernel_rfl) (by kernel_rfl) (fun _ _ _ h => h) (by rfl) hHeld (fun w hSw => by (try dsimp only at hSw); go_simp; try with_reducible rfl) ?_
        (try simp only [Act.put, List.setIfInBounds_toArray, List.set_cons_zero, List.set_cons_succ, List.getElem_toArray, List.getElem_cons_succ, List.getElem_cons_zero])
        refine held_take 2 _ _ rfl (by kernel_rfl) (by kernel_rfl) (by kernel_rfl) (fun _ _ _ h => h) (by rfl) hHeld (fun w hSw => by (try dsimp only at hSw); go_simp; try with_reducible rfl) ?_
        (try simp only [Act.put, List.setIfInBounds_toArray, List.set_cons_zero, List.set_cons_succ, List.getElem_toArray, List.getElem_cons_succ, List.getElem_cons_zero])
        refine held_take 3 _ _ rfl (by kernel_rfl) (by kernel_rfl) (by kernel_rfl) (fun _ _ _ h => h) (by rfl) hHeld (fun w hSw => by (try dsimp only at hSw); go_simp; try with_reducible rfl) ?_
        (try simp only [Act.put, List.setIfInBounds_toArray, List.set_cons_zero, List.set_cons_succ, List.getElem_toArray, List.getElem_cons_succ, List.getElem_cons_zero])
        refine held_take 4 _ _ rfl (by kernel_rfl) (by kernel_rfl) (by kernel_rfl) (fun _ _ _ h => h) (by rfl) hHeld (fun w hSw => by (try dsimp only at hSw); go_simp; try with_reducible rfl) ?_
        (try simp only [Act.put, List.setIfInBounds_toArray, List.set_cons_zero, List.set_cons_succ, List.getElem_toArray, List.getElem_cons_succ, List.getElem_cons_zero])
        refine held_take 5 _ _ rfl (by kernel_rfl) (by kernel_rfl) (by kernel_rfl) (fun _ _ _ h => h) (by rfl) hHeld (fun w hSw => by (try dsimp only at hSw); go_simp; try with_reducible rfl) ?_
        (try simp only [Act.put, List.setIfInBounds_toArray, List.set_cons_zero, List.set_cons_succ, List.getElem_toArray, List.getElem_cons_succ, List.getElem_cons_zero])
        refine held_take 6 _ _ rfl (by kernel_rfl) (by kernel_rfl) (by kernel_rfl) (fun _ _ _ h => h) (by rfl) hHeld (fun w hSw => by (try dsimp only at hSw); go_simp; try with_reducible rfl) ?_
        (try simp only [Act.put, List.setIfInBounds_toArray, List.set_cons_zero, List.set_cons_succ, List.getElem_toArray, List.getElem_cons_succ, List.getElem_cons_zero])
        refine wpAnyH_ready (rs := [7]) (by kernel_rfl) (by simp) ?_
        refine AllReadyH.cons rfl (fun K hK => ?_) AllReadyH.nil
        rw [if_pos (by rfl)]
        go_wp2_with (first | (go_at_call 79; (with_reducible refine (ch _ hHeld.2.2).mono ?_); rintro e wA ⟨rfl, hbA⟩))
        refine hK.out _ _ (HK.out _ ((hHeld).2.2.trans (hbA.mono (hHeld).2.2.size))) (fun hHeld1 => ?_)
        clear hK K
        (try simp only [Act.put, List.setIfInBounds_toArray, List.set_cons_zero, List.set_cons_succ, List.getElem_toArray, List.getElem_cons_succ, List.getElem_cons_zero])
        refine held_take 8 _ _ rfl (by kernel_rfl) (by kernel_rfl) (by kernel_rfl) (fun _ _ _ h => h) (by rfl) hHeld1 (fun w hSw => by (try dsimp only at hSw); go_simp; try with_reducible rfl) ?_
        (try simp only [Act.put, List.setIfInBounds_toArray, List.set_cons_zero, List.set_cons_succ, List.getElem_toArray, List.getElem_cons_succ, List.getElem_cons_zero])
        refine wpAnyH_done (by kernel_rfl) ?_ _
        have hbF := (hHeld1).2.2
        clear ch hS0 hbA hw1
        go_wp2_with fail
        go_roundw
        case rel => exact ⟨k + 1, by omega, by go_num, HN.out, hbF⟩
        case measure => simp [intOf]; omega
    · obtain rfl : k = L.length := by omega
      have hlti : ¬ ((L.length : Nat) : Int) < (L.length : Int) := by omega
      have HE : Hid (L.all (fun y => hasN G (x + y)) = true) := Lib.hid (by have := HA.out; rw [List.take_length] at this; exact this)
      have hbF := hbV.trans (hbel.mono hbV.size)
      clear hrl hbel hc0
      go_wp2_with fail
      go_ret
      exact ⟨by rw [HE.out]; rfl, hbF⟩
set_option maxRecDepth 100000 in
set_option maxHeartbeats 1600000 in
theorem spec_InIdeal (G L : List Int) (x : Int) (a : Option Addr) (cap : Nat) (al : Option Addr) (cl : Nat) (w : World) (hr : SlV w a (G.map (Value.int .i64))) (hrl : SlV w al (L.map (Value.int .i64))) (hb : G.length ≤ 1048576) (hbl : L.length ≤ 1048576) :
    Calls Tryz.prog 13 #[.agg #[.slice a G.length cap], .slice al L.length cl, .int .i64 x] w fun e w' => e = .returned (.bool (inIdB G L x)) ∧ Below w.heap.size w w' := by
  obtain ⟨V, hV⟩ : ∃ V, V = w.alloc (.cells #[.slice a G.length cap] 26) := ⟨_, rfl⟩
  have hbV : Below w.heap.size w V := by rw [hV]; exact box_below _ _
  have hc0 : V.cell? ⟨w.heap.size, 0, none⟩ = some (.slice a G.length cap) := by rw [hV]; exact box_cell w _
  have hVs : w.heap.size < V.heap.size := by rw [hV]; simp
  have HV := Lib.hid hV
  clear hV
  have c1 := spec_IsSemigroup G a cap V (hr.below hbV) hb
  cases hs : isSgB G
  · have HE : Hid (inIdB G L x = false) := Lib.hid (by unfold inIdB; rw [hs]; rfl)
    rw [hs] at c1
    clear hs hr hrl hc0
    go_enter Tryz.func13, Tryz.ntmps13
    go_wp2_with fail
    rw [← HV.out]
    refine c1.mono ?_
    rintro e w1 ⟨rfl, hb1⟩
    have hb01 := hbV.trans (hb1.mono hbV.size)
    go_wp2_with fail
    go_ret
    exact ⟨by rw [HE.out]; rfl, hb01⟩
  · rw [hs] at c1
    have cv := fun w' (h : Below V.heap.size V w') => spec_l16Valid L al cl w' (hrl.below (hbV.trans (h.mono hbV.size))) hbl
    cases hv : validB L
    · have HE : Hid (inIdB G L x = false) := Lib.hid (by unfold inIdB; rw [hs, hv]; rfl)
      rw [hv] at cv
      clear hs hv hr hrl
      go_enter Tryz.func13, Tryz.ntmps13
      go_wp2_with fail
      rw [← HV.out]
      refine c1.mono ?_
      rintro e w1 ⟨rfl, hb1⟩
      have hb01 := hbV.trans (hb1.mono hbV.size)
      have cv1 := cv w1 hb1
      clear c1 cv hc0
      go_wp2_with fail
      refine cv1.mono ?_
      rintro e w2 ⟨rfl, hww⟩
      subst hww
      go_wp2_with fail
      go_ret
      exact ⟨by rw [HE.out]; rfl, hb01⟩
    · rw [hv] at cv
      cases hq : small x
      · have HE : Hid (inIdB G L x = false) := Lib.hid (by unfold inIdB; rw [hs, hv, hq]; rfl)
        have c2 := fun w => l2Small_any x w
        rw [hq] at c2
        clear hs hv hq hr hrl
        go_enter Tryz.func13, Tryz.ntmps13
        go_wp2_with fail
        rw [← HV.out]
        refine c1.mono ?_
        rintro e w1 ⟨rfl, hb1⟩
        have hb01 := hbV.trans (hb1.mono hbV.size)
        have cv1 := cv w1 hb1
        clear c1 cv hc0
        go_wp2_with fail
        refine cv1.mono ?_
        rintro e w2 ⟨rfl, hww⟩
        subst hww
        clear cv1
        go_wp2_with fail
        refine (c2 _).mono ?_
        rintro e w3 ⟨rfl, hww⟩
        subst hww
        go_wp2_with fail
        go_ret
        exact ⟨by rw [HE.out]; rfl, hb01⟩
      · have HE : Hid (inIdB G L x = L.any fun y => hasN G (x - y)) := Lib.hid (by unfold inIdB; rw [hs, hv, hq]; rfl)
        have c2 := fun w => l2Small_any x w
        have hxb := small_iff.1 hq
        rw [hq] at c2
        have HVB := Lib.hid (validB_iff.1 hv).1
        have c3 := fun w' (h : Below V.heap.size V w') => spec_l16In G L x a cap al cl w' (hr.below (hbV.trans (h.mono hbV.size))) (hrl.below (hbV.trans (h.mono hbV.size))) hs hbl (fun y hy => by have := HVB.out y hy; omega) (by omega) (by omega)
        clear hs hv hq hr hrl
        generalize (L.any fun y => hasN G (x - y)) = q at *
        go_enter Tryz.func13, Tryz.ntmps13
        go_wp2_with fail
        rw [← HV.out]
        refine c1.mono ?_
        rintro e w1 ⟨rfl, hb1⟩
        have hb01 := hbV.trans (hb1.mono hbV.size)
        have hk1 : w1.cell? ⟨w.heap.size, 0, none⟩ = some (.slice a G.length cap) := (hb1.cell (p := ⟨w.heap.size, 0, none⟩) hVs).trans hc0
        have cv1 := cv w1 hb1
        have c31 := c3 w1 hb1
        clear c1 cv hc0 c3
        go_wp2_with fail
        refine cv1.mono ?_
        rintro e w2 ⟨rfl, hww⟩
        subst hww
        clear cv1
        go_wp2_with fail
        refine (c2 _).mono ?_
        rintro e w3 ⟨rfl, hww⟩
        subst hww
        clear c2
        go_wp2_with fail
        refine c31.mono ?_
        rintro e w4 ⟨rfl, hb4⟩
        have hb04 := hb01.trans (hb4.mono hb01.size)
        clear c31 hk1
        go_wp2_with fail
        go_ret
        exact ⟨by rw [HE.out]; rfl, hb04⟩
set_option maxRecDepth 100000 in
set_option maxHeartbeats 1600000 in
theorem spec_IdealGens (G L : List Int) (a : Option Addr) (cap : Nat) (al : Option Addr) (cl : Nat) (w : World) (hr : SlV w a (G.map (Value.int .i64))) (hrl : SlV w al (L.map (Value.int .i64))) (hb : G.length ≤ 1048576) (hbl : L.length ≤ 1048576) :
    Calls Tryz.prog 15 #[.agg #[.slice a G.length cap], .slice al L.length cl] w (SlPost (idGensL G L) w) := by
  obtain ⟨V, hV⟩ : ∃ V, V = w.alloc (.cells #[.slice a G.length cap] 26) := ⟨_, rfl⟩
  have hbV : Below w.heap.size w V := by rw [hV]; exact box_below _ _
  have hc0 : V.cell? ⟨w.heap.size, 0, none⟩ = some (.slice a G.length cap) := by rw [hV]; exact box_cell w _
  have hVs : w.heap.size < V.heap.size := by rw [hV]; simp
  have HV := Lib.hid hV
  clear hV
  have cv := spec_l16Valid L al cl V (hrl.below hbV) hbl
  cases hv : validB L
  · have HE : Hid (idGensL G L = []) := Lib.hid (by unfold idGensL; rw [hv]; rfl)
    rw [hv] at cv
    clear hv hr hrl hc0
    go_enter Tryz.func15, Tryz.ntmps15
    go_wp2_with fail
    rw [← HV.out]
    refine cv.mono ?_
    rintro e w1 ⟨rfl, hww⟩
    subst hww
    go_wp2_with fail
    go_ret
    exact ⟨_, rfl, by rw [HE.out]; exact World.ownsRow_lit _ #[] 0 hbV.size (by simp) rfl, hbV.alloc hbV.size _⟩
  · rw [hv] at cv
    have HE : Hid (idGensL G L = topL G L true) := Lib.hid (by unfold idGensL; rw [hv]; rfl)
    have cm := spec_MinimalIn G L a cap al cl V (hr.below hbV) (hrl.below hbV) hb hbl
    clear hv hr hrl
    generalize topL G L true = M at *
    go_enter Tryz.func15, Tryz.ntmps15
    go_wp2_with fail
    rw [← HV.out]
    refine cv.mono ?_
    rintro e w1 ⟨rfl, hww⟩
    subst hww
    clear cv
    go_wp2_with fail
    refine cm.mono ?_
    rintro e w2 ⟨v, rfl, ho, hb2⟩
    have HO := Lib.hid (ownsBase ho hbV.size)
    have hb02 := hbV.trans (hb2.mono hbV.size)
    clear cm ho hc0
    go_wp2_with fail
    go_ret
    exact ⟨_, rfl, by rw [HE.out]; exact HO.out, hb02⟩
set_option maxRecDepth 100000 in
set_option maxHeartbeats 1600000 in
theorem spec_IdealSum (G A B : List Int) (a : Option Addr) (cap : Nat) (aa : Option Addr) (ca0 : Nat) (ab : Option Addr) (cb0 : Nat) (w : World) (hr : SlV w a (G.map (Value.int .i64))) (hra : SlV w aa (A.map (Value.int .i64))) (hrb : SlV w ab (B.map (Value.int .i64))) (hb : G.length ≤ 1048576) (hba : A.length ≤ 1048576) (hbb : B.length ≤ 1048576) :
    Calls Tryz.prog 17 #[.agg #[.slice a G.length cap], .slice aa A.length ca0, .slice ab B.length cb0] w (SlPost (idSumL G A B) w) := by
  obtain ⟨V, hV⟩ : ∃ V, V = w.alloc (.cells #[.slice a G.length cap] 26) := ⟨_, rfl⟩
  have hbV : Below w.heap.size w V := by rw [hV]; exact box_below _ _
  have hc0 : V.cell? ⟨w.heap.size, 0, none⟩ = some (.slice a G.length cap) := by rw [hV]; exact box_cell w _
  have hVs : w.heap.size < V.heap.size := by rw [hV]; simp
  have HV := Lib.hid hV
  clear hV
  have ca := spec_l16Valid A aa ca0 V (hra.below hbV) hba
  have cb := spec_l16Valid B ab cb0 V (hrb.below hbV) hbb
  cases hva : validB A
  · have HE : Hid (idSumL G A B = []) := Lib.hid (by unfold idSumL; rw [hva]; rfl)
    rw [hva] at ca
    clear hva hr hra hrb hc0 cb
    go_enter Tryz.func17, Tryz.ntmps17
    go_wp2_with fail
    rw [← HV.out]
    refine ca.mono ?_
    rintro e w1 ⟨rfl, hww⟩
    subst hww
    go_wp2_with fail
    go_ret
    exact ⟨_, rfl, by rw [HE.out]; exact World.ownsRow_lit _ #[] 0 hbV.size (by simp) rfl, hbV.alloc hbV.size _⟩
  · rw [hva] at ca
    cases hvb : validB B
    · have HE : Hid (idSumL G A B = []) := Lib.hid (by unfold idSumL; rw [hvb, Bool.and_false]; rfl)
      rw [hvb] at cb
      clear hva hvb hr hra hrb hc0
      go_enter Tryz.func17, Tryz.ntmps17
      go_wp2_with fail
      rw [← HV.out]
      refine ca.mono ?_
      rintro e w1 ⟨rfl, hww⟩
      subst hww
      clear ca
      go_wp2_with fail
      refine cb.mono ?_
      rintro e w2 ⟨rfl, hww⟩
      subst hww
      go_wp2_with fail
      go_ret
      exact ⟨_, rfl, by rw [HE.out]; exact World.ownsRow_lit _ #[] 0 hbV.size (by simp) rfl, hbV.alloc hbV.size _⟩
    · rw [hvb] at cb
      have HE : Hid (idSumL G A B = topL G (sums A B) true) := Lib.hid (by unfold idSumL; rw [hva, hvb]; rfl)
      have hsl := sums_len hva hvb
      have HK : Hid (∀ w2, Below V.heap.size V w2 → w2.cell? ⟨w.heap.size, 0, none⟩ = some (.slice a G.length cap) ∧ Below V.heap.size V w2) := Lib.hid fun w2 h => ⟨(h.cell (p := ⟨w.heap.size, 0, none⟩) hVs).trans hc0, h⟩
      have HRS := Lib.hid (fun w2 (h : Below V.heap.size V w2) => hr.below (hbV.trans (h.mono hbV.size)))
      have cs := fun w' (h : Below V.heap.size V w') => spec_SumsOf A B aa ab ca0 cb0 w' (hra.below (hbV.trans (h.mono hbV.size))) (hrb.below (hbV.trans (h.mono hbV.size))) hba hbb
      have hS0 := HK.out _ (Below.refl V.heap.size V).drew
      clear hva hvb hr hra hrb
      go_enter Tryz.func17, Tryz.ntmps17
      go_wp2_with fail
      rw [← HV.out]
      refine ca.mono ?_
      rintro e w1 ⟨rfl, hww⟩
      rw [hww]
      clear ca hww
      go_wp2_with fail
      refine cb.mono ?_
      rintro e w2 ⟨rfl, hww⟩
      rw [hww]
      clear cb hc0 hww
      go_wp2_with fail
      refine wp_region_held_drew (S := fun w' => w'.cell? ⟨w.heap.size, 0, none⟩ = some (.slice a G.length cap) ∧ Below V.heap.size V w') (by kernel_rfl) hS0 (fun hHeld => ?_)
      refine held_take 0 _ _ rfl (by kernel_rfl) (by kernel_rfl) (by kernel_rfl) (fun _ _ _ h => h) (by rfl) hHeld (fun w hSw => by (try dsimp only at hSw); go_simp; try with_reducible rfl) ?_
      (try simp only [Act.put, List.setIfInBounds_toArray, List.set_cons_zero, List.set_cons_succ, List.getElem_toArray, List.getElem_cons_zero])
      refine held_take 1 _ _ rfl (by kernel_rfl) (by kernel_rfl) (by kernel_rfl) (fun _ _ _ h => h) (by rfl) hHeld (fun w hSw => by (try dsimp only at hSw); go_simp; try with_reducible rfl) ?_
      (try simp only [Act.put, List.setIfInBounds_toArray, List.set_cons_zero, List.set_cons_succ, List.getElem_toArray, List.getElem_cons_succ, List.getElem_cons_zero])
      refine held_take 2 _ _ rfl (by kernel_rfl) (by kernel_rfl) (by kernel_rfl) (fun _ _ _ h => h) (by rfl) hHeld (fun w hSw => by (try dsimp only at hSw); go_simp; try with_reducible rfl) ?_
      (try simp only [Act.put, List.setIfInBounds_toArray, List.set_cons_zero, List.set_cons_succ, List.getElem_toArray, List.getElem_cons_succ, List.getElem_cons_zero])
      refine wpAnyH_ready (rs := [3]) (by kernel_rfl) (by simp) ?_
      refine AllReadyH.cons rfl (fun K hK => ?_) AllReadyH.nil
      rw [if_pos (by rfl)]
      go_wp2_with (first | (go_at_call 44; (with_reducible refine (cs _ hHeld.2).mono ?_); rintro e wA ⟨gA, cA, rfl, hoA, hbA⟩; have hsA : SlV wA (some ⟨gA, 0, none⟩) ((sums A B).map (Value.int .i64)) := (by obtain ⟨a', c', e', -, -, hs', -⟩ := SlV.of_owns hoA; cases e'; exact hs')))
      refine hK.out _ _ (HK.out _ ((hHeld).2.trans (hbA.mono (hHeld).2.size))) (fun hHeld1 => ?_)
      clear hK K
      (try simp only [Act.put, List.setIfInBounds_toArray, List.set_cons_zero, List.set_cons_succ, List.getElem_toArray, List.getElem_cons_succ, List.getElem_cons_zero])
      refine wpAnyH_ready (rs := [4]) (by kernel_rfl) (by simp) ?_
      refine AllReadyH.cons rfl (fun K hK => ?_) AllReadyH.nil
      rw [if_pos (by rfl)]
      go_wp2_with (first | (go_at_call 42; (with_reducible refine (spec_MinimalIn G (sums A B) a cap (some ⟨gA, 0, none⟩) cA wA (HRS.out wA hHeld1.2) hsA hb (by omega)).mono ?_); rintro e wB ⟨vB, rfl, hoB, hbB⟩))
      refine hK.out _ _ (HK.out _ ((hHeld1).2.trans (hbB.mono (hHeld1).2.size))) (fun hHeld2 => ?_)
      clear hK K
      (try simp only [Act.put, List.setIfInBounds_toArray, List.set_cons_zero, List.set_cons_succ, List.getElem_toArray, List.getElem_cons_succ, List.getElem_cons_zero])
      refine held_take 5 _ _ rfl (by kernel_rfl) (by kernel_rfl) (by kernel_rfl) (fun _ _ _ h => h) (by rfl) hHeld2 (fun w hSw => by (try dsimp only at hSw); go_simp; try with_reducible rfl) ?_
      (try simp only [Act.put, List.setIfInBounds_toArray, List.set_cons_zero, List.set_cons_succ, List.getElem_toArray, List.getElem_cons_succ, List.getElem_cons_zero])
      refine wpAnyH_done (by kernel_rfl) ?_ _
      have hbF := hbV.trans ((hHeld2).2.mono hbV.size)
      have HO := Lib.hid (ownsBase hoB (show w.heap.size ≤ wA.heap.size by have h1 := hbA.size; have h2 := hbV.size; have h3 : V.heap.size ≤ wA.heap.size := h1; omega))
      clear cs hS0 hbA hbB hoA hoB hsA
      go_wp2_with fail
      go_ret
      exact ⟨_, rfl, by rw [HE.out]; exact HO.out, hbF⟩
end Go.Proofs.YtopnehkhigacpaaGreat
