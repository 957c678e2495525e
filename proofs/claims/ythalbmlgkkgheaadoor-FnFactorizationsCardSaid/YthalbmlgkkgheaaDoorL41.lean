/-
  CONTRACTS of chapter 11: ValueOf, IsFactorization (spec). (Own work: mkVal.py.)
-/
import Derived.Test.YthalbmlgkkgheaaDoorCh3L
import Derived.Test.YthalbmlgkkgheaaDoorSgW
import Derived.Test.YthalbmlgkkgheaaDoorSgA
namespace Go.Proofs.YthalbmlgkkgheaaDoor
open Go Go.RowKit

private theorem dot_take_bnd {L G : List Int} (hl : L.length = G.length) (hG : ∀ g ∈ G, 1 ≤ g ∧ g ≤ 60) {k : Nat} (ha : (L.take k).all (fun x => inB x 0 1000000) = true) (hk : k ≤ L.length) : 0 ≤ dotL (L.take k) (G.take k) ∧ dotL (L.take k) (G.take k) ≤ 60000000 * (k : Int) := by
  have h := dot_bnd (L := L.take k) (G := G.take k) (by rw [List.length_take, List.length_take]; omega) (fun g hg => hG g (List.mem_of_mem_take hg)) (fun x hx => inB_true (List.all_eq_true.1 ha x hx)) k (by rw [List.length_take]; omega)
  rw [List.take_take, List.take_take, Nat.min_self] at h
  exact h
set_option maxRecDepth 100000 in
set_option maxHeartbeats 1600000 in
theorem spec_ValueOf (G L : List Int) (a : Option Addr) (cap : Nat) (al : Option Addr) (cl : Nat) (w : World) (hr : SlV w a (G.map (Value.int .i64))) (hrl : SlV w al (L.map (Value.int .i64))) (hb : G.length ≤ 1048576) (hbl : L.length ≤ 1048576) :
    Calls Tryd.prog 18 #[.agg #[.slice a G.length cap], .slice al L.length cl] w fun e w' => e = .returned (.int .i64 (valueN G L)) ∧ Below w.heap.size w w' := by
  obtain ⟨W, hW⟩ : ∃ W, W = w.alloc (.cells #[.slice a G.length cap] 26) := ⟨_, rfl⟩
  have hbW : Below w.heap.size w W := by rw [hW]; exact box_below _ _
  have hc0 : W.cell? ⟨w.heap.size, 0, none⟩ = some (.slice a G.length cap) := by rw [hW]; exact box_cell w _
  have hWs : w.heap.size < W.heap.size := by rw [hW]; simp
  have HW := Lib.hid hW
  clear hW
  have c1 := spec_IsSemigroup G a cap W (hr.below hbW) hb
  have ci := fun (x : Int) w => l1In_any x 0 1000000 w
  cases hs : isSgB G
  · have HR := Lib.hid (valueN_sg L hs)
    rw [hs] at c1
    clear hs hr hrl
    go_enter Tryd.func18, Tryd.ntmps18
    go_wp2_with fail
    rw [← HW.out]
    refine c1.mono ?_
    rintro e w1 ⟨rfl, hb1⟩
    have hb01 := hbW.trans (hb1.mono hbW.size)
    go_wp2_with fail
    go_ret
    exact ⟨by rw [HR.out]; rfl, hb01⟩
  · rw [hs] at c1
    have HS := Lib.hid (isSgB_iff.1 hs).bounds
    have HS20 := Lib.hid (isSgB_iff.1 hs).len
    have HSG := Lib.hid hs
    clear hs
    by_cases hl : L.length = G.length
    · have HLG := Lib.hid hl
      obtain ⟨n, hn⟩ : ∃ n, n = G.length := ⟨_, rfl⟩
      have hn20 : n ≤ 12 := by rw [hn]; exact HS20.out
      rw [← hn] at c1 hc0 hb HW
      rw [hl, ← hn] at hbl
      rw [hl, ← hn]
      have HN := Lib.hid hn
      clear hn hl
      go_enter Tryd.func18, Tryd.ntmps18
      go_wp2_with fail
      rw [← HW.out]
      refine c1.mono ?_
      rintro e w1 ⟨rfl, hb1⟩
      have hb01 := hbW.trans (hb1.mono hbW.size)
      have hk1 : w1.cell? ⟨w.heap.size, 0, none⟩ = some (.slice a n cap) := by rw [hb1.cell (p := ⟨w.heap.size, 0, none⟩) hWs]; exact hc0
      have hz1 : w.heap.size < w1.heap.size := Nat.lt_of_lt_of_le hWs hb1.size
      clear c1 hb1 hc0 hWs hbW
      go_wp2_with fail
      go_loopw [5, 6] (fun s i wr => ∃ k : Nat, k ≤ n ∧ i = .int .i64 (k : Int) ∧ s = .int .i64 (dotL (L.take k) (G.take k)) ∧ Hid ((L.take k).all (fun x => inB x 0 1000000) = true) ∧ w.heap.size < wr.heap.size ∧ wr.cell? ⟨w.heap.size, 0, none⟩ = some (.slice a n cap) ∧ Below w.heap.size w wr) (fun _ i _ => n - (intOf i).toNat)
      case atStart => exact ⟨0, Nat.zero_le _, rfl, rfl, Lib.hid rfl, hz1, hk1, hb01⟩
      case round =>
        clear hz1 hk1 hb01
        obtain ⟨k, hk, rfl, rfl, HA, hzr, hkb, hbel⟩ := hrel
        by_cases hlt : k < n
        · have hlti : (k : Int) < (n : Int) := by omega
          have hkL : k < L.length := by rw [HLG.out, ← HN.out]; exact hlt
          have hkG : k < G.length := by rw [← HN.out]; exact hlt
          obtain ⟨bl, ol, rfl, hbs, hcl⟩ := (hrl.below hbel).open (by intro h; rw [List.map_eq_nil_iff] at h; subst h; simp at hkL)
          obtain ⟨bg, og, rfl, hgs, hcg⟩ := (hr.below hbel).open (by intro h; rw [List.map_eq_nil_iff] at h; subst h; simp at hkG)
          have hcx : wr.cell? ⟨bl, ol + k, none⟩ = some (.int .i64 L[k]) := hcl k _ (by simp [hkL])
          have hcy : wr.cell? ⟨bg, og + k, none⟩ = some (.int .i64 G[k]) := hcg k _ (by simp [hkG])
          obtain ⟨hg0, hg1⟩ := HS.out G[k] (List.getElem_mem hkG)
          obtain ⟨hd0, hd1⟩ := dot_take_bnd HLG.out HS.out HA.out (Nat.le_of_lt hkL)
          have HT := Lib.hid (dotL_take HLG.out hkL)
          have HT2 : Hid ((L.take (k + 1)).all (fun x => inB x 0 1000000) = inB L[k] 0 1000000) := Lib.hid (by rw [List.take_add_one, List.getElem?_eq_getElem hkL, List.all_append, HA.out]; simp)
          have HM := Lib.hid (List.getElem_mem hkL)
          have hk0 : (0 : Int) ≤ (k : Int) := by omega
          have hkb3 := hkb
          clear hcl hcg
          generalize G[k] = g at *
          generalize dotL (L.take k) (G.take k) = d at *
          cases hin : inB L[k] 0 1000000
          · have HR : Hid (valueN G L = -1) := Lib.hid (valueN_out (by rw [List.all_eq_false]; exact ⟨L[k], HM.out, by rw [hin]; simp⟩))
            have c2 := ci L[k]
            rw [hin] at c2
            clear hin HM HT2 HT
            generalize L[k] = x at *
            go_wp2_with fail
            refine (c2 _).mono ?_
            rintro e w2 ⟨rfl, hww⟩
            subst hww
            go_wp2_with fail
            go_ret
            exact ⟨by rw [HR.out]; rfl, hbel⟩
          · obtain ⟨hx0, hx1⟩ := inB_true hin
            have c2 := ci L[k]
            rw [hin] at c2
            rw [hin] at HT2
            clear hin HM
            generalize L[k] = x at *
            have hp0 : 0 ≤ x * g := Int.mul_nonneg hx0 (by omega)
            have hp1 : x * g ≤ 1000000 * 60 := Int.mul_le_mul hx1 hg1 (by omega) (by omega)
            obtain ⟨p, hp⟩ : ∃ p, p = x * g := ⟨_, rfl⟩
            rw [← hp] at hp0 hp1 HT
            have hw1 : IntKind.i64.wrap (x * g) = p := by rw [← hp]; exact IntWalk.i64_in _ (by omega)
            have hw2 : IntKind.i64.wrap (d + p) = d + p := IntWalk.i64_in _ (by omega)
            clear hp
            go_wp2_with fail
            refine (c2 _).mono ?_
            rintro e w2 ⟨rfl, hww⟩
            subst hww
            clear c2
            have hS0 : w2.drew.cell? ⟨w.heap.size, 0, none⟩ = some (.slice (some ⟨bg, og, none⟩) n cap) ∧ w2.drew.cell? ⟨bl, ol + k, none⟩ = some (.int .i64 x) ∧ w2.drew.cell? ⟨bg, og + k, none⟩ = some (.int .i64 g) ∧ Below w2.heap.size w2 w2.drew := ⟨hkb, hcx, hcy, (Below.refl _ _).drew⟩
            go_wp2_with fail
            refine wp_region_held_drew (S := fun w' => w'.cell? ⟨w.heap.size, 0, none⟩ = some (.slice (some ⟨bg, og, none⟩) n cap) ∧ w'.cell? ⟨bl, ol + k, none⟩ = some (.int .i64 x) ∧ w'.cell? ⟨bg, og + k, none⟩ = some (.int .i64 g) ∧ Below w2.heap.size w2 w') (by kernel_rfl) hS0 (fun hHeld => ?_)
            refine held_take 0 _ _ rfl (by kernel_rfl) (by kernel_rfl) (by kernel_rfl) (fun _ _ _ h => h) (by rfl) hHeld (fun w hSw => by (try dsimp only at hSw); go_simp; try with_reducible rfl) ?_
            (try simp only [Act.put, List.setIfInBounds_toArray, List.set_cons_zero, List.set_cons_succ, List.getElem_toArray, List.getElem_cons_zero])
            refine held_take 1 _ _ rfl (by kernel_rfl) (by kernel_rfl) (by kernel_rfl) (fun _ _ _ h => h) (by rfl) hHeld (fun w hSw => by (try dsimp only at hSw); go_simp; try with_reducible rfl) ?_
            (try simp only [Act.put, List.setIfInBounds_toArray, List.set_cons_zero, List.set_cons_succ, List.getElem_toArray, List.getElem_cons_succ, List.getElem_cons_zero])
            refine held_take 2 _ _ rfl (by kernel_rfl) (by kernel_rfl) (by kernel_rfl) (fun _ _ _ h => h) (by rfl) hHeld (fun w hSw => by (try dsimp only at hSw); go_simp; try with_reducible rfl) ?_
            (try simp only [Act.put, List.setIfInBounds_toArray, List.set_cons_zero, List.set_cons_succ, List.getElem_toArray, List.getElem_cons_succ, List.getElem_cons_zero])
            refine held_take 3 _ _ rfl (by kernel_rfl) (by kernel_rfl) (by kernel_rfl) (fun _ _ _ h => h) (by rfl) hHeld (fun w hSw => by (try dsimp only at hSw); go_simp; try with_reducible rfl) ?_
            (try simp only [Act.put, List.setIfInBounds_toArray, List.set_cons_zero, List.set_cons_succ, List.getElem_toArray, List.getElem_cons_succ, List.getElem_cons_zero])
            refine held_take 4 _ _ rfl (by kernel_rfl) (by kernel_rfl) (by kernel_rfl) (fun _ _ _ h => h) (by rfl) hHeld (fun w hSw => by (try dsimp only at hSw); go_simp; try with_reducible rfl) ?_
            (try simp only [Act.put, List.setIfInBounds_toArray, List.set_cons_zero, List.set_cons_succ, List.getElem_toArray, List.getElem_cons_succ, List.getElem_cons_zero])
            refine held_take 5 _ _ rfl (by kernel_rfl) (by kernel_rfl) (by kernel_rfl) (fun _ _ _ h => h) (by rfl) hHeld (fun w hSw => by (try dsimp only at hSw); go_simp; try with_reducible rfl) ?_
            (try simp only [Act.put, List.setIfInBounds_toArray, List.set_cons_zero, List.set_cons_succ, List.getElem_toArray, List.getElem_cons_succ, List.getElem_cons_zero])
            refine held_take 6 _ _ rfl (by kernel_rfl) (by kernel_rfl) (by kernel_rfl) (fun _ _ _ h => h) (by rfl) hHeld (fun w hSw => by (try dsimp only at hSw); go_simp; try with_reducible rfl) ?_
            (try simp only [Act.put, List.setIfInBounds_toArray, List.set_cons_zero, List.set_cons_succ, List.getElem_toArray, List.getElem_cons_succ, List.getElem_cons_zero])
            refine held_take 7 _ _ rfl (by kernel_rfl) (by kernel_rfl) (by kernel_rfl) (fun _ _ _ h => h) (by rfl) hHeld (fun w hSw => by (try dsimp only at hSw); go_simp; try with_reducible rfl) ?_
            (try simp only [Act.put, List.setIfInBounds_toArray, List.set_cons_zero, List.set_cons_succ, List.getElem_toArray, List.getElem_cons_succ, List.getElem_cons_zero])
            refine held_take 8 _ _ rfl (by kernel_rfl) (by kernel_rfl) (by kernel_rfl) (fun _ _ _ h => h) (by rfl) hHeld (fun w hSw => by (try dsimp only at hSw); go_simp; try with_reducible rfl) ?_
            (try simp only [Act.put, List.setIfInBounds_toArray, List.set_cons_zero, List.set_cons_succ, List.getElem_toArray, List.getElem_cons_succ, List.getElem_cons_zero])
            refine held_take 9 _ _ rfl (by kernel_rfl) (by kernel_rfl) (by kernel_rfl) (fun _ _ _ h => h) (by rfl) hHeld (fun w hSw => by (try dsimp only at hSw); go_simp; try with_reducible rfl) ?_
            (try simp only [Act.put, List.setIfInBounds_toArray, List.set_cons_zero, List.set_cons_succ, List.getElem_toArray, List.getElem_cons_succ, List.getElem_cons_zero])
            refine held_take 10 _ _ rfl (by kernel_rfl) (by kernel_rfl) (by kernel_rfl) (fun _ _ _ h => h) (by rfl) hHeld (fun w hSw => by (try dsimp only at hSw); go_simp; try with_reducible rfl) ?_
            (try simp only [Act.put, List.setIfInBounds_toArray, List.set_cons_zero, List.set_cons_succ, List.getElem_toArray, List.getElem_cons_succ, List.getElem_cons_zero])
            refine held_take 11 _ _ rfl (by kernel_rfl) (by kernel_rfl) (by kernel_rfl) (fun _ _ _ h => h) (by rfl) hHeld (fun w hSw => by (try dsimp only at hSw); go_simp; try with_reducible rfl) ?_
            (try simp only [Act.put, List.setIfInBounds_toArray, List.set_cons_zero, List.set_cons_succ, List.getElem_toArray, List.getElem_cons_succ, List.getElem_cons_zero])
            refine held_take 12 _ _ rfl (by kernel_rfl) (by kernel_rfl) (by kernel_rfl) (fun _ _ _ h => h) (by rfl) hHeld (fun w hSw => by (try dsimp only at hSw); go_simp; try with_reducible rfl) ?_
            (try simp only [Act.put, List.setIfInBounds_toArray, List.set_cons_zero, List.set_cons_succ, List.getElem_toArray, List.getElem_cons_succ, List.getElem_cons_zero])
            refine wpAnyH_done (by kernel_rfl) ?_ _
            have hb3 := hbel.trans ((hHeld.2.2.2).mono hbel.size)
            have hkb4 := hHeld.1
            have hz4 : w.heap.size < _ := Nat.lt_of_lt_of_le hzr (hHeld.2.2.2).size
            clear hS0 hHeld
            go_wp2_with fail
            go_roundw
            case rel => exact ⟨k + 1, by omega, by go_num, by rw [HT.out], HT2, hz4, hkb4, hb3⟩
            case measure => simp [intOf]; omega
        · obtain rfl : k = n := by omega
          have HR : Hid (valueN G L = dotL L G) := Lib.hid (valueN_yes HSG.out HLG.out (by have := HA.out; rw [HN.out, ← HLG.out, List.take_length] at this; exact this))
          have HD : Hid (dotL (L.take k) (G.take k) = dotL L G) := Lib.hid (by rw [HN.out, List.take_length, ← HLG.out, List.take_length])
          generalize dotL (L.take k) (G.take k) = d at *
          go_wp2_with fail
          go_ret
          exact ⟨by rw [HR.out, ← HD.out]; rfl, hbel⟩
    · have HR := Lib.hid (valueN_len (G := G) (L := L) hl)
      obtain ⟨n, hn⟩ : ∃ n, n = G.length := ⟨_, rfl⟩
      obtain ⟨m, hm⟩ : ∃ m, m = L.length := ⟨_, rfl⟩
      rw [← hn] at c1 hc0 hb hl HW
      rw [← hm] at hl hbl
      rw [← hn, ← hm]
      clear hn hm
      have hd1 : ((m : Int) != (n : Int)) = true := by rw [bne_iff_ne]; omega
      go_enter Tryd.func18, Tryd.ntmps18
      go_wp2_with fail
      rw [← HW.out]
      refine c1.mono ?_
      rintro e w1 ⟨rfl, hb1⟩
      have hb01 := hbW.trans (hb1.mono hbW.size)
      have hk1 : w1.cell? ⟨w.heap.size, 0, none⟩ = some (.slice a n cap) := by rw [hb1.cell (p := ⟨w.heap.size, 0, none⟩) hWs]; exact hc0
      have hz1 : w.heap.size < w1.heap.size := Nat.lt_of_lt_of_le hWs hb1.size
      clear c1 hb1 hc0 hWs hbW hr hrl
      go_wp2_with fail
      go_ret
      exact ⟨by rw [HR.out]; rfl, hb01⟩

set_option maxRecDepth 100000 in
set_option maxHeartbeats 800000 in
theorem spec_IsFactorization (G L : List Int) (x : Int) (a : Option Addr) (cap : Nat) (al : Option Addr) (cl : Nat) (w : World) (hr : SlV w a (G.map (Value.int .i64))) (hrl : SlV w al (L.map (Value.int .i64))) (hb : G.length ≤ 1048576) (hbl : L.length ≤ 1048576) :
    Calls Tryd.prog 16 #[.agg #[.slice a G.length cap], .int .i64 x, .slice al L.length cl] w fun e w' => e = .returned (.bool (isFacB G x L)) ∧ Below w.heap.size w w' := by
  have hb0 := box_below w (.cells #[.slice a G.length cap] 26)
  have hc0 := box_cell w (.slice a G.length cap)
  by_cases hx : 0 ≤ x
  · have c1 := spec_ValueOf G L a cap al cl _ (hr.below hb0) (hrl.below hb0) hb hbl
    have HR : Hid (isFacB G x L = decide (valueN G L = x)) := Lib.hid (by unfold isFacB; rw [decide_eq_true hx, Bool.true_and])
    clear hr hrl
    have hd : decide (x < 0) = false := decide_eq_false (by omega)
    generalize valueN G L = v at *
    go_enter Tryd.func16, Tryd.ntmps16
    go_wp2_with fail
    refine c1.mono ?_
    rintro e w1 ⟨rfl, hb1⟩
    have hb01 := hb0.trans (hb1.mono hb0.size)
    clear c1
    by_cases hvx : v = x
    · have hq : (v == x) = true := by rw [beq_iff_eq]; exact hvx
      replace HR : Hid (isFacB G x L = true) := Lib.hid (by rw [HR.out]; exact decide_eq_true hvx)
      clear hvx
      go_wp2_with fail
      go_ret
      exact ⟨by rw [HR.out]; rfl, hb01⟩
    · have hq : (v == x) = false := by rw [beq_eq_false_iff_ne]; exact hvx
      replace HR : Hid (isFacB G x L = false) := Lib.hid (by rw [HR.out]; exact decide_eq_false hvx)
      clear hvx
      go_wp2_with fail
      go_ret
      exact ⟨by rw [HR.out]; rfl, hb01⟩
  · have HR : Hid (isFacB G x L = false) := Lib.hid (by unfold isFacB; rw [decide_eq_false hx, Bool.false_and])
    have hd : x < 0 := by omega
    clear hr hrl hx
    go_enter Tryd.func16, Tryd.ntmps16
    go_wp2_with fail
    go_ret
    exact ⟨by rw [HR.out]; rfl, hb0⟩
end Go.Proofs.YthalbmlgkkgheaaDoor
