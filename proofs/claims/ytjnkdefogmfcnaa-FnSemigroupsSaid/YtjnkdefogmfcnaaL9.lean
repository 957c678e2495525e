/-
  CONTRACTS of the reference's chapter 3: l3Gens, Generates.
-/
import Derived.Test.YtjnkdefogmfcnaaL8
namespace Go.Proofs.Ytjnkdefogmfcnaa
open Go Go.RowKit

set_option maxRecDepth 100000 in
set_option maxHeartbeats 400000 in
theorem spec_l3Gens (L : List Int) (a : Option Addr) (cap : Nat) (w : World) (hr : SlV w a (L.map (Value.int .i64))) (hb : L.length ≤ 1048576) :
    Calls Try.prog 47 #[.slice a L.length cap] w fun e w' => e = .returned (.bool (okG L)) ∧ w' = w := by
  go_enter Try.func47, Try.ntmps47
  go_wp2_with fail
  go_loop [3] (fun i => ∃ k : Nat, k ≤ L.length ∧ i = .int .i64 (k : Int) ∧ (L.take k).all (fun x => inB x 1 60) = true) (fun i => L.length - (intOf i).toNat)
  case atStart => exact ⟨0, Nat.zero_le _, rfl, by simp⟩
  case round =>
    obtain ⟨k, hk, rfl, hal⟩ := hrel
    have HA := Lib.hid hal
    clear hal
    by_cases hlt : k < L.length
    · obtain ⟨b, off, rfl, hbs, hc⟩ := hr.open (by intro h; rw [List.map_eq_nil_iff] at h; subst h; simp at hlt)
      have hcell : w.cell? ⟨b, off + k, none⟩ = some (.int .i64 L[k]) := hc k _ (by simp [hlt])
      have HT : Hid (L.take (k + 1) = L.take k ++ [L[k]]) := Lib.hid (by rw [List.take_add_one, List.getElem?_eq_getElem hlt]; rfl)
      have HM := Lib.hid (List.getElem_mem hlt)
      clear hc hr
      have hs := fun w => l1In_any L[k] 1 60 w
      cases hsm : inB L[k] 1 60
      · have HR : Hid (okG L = false) := Lib.hid (by
          unfold okG
          rw [Bool.and_eq_false_iff, Bool.and_eq_false_iff]
          left; left
          rw [List.all_eq_false]
          exact ⟨L[k], HM.out, by rw [hsm]; simp⟩)
        rw [hsm] at hs
        clear hsm HM HT
        generalize L[k] = x at *
        go_wp2_with fail
        refine (hs _).mono ?_
        rintro e w' ⟨rfl, rfl⟩
        go_wp2_with fail
        go_ret
        exact ⟨by rw [HR.out]; rfl, rfl⟩
      · have HN : Hid ((L.take (k + 1)).all (fun x => inB x 1 60) = true) := Lib.hid (by rw [HT.out, List.all_append, HA.out]; simp [hsm])
        rw [hsm] at hs
        clear hsm HM HT
        generalize L[k] = x at *
        go_wp2_with fail
        refine (hs _).mono ?_
        rintro e w' ⟨rfl, rfl⟩
        go_wp2_with fail
        go_round
        case rel => exact ⟨k + 1, by omega, by go_num, HN.out⟩
        case measure => simp [intOf]; omega
    · obtain rfl : k = L.length := by omega
      have HR : Hid (okG L = inB (L.length : Int) 1 20) := Lib.hid (by
        have := HA.out
        rw [List.take_of_length_le (Nat.le_refl _)] at this
        unfold okG
        rw [this, Bool.true_and]
        unfold inB
        congr 1 <;> exact decide_eq_decide.2 (by omega))
      have hs := fun w => l1In_any (L.length : Int) 1 20 w
      clear hr
      generalize inB (L.length : Int) 1 20 = r at *
      go_wp2_with fail
      refine (hs _).mono ?_
      rintro e w' ⟨rfl, rfl⟩
      go_wp2_with fail
      go_ret
      exact ⟨by rw [HR.out]; rfl, rfl⟩

theorem generatesB_in {G : List Int} {n : Int} (h : okG G = true) (hn : inB n 0 1000000 = true) : generatesB G n = sumB G n.toNat := by unfold generatesB; rw [h, hn]; rfl
theorem generatesB_out {G : List Int} {n : Int} (h : okG G = false ∨ inB n 0 1000000 = false) : generatesB G n = false := by
  unfold generatesB
  rcases h with h | h <;> simp [h]
/-- No multiple of the common divisor: no sum. -/
theorem sumB_no {G : List Int} (h : okG G = true) {n : Nat} (hd : ¬ (gcdL G).natAbs ∣ n) : sumB G n = false := by
  rw [sumB_false]
  intro hs
  exact hd (isSum_dvd (fun g hg => by simpa using gcdL_dvd (okG_iff.1 h).1 _ hg) hs)

/-- The table, read at its last place. -/
theorem tab_last {w : World} {base : Nat} {v : Value} {G : List Int} {m : Nat} (ho : w.ownsRow base 4 1 v (m + 1) (tabL G (m + 1))) :
    ∃ g c, v = .slice (some ⟨g, 0, none⟩) (m + 1) c ∧ ∀ j, j ≤ m → w.cell? ⟨g, j, none⟩ = some (.bool (sumB G j)) := by
  obtain ⟨hx, ⟨rfl, h0⟩ | ⟨g, cap, cur, rfl, h1, h2, h3⟩⟩ := ho
  · omega
  · refine ⟨g, cap, rfl, fun j hj => ?_⟩
    rw [World.ownsRow.cellAt (base := base) (e := 4) (size := 1) (n := m + 1) (cap := cap) (xs := tabL G (m + 1)) ⟨hx, .inr ⟨g, cap, cur, rfl, h1, h2, h3⟩⟩ j (by omega)]
    unfold tabL
    rw [List.getElem?_map, List.getElem?_range (by omega)]
    rfl

set_option maxRecDepth 100000 in
set_option maxHeartbeats 1600000 in
theorem spec_Generates (G : List Int) (n : Int) (a : Option Addr) (cap : Nat) (w : World) (hr : SlV w a (G.map (Value.int .i64))) (hb : G.length ≤ 1048576) :
    Calls Try.prog 20 #[.slice a G.length cap, .int .i64 n] w fun e w' => e = .returned (.bool (generatesB G n)) ∧ Below w.heap.size w w' := by
  have c1 := spec_l3Gens G a cap w hr hb
  cases hok : okG G
  · have HR := Lib.hid (generatesB_out (n := n) (.inl hok))
    rw [hok] at c1
    clear hok hr
    go_enter Try.func20, Try.ntmps20
    go_wp2_with fail
    refine c1.mono ?_
    rintro e w' ⟨rfl, rfl⟩
    go_wp2_with fail
    go_ret
    exact ⟨by rw [HR.out]; rfl, Below.refl _ _⟩
  · rw [hok] at c1
    have c2 := fun w => l1In_any n 0 1000000 w
    cases hin : inB n 0 1000000
    · have HR := Lib.hid (generatesB_out (G := G) (.inr hin))
      rw [hin] at c2
      clear hok hin hr
      go_enter Try.func20, Try.ntmps20
      go_wp2_with fail
      refine c1.mono ?_
      rintro e w' ⟨rfl, rfl⟩
      go_wp2_with fail
      refine (c2 _).mono ?_
      rintro e w' ⟨rfl, rfl⟩
      go_wp2_with fail
      go_ret
      exact ⟨by rw [HR.out]; rfl, Below.refl _ _⟩
    · rw [hin] at c2
      obtain ⟨hn0, hn1⟩ := inB_true hin
      have HR := Lib.hid (generatesB_in hok hin)
      obtain ⟨N, rfl⟩ := Int.eq_ofNat_of_zero_le hn0
      obtain ⟨hg0, hg1⟩ := gcdL_pos hok
      have c3 := fun w h => spec_GcdOfList G a cap w h (by unfold maxLen; omega)
      have HK := Lib.hid hok
      have HSL := Lib.hid hr
      have hpos := okG_pos hok
      have hlen := (okG_iff.1 hok).2.1
      obtain ⟨d, hd⟩ : ∃ d : Nat, gcdL G = (d : Int) := Int.eq_ofNat_of_zero_le (by omega)
      have HD : Hid ((gcdL G).natAbs = d) := Lib.hid (by rw [hd]; rfl)
      rw [hd] at c3 hg0 hg1
      clear hok hin hd hr
      go_enter Try.func20, Try.ntmps20
      go_wp2_with fail
      refine c1.mono ?_
      rintro e w' ⟨rfl, rfl⟩
      go_wp2_with fail
      refine (c2 _).mono ?_
      rintro e w' ⟨rfl, rfl⟩
      go_wp2_with fail
      refine (c3 _ HSL.out).mono ?_
      rintro e w' ⟨rfl, rfl⟩
      have hd1 : 1 ≤ d := by omega
      clear c1 c2 c3
      by_cases hmod : N % d = 0
      · have hm0 : ((N : Int) % (d : Int)) = 0 := by omega
        by_cases hfar : 3600 < N
        · obtain ⟨b, off, rfl, hbs, hc⟩ := HSL.out.open (by intro h; rw [List.map_eq_nil_iff] at h; subst h; simp at hlen)
          have hx1 := hpos G[0] (List.getElem_mem (by omega))
          have hcell : w'.cell? ⟨b, off + 0, none⟩ = some (.int .i64 G[0]) := hc 0 _ (by simp [show 0 < G.length by omega])
          rw [Nat.add_zero] at hcell
          obtain ⟨x, hx⟩ : ∃ x : Nat, G[0] = (x : Int) := ⟨G[0].toNat, by omega⟩
          have hxG : (x : Int) ∈ G := by rw [← hx]; exact List.getElem_mem _
          have hx60 := ((okG_iff.1 HK.out).1 _ hxG).2
          have hred := isSum_reduce HK.out hxG hfar (by rw [HD.out]; exact Nat.dvd_of_mod_eq_zero hmod)
          have HS1 := Lib.hid (sumB_iff.2 hred.1)
          have HS2 := Lib.hid (sumB_iff.2 hred.2)
          rw [hx] at hcell hx1
          have hmx := Nat.mod_lt (N - 3600) (show 0 < x by omega)
          obtain ⟨M, hM⟩ : ∃ M : Nat, M = 3600 + (N - 3600) % x := ⟨_, rfl⟩
          have HM := Lib.hid hM
          have hM4 : M ≤ 4000 := by rw [hM]; exact Nat.le_trans (Nat.add_le_add_left (Nat.le_of_lt hmx) _) (by omega)
          have hMi : 3600 + ((N : Int) - 3600) % (x : Int) = (M : Int) := by
            have e1 : ((N : Int) - 3600) = ((N - 3600 : Nat) : Int) := by omega
            rw [e1, hM, Int.natCast_add, Int.natCast_emod]; rfl
          have ct := spec_l3Table G (some ⟨b, off, none⟩) cap M w' HSL.out (by omega) hpos hM4
          clear hc hx hred hM hmx hpos
          go_wp2_with fail
          refine ct.mono ?_
          rintro e w2 ⟨v, rfl, ho, hb2⟩
          obtain ⟨g, c, rfl, ht⟩ := tab_last ho
          have hcM : w2.cell? ⟨g, M, none⟩ = some (.bool true) := by rw [ht M (Nat.le_refl _), HM.out, HS2.out]
          clear ct ho ht
          go_wp2_with fail
          go_ret
          exact ⟨by rw [HR.out]; simp [HS1.out], hb2⟩
        · have ct := spec_l3Table G a cap N w' HSL.out (by omega) hpos (by omega)
          clear hpos
          go_wp2_with fail
          refine ct.mono ?_
          rintro e w2 ⟨v, rfl, ho, hb2⟩
          obtain ⟨g, c, rfl, ht⟩ := tab_last ho
          have hcM := ht N (Nat.le_refl _)
          clear ct ho ht
          generalize hq : sumB G N = q at *
          have HQ := Lib.hid hq
          clear hq
          go_wp2_with fail
          go_ret
          exact ⟨by rw [HR.out]; simp [HQ.out], hb2⟩
      · have hm0 : ¬ ((N : Int) % (d : Int)) = 0 := by omega
        have HN := Lib.hid (sumB_no HK.out (n := N) (by rw [HD.out]; intro h; exact hmod (Nat.mod_eq_zero_of_dvd h)))
        clear hpos
        go_wp2_with fail
        go_ret
        exact ⟨by rw [HR.out]; simp [HN.out], Below.refl _ _⟩
end Go.Proofs.Ytjnkdefogmfcnaa
