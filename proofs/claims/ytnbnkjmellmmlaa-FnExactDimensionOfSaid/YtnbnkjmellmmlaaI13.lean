/-
  CONTRACT of the program's Generates.
-/
import Derived.Test.YtnbnkjmellmmlaaCh3I
namespace Go.Proofs.Ytnbnkjmellmmlaa
open Go Go.RowKit

theorem zeroG : (Try.prog.info? 47).map (·.zero) = some (some (.agg (List.replicate 3600 (Value.bool false)).toArray)) := by kernel_rfl
theorem sizeG : (Try.prog.info? 47).map (·.size) = some 3600 := by kernel_rfl
theorem undG : Try.prog.underlying 47 = some (.array 3600 4) := by kernel_rfl
theorem builtG : Try.prog.built 47 [(0, .bool true)] = some ((List.replicate 3600 (Value.bool false)).set 0 (.bool true)).toArray := by kernel_rfl
theorem tabB_rep (T : Nat) : tabB (fun _ => false) T = List.replicate T (Value.bool false) := by
  unfold tabB
  rw [List.map_map, List.eq_replicate_iff]
  exact ⟨by simp, fun v hv => by obtain ⟨j, -, rfl⟩ := List.mem_map.1 hv; rfl⟩
theorem tabB_start (T : Nat) : (List.replicate T (Value.bool false)).set 0 (.bool true) = tabB (fun j => j == 0) T := by
  rw [← tabB_rep, tabB_set]
  exact tabB_congr fun j _ => by by_cases e : j = 0 <;> simp [e]
theorem sizeGl (f : Nat → Bool) : (Try.prog.info? 47).map (·.size) = some (tabB f 3600).length := by rw [tabB_length]; exact sizeG

/-- The marks while the first k numbers have been taken: up to n the sums of these. -/
noncomputable def mkF (G : List Int) (n : Nat) : Nat → Bool := fun j => if j < n + 1 then sumB G j else j == 0
theorem mkF_nil (n : Nat) : tabB (fun j => j == 0) 3600 = tabB (mkF [] n) 3600 := tabB_congr fun j _ => by
  unfold mkF
  split
  · cases j with
    | zero => rw [sumB_zero]; rfl
    | succ j => rw [sumB_false.2 fun h => by have := isSum_nil h; omega]; rfl
  · rfl

theorem generates_far {G : List Int} (hok : okG G = true) {N d : Nat} (hd : (gcdL G).natAbs = d) (hN : 3600 ≤ N) : sumB G N = decide (N % d = 0) := by
  obtain ⟨hG, hl, -⟩ := okG_iff.1 hok
  by_cases h : N % d = 0
  · rw [decide_eq_true h, sumB_iff]
    obtain ⟨x, r, rfl⟩ : ∃ x r, G = x :: r := by
      cases G with
      | nil => simp at hl
      | cons x r => exact ⟨x, r, rfl⟩
    have hx := hG x (by simp)
    have hxm : ((x.toNat : Nat) : Int) ∈ x :: r := by rw [show ((x.toNat : Nat) : Int) = x by omega]; simp
    refine isSum_far (d := d) hxm hG (fun e he => ?_) (Nat.dvd_of_mod_eq_zero h) (by omega)
    rw [← hd]
    exact gcdL_dvd_of fun y hy => by
      have h1 := hG y hy
      exact he y.natAbs (by rw [show ((y.natAbs : Nat) : Int) = y by omega]; exact hy)
  · rw [decide_eq_false h]
    exact sumB_no hok (by rw [hd]; exact fun e => h (Nat.mod_eq_zero_of_dvd e))

set_option maxRecDepth 100000 in
set_option maxHeartbeats 1600000 in
theorem impl_Generates (G : List Int) (n : Int) (a : Option Addr) (cap : Nat) (w : World) (hr : SlV w a (G.map (Value.int .i64))) (hb : G.length ≤ 1048576) :
    Calls Try.prog 17 #[.slice a G.length cap, .int .i64 n] w fun e w' => e = .returned (.bool (generatesB G n)) ∧ Below w.heap.size w w' := by
  have c1 := impl_areListed G a cap w hr hb
  cases hok : okG G
  · have HR := Lib.hid (generatesB_out (n := n) (.inl hok))
    rw [hok] at c1
    clear hok hr
    go_enter Try.func17, Try.ntmps17
    go_wp2_with fail
    refine c1.mono ?_
    rintro e w' ⟨rfl, rfl⟩
    go_wp2_with fail
    go_ret
    exact ⟨by rw [HR.out]; rfl, Below.refl _ _⟩
  · rw [hok] at c1
    by_cases h0 : n < 0
    · have HR := Lib.hid (generatesB_out (G := G) (n := n) (.inr (by unfold inB; rw [decide_eq_false (by omega : ¬ 0 ≤ n)]; rfl)))
      clear hok hr
      go_enter Try.func17, Try.ntmps17
      go_wp2_with fail
      refine c1.mono ?_
      rintro e w' ⟨rfl, rfl⟩
      go_wp2_with fail
      go_ret
      exact ⟨by rw [HR.out]; rfl, Below.refl _ _⟩
    · by_cases h1 : 1000000 < n
      · have HR := Lib.hid (generatesB_out (G := G) (n := n) (.inr (by unfold inB; rw [decide_eq_false (by omega : ¬ n ≤ 1000000)]; simp)))
        clear hok hr
        go_enter Try.func17, Try.ntmps17
        go_wp2_with fail
        refine c1.mono ?_
        rintro e w' ⟨rfl, rfl⟩
        go_wp2_with fail
        go_ret
        exact ⟨by rw [HR.out]; rfl, Below.refl _ _⟩
      · obtain ⟨N, rfl⟩ : ∃ N : Nat, n = (N : Int) := ⟨n.toNat, by omega⟩
        have hgen : generatesB G (N : Int) = sumB G N := by
          rw [generatesB_in hok (inB_mk (by omega) (by omega))]; simp
        by_cases hfar : 3600 ≤ N
        · have hmax : G.length ≤ maxLen := by unfold maxLen; omega
          have cg := impl_GcdOfList G a cap w hr hmax
          obtain ⟨hg0, hg1⟩ := gcdL_pos hok
          obtain ⟨d, hd⟩ : ∃ d : Nat, gcdL G = (d : Int) := Int.eq_ofNat_of_zero_le (by omega)
          have HR : Hid (generatesB G (N : Int) = decide (N % d = 0)) := Lib.hid (by rw [hgen]; exact generates_far hok (by rw [hd]; rfl) hfar)
          rw [hd] at cg hg0 hg1
          clear hok hr hd hgen
          have hfi : (3600 : Int) ≤ (N : Int) := by omega
          have hd1 : (1 : Int) ≤ (d : Int) := by omega
          by_cases hm : N % d = 0
          · have hmi : ((N : Int) % (d : Int)) = 0 := by omega
            go_enter Try.func17, Try.ntmps17
            go_wp2_with fail
            refine c1.mono ?_
            rintro e w' ⟨rfl, rfl⟩
            go_wp2_with fail
            refine cg.mono ?_
            rintro e w2 ⟨rfl, hb2⟩
            clear c1 cg
            go_wp2_with fail
            go_ret
            exact ⟨by rw [HR.out, decide_eq_true hm]; rfl, hb2⟩
          · have hmi : (((N : Int) % (d : Int)) == 0) = false := by rw [beq_eq_false_iff_ne]; omega
            go_enter Try.func17, Try.ntmps17
            go_wp2_with fail
            refine c1.mono ?_
            rintro e w' ⟨rfl, rfl⟩
            go_wp2_with fail
            refine cg.mono ?_
            rintro e w2 ⟨rfl, hb2⟩
            clear c1 cg
            go_wp2_with fail
            go_ret
            exact ⟨by rw [HR.out, decide_eq_false hm]; rfl, hb2⟩
        · have HR := Lib.hid hgen
          obtain ⟨hG, -, hl2⟩ := okG_iff.1 hok
          have HB := Lib.hid hG
          have HT := fun f => Lib.hid (tabB_one f 3600)
          have hA := Arr.new w 47 (List.replicate 3600 (Value.bool false))
          have hba := box_below w (.cells (List.replicate 3600 (Value.bool false)).toArray 47)
          have hnf : ¬ (3600 : Int) ≤ (N : Int) := by omega
          clear hok hgen hG
          go_enter Try.func17, Try.ntmps17
          go_wp2_with fail
          refine c1.mono ?_
          rintro e w' ⟨rfl, rfl⟩
          go_wp2_with (first
            | (refine wpList_build_arr 47 _ ((List.replicate 3600 (Value.bool false)).set 0 (.bool true)) rfl rfl (by simpa [Act.eval] using builtG) ?_; rw [tabB_start 3600, mkF_nil N])
            | (refine wpList_alloc_arr 47 (List.replicate 3600 (Value.bool false)) zeroG rfl rfl ?_)
            | (refine wpList_store_arr 47 (.tmp 5) (.tmp 26) _ (List.replicate 3600 (Value.bool false)) (tabB (mkF [] N) 3600) rfl rfl rfl rfl hA (by rw [tabB_length, List.length_replicate]) (sizeGl _) (HT _).out ?_; intro w1 ha1 hg1 hz1; have hbw := hba.grown hg1 hba.size (fun k hk => by cases hk; exact Nat.le_refl _); clear hz1))
          clear hA hba hg1 c1
          go_loopw [29] (fun i wr => ∃ k : Nat, k ≤ G.length ∧ i = .int .i64 (k : Int) ∧ Arr wr w'.heap.size 47 (tabB (mkF (G.take k) N) 3600) ∧ Below w'.heap.size w' wr) (fun i _ => G.length - (intOf i).toNat)
          case atStart => exact ⟨0, Nat.zero_le _, rfl, ha1, hbw⟩
          case round =>
            clear ha1 hbw
            obtain ⟨k, hk, rfl, ha, hbel⟩ := hrel
            by_cases hlt : k < G.length
            · obtain ⟨b, off, rfl, hbs, hc⟩ := hr.open (by intro h; rw [List.map_eq_nil_iff] at h; subst h; simp at hlt)
              have hcell : wr.cell? ⟨b, off + k, none⟩ = some (.int .i64 G[k]) := by rw [hbel.cell (p := ⟨b, off + k, none⟩) hbs]; exact hc k _ (by simp [hlt])
              have hxb := HB.out G[k] (List.getElem_mem hlt)
              obtain ⟨X, hX⟩ : ∃ X : Nat, G[k] = (X : Int) := ⟨(G[k]).toNat, by omega⟩
              have HTK : Hid (G.take (k + 1) = G.take k ++ [(X : Int)]) := Lib.hid (by rw [List.take_add_one, List.getElem?_eq_getElem hlt, hX]; rfl)
              rw [hX] at hcell hxb
              have hx1 : 1 ≤ X := by omega
              have cm := impl_markFurther (mkF (G.take k) N) (mkF (G.take k ++ [(X : Int)]) N) w'.heap.size 47 3600 (N + 1) 3600 X wr ha (by omega) (by omega) hx1
                (fun j h1 _ => by unfold mkF; rw [sumB_snoc_small h1])
                (fun j h1 h2 => by unfold mkF; rw [if_pos h2, if_pos h2, if_pos (by omega)]; exact sumB_snoc hx1 h1)
                (fun j h1 _ => by unfold mkF; rw [if_neg (by omega), if_neg (by omega)])
              have hn0 : (0 : Int) ≤ (N : Int) + 1 := by omega
              have hn1 : (N : Int) + 1 ≤ 3600 := by omega
              have hn1' : (N : Int) < 3600 := by omega
              have hn2 : ((N : Int) + 1).toNat = N + 1 := by omega
              clear hc hX hr ha
              go_wp2_with fail
              refine cm.mono ?_
              rintro e w2 ⟨rfl, ha2, hg2⟩
              have hb2 := hbel.grown hg2 hbel.size (fun k hk => by cases hk; exact Nat.le_refl _)
              rw [← HTK.out] at ha2
              have HA := Lib.hid ha2
              clear cm ha2 hg2 hcell
              go_wp2_with fail
              go_roundw
              case rel => exact ⟨k + 1, by omega, by go_num, HA.out, hb2⟩
              case measure => simp [intOf]; omega
            · obtain rfl : k = G.length := by omega
              rw [List.take_of_length_le (Nat.le_refl _)] at ha
              have hcn : wr.cell? ⟨w'.heap.size, N, none⟩ = some (.bool (sumB G N)) := by
                rw [ha.cell, tabB_get _ 3600 N (by omega)]; unfold mkF; rw [if_pos (by omega)]
              have hn0 : (0 : Int) ≤ (N : Int) := by omega
              have hn1 : (N : Int) < 3600 := by omega
              clear ha hr
              generalize sumB G N = q at *
              go_wp2_with fail
              go_ret
              exact ⟨by rw [HR.out]; rfl, hbel⟩
end Go.Proofs.Ytnbnkjmellmmlaa
