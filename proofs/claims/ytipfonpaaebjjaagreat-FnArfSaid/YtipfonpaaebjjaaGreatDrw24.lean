/-
  DRAWS OF CHAPTER 24: DrawArfClosure, DrawIsArf. (Own work.)
-/
import Derived.Test.YtipfonpaaebjjaaGreatDrS
import Derived.Test.YtipfonpaaebjjaaGreatL24
import Derived.Test.YtipfonpaaebjjaaGreatL78
import Derived.Test.YtipfonpaaebjjaaGreatSgAf
namespace Go.Proofs.YtipfonpaaebjjaaGreat
open Go Go.RowKit

set_option maxRecDepth 100000 in
set_option maxHeartbeats 1600000 in
theorem DrawArfClosure_any (W : World) (a : Option Addr) (len cap : Nat) (zs : List Int) (hr : IsRow .u8 W a len cap zs) (hl : len ≤ 1048576) :
    Calls Tryz.prog 20 #[.slice a len cap] W (DSg W) := by
  have hb0 := box_below W (.cells #[.slice none 0 0] 26)
  have hA0 := Arr.new W 26 [.slice none 0 0]
  have cn := l1New_any (W.alloc (.cells #[.slice none 0 0] 26)) a len cap zs (hr.below hb0) hl
  have hsz : W.heap.size < (W.alloc (.cells #[.slice none 0 0] 26)).heap.size := hA0.lt
  clear hr
  go_enter Tryz.func20, Tryz.ntmps20
  go_wp2_with fail
  refine cn.mono ?_
  rintro e w1 ⟨N, rfl, hd⟩
  have hNb := hd.base
  have hA1 := hA0.below hd.bel
  have hb1 := hb0.trans (hd.bel.mono (Nat.le_of_lt hsz))
  have hz1 := hd.bel.size
  clear cn hA0
  go_wp2_with fail
  refine (l3Bent_dr hd).mono ?_
  rintro e w2 ⟨L, av, cv, hl13, hI, rfl, hs, hf, hd2, hg2⟩
  have HI := Lib.hid hI
  have hA2 := hA1.grownN hg2 (by omega)
  have hc2 : w2.cell? ⟨W.heap.size, 0, none⟩ = some (.slice none 0 0) := hA2.cell 0
  have hf2 := hA2.frozen 0
  have hb2 := hb1.grown hg2 hb1.size (fun k hk => by cases hk; omega)
  have hcf := World.cell?_setCell_same w2 ⟨W.heap.size, 0, none⟩ (.slice av L.length cv) hc2
  have HF : Hid (DSg W (.returned (.agg #[.slice av L.length cv])) (w2.setCell ⟨W.heap.size, 0, none⟩ (.slice av L.length cv))) := Lib.hid ⟨L, av, cv, hl13, HI.out, rfl, hs.grownBy (grownBy_setCell w2 W.heap.size 0 _) hf (by omega), hb2.setCell (Nat.le_refl _) _⟩
  clear hI hs hd hd2 hg2 hA1 hA2 hb0 hb1 hb2 hf
  go_wp2_with fail
  exact bodyPost_ret (v := .agg #[.slice av L.length cv]) (by simp [results, Tryz.results20, go_sem, hcf]) rfl HF.out

theorem cloL_in {G : List Int} (h : cloB G = true) : ∀ x ∈ cloL G, InI64 x := fun x hx => by
  have := (isSgB_iff.1 (clo_open h).2.1).bounds x hx
  unfold InI64; omega

set_option maxRecDepth 100000 in
set_option maxHeartbeats 3200000 in
theorem DrawIsArf_any (W : World) (a : Option Addr) (len cap : Nat) (zs : List Int) (hr : IsRow .u8 W a len cap zs) (hl : len ≤ 1048576) :
    Calls Tryz.prog 23 #[.slice a len cap] W (DSg W) := by
  obtain ⟨dS, hdS, hrS⟩ := undSg
  have hb0 := box_below W (.cells #[.slice none 0 0] 26)
  have hA0 := Arr.new W 26 [.slice none 0 0]
  have cn := l1New_any (W.alloc (.cells #[.slice none 0 0] 26)) a len cap zs (hr.below hb0) hl
  have hsz : W.heap.size < (W.alloc (.cells #[.slice none 0 0] 26)).heap.size := hA0.lt
  clear hr
  go_enter Tryz.func23, Tryz.ntmps23
  go_wp2_with fail
  refine cn.mono ?_
  rintro e w1 ⟨N, rfl, hd⟩
  have hNb := hd.base
  have hN1 := hd.lt
  have hA1 := hA0.below hd.bel
  have hb1 := hb0.trans (hd.bel.mono (Nat.le_of_lt hsz))
  have hz1 := hd.bel.size
  clear cn hA0
  go_wp2_with fail
  refine (l3Bent_dr hd).mono ?_
  rintro e w2 ⟨L, av, cv, hl13, hI, rfl, hs, hf, hd2, hg2⟩
  have HI := Lib.hid hI
  have hz2 := hg2.size
  have hA2 := hA1.grownN hg2 (by omega)
  have hb2 := hb1.grown hg2 hb1.size (fun k hk => by cases hk; omega)
  clear hI hd hg2 hA1 hb0 hb1
  go_wp2_with (first | (refine wpList_alloc_arr 26 [Value.slice none 0 0] zeroSg rfl rfl ?_) | (refine wpList_store_arr 26 (.tmp 4) (.tmp 10) w2.heap.size [Value.slice none 0 0] [Value.slice av L.length cv] rfl rfl rfl rfl (Arr.new w2 26 [Value.slice none 0 0]) rfl sizeSg (by simp [Value.oneCell']) ?_; intro w3 hB3 hg3 hz3; clear hz3; have hb23 := (box_below w2 (.cells [Value.slice none 0 0].toArray 26)).grown hg3 (by simp) (fun k hk => by cases hk; exact Nat.le_refl _)))
  have hA3 := hA2.below hb23
  have hs3 := hs.below hb23
  have hd3 := hd2.belowW hb23
  have hb3 := hb2.trans (hb23.mono hb2.size)
  have hz3 := hb23.size
  have hlt3 := hB3.lt
  clear hA2 hs hd2 hb2 hg3 hb23
  refine (l1Once_dr hd3 2 (by decide)).mono ?_
  rintro e w4 ⟨q, rfl, hd4, hg4⟩
  have hz4 := hg4.size
  have hA4 := hA3.grownN hg4 (by omega)
  have hB4 := hB3.grownN hg4 (by omega)
  have hs4 : SlW w4 av cv (L.map (Value.int .i64)) := hs3.grownN hg4 (fun p hp => by have := hf p hp; omega)
  have hb4 := hb3.grown hg4 hb3.size (fun k hk => by cases hk; omega)
  have hc4 := hB4.cell 0
  clear hA3 hB3 hs3 hd3 hb3 hg4 hd4
  cases q
  · go_wp2_with (first | (refine wpList_store_arr 26 (.tmp 2) (.tmp 20) W.heap.size [Value.slice none 0 0] [Value.slice av L.length cv] rfl rfl rfl rfl hA4 rfl sizeSg (by simp [Value.oneCell']) ?_; intro w9 hA9 hg9 hz9; clear hz9))
    have hb9 := hb4.grown hg9 hb4.size (fun k hk => by cases hk; exact Nat.le_refl _)
    exact bodyPost_ret (results_arr rfl _ _ W.heap.size [Value.slice av L.length cv] dS rfl hA9 hdS hrS sizeSg) rfl ⟨L, av, cv, hl13, HI.out, rfl, hs4.grownN hg9 (fun p hp => by have := hf p hp; omega), hb9⟩
  · have cc := spec_ArfClosure L av cv w4 hs4.sl (by omega)
    go_wp2_with fail
    refine cc.mono ?_
    rintro e w5 ⟨v5, rfl, ho5, hb5⟩
    obtain ⟨a5, c5, rfl, rX⟩ := row_open ho5
    have hA5 := hA4.below hb5
    have hB5 := hB4.below hb5
    have hs5 := hs4.below hb5
    have hb5W := hb4.trans (hb5.mono hb4.size)
    have hz5 := hb5.size
    clear cc hA4 hB4 hs4 hc4 hb4
    have HQ : Hid (cloB L = true → ∀ x ∈ cloL L, InI64 x) := Lib.hid cloL_in
    have hlc := cloL_len L
    generalize cloB L = q at *
    generalize cloL L = K at *
    cases q
    · go_wp2_with (first | (refine wpList_alloc_arr 26 [Value.slice none 0 0] zeroSg rfl rfl ?_) | (refine wpList_store_arr 26 (.tmp 5) (.tmp 16) w5.heap.size [Value.slice none 0 0] [Value.slice a5 K.length c5] rfl rfl rfl rfl (Arr.new w5 26 [Value.slice none 0 0]) rfl sizeSg (by simp [Value.oneCell']) ?_; intro w6 hN6 hg6 hz6; clear hz6; have hb56 := (box_below w5 (.cells [Value.slice none 0 0].toArray 26)).grown hg6 (by simp) (fun k hk => by cases hk; exact Nat.le_refl _); have hA6 := hA5.below hb56; have hc6 := (hB5.below hb56).cell 0) | (refine wpList_store_arr 26 (.tmp 2) (.tmp 20) W.heap.size [Value.slice none 0 0] [Value.slice av L.length cv] rfl rfl rfl rfl hA6 rfl sizeSg (by simp [Value.oneCell']) ?_; intro w9 hA9 hg9 hz9; clear hz9))
      have hb9 := (hb5W.trans (hb56.mono hb5W.size)).grown hg9 (by have := hb5W.size; have := hb56.size; omega) (fun k hk => by cases hk; exact Nat.le_refl _)
      exact bodyPost_ret (results_arr rfl _ _ W.heap.size [Value.slice av L.length cv] dS rfl hA9 hdS hrS sizeSg) rfl ⟨L, av, cv, hl13, HI.out, rfl, (hs5.below hb56).grownN hg9 (fun p hp => by have := hf p hp; omega), hb9⟩
    · go_wp2_with (first | (refine wpList_alloc_arr 26 [Value.slice none 0 0] zeroSg rfl rfl ?_) | (refine wpList_store_arr 26 (.tmp 5) (.tmp 16) w5.heap.size [Value.slice none 0 0] [Value.slice a5 K.length c5] rfl rfl rfl rfl (Arr.new w5 26 [Value.slice none 0 0]) rfl sizeSg (by simp [Value.oneCell']) ?_; intro w6 hN6 hg6 hz6; clear hz6; have hb56 := (box_below w5 (.cells [Value.slice none 0 0].toArray 26)).grown hg6 (by simp) (fun k hk => by cases hk; exact Nat.le_refl _); have hA6 := hA5.below hb56; have hc6 := hN6.cell 0) | (refine wpList_store_arr 26 (.tmp 2) (.tmp 19) W.heap.size [Value.slice none 0 0] [Value.slice a5 K.length c5] rfl rfl rfl rfl hA6 rfl sizeSg (by simp [Value.oneCell']) ?_; intro w9 hA9 hg9 hz9; clear hz9))
      have hb9 := (hb5W.trans (hb56.mono hb5W.size)).grown hg9 (by have := hb5W.size; have := hb56.size; omega) (fun k hk => by cases hk; exact Nat.le_refl _)
      have hs9 := (rX.below hb56).grown hg9 (fun j hj => by cases hj; exact .inl (by omega))
      exact bodyPost_ret (results_arr rfl _ _ W.heap.size [Value.slice a5 K.length c5] dS rfl hA9 hdS hrS sizeSg) rfl ⟨K, a5, c5, by omega, HQ.out (by trivial), rfl, hs9.slw, hb9⟩
end Go.Proofs.YtipfonpaaebjjaaGreat
