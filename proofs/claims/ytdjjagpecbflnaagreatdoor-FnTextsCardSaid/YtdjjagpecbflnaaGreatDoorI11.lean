/-
  CONTRACTS of the program's chapter 3, fourth part: elementsOf, IsSemigroup, Contains, MultiplicityOf, DimensionOf, FromGens.
-/
import Derived.Test.YtdjjagpecbflnaaGreatDoorI10
namespace Go.Proofs.YtdjjagpecbflnaaGreatDoor
open Go Go.RowKit

noncomputable def elF (G : List Int) : Nat → Bool := fun j => isSgB G && sumB G j
theorem elF_no {G : List Int} (h : isSgB G = false) : tabB (elF G) 260 = tabB (fun _ => false) 260 := tabB_congr fun j _ => by unfold elF; rw [h]; rfl
theorem elF_yes {G : List Int} (h : isSgB G = true) : tabB (elF G) 260 = tabB (sumB G) 260 := tabB_congr fun j _ => by unfold elF; rw [h]; rfl
/-- A call made the table of the elements of G, all false where G is no semigroup. -/
def ElPost (G : List Int) (w : World) (e : Ending) (w' : World) : Prop :=
  e = .returned (.tuple #[.agg (tabB (elF G) 260).toArray, .bool (isSgB G)]) ∧ Below w.heap.size w w'
theorem builtZ : Tryz.prog.built 62 [] = some (tabB (fun _ => false) 260).toArray := by kernel_rfl

set_option maxRecDepth 100000 in
set_option maxHeartbeats 1600000 in
theorem impl_elementsOf (G : List Int) (a : Option Addr) (cap : Nat) (w : World) (hr : SlV w a (G.map (Value.int .i64))) (hb : G.length ≤ 1048576) :
    Calls Tryz.prog 42 #[.agg #[.slice a G.length cap]] w (ElPost G w) := by
  have hbA := box_below w (.cells #[.slice a G.length cap] 26)
  have hb0 := hbA.alloc (o := .cells (tabB (fun _ => false) 260).toArray 62) hbA.size
  obtain ⟨W, hW⟩ : ∃ W, W = (w.alloc (.cells #[.slice a G.length cap] 26)).alloc (.cells (tabB (fun _ => false) 260).toArray 62) := ⟨_, rfl⟩
  have hA1 : Arr W (w.heap.size + 1) 62 (tabB (fun _ => false) 260) := by
    have := Arr.new (w.alloc (.cells #[.slice a G.length cap] 26)) 62 (tabB (fun _ => false) 260)
    rw [size_alloc] at this; rw [hW]; exact this
  have hc0 : W.cell? ⟨w.heap.size, 0, none⟩ = some (.slice a G.length cap) := by
    rw [hW]; exact ((Arr.new w 26 [.slice a G.length cap]).alloc _).cell 0
  have hWs : w.heap.size + 2 ≤ W.heap.size := by rw [hW]; simp
  rw [← hW] at hb0
  have HW := Lib.hid hW
  have hrW := hr.below hb0
  have HT := fun f => Lib.hid (tabB_one f 260)
  have hmax : G.length ≤ maxLen := by unfold maxLen; omega
  have cl := impl_areListed G a cap W hrW hb
  clear hbA hW
  by_cases h12 : G.length ≤ 12
  · have hi12 : ¬ 12 < (G.length : Int) := by omega
    cases hok : okG G
    · have hs : isSgB G = false := by unfold isSgB; rw [hok]; rfl
      rw [hok] at cl
      have HR := Lib.hid hs
      have HE := Lib.hid (elF_no hs)
      clear hok hs hr hrW
      go_enter Tryz.func42, Tryz.ntmps42
      go_wp2_with (refine wpList_alloc_arr 62 (tabB (fun _ => false) 260) zeroT rfl rfl ?_)
      rw [← HW.out]
      refine cl.mono ?_
      rintro e w' ⟨rfl, rfl⟩
      go_wp2_with (first
        | (refine wpList_build_arr 62 _ (tabB (fun _ => false) 260) rfl rfl (by simpa [Act.eval] using builtZ) ?_)
        | (refine wpList_store_arr 62 (.tmp 2) (.tmp 22) (w.heap.size + 1) (tabB (fun _ => false) 260) (tabB (fun _ => false) 260) rfl rfl rfl rfl hA1 rfl (sizeTl _) (HT _).out ?_; intro w3 hB1 hg3 hz3; clear hz3))
      have hb3 := hb0.grown hg3 hb0.size (fun k hk => by cases hk; omega)
      exact bodyPost_ret (results_arr_tmp rfl _ _ (w.heap.size + 1) (tabB (fun _ => false) 260) (.array 260 4) rfl hB1 undT rfl (sizeTl _)) rfl ⟨by rw [HR.out, HE.out]; rfl, hb3⟩
    · rw [hok] at cl
      have ca := impl_IsAscending G a cap W hrW hmax
      cases hasc : ascB G
      · have hs : isSgB G = false := by unfold isSgB; rw [hasc]; simp
        rw [hasc] at ca
        have HR := Lib.hid hs
        have HE := Lib.hid (elF_no hs)
        clear hok hasc hs hr hrW
        go_enter Tryz.func42, Tryz.ntmps42
        go_wp2_with (refine wpList_alloc_arr 62 (tabB (fun _ => false) 260) zeroT rfl rfl ?_)
        rw [← HW.out]
        refine cl.mono ?_
        rintro e w' ⟨rfl, rfl⟩
        go_wp2_with fail
        refine ca.mono ?_
        rintro e w1 ⟨rfl, hb1⟩
        have hA1 := hA1.below hb1
        have hz1 := hb1.size
        have hb0 := hb0.trans (hb1.mono hb0.size)
        clear ca hb1 hc0
        go_wp2_with (first
          | (refine wpList_build_arr 62 _ (tabB (fun _ => false) 260) rfl rfl (by simpa [Act.eval] using builtZ) ?_)
          | (refine wpList_store_arr 62 (.tmp 2) (.tmp 22) (w.heap.size + 1) (tabB (fun _ => false) 260) (tabB (fun _ => false) 260) rfl rfl rfl rfl hA1 rfl (sizeTl _) (HT _).out ?_; intro w3 hB1 hg3 hz3; clear hz3))
        have hb3 := hb0.grown hg3 hb0.size (fun k hk => by cases hk; omega)
        exact bodyPost_ret (results_arr_tmp rfl _ _ (w.heap.size + 1) (tabB (fun _ => false) 260) (.array 260 4) rfl hB1 undT rfl (sizeTl _)) rfl ⟨by rw [HR.out, HE.out]; rfl, hb3⟩
      · rw [hasc] at ca
        have hA := asc_of_ascB hasc
        obtain ⟨hG, hl1, hl2⟩ := okG_iff.1 hok
        have HWAY := Lib.hid (isSgB_way hok h12 hasc)
        have hml := minOf_length_le G
        have HSL := Lib.hid hrW
        have ct := fun w' (h : SlV w' a (G.map (Value.int .i64))) => impl_tableOfSums G a cap w' h hA hG hl2
        clear hok hasc hA hG hr hrW
        go_enter Tryz.func42, Tryz.ntmps42
        go_wp2_with (refine wpList_alloc_arr 62 (tabB (fun _ => false) 260) zeroT rfl rfl ?_)
        rw [← HW.out]
        refine cl.mono ?_
        rintro e w' ⟨rfl, rfl⟩
        go_wp2_with fail
        refine ca.mono ?_
        rintro e w1 ⟨rfl, hb1⟩
        have hA1 := hA1.below hb1
        have hc1 := (hb1.cell (p := ⟨w.heap.size, 0, none⟩) (by show w.heap.size < _; omega)).trans hc0
        have hz1 := Nat.le_trans hWs hb1.size
        have hx := ct w1 (HSL.out.below hb1)
        have hb1 := hb0.trans (hb1.mono hb0.size)
        clear cl ca ct hc0 hb0 hWs
        go_wp2_with fail
        refine hx.mono ?_
        rintro e w2 ⟨v, rfl, ho, hb2⟩
        have hA1 := hA1.below hb2
        have hc2 := (hb2.cell (p := ⟨w.heap.size, 0, none⟩) (by show w.heap.size < _; omega)).trans hc1
        have hz2 := Nat.le_trans hz1 hb2.size
        have hb2 := hb1.trans (hb2.mono hb1.size)
        have hA1n := hA1.alloc (.cells (tabB (fun _ => false) 260).toArray 62)
        have hA4 := Arr.new w2 62 (tabB (fun _ => false) 260)
        have hc2n : (w2.alloc (.cells (tabB (fun _ => false) 260).toArray 62)).cell? ⟨w.heap.size, 0, none⟩ = some (.slice a G.length cap) := ((box_below w2 _).cell (p := ⟨w.heap.size, 0, none⟩) (by show w.heap.size < _; omega)).trans hc2
        have hb2n := hb2.alloc (o := .cells (tabB (fun _ => false) 260).toArray 62) hb2.size
        obtain ⟨av, kv, rfl, rX⟩ := row_open ho
        clear hx hc1 hb1 hz1 ho hA1 rX hc2 hb2
        by_cases hk : G.length ≤ (minOf G).length
        · have hkl : ¬ ((minOf G).length : Int) < (G.length : Int) := by omega
          have HK := Lib.hid hk
          clear hk
          go_wp2_with (first
            | (refine wpList_alloc_arr 62 (tabB (fun _ => false) 260) zeroT rfl rfl ?_)
            | (refine wpList_store_arr 62 (.tmp 4) (.tmp 27) w2.heap.size (tabB (fun _ => false) 260) (tabB (sumB G) 260) rfl rfl rfl rfl hA4 (by rw [tabB_length, tabB_length]) (sizeTl _) (HT _).out ?_; intro w3 hB4 hg3 hz3; have hs3 : w2.heap.size + 1 ≤ w3.heap.size := (by rw [hz3]; simp); clear hz3; have hc3 := hg3.cell hc2n (by simp; omega); have hB1 := hA1n.grown hg3 (by simp; omega)))
          have cc := impl_hasFalse (fun j => sumB G (200 + j)) w2.heap.size 200 60 60 w3 (fun j hj => (hB4.cell (200 + j)).trans (tabB_get _ 260 _ (by omega))) (by omega)
          have hb3 := hb2n.grown hg3 (by simp; omega) (fun k hk => by cases hk; omega)
          clear hA1n hc2n hb2n hA4
          cases hall : allT (fun j => sumB G (200 + j)) 60
          · have hs : isSgB G = false := by
              rw [Bool.eq_false_iff]; intro h
              have h2 := (HWAY.out.1 h).2
              have : allT (fun j => sumB G (200 + j)) 60 = true := allT_true.2 fun j hj => h2 (200 + j) (by omega) (by omega)
              rw [hall] at this; cases this
            have HR := Lib.hid hs
            have HE := Lib.hid (elF_no hs)
            rw [hall] at cc
            clear hall hs hg3
            refine cc.mono ?_
            rintro e w' ⟨rfl, rfl⟩
            go_wp2_with (first
              | (refine wpList_build_arr 62 _ (tabB (fun _ => false) 260) rfl rfl (by simpa [Act.eval] using builtZ) ?_)
              | (refine wpList_store_arr 62 (.tmp 2) (.tmp 39) (w.heap.size + 1) (tabB (fun _ => false) 260) (tabB (fun _ => false) 260) rfl rfl rfl rfl hB1 rfl (sizeTl _) (HT _).out ?_; intro w4 hD1 hg4 hz4; clear hz4))
            have hb4 := hb3.grown hg4 (by omega) (fun k hk => by cases hk; omega)
            exact bodyPost_ret (results_arr_tmp rfl _ _ (w.heap.size + 1) (tabB (fun _ => false) 260) (.array 260 4) rfl hD1 undT rfl (sizeTl _)) rfl ⟨by rw [HR.out, HE.out]; rfl, hb4⟩
          · have hs : isSgB G = true := HWAY.out.2 ⟨HK.out, fun n h1 h2 => by have := allT_true.1 hall (n - 200) (by omega); simpa [show 200 + (n - 200) = n by omega] using this⟩
            have HR := Lib.hid hs
            have HE := Lib.hid (elF_yes hs)
            rw [hall] at cc
            clear hall hs hg3
            refine cc.mono ?_
            rintro e w' ⟨rfl, rfl⟩
            go_wp2_with (first
              | (refine wpList_load_arr 62 (.tmp 4) w2.heap.size (tabB (sumB G) 260) (.array 260 4) rfl rfl rfl hB4 undT rfl (sizeTl _) ?_)
              | (refine wpList_store_arr 62 (.tmp 2) (.tmp 40) (w.heap.size + 1) (tabB (fun _ => false) 260) (tabB (sumB G) 260) rfl rfl rfl rfl hB1 (by rw [tabB_length, tabB_length]) (sizeTl _) (HT _).out ?_; intro w4 hD1 hg4 hz4; clear hz4))
            have hb4 := hb3.grown hg4 (by omega) (fun k hk => by cases hk; omega)
            exact bodyPost_ret (results_arr_tmp rfl _ _ (w.heap.size + 1) (tabB (sumB G) 260) (.array 260 4) rfl hD1 undT rfl (sizeTl _)) rfl ⟨by rw [HR.out, HE.out]; rfl, hb4⟩
        · have hkl : ((minOf G).length : Int) < (G.length : Int) := by omega
          have hs : isSgB G = false := by rw [Bool.eq_false_iff]; intro h; exact hk (HWAY.out.1 h).1
          have HR := Lib.hid hs
          have HE := Lib.hid (elF_no hs)
          clear hs hk
          go_wp2_with (first
            | (refine wpList_alloc_arr 62 (tabB (fun _ => false) 260) zeroT rfl rfl ?_)
            | (refine wpList_store_arr 62 (.tmp 4) (.tmp 27) w2.heap.size (tabB (fun _ => false) 260) (tabB (sumB G) 260) rfl rfl rfl rfl hA4 (by rw [tabB_length, tabB_length]) (sizeTl _) (HT _).out ?_; intro w3 hB4 hg3 hz3; have hs3 : w2.heap.size + 1 ≤ w3.heap.size := (by rw [hz3]; simp); clear hz3; have hc3 := hg3.cell hc2n (by simp; omega); have hB1 := hA1n.grown hg3 (by simp; omega))
            | (refine wpList_build_arr 62 _ (tabB (fun _ => false) 260) rfl rfl (by simpa [Act.eval] using builtZ) ?_)
            | (refine wpList_store_arr 62 (.tmp 2) (.tmp 39) (w.heap.size + 1) (tabB (fun _ => false) 260) (tabB (fun _ => false) 260) rfl rfl rfl rfl hB1 rfl (sizeTl _) (HT _).out ?_; intro w4 hD1 hg4 hz4; clear hz4))
          have hb3 := hb2n.grown hg3 (by simp; omega) (fun k hk => by cases hk; omega)
          have hb4 := hb3.grown hg4 (by omega) (fun k hk => by cases hk; omega)
          exact bodyPost_ret (results_arr_tmp rfl _ _ (w.heap.size + 1) (tabB (fun _ => false) 260) (.array 260 4) rfl hD1 undT rfl (sizeTl _)) rfl ⟨by rw [HR.out, HE.out]; rfl, hb4⟩
  · have hi12 : 12 < (G.length : Int) := by omega
    have hs : isSgB G = false := by unfold isSgB; rw [decide_eq_false h12]; simp
    have HR := Lib.hid hs
    have HE := Lib.hid (elF_no hs)
    clear cl h12 hs hr hrW
    have hW := HW.out
    rw [hW] at hA1 hb0
    clear hW HW hc0 hWs
    go_enter Tryz.func42, Tryz.ntmps42
    go_wp2_with (first
      | (refine wpList_alloc_arr 62 (tabB (fun _ => false) 260) zeroT rfl rfl ?_)
      | (refine wpList_build_arr 62 _ (tabB (fun _ => false) 260) rfl rfl (by simpa [Act.eval] using builtZ) ?_)
      | (refine wpList_store_arr 62 (.tmp 2) (.tmp 22) (w.heap.size + 1) (tabB (fun _ => false) 260) (tabB (fun _ => false) 260) rfl rfl rfl rfl hA1 rfl (sizeTl _) (HT _).out ?_; intro w3 hB1 hg3 hz3; clear hz3))
    have hb3 := hb0.grown hg3 hb0.size (fun k hk => by cases hk; omega)
    exact bodyPost_ret (results_arr_tmp rfl _ _ (w.heap.size + 1) (tabB (fun _ => false) 260) (.array 260 4) rfl hB1 undT rfl (sizeTl _)) rfl ⟨by rw [HR.out, HE.out]; rfl, hb3⟩
end Go.Proofs.YtdjjagpecbflnaaGreatDoor
