/-
  CONTRACTS of the program's chapter 22: (gluing).semigroup, which defers twice. (Own work.)
-/
import Derived.Test.YtipfonpaaebjjaaGreatI77b
import Derived.Test.YtipfonpaaebjjaaGreatI70c
namespace Go.Proofs.YtipfonpaaebjjaaGreat
open Go Go.RowKit
attribute [local go_sem] Oper.semAt_some

theorem own_slvG2 {w : World} {lo n c : Nat} {a : Option Addr} {xs : List Value} (h : w.ownsRow lo 3 1 (.slice a n c) n xs) : SlV w a xs := by
  obtain ⟨a', c', e, -, -, hs, -⟩ := SlV.of_owns h
  cases e
  exact hs

set_option maxRecDepth 100000 in
set_option maxHeartbeats 3200000 in
theorem impl_gluSg (A B : List Int) (x y : Int) (lo ga ca gb cb : Nat) (w : World) (hoA : w.ownsRow lo 3 1 (.slice (some ⟨ga, 0, none⟩) A.length ca) A.length (A.map (Value.int .i64))) (hoB : w.ownsRow lo 3 1 (.slice (some ⟨gb, 0, none⟩) B.length cb) B.length (B.map (Value.int .i64))) (hne : ga ≠ gb)
    (hA : ∀ z ∈ A, 1 ≤ z ∧ z ≤ 60) (hB : ∀ z ∈ B, 1 ≤ z ∧ z ≤ 60) (hx : 1 ≤ x ∧ x ≤ 60) (hy : 1 ≤ y ∧ y ≤ 60) (hlA : A.length ≤ 12) (hlB : B.length ≤ 12) (hAn : A ≠ []) (hBn : B ≠ []) :
    Calls Tryz.prog 38 #[.agg #[.slice (some ⟨ga, 0, none⟩) A.length ca, .slice (some ⟨gb, 0, none⟩) B.length cb, .int .i64 x, .int .i64 y]] w fun e w' =>
      ∃ v, e = .returned (.tuple #[.agg #[v], .bool (fromB (timesL A x ++ timesL B y))]) ∧ w'.ownsRow w.heap.size 3 1 v (fromL (timesL A x ++ timesL B y)).length ((fromL (timesL A x ++ timesL B y)).map (Value.int .i64)) ∧
        w'.ownsRow lo 3 1 (.slice (some ⟨ga, 0, none⟩) A.length ca) A.length (A.map (Value.int .i64)) ∧ w'.ownsRow lo 3 1 (.slice (some ⟨gb, 0, none⟩) B.length cb) B.length (B.map (Value.int .i64)) ∧ Below lo w w' ∧ ∀ k, k < w.heap.size → k ≠ ga → k ≠ gb → w'.heap[k]? = w.heap[k]? := by
  obtain ⟨dS, hdS, hrS⟩ := undSg
  have hga := hoA.lt ga rfl
  have hgb := hoB.lt gb rfl
  obtain ⟨U, hU⟩ : ∃ U, U = w.alloc (.cells [Value.slice (some ⟨ga, 0, none⟩) A.length ca, .slice (some ⟨gb, 0, none⟩) B.length cb, .int .i64 x, .int .i64 y].toArray 49) := ⟨_, rfl⟩
  obtain ⟨V, hV⟩ : ∃ V, V = U.alloc (.cells [Value.slice none 0 0].toArray 26) := ⟨_, rfl⟩
  have hUe : U.heap.size = w.heap.size + 1 := by rw [hU]; simp
  have hAU : Arr U w.heap.size 49 [Value.slice (some ⟨ga, 0, none⟩) A.length ca, .slice (some ⟨gb, 0, none⟩) B.length cb, .int .i64 x, .int .i64 y] := by rw [hU]; exact Arr.new _ _ _
  have hGV : Arr V w.heap.size 49 [Value.slice (some ⟨ga, 0, none⟩) A.length ca, .slice (some ⟨gb, 0, none⟩) B.length cb, .int .i64 x, .int .i64 y] := by rw [hV]; exact hAU.alloc _
  have hSV : Arr V (w.heap.size + 1) 26 [Value.slice none 0 0] := by rw [hV, ← hUe]; exact Arr.new _ _ _
  have hoAV : V.ownsRow lo 3 1 (.slice (some ⟨ga, 0, none⟩) A.length ca) A.length (A.map (Value.int .i64)) := by rw [hV, hU]; exact (hoA.alloc _).alloc _
  have hoBV : V.ownsRow lo 3 1 (.slice (some ⟨gb, 0, none⟩) B.length cb) B.length (B.map (Value.int .i64)) := by rw [hV, hU]; exact (hoB.alloc _).alloc _
  have hbV : Below w.heap.size w V := by rw [hV, hU]; exact (box_below _ _).alloc (by simp) _
  have hVe : V.heap.size = w.heap.size + 2 := by rw [hV]; simp [hUe]
  have HV : Hid (V = (w.alloc (.cells #[Value.slice (some ⟨ga, 0, none⟩) A.length ca, .slice (some ⟨gb, 0, none⟩) B.length cb, .int .i64 x, .int .i64 y] 49)).alloc (.cells [Value.slice none 0 0].toArray 26)) := Lib.hid (by rw [hV, hU])
  obtain ⟨M1, hM1⟩ : ∃ M, M = timesL A x := ⟨_, rfl⟩
  obtain ⟨M2, hM2⟩ : ∃ M, M = timesL B y := ⟨_, rfl⟩
  have hl1 : M1.length = A.length := by rw [hM1]; unfold timesL; rw [List.length_map]
  have hl2 : M2.length = B.length := by rw [hM2]; unfold timesL; rw [List.length_map]
  have c1 := impl_multiply A x lo ga ca V hoAV hA hx (by omega)
  have c2 := fun w' h => impl_multiply B y lo gb cb w' h hB hy (by omega)
  rw [← hM1] at c1 ⊢
  rw [← hM2] at c2 ⊢
  obtain ⟨M, hM⟩ : ∃ M, M = M1 ++ M2 := ⟨_, rfl⟩
  have hlM : M.length ≤ 24 := by rw [hM, List.length_append]; omega
  rw [← hM]
  have HMM := Lib.hid hM
  clear hM
  rw [hVe] at c1
  have HM1 := Lib.hid hM1
  have HM2 := Lib.hid hM2
  have hv0 := hGV.cell 0
  have hv2 := hGV.cell 2
  clear hV hU hAU hoA hoB hoAV hM1 hM2
  go_enter_defers Tryz.func38, Tryz.ntmps38
  go_wp2_with (first | (refine wpList_alloc_arr 26 [Value.slice none 0 0] zeroSg rfl rfl ?_; rw [← HV.out]))
  go_wp2_with fail
  refine c1.mono ?_
  rintro e w1 ⟨rfl, hoA1, hp1, hq1, hg1, hz1⟩
  have hGA1 := hGV.grown hg1 (by simp; omega)
  have hSA1 := hSV.grown hg1 (by simp; omega)
  have hoB1 := hoBV.kept hg1 (.inr (by simp [Value.ownBlock]; omega))
  have hv1 := hGA1.cell 1
  have hv3 := hGA1.cell 3
  clear c1 hv0 hv2 hoBV
  go_wp2_with fail
  refine (c2 _ hoB1).mono ?_
  rintro e w2 ⟨rfl, hoB2, hp2, hq2, hg2, hz2⟩
  have hGA2 := hGA1.grown hg2 (by simp; omega)
  have hSA2 := hSA1.grown hg2 (by simp; omega)
  have hoA2 := hoA1.kept hg2 (.inr (by simp [Value.ownBlock]; omega))
  have hpa2 := hg2.cell hp1 (by simp; omega)
  have hqa2 := hg2.cell hq1 (by simp; omega)
  have hb2 : Below lo w w2 := ((hbV.mono (show lo ≤ w.heap.size by omega)).grown hg1 (by omega) (fun k hk => by cases hk; omega)).grown hg2 (by have := hg1.size; omega) (fun k hk => by cases hk; omega)
  have hs1 := hg1.size
  have hs2 := hg2.size
  have hv0 := hGA2.cell 0
  have hv1' := hGA2.cell 1
  clear c2 hv1 hv3 hoB1 hoA1 hp1 hq1 hGA1 hSA1
  obtain ⟨Y, hY⟩ : ∃ Y, Y = w2.alloc (.cells #[.slice (some ⟨ga, 0, none⟩) A.length ca, .slice (some ⟨gb, 0, none⟩) B.length cb] 24) := ⟨_, rfl⟩
  have hbY : Below w2.heap.size w2 Y := by rw [hY]; exact box_below _ _
  have hA2 := Arr.new w2 24 [.slice (some ⟨ga, 0, none⟩) A.length ca, .slice (some ⟨gb, 0, none⟩) B.length cb]
  have hsA : SlV Y (some ⟨ga, 0, none⟩) (M1.map (Value.int .i64)) := (own_slvG2 hoA2).below hbY
  have hsB : SlV Y (some ⟨gb, 0, none⟩) (M2.map (Value.int .i64)) := (own_slvG2 hoB2).below hbY
  have cC := impl_Concat2 M1 M2 (some ⟨ga, 0, none⟩) ca (some ⟨gb, 0, none⟩) cb w2.heap.size Y (by intro h; rw [h] at hl1; exact hAn (List.length_eq_zero_iff.1 hl1.symm)) (by intro h; rw [h] at hl2; exact hBn (List.length_eq_zero_iff.1 hl2.symm)) (by omega) (by omega) hsA hsB (by rw [hY]; simp) (by rw [hY, hl1]; exact hA2.cell 0) (by rw [hY, hl2]; exact hA2.cell 1)
  have HY := Lib.hid hY
  have hYe : Y.heap.size = w2.heap.size + 1 := by rw [hY]; simp
  clear hY hA2 hsA hsB
  rw [← HMM.out] at cC
  rw [HY.out] at cC
  go_wp2_with fail
  refine cC.mono ?_
  rw [← HY.out]
  rintro e w3 ⟨v3, rfl, ho3, hb3⟩
  obtain ⟨a3, k3, rfl, rX3⟩ := row_open ho3
  have hbY3 := hbY.trans (hb3.mono hbY.size)
  have cf := impl_FromGens M a3 k3 w3 rX3.slw (by omega)
  clear cC rX3 ho3 hv0 hv1' HY
  generalize hfb : fromB M = fb at *
  generalize hK : fromL M = K at *
  have HFB := Lib.hid hfb
  have HK := Lib.hid hK
  clear hK hfb
  go_wp2_with fail
  refine cf.mono ?_
  rintro e w5 ⟨v5, rfl, ho5, hb5⟩
  have hb5Y := hbY3.trans (hb5.mono hbY3.size)
  have hz3 := hbY3.size
  clear cf
  obtain ⟨a9, k9, rfl, -⟩ := row_open ho5
  have hS5 := hSA2.below hb5Y
  have hp5 := (hb5Y.cell (p := ⟨w.heap.size + 2, 0, none⟩) (show w.heap.size + 2 < w2.heap.size by omega)).trans hpa2
  have hq5 := (hb5Y.cell (p := ⟨w.heap.size + 2 + 1, 0, none⟩) (show w.heap.size + 2 + 1 < w2.heap.size by omega)).trans hqa2
  have hpb5 := (hb5Y.cell (p := ⟨w1.heap.size, 0, none⟩) (show w1.heap.size < w2.heap.size by omega)).trans hp2
  have hqb5 := (hb5Y.cell (p := ⟨w1.heap.size + 1, 0, none⟩) (show w1.heap.size + 1 < w2.heap.size by omega)).trans hq2
  have hoA5 := owns_below hoA2 hb5Y
  have hoB5 := owns_below hoB2 hb5Y
  have hap := own_apart ho5 (g := w.heap.size + 1) (.inl (by omega))
  have hbw5 : Below lo w w5 := hb2.trans (hb5Y.mono (by omega))
  clear hoA2 hoB2 hpa2 hqa2 hp2 hq2 hSA2 hGA2
  go_wp2_with (first | (refine wpList_store_arr 26 (.tmp 2) (.tmp 25) (w.heap.size + 1) [Value.slice none 0 0] [Value.slice a9 K.length k9] rfl rfl rfl rfl hS5 rfl sizeSg (by simp [Value.oneCell']) ?_; intro w9 hS9 hg9 hz9; clear hz9))
  have hz5 := hb5Y.size
  have hp9 := hg9.cell hp5 (by simp <;> omega)
  have hq9 := hg9.cell hq5 (by simp <;> omega)
  have hpb9 := hg9.cell hpb5 (by simp; omega)
  have hqb9 := hg9.cell hqb5 (by simp; omega)
  have hoA9 := hoA5.kept hg9 (.inr (by simp [Value.ownBlock] <;> omega))
  have hoB9 := hoB5.kept hg9 (.inr (by simp [Value.ownBlock] <;> omega))
  have ho9 := ho5.kept hg9 hap
  have hbw9 := hbw5.grown hg9 (by omega) (fun k hk => by cases hk; omega)
  clear hp5 hq5 hpb5 hqb5 hoA5 hoB5 hbw5
  rw [HM1.out] at hoA9
  rw [HM2.out] at hoB9
  refine leaves_cons (f := 115) (args := #[.pointer (some ⟨w1.heap.size, 0, none⟩), .pointer (some ⟨w1.heap.size + 1, 0, none⟩)]) (by simp) (by simp [go_sem]) ?_
  refine (impl_restore B y lo gb cb w1.heap.size (w1.heap.size + 1) _ w9 hoB9 hB hy (by omega) hpb9 hqb9 (by omega) (by omega)).mono ?_
  rintro e u' w10 ⟨rfl, rfl, hoB10, hg10⟩
  have hS10 := hS9.grown hg10 (by simp; omega)
  have hp10 := hg10.cell hp9 (by simp; omega)
  have hq10 := hg10.cell hq9 (by simp; omega)
  have hoA10 := hoA9.kept hg10 (.inr (by simp [Value.ownBlock]; omega))
  have hz10 := hg10.size
  have hz9 := hg9.size
  have ho10 := ho9.kept hg10 (own_apart ho9 (.inl (by omega)))
  have hbw10 := hbw9.grown hg10 (by omega) (fun k hk => by cases hk; omega)
  refine leaves_cons (f := 115) (args := #[.pointer (some ⟨w.heap.size + 2, 0, none⟩), .pointer (some ⟨w.heap.size + 2 + 1, 0, none⟩)]) (by simp [settle]) (by simp [go_sem]) ?_
  refine (impl_restore A x lo ga ca (w.heap.size + 2) (w.heap.size + 2 + 1) _ w10 hoA10 hA hx (by omega) hp10 hq10 (by omega) (by omega)).mono ?_
  rintro e u'' w11 ⟨rfl, rfl, hoA11, hg11⟩
  have hS11 := hS10.grown hg11 (by simp; omega)
  have hoB11 := hoB10.kept hg11 (.inr (by simp [Value.ownBlock]; omega))
  have ho11 := ho10.kept hg11 (own_apart ho10 (.inl (by omega)))
  have hbw11 := hbw10.grown hg11 (by omega) (fun k hk => by cases hk; omega)
  have hsz11 := hg11.size
  have hbl : ∀ k, k < w.heap.size → k ≠ ga → k ≠ gb → w11.heap[k]? = w.heap[k]? := fun k hk h1 h2 =>
    (hg11.block k (by omega) (by simp; omega)).trans ((hg10.block k (by omega) (by simp; omega)).trans ((hg9.block k (by omega) (by simp; omega)).trans ((hb5Y.block k (by omega)).trans ((hg2.block k (by omega) (by simp; omega)).trans ((hg1.block k (by omega) (by simp; omega)).trans (hbV.block k hk))))))
  exact ⟨_, results_arr_tmp rfl _ _ (w.heap.size + 1) [Value.slice a9 K.length k9] dS rfl hS11 hdS hrS sizeSg, ⟨_, by rw [HFB.out]; rfl, by rw [HK.out]; exact ownsBase ho11 (by omega), hoA11, hoB11, hbw11, hbl⟩⟩
end Go.Proofs.YtipfonpaaebjjaaGreat
