/-
  CONTRACTS of the program's chapter 18: AddOf. (Own work: mkI63.py.)
-/
import Derived.Test.YtljfiiohiolbnaaI58
import Derived.Test.YtljfiiohiolbnaaI32
import Derived.Laws.CopyOwn
namespace Go.Proofs.Ytljfiiohiolbnaa
open Go Go.RowKit
attribute [local go_sem] Oper.semAt_some

theorem addr_addQ (b o j : Nat) : (⟨b, o, none⟩ : Addr).add j = ⟨b, o + j, none⟩ := by
  unfold Addr.add
  split
  · next h => subst h; rfl
  · rfl
theorem ints_oneQ (L : List Int) : ∀ u ∈ L.map (Value.int .i64), u.oneCell' = true := fun u hu => by obtain ⟨x, -, rfl⟩ := List.mem_map.1 hu; rfl
theorem heap_zero {w1 : World} {base g M : Nat} (h : w1.ownsRow base 3 1 (.slice (some ⟨g, 0, none⟩) M M) M (madeCells (Value.int .i64 0).cells (M * 1)).toList) : Hid (w1.heap[g]? = some (.cells (List.replicate M (Value.int .i64 0)).toArray 3 (0, 0))) := by
  have e : (madeCells (Value.int .i64 0).cells (M * 1)).toList = List.replicate M (Value.int .i64 0) := by rw [Nat.mul_one]; exact toList_madeCells_one _ _
  rw [e] at h
  obtain ⟨-, ⟨h1, -⟩ | ⟨g', cap, cur, hv, -, hg, -, -, hc, ht⟩⟩ := h
  · cases h1
  · cases hv
    refine Lib.hid ?_
    rw [hg]
    have : cur = (List.replicate M (Value.int .i64 0)).toArray := by
      rw [← ht, List.take_of_length_le (by rw [Array.length_toList]; omega)]
    rw [this]
theorem own_heap {w : World} {base g M : Nat} {xs : List Value} (hl : xs.length = M) (hb : base ≤ g) (hm : M ≤ maxLen) (hg : w.heap[g]? = some (.cells xs.toArray 3 (0, 0))) : w.ownsRow base 3 1 (.slice (some ⟨g, 0, none⟩) M M) M xs :=
  ⟨by rw [hl, Nat.mul_one], .inr ⟨g, M, xs.toArray, rfl, hb, hg, Nat.le_refl _, hm, by simp [hl], by simp [← hl]⟩⟩
theorem splice_two {Z A B : List Value} (h1 : Z.length ≤ A.length + B.length) (h2 : A.length + B.length ≤ Z.length) : splice (splice Z 0 A) A.length B = A ++ B := by
  have h := splice_splice_splice Z A B [] A.length B.length rfl rfl (by simp; omega)
  have e : ∀ (L : List Value) (n : Nat), splice L n ([] : List Value) = L := fun L n => by simp [splice]
  rw [List.append_nil, e] at h
  exact h
set_option maxRecDepth 100000 in
set_option maxHeartbeats 1600000 in
theorem impl_AddOf (A B : List Int) (a : Option Addr) (ca : Nat) (b : Option Addr) (cb : Nat) (w : World) (hra : SlV w a (A.map (Value.int .i64))) (hrb : SlV w b (B.map (Value.int .i64))) (hba : A.length ≤ 1048576) (hbb : B.length ≤ 1048576) :
    Calls Try.prog 25 #[.agg #[.slice a A.length ca], .agg #[.slice b B.length cb]] w (SgPost (addL A B) (addB A B) w) := by
  obtain ⟨i0, hi, hz0, hz1, hz2⟩ := info_parts infoIntL
  obtain ⟨dS, hdS, hrS⟩ := undSg
  obtain ⟨U, hU⟩ : ∃ U, U = ((w.alloc (.cells #[.slice a A.length ca] 26)).alloc (.cells #[.slice b B.length cb] 26)) := ⟨_, rfl⟩
  obtain ⟨V, hV⟩ : ∃ V, V = U.alloc (.cells [Value.slice none 0 0].toArray 26) := ⟨_, rfl⟩
  have hbU : Below w.heap.size w U := by rw [hU]; exact (box_below _ _).alloc (by simp) _
  have hUe : U.heap.size = w.heap.size + 2 := by rw [hU]; simp
  have hcAU : U.cell? ⟨w.heap.size, 0, none⟩ = some (.slice a A.length ca) := by rw [hU]; exact (World.cell?_alloc_lt _ _ ⟨w.heap.size, 0, none⟩ (by simp)).trans (box_cell w _)
  have hcBU : U.cell? ⟨w.heap.size + 1, 0, none⟩ = some (.slice b B.length cb) := by rw [hU]; have := box_cell (w.alloc (.cells #[.slice a A.length ca] 26)) (.slice b B.length cb); rw [show (w.alloc (.cells #[.slice a A.length ca] 26)).heap.size = w.heap.size + 1 by simp] at this; exact this
  have hbUV : Below U.heap.size U V := by rw [hV]; exact box_below _ _
  have hbV := hbU.trans (hbUV.mono hbU.size)
  have hAV : Arr V (w.heap.size + 2) 26 [Value.slice none 0 0] := by rw [hV, ← hUe]; exact Arr.new _ _ _
  have hVs : w.heap.size + 2 < V.heap.size := hAV.lt
  have HAV := Lib.hid hAV
  have HV : Hid (V = (((w.alloc (.cells #[.slice a A.length ca] 26)).alloc (.cells #[.slice b B.length cb] 26)).alloc (.cells [Value.slice none 0 0].toArray 26))) := Lib.hid (by rw [hV, hU])
  have HKV : Hid (∀ w2, Below V.heap.size V w2 → w2.cell? ⟨w.heap.size, 0, none⟩ = some (.slice a A.length ca) ∧ w2.cell? ⟨w.heap.size + 1, 0, none⟩ = some (.slice b B.length cb)) := Lib.hid fun w2 h => ⟨((h.cell (p := ⟨w.heap.size, 0, none⟩) (show w.heap.size < V.heap.size by omega)).trans (hbUV.cell (p := ⟨w.heap.size, 0, none⟩) (show w.heap.size < U.heap.size by omega))).trans hcAU, ((h.cell (p := ⟨w.heap.size + 1, 0, none⟩) (show w.heap.size + 1 < V.heap.size by omega)).trans (hbUV.cell (p := ⟨w.heap.size + 1, 0, none⟩) (show w.heap.size + 1 < U.heap.size by omega))).trans hcBU⟩
  obtain ⟨hkA, hkB⟩ := HKV.out V (Below.refl _ _)
  clear hU hV hbU hbUV hcAU hcBU hAV hUe
  have c1 := impl_IsSemigroup A a ca V (hra.below hbV) hba
  have c2 := fun w' (h : Below V.heap.size V w') => impl_IsSemigroup B b cb w' (hrb.below (hbV.trans (h.mono hbV.size))) hbb
  cases hsa : isSgB A
  · have HB : Hid (addB A B = false) := Lib.hid (by unfold addB; rw [hsa]; simp)
    have HL : Hid (addL A B = []) := Lib.hid (by unfold addL; rw [hsa]; simp)
    rw [hsa] at c1
    clear hsa hra hrb c2 hi hz0 hz1 hz2
    go_enter Try.func25, Try.ntmps25
    go_wp2_with (first | (refine wpList_alloc_arr 26 [Value.slice none 0 0] zeroSg rfl rfl ?_; rw [← HV.out]))
    refine c1.mono ?_
    rintro e w1 ⟨rfl, hb1⟩
    clear c1 hkA hkB
    have hA9' := HAV.out.below hb1
    go_wp2_with (first | (refine wpList_store_arr 26 (.tmp 4) (.tmp 16) (w.heap.size + 2) [Value.slice none 0 0] [Value.slice none 0 0] rfl rfl rfl rfl hA9' rfl sizeSg (by simp [Value.oneCell']) ?_; intro w9 hA9 hg9 hz9; clear hz9))
    have hb9 := (hbV.trans (hb1.mono hbV.size)).grown hg9 (hbV.trans (hb1.mono hbV.size)).size (fun k hk => by cases hk; omega)
    exact bodyPost_ret (results_arr_tmp rfl _ _ (w.heap.size + 2) [Value.slice none 0 0] dS rfl hA9 hdS hrS sizeSg) rfl ⟨_, by rw [HB.out]; rfl, by rw [HL.out]; exact World.ownsRow_nil _ _ _ _, hb9⟩
  · rw [hsa] at c1
    cases hsb : isSgB B
    · have HB : Hid (addB A B = false) := Lib.hid (by unfold addB; rw [hsb]; simp)
      have HL : Hid (addL A B = []) := Lib.hid (by unfold addL; rw [hsb]; simp)
      rw [hsb] at c2
      clear hsa hsb hra hrb hi hz0 hz1 hz2
      go_enter Try.func25, Try.ntmps25
      go_wp2_with (first | (refine wpList_alloc_arr 26 [Value.slice none 0 0] zeroSg rfl rfl ?_; rw [← HV.out]))
      refine c1.mono ?_
      rintro e w1 ⟨rfl, hb1⟩
      obtain ⟨hk1, hk2⟩ := HKV.out w1 hb1
      have c21 := c2 w1 hb1
      clear c1 c2 hkA hkB
      go_wp2_with fail
      refine c21.mono ?_
      rintro e w2 ⟨rfl, hb2⟩
      have hb12 := hb1.trans (hb2.mono hb1.size)
      clear c21 hk1 hk2 hb2 hb1
      have hA9' := HAV.out.below hb12
      go_wp2_with (first | (refine wpList_store_arr 26 (.tmp 4) (.tmp 16) (w.heap.size + 2) [Value.slice none 0 0] [Value.slice none 0 0] rfl rfl rfl rfl hA9' rfl sizeSg (by simp [Value.oneCell']) ?_; intro w9 hA9 hg9 hz9; clear hz9))
      have hb9 := (hbV.trans (hb12.mono hbV.size)).grown hg9 (hbV.trans (hb12.mono hbV.size)).size (fun k hk => by cases hk; omega)
      exact bodyPost_ret (results_arr_tmp rfl _ _ (w.heap.size + 2) [Value.slice none 0 0] dS rfl hA9 hdS hrS sizeSg) rfl ⟨_, by rw [HB.out]; rfl, by rw [HL.out]; exact World.ownsRow_nil _ _ _ _, hb9⟩
    · rw [hsb] at c2
      have HB : Hid (addB A B = fromB (A ++ B)) := Lib.hid (by unfold addB; rw [hsa, hsb]; rfl)
      have HL : Hid (addL A B = fromL (A ++ B)) := Lib.hid (by unfold addL; rw [hsa, hsb]; rfl)
      have hlA := (isSgB_iff.1 hsa).len
      have hlB := (isSgB_iff.1 hsb).len
      have hA0 : 0 < A.length := (okG_iff.1 (isSgB_iff.1 hsa).ok).2.1
      have hB0 : 0 < B.length := (okG_iff.1 (isSgB_iff.1 hsb).ok).2.1
      obtain ⟨bg, og, rfl, hbg, hcg⟩ := hra.open (by intro h; rw [List.map_eq_nil_iff] at h; subst h; simp at hA0)
      obtain ⟨bh, oh, rfl, hbh, hch⟩ := hrb.open (by intro h; rw [List.map_eq_nil_iff] at h; subst h; simp at hB0)
      obtain ⟨A1, hA1⟩ : ∃ A1, A1 = A.map (Value.int .i64) := ⟨_, rfl⟩
      obtain ⟨B1, hB1⟩ : ∃ B1, B1 = B.map (Value.int .i64) := ⟨_, rfl⟩
      have HCA : Hid (∀ w2, Below V.heap.size V w2 → ∀ j u, A1[j]? = some u → w2.cell? ((⟨bg, og, none⟩ : Addr).add j) = some u) := Lib.hid fun w2 h j u hj => by rw [addr_addQ]; exact ((hbV.trans (h.mono hbV.size)).cell (p := ⟨bg, og + j, none⟩) hbg).trans (hcg j u (by rw [← hA1]; exact hj))
      have HCB : Hid (∀ w2, Below V.heap.size V w2 → ∀ j u, B1[j]? = some u → w2.cell? ((⟨bh, oh, none⟩ : Addr).add j) = some u) := Lib.hid fun w2 h j u hj => by rw [addr_addQ]; exact ((hbV.trans (h.mono hbV.size)).cell (p := ⟨bh, oh + j, none⟩) hbh).trans (hch j u (by rw [← hB1]; exact hj))
      have hA1l : A1.length ≤ A.length ∧ A.length ≤ A1.length := by rw [hA1]; simp
      have hB1l : B1.length ≤ B.length ∧ B.length ≤ B1.length := by rw [hB1]; simp
      have HA1 : Hid (∀ u ∈ A1, u.oneCell' = true) := Lib.hid (by rw [hA1]; exact ints_oneQ A)
      have HB1 : Hid (∀ u ∈ B1, u.oneCell' = true) := Lib.hid (by rw [hB1]; exact ints_oneQ B)
      have HAB : Hid (A1 ++ B1 = (A ++ B).map (Value.int .i64)) := Lib.hid (by rw [hA1, hB1, List.map_append])
      have HK : Hid (∀ w2, Below V.heap.size V w2 → w2.cell? ⟨w.heap.size + 1, 0, none⟩ = some (.slice (some ⟨bh, oh, none⟩) B.length cb) ∧ Below V.heap.size V w2) := Lib.hid fun w2 h => ⟨(HKV.out w2 h).2, h⟩
      have HSZ : Hid ((Try.prog.info? 3).map (·.size) = some 1) := Lib.hid (by rw [hi]; exact congrArg some hz1)
      obtain ⟨M, hM⟩ : ∃ M, M = A.length + B.length := ⟨_, rfl⟩
      have hMi : (A.length : Int) + (B.length : Int) = (M : Int) := by omega
      have hMl : (A ++ B).length = M := by rw [List.length_append]; omega
      have HML := Lib.hid hMl
      have hM2 : A1.length + B1.length ≤ M ∧ M ≤ A1.length + B1.length := by omega
      have hAM : (A1.length : Int) < (M : Int) := by omega
      have hA1p : (0 : Int) ≤ (A1.length : Int) := by omega
      have hAle : A1.length ≤ M := by omega
      have hAne : ¬ M = A1.length := by omega
      have hMb : M ≤ 24 := by omega
      clear hM hMl hsa hsb hra hrb hbg hcg hbh hch hA1 hB1 hA0 hB0
      go_enter Try.func25, Try.ntmps25
      go_wp2_with (first | (refine wpList_alloc_arr 26 [Value.slice none 0 0] zeroSg rfl rfl ?_; rw [← HV.out]))
      refine c1.mono ?_
      rintro e w1 ⟨rfl, hb1⟩
      obtain ⟨hk1, hk2⟩ := HKV.out w1 hb1
      have c21 := c2 w1 hb1
      clear c1 c2 hkA hkB
      go_wp2_with fail
      refine c21.mono ?_
      rintro e w2 ⟨rfl, hb2⟩
      have hb12 := hb1.trans (hb2.mono hb1.size)
      clear c21 hk1 hk2 hb2 hb1
      obtain ⟨hk1, hk2⟩ := HKV.out w2 hb12
      have hg0 := hb12.size
      go_wp2_with (first | (at_make; refine wpList_make_full _ rfl _ _ 24 rfl w2.heap.size 3 i0 (Value.int .i64 0) 1 Try.underlying24 hi hz0 hz1 .i64 .i64 _ _ M rfl rfl (by first | rfl | (simp; done) | omega) (by first | rfl | (simp; done) | omega) (by rw [hz2]; omega) (by unfold maxLen; omega) (Nat.le_refl _) ?_; intro w3 hown hgrow; have HZ := heap_zero hown; have hb3 := hb12.grown hgrow hg0 (fun k h => by cases h); obtain ⟨hk3, hk4⟩ := HKV.out w3 hb3; obtain ⟨Z, hZ⟩ : ∃ Z, Z = List.replicate M (Value.int .i64 0) := ⟨_, rfl⟩; rw [← hZ] at HZ; have hZl : Z.length ≤ M ∧ M ≤ Z.length := (by rw [hZ]; simp); have HZE := Lib.hid hZ; clear hown hgrow hZ) | (refine wpList_copy_splice rfl (.tmp 25) (.tmp 27) 24 24 rfl 3 Try.underlying24 HSZ.out _ _ _ _ _ _ rfl rfl w2.heap.size 0 Z 3 HZ.out A1 (by show _ = min _ _; omega) (fun _ => ⟨rfl, _, rfl, HCA.out _ hb3⟩) (by omega) HA1.out V.heap.size V hb3 hg0 ?_; intro w4 HG4 hb4; have hS0 := HK.out _ hb4.drew))
      refine wp_region_held_drew (S := fun w' => w'.cell? ⟨w.heap.size + 1, 0, none⟩ = some (.slice (some ⟨bh, oh, none⟩) B.length cb) ∧ Below V.heap.size V w') (by kernel_rfl) hS0 (fun hHeld => ?_)
      refine held_take 0 _ _ rfl (by kernel_rfl) (by kernel_rfl) (by kernel_rfl) (fun _ _ _ h => h) (by rfl) hHeld (fun w hSw => by (try dsimp only at hSw); go_simp; try with_reducible rfl) ?_
      (try simp only [Act.put, List.setIfInBounds_toArray, List.set_cons_zero, List.set_cons_succ, List.getElem_toArray, List.getElem_cons_zero])
      refine held_take 1 _ _ rfl (by kernel_rfl) (by kernel_rfl) (by kernel_rfl) (fun _ _ _ h => h) (by rfl) hHeld (fun w hSw => by (try dsimp only at hSw); go_simp; try with_reducible rfl) ?_
      (try simp only [Act.put, List.setIfInBounds_toArray, List.set_cons_zero, List.set_cons_succ, List.getElem_toArray, List.getElem_cons_succ, List.getElem_cons_zero])
      refine held_take 2 _ _ rfl (by kernel_rfl) (by kernel_rfl) (by kernel_rfl) (fun _ _ _ h => h) (by rfl) hHeld (fun w hSw => by (try dsimp only at hSw); go_simp; try with_reducible rfl) ?_
      (try simp only [Act.put, List.setIfInBounds_toArray, List.set_cons_zero, List.set_cons_succ, List.getElem_toArray, List.getElem_cons_succ, List.getElem_cons_zero])
      refine held_take 3 _ _ rfl (by kernel_rfl) (by kernel_rfl) (by kernel_rfl) (fun _ _ _ h => h) (by rfl) hHeld (fun w hSw => by (try dsimp only at hSw); go_simp; try with_reducible rfl) ?_
      (try simp only [Act.put, List.setIfInBounds_toArray, List.set_cons_zero, List.set_cons_succ, List.getElem_toArray, List.getElem_cons_succ, List.getElem_cons_zero])
      refine held_take 4 _ _ rfl (by kernel_rfl) (by kernel_rfl) (by kernel_rfl) (fun _ _ _ h => h) (by rfl) hHeld (fun w hSw => by (try dsimp only at hSw); go_simp; try with_reducible rfl) ?_
      (try simp only [Act.put, List.setIfInBounds_toArray, List.set_cons_zero, List.set_cons_succ, List.getElem_toArray, List.getElem_cons_succ, List.getElem_cons_zero])
      refine wpAnyH_ready (rs := [5]) (by kernel_rfl) (by simp) ?_
      refine AllReadyH.cons rfl (fun K hK => ?_) AllReadyH.nil
      refine step_copy_splice rfl (.tmp 31) (.tmp 33) 24 24 rfl 3 Try.underlying24 HSZ.out _ _ _ _ _ _ rfl rfl w2.heap.size A1.length (splice Z 0 A1) 3 HG4.out B1 (by show _ = min _ _; omega) (fun _ => ⟨by first | rfl | (simp; done), _, rfl, HCB.out _ (hHeld).2⟩) (by rw [length_splice _ _ _ (by omega)]; omega) HB1.out V.heap.size V (hHeld).2 hg0 ?_
      intro w6 HG6 hb6
      refine hK.out _ _ (HK.out _ hb6) (fun hHeld1 => ?_)
      clear hK K
      (try simp only [Act.put, List.setIfInBounds_toArray, List.set_cons_zero, List.set_cons_succ, List.getElem_toArray, List.getElem_cons_succ, List.getElem_cons_zero])
      refine wpAnyH_done (by kernel_rfl) ?_ _
      have hb6V := (hHeld1).2
      have hO := own_heap (base := w2.heap.size) (M := M) (by rw [splice_two (by omega) (by omega)]; rw [List.length_append]; omega) (Nat.le_refl _) (by unfold maxLen; omega) HG6.out
      rw [splice_two (by omega) (by omega), HAB.out] at hO
      obtain ⟨aq, kq, eq, rX⟩ := row_open hO
      cases eq
      have cg := impl_FromGens (A ++ B) _ M w6 rX.slw (by rw [HML.out]; omega)
      rw [HML.out] at cg
      clear hS0 hO rX HG6 hb6
      generalize fromL (A ++ B) = K at *
      generalize fromB (A ++ B) = q at *
      go_wp2_with fail
      refine cg.mono ?_
      rintro e w7 ⟨v5, rfl, ho5, hb7⟩
      have hb7V := hb6V.trans (hb7.mono hb6V.size)
      have hz6 := hb6V.size
      clear cg hb7
      have hA5 := HAV.out.below hb7V
      obtain ⟨a5, k5, rfl, -⟩ := row_open ho5
      have hn5 := own_apart ho5 (g := w.heap.size + 2) (.inl (Nat.lt_of_lt_of_le hVs hz6))
      have hbw5 := hbV.trans (hb7V.mono hbV.size)
      have hzw := Nat.le_trans hbV.size hz6
      go_wp2_with (first | (refine wpList_store_arr 26 (.tmp 4) (.tmp 37) (w.heap.size + 2) [Value.slice none 0 0] [Value.slice a5 K.length k5] rfl rfl rfl rfl hA5 rfl sizeSg (by simp [Value.oneCell']) ?_; intro w9 hA9 hg9 hz9; clear hz9))
      have hb9 := hbw5.grown hg9 hbw5.size (fun k hk => by cases hk; omega)
      exact bodyPost_ret (results_arr_tmp rfl _ _ (w.heap.size + 2) [Value.slice a5 K.length k5] dS rfl hA9 hdS hrS sizeSg) rfl ⟨_, by rw [HB.out]; rfl, by rw [HL.out]; exact owns_wider (ho5.kept hg9 hn5) hzw, hb9⟩
end Go.Proofs.Ytljfiiohiolbnaa
