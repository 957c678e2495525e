/-
  CONTRACTS of the reference's chapter 18: MeetOf, AddOf. (Own work: mkL58.py.)
-/
import Derived.Test.YtljfiiohiolbnaaSgId
import Derived.Test.YtljfiiohiolbnaaL26
import Derived.Test.YtljfiiohiolbnaaCh11M
namespace Go.Proofs.Ytljfiiohiolbnaa
open Go Go.RowKit

section
variable {P : Program} {o : Oper} {a : Act} {w : World} {K : Act → World → Prop} {Q : Exit → Act → World → Prop}
theorem wp_alloc_arr (t : TypeId) (cs : List Value) (hz : (P.info? t).map (·.zero) = some (some (.agg cs.toArray))) (ho : o.op = .alloc t)
    (h : K (a.put o.dst (.pointer (some ⟨w.heap.size, 0, none⟩))) (w.alloc (.cells cs.toArray t))) : o.wp P a w K Q := by
  cases hi : P.info? t with
  | none => simp [hi] at hz
  | some it =>
    have hzz : it.zero = some (.agg cs.toArray) := by simpa [hi] using hz
    unfold Oper.wp execOp
    simp only [ho, Sem.run_bind, Instr.alloc, zeroValue, typeInfo, run_program, hi, hzz, newVar, newRow, run_newObj_alloc, Sem.run_pure, Result.andThen_ok, Value.cells]
    exact h
theorem wp_store_arr (t : TypeId) (x y : Operand) (g : Nat) (old cs : List Value) (ho : o.op = .store t x y) (hx : a.eval x = .pointer (some ⟨g, 0, none⟩)) (hy : a.eval y = .agg cs.toArray) (hc : Arr w g t old) (hl : old.length = cs.length)
    (hi : (P.info? t).map (·.size) = some cs.length) (h1 : ∀ v ∈ cs, v.oneCell' = true)
    (h : ∀ w', Arr w' g t cs → w.grownBy w' (some g) → K (a.put o.dst undef) w') : o.wp P a w K Q := by
  refine wp_store_mid t x y ho g 0 cs.toArray hx hy (by have := hc.there; rw [hl] at this; simpa using this) (by simpa using hi) (all_oneCell_toArray h1) ?_
  obtain ⟨k1, k2⟩ := hc.setCells cs hl
  rw [List.toList_toArray]
  exact h _ k1 k2
/-- A row of one's own behind another one. -/
theorem wp_append_rows (w : World) {a : Act} {K : Act → World → Prop} (s x : Operand) (t : TypeId) (ho : o.op = .call { callee := .builtin .append, args := #[s, x], argTypes := #[t, t] }) (i : TypeInfo) (z : Value) (ht : P.underlying t = some (.slice 3)) (hi : P.info? 3 = some i) (hz : i.zero = some z)
    (hsize : i.size = 1) (hby : i.bytes = 8) (hzs : z.cells.size = 1) (base base2 : Nat)
    (v : Value) (n : Nat) (xs : List Value) (hs : a.eval s = v) (hown : w.ownsRow base 3 1 v n xs)
    (v2 : Value) (m : Nat) (ys : List Value) (hx : a.eval x = v2) (hown2 : w.ownsRow base2 3 1 v2 m ys) (h1 : ∀ u ∈ ys, u.oneCell' = true)
    (h63 : n + m ≤ maxLen) (hbytes : (n + m) * 8 ≤ 140737488355328) (hbase : base ≤ w.heap.size)
    (h : ∀ v' w', w'.ownsRow base 3 1 v' (n + m) (xs ++ ys) → w.grownBy w' v.ownBlock → K (a.put o.dst v') w') : o.wp P a w K Q := by
  have hl := hown2.1
  rcases own_cases hown2 with ⟨rfl, rfl⟩ | ⟨g, c, rfl, hc⟩
  · have hy : ys = [] := List.eq_nil_of_length_eq_zero (by omega)
    subst hy
    have hrun := run_append_owned_none (P := P) (w := w) base t o.type 3 i 1 ht hi v n xs hown
    unfold Oper.wp execOp
    simp only [ho, resolve, invoke, builtin, Sem.run_bind, Sem.run_pure, Result.andThen_ok, List.map_toArray, List.map_cons, List.map_nil, hs, hx, hrun]
    exact h v w (by simpa using hown) (grownBy_refl w _)
  · exact wp_append_own_at w s x t ho base 3 i z 1 8 ht hi hz hsize hby hzs (by decide) v n xs hs hown ⟨g, 0, none⟩ m c ys hx (by omega) hc h1 h63 hbytes hbase fun v' w' p q _ _ => h v' w' p q
end
theorem own_slv {w : World} {lo n c : Nat} {a : Option Addr} {xs : List Value} (h : w.ownsRow lo 3 1 (.slice a n c) n xs) : SlV w a xs := by
  obtain ⟨a', c', e, rX⟩ := row_open h
  cases e; exact rX.slv
theorem ne_apart {b : Option Nat} {t : Nat} (h : b = none ∨ b ≠ some t) : some t ≠ b := by
  rcases h with h | h
  · rw [h]; simp
  · exact Ne.symm h
theorem newSgAt {V w : World} (h : Below V.heap.size V w) : Arr (w.alloc (.cells [Value.slice none 0 0].toArray 26)) w.heap.size 26 [Value.slice none 0 0] ∧ V.heap.size ≤ w.heap.size := ⟨Arr.new _ _ _, h.size⟩
theorem le_alloc {n : Nat} {w : World} (h : n ≤ w.heap.size) (o : Obj) : n ≤ (w.alloc o).heap.size := by simp; omega
theorem newRowAt {V w : World} (h : Below V.heap.size V w) : (w.alloc (.cells #[] 3)).ownsRow w.heap.size 3 1 (.slice (some ⟨w.heap.size, 0, none⟩) 0 0) 0 [] ∧ w.heap.size ≤ (w.alloc (.cells #[] 3)).heap.size ∧ V.heap.size ≤ w.heap.size := ⟨World.ownsRow_lit w #[] 0 (Nat.le_refl _) (by simp) rfl, by simp, h.size⟩
theorem apart_next {b b' : Option Nat} {t n : Nat} (h : b = none ∨ b ≠ some t) (hat : b' = b ∨ b' = some n) (ht : t < n) : b' = none ∨ b' ≠ some t := by
  rcases hat with rfl | rfl
  · exact h
  · exact .inr fun e => by cases e; omega
theorem addr_addO (b o j : Nat) : (⟨b, o, none⟩ : Addr).add j = ⟨b, o + j, none⟩ := by
  unfold Addr.add
  split
  · next h => subst h; rfl
  · rfl
theorem row_named {V w w' : World} {v : Value} {n : Nat} {xs : List Value} (hV : V.heap.size ≤ w.heap.size) (ho : w'.ownsRow w.heap.size 3 1 v n xs) : ∃ l h a c, v = .slice a n c ∧ V.heap.size ≤ l ∧ l = w.heap.size ∧ h = w'.heap.size ∧ Row w' l h (.slice a n c) n xs := by
  obtain ⟨a, c, rfl, rX⟩ := row_open ho
  exact ⟨_, _, a, c, rfl, hV, rfl, rfl, rX⟩
theorem newSgNamed {V w : World} (h : Below V.heap.size V w) : ∃ t, t = w.heap.size ∧ Arr (w.alloc (.cells [Value.slice none 0 0].toArray 26)) t 26 [Value.slice none 0 0] ∧ V.heap.size ≤ t := ⟨_, rfl, Arr.new _ _ _, h.size⟩
theorem alloc_szO (w : World) (o : Obj) : (w.alloc o).heap.size = w.heap.size + 1 := by simp
theorem ints_one (L : List Int) : ∀ u ∈ L.map (Value.int .i64), u.oneCell' = true := fun u hu => by obtain ⟨x, -, rfl⟩ := List.mem_map.1 hu; rfl
set_option maxRecDepth 100000 in
set_option maxHeartbeats 1600000 in
theorem spec_MeetOf (A B : List Int) (a : Option Addr) (ca : Nat) (b : Option Addr) (cb : Nat) (w : World) (hra : SlV w a (A.map (Value.int .i64))) (hrb : SlV w b (B.map (Value.int .i64))) (hba : A.length ≤ 1048576) (hbb : B.length ≤ 1048576) :
    Calls Try.prog 23 #[.agg #[.slice a A.length ca], .agg #[.slice b B.length cb]] w (SgPost (meetL A B) (meetB A B) w) := by
  obtain ⟨i0, hi, hz0, hz1, hz2⟩ := info_parts infoIntL
  obtain ⟨dS, hdS, hrS⟩ := undSg
  obtain ⟨U, hU⟩ : ∃ U, U = ((w.alloc (.cells #[.slice a A.length ca] 26)).alloc (.cells #[.slice b B.length cb] 26)) := ⟨_, rfl⟩
  obtain ⟨V, hV⟩ : ∃ V, V = U.alloc (.cells [Value.slice none 0 0].toArray 26) := ⟨_, rfl⟩
  have hbU : Below w.heap.size w U := by rw [hU]; exact (box_below _ _).alloc (by simp) _
  have hUe : U.heap.size = w.heap.size + 2 := by rw [hU]; simp
  have hcAU : U.cell? ⟨w.heap.size, 0, none⟩ = some (.slice a A.length ca) := by rw [hU]; exact (World.cell?_alloc_lt _ _ ⟨w.heap.size, 0, none⟩ (by simp)).trans (box_cell w _)
  have hcBU : U.cell? ⟨w.heap.size + 1, 0, none⟩ = some (.slice b B.length cb) := by rw [hU]; have := box_cell (w.alloc (.cells #[.slice a A.length ca] 26)) (.slice b B.length cb); rw [show (w.alloc (.cells #[.slice a A.length ca] 26)).heap.size = w.heap.size + 1 by simp] at this; exact this
  have hbUV : Below U.heap.size U V := by rw [hV]; exact box_below _ _
  have hbV := hbU.trans (hbUV.mono hbU.size)
  have hAV : Arr V (w.heap.size + 2) 26 [Value.slice none 0 0] := by rw [hV, ← hUe]; exact Arr.new _ _ _
  have hVs : w.heap.size + 2 < V.heap.size := hAV.lt
  have HAV := Lib.hid hAV
  have HV : Hid (V = ((w.alloc (.cells #[.slice a A.length ca] 26)).alloc (.cells #[.slice b B.length cb] 26)).alloc (.cells [Value.slice none 0 0].toArray 26)) := Lib.hid (by rw [hV, hU])
  have HK0 : Hid (∀ w2, Below V.heap.size V w2 → w2.cell? ⟨w.heap.size, 0, none⟩ = some (.slice a A.length ca) ∧ w2.cell? ⟨w.heap.size + 1, 0, none⟩ = some (.slice b B.length cb)) := Lib.hid fun w2 h => ⟨((h.cell (p := ⟨w.heap.size, 0, none⟩) (show w.heap.size < V.heap.size by omega)).trans (hbUV.cell (p := ⟨w.heap.size, 0, none⟩) (show w.heap.size < U.heap.size by omega))).trans hcAU, ((h.cell (p := ⟨w.heap.size + 1, 0, none⟩) (show w.heap.size + 1 < V.heap.size by omega)).trans (hbUV.cell (p := ⟨w.heap.size + 1, 0, none⟩) (show w.heap.size + 1 < U.heap.size by omega))).trans hcBU⟩
  have hk0 := HK0.out V (Below.refl _ _)
  obtain ⟨hkA, hkB⟩ := hk0
  clear hU hV hbU hbUV hcAU hcBU hAV
  have c1 := spec_IsSemigroup A a ca V (hra.below hbV) hba
  have c2 := fun w' (h : Below V.heap.size V w') => spec_IsSemigroup B b cb w' (hrb.below (hbV.trans (h.mono hbV.size))) hbb
  cases hsa : isSgB A
  · have HB : Hid (meetB A B = false) := Lib.hid (by unfold meetB; rw [hsa]; rfl)
    have HL : Hid (meetL A B = []) := Lib.hid (by unfold meetL; rw [hsa]; rfl)
    rw [hsa] at c1
    clear hsa hra hrb c2 hi hz0 hz1 hz2
    go_enter Try.func23, Try.ntmps23
    go_wp2_with (first | (refine wpList_alloc_arr 26 [Value.slice none 0 0] zeroSg rfl rfl ?_; rw [← HV.out]))
    go_wp2_with fail
    refine c1.mono ?_
    rintro e w1 ⟨rfl, hb1⟩
    clear c1 hkA hkB
    have hA9' := HAV.out.below hb1
    go_wp2_with (first | (refine wpList_store_arr 26 (.tmp 4) (.tmp 16) (w.heap.size + 2) [Value.slice none 0 0] [Value.slice none 0 0] rfl rfl rfl rfl hA9' rfl sizeSg (by simp [Value.oneCell']) ?_; intro w9 hA9 hg9 hz9; clear hz9))
    have hb9 := (hbV.trans (hb1.mono hbV.size)).grown hg9 (hbV.trans (hb1.mono hbV.size)).size (fun k hk => by cases hk; omega)
    exact bodyPost_ret (results_arr_tmp rfl _ _ (w.heap.size + 2) [Value.slice none 0 0] dS rfl hA9 hdS hrS sizeSg) rfl ⟨_, by rw [HB.out]; rfl, by rw [HL.out]; exact World.ownsRow_nil _ _ _ _, hb9⟩
  · rw [hsa] at c1
    cases hsb : isSgB B
    · have HB : Hid (meetB A B = false) := Lib.hid (by unfold meetB; rw [hsa, hsb]; rfl)
      have HL : Hid (meetL A B = []) := Lib.hid (by unfold meetL; rw [hsa, hsb]; rfl)
      rw [hsb] at c2
      clear hsa hsb hra hrb hi hz0 hz1 hz2
      go_enter Try.func23, Try.ntmps23
      go_wp2_with (first | (refine wpList_alloc_arr 26 [Value.slice none 0 0] zeroSg rfl rfl ?_; rw [← HV.out]))
      go_wp2_with fail
      refine c1.mono ?_
      rintro e w1 ⟨rfl, hb1⟩
      obtain ⟨hk1, hk2⟩ := HK0.out w1 hb1
      have c21 := c2 w1 hb1
      clear c1 c2 hkA hkB
      go_wp2_with fail
      refine c21.mono ?_
      rintro e w2 ⟨rfl, hb2⟩
      have hb12 := hb1.trans (hb2.mono hb1.size)
      clear c21 hk1 hk2 hb2
      have hA9' := HAV.out.below hb12
      go_wp2_with (first | (refine wpList_store_arr 26 (.tmp 4) (.tmp 16) (w.heap.size + 2) [Value.slice none 0 0] [Value.slice none 0 0] rfl rfl rfl rfl hA9' rfl sizeSg (by simp [Value.oneCell']) ?_; intro w9 hA9 hg9 hz9; clear hz9))
      have hb9 := (hbV.trans (hb12.mono hbV.size)).grown hg9 (hbV.trans (hb12.mono hbV.size)).size (fun k hk => by cases hk; omega)
      exact bodyPost_ret (results_arr_tmp rfl _ _ (w.heap.size + 2) [Value.slice none 0 0] dS rfl hA9 hdS hrS sizeSg) rfl ⟨_, by rw [HB.out]; rfl, by rw [HL.out]; exact World.ownsRow_nil _ _ _ _, hb9⟩
    · rw [hsb] at c2
      have HB : Hid (meetB A B = fromGpB (sortL (gapsL A ++ gapsL B))) := Lib.hid (by unfold meetB; rw [hsa, hsb]; rfl)
      have HL : Hid (meetL A B = fromGpL (sortL (gapsL A ++ gapsL B))) := Lib.hid (by unfold meetL; rw [hsa, hsb]; rfl)
      have hlA := gapsL_length_le A
      have hlB := gapsL_length_le B
      have hlS := sortL_length_le (gapsL A ++ gapsL B)
      have ch1 := fun w' (h : Below V.heap.size V w') => spec_l4Gaps A a ca w' (hra.below (hbV.trans (h.mono hbV.size))) hsa
      have ch2 := fun w' (h : Below V.heap.size V w') => spec_l4Gaps B b cb w' (hrb.below (hbV.trans (h.mono hbV.size))) hsb
      have HK : Hid (∀ w2, Below V.heap.size V w2 → w2.cell? ⟨w.heap.size, 0, none⟩ = some (.slice a A.length ca) ∧ w2.cell? ⟨w.heap.size + 1, 0, none⟩ = some (.slice b B.length cb) ∧ Below V.heap.size V w2) := Lib.hid fun w2 h => ⟨(HK0.out w2 h).1, (HK0.out w2 h).2, h⟩
      clear hsa hsb hra hrb
      generalize gapsL A = gA at *
      generalize gapsL B = gB at *
      have hlC : (gA ++ gB).length ≤ 400 := by rw [List.length_append]; omega
      generalize hL3 : gA ++ gB = L3 at *
      have HL3 := Lib.hid hL3
      clear hL3
      go_enter Try.func23, Try.ntmps23
      go_wp2_with (first | (refine wpList_alloc_arr 26 [Value.slice none 0 0] zeroSg rfl rfl ?_; rw [← HV.out]))
      go_wp2_with fail
      refine c1.mono ?_
      rintro e w1 ⟨rfl, hb1⟩
      obtain ⟨hk1, hk2⟩ := HK0.out w1 hb1
      have c21 := c2 w1 hb1
      clear c1 c2 hkA hkB
      go_wp2_with fail
      refine c21.mono ?_
      rintro e w2 ⟨rfl, hb2⟩
      have hb12 := hb1.trans (hb2.mono hb1.size)
      clear c21 hk1 hk2 hb2
      have hS0 := HK.out _ hb12.drew
      clear hb1
      go_wp2_with fail
      refine wp_region_held_drew (S := fun w' => w'.cell? ⟨w.heap.size, 0, none⟩ = some (.slice a A.length ca) ∧ w'.cell? ⟨w.heap.size + 1, 0, none⟩ = some (.slice b B.length cb) ∧ Below V.heap.size V w') (by kernel_rfl) hS0 (fun hHeld => ?_)
      generalize w2.drew = wd at *
      refine held_take 0 _ _ rfl (by kernel_rfl) (by kernel_rfl) (by kernel_rfl) (fun _ _ _ h => h) (by rfl) hHeld (fun w hSw => by (try dsimp only at hSw); go_simp; try with_reducible rfl) ?_
      (try simp only [Act.put, List.setIfInBounds_toArray, List.set_cons_zero, List.set_cons_succ, List.getElem_toArray, List.getElem_cons_zero])
      refine held_take 2 _ _ rfl (by kernel_rfl) (by kernel_rfl) (by kernel_rfl) (fun _ _ _ h => h) (by rfl) hHeld (fun w hSw => by (try dsimp only at hSw); go_simp; try with_reducible rfl) ?_
      (try simp only [Act.put, List.setIfInBounds_toArray, List.set_cons_zero, List.set_cons_succ, List.getElem_toArray, List.getElem_cons_succ, List.getElem_cons_zero])
      refine wpAnyH_ready (rs := [1, 10]) (by kernel_rfl) (by simp) ?_
      refine AllReadyH.cons rfl (fun K hK => ?_) (AllReadyH.cons rfl (fun K hK => ?_) AllReadyH.nil)
      · rw [if_pos (by rfl)]
        go_wp2_with (first | (go_at_call 57; (with_reducible refine (ch1 _ hHeld.2.2).mono ?_); rintro e wA ⟨v1, rfl, hO1, hbA⟩; have hzb := (hHeld).2.2.size; have hza := hbA.size; try (have hap1 := own_apart hO1 (.inl hT.lt); replace hT := hT.below hbA)))
        refine hK.out _ _ (HK.out _ ((hHeld).2.2.trans (hbA.mono (hHeld).2.2.size))) (fun hHeld1 => ?_)
        clear hK K
        (try simp only [Act.put, List.setIfInBounds_toArray, List.set_cons_zero, List.set_cons_succ, List.getElem_toArray, List.getElem_cons_succ, List.getElem_cons_zero])
        refine wpAnyH_ready (rs := [3, 10]) (by kernel_rfl) (by simp) ?_
        refine AllReadyH.cons rfl (fun K hK => ?_) (AllReadyH.cons rfl (fun K hK => ?_) AllReadyH.nil)
        · rw [if_pos (by rfl)]
          go_wp2_with (first | (go_at_call 57; (with_reducible refine (ch2 _ hHeld1.2.2).mono ?_); rintro e wC ⟨v2, rfl, hO2, hbC⟩; replace hza := Nat.le_trans hza hbC.size; replace hO1 := owns_below hO1 hbC; try (replace hT := hT.below hbC)))
          refine hK.out _ _ (HK.out _ ((hHeld1).2.2.trans (hbC.mono (hHeld1).2.2.size))) (fun hHeld2 => ?_)
          clear hK K
          (try simp only [Act.put, List.setIfInBounds_toArray, List.set_cons_zero, List.set_cons_succ, List.getElem_toArray, List.getElem_cons_succ, List.getElem_cons_zero])
          refine wpAnyH_ready (rs := [4, 10]) (by kernel_rfl) (by simp) ?_
          refine AllReadyH.cons rfl (fun K hK => ?_) (AllReadyH.cons rfl (fun K hK => ?_) AllReadyH.nil)
          · rw [if_pos (by rfl)]
            refine wp_append_rows _ (.tmp 19) (.tmp 21) 24 (by rfl) i0 (Value.int .i64 0) Try.underlying24 hi hz0 hz1 hz2 rfl _ _ _ _ _ (by rfl) hO1 _ _ _ (by rfl) hO2 (ints_one _) (by unfold maxLen; omega) (by omega) hza ?_
            intro v3 w3 hO3 hg3
            rw [← List.map_append, ← List.length_append, HL3.out] at hO3
            obtain ⟨a3, k3, rfl, -⟩ := row_open hO3
            try (replace hT := hT.grown hg3 (ne_apart hap1))
            refine hK.out _ _ (HK.out _ ((hHeld2).2.2.grown hg3 (hHeld2).2.2.size (fun j hj => Nat.le_trans hzb (hO1.lt j hj).1))) (fun hHeld3 => ?_)
            clear hK K
            (try simp only [Act.put, List.setIfInBounds_toArray, List.set_cons_zero, List.set_cons_succ, List.getElem_toArray, List.getElem_cons_succ, List.getElem_cons_zero])
            refine wpAnyH_ready (rs := [5, 10]) (by kernel_rfl) (by simp) ?_
            refine AllReadyH.cons rfl (fun K hK => ?_) (AllReadyH.cons rfl (fun K hK => ?_) AllReadyH.nil)
            · rw [if_pos (by rfl)]
              go_wp2_with (first | (go_at_call 56; (with_reducible refine (spec_SortList L3 _ _ _ (own_slv hO3) (by omega)).mono ?_); rintro e w4 ⟨g4, k4, rfl, hO4, hb4⟩; try (replace hT := hT.below hb4)))
              refine hK.out _ _ (HK.out _ ((hHeld3).2.2.trans (hb4.mono (hHeld3).2.2.size))) (fun hHeld4 => ?_)
              clear hK K
              (try simp only [Act.put, List.setIfInBounds_toArray, List.set_cons_zero, List.set_cons_succ, List.getElem_toArray, List.getElem_cons_succ, List.getElem_cons_zero])
              refine wpAnyH_ready (rs := [6, 10]) (by kernel_rfl) (by simp) ?_
              refine AllReadyH.cons rfl (fun K hK => ?_) (AllReadyH.cons rfl (fun K hK => ?_) AllReadyH.nil)
              · rw [if_pos (by rfl)]
                go_wp2_with (first | (go_at_call 51; (with_reducible refine (spec_FromGaps (sortL L3) _ _ _ (own_slv hO4) (by omega)).mono ?_); rintro e w6 ⟨v6, rfl, hO6, hb6⟩; obtain ⟨a6, k6, rfl, -⟩ := row_open hO6; have hz6 := (hHeld4).2.2.size; try (have hap6 := own_apart hO6 (.inl hT.lt); replace hT := hT.below hb6)))
                refine hK.out _ _ (HK.out _ ((hHeld4).2.2.trans (hb6.mono (hHeld4).2.2.size))) (fun hHeld5 => ?_)
                clear hK K
                (try simp only [Act.put, List.setIfInBounds_toArray, List.set_cons_zero, List.set_cons_succ, List.getElem_toArray, List.getElem_cons_succ, List.getElem_cons_zero])
                refine held_take 7 _ _ rfl (by kernel_rfl) (by kernel_rfl) (by kernel_rfl) (fun _ _ _ h => h) (by rfl) hHeld5 (fun w hSw => by (try dsimp only at hSw); go_simp; try with_reducible rfl) ?_
                (try simp only [Act.put, List.setIfInBounds_toArray, List.set_cons_zero, List.set_cons_succ, List.getElem_toArray, List.getElem_cons_succ, List.getElem_cons_zero])
                refine held_take 8 _ _ rfl (by kernel_rfl) (by kernel_rfl) (by kernel_rfl) (fun _ _ _ h => h) (by rfl) hHeld5 (fun w hSw => by (try dsimp only at hSw); go_simp; try with_reducible rfl) ?_
                (try simp only [Act.put, List.setIfInBounds_toArray, List.set_cons_zero, List.set_cons_succ, List.getElem_toArray, List.getElem_cons_succ, List.getElem_cons_zero])
                refine held_take 9 _ _ rfl (by kernel_rfl) (by kernel_rfl) (by kernel_rfl) (fun _ _ _ h => h) (by rfl) hHeld5 (fun w hSw => by (try dsimp only at hSw); go_simp; try with_reducible rfl) ?_
                (try simp only [Act.put, List.setIfInBounds_toArray, List.set_cons_zero, List.set_cons_succ, List.getElem_toArray, List.getElem_cons_succ, List.getElem_cons_zero])
                refine wpAnyH_ready (rs := [10]) (by kernel_rfl) (by simp) ?_
                refine AllReadyH.cons rfl (fun K hK => ?_) AllReadyH.nil
                rw [if_pos (by rfl)]
                try have hap1 := own_apart hO1 (.inr (Nat.le_refl _))
                try have hap6 := own_apart hO6 (.inr (Nat.le_refl _))
                try replace hO1 := hO1.alloc (.cells [Value.slice none 0 0].toArray 26)
                try replace hO2 := hO2.alloc (.cells [Value.slice none 0 0].toArray 26)
                try replace hO3 := hO3.alloc (.cells [Value.slice none 0 0].toArray 26)
                try replace hO4 := hO4.alloc (.cells [Value.slice none 0 0].toArray 26)
                try replace hO6 := hO6.alloc (.cells [Value.slice none 0 0].toArray 26)
                try replace hza := le_alloc hza (.cells [Value.slice none 0 0].toArray 26)
                obtain ⟨hT, htV⟩ := newSgAt (hHeld5).2.2
                refine wp_alloc_arr 26 [Value.slice none 0 0] zeroSg (by rfl) ?_
                refine hK.out _ _ (HK.out _ ((hHeld5).2.2.alloc (hHeld5).2.2.size _)) (fun hHeld6 => ?_)
                clear hK K
                (try simp only [Act.put, List.setIfInBounds_toArray, List.set_cons_zero, List.set_cons_succ, List.getElem_toArray, List.getElem_cons_succ, List.getElem_cons_zero])
                refine wpAnyH_ready (rs := [11]) (by kernel_rfl) (by simp) ?_
                refine AllReadyH.cons rfl (fun K hK => ?_) AllReadyH.nil
                rw [if_pos (by rfl)]
                refine wp_store_arr 26 (.tmp 6) (.tmp 25) _ [Value.slice none 0 0] [Value.slice a6 (fromGpL (sortL L3)).length k6] (by rfl) (by rfl) (by rfl) hT rfl sizeSg (by simp [Value.oneCell']) ?_
                intro w7 hN7 hg7
                refine hK.out _ _ (HK.out _ ((hHeld6).2.2.grown hg7 (hHeld6).2.2.size (fun j hj => by cases hj; exact htV))) (fun hHeld7 => ?_)
                clear hK K
                (try simp only [Act.put, List.getElem_toArray, List.getElem_cons_succ, List.getElem_cons_zero])
                refine held_take 12 _ _ rfl (by kernel_rfl) (by kernel_rfl) (by kernel_rfl) (fun _ _ _ h => h) (by rfl) hHeld7 (fun w hSw => by (try dsimp only at hSw); go_simp; try with_reducible rfl) ?_
                (try simp only [Act.put, List.setIfInBounds_toArray, List.set_cons_zero, List.set_cons_succ, List.getElem_toArray, List.getElem_cons_succ, List.getElem_cons_zero])
                refine wpAnyH_done (by kernel_rfl) ?_ _
                have hbF := (hHeld7).2.2
                have hO7 := hO6.kept hg7 hap6
                have hcN := hN7.cell 0
                have hA7 := HAV.out.below hbF
                have hn9 := own_apart hO7 (g := w.heap.size + 2) (.inl (by omega))
                have hbw := hbV.trans (hbF.mono hbV.size)
                clear hS0 hO6 hN7 hg7 hap6 hb6 hT
                go_wp2_with (first | (refine wpList_store_arr 26 (.tmp 4) (.tmp 27) (w.heap.size + 2) [Value.slice none 0 0] [Value.slice a6 (fromGpL (sortL L3)).length k6] rfl rfl rfl rfl hA7 rfl sizeSg (by simp [Value.oneCell']) ?_; intro w9 hA9 hg9 hz9; clear hz9))
                have hb9 := hbw.grown hg9 hbw.size (fun k hk => by cases hk; omega)
                exact bodyPost_ret (results_arr_tmp rfl _ _ (w.heap.size + 2) [Value.slice a6 (fromGpL (sortL L3)).length k6] dS rfl hA9 hdS hrS sizeSg) rfl ⟨_, by rw [HB.out]; rfl, by rw [HL.out]; exact ownsBase (hO7.kept hg9 hn9) (by omega), hb9⟩
              · rw [if_pos (by rfl)]
                try have hap1 := own_apart hO1 (.inr (Nat.le_refl _))
                try have hap6 := own_apart hO6 (.inr (Nat.le_refl _))
                try replace hO1 := hO1.alloc (.cells [Value.slice none 0 0].toArray 26)
                try replace hO2 := hO2.alloc (.cells [Value.slice none 0 0].toArray 26)
                try replace hO3 := hO3.alloc (.cells [Value.slice none 0 0].toArray 26)
                try replace hO4 := hO4.alloc (.cells [Value.slice none 0 0].toArray 26)
                try replace hO6 := hO6.alloc (.cells [Value.slice none 0 0].toArray 26)
                try replace hza := le_alloc hza (.cells [Value.slice none 0 0].toArray 26)
                obtain ⟨hT, htV⟩ := newSgAt (hHeld4).2.2
                refine wp_alloc_arr 26 [Value.slice none 0 0] zeroSg (by rfl) ?_
                refine hK.out _ _ (HK.out _ ((hHeld4).2.2.alloc (hHeld4).2.2.size _)) (fun hHeld5 => ?_)
                clear hK K
                (try simp only [Act.put, List.setIfInBounds_toArray, List.set_cons_zero, List.set_cons_succ, List.getElem_toArray, List.getElem_cons_succ, List.getElem_cons_zero])
                refine wpAnyH_ready (rs := [6]) (by kernel_rfl) (by simp) ?_
                refine AllReadyH.cons rfl (fun K hK => ?_) AllReadyH.nil
                rw [if_pos (by rfl)]
                go_wp2_with (first | (go_at_call 51; (with_reducible refine (spec_FromGaps (sortL L3) _ _ _ (own_slv hO4) (by omega)).mono ?_); rintro e w6 ⟨v6, rfl, hO6, hb6⟩; obtain ⟨a6, k6, rfl, -⟩ := row_open hO6; have hz6 := (hHeld5).2.2.size; try (have hap6 := own_apart hO6 (.inl hT.lt); replace hT := hT.below hb6)))
                refine hK.out _ _ (HK.out _ ((hHeld5).2.2.trans (hb6.mono (hHeld5).2.2.size))) (fun hHeld6 => ?_)
                clear hK K
                (try simp only [Act.put, List.setIfInBounds_toArray, List.set_cons_zero, List.set_cons_succ, List.getElem_toArray, List.getElem_cons_succ, List.getElem_cons_zero])
                refine held_take 7 _ _ rfl (by kernel_rfl) (by kernel_rfl) (by kernel_rfl) (fun _ _ _ h => h) (by rfl) hHeld6 (fun w hSw => by (try dsimp only at hSw); go_simp; try with_reducible rfl) ?_
                (try simp only [Act.put, List.setIfInBounds_toArray, List.set_cons_zero, List.set_cons_succ, List.getElem_toArray, List.getElem_cons_succ, List.getElem_cons_zero])
                refine held_take 8 _ _ rfl (by kernel_rfl) (by kernel_rfl) (by kernel_rfl) (fun _ _ _ h => h) (by rfl) hHeld6 (fun w hSw => by (try dsimp only at hSw); go_simp; try with_reducible rfl) ?_
                (try simp only [Act.put, List.setIfInBounds_toArray, List.set_cons_zero, List.set_cons_succ, List.getElem_toArray, List.getElem_cons_succ, List.getElem_cons_zero])
                refine held_take 9 _ _ rfl (by kernel_rfl) (by kernel_rfl) (by kernel_rfl) (fun _ _ _ h => h) (by rfl) hHeld6 (fun w hSw => by (try dsimp only at hSw); go_simp; try with_reducible rfl) ?_
                (try simp only [Act.put, List.setIfInBounds_toArray, List.set_cons_zero, List.set_cons_succ, List.getElem_toArray, List.getElem_cons_succ, List.getElem_cons_zero])
                refine wpAnyH_ready (rs := [11]) (by kernel_rfl) (by simp) ?_
                refine AllReadyH.cons rfl (fun K hK => ?_) AllReadyH.nil
                rw [if_pos (by rfl)]
                refine wp_store_arr 26 (.tmp 6) (.tmp 25) _ [Value.slice none 0 0] [Value.slice a6 (fromGpL (sortL L3)).length k6] (by rfl) (by rfl) (by rfl) hT rfl sizeSg (by simp [Value.oneCell']) ?_
                intro w7 hN7 hg7
                refine hK.out _ _ (HK.out _ ((hHeld6).2.2.grown hg7 (hHeld6).2.2.size (fun j hj => by cases hj; exact htV))) (fun hHeld7 => ?_)
                clear hK K
                (try simp only [Act.put, List.getElem_toArray, List.getElem_cons_succ, List.getElem_cons_zero])
                refine held_take 12 _ _ rfl (by kernel_rfl) (by kernel_rfl) (by kernel_rfl) (fun _ _ _ h => h) (by rfl) hHeld7 (fun w hSw => by (try dsimp only at hSw); go_simp; try with_reducible rfl) ?_
                (try simp only [Act.put, List.setIfInBounds_toArray, List.set_cons_zero, List.set_cons_succ, List.getElem_toArray, List.getElem_cons_succ, List.getElem_cons_zero])
                refine wpAnyH_done (by kernel_rfl) ?_ _
                have hbF := (hHeld7).2.2
                have hO7 := hO6.kept hg7 hap6
                have hcN := hN7.cell 0
                have hA7 := HAV.out.below hbF
                have hn9 := own_apart hO7 (g := w.heap.size + 2) (.inl (by omega))
                have hbw := hbV.trans (hbF.mono hbV.size)
                clear hS0 hO6 hN7 hg7 hap6 hb6 hT
                go_wp2_with (first | (refine wpList_store_arr 26 (.tmp 4) (.tmp 27) (w.heap.size + 2) [Value.slice none 0 0] [Value.slice a6 (fromGpL (sortL L3)).length k6] rfl rfl rfl rfl hA7 rfl sizeSg (by simp [Value.oneCell']) ?_; intro w9 hA9 hg9 hz9; clear hz9))
                have hb9 := hbw.grown hg9 hbw.size (fun k hk => by cases hk; omega)
                exact bodyPost_ret (results_arr_tmp rfl _ _ (w.heap.size + 2) [Value.slice a6 (fromGpL (sortL L3)).length k6] dS rfl hA9 hdS hrS sizeSg) rfl ⟨_, by rw [HB.out]; rfl, by rw [HL.out]; exact ownsBase (hO7.kept hg9 hn9) (by omega), hb9⟩
            · rw [if_pos (by rfl)]
              try have hap1 := own_apart hO1 (.inr (Nat.le_refl _))
              try have hap6 := own_apart hO6 (.inr (Nat.le_refl _))
              try replace hO1 := hO1.alloc (.cells [Value.slice none 0 0].toArray 26)
              try replace hO2 := hO2.alloc (.cells [Value.slice none 0 0].toArray 26)
              try replace hO3 := hO3.alloc (.cells [Value.slice none 0 0].toArray 26)
              try replace hO4 := hO4.alloc (.cells [Value.slice none 0 0].toArray 26)
              try replace hO6 := hO6.alloc (.cells [Value.slice none 0 0].toArray 26)
              try replace hza := le_alloc hza (.cells [Value.slice none 0 0].toArray 26)
              obtain ⟨hT, htV⟩ := newSgAt (hHeld3).2.2
              refine wp_alloc_arr 26 [Value.slice none 0 0] zeroSg (by rfl) ?_
              refine hK.out _ _ (HK.out _ ((hHeld3).2.2.alloc (hHeld3).2.2.size _)) (fun hHeld4 => ?_)
              clear hK K
              (try simp only [Act.put, List.setIfInBounds_toArray, List.set_cons_zero, List.set_cons_succ, List.getElem_toArray, List.getElem_cons_succ, List.getElem_cons_zero])
              refine wpAnyH_ready (rs := [5]) (by kernel_rfl) (by simp) ?_
              refine AllReadyH.cons rfl (fun K hK => ?_) AllReadyH.nil
              rw [if_pos (by rfl)]
              go_wp2_with (first | (go_at_call 56; (with_reducible refine (spec_SortList L3 _ _ _ (own_slv hO3) (by omega)).mono ?_); rintro e w4 ⟨g4, k4, rfl, hO4, hb4⟩; try (replace hT := hT.below hb4)))
              refine hK.out _ _ (HK.out _ ((hHeld4).2.2.trans (hb4.mono (hHeld4).2.2.size))) (fun hHeld5 => ?_)
              clear hK K
              (try simp only [Act.put, List.setIfInBounds_toArray, List.set_cons_zero, List.set_cons_succ, List.getElem_toArray, List.getElem_cons_succ, List.getElem_cons_zero])
              refine wpAnyH_ready (rs := [6]) (by kernel_rfl) (by simp) ?_
              refine AllReadyH.cons rfl (fun K hK => ?_) AllReadyH.nil
              rw [if_pos (by rfl)]
              go_wp2_with (first | (go_at_call 51; (with_reducible refine (spec_FromGaps (sortL L3) _ _ _ (own_slv hO4) (by omega)).mono ?_); rintro e w6 ⟨v6, rfl, hO6, hb6⟩; obtain ⟨a6, k6, rfl, -⟩ := row_open hO6; have hz6 := (hHeld5).2.2.size; try (have hap6 := own_apart hO6 (.inl hT.lt); replace hT := hT.below hb6)))
              refine hK.out _ _ (HK.out _ ((hHeld5).2.2.trans (hb6.mono (hHeld5).2.2.size))) (fun hHeld6 => ?_)
              clear hK K
              (try simp only [Act.put, List.setIfInBounds_toArray, List.set_cons_zero, List.set_cons_succ, List.getElem_toArray, List.getElem_cons_succ, List.getElem_cons_zero])
              refine held_take 7 _ _ rfl (by kernel_rfl) (by kernel_rfl) (by kernel_rfl) (fun _ _ _ h => h) (by rfl) hHeld6 (fun w hSw => by (try dsimp only at hSw); go_simp; try with_reducible rfl) ?_
              (try simp only [Act.put, List.setIfInBounds_toArray, List.set_cons_zero, List.set_cons_succ, List.getElem_toArray, List.getElem_cons_succ, List.getElem_cons_zero])
              refine held_take 8 _ _ rfl (by kernel_rfl) (by kernel_rfl) (by kernel_rfl) (fun _ _ _ h => h) (by rfl) hHeld6 (fun w hSw => by (try dsimp only at hSw); go_simp; try with_reducible rfl) ?_
              (try simp only [Act.put, List.setIfInBounds_toArray, List.set_cons_zero, List.set_cons_succ, List.getElem_toArray, List.getElem_cons_succ, List.getElem_cons_zero])
              refine held_take 9 _ _ rfl (by kernel_rfl) (by kernel_rfl) (by kernel_rfl) (fun _ _ _ h => h) (by rfl) hHeld6 (fun w hSw => by (try dsimp only at hSw); go_simp; try with_reducible rfl) ?_
              (try simp only [Act.put, List.setIfInBounds_toArray, List.set_cons_zero, List.set_cons_succ, List.getElem_toArray, List.getElem_cons_succ, List.getElem_cons_zero])
              refine wpAnyH_ready (rs := [11]) (by kernel_rfl) (by simp) ?_
              refine AllReadyH.cons rfl (fun K hK => ?_) AllReadyH.nil
              rw [if_pos (by rfl)]
              refine wp_store_arr 26 (.tmp 6) (.tmp 25) _ [Value.slice none 0 0] [Value.slice a6 (fromGpL (sortL L3)).length k6] (by rfl) (by rfl) (by rfl) hT rfl sizeSg (by simp [Value.oneCell']) ?_
              intro w7 hN7 hg7
              refine hK.out _ _ (HK.out _ ((hHeld6).2.2.grown hg7 (hHeld6).2.2.size (fun j hj => by cases hj; exact htV))) (fun hHeld7 => ?_)
              clear hK K
              (try simp only [Act.put, List.getElem_toArray, List.getElem_cons_succ, List.getElem_cons_zero])
              refine held_take 12 _ _ rfl (by kernel_rfl) (by kernel_rfl) (by kernel_rfl) (fun _ _ _ h => h) (by rfl) hHeld7 (fun w hSw => by (try dsimp only at hSw); go_simp; try with_reducible rfl) ?_
              (try simp only [Act.put, List.setIfInBounds_toArray, List.set_cons_zero, List.set_cons_succ, List.getElem_toArray, List.getElem_cons_succ, List.getElem_cons_zero])
              refine wpAnyH_done (by kernel_rfl) ?_ _
              have hbF := (hHeld7).2.2
              have hO7 := hO6.kept hg7 hap6
              have hcN := hN7.cell 0
              have hA7 := HAV.out.below hbF
              have hn9 := own_apart hO7 (g := w.heap.size + 2) (.inl (by omega))
              have hbw := hbV.trans (hbF.mono hbV.size)
              clear hS0 hO6 hN7 hg7 hap6 hb6 hT
              go_wp2_with (first | (refine wpList_store_arr 26 (.tmp 4) (.tmp 27) (w.heap.size + 2) [Value.slice none 0 0] [Value.slice a6 (fromGpL (sortL L3)).length k6] rfl rfl rfl rfl hA7 rfl sizeSg (by simp [Value.oneCell']) ?_; intro w9 hA9 hg9 hz9; clear hz9))
              have hb9 := hbw.grown hg9 hbw.size (fun k hk => by cases hk; omega)
              exact bodyPost_ret (results_arr_tmp rfl _ _ (w.heap.size + 2) [Value.slice a6 (fromGpL (sortL L3)).length k6] dS rfl hA9 hdS hrS sizeSg) rfl ⟨_, by rw [HB.out]; rfl, by rw [HL.out]; exact ownsBase (hO7.kept hg9 hn9) (by omega), hb9⟩
          · rw [if_pos (by rfl)]
            try have hap1 := own_apart hO1 (.inr (Nat.le_refl _))
            try have hap6 := own_apart hO6 (.inr (Nat.le_refl _))
            try replace hO1 := hO1.alloc (.cells [Value.slice none 0 0].toArray 26)
            try replace hO2 := hO2.alloc (.cells [Value.slice none 0 0].toArray 26)
            try replace hO3 := hO3.alloc (.cells [Value.slice none 0 0].toArray 26)
            try replace hO4 := hO4.alloc (.cells [Value.slice none 0 0].toArray 26)
            try replace hO6 := hO6.alloc (.cells [Value.slice none 0 0].toArray 26)
            try replace hza := le_alloc hza (.cells [Value.slice none 0 0].toArray 26)
            obtain ⟨hT, htV⟩ := newSgAt (hHeld2).2.2
            refine wp_alloc_arr 26 [Value.slice none 0 0] zeroSg (by rfl) ?_
            refine hK.out _ _ (HK.out _ ((hHeld2).2.2.alloc (hHeld2).2.2.size _)) (fun hHeld3 => ?_)
            clear hK K
            (try simp only [Act.put, List.setIfInBounds_toArray, List.set_cons_zero, List.set_cons_succ, List.getElem_toArray, List.getElem_cons_succ, List.getElem_cons_zero])
            refine wpAnyH_ready (rs := [4]) (by kernel_rfl) (by simp) ?_
            refine AllReadyH.cons rfl (fun K hK => ?_) AllReadyH.nil
            rw [if_pos (by rfl)]
            refine wp_append_rows _ (.tmp 19) (.tmp 21) 24 (by rfl) i0 (Value.int .i64 0) Try.underlying24 hi hz0 hz1 hz2 rfl _ _ _ _ _ (by rfl) hO1 _ _ _ (by rfl) hO2 (ints_one _) (by unfold maxLen; omega) (by omega) hza ?_
            intro v3 w3 hO3 hg3
            rw [← List.map_append, ← List.length_append, HL3.out] at hO3
            obtain ⟨a3, k3, rfl, -⟩ := row_open hO3
            try (replace hT := hT.grown hg3 (ne_apart hap1))
            refine hK.out _ _ (HK.out _ ((hHeld3).2.2.grown hg3 (hHeld3).2.2.size (fun j hj => Nat.le_trans hzb (hO1.lt j hj).1))) (fun hHeld4 => ?_)
            clear hK K
            (try simp only [Act.put, List.setIfInBounds_toArray, List.set_cons_zero, List.set_cons_succ, List.getElem_toArray, List.getElem_cons_succ, List.getElem_cons_zero])
            refine wpAnyH_ready (rs := [5]) (by kernel_rfl) (by simp) ?_
            refine AllReadyH.cons rfl (fun K hK => ?_) AllReadyH.nil
            rw [if_pos (by rfl)]
            go_wp2_with (first | (go_at_call 56; (with_reducible refine (spec_SortList L3 _ _ _ (own_slv hO3) (by omega)).mono ?_); rintro e w4 ⟨g4, k4, rfl, hO4, hb4⟩; try (replace hT := hT.below hb4)))
            refine hK.out _ _ (HK.out _ ((hHeld4).2.2.trans (hb4.mono (hHeld4).2.2.size))) (fun hHeld5 => ?_)
            clear hK K
            (try simp only [Act.put, List.setIfInBounds_toArray, List.set_cons_zero, List.set_cons_succ, List.getElem_toArray, List.getElem_cons_succ, List.getElem_cons_zero])
            refine wpAnyH_ready (rs := [6]) (by kernel_rfl) (by simp) ?_
            refine AllReadyH.cons rfl (fun K hK => ?_) AllReadyH.nil
            rw [if_pos (by rfl)]
            go_wp2_with (first | (go_at_call 51; (with_reducible refine (spec_FromGaps (sortL L3) _ _ _ (own_slv hO4) (by omega)).mono ?_); rintro e w6 ⟨v6, rfl, hO6, hb6⟩; obtain ⟨a6, k6, rfl, -⟩ := row_open hO6; have hz6 := (hHeld5).2.2.size; try (have hap6 := own_apart hO6 (.inl hT.lt); replace hT := hT.below hb6)))
            refine hK.out _ _ (HK.out _ ((hHeld5).2.2.trans (hb6.mono (hHeld5).2.2.size))) (fun hHeld6 => ?_)
            clear hK K
            (try simp only [Act.put, List.setIfInBounds_toArray, List.set_cons_zero, List.set_cons_succ, List.getElem_toArray, List.getElem_cons_succ, List.getElem_cons_zero])
            refine held_take 7 _ _ rfl (by kernel_rfl) (by kernel_rfl) (by kernel_rfl) (fun _ _ _ h => h) (by rfl) hHeld6 (fun w hSw => by (try dsimp only at hSw); go_simp; try with_reducible rfl) ?_
            (try simp only [Act.put, List.setIfInBounds_toArray, List.set_cons_zero, List.set_cons_succ, List.getElem_toArray, List.getElem_cons_succ, List.getElem_cons_zero])
            refine held_take 8 _ _ rfl (by kernel_rfl) (by kernel_rfl) (by kernel_rfl) (fun _ _ _ h => h) (by rfl) hHeld6 (fun w hSw => by (try dsimp only at hSw); go_simp; try with_reducible rfl) ?_
            (try simp only [Act.put, List.setIfInBounds_toArray, List.set_cons_zero, List.set_cons_succ, List.getElem_toArray, List.getElem_cons_succ, List.getElem_cons_zero])
            refine held_take 9 _ _ rfl (by kernel_rfl) (by kernel_rfl) (by kernel_rfl) (fun _ _ _ h => h) (by rfl) hHeld6 (fun w hSw => by (try dsimp only at hSw); go_simp; try with_reducible rfl) ?_
            (try simp only [Act.put, List.setIfInBounds_toArray, List.set_cons_zero, List.set_cons_succ, List.getElem_toArray, List.getElem_cons_succ, List.getElem_cons_zero])
            refine wpAnyH_ready (rs := [11]) (by kernel_rfl) (by simp) ?_
            refine AllReadyH.cons rfl (fun K hK => ?_) AllReadyH.nil
            rw [if_pos (by rfl)]
            refine wp_store_arr 26 (.tmp 6) (.tmp 25) _ [Value.slice none 0 0] [Value.slice a6 (fromGpL (sortL L3)).length k6] (by rfl) (by rfl) (by rfl) hT rfl sizeSg (by simp [Value.oneCell']) ?_
            intro w7 hN7 hg7
            refine hK.out _ _ (HK.out _ ((hHeld6).2.2.grown hg7 (hHeld6).2.2.size (fun j hj => by cases hj; exact htV))) (fun hHeld7 => ?_)
            clear hK K
            (try simp only [Act.put, List.getElem_toArray, List.getElem_cons_succ, List.getElem_cons_zero])
            refine held_take 12 _ _ rfl (by kernel_rfl) (by kernel_rfl) (by kernel_rfl) (fun _ _ _ h => h) (by rfl) hHeld7 (fun w hSw => by (try dsimp only at hSw); go_simp; try with_reducible rfl) ?_
            (try simp only [Act.put, List.setIfInBounds_toArray, List.set_cons_zero, List.set_cons_succ, List.getElem_toArray, List.getElem_cons_succ, List.getElem_cons_zero])
            refine wpAnyH_done (by kernel_rfl) ?_ _
            have hbF := (hHeld7).2.2
            have hO7 := hO6.kept hg7 hap6
            have hcN := hN7.cell 0
            have hA7 := HAV.out.below hbF
            have hn9 := own_apart hO7 (g := w.heap.size + 2) (.inl (by omega))
            have hbw := hbV.trans (hbF.mono hbV.size)
            clear hS0 hO6 hN7 hg7 hap6 hb6 hT
            go_wp2_with (first | (refine wpList_store_arr 26 (.tmp 4) (.tmp 27) (w.heap.size + 2) [Value.slice none 0 0] [Value.slice a6 (fromGpL (sortL L3)).length k6] rfl rfl rfl rfl hA7 rfl sizeSg (by simp [Value.oneCell']) ?_; intro w9 hA9 hg9 hz9; clear hz9))
            have hb9 := hbw.grown hg9 hbw.size (fun k hk => by cases hk; omega)
            exact bodyPost_ret (results_arr_tmp rfl _ _ (w.heap.size + 2) [Value.slice a6 (fromGpL (sortL L3)).length k6] dS rfl hA9 hdS hrS sizeSg) rfl ⟨_, by rw [HB.out]; rfl, by rw [HL.out]; exact ownsBase (hO7.kept hg9 hn9) (by omega), hb9⟩
        · rw [if_pos (by rfl)]
          try have hap1 := own_apart hO1 (.inr (Nat.le_refl _))
          try have hap6 := own_apart hO6 (.inr (Nat.le_refl _))
          try replace hO1 := hO1.alloc (.cells [Value.slice none 0 0].toArray 26)
          try replace hO2 := hO2.alloc (.cells [Value.slice none 0 0].toArray 26)
          try replace hO3 := hO3.alloc (.cells [Value.slice none 0 0].toArray 26)
          try replace hO4 := hO4.alloc (.cells [Value.slice none 0 0].toArray 26)
          try replace hO6 := hO6.alloc (.cells [Value.slice none 0 0].toArray 26)
          try replace hza := le_alloc hza (.cells [Value.slice none 0 0].toArray 26)
          obtain ⟨hT, htV⟩ := newSgAt (hHeld1).2.2
          refine wp_alloc_arr 26 [Value.slice none 0 0] zeroSg (by rfl) ?_
          refine hK.out _ _ (HK.out _ ((hHeld1).2.2.alloc (hHeld1).2.2.size _)) (fun hHeld2 => ?_)
          clear hK K
          (try simp only [Act.put, List.setIfInBounds_toArray, List.set_cons_zero, List.set_cons_succ, List.getElem_toArray, List.getElem_cons_succ, List.getElem_cons_zero])
          refine wpAnyH_ready (rs := [3]) (by kernel_rfl) (by simp) ?_
          refine AllReadyH.cons rfl (fun K hK => ?_) AllReadyH.nil
          rw [if_pos (by rfl)]
          go_wp2_with (first | (go_at_call 57; (with_reducible refine (ch2 _ hHeld2.2.2).mono ?_); rintro e wC ⟨v2, rfl, hO2, hbC⟩; replace hza := Nat.le_trans hza hbC.size; replace hO1 := owns_below hO1 hbC; try (replace hT := hT.below hbC)))
          refine hK.out _ _ (HK.out _ ((hHeld2).2.2.trans (hbC.mono (hHeld2).2.2.size))) (fun hHeld3 => ?_)
          clear hK K
          (try simp only [Act.put, List.setIfInBounds_toArray, List.set_cons_zero, List.set_cons_succ, List.getElem_toArray, List.getElem_cons_succ, List.getElem_cons_zero])
          refine wpAnyH_ready (rs := [4]) (by kernel_rfl) (by simp) ?_
          refine AllReadyH.cons rfl (fun K hK => ?_) AllReadyH.nil
          rw [if_pos (by rfl)]
          refine wp_append_rows _ (.tmp 19) (.tmp 21) 24 (by rfl) i0 (Value.int .i64 0) Try.underlying24 hi hz0 hz1 hz2 rfl _ _ _ _ _ (by rfl) hO1 _ _ _ (by rfl) hO2 (ints_one _) (by unfold maxLen; omega) (by omega) hza ?_
          intro v3 w3 hO3 hg3
          rw [← List.map_append, ← List.length_append, HL3.out] at hO3
          obtain ⟨a3, k3, rfl, -⟩ := row_open hO3
          try (replace hT := hT.grown hg3 (ne_apart hap1))
          refine hK.out _ _ (HK.out _ ((hHeld3).2.2.grown hg3 (hHeld3).2.2.size (fun j hj => Nat.le_trans hzb (hO1.lt j hj).1))) (fun hHeld4 => ?_)
          clear hK K
          (try simp only [Act.put, List.setIfInBounds_toArray, List.set_cons_zero, List.set_cons_succ, List.getElem_toArray, List.getElem_cons_succ, List.getElem_cons_zero])
          refine wpAnyH_ready (rs := [5]) (by kernel_rfl) (by simp) ?_
          refine AllReadyH.cons rfl (fun K hK => ?_) AllReadyH.nil
          rw [if_pos (by rfl)]
          go_wp2_with (first | (go_at_call 56; (with_reducible refine (spec_SortList L3 _ _ _ (own_slv hO3) (by omega)).mono ?_); rintro e w4 ⟨g4, k4, rfl, hO4, hb4⟩; try (replace hT := hT.below hb4)))
          refine hK.out _ _ (HK.out _ ((hHeld4).2.2.trans (hb4.mono (hHeld4).2.2.size))) (fun hHeld5 => ?_)
          clear hK K
          (try simp only [Act.put, List.setIfInBounds_toArray, List.set_cons_zero, List.set_cons_succ, List.getElem_toArray, List.getElem_cons_succ, List.getElem_cons_zero])
          refine wpAnyH_ready (rs := [6]) (by kernel_rfl) (by simp) ?_
          refine AllReadyH.cons rfl (fun K hK => ?_) AllReadyH.nil
          rw [if_pos (by rfl)]
          go_wp2_with (first | (go_at_call 51; (with_reducible refine (spec_FromGaps (sortL L3) _ _ _ (own_slv hO4) (by omega)).mono ?_); rintro e w6 ⟨v6, rfl, hO6, hb6⟩; obtain ⟨a6, k6, rfl, -⟩ := row_open hO6; have hz6 := (hHeld5).2.2.size; try (have hap6 := own_apart hO6 (.inl hT.lt); replace hT := hT.below hb6)))
          refine hK.out _ _ (HK.out _ ((hHeld5).2.2.trans (hb6.mono (hHeld5).2.2.size))) (fun hHeld6 => ?_)
          clear hK K
          (try simp only [Act.put, List.setIfInBounds_toArray, List.set_cons_zero, List.set_cons_succ, List.getElem_toArray, List.getElem_cons_succ, List.getElem_cons_zero])
          refine held_take 7 _ _ rfl (by kernel_rfl) (by kernel_rfl) (by kernel_rfl) (fun _ _ _ h => h) (by rfl) hHeld6 (fun w hSw => by (try dsimp only at hSw); go_simp; try with_reducible rfl) ?_
          (try simp only [Act.put, List.setIfInBounds_toArray, List.set_cons_zero, List.set_cons_succ, List.getElem_toArray, List.getElem_cons_succ, List.getElem_cons_zero])
          refine held_take 8 _ _ rfl (by kernel_rfl) (by kernel_rfl) (by kernel_rfl) (fun _ _ _ h => h) (by rfl) hHeld6 (fun w hSw => by (try dsimp only at hSw); go_simp; try with_reducible rfl) ?_
          (try simp only [Act.put, List.setIfInBounds_toArray, List.set_cons_zero, List.set_cons_succ, List.getElem_toArray, List.getElem_cons_succ, List.getElem_cons_zero])
          refine held_take 9 _ _ rfl (by kernel_rfl) (by kernel_rfl) (by kernel_rfl) (fun _ _ _ h => h) (by rfl) hHeld6 (fun w hSw => by (try dsimp only at hSw); go_simp; try with_reducible rfl) ?_
          (try simp only [Act.put, List.setIfInBounds_toArray, List.set_cons_zero, List.set_cons_succ, List.getElem_toArray, List.getElem_cons_succ, List.getElem_cons_zero])
          refine wpAnyH_ready (rs := [11]) (by kernel_rfl) (by simp) ?_
          refine AllReadyH.cons rfl (fun K hK => ?_) AllReadyH.nil
          rw [if_pos (by rfl)]
          refine wp_store_arr 26 (.tmp 6) (.tmp 25) _ [Value.slice none 0 0] [Value.slice a6 (fromGpL (sortL L3)).length k6] (by rfl) (by rfl) (by rfl) hT rfl sizeSg (by simp [Value.oneCell']) ?_
          intro w7 hN7 hg7
          refine hK.out _ _ (HK.out _ ((hHeld6).2.2.grown hg7 (hHeld6).2.2.size (fun j hj => by cases hj; exact htV))) (fun hHeld7 => ?_)
          clear hK K
          (try simp only [Act.put, List.getElem_toArray, List.getElem_cons_succ, List.getElem_cons_zero])
          refine held_take 12 _ _ rfl (by kernel_rfl) (by kernel_rfl) (by kernel_rfl) (fun _ _ _ h => h) (by rfl) hHeld7 (fun w hSw => by (try dsimp only at hSw); go_simp; try with_reducible rfl) ?_
          (try simp only [Act.put, List.setIfInBounds_toArray, List.set_cons_zero, List.set_cons_succ, List.getElem_toArray, List.getElem_cons_succ, List.getElem_cons_zero])
          refine wpAnyH_done (by kernel_rfl) ?_ _
          have hbF := (hHeld7).2.2
          have hO7 := hO6.kept hg7 hap6
          have hcN := hN7.cell 0
          have hA7 := HAV.out.below hbF
          have hn9 := own_apart hO7 (g := w.heap.size + 2) (.inl (by omega))
          have hbw := hbV.trans (hbF.mono hbV.size)
          clear hS0 hO6 hN7 hg7 hap6 hb6 hT
          go_wp2_with (first | (refine wpList_store_arr 26 (.tmp 4) (.tmp 27) (w.heap.size + 2) [Value.slice none 0 0] [Value.slice a6 (fromGpL (sortL L3)).length k6] rfl rfl rfl rfl hA7 rfl sizeSg (by simp [Value.oneCell']) ?_; intro w9 hA9 hg9 hz9; clear hz9))
          have hb9 := hbw.grown hg9 hbw.size (fun k hk => by cases hk; omega)
          exact bodyPost_ret (results_arr_tmp rfl _ _ (w.heap.size + 2) [Value.slice a6 (fromGpL (sortL L3)).length k6] dS rfl hA9 hdS hrS sizeSg) rfl ⟨_, by rw [HB.out]; rfl, by rw [HL.out]; exact ownsBase (hO7.kept hg9 hn9) (by omega), hb9⟩
      · rw [if_pos (by rfl)]
        try have hap1 := own_apart hO1 (.inr (Nat.le_refl _))
        try have hap6 := own_apart hO6 (.inr (Nat.le_refl _))
        try replace hO1 := hO1.alloc (.cells [Value.slice none 0 0].toArray 26)
        try replace hO2 := hO2.alloc (.cells [Value.slice none 0 0].toArray 26)
        try replace hO3 := hO3.alloc (.cells [Value.slice none 0 0].toArray 26)
        try replace hO4 := hO4.alloc (.cells [Value.slice none 0 0].toArray 26)
        try replace hO6 := hO6.alloc (.cells [Value.slice none 0 0].toArray 26)
        try replace hza := le_alloc hza (.cells [Value.slice none 0 0].toArray 26)
        obtain ⟨hT, htV⟩ := newSgAt (hHeld).2.2
        refine wp_alloc_arr 26 [Value.slice none 0 0] zeroSg (by rfl) ?_
        refine hK.out _ _ (HK.out _ ((hHeld).2.2.alloc (hHeld).2.2.size _)) (fun hHeld1 => ?_)
        clear hK K
        (try simp only [Act.put, List.setIfInBounds_toArray, List.set_cons_zero, List.set_cons_succ, List.getElem_toArray, List.getElem_cons_succ, List.getElem_cons_zero])
        refine wpAnyH_ready (rs := [1]) (by kernel_rfl) (by simp) ?_
        refine AllReadyH.cons rfl (fun K hK => ?_) AllReadyH.nil
        rw [if_pos (by rfl)]
        go_wp2_with (first | (go_at_call 57; (with_reducible refine (ch1 _ hHeld1.2.2).mono ?_); rintro e wA ⟨v1, rfl, hO1, hbA⟩; have hzb := (hHeld1).2.2.size; have hza := hbA.size; try (have hap1 := own_apart hO1 (.inl hT.lt); replace hT := hT.below hbA)))
        refine hK.out _ _ (HK.out _ ((hHeld1).2.2.trans (hbA.mono (hHeld1).2.2.size))) (fun hHeld2 => ?_)
        clear hK K
        (try simp only [Act.put, List.setIfInBounds_toArray, List.set_cons_zero, List.set_cons_succ, List.getElem_toArray, List.getElem_cons_succ, List.getElem_cons_zero])
        refine wpAnyH_ready (rs := [3]) (by kernel_rfl) (by simp) ?_
        refine AllReadyH.cons rfl (fun K hK => ?_) AllReadyH.nil
        rw [if_pos (by rfl)]
        go_wp2_with (first | (go_at_call 57; (with_reducible refine (ch2 _ hHeld2.2.2).mono ?_); rintro e wC ⟨v2, rfl, hO2, hbC⟩; replace hza := Nat.le_trans hza hbC.size; replace hO1 := owns_below hO1 hbC; try (replace hT := hT.below hbC)))
        refine hK.out _ _ (HK.out _ ((hHeld2).2.2.trans (hbC.mono (hHeld2).2.2.size))) (fun hHeld3 => ?_)
        clear hK K
        (try simp only [Act.put, List.setIfInBounds_toArray, List.set_cons_zero, List.set_cons_succ, List.getElem_toArray, List.getElem_cons_succ, List.getElem_cons_zero])
        refine wpAnyH_ready (rs := [4]) (by kernel_rfl) (by simp) ?_
        refine AllReadyH.cons rfl (fun K hK => ?_) AllReadyH.nil
        rw [if_pos (by rfl)]
        refine wp_append_rows _ (.tmp 19) (.tmp 21) 24 (by rfl) i0 (Value.int .i64 0) Try.underlying24 hi hz0 hz1 hz2 rfl _ _ _ _ _ (by rfl) hO1 _ _ _ (by rfl) hO2 (ints_one _) (by unfold maxLen; omega) (by omega) hza ?_
        intro v3 w3 hO3 hg3
        rw [← List.map_append, ← List.length_append, HL3.out] at hO3
        obtain ⟨a3, k3, rfl, -⟩ := row_open hO3
        try (replace hT := hT.grown hg3 (ne_apart hap1))
        refine hK.out _ _ (HK.out _ ((hHeld3).2.2.grown hg3 (hHeld3).2.2.size (fun j hj => Nat.le_trans hzb (hO1.lt j hj).1))) (fun hHeld4 => ?_)
        clear hK K
        (try simp only [Act.put, List.setIfInBounds_toArray, List.set_cons_zero, List.set_cons_succ, List.getElem_toArray, List.getElem_cons_succ, List.getElem_cons_zero])
        refine wpAnyH_ready (rs := [5]) (by kernel_rfl) (by simp) ?_
        refine AllReadyH.cons rfl (fun K hK => ?_) AllReadyH.nil
        rw [if_pos (by rfl)]
        go_wp2_with (first | (go_at_call 56; (with_reducible refine (spec_SortList L3 _ _ _ (own_slv hO3) (by omega)).mono ?_); rintro e w4 ⟨g4, k4, rfl, hO4, hb4⟩; try (replace hT := hT.below hb4)))
        refine hK.out _ _ (HK.out _ ((hHeld4).2.2.trans (hb4.mono (hHeld4).2.2.size))) (fun hHeld5 => ?_)
        clear hK K
        (try simp only [Act.put, List.setIfInBounds_toArray, List.set_cons_zero, List.set_cons_succ, List.getElem_toArray, List.getElem_cons_succ, List.getElem_cons_zero])
        refine wpAnyH_ready (rs := [6]) (by kernel_rfl) (by simp) ?_
        refine AllReadyH.cons rfl (fun K hK => ?_) AllReadyH.nil
        rw [if_pos (by rfl)]
        go_wp2_with (first | (go_at_call 51; (with_reducible refine (spec_FromGaps (sortL L3) _ _ _ (own_slv hO4) (by omega)).mono ?_); rintro e w6 ⟨v6, rfl, hO6, hb6⟩; obtain ⟨a6, k6, rfl, -⟩ := row_open hO6; have hz6 := (hHeld5).2.2.size; try (have hap6 := own_apart hO6 (.inl hT.lt); replace hT := hT.below hb6)))
        refine hK.out _ _ (HK.out _ ((hHeld5).2.2.trans (hb6.mono (hHeld5).2.2.size))) (fun hHeld6 => ?_)
        clear hK K
        (try simp only [Act.put, List.setIfInBounds_toArray, List.set_cons_zero, List.set_cons_succ, List.getElem_toArray, List.getElem_cons_succ, List.getElem_cons_zero])
        refine held_take 7 _ _ rfl (by kernel_rfl) (by kernel_rfl) (by kernel_rfl) (fun _ _ _ h => h) (by rfl) hHeld6 (fun w hSw => by (try dsimp only at hSw); go_simp; try with_reducible rfl) ?_
        (try simp only [Act.put, List.setIfInBounds_toArray, List.set_cons_zero, List.set_cons_succ, List.getElem_toArray, List.getElem_cons_succ, List.getElem_cons_zero])
        refine held_take 8 _ _ rfl (by kernel_rfl) (by kernel_rfl) (by kernel_rfl) (fun _ _ _ h => h) (by rfl) hHeld6 (fun w hSw => by (try dsimp only at hSw); go_simp; try with_reducible rfl) ?_
        (try simp only [Act.put, List.setIfInBounds_toArray, List.set_cons_zero, List.set_cons_succ, List.getElem_toArray, List.getElem_cons_succ, List.getElem_cons_zero])
        refine held_take 9 _ _ rfl (by kernel_rfl) (by kernel_rfl) (by kernel_rfl) (fun _ _ _ h => h) (by rfl) hHeld6 (fun w hSw => by (try dsimp only at hSw); go_simp; try with_reducible rfl) ?_
        (try simp only [Act.put, List.setIfInBounds_toArray, List.set_cons_zero, List.set_cons_succ, List.getElem_toArray, List.getElem_cons_succ, List.getElem_cons_zero])
        refine wpAnyH_ready (rs := [11]) (by kernel_rfl) (by simp) ?_
        refine AllReadyH.cons rfl (fun K hK => ?_) AllReadyH.nil
        rw [if_pos (by rfl)]
        refine wp_store_arr 26 (.tmp 6) (.tmp 25) _ [Value.slice none 0 0] [Value.slice a6 (fromGpL (sortL L3)).length k6] (by rfl) (by rfl) (by rfl) hT rfl sizeSg (by simp [Value.oneCell']) ?_
        intro w7 hN7 hg7
        refine hK.out _ _ (HK.out _ ((hHeld6).2.2.grown hg7 (hHeld6).2.2.size (fun j hj => by cases hj; exact htV))) (fun hHeld7 => ?_)
        clear hK K
        (try simp only [Act.put, List.getElem_toArray, List.getElem_cons_succ, List.getElem_cons_zero])
        refine held_take 12 _ _ rfl (by kernel_rfl) (by kernel_rfl) (by kernel_rfl) (fun _ _ _ h => h) (by rfl) hHeld7 (fun w hSw => by (try dsimp only at hSw); go_simp; try with_reducible rfl) ?_
        (try simp only [Act.put, List.setIfInBounds_toArray, List.set_cons_zero, List.set_cons_succ, List.getElem_toArray, List.getElem_cons_succ, List.getElem_cons_zero])
        refine wpAnyH_done (by kernel_rfl) ?_ _
        have hbF := (hHeld7).2.2
        have hO7 := hO6.kept hg7 hap6
        have hcN := hN7.cell 0
        have hA7 := HAV.out.below hbF
        have hn9 := own_apart hO7 (g := w.heap.size + 2) (.inl (by omega))
        have hbw := hbV.trans (hbF.mono hbV.size)
        clear hS0 hO6 hN7 hg7 hap6 hb6 hT
        go_wp2_with (first | (refine wpList_store_arr 26 (.tmp 4) (.tmp 27) (w.heap.size + 2) [Value.slice none 0 0] [Value.slice a6 (fromGpL (sortL L3)).length k6] rfl rfl rfl rfl hA7 rfl sizeSg (by simp [Value.oneCell']) ?_; intro w9 hA9 hg9 hz9; clear hz9))
        have hb9 := hbw.grown hg9 hbw.size (fun k hk => by cases hk; omega)
        exact bodyPost_ret (results_arr_tmp rfl _ _ (w.heap.size + 2) [Value.slice a6 (fromGpL (sortL L3)).length k6] dS rfl hA9 hdS hrS sizeSg) rfl ⟨_, by rw [HB.out]; rfl, by rw [HL.out]; exact ownsBase (hO7.kept hg9 hn9) (by omega), hb9⟩
set_option maxRecDepth 100000 in
set_option maxHeartbeats 1600000 in
theorem spec_AddOf (A B : List Int) (a : Option Addr) (ca : Nat) (b : Option Addr) (cb : Nat) (w : World) (hra : SlV w a (A.map (Value.int .i64))) (hrb : SlV w b (B.map (Value.int .i64))) (hba : A.length ≤ 1048576) (hbb : B.length ≤ 1048576) :
    Calls Try.prog 26 #[.agg #[.slice a A.length ca], .agg #[.slice b B.length cb]] w (SgPost (addL A B) (addB A B) w) := by
  obtain ⟨i0, hi, hz0, hz1, hz2⟩ := info_parts infoIntL
  obtain ⟨dS, hdS, hrS⟩ := undSg
  obtain ⟨U, hU⟩ : ∃ U, U = ((w.alloc (.cells #[.slice a A.length ca] 26)).alloc (.cells #[.slice b B.length cb] 26)) := ⟨_, rfl⟩
  obtain ⟨V, hV⟩ : ∃ V, V = U.alloc (.cells [Value.slice none 0 0].toArray 26) := ⟨_, rfl⟩
  have hbU : Below w.heap.size w U := by rw [hU]; exact (box_below _ _).alloc (by simp) _
  have hUe : U.heap.size = w.heap.size + 2 := by rw [hU]; simp
  have hcAU : U.cell? ⟨w.heap.size, 0, none⟩ = some (.slice a A.length ca) := by rw [hU]; exact (World.cell?_alloc_lt _ _ ⟨w.heap.size, 0, none⟩ (by simp)).trans (box_cell w _)
  have hcBU : U.cell? ⟨w.heap.size + 1, 0, none⟩ = some (.slice b B.length cb) := by rw [hU]; have := box_cell (w.alloc (.cells #[.slice a A.length ca] 26)) (.slice b B.length cb); rw [show (w.alloc (.cells #[.slice a A.length ca] 26)).heap.size = w.heap.size + 1 by simp] at this; exact this
  have hbUV : Below U.heap.size U V := by rw [hV]; exact box_below _ _
  have hbV := hbU.trans (hbUV.mono hbU.size)
  have hAV : Arr V (w.heap.size + 2) 26 [Value.slice none 0 0] := by rw [hV, ← hUe]; exact Arr.new _ _ _
  have hVs : w.heap.size + 2 < V.heap.size := hAV.lt
  have HAV := Lib.hid hAV
  have HV : Hid (V = ((w.alloc (.cells #[.slice a A.length ca] 26)).alloc (.cells #[.slice b B.length cb] 26)).alloc (.cells [Value.slice none 0 0].toArray 26)) := Lib.hid (by rw [hV, hU])
  have HK0 : Hid (∀ w2, Below V.heap.size V w2 → w2.cell? ⟨w.heap.size, 0, none⟩ = some (.slice a A.length ca) ∧ w2.cell? ⟨w.heap.size + 1, 0, none⟩ = some (.slice b B.length cb)) := Lib.hid fun w2 h => ⟨((h.cell (p := ⟨w.heap.size, 0, none⟩) (show w.heap.size < V.heap.size by omega)).trans (hbUV.cell (p := ⟨w.heap.size, 0, none⟩) (show w.heap.size < U.heap.size by omega))).trans hcAU, ((h.cell (p := ⟨w.heap.size + 1, 0, none⟩) (show w.heap.size + 1 < V.heap.size by omega)).trans (hbUV.cell (p := ⟨w.heap.size + 1, 0, none⟩) (show w.heap.size + 1 < U.heap.size by omega))).trans hcBU⟩
  have hk0 := HK0.out V (Below.refl _ _)
  obtain ⟨hkA, hkB⟩ := hk0
  clear hU hV hbU hbUV hcAU hcBU hAV
  have c1 := spec_IsSemigroup A a ca V (hra.below hbV) hba
  have c2 := fun w' (h : Below V.heap.size V w') => spec_IsSemigroup B b cb w' (hrb.below (hbV.trans (h.mono hbV.size))) hbb
  cases hsa : isSgB A
  · have HB : Hid (addB A B = false) := Lib.hid (by unfold addB; rw [hsa]; rfl)
    have HL : Hid (addL A B = []) := Lib.hid (by unfold addL; rw [hsa]; rfl)
    rw [hsa] at c1
    clear hsa hra hrb c2 hi hz0 hz1 hz2
    go_enter Try.func26, Try.ntmps26
    go_wp2_with (first | (refine wpList_alloc_arr 26 [Value.slice none 0 0] zeroSg rfl rfl ?_; rw [← HV.out]))
    go_wp2_with fail
    refine c1.mono ?_
    rintro e w1 ⟨rfl, hb1⟩
    clear c1 hkA hkB
    have hA9' := HAV.out.below hb1
    go_wp2_with (first | (refine wpList_store_arr 26 (.tmp 4) (.tmp 16) (w.heap.size + 2) [Value.slice none 0 0] [Value.slice none 0 0] rfl rfl rfl rfl hA9' rfl sizeSg (by simp [Value.oneCell']) ?_; intro w9 hA9 hg9 hz9; clear hz9))
    have hb9 := (hbV.trans (hb1.mono hbV.size)).grown hg9 (hbV.trans (hb1.mono hbV.size)).size (fun k hk => by cases hk; omega)
    exact bodyPost_ret (results_arr_tmp rfl _ _ (w.heap.size + 2) [Value.slice none 0 0] dS rfl hA9 hdS hrS sizeSg) rfl ⟨_, by rw [HB.out]; rfl, by rw [HL.out]; exact World.ownsRow_nil _ _ _ _, hb9⟩
  · rw [hsa] at c1
    cases hsb : isSgB B
    · have HB : Hid (addB A B = false) := Lib.hid (by unfold addB; rw [hsa, hsb]; rfl)
      have HL : Hid (addL A B = []) := Lib.hid (by unfold addL; rw [hsa, hsb]; rfl)
      rw [hsb] at c2
      clear hsa hsb hra hrb hi hz0 hz1 hz2
      go_enter Try.func26, Try.ntmps26
      go_wp2_with (first | (refine wpList_alloc_arr 26 [Value.slice none 0 0] zeroSg rfl rfl ?_; rw [← HV.out]))
      go_wp2_with fail
      refine c1.mono ?_
      rintro e w1 ⟨rfl, hb1⟩
      obtain ⟨hk1, hk2⟩ := HK0.out w1 hb1
      have c21 := c2 w1 hb1
      clear c1 c2 hkA hkB
      go_wp2_with fail
      refine c21.mono ?_
      rintro e w2 ⟨rfl, hb2⟩
      have hb12 := hb1.trans (hb2.mono hb1.size)
      clear c21 hk1 hk2 hb2
      have hA9' := HAV.out.below hb12
      go_wp2_with (first | (refine wpList_store_arr 26 (.tmp 4) (.tmp 16) (w.heap.size + 2) [Value.slice none 0 0] [Value.slice none 0 0] rfl rfl rfl rfl hA9' rfl sizeSg (by simp [Value.oneCell']) ?_; intro w9 hA9 hg9 hz9; clear hz9))
      have hb9 := (hbV.trans (hb12.mono hbV.size)).grown hg9 (hbV.trans (hb12.mono hbV.size)).size (fun k hk => by cases hk; omega)
      exact bodyPost_ret (results_arr_tmp rfl _ _ (w.heap.size + 2) [Value.slice none 0 0] dS rfl hA9 hdS hrS sizeSg) rfl ⟨_, by rw [HB.out]; rfl, by rw [HL.out]; exact World.ownsRow_nil _ _ _ _, hb9⟩
    · rw [hsb] at c2
      have HB : Hid (addB A B = fromB (A ++ B)) := Lib.hid (by unfold addB; rw [hsa, hsb]; rfl)
      have HL : Hid (addL A B = fromL (A ++ B)) := Lib.hid (by unfold addL; rw [hsa, hsb]; rfl)
      have hlA := (isSgB_iff.1 hsa).len
      have hlB := (isSgB_iff.1 hsb).len
      have hA0 : 0 < A.length := (okG_iff.1 (isSgB_iff.1 hsa).ok).2.1
      have hB0 : 0 < B.length := (okG_iff.1 (isSgB_iff.1 hsb).ok).2.1
      obtain ⟨bg, og, rfl, hbg, hcg⟩ := hra.open (by intro h; rw [List.map_eq_nil_iff] at h; subst h; simp at hA0)
      obtain ⟨bh, oh, rfl, hbh, hch⟩ := hrb.open (by intro h; rw [List.map_eq_nil_iff] at h; subst h; simp at hB0)
      have HCA : Hid (∀ w2, Below V.heap.size V w2 → ∀ j u, (A.map (Value.int .i64))[j]? = some u → w2.cell? ((⟨bg, og, none⟩ : Addr).add j) = some u) := Lib.hid fun w2 h j u hj => by rw [addr_addO]; exact ((hbV.trans (h.mono hbV.size)).cell (p := ⟨bg, og + j, none⟩) hbg).trans (hcg j u hj)
      have HCB : Hid (∀ w2, Below V.heap.size V w2 → ∀ j u, (B.map (Value.int .i64))[j]? = some u → w2.cell? ((⟨bh, oh, none⟩ : Addr).add j) = some u) := Lib.hid fun w2 h j u hj => by rw [addr_addO]; exact ((hbV.trans (h.mono hbV.size)).cell (p := ⟨bh, oh + j, none⟩) hbh).trans (hch j u hj)
      have HK : Hid (∀ w2, Below V.heap.size V w2 → w2.cell? ⟨w.heap.size, 0, none⟩ = some (.slice (some ⟨bg, og, none⟩) A.length ca) ∧ w2.cell? ⟨w.heap.size + 1, 0, none⟩ = some (.slice (some ⟨bh, oh, none⟩) B.length cb) ∧ Below V.heap.size V w2) := Lib.hid fun w2 h => ⟨(HK0.out w2 h).1, (HK0.out w2 h).2, h⟩
      clear hsa hsb hra hrb hbg hcg hbh hch hA0 hB0
      have hlC : (A ++ B).length ≤ 24 := by rw [List.length_append]; omega
      generalize hL3 : A ++ B = L3 at *
      have HL3 := Lib.hid hL3
      clear hL3
      go_enter Try.func26, Try.ntmps26
      go_wp2_with (first | (refine wpList_alloc_arr 26 [Value.slice none 0 0] zeroSg rfl rfl ?_; rw [← HV.out]))
      go_wp2_with fail
      refine c1.mono ?_
      rintro e w1 ⟨rfl, hb1⟩
      obtain ⟨hk1, hk2⟩ := HK0.out w1 hb1
      have c21 := c2 w1 hb1
      clear c1 c2 hkA hkB
      go_wp2_with fail
      refine c21.mono ?_
      rintro e w2 ⟨rfl, hb2⟩
      have hb12 := hb1.trans (hb2.mono hb1.size)
      clear c21 hk1 hk2 hb2
      have hS0 := HK.out _ hb12.drew
      clear hb1
      go_wp2_with fail
      refine wp_region_held_drew (S := fun w' => w'.cell? ⟨w.heap.size, 0, none⟩ = some (.slice (some ⟨bg, og, none⟩) A.length ca) ∧ w'.cell? ⟨w.heap.size + 1, 0, none⟩ = some (.slice (some ⟨bh, oh, none⟩) B.length cb) ∧ Below V.heap.size V w') (by kernel_rfl) hS0 (fun hHeld => ?_)
      generalize w2.drew = wd at *
      refine held_take 1 _ _ rfl (by kernel_rfl) (by kernel_rfl) (by kernel_rfl) (fun _ _ _ h => h) (by rfl) hHeld (fun w hSw => by (try dsimp only at hSw); go_simp; try with_reducible rfl) ?_
      (try simp only [Act.put, List.setIfInBounds_toArray, List.set_cons_zero, List.set_cons_succ, List.getElem_toArray, List.getElem_cons_succ, List.getElem_cons_zero])
      refine held_take 2 _ _ rfl (by kernel_rfl) (by kernel_rfl) (by kernel_rfl) (fun _ _ _ h => h) (by rfl) hHeld (fun w hSw => by (try dsimp only at hSw); go_simp; try with_reducible rfl) ?_
      (try simp only [Act.put, List.setIfInBounds_toArray, List.set_cons_zero, List.set_cons_succ, List.getElem_toArray, List.getElem_cons_succ, List.getElem_cons_zero])
      refine held_take 4 _ _ rfl (by kernel_rfl) (by kernel_rfl) (by kernel_rfl) (fun _ _ _ h => h) (by rfl) hHeld (fun w hSw => by (try dsimp only at hSw); go_simp; try with_reducible rfl) ?_
      (try simp only [Act.put, List.setIfInBounds_toArray, List.set_cons_zero, List.set_cons_succ, List.getElem_toArray, List.getElem_cons_succ, List.getElem_cons_zero])
      refine held_take 5 _ _ rfl (by kernel_rfl) (by kernel_rfl) (by kernel_rfl) (fun _ _ _ h => h) (by rfl) hHeld (fun w hSw => by (try dsimp only at hSw); go_simp; try with_reducible rfl) ?_
      (try simp only [Act.put, List.setIfInBounds_toArray, List.set_cons_zero, List.set_cons_succ, List.getElem_toArray, List.getElem_cons_succ, List.getElem_cons_zero])
      refine wpAnyH_ready (rs := [0, 11]) (by kernel_rfl) (by simp) ?_
      refine AllReadyH.cons rfl (fun K hK => ?_) (AllReadyH.cons rfl (fun K hK => ?_) AllReadyH.nil)
      · rw [if_pos (by rfl)]
        obtain ⟨hO1, hza, hzb⟩ := newRowAt (hHeld).2.2
        try (have hap1 := own_apart hO1 (.inl hT.lt); replace hT := hT.alloc (.cells #[] 3))
        try simp only [alloc_szO] at hT
        try simp only [alloc_szO] at htV
        try simp only [alloc_szO] at hap1
        try simp only [alloc_szO] at hap2
        try simp only [alloc_szO] at hO1
        try simp only [alloc_szO] at hzb
        go_wp2_with fail
        refine hK.out _ _ (HK.out _ ((hHeld).2.2.alloc (hHeld).2.2.size _)) (fun hHeld1 => ?_)
        clear hK K
        (try simp only [Act.put, List.setIfInBounds_toArray, List.set_cons_zero, List.set_cons_succ, List.getElem_toArray, List.getElem_cons_succ, List.getElem_cons_zero])
        refine wpAnyH_ready (rs := [3, 11]) (by kernel_rfl) (by simp) ?_
        refine AllReadyH.cons rfl (fun K hK => ?_) (AllReadyH.cons rfl (fun K hK => ?_) AllReadyH.nil)
        · rw [if_pos (by rfl)]
          refine wp_append_own_at _ (.tmp 18) (.tmp 20) 24 (by rfl) _ 3 i0 (Value.int .i64 0) 1 8 Try.underlying24 hi hz0 hz1 hz2 rfl (by decide) _ _ _ (by rfl) hO1 ⟨bg, og, none⟩ A.length _ (A.map (Value.int .i64)) (by rfl) (by simp) (HCA.out _ (hHeld1).2.2) (ints_one _) (by unfold maxLen; omega) (by omega) (by first | exact hza | simp | (simp; omega)) ?_
          intro vE wE hO2 hgE _ hatE
          simp only [Nat.zero_add, List.nil_append] at hO2
          try (have hap2 := apart_next hap1 hatE hT.lt; replace hT := hT.grown hgE (ne_apart hap1))
          have hzc := Nat.le_trans hza hgE.size
          try simp only [alloc_szO] at hzc
          refine hK.out _ _ (HK.out _ ((hHeld1).2.2.grown hgE (hHeld1).2.2.size (fun j hj => Nat.le_trans hzb (hO1.lt j hj).1))) (fun hHeld2 => ?_)
          clear hK K
          (try simp only [Act.put, List.setIfInBounds_toArray, List.set_cons_zero, List.set_cons_succ, List.getElem_toArray, List.getElem_cons_succ, List.getElem_cons_zero])
          refine wpAnyH_ready (rs := [6, 11]) (by kernel_rfl) (by simp) ?_
          refine AllReadyH.cons rfl (fun K hK => ?_) (AllReadyH.cons rfl (fun K hK => ?_) AllReadyH.nil)
          · rw [if_pos (by rfl)]
            refine wp_append_own_at _ (.tmp 21) (.tmp 23) 24 (by rfl) _ 3 i0 (Value.int .i64 0) 1 8 Try.underlying24 hi hz0 hz1 hz2 rfl (by decide) _ _ _ (by rfl) hO2 ⟨bh, oh, none⟩ B.length _ (B.map (Value.int .i64)) (by rfl) (by simp) (HCB.out _ (hHeld2).2.2) (ints_one _) (by unfold maxLen; omega) (by omega) (by first | exact hzc | simp | (simp; omega)) ?_
            intro vF wF hO3 hgF _ _
            rw [← List.map_append, ← List.length_append, HL3.out] at hO3
            obtain ⟨a3, k3, rfl, -⟩ := row_open hO3
            try (replace hT := hT.grown hgF (ne_apart hap2))
            refine hK.out _ _ (HK.out _ ((hHeld2).2.2.grown hgF (hHeld2).2.2.size (fun j hj => Nat.le_trans hzb (hO2.lt j hj).1))) (fun hHeld3 => ?_)
            clear hK K
            (try simp only [Act.put, List.setIfInBounds_toArray, List.set_cons_zero, List.set_cons_succ, List.getElem_toArray, List.getElem_cons_succ, List.getElem_cons_zero])
            refine wpAnyH_ready (rs := [7, 11]) (by kernel_rfl) (by simp) ?_
            refine AllReadyH.cons rfl (fun K hK => ?_) (AllReadyH.cons rfl (fun K hK => ?_) AllReadyH.nil)
            · rw [if_pos (by rfl)]
              go_wp2_with (first | (go_at_call 60; (with_reducible refine (spec_FromGens L3 _ _ _ (own_slv hO3) (by omega)).mono ?_); rintro e w6 ⟨v6, rfl, hO6, hb6⟩; obtain ⟨a6, k6, rfl, -⟩ := row_open hO6; have hz6 := (hHeld3).2.2.size; try (have hap6 := own_apart hO6 (.inl hT.lt); replace hT := hT.below hb6)))
              refine hK.out _ _ (HK.out _ ((hHeld3).2.2.trans (hb6.mono (hHeld3).2.2.size))) (fun hHeld4 => ?_)
              clear hK K
              (try simp only [Act.put, List.setIfInBounds_toArray, List.set_cons_zero, List.set_cons_succ, List.getElem_toArray, List.getElem_cons_succ, List.getElem_cons_zero])
              refine held_take 8 _ _ rfl (by kernel_rfl) (by kernel_rfl) (by kernel_rfl) (fun _ _ _ h => h) (by rfl) hHeld4 (fun w hSw => by (try dsimp only at hSw); go_simp; try with_reducible rfl) ?_
              (try simp only [Act.put, List.setIfInBounds_toArray, List.set_cons_zero, List.set_cons_succ, List.getElem_toArray, List.getElem_cons_succ, List.getElem_cons_zero])
              refine held_take 9 _ _ rfl (by kernel_rfl) (by kernel_rfl) (by kernel_rfl) (fun _ _ _ h => h) (by rfl) hHeld4 (fun w hSw => by (try dsimp only at hSw); go_simp; try with_reducible rfl) ?_
              (try simp only [Act.put, List.setIfInBounds_toArray, List.set_cons_zero, List.set_cons_succ, List.getElem_toArray, List.getElem_cons_succ, List.getElem_cons_zero])
              refine held_take 10 _ _ rfl (by kernel_rfl) (by kernel_rfl) (by kernel_rfl) (fun _ _ _ h => h) (by rfl) hHeld4 (fun w hSw => by (try dsimp only at hSw); go_simp; try with_reducible rfl) ?_
              (try simp only [Act.put, List.setIfInBounds_toArray, List.set_cons_zero, List.set_cons_succ, List.getElem_toArray, List.getElem_cons_succ, List.getElem_cons_zero])
              refine wpAnyH_ready (rs := [11]) (by kernel_rfl) (by simp) ?_
              refine AllReadyH.cons rfl (fun K hK => ?_) AllReadyH.nil
              rw [if_pos (by rfl)]
              try have hap1 := own_apart hO1 (.inr (Nat.le_refl _))
              try have hap2 := own_apart hO2 (.inr (Nat.le_refl _))
              try have hap6 := own_apart hO6 (.inr (Nat.le_refl _))
              try replace hO1 := hO1.alloc (.cells [Value.slice none 0 0].toArray 26)
              try replace hO2 := hO2.alloc (.cells [Value.slice none 0 0].toArray 26)
              try replace hO3 := hO3.alloc (.cells [Value.slice none 0 0].toArray 26)
              try replace hO4 := hO4.alloc (.cells [Value.slice none 0 0].toArray 26)
              try replace hO6 := hO6.alloc (.cells [Value.slice none 0 0].toArray 26)
              try replace hzc := le_alloc hzc (.cells [Value.slice none 0 0].toArray 26)
              try replace hza := le_alloc hza (.cells [Value.slice none 0 0].toArray 26)
              obtain ⟨hT, htV⟩ := newSgAt (hHeld4).2.2
              try simp only [alloc_szO] at hT
              try simp only [alloc_szO] at htV
              try simp only [alloc_szO] at hap1
              try simp only [alloc_szO] at hap2
              try simp only [alloc_szO] at hO1
              try simp only [alloc_szO] at hzb
              refine wp_alloc_arr 26 [Value.slice none 0 0] zeroSg (by rfl) ?_
              refine hK.out _ _ (HK.out _ ((hHeld4).2.2.alloc (hHeld4).2.2.size _)) (fun hHeld5 => ?_)
              clear hK K
              (try simp only [Act.put, List.setIfInBounds_toArray, List.set_cons_zero, List.set_cons_succ, List.getElem_toArray, List.getElem_cons_succ, List.getElem_cons_zero])
              refine wpAnyH_ready (rs := [12]) (by kernel_rfl) (by simp) ?_
              refine AllReadyH.cons rfl (fun K hK => ?_) AllReadyH.nil
              rw [if_pos (by rfl)]
              refine wp_store_arr 26 (.tmp 6) (.tmp 26) _ [Value.slice none 0 0] [Value.slice a6 (fromL L3).length k6] (by rfl) (by rfl) (by rfl) hT rfl sizeSg (by simp [Value.oneCell']) ?_
              intro w7 hN7 hg7
              refine hK.out _ _ (HK.out _ ((hHeld5).2.2.grown hg7 (hHeld5).2.2.size (fun j hj => by cases hj; exact htV))) (fun hHeld6 => ?_)
              clear hK K
              (try simp only [Act.put, List.getElem_toArray, List.getElem_cons_succ, List.getElem_cons_zero])
              refine held_take 13 _ _ rfl (by kernel_rfl) (by kernel_rfl) (by kernel_rfl) (fun _ _ _ h => h) (by rfl) hHeld6 (fun w hSw => by (try dsimp only at hSw); go_simp; try with_reducible rfl) ?_
              (try simp only [Act.put, List.setIfInBounds_toArray, List.set_cons_zero, List.set_cons_succ, List.getElem_toArray, List.getElem_cons_succ, List.getElem_cons_zero])
              refine wpAnyH_done (by kernel_rfl) ?_ _
              have hbF := (hHeld6).2.2
              have hO7 := hO6.kept hg7 hap6
              have hcN := hN7.cell 0
              have hA7 := HAV.out.below hbF
              have hn9 := own_apart hO7 (g := w.heap.size + 2) (.inl (by omega))
              have hbw := hbV.trans (hbF.mono hbV.size)
              clear hS0 hO6 hN7 hg7 hap6 hb6 hT
              go_wp2_with (first | (refine wpList_store_arr 26 (.tmp 4) (.tmp 28) (w.heap.size + 2) [Value.slice none 0 0] [Value.slice a6 (fromL L3).length k6] rfl rfl rfl rfl hA7 rfl sizeSg (by simp [Value.oneCell']) ?_; intro w9 hA9 hg9 hz9; clear hz9))
              have hb9 := hbw.grown hg9 hbw.size (fun k hk => by cases hk; omega)
              exact bodyPost_ret (results_arr_tmp rfl _ _ (w.heap.size + 2) [Value.slice a6 (fromL L3).length k6] dS rfl hA9 hdS hrS sizeSg) rfl ⟨_, by rw [HB.out]; rfl, by rw [HL.out]; exact ownsBase (hO7.kept hg9 hn9) (by omega), hb9⟩
            · rw [if_pos (by rfl)]
              try have hap1 := own_apart hO1 (.inr (Nat.le_refl _))
              try have hap2 := own_apart hO2 (.inr (Nat.le_refl _))
              try have hap6 := own_apart hO6 (.inr (Nat.le_refl _))
              try replace hO1 := hO1.alloc (.cells [Value.slice none 0 0].toArray 26)
              try replace hO2 := hO2.alloc (.cells [Value.slice none 0 0].toArray 26)
              try replace hO3 := hO3.alloc (.cells [Value.slice none 0 0].toArray 26)
              try replace hO4 := hO4.alloc (.cells [Value.slice none 0 0].toArray 26)
              try replace hO6 := hO6.alloc (.cells [Value.slice none 0 0].toArray 26)
              try replace hzc := le_alloc hzc (.cells [Value.slice none 0 0].toArray 26)
              try replace hza := le_alloc hza (.cells [Value.slice none 0 0].toArray 26)
              obtain ⟨hT, htV⟩ := newSgAt (hHeld3).2.2
              try simp only [alloc_szO] at hT
              try simp only [alloc_szO] at htV
              try simp only [alloc_szO] at hap1
              try simp only [alloc_szO] at hap2
              try simp only [alloc_szO] at hO1
              try simp only [alloc_szO] at hzb
              refine wp_alloc_arr 26 [Value.slice none 0 0] zeroSg (by rfl) ?_
              refine hK.out _ _ (HK.out _ ((hHeld3).2.2.alloc (hHeld3).2.2.size _)) (fun hHeld4 => ?_)
              clear hK K
              (try simp only [Act.put, List.setIfInBounds_toArray, List.set_cons_zero, List.set_cons_succ, List.getElem_toArray, List.getElem_cons_succ, List.getElem_cons_zero])
              refine wpAnyH_ready (rs := [7]) (by kernel_rfl) (by simp) ?_
              refine AllReadyH.cons rfl (fun K hK => ?_) AllReadyH.nil
              rw [if_pos (by rfl)]
              go_wp2_with (first | (go_at_call 60; (with_reducible refine (spec_FromGens L3 _ _ _ (own_slv hO3) (by omega)).mono ?_); rintro e w6 ⟨v6, rfl, hO6, hb6⟩; obtain ⟨a6, k6, rfl, -⟩ := row_open hO6; have hz6 := (hHeld4).2.2.size; try (have hap6 := own_apart hO6 (.inl hT.lt); replace hT := hT.below hb6)))
              refine hK.out _ _ (HK.out _ ((hHeld4).2.2.trans (hb6.mono (hHeld4).2.2.size))) (fun hHeld5 => ?_)
              clear hK K
              (try simp only [Act.put, List.setIfInBounds_toArray, List.set_cons_zero, List.set_cons_succ, List.getElem_toArray, List.getElem_cons_succ, List.getElem_cons_zero])
              refine held_take 8 _ _ rfl (by kernel_rfl) (by kernel_rfl) (by kernel_rfl) (fun _ _ _ h => h) (by rfl) hHeld5 (fun w hSw => by (try dsimp only at hSw); go_simp; try with_reducible rfl) ?_
              (try simp only [Act.put, List.setIfInBounds_toArray, List.set_cons_zero, List.set_cons_succ, List.getElem_toArray, List.getElem_cons_succ, List.getElem_cons_zero])
              refine held_take 9 _ _ rfl (by kernel_rfl) (by kernel_rfl) (by kernel_rfl) (fun _ _ _ h => h) (by rfl) hHeld5 (fun w hSw => by (try dsimp only at hSw); go_simp; try with_reducible rfl) ?_
              (try simp only [Act.put, List.setIfInBounds_toArray, List.set_cons_zero, List.set_cons_succ, List.getElem_toArray, List.getElem_cons_succ, List.getElem_cons_zero])
              refine held_take 10 _ _ rfl (by kernel_rfl) (by kernel_rfl) (by kernel_rfl) (fun _ _ _ h => h) (by rfl) hHeld5 (fun w hSw => by (try dsimp only at hSw); go_simp; try with_reducible rfl) ?_
              (try simp only [Act.put, List.setIfInBounds_toArray, List.set_cons_zero, List.set_cons_succ, List.getElem_toArray, List.getElem_cons_succ, List.getElem_cons_zero])
              refine wpAnyH_ready (rs := [12]) (by kernel_rfl) (by simp) ?_
              refine AllReadyH.cons rfl (fun K hK => ?_) AllReadyH.nil
              rw [if_pos (by rfl)]
              refine wp_store_arr 26 (.tmp 6) (.tmp 26) _ [Value.slice none 0 0] [Value.slice a6 (fromL L3).length k6] (by rfl) (by rfl) (by rfl) hT rfl sizeSg (by simp [Value.oneCell']) ?_
              intro w7 hN7 hg7
              refine hK.out _ _ (HK.out _ ((hHeld5).2.2.grown hg7 (hHeld5).2.2.size (fun j hj => by cases hj; exact htV))) (fun hHeld6 => ?_)
              clear hK K
              (try simp only [Act.put, List.getElem_toArray, List.getElem_cons_succ, List.getElem_cons_zero])
              refine held_take 13 _ _ rfl (by kernel_rfl) (by kernel_rfl) (by kernel_rfl) (fun _ _ _ h => h) (by rfl) hHeld6 (fun w hSw => by (try dsimp only at hSw); go_simp; try with_reducible rfl) ?_
              (try simp only [Act.put, List.setIfInBounds_toArray, List.set_cons_zero, List.set_cons_succ, List.getElem_toArray, List.getElem_cons_succ, List.getElem_cons_zero])
              refine wpAnyH_done (by kernel_rfl) ?_ _
              have hbF := (hHeld6).2.2
              have hO7 := hO6.kept hg7 hap6
              have hcN := hN7.cell 0
              have hA7 := HAV.out.below hbF
              have hn9 := own_apart hO7 (g := w.heap.size + 2) (.inl (by omega))
              have hbw := hbV.trans (hbF.mono hbV.size)
              clear hS0 hO6 hN7 hg7 hap6 hb6 hT
              go_wp2_with (first | (refine wpList_store_arr 26 (.tmp 4) (.tmp 28) (w.heap.size + 2) [Value.slice none 0 0] [Value.slice a6 (fromL L3).length k6] rfl rfl rfl rfl hA7 rfl sizeSg (by simp [Value.oneCell']) ?_; intro w9 hA9 hg9 hz9; clear hz9))
              have hb9 := hbw.grown hg9 hbw.size (fun k hk => by cases hk; omega)
              exact bodyPost_ret (results_arr_tmp rfl _ _ (w.heap.size + 2) [Value.slice a6 (fromL L3).length k6] dS rfl hA9 hdS hrS sizeSg) rfl ⟨_, by rw [HB.out]; rfl, by rw [HL.out]; exact ownsBase (hO7.kept hg9 hn9) (by omega), hb9⟩
          · rw [if_pos (by rfl)]
            try have hap1 := own_apart hO1 (.inr (Nat.le_refl _))
            try have hap2 := own_apart hO2 (.inr (Nat.le_refl _))
            try have hap6 := own_apart hO6 (.inr (Nat.le_refl _))
            try replace hO1 := hO1.alloc (.cells [Value.slice none 0 0].toArray 26)
            try replace hO2 := hO2.alloc (.cells [Value.slice none 0 0].toArray 26)
            try replace hO3 := hO3.alloc (.cells [Value.slice none 0 0].toArray 26)
            try replace hO4 := hO4.alloc (.cells [Value.slice none 0 0].toArray 26)
            try replace hO6 := hO6.alloc (.cells [Value.slice none 0 0].toArray 26)
            try replace hzc := le_alloc hzc (.cells [Value.slice none 0 0].toArray 26)
            try replace hza := le_alloc hza (.cells [Value.slice none 0 0].toArray 26)
            obtain ⟨hT, htV⟩ := newSgAt (hHeld2).2.2
            try simp only [alloc_szO] at hT
            try simp only [alloc_szO] at htV
            try simp only [alloc_szO] at hap1
            try simp only [alloc_szO] at hap2
            try simp only [alloc_szO] at hO1
            try simp only [alloc_szO] at hzb
            refine wp_alloc_arr 26 [Value.slice none 0 0] zeroSg (by rfl) ?_
            refine hK.out _ _ (HK.out _ ((hHeld2).2.2.alloc (hHeld2).2.2.size _)) (fun hHeld3 => ?_)
            clear hK K
            (try simp only [Act.put, List.setIfInBounds_toArray, List.set_cons_zero, List.set_cons_succ, List.getElem_toArray, List.getElem_cons_succ, List.getElem_cons_zero])
            refine wpAnyH_ready (rs := [6]) (by kernel_rfl) (by simp) ?_
            refine AllReadyH.cons rfl (fun K hK => ?_) AllReadyH.nil
            rw [if_pos (by rfl)]
            refine wp_append_own_at _ (.tmp 21) (.tmp 23) 24 (by rfl) _ 3 i0 (Value.int .i64 0) 1 8 Try.underlying24 hi hz0 hz1 hz2 rfl (by decide) _ _ _ (by rfl) hO2 ⟨bh, oh, none⟩ B.length _ (B.map (Value.int .i64)) (by rfl) (by simp) (HCB.out _ (hHeld3).2.2) (ints_one _) (by unfold maxLen; omega) (by omega) (by first | exact hzc | simp | (simp; omega)) ?_
            intro vF wF hO3 hgF _ _
            rw [← List.map_append, ← List.length_append, HL3.out] at hO3
            obtain ⟨a3, k3, rfl, -⟩ := row_open hO3
            try (replace hT := hT.grown hgF (ne_apart hap2))
            refine hK.out _ _ (HK.out _ ((hHeld3).2.2.grown hgF (hHeld3).2.2.size (fun j hj => Nat.le_trans hzb (hO2.lt j hj).1))) (fun hHeld4 => ?_)
            clear hK K
            (try simp only [Act.put, List.setIfInBounds_toArray, List.set_cons_zero, List.set_cons_succ, List.getElem_toArray, List.getElem_cons_succ, List.getElem_cons_zero])
            refine wpAnyH_ready (rs := [7]) (by kernel_rfl) (by simp) ?_
            refine AllReadyH.cons rfl (fun K hK => ?_) AllReadyH.nil
            rw [if_pos (by rfl)]
            go_wp2_with (first | (go_at_call 60; (with_reducible refine (spec_FromGens L3 _ _ _ (own_slv hO3) (by omega)).mono ?_); rintro e w6 ⟨v6, rfl, hO6, hb6⟩; obtain ⟨a6, k6, rfl, -⟩ := row_open hO6; have hz6 := (hHeld4).2.2.size; try (have hap6 := own_apart hO6 (.inl hT.lt); replace hT := hT.below hb6)))
            refine hK.out _ _ (HK.out _ ((hHeld4).2.2.trans (hb6.mono (hHeld4).2.2.size))) (fun hHeld5 => ?_)
            clear hK K
            (try simp only [Act.put, List.setIfInBounds_toArray, List.set_cons_zero, List.set_cons_succ, List.getElem_toArray, List.getElem_cons_succ, List.getElem_cons_zero])
            refine held_take 8 _ _ rfl (by kernel_rfl) (by kernel_rfl) (by kernel_rfl) (fun _ _ _ h => h) (by rfl) hHeld5 (fun w hSw => by (try dsimp only at hSw); go_simp; try with_reducible rfl) ?_
            (try simp only [Act.put, List.setIfInBounds_toArray, List.set_cons_zero, List.set_cons_succ, List.getElem_toArray, List.getElem_cons_succ, List.getElem_cons_zero])
            refine held_take 9 _ _ rfl (by kernel_rfl) (by kernel_rfl) (by kernel_rfl) (fun _ _ _ h => h) (by rfl) hHeld5 (fun w hSw => by (try dsimp only at hSw); go_simp; try with_reducible rfl) ?_
            (try simp only [Act.put, List.setIfInBounds_toArray, List.set_cons_zero, List.set_cons_succ, List.getElem_toArray, List.getElem_cons_succ, List.getElem_cons_zero])
            refine held_take 10 _ _ rfl (by kernel_rfl) (by kernel_rfl) (by kernel_rfl) (fun _ _ _ h => h) (by rfl) hHeld5 (fun w hSw => by (try dsimp only at hSw); go_simp; try with_reducible rfl) ?_
            (try simp only [Act.put, List.setIfInBounds_toArray, List.set_cons_zero, List.set_cons_succ, List.getElem_toArray, List.getElem_cons_succ, List.getElem_cons_zero])
            refine wpAnyH_ready (rs := [12]) (by kernel_rfl) (by simp) ?_
            refine AllReadyH.cons rfl (fun K hK => ?_) AllReadyH.nil
            rw [if_pos (by rfl)]
            refine wp_store_arr 26 (.tmp 6) (.tmp 26) _ [Value.slice none 0 0] [Value.slice a6 (fromL L3).length k6] (by rfl) (by rfl) (by rfl) hT rfl sizeSg (by simp [Value.oneCell']) ?_
            intro w7 hN7 hg7
            refine hK.out _ _ (HK.out _ ((hHeld5).2.2.grown hg7 (hHeld5).2.2.size (fun j hj => by cases hj; exact htV))) (fun hHeld6 => ?_)
            clear hK K
            (try simp only [Act.put, List.getElem_toArray, List.getElem_cons_succ, List.getElem_cons_zero])
            refine held_take 13 _ _ rfl (by kernel_rfl) (by kernel_rfl) (by kernel_rfl) (fun _ _ _ h => h) (by rfl) hHeld6 (fun w hSw => by (try dsimp only at hSw); go_simp; try with_reducible rfl) ?_
            (try simp only [Act.put, List.setIfInBounds_toArray, List.set_cons_zero, List.set_cons_succ, List.getElem_toArray, List.getElem_cons_succ, List.getElem_cons_zero])
            refine wpAnyH_done (by kernel_rfl) ?_ _
            have hbF := (hHeld6).2.2
            have hO7 := hO6.kept hg7 hap6
            have hcN := hN7.cell 0
            have hA7 := HAV.out.below hbF
            have hn9 := own_apart hO7 (g := w.heap.size + 2) (.inl (by omega))
            have hbw := hbV.trans (hbF.mono hbV.size)
            clear hS0 hO6 hN7 hg7 hap6 hb6 hT
            go_wp2_with (first | (refine wpList_store_arr 26 (.tmp 4) (.tmp 28) (w.heap.size + 2) [Value.slice none 0 0] [Value.slice a6 (fromL L3).length k6] rfl rfl rfl rfl hA7 rfl sizeSg (by simp [Value.oneCell']) ?_; intro w9 hA9 hg9 hz9; clear hz9))
            have hb9 := hbw.grown hg9 hbw.size (fun k hk => by cases hk; omega)
            exact bodyPost_ret (results_arr_tmp rfl _ _ (w.heap.size + 2) [Value.slice a6 (fromL L3).length k6] dS rfl hA9 hdS hrS sizeSg) rfl ⟨_, by rw [HB.out]; rfl, by rw [HL.out]; exact ownsBase (hO7.kept hg9 hn9) (by omega), hb9⟩
        · rw [if_pos (by rfl)]
          try have hap1 := own_apart hO1 (.inr (Nat.le_refl _))
          try have hap2 := own_apart hO2 (.inr (Nat.le_refl _))
          try have hap6 := own_apart hO6 (.inr (Nat.le_refl _))
          try replace hO1 := hO1.alloc (.cells [Value.slice none 0 0].toArray 26)
          try replace hO2 := hO2.alloc (.cells [Value.slice none 0 0].toArray 26)
          try replace hO3 := hO3.alloc (.cells [Value.slice none 0 0].toArray 26)
          try replace hO4 := hO4.alloc (.cells [Value.slice none 0 0].toArray 26)
          try replace hO6 := hO6.alloc (.cells [Value.slice none 0 0].toArray 26)
          try replace hzc := le_alloc hzc (.cells [Value.slice none 0 0].toArray 26)
          try replace hza := le_alloc hza (.cells [Value.slice none 0 0].toArray 26)
          obtain ⟨hT, htV⟩ := newSgAt (hHeld1).2.2
          try simp only [alloc_szO] at hT
          try simp only [alloc_szO] at htV
          try simp only [alloc_szO] at hap1
          try simp only [alloc_szO] at hap2
          try simp only [alloc_szO] at hO1
          try simp only [alloc_szO] at hzb
          refine wp_alloc_arr 26 [Value.slice none 0 0] zeroSg (by rfl) ?_
          refine hK.out _ _ (HK.out _ ((hHeld1).2.2.alloc (hHeld1).2.2.size _)) (fun hHeld2 => ?_)
          clear hK K
          (try simp only [Act.put, List.setIfInBounds_toArray, List.set_cons_zero, List.set_cons_succ, List.getElem_toArray, List.getElem_cons_succ, List.getElem_cons_zero])
          refine wpAnyH_ready (rs := [3]) (by kernel_rfl) (by simp) ?_
          refine AllReadyH.cons rfl (fun K hK => ?_) AllReadyH.nil
          rw [if_pos (by rfl)]
          refine wp_append_own_at _ (.tmp 18) (.tmp 20) 24 (by rfl) _ 3 i0 (Value.int .i64 0) 1 8 Try.underlying24 hi hz0 hz1 hz2 rfl (by decide) _ _ _ (by rfl) hO1 ⟨bg, og, none⟩ A.length _ (A.map (Value.int .i64)) (by rfl) (by simp) (HCA.out _ (hHeld2).2.2) (ints_one _) (by unfold maxLen; omega) (by omega) (by first | exact hza | simp | (simp; omega)) ?_
          intro vE wE hO2 hgE _ hatE
          simp only [Nat.zero_add, List.nil_append] at hO2
          try (have hap2 := apart_next hap1 hatE hT.lt; replace hT := hT.grown hgE (ne_apart hap1))
          have hzc := Nat.le_trans hza hgE.size
          try simp only [alloc_szO] at hzc
          refine hK.out _ _ (HK.out _ ((hHeld2).2.2.grown hgE (hHeld2).2.2.size (fun j hj => Nat.le_trans hzb (hO1.lt j hj).1))) (fun hHeld3 => ?_)
          clear hK K
          (try simp only [Act.put, List.setIfInBounds_toArray, List.set_cons_zero, List.set_cons_succ, List.getElem_toArray, List.getElem_cons_succ, List.getElem_cons_zero])
          refine wpAnyH_ready (rs := [6]) (by kernel_rfl) (by simp) ?_
          refine AllReadyH.cons rfl (fun K hK => ?_) AllReadyH.nil
          rw [if_pos (by rfl)]
          refine wp_append_own_at _ (.tmp 21) (.tmp 23) 24 (by rfl) _ 3 i0 (Value.int .i64 0) 1 8 Try.underlying24 hi hz0 hz1 hz2 rfl (by decide) _ _ _ (by rfl) hO2 ⟨bh, oh, none⟩ B.length _ (B.map (Value.int .i64)) (by rfl) (by simp) (HCB.out _ (hHeld3).2.2) (ints_one _) (by unfold maxLen; omega) (by omega) (by first | exact hzc | simp | (simp; omega)) ?_
          intro vF wF hO3 hgF _ _
          rw [← List.map_append, ← List.length_append, HL3.out] at hO3
          obtain ⟨a3, k3, rfl, -⟩ := row_open hO3
          try (replace hT := hT.grown hgF (ne_apart hap2))
          refine hK.out _ _ (HK.out _ ((hHeld3).2.2.grown hgF (hHeld3).2.2.size (fun j hj => Nat.le_trans hzb (hO2.lt j hj).1))) (fun hHeld4 => ?_)
          clear hK K
          (try simp only [Act.put, List.setIfInBounds_toArray, List.set_cons_zero, List.set_cons_succ, List.getElem_toArray, List.getElem_cons_succ, List.getElem_cons_zero])
          refine wpAnyH_ready (rs := [7]) (by kernel_rfl) (by simp) ?_
          refine AllReadyH.cons rfl (fun K hK => ?_) AllReadyH.nil
          rw [if_pos (by rfl)]
          go_wp2_with (first | (go_at_call 60; (with_reducible refine (spec_FromGens L3 _ _ _ (own_slv hO3) (by omega)).mono ?_); rintro e w6 ⟨v6, rfl, hO6, hb6⟩; obtain ⟨a6, k6, rfl, -⟩ := row_open hO6; have hz6 := (hHeld4).2.2.size; try (have hap6 := own_apart hO6 (.inl hT.lt); replace hT := hT.below hb6)))
          refine hK.out _ _ (HK.out _ ((hHeld4).2.2.trans (hb6.mono (hHeld4).2.2.size))) (fun hHeld5 => ?_)
          clear hK K
          (try simp only [Act.put, List.setIfInBounds_toArray, List.set_cons_zero, List.set_cons_succ, List.getElem_toArray, List.getElem_cons_succ, List.getElem_cons_zero])
          refine held_take 8 _ _ rfl (by kernel_rfl) (by kernel_rfl) (by kernel_rfl) (fun _ _ _ h => h) (by rfl) hHeld5 (fun w hSw => by (try dsimp only at hSw); go_simp; try with_reducible rfl) ?_
          (try simp only [Act.put, List.setIfInBounds_toArray, List.set_cons_zero, List.set_cons_succ, List.getElem_toArray, List.getElem_cons_succ, List.getElem_cons_zero])
          refine held_take 9 _ _ rfl (by kernel_rfl) (by kernel_rfl) (by kernel_rfl) (fun _ _ _ h => h) (by rfl) hHeld5 (fun w hSw => by (try dsimp only at hSw); go_simp; try with_reducible rfl) ?_
          (try simp only [Act.put, List.setIfInBounds_toArray, List.set_cons_zero, List.set_cons_succ, List.getElem_toArray, List.getElem_cons_succ, List.getElem_cons_zero])
          refine held_take 10 _ _ rfl (by kernel_rfl) (by kernel_rfl) (by kernel_rfl) (fun _ _ _ h => h) (by rfl) hHeld5 (fun w hSw => by (try dsimp only at hSw); go_simp; try with_reducible rfl) ?_
          (try simp only [Act.put, List.setIfInBounds_toArray, List.set_cons_zero, List.set_cons_succ, List.getElem_toArray, List.getElem_cons_succ, List.getElem_cons_zero])
          refine wpAnyH_ready (rs := [12]) (by kernel_rfl) (by simp) ?_
          refine AllReadyH.cons rfl (fun K hK => ?_) AllReadyH.nil
          rw [if_pos (by rfl)]
          refine wp_store_arr 26 (.tmp 6) (.tmp 26) _ [Value.slice none 0 0] [Value.slice a6 (fromL L3).length k6] (by rfl) (by rfl) (by rfl) hT rfl sizeSg (by simp [Value.oneCell']) ?_
          intro w7 hN7 hg7
          refine hK.out _ _ (HK.out _ ((hHeld5).2.2.grown hg7 (hHeld5).2.2.size (fun j hj => by cases hj; exact htV))) (fun hHeld6 => ?_)
          clear hK K
          (try simp only [Act.put, List.getElem_toArray, List.getElem_cons_succ, List.getElem_cons_zero])
          refine held_take 13 _ _ rfl (by kernel_rfl) (by kernel_rfl) (by kernel_rfl) (fun _ _ _ h => h) (by rfl) hHeld6 (fun w hSw => by (try dsimp only at hSw); go_simp; try with_reducible rfl) ?_
          (try simp only [Act.put, List.setIfInBounds_toArray, List.set_cons_zero, List.set_cons_succ, List.getElem_toArray, List.getElem_cons_succ, List.getElem_cons_zero])
          refine wpAnyH_done (by kernel_rfl) ?_ _
          have hbF := (hHeld6).2.2
          have hO7 := hO6.kept hg7 hap6
          have hcN := hN7.cell 0
          have hA7 := HAV.out.below hbF
          have hn9 := own_apart hO7 (g := w.heap.size + 2) (.inl (by omega))
          have hbw := hbV.trans (hbF.mono hbV.size)
          clear hS0 hO6 hN7 hg7 hap6 hb6 hT
          go_wp2_with (first | (refine wpList_store_arr 26 (.tmp 4) (.tmp 28) (w.heap.size + 2) [Value.slice none 0 0] [Value.slice a6 (fromL L3).length k6] rfl rfl rfl rfl hA7 rfl sizeSg (by simp [Value.oneCell']) ?_; intro w9 hA9 hg9 hz9; clear hz9))
          have hb9 := hbw.grown hg9 hbw.size (fun k hk => by cases hk; omega)
          exact bodyPost_ret (results_arr_tmp rfl _ _ (w.heap.size + 2) [Value.slice a6 (fromL L3).length k6] dS rfl hA9 hdS hrS sizeSg) rfl ⟨_, by rw [HB.out]; rfl, by rw [HL.out]; exact ownsBase (hO7.kept hg9 hn9) (by omega), hb9⟩
      · rw [if_pos (by rfl)]
        try have hap1 := own_apart hO1 (.inr (Nat.le_refl _))
        try have hap2 := own_apart hO2 (.inr (Nat.le_refl _))
        try have hap6 := own_apart hO6 (.inr (Nat.le_refl _))
        try replace hO1 := hO1.alloc (.cells [Value.slice none 0 0].toArray 26)
        try replace hO2 := hO2.alloc (.cells [Value.slice none 0 0].toArray 26)
        try replace hO3 := hO3.alloc (.cells [Value.slice none 0 0].toArray 26)
        try replace hO4 := hO4.alloc (.cells [Value.slice none 0 0].toArray 26)
        try replace hO6 := hO6.alloc (.cells [Value.slice none 0 0].toArray 26)
        try replace hzc := le_alloc hzc (.cells [Value.slice none 0 0].toArray 26)
        try replace hza := le_alloc hza (.cells [Value.slice none 0 0].toArray 26)
        obtain ⟨hT, htV⟩ := newSgAt (hHeld).2.2
        try simp only [alloc_szO] at hT
        try simp only [alloc_szO] at htV
        try simp only [alloc_szO] at hap1
        try simp only [alloc_szO] at hap2
        try simp only [alloc_szO] at hO1
        try simp only [alloc_szO] at hzb
        refine wp_alloc_arr 26 [Value.slice none 0 0] zeroSg (by rfl) ?_
        refine hK.out _ _ (HK.out _ ((hHeld).2.2.alloc (hHeld).2.2.size _)) (fun hHeld1 => ?_)
        clear hK K
        (try simp only [Act.put, List.setIfInBounds_toArray, List.set_cons_zero, List.set_cons_succ, List.getElem_toArray, List.getElem_cons_succ, List.getElem_cons_zero])
        refine wpAnyH_ready (rs := [0]) (by kernel_rfl) (by simp) ?_
        refine AllReadyH.cons rfl (fun K hK => ?_) AllReadyH.nil
        rw [if_pos (by rfl)]
        obtain ⟨hO1, hza, hzb⟩ := newRowAt (hHeld1).2.2
        try (have hap1 := own_apart hO1 (.inl hT.lt); replace hT := hT.alloc (.cells #[] 3))
        try simp only [alloc_szO] at hT
        try simp only [alloc_szO] at htV
        try simp only [alloc_szO] at hap1
        try simp only [alloc_szO] at hap2
        try simp only [alloc_szO] at hO1
        try simp only [alloc_szO] at hzb
        go_wp2_with fail
        refine hK.out _ _ (HK.out _ ((hHeld1).2.2.alloc (hHeld1).2.2.size _)) (fun hHeld2 => ?_)
        clear hK K
        (try simp only [Act.put, List.setIfInBounds_toArray, List.set_cons_zero, List.set_cons_succ, List.getElem_toArray, List.getElem_cons_succ, List.getElem_cons_zero])
        refine wpAnyH_ready (rs := [3]) (by kernel_rfl) (by simp) ?_
        refine AllReadyH.cons rfl (fun K hK => ?_) AllReadyH.nil
        rw [if_pos (by rfl)]
        refine wp_append_own_at _ (.tmp 18) (.tmp 20) 24 (by rfl) _ 3 i0 (Value.int .i64 0) 1 8 Try.underlying24 hi hz0 hz1 hz2 rfl (by decide) _ _ _ (by rfl) hO1 ⟨bg, og, none⟩ A.length _ (A.map (Value.int .i64)) (by rfl) (by simp) (HCA.out _ (hHeld2).2.2) (ints_one _) (by unfold maxLen; omega) (by omega) (by first | exact hza | simp | (simp; omega)) ?_
        intro vE wE hO2 hgE _ hatE
        simp only [Nat.zero_add, List.nil_append] at hO2
        try (have hap2 := apart_next hap1 hatE hT.lt; replace hT := hT.grown hgE (ne_apart hap1))
        have hzc := Nat.le_trans hza hgE.size
        try simp only [alloc_szO] at hzc
        refine hK.out _ _ (HK.out _ ((hHeld2).2.2.grown hgE (hHeld2).2.2.size (fun j hj => Nat.le_trans hzb (hO1.lt j hj).1))) (fun hHeld3 => ?_)
        clear hK K
        (try simp only [Act.put, List.setIfInBounds_toArray, List.set_cons_zero, List.set_cons_succ, List.getElem_toArray, List.getElem_cons_succ, List.getElem_cons_zero])
        refine wpAnyH_ready (rs := [6]) (by kernel_rfl) (by simp) ?_
        refine AllReadyH.cons rfl (fun K hK => ?_) AllReadyH.nil
        rw [if_pos (by rfl)]
        refine wp_append_own_at _ (.tmp 21) (.tmp 23) 24 (by rfl) _ 3 i0 (Value.int .i64 0) 1 8 Try.underlying24 hi hz0 hz1 hz2 rfl (by decide) _ _ _ (by rfl) hO2 ⟨bh, oh, none⟩ B.length _ (B.map (Value.int .i64)) (by rfl) (by simp) (HCB.out _ (hHeld3).2.2) (ints_one _) (by unfold maxLen; omega) (by omega) (by first | exact hzc | simp | (simp; omega)) ?_
        intro vF wF hO3 hgF _ _
        rw [← List.map_append, ← List.length_append, HL3.out] at hO3
        obtain ⟨a3, k3, rfl, -⟩ := row_open hO3
        try (replace hT := hT.grown hgF (ne_apart hap2))
        refine hK.out _ _ (HK.out _ ((hHeld3).2.2.grown hgF (hHeld3).2.2.size (fun j hj => Nat.le_trans hzb (hO2.lt j hj).1))) (fun hHeld4 => ?_)
        clear hK K
        (try simp only [Act.put, List.setIfInBounds_toArray, List.set_cons_zero, List.set_cons_succ, List.getElem_toArray, List.getElem_cons_succ, List.getElem_cons_zero])
        refine wpAnyH_ready (rs := [7]) (by kernel_rfl) (by simp) ?_
        refine AllReadyH.cons rfl (fun K hK => ?_) AllReadyH.nil
        rw [if_pos (by rfl)]
        go_wp2_with (first | (go_at_call 60; (with_reducible refine (spec_FromGens L3 _ _ _ (own_slv hO3) (by omega)).mono ?_); rintro e w6 ⟨v6, rfl, hO6, hb6⟩; obtain ⟨a6, k6, rfl, -⟩ := row_open hO6; have hz6 := (hHeld4).2.2.size; try (have hap6 := own_apart hO6 (.inl hT.lt); replace hT := hT.below hb6)))
        refine hK.out _ _ (HK.out _ ((hHeld4).2.2.trans (hb6.mono (hHeld4).2.2.size))) (fun hHeld5 => ?_)
        clear hK K
        (try simp only [Act.put, List.setIfInBounds_toArray, List.set_cons_zero, List.set_cons_succ, List.getElem_toArray, List.getElem_cons_succ, List.getElem_cons_zero])
        refine held_take 8 _ _ rfl (by kernel_rfl) (by kernel_rfl) (by kernel_rfl) (fun _ _ _ h => h) (by rfl) hHeld5 (fun w hSw => by (try dsimp only at hSw); go_simp; try with_reducible rfl) ?_
        (try simp only [Act.put, List.setIfInBounds_toArray, List.set_cons_zero, List.set_cons_succ, List.getElem_toArray, List.getElem_cons_succ, List.getElem_cons_zero])
        refine held_take 9 _ _ rfl (by kernel_rfl) (by kernel_rfl) (by kernel_rfl) (fun _ _ _ h => h) (by rfl) hHeld5 (fun w hSw => by (try dsimp only at hSw); go_simp; try with_reducible rfl) ?_
        (try simp only [Act.put, List.setIfInBounds_toArray, List.set_cons_zero, List.set_cons_succ, List.getElem_toArray, List.getElem_cons_succ, List.getElem_cons_zero])
        refine held_take 10 _ _ rfl (by kernel_rfl) (by kernel_rfl) (by kernel_rfl) (fun _ _ _ h => h) (by rfl) hHeld5 (fun w hSw => by (try dsimp only at hSw); go_simp; try with_reducible rfl) ?_
        (try simp only [Act.put, List.setIfInBounds_toArray, List.set_cons_zero, List.set_cons_succ, List.getElem_toArray, List.getElem_cons_succ, List.getElem_cons_zero])
        refine wpAnyH_ready (rs := [12]) (by kernel_rfl) (by simp) ?_
        refine AllReadyH.cons rfl (fun K hK => ?_) AllReadyH.nil
        rw [if_pos (by rfl)]
        refine wp_store_arr 26 (.tmp 6) (.tmp 26) _ [Value.slice none 0 0] [Value.slice a6 (fromL L3).length k6] (by rfl) (by rfl) (by rfl) hT rfl sizeSg (by simp [Value.oneCell']) ?_
        intro w7 hN7 hg7
        refine hK.out _ _ (HK.out _ ((hHeld5).2.2.grown hg7 (hHeld5).2.2.size (fun j hj => by cases hj; exact htV))) (fun hHeld6 => ?_)
        clear hK K
        (try simp only [Act.put, List.getElem_toArray, List.getElem_cons_succ, List.getElem_cons_zero])
        refine held_take 13 _ _ rfl (by kernel_rfl) (by kernel_rfl) (by kernel_rfl) (fun _ _ _ h => h) (by rfl) hHeld6 (fun w hSw => by (try dsimp only at hSw); go_simp; try with_reducible rfl) ?_
        (try simp only [Act.put, List.setIfInBounds_toArray, List.set_cons_zero, List.set_cons_succ, List.getElem_toArray, List.getElem_cons_succ, List.getElem_cons_zero])
        refine wpAnyH_done (by kernel_rfl) ?_ _
        have hbF := (hHeld6).2.2
        have hO7 := hO6.kept hg7 hap6
        have hcN := hN7.cell 0
        have hA7 := HAV.out.below hbF
        have hn9 := own_apart hO7 (g := w.heap.size + 2) (.inl (by omega))
        have hbw := hbV.trans (hbF.mono hbV.size)
        clear hS0 hO6 hN7 hg7 hap6 hb6 hT
        go_wp2_with (first | (refine wpList_store_arr 26 (.tmp 4) (.tmp 28) (w.heap.size + 2) [Value.slice none 0 0] [Value.slice a6 (fromL L3).length k6] rfl rfl rfl rfl hA7 rfl sizeSg (by simp [Value.oneCell']) ?_; intro w9 hA9 hg9 hz9; clear hz9))
        have hb9 := hbw.grown hg9 hbw.size (fun k hk => by cases hk; omega)
        exact bodyPost_ret (results_arr_tmp rfl _ _ (w.heap.size + 2) [Value.slice a6 (fromL L3).length k6] dS rfl hA9 hdS hrS sizeSg) rfl ⟨_, by rw [HB.out]; rfl, by rw [HL.out]; exact ownsBase (hO7.kept hg9 hn9) (by omega), hb9⟩
end Go.Proofs.Ytljfiiohiolbnaa
