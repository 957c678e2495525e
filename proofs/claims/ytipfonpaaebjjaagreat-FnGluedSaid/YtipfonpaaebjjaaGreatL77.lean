/-
  CONTRACTS of the reference's chapter 22: l22Times, GlueOf. (Own work: mk77.py.)
-/
import Derived.Test.YtipfonpaaebjjaaGreatSgTe
import Derived.Test.YtipfonpaaebjjaaGreatL26
import Derived.Test.YtipfonpaaebjjaaGreatC3
import Derived.Test.YtipfonpaaebjjaaGreatCh11M
import Derived.Maps.AppendAt
import Derived.WalkMore
namespace Go.Proofs.YtipfonpaaebjjaaGreat
open Go Go.RowKit
attribute [local go_sem] Oper.semAt_some

section
variable {P : Program} {o : Oper} {a : Act} {w : World} {K : Act → World → Prop} {Q : Exit → Act → World → Prop}
theorem wp_alloc_arrG (t : TypeId) (cs : List Value) (hz : (P.info? t).map (·.zero) = some (some (.agg cs.toArray))) (ho : o.op = .alloc t)
    (h : K (a.put o.dst (.pointer (some ⟨w.heap.size, 0, none⟩))) (w.alloc (.cells cs.toArray t))) : o.wp P a w K Q := by
  cases hi : P.info? t with
  | none => simp [hi] at hz
  | some it =>
    have hzz : it.zero = some (.agg cs.toArray) := by simpa [hi] using hz
    unfold Oper.wp execOp
    simp only [ho, Sem.run_bind, Instr.alloc, zeroValue, typeInfo, run_program, hi, hzz, newVar, newRow, run_newObj_alloc, Sem.run_pure, Result.andThen_ok, Value.cells]
    exact h
theorem wp_store_arrG (t : TypeId) (x y : Operand) (g : Nat) (old cs : List Value) (ho : o.op = .store t x y) (hx : a.eval x = .pointer (some ⟨g, 0, none⟩)) (hy : a.eval y = .agg cs.toArray) (hc : Arr w g t old) (hl : old.length = cs.length)
    (hi : (P.info? t).map (·.size) = some cs.length) (h1 : ∀ v ∈ cs, v.oneCell' = true)
    (h : ∀ w', Arr w' g t cs → w.grownBy w' (some g) → K (a.put o.dst undef) w') : o.wp P a w K Q := by
  refine wp_store_mid t x y ho g 0 cs.toArray hx hy (by have := hc.there; rw [hl] at this; simpa using this) (by simpa using hi) (all_oneCell_toArray h1) ?_
  obtain ⟨k1, k2⟩ := hc.setCells cs hl
  rw [List.toList_toArray]
  exact h _ k1 k2
/-- A row of one's own behind another one. -/
theorem wp_append_rowsG (w : World) {a : Act} {K : Act → World → Prop} (s x : Operand) (t : TypeId) (ho : o.op = .call { callee := .builtin .append, args := #[s, x], argTypes := #[t, t] }) (i : TypeInfo) (z : Value) (ht : P.underlying t = some (.slice 3)) (hi : P.info? 3 = some i) (hz : i.zero = some z)
    (hsize : i.size = 1) (hby : i.bytes = 8) (hzs : z.cells.size = 1) (base base2 : Nat)
    (v : Value) (n : Nat) (xs : List Value) (hs : a.eval s = v) (hown : w.ownsRow base 3 1 v n xs)
    (v2 : Value) (m : Nat) (ys : List Value) (hx : a.eval x = v2) (hown2 : w.ownsRow base2 3 1 v2 m ys) (h1 : ∀ u ∈ ys, u.oneCell' = true)
    (h63 : n + m ≤ maxLen) (hbytes : (n + m) * 8 ≤ 140737488355328) (hbase : base ≤ w.heap.size)
    (h : ∀ v' w', w'.ownsRow base 3 1 v' (n + m) (xs ++ ys) → w.grownBy w' v.ownBlock → K (a.put o.dst v') w') : o.wp P a w K Q := by
  have hl := hown2.1
  rcases own_cases hown2 with ⟨rfl, rfl⟩ | ⟨g, c, rfl, hc⟩
  · have hy : ys = [] := List.eq_nil_of_length_eq_zero (by omega)
    subst hy
    have hrun := run_append_owned_none (P := P) (w := w) base t o.type 3 i 1 ht hi v n xs hown
    unfold Oper.wp execOp
    simp only [ho, resolve, invoke, builtin, Sem.run_bind, Sem.run_pure, Result.andThen_ok, List.map_toArray, List.map_cons, List.map_nil, hs, hx, hrun]
    exact h v w (by simpa using hown) (grownBy_refl w _)
  · exact wp_append_own_at w s x t ho base 3 i z 1 8 ht hi hz hsize hby hzs (by decide) v n xs hs hown ⟨g, 0, none⟩ m c ys hx (by omega) hc h1 h63 hbytes hbase fun v' w' p q _ _ => h v' w' p q
end
theorem own_slvG {w : World} {lo n c : Nat} {a : Option Addr} {xs : List Value} (h : w.ownsRow lo 3 1 (.slice a n c) n xs) : SlV w a xs := by
  obtain ⟨a', c', e, rX⟩ := row_open h
  cases e; exact rX.slv
theorem ne_apartG {b : Option Nat} {t : Nat} (h : b = none ∨ b ≠ some t) : some t ≠ b := by
  rcases h with h | h
  · rw [h]; simp
  · exact Ne.symm h
theorem newSgAtG {V w : World} (h : Below V.heap.size V w) : Arr (w.alloc (.cells [Value.slice none 0 0].toArray 26)) w.heap.size 26 [Value.slice none 0 0] ∧ V.heap.size ≤ w.heap.size := ⟨Arr.new _ _ _, h.size⟩
theorem le_allocG {n : Nat} {w : World} (h : n ≤ w.heap.size) (o : Obj) : n ≤ (w.alloc o).heap.size := by simp; omega
theorem newRowAtG {V w : World} (h : Below V.heap.size V w) : (w.alloc (.cells #[] 3)).ownsRow w.heap.size 3 1 (.slice (some ⟨w.heap.size, 0, none⟩) 0 0) 0 [] ∧ w.heap.size ≤ (w.alloc (.cells #[] 3)).heap.size ∧ V.heap.size ≤ w.heap.size := ⟨World.ownsRow_lit w #[] 0 (Nat.le_refl _) (by simp) rfl, by simp, h.size⟩
theorem apart_nextG {b b' : Option Nat} {t n : Nat} (h : b = none ∨ b ≠ some t) (hat : b' = b ∨ b' = some n) (ht : t < n) : b' = none ∨ b' ≠ some t := by
  rcases hat with rfl | rfl
  · exact h
  · exact .inr fun e => by cases e; omega
theorem addr_addOG (b o j : Nat) : (⟨b, o, none⟩ : Addr).add j = ⟨b, o + j, none⟩ := by
  unfold Addr.add
  split
  · next h => subst h; rfl
  · rfl
theorem row_namedG {V w w' : World} {v : Value} {n : Nat} {xs : List Value} (hV : V.heap.size ≤ w.heap.size) (ho : w'.ownsRow w.heap.size 3 1 v n xs) : ∃ l h a c, v = .slice a n c ∧ V.heap.size ≤ l ∧ l = w.heap.size ∧ h = w'.heap.size ∧ Row w' l h (.slice a n c) n xs := by
  obtain ⟨a, c, rfl, rX⟩ := row_open ho
  exact ⟨_, _, a, c, rfl, hV, rfl, rfl, rX⟩
theorem newSgNamedG {V w : World} (h : Below V.heap.size V w) : ∃ t, t = w.heap.size ∧ Arr (w.alloc (.cells [Value.slice none 0 0].toArray 26)) t 26 [Value.slice none 0 0] ∧ V.heap.size ≤ t := ⟨_, rfl, Arr.new _ _ _, h.size⟩
theorem alloc_szOG (w : World) (o : Obj) : (w.alloc o).heap.size = w.heap.size + 1 := by simp
theorem ints_oneG (L : List Int) : ∀ u ∈ L.map (Value.int .i64), u.oneCell' = true := fun u hu => by obtain ⟨x, -, rfl⟩ := List.mem_map.1 hu; rfl

set_option maxRecDepth 100000 in
set_option maxHeartbeats 1600000 in
theorem spec_l22Times (L : List Int) (d : Int) (a : Option Addr) (cap : Nat) (w : World) (hr : SlV w a (L.map (Value.int .i64))) (hb : L.length ≤ 20) (hL : ∀ x ∈ L, 1 ≤ x ∧ x ≤ 60) (hd : 1 ≤ d ∧ d ≤ 60) :
    Calls Tryz.prog 42 #[.slice a L.length cap, .int .i64 d] w (SlPost (timesL L d) w) := by
  obtain ⟨i0, hi, hz0, hz1, hz2⟩ := info_parts infoIntL
  have HL := Lib.hid hL
  clear hL
  have hO : (w.alloc (.cells #[] 3)).ownsRow w.heap.size 3 1 (.slice (some ⟨w.heap.size, 0, none⟩) 0 0) 0 [] := World.ownsRow_lit w #[] 0 (Nat.le_refl _) (by simp) rfl
  have hB0 := box_below w (.cells #[] 3)
  have HO := Lib.hid hO
  clear hO
  go_enter Tryz.func42, Tryz.ntmps42
  go_wp2_with fail
  go_loopw [5, 6] (fun v i wr => ∃ (k : Nat) (M : List Int), k ≤ L.length ∧ i = .int .i64 (k : Int) ∧ Hid (M = timesL (L.take k) d) ∧ M.length = k ∧ wr.ownsRow w.heap.size 3 1 v M.length (M.map (Value.int .i64)) ∧ Below w.heap.size w wr) (fun _ i _ => L.length - (intOf i).toNat)
  case atStart => exact ⟨0, [], Nat.zero_le _, rfl, Lib.hid rfl, rfl, HO.out, hB0⟩
  case round =>
    clear HO hB0
    obtain ⟨k, M, hk, rfl, HM, hMl, hown, hbel⟩ := hrel
    have hsz := hbel.size
    by_cases hlt : k < L.length
    · obtain ⟨b, o, rfl, hbs, hc⟩ := (hr.below hbel).open (by intro h; rw [List.map_eq_nil_iff] at h; subst h; simp at hlt)
      have hcell : wr.cell? ⟨b, o + k, none⟩ = some (.int .i64 L[k]) := hc k _ (by simp [hlt])
      have hlti : (k : Int) < (L.length : Int) := by omega
      have hx := HL.out L[k] (List.getElem_mem hlt)
      have HT : Hid (timesL (L.take (k + 1)) d = M ++ [L[k] * d]) := Lib.hid (by rw [HM.out]; unfold timesL; rw [List.take_add_one, List.getElem?_eq_getElem hlt, List.map_append]; rfl)
      have hq := prod_bnd hx hd
      have hMb : M.length ≤ 20 := by omega
      clear hc HM hr
      generalize L[k] = x at *
      go_wp2_with (at_builtin; refine wpList_append_own _ rfl (.tmp 14) (.tmp 21) 24 rfl w.heap.size 3 i0 (Value.int .i64 0) 1 8 Tryz.underlying24 hi hz0 hz1 hz2 rfl (by decide) _ _ _ rfl (hown.alloc _) ⟨_, 0, none⟩ 1 1 [.int .i64 (x * d)] rfl rfl (World.news_of_block (cs := #[.int .i64 (x * d)]) (t := 3) (fr := (0, 0)) (heap_alloc_new _ _)) (by simp [Value.oneCell']) (by unfold maxLen; omega) (by omega) (by simp; omega) ?_; intro v6 w6 hown6 hg6 _)
      have hbel6 := (hbel.alloc hbel.size (.cells #[.int .i64 (x * d)] 3)).grown hg6 (by simp; omega) (fun j hj => (hown.lt j hj).1)
      have HO := Lib.hid hown6
      clear hown6 hg6 hown
      go_wp2_with fail
      go_roundw
      case rel => exact ⟨k + 1, M ++ [x * d], by omega, by go_num, Lib.hid HT.out.symm, by rw [List.length_append, List.length_singleton]; omega, by rw [List.length_append, List.length_singleton, List.map_append]; exact HO.out, hbel6⟩
      case measure => simp [intOf]; omega
    · obtain rfl : k = L.length := by omega
      have HE : Hid (timesL L d = M) := Lib.hid (by rw [HM.out, List.take_length])
      have hlti : ¬ ((L.length : Nat) : Int) < (L.length : Int) := by omega
      clear HM hr
      go_wp2_with fail
      go_ret
      exact ⟨_, rfl, by rw [HE.out]; exact hown, hbel⟩

set_option maxRecDepth 100000 in
set_option maxHeartbeats 6400000 in
theorem spec_GlueOf (A B : List Int) (x y : Int) (a : Option Addr) (ca : Nat) (b : Option Addr) (cb : Nat) (w : World) (hra : SlV w a (A.map (Value.int .i64))) (hrb : SlV w b (B.map (Value.int .i64))) (hba : A.length ≤ 1048576) (hbb : B.length ≤ 1048576) :
    Calls Tryz.prog 8 #[.agg #[.slice a A.length ca], .agg #[.slice b B.length cb], .int .i64 x, .int .i64 y] w (SgPost (gluL A B x y) (gluB A B x y) w) := by
  obtain ⟨i0, hi, hz0, hz1, hz2⟩ := info_parts infoIntL
  obtain ⟨dS, hdS, hrS⟩ := undSg
  obtain ⟨U, hU⟩ : ∃ U, U = ((w.alloc (.cells #[.slice a A.length ca] 26)).alloc (.cells #[.slice b B.length cb] 26)) := ⟨_, rfl⟩
  obtain ⟨V, hV⟩ : ∃ V, V = U.alloc (.cells [Value.slice none 0 0].toArray 26) := ⟨_, rfl⟩
  have hbU : Below w.heap.size w U := by rw [hU]; exact (box_below _ _).alloc (by simp) _
  have hUe : U.heap.size = w.heap.size + 2 := by rw [hU]; simp
  have hcAU : U.cell? ⟨w.heap.size, 0, none⟩ = some (.slice a A.length ca) := by rw [hU]; exact (World.cell?_alloc_lt _ _ ⟨w.heap.size, 0, none⟩ (by simp)).trans (box_cell w _)
  have hcBU : U.cell? ⟨w.heap.size + 1, 0, none⟩ = some (.slice b B.length cb) := by rw [hU]; have := box_cell (w.alloc (.cells #[.slice a A.length ca] 26)) (.slice b B.length cb); rw [show (w.alloc (.cells #[.slice a A.length ca] 26)).heap.size = w.heap.size + 1 by simp] at this; exact this
  have hbUV : Below U.heap.size U V := by rw [hV]; exact box_below _ _
  have hbV := hbU.trans (hbUV.mono hbU.size)
  have hAV : Arr V (w.heap.size + 2) 26 [Value.slice none 0 0] := by rw [hV, ← hUe]; exact Arr.new _ _ _
  have hVs : w.heap.size + 2 < V.heap.size := hAV.lt
  have HAV := Lib.hid hAV
  have HV : Hid (V = ((w.alloc (.cells #[.slice a A.length ca] 26)).alloc (.cells #[.slice b B.length cb] 26)).alloc (.cells [Value.slice none 0 0].toArray 26)) := Lib.hid (by rw [hV, hU])
  have HK0 : Hid (∀ w2, Below V.heap.size V w2 → w2.cell? ⟨w.heap.size, 0, none⟩ = some (.slice a A.length ca) ∧ w2.cell? ⟨w.heap.size + 1, 0, none⟩ = some (.slice b B.length cb)) := Lib.hid fun w2 h => ⟨((h.cell (p := ⟨w.heap.size, 0, none⟩) (show w.heap.size < V.heap.size by omega)).trans (hbUV.cell (p := ⟨w.heap.size, 0, none⟩) (show w.heap.size < U.heap.size by omega))).trans hcAU, ((h.cell (p := ⟨w.heap.size + 1, 0, none⟩) (show w.heap.size + 1 < V.heap.size by omega)).trans (hbUV.cell (p := ⟨w.heap.size + 1, 0, none⟩) (show w.heap.size + 1 < U.heap.size by omega))).trans hcBU⟩
  have HRA := Lib.hid (fun w2 (h : Below V.heap.size V w2) => hra.below (hbV.trans (h.mono hbV.size)))
  have HRB := Lib.hid (fun w2 (h : Below V.heap.size V w2) => hrb.below (hbV.trans (h.mono hbV.size)))
  obtain ⟨hkA, hkB⟩ := HK0.out V (Below.refl _ _)
  clear hU hV hbU hbUV hcAU hcBU hAV hra hrb
  have hb0 := Below.refl V.heap.size V
  have c1 := fun WW (HH : Below V.heap.size V WW) => spec_Contains B x b cb WW (HRB.out _ HH) hbb
  have c2 := fun WW (HH : Below V.heap.size V WW) => spec_Contains A y a ca WW (HRA.out _ HH) hba
  have c3 := fun WW (HH : Below V.heap.size V WW) => spec_HasNumber B x b cb WW (HRB.out _ HH) (by unfold maxLen; omega)
  have c4 := fun WW (HH : Below V.heap.size V WW) => spec_HasNumber A y a ca WW (HRA.out _ HH) (by unfold maxLen; omega)
  have c5 := fun WW (HH : Below V.heap.size V WW) => l1In_any x 1 60 WW
  have c6 := fun WW (HH : Below V.heap.size V WW) => l1In_any y 1 60 WW
  have c7 := fun WW => spec_GcdOf x y WW
  cases h1 : hasN B x
  · rw [h1] at c1
    have HB : Hid (gluB A B x y = false) := Lib.hid (by unfold gluB gluQ; rw [h1]; simp)
    have HL : Hid (gluL A B x y = []) := Lib.hid (by unfold gluL gluQ; rw [h1]; simp)
    go_enter Tryz.func8, Tryz.ntmps8
    go_wp2_with (first | (refine wpList_alloc_arr 26 [Value.slice none 0 0] zeroSg rfl rfl ?_; rw [← HV.out]))
    go_wp2_with fail
    refine (c1 _ hb0).mono ?_
    rintro e w1 ⟨rfl, hb1'⟩
    have hb1 := hb0.trans (hb1'.mono hb0.size)
    have hk1 := HK0.out _ hb1
    obtain ⟨hkA1, hkB1⟩ := hk1
    have hA9' := HAV.out.below hb1
    have hbw9 := hbV.trans (hb1.mono hbV.size)
    go_wp2_with (first | (refine wpList_store_arr 26 (.tmp 8) (.tmp 50) (w.heap.size + 2) [Value.slice none 0 0] [Value.slice none 0 0] rfl rfl rfl rfl hA9' rfl sizeSg (by simp [Value.oneCell']) ?_; intro w9 hA9 hg9 hz9; clear hz9))
    have hb9 := hbw9.grown hg9 hbw9.size (fun k hk => by cases hk; omega)
    exact bodyPost_ret (results_arr_tmp rfl _ _ (w.heap.size + 2) [Value.slice none 0 0] dS rfl hA9 hdS hrS sizeSg) rfl ⟨_, by rw [HB.out]; rfl, by rw [HL.out]; exact World.ownsRow_nil _ _ _ _, hb9⟩
  · rw [h1] at c1
    cases h2 : hasN A y
    · rw [h2] at c2
      have HB : Hid (gluB A B x y = false) := Lib.hid (by unfold gluB gluQ; rw [h2]; simp)
      have HL : Hid (gluL A B x y = []) := Lib.hid (by unfold gluL gluQ; rw [h2]; simp)
      go_enter Tryz.func8, Tryz.ntmps8
      go_wp2_with (first | (refine wpList_alloc_arr 26 [Value.slice none 0 0] zeroSg rfl rfl ?_; rw [← HV.out]))
      go_wp2_with fail
      refine (c1 _ hb0).mono ?_
      rintro e w1 ⟨rfl, hb1'⟩
      have hb1 := hb0.trans (hb1'.mono hb0.size)
      have hk1 := HK0.out _ hb1
      obtain ⟨hkA1, hkB1⟩ := hk1
      go_wp2_with fail
      refine (c2 _ hb1).mono ?_
      rintro e w2 ⟨rfl, hb2'⟩
      have hb2 := hb1.trans (hb2'.mono hb1.size)
      have hk2 := HK0.out _ hb2
      obtain ⟨hkA2, hkB2⟩ := hk2
      have hA9' := HAV.out.below hb2
      have hbw9 := hbV.trans (hb2.mono hbV.size)
      go_wp2_with (first | (refine wpList_store_arr 26 (.tmp 8) (.tmp 50) (w.heap.size + 2) [Value.slice none 0 0] [Value.slice none 0 0] rfl rfl rfl rfl hA9' rfl sizeSg (by simp [Value.oneCell']) ?_; intro w9 hA9 hg9 hz9; clear hz9))
      have hb9 := hbw9.grown hg9 hbw9.size (fun k hk => by cases hk; omega)
      exact bodyPost_ret (results_arr_tmp rfl _ _ (w.heap.size + 2) [Value.slice none 0 0] dS rfl hA9 hdS hrS sizeSg) rfl ⟨_, by rw [HB.out]; rfl, by rw [HL.out]; exact World.ownsRow_nil _ _ _ _, hb9⟩
    · rw [h2] at c2
      cases h3 : hasB B x
      · rw [h3] at c3
        cases h4 : hasB A y
        · rw [h4] at c4
          cases h5 : inB x 1 60
          · rw [h5] at c5
            have HB : Hid (gluB A B x y = false) := Lib.hid (by unfold gluB gluQ; rw [h5]; simp)
            have HL : Hid (gluL A B x y = []) := Lib.hid (by unfold gluL gluQ; rw [h5]; simp)
            go_enter Tryz.func8, Tryz.ntmps8
            go_wp2_with (first | (refine wpList_alloc_arr 26 [Value.slice none 0 0] zeroSg rfl rfl ?_; rw [← HV.out]))
            go_wp2_with fail
            refine (c1 _ hb0).mono ?_
            rintro e w1 ⟨rfl, hb1'⟩
            have hb1 := hb0.trans (hb1'.mono hb0.size)
            have hk1 := HK0.out _ hb1
            obtain ⟨hkA1, hkB1⟩ := hk1
            go_wp2_with fail
            refine (c2 _ hb1).mono ?_
            rintro e w2 ⟨rfl, hb2'⟩
            have hb2 := hb1.trans (hb2'.mono hb1.size)
            have hk2 := HK0.out _ hb2
            obtain ⟨hkA2, hkB2⟩ := hk2
            go_wp2_with fail
            refine (c3 _ hb2).mono ?_
            rintro e w3 ⟨rfl, hww⟩
            rw [hww]
            clear hww
            go_wp2_with fail
            refine (c4 _ hb2).mono ?_
            rintro e w4 ⟨rfl, hww⟩
            rw [hww]
            clear hww
            go_wp2_with fail
            refine (c5 _ hb2).mono ?_
            rintro e w5 ⟨rfl, hww⟩
            rw [hww]
            clear hww
            have hA9' := HAV.out.below hb2
            have hbw9 := hbV.trans (hb2.mono hbV.size)
            go_wp2_with (first | (refine wpList_store_arr 26 (.tmp 8) (.tmp 50) (w.heap.size + 2) [Value.slice none 0 0] [Value.slice none 0 0] rfl rfl rfl rfl hA9' rfl sizeSg (by simp [Value.oneCell']) ?_; intro w9 hA9 hg9 hz9; clear hz9))
            have hb9 := hbw9.grown hg9 hbw9.size (fun k hk => by cases hk; omega)
            exact bodyPost_ret (results_arr_tmp rfl _ _ (w.heap.size + 2) [Value.slice none 0 0] dS rfl hA9 hdS hrS sizeSg) rfl ⟨_, by rw [HB.out]; rfl, by rw [HL.out]; exact World.ownsRow_nil _ _ _ _, hb9⟩
          · rw [h5] at c5
            cases h6 : inB y 1 60
            · rw [h6] at c6
              have HB : Hid (gluB A B x y = false) := Lib.hid (by unfold gluB gluQ; rw [h6]; simp)
              have HL : Hid (gluL A B x y = []) := Lib.hid (by unfold gluL gluQ; rw [h6]; simp)
              go_enter Tryz.func8, Tryz.ntmps8
              go_wp2_with (first | (refine wpList_alloc_arr 26 [Value.slice none 0 0] zeroSg rfl rfl ?_; rw [← HV.out]))
              go_wp2_with fail
              refine (c1 _ hb0).mono ?_
              rintro e w1 ⟨rfl, hb1'⟩
              have hb1 := hb0.trans (hb1'.mono hb0.size)
              have hk1 := HK0.out _ hb1
              obtain ⟨hkA1, hkB1⟩ := hk1
              go_wp2_with fail
              refine (c2 _ hb1).mono ?_
              rintro e w2 ⟨rfl, hb2'⟩
              have hb2 := hb1.trans (hb2'.mono hb1.size)
              have hk2 := HK0.out _ hb2
              obtain ⟨hkA2, hkB2⟩ := hk2
              go_wp2_with fail
              refine (c3 _ hb2).mono ?_
              rintro e w3 ⟨rfl, hww⟩
              rw [hww]
              clear hww
              go_wp2_with fail
              refine (c4 _ hb2).mono ?_
              rintro e w4 ⟨rfl, hww⟩
              rw [hww]
              clear hww
              go_wp2_with fail
              refine (c5 _ hb2).mono ?_
              rintro e w5 ⟨rfl, hww⟩
              rw [hww]
              clear hww
              go_wp2_with fail
              refine (c6 _ hb2).mono ?_
              rintro e w6 ⟨rfl, hww⟩
              rw [hww]
              clear hww
              have hA9' := HAV.out.below hb2
              have hbw9 := hbV.trans (hb2.mono hbV.size)
              go_wp2_with (first | (refine wpList_store_arr 26 (.tmp 8) (.tmp 50) (w.heap.size + 2) [Value.slice none 0 0] [Value.slice none 0 0] rfl rfl rfl rfl hA9' rfl sizeSg (by simp [Value.oneCell']) ?_; intro w9 hA9 hg9 hz9; clear hz9))
              have hb9 := hbw9.grown hg9 hbw9.size (fun k hk => by cases hk; omega)
              exact bodyPost_ret (results_arr_tmp rfl _ _ (w.heap.size + 2) [Value.slice none 0 0] dS rfl hA9 hdS hrS sizeSg) rfl ⟨_, by rw [HB.out]; rfl, by rw [HL.out]; exact World.ownsRow_nil _ _ _ _, hb9⟩
            · rw [h6] at c6
              by_cases hg : gcdOf x y = 1
              · rw [hg] at c7
                have hgq : gluQ A B x y = true := by unfold gluQ; rw [h1, h2, h3, h4, h5, h6, decide_eq_true hg]; rfl
                obtain ⟨hsa, hsb, hx, hy, -⟩ := gluQ_open hgq
                have HB : Hid (gluB A B x y = fromB (timesL A x ++ timesL B y)) := Lib.hid (by unfold gluB; rw [hgq]; rfl)
                have HL : Hid (gluL A B x y = fromL (timesL A x ++ timesL B y)) := Lib.hid (by unfold gluL; rw [hgq]; rfl)
                have hlA := (isSgB_iff.1 hsa).len
                have hlB := (isSgB_iff.1 hsb).len
                have ch1 := fun w' (h : Below V.heap.size V w') => spec_l22Times A x a ca w' (HRA.out w' h) (by omega) (isSgB_iff.1 hsa).bounds hx
                have ch2 := fun w' (h : Below V.heap.size V w') => spec_l22Times B y b cb w' (HRB.out w' h) (by omega) (isSgB_iff.1 hsb).bounds hy
                have htA : (timesL A x).length = A.length := by unfold timesL; rw [List.length_map]
                have htB : (timesL B y).length = B.length := by unfold timesL; rw [List.length_map]
                have hlA2 : (timesL A x).length ≤ 12 := by omega
                have hlB2 : (timesL B y).length ≤ 12 := by omega
                clear htA htB
                have HK : Hid (∀ w2, Below V.heap.size V w2 → w2.cell? ⟨w.heap.size, 0, none⟩ = some (.slice a A.length ca) ∧ w2.cell? ⟨w.heap.size + 1, 0, none⟩ = some (.slice b B.length cb) ∧ Below V.heap.size V w2) := Lib.hid fun w2 h => ⟨(HK0.out w2 h).1, (HK0.out w2 h).2, h⟩
                clear hsa hsb hgq h1 h2 h3 h4 h5 h6
                generalize timesL A x = gA at *
                generalize timesL B y = gB at *
                have hlC : (gA ++ gB).length ≤ 24 := by rw [List.length_append]; omega
                generalize hL3 : gA ++ gB = L3 at *
                have HL3 := Lib.hid hL3
                clear hL3 hlA hlB
                go_enter Tryz.func8, Tryz.ntmps8
                go_wp2_with (first | (refine wpList_alloc_arr 26 [Value.slice none 0 0] zeroSg rfl rfl ?_; rw [← HV.out]))
                go_wp2_with fail
                refine (c1 _ hb0).mono ?_
                rintro e w1 ⟨rfl, hb1'⟩
                have hb1 := hb0.trans (hb1'.mono hb0.size)
                have hk1 := HK0.out _ hb1
                obtain ⟨hkA1, hkB1⟩ := hk1
                go_wp2_with fail
                refine (c2 _ hb1).mono ?_
                rintro e w2 ⟨rfl, hb2'⟩
                have hb2 := hb1.trans (hb2'.mono hb1.size)
                have hk2 := HK0.out _ hb2
                obtain ⟨hkA2, hkB2⟩ := hk2
                go_wp2_with fail
                refine (c3 _ hb2).mono ?_
                rintro e w3 ⟨rfl, hww⟩
                rw [hww]
                clear hww
                go_wp2_with fail
                refine (c4 _ hb2).mono ?_
                rintro e w4 ⟨rfl, hww⟩
                rw [hww]
                clear hww
                go_wp2_with fail
                refine (c5 _ hb2).mono ?_
                rintro e w5 ⟨rfl, hww⟩
                rw [hww]
                clear hww
                go_wp2_with fail
                refine (c6 _ hb2).mono ?_
                rintro e w6 ⟨rfl, hww⟩
                rw [hww]
                clear hww
                go_wp2_with fail
                refine (c7 _).mono ?_
                rintro e w7 ⟨rfl, hww⟩
                rw [hww]
                clear hww
                have hS0 := HK.out _ hb2.drew
                go_wp2_with fail
                refine wp_region_held_drew (S := fun w' => w'.cell? ⟨w.heap.size, 0, none⟩ = some (.slice a A.length ca) ∧ w'.cell? ⟨w.heap.size + 1, 0, none⟩ = some (.slice b B.length cb) ∧ Below V.heap.size V w') (by kernel_rfl) hS0 (fun hHeld => ?_)
                generalize w2.drew = wd at *
                refine held_take 0 _ _ rfl (by kernel_rfl) (by kernel_rfl) (by kernel_rfl) (fun _ _ _ h => h) (by rfl) hHeld (fun w hSw => by (try dsimp only at hSw); go_simp; try with_reducible rfl) ?_
                (try simp only [Act.put, List.setIfInBounds_toArray, List.set_cons_zero, List.set_cons_succ, List.getElem_toArray, List.getElem_cons_zero])
                refine held_take 1 _ _ rfl (by kernel_rfl) (by kernel_rfl) (by kernel_rfl) (fun _ _ _ h => h) (by rfl) hHeld (fun w hSw => by (try dsimp only at hSw); go_simp; try with_reducible rfl) ?_
                (try simp only [Act.put, List.setIfInBounds_toArray, List.set_cons_zero, List.set_cons_succ, List.getElem_toArray, List.getElem_cons_succ, List.getElem_cons_zero])
                refine held_take 2 _ _ rfl (by kernel_rfl) (by kernel_rfl) (by kernel_rfl) (fun _ _ _ h => h) (by rfl) hHeld (fun w hSw => by (try dsimp only at hSw); go_simp; try with_reducible rfl) ?_
                (try simp only [Act.put, List.setIfInBounds_toArray, List.set_cons_zero, List.set_cons_succ, List.getElem_toArray, List.getElem_cons_succ, List.getElem_cons_zero])
                refine held_take 4 _ _ rfl (by kernel_rfl) (by kernel_rfl) (by kernel_rfl) (fun _ _ _ h => h) (by rfl) hHeld (fun w hSw => by (try dsimp only at hSw); go_simp; try with_reducible rfl) ?_
                (try simp only [Act.put, List.setIfInBounds_toArray, List.set_cons_zero, List.set_cons_succ, List.getElem_toArray, List.getElem_cons_succ, List.getElem_cons_zero])
                refine held_take 5 _ _ rfl (by kernel_rfl) (by kernel_rfl) (by kernel_rfl) (fun _ _ _ h => h) (by rfl) hHeld (fun w hSw => by (try dsimp only at hSw); go_simp; try with_reducible rfl) ?_
                (try simp only [Act.put, List.setIfInBounds_toArray, List.set_cons_zero, List.set_cons_succ, List.getElem_toArray, List.getElem_cons_succ, List.getElem_cons_zero])
                refine held_take 6 _ _ rfl (by kernel_rfl) (by kernel_rfl) (by kernel_rfl) (fun _ _ _ h => h) (by rfl) hHeld (fun w hSw => by (try dsimp only at hSw); go_simp; try with_reducible rfl) ?_
                (try simp only [Act.put, List.setIfInBounds_toArray, List.set_cons_zero, List.set_cons_succ, List.getElem_toArray, List.getElem_cons_succ, List.getElem_cons_zero])
                refine wpAnyH_ready (rs := [3, 13]) (by kernel_rfl) (by simp) ?_
                refine AllReadyH.cons rfl (fun K hK => ?_) (AllReadyH.cons rfl (fun K hK => ?_) AllReadyH.nil)
                · rw [if_pos (by rfl)]
                  go_wp2_with (first | (go_at_call 42; (with_reducible refine (ch1 _ hHeld.2.2).mono ?_); rintro e wA ⟨v1, rfl, hO1, hbA⟩; have hzb := (hHeld).2.2.size; have hza := hbA.size; try (have hap1 := own_apart hO1 (.inl hT.lt); replace hT := hT.below hbA)))
                  refine hK.out _ _ (HK.out _ ((hHeld).2.2.trans (hbA.mono (hHeld).2.2.size))) (fun hHeld1 => ?_)
                  clear hK K
                  (try simp only [Act.put, List.setIfInBounds_toArray, List.set_cons_zero, List.set_cons_succ, List.getElem_toArray, List.getElem_cons_succ, List.getElem_cons_zero])
                  refine wpAnyH_ready (rs := [7, 13]) (by kernel_rfl) (by simp) ?_
                  refine AllReadyH.cons rfl (fun K hK => ?_) (AllReadyH.cons rfl (fun K hK => ?_) AllReadyH.nil)
                  · rw [if_pos (by rfl)]
                    go_wp2_with (first | (go_at_call 42; (with_reducible refine (ch2 _ hHeld1.2.2).mono ?_); rintro e wC ⟨v2, rfl, hO2, hbC⟩; replace hza := Nat.le_trans hza hbC.size; replace hO1 := owns_below hO1 hbC; try (replace hT := hT.below hbC)))
                    refine hK.out _ _ (HK.out _ ((hHeld1).2.2.trans (hbC.mono (hHeld1).2.2.size))) (fun hHeld2 => ?_)
                    clear hK K
                    (try simp only [Act.put, List.setIfInBounds_toArray, List.set_cons_zero, List.set_cons_succ, List.getElem_toArray, List.getElem_cons_succ, List.getElem_cons_zero])
                    refine wpAnyH_ready (rs := [8, 13]) (by kernel_rfl) (by simp) ?_
                    refine AllReadyH.cons rfl (fun K hK => ?_) (AllReadyH.cons rfl (fun K hK => ?_) AllReadyH.nil)
                    · rw [if_pos (by rfl)]
                      refine wp_append_rowsG _ (.tmp 55) (.tmp 59) 24 (by rfl) i0 (Value.int .i64 0) Tryz.underlying24 hi hz0 hz1 hz2 rfl _ _ _ _ _ (by rfl) hO1 _ _ _ (by rfl) hO2 (ints_oneG _) (by unfold maxLen; omega) (by omega) hza ?_
                      intro v3 wE hO3 hg3
                      rw [← List.map_append, ← List.length_append, HL3.out] at hO3
                      obtain ⟨a3, k3, rfl, -⟩ := row_open hO3
                      try (replace hT := hT.grown hg3 (ne_apartG hap1))
                      refine hK.out _ _ (HK.out _ ((hHeld2).2.2.grown hg3 (hHeld2).2.2.size (fun j hj => Nat.le_trans hzb (hO1.lt j hj).1))) (fun hHeld3 => ?_)
                      clear hK K
                      (try simp only [Act.put, List.setIfInBounds_toArray, List.set_cons_zero, List.set_cons_succ, List.getElem_toArray, List.getElem_cons_succ, List.getElem_cons_zero])
                      refine wpAnyH_ready (rs := [9, 13]) (by kernel_rfl) (by simp) ?_
                      refine AllReadyH.cons rfl (fun K hK => ?_) (AllReadyH.cons rfl (fun K hK => ?_) AllReadyH.nil)
                      · rw [if_pos (by rfl)]
                        go_wp2_with (first | (go_at_call 19; (with_reducible refine (spec_FromGens L3 _ _ _ (own_slvG hO3) (by omega)).mono ?_); rintro e wF ⟨v6, rfl, hO6, hb6⟩; obtain ⟨a6, k6, rfl, -⟩ := row_open hO6; have hz6 := (hHeld3).2.2.size; try (have hap6 := own_apart hO6 (.inl hT.lt); replace hT := hT.below hb6)))
                        refine hK.out _ _ (HK.out _ ((hHeld3).2.2.trans (hb6.mono (hHeld3).2.2.size))) (fun hHeld4 => ?_)
                        clear hK K
                        (try simp only [Act.put, List.setIfInBounds_toArray, List.set_cons_zero, List.set_cons_succ, List.getElem_toArray, List.getElem_cons_succ, List.getElem_cons_zero])
                        refine held_take 10 _ _ rfl (by kernel_rfl) (by kernel_rfl) (by kernel_rfl) (fun _ _ _ h => h) (by rfl) hHeld4 (fun w hSw => by (try dsimp only at hSw); go_simp; try with_reducible rfl) ?_
                        (try simp only [Act.put, List.setIfInBounds_toArray, List.set_cons_zero, List.set_cons_succ, List.getElem_toArray, List.getElem_cons_succ, List.getElem_cons_zero])
                        refine held_take 11 _ _ rfl (by kernel_rfl) (by kernel_rfl) (by kernel_rfl) (fun _ _ _ h => h) (by rfl) hHeld4 (fun w hSw => by (try dsimp only at hSw); go_simp; try with_reducible rfl) ?_
                        (try simp only [Act.put, List.setIfInBounds_toArray, List.set_cons_zero, List.set_cons_succ, List.getElem_toArray, List.getElem_cons_succ, List.getElem_cons_zero])
                        refine held_take 12 _ _ rfl (by kernel_rfl) (by kernel_rfl) (by kernel_rfl) (fun _ _ _ h => h) (by rfl) hHeld4 (fun w hSw => by (try dsimp only at hSw); go_simp; try with_reducible rfl) ?_
                        (try simp only [Act.put, List.setIfInBounds_toArray, List.set_cons_zero, List.set_cons_succ, List.getElem_toArray, List.getElem_cons_succ, List.getElem_cons_zero])
                        refine wpAnyH_ready (rs := [13]) (by kernel_rfl) (by simp) ?_
                        refine AllReadyH.cons rfl (fun K hK => ?_) AllReadyH.nil
                        rw [if_pos (by rfl)]
                        try have hap1 := own_apart hO1 (.inr (Nat.le_refl _))
                        try have hap6 := own_apart hO6 (.inr (Nat.le_refl _))
                        try replace hO1 := hO1.alloc (.cells [Value.slice none 0 0].toArray 26)
                        try replace hO2 := hO2.alloc (.cells [Value.slice none 0 0].toArray 26)
                        try replace hO3 := hO3.alloc (.cells [Value.slice none 0 0].toArray 26)
                        try replace hO6 := hO6.alloc (.cells [Value.slice none 0 0].toArray 26)
                        try replace hza := le_allocG hza (.cells [Value.slice none 0 0].toArray 26)
                        obtain ⟨hT, htV⟩ := newSgAtG (hHeld4).2.2
                        refine wp_alloc_arrG 26 [Value.slice none 0 0] zeroSg (by rfl) ?_
                        refine hK.out _ _ (HK.out _ ((hHeld4).2.2.alloc (hHeld4).2.2.size _)) (fun hHeld5 => ?_)
                        clear hK K
                        (try simp only [Act.put, List.setIfInBounds_toArray, List.set_cons_zero, List.set_cons_succ, List.getElem_toArray, List.getElem_cons_succ, List.getElem_cons_zero])
                        refine wpAnyH_ready (rs := [14]) (by kernel_rfl) (by simp) ?_
                        refine AllReadyH.cons rfl (fun K hK => ?_) AllReadyH.nil
                        rw [if_pos (by rfl)]
                        refine wp_store_arrG 26 (.tmp 10) (.tmp 62) _ [Value.slice none 0 0] [Value.slice a6 (fromL L3).length k6] (by rfl) (by rfl) (by rfl) hT rfl sizeSg (by simp [Value.oneCell']) ?_
                        intro wS hN7 hg7
                        refine hK.out _ _ (HK.out _ ((hHeld5).2.2.grown hg7 (hHeld5).2.2.size (fun j hj => by cases hj; exact htV))) (fun hHeld6 => ?_)
                        clear hK K
                        (try simp only [Act.put, List.getElem_toArray, List.getElem_cons_succ, List.getElem_cons_zero])
                        refine held_take 15 _ _ rfl (by kernel_rfl) (by kernel_rfl) (by kernel_rfl) (fun _ _ _ h => h) (by rfl) hHeld6 (fun w hSw => by (try dsimp only at hSw); go_simp; try with_reducible rfl) ?_
                        (try simp only [Act.put, List.setIfInBounds_toArray, List.set_cons_zero, List.set_cons_succ, List.getElem_toArray, List.getElem_cons_succ, List.getElem_cons_zero])
                        refine wpAnyH_done (by kernel_rfl) ?_ _
                        have hbF := (hHeld6).2.2
                        have hO7 := hO6.kept hg7 hap6
                        have hcN := hN7.cell 0
                        have hA7 := HAV.out.below hbF
                        have hn9 := own_apart hO7 (g := w.heap.size + 2) (.inl (by omega))
                        have hbw := hbV.trans (hbF.mono hbV.size)
                        clear hS0 hO6 hN7 hg7 hap6 hb6 hT
                        go_wp2_with (first | (refine wpList_store_arr 26 (.tmp 8) (.tmp 64) (w.heap.size + 2) [Value.slice none 0 0] [Value.slice a6 (fromL L3).length k6] rfl rfl rfl rfl hA7 rfl sizeSg (by simp [Value.oneCell']) ?_; intro w9 hA9 hg9 hz9; clear hz9))
                        have hb9 := hbw.grown hg9 hbw.size (fun k hk => by cases hk; omega)
                        exact bodyPost_ret (results_arr_tmp rfl _ _ (w.heap.size + 2) [Value.slice a6 (fromL L3).length k6] dS rfl hA9 hdS hrS sizeSg) rfl ⟨_, by rw [HB.out]; rfl, by rw [HL.out]; exact ownsBase (hO7.kept hg9 hn9) (by omega), hb9⟩
                      · rw [if_pos (by rfl)]
                        try have hap1 := own_apart hO1 (.inr (Nat.le_refl _))
                        try have hap6 := own_apart hO6 (.inr (Nat.le_refl _))
                        try replace hO1 := hO1.alloc (.cells [Value.slice none 0 0].toArray 26)
                        try replace hO2 := hO2.alloc (.cells [Value.slice none 0 0].toArray 26)
                        try replace hO3 := hO3.alloc (.cells [Value.slice none 0 0].toArray 26)
                        try replace hO6 := hO6.alloc (.cells [Value.slice none 0 0].toArray 26)
                        try replace hza := le_allocG hza (.cells [Value.slice none 0 0].toArray 26)
                        obtain ⟨hT, htV⟩ := newSgAtG (hHeld3).2.2
                        refine wp_alloc_arrG 26 [Value.slice none 0 0] zeroSg (by rfl) ?_
                        refine hK.out _ _ (HK.out _ ((hHeld3).2.2.alloc (hHeld3).2.2.size _)) (fun hHeld4 => ?_)
                        clear hK K
                        (try simp only [Act.put, List.setIfInBounds_toArray, List.set_cons_zero, List.set_cons_succ, List.getElem_toArray, List.getElem_cons_succ, List.getElem_cons_zero])
                        refine wpAnyH_ready (rs := [9]) (by kernel_rfl) (by simp) ?_
                        refine AllReadyH.cons rfl (fun K hK => ?_) AllReadyH.nil
                        rw [if_pos (by rfl)]
                        go_wp2_with (first | (go_at_call 19; (with_reducible refine (spec_FromGens L3 _ _ _ (own_slvG hO3) (by omega)).mono ?_); rintro e wF ⟨v6, rfl, hO6, hb6⟩; obtain ⟨a6, k6, rfl, -⟩ := row_open hO6; have hz6 := (hHeld4).2.2.size; try (have hap6 := own_apart hO6 (.inl hT.lt); replace hT := hT.below hb6)))
                        refine hK.out _ _ (HK.out _ ((hHeld4).2.2.trans (hb6.mono (hHeld4).2.2.size))) (fun hHeld5 => ?_)
                        clear hK K
                        (try simp only [Act.put, List.setIfInBounds_toArray, List.set_cons_zero, List.set_cons_succ, List.getElem_toArray, List.getElem_cons_succ, List.getElem_cons_zero])
                        refine held_take 10 _ _ rfl (by kernel_rfl) (by kernel_rfl) (by kernel_rfl) (fun _ _ _ h => h) (by rfl) hHeld5 (fun w hSw => by (try dsimp only at hSw); go_simp; try with_reducible rfl) ?_
                        (try simp only [Act.put, List.setIfInBounds_toArray, List.set_cons_zero, List.set_cons_succ, List.getElem_toArray, List.getElem_cons_succ, List.getElem_cons_zero])
                        refine held_take 11 _ _ rfl (by kernel_rfl) (by kernel_rfl) (by kernel_rfl) (fun _ _ _ h => h) (by rfl) hHeld5 (fun w hSw => by (try dsimp only at hSw); go_simp; try with_reducible rfl) ?_
                        (try simp only [Act.put, List.setIfInBounds_toArray, List.set_cons_zero, List.set_cons_succ, List.getElem_toArray, List.getElem_cons_succ, List.getElem_cons_zero])
                        refine held_take 12 _ _ rfl (by kernel_rfl) (by kernel_rfl) (by kernel_rfl) (fun _ _ _ h => h) (by rfl) hHeld5 (fun w hSw => by (try dsimp only at hSw); go_simp; try with_reducible rfl) ?_
                        (try simp only [Act.put, List.setIfInBounds_toArray, List.set_cons_zero, List.set_cons_succ, List.getElem_toArray, List.getElem_cons_succ, List.getElem_cons_zero])
                        refine wpAnyH_ready (rs := [14]) (by kernel_rfl) (by simp) ?_
                        refine AllReadyH.cons rfl (fun K hK => ?_) AllReadyH.nil
                        rw [if_pos (by rfl)]
                        refine wp_store_arrG 26 (.tmp 10) (.tmp 62) _ [Value.slice none 0 0] [Value.slice a6 (fromL L3).length k6] (by rfl) (by rfl) (by rfl) hT rfl sizeSg (by simp [Value.oneCell']) ?_
                        intro wS hN7 hg7
                        refine hK.out _ _ (HK.out _ ((hHeld5).2.2.grown hg7 (hHeld5).2.2.size (fun j hj => by cases hj; exact htV))) (fun hHeld6 => ?_)
                        clear hK K
                        (try simp only [Act.put, List.getElem_toArray, List.getElem_cons_succ, List.getElem_cons_zero])
                        refine held_take 15 _ _ rfl (by kernel_rfl) (by kernel_rfl) (by kernel_rfl) (fun _ _ _ h => h) (by rfl) hHeld6 (fun w hSw => by (try dsimp only at hSw); go_simp; try with_reducible rfl) ?_
                        (try simp only [Act.put, List.setIfInBounds_toArray, List.set_cons_zero, List.set_cons_succ, List.getElem_toArray, List.getElem_cons_succ, List.getElem_cons_zero])
                        refine wpAnyH_done (by kernel_rfl) ?_ _
                        have hbF := (hHeld6).2.2
                        have hO7 := hO6.kept hg7 hap6
                        have hcN := hN7.cell 0
                        have hA7 := HAV.out.below hbF
                        have hn9 := own_apart hO7 (g := w.heap.size + 2) (.inl (by omega))
                        have hbw := hbV.trans (hbF.mono hbV.size)
                        clear hS0 hO6 hN7 hg7 hap6 hb6 hT
                        go_wp2_with (first | (refine wpList_store_arr 26 (.tmp 8) (.tmp 64) (w.heap.size + 2) [Value.slice none 0 0] [Value.slice a6 (fromL L3).length k6] rfl rfl rfl rfl hA7 rfl sizeSg (by simp [Value.oneCell']) ?_; intro w9 hA9 hg9 hz9; clear hz9))
                        have hb9 := hbw.grown hg9 hbw.size (fun k hk => by cases hk; omega)
                        exact bodyPost_ret (results_arr_tmp rfl _ _ (w.heap.size + 2) [Value.slice a6 (fromL L3).length k6] dS rfl hA9 hdS hrS sizeSg) rfl ⟨_, by rw [HB.out]; rfl, by rw [HL.out]; exact ownsBase (hO7.kept hg9 hn9) (by omega), hb9⟩
                    · rw [if_pos (by rfl)]
                      try have hap1 := own_apart hO1 (.inr (Nat.le_refl _))
                      try have hap6 := own_apart hO6 (.inr (Nat.le_refl _))
                      try replace hO1 := hO1.alloc (.cells [Value.slice none 0 0].toArray 26)
                      try replace hO2 := hO2.alloc (.cells [Value.slice none 0 0].toArray 26)
                      try replace hO3 := hO3.alloc (.cells [Value.slice none 0 0].toArray 26)
                      try replace hO6 := hO6.alloc (.cells [Value.slice none 0 0].toArray 26)
                      try replace hza := le_allocG hza (.cells [Value.slice none 0 0].toArray 26)
                      obtain ⟨hT, htV⟩ := newSgAtG (hHeld2).2.2
                      refine wp_alloc_arrG 26 [Value.slice none 0 0] zeroSg (by rfl) ?_
                      refine hK.out _ _ (HK.out _ ((hHeld2).2.2.alloc (hHeld2).2.2.size _)) (fun hHeld3 => ?_)
                      clear hK K
                      (try simp only [Act.put, List.setIfInBounds_toArray, List.set_cons_zero, List.set_cons_succ, List.getElem_toArray, List.getElem_cons_succ, List.getElem_cons_zero])
                      refine wpAnyH_ready (rs := [8]) (by kernel_rfl) (by simp) ?_
                      refine AllReadyH.cons rfl (fun K hK => ?_) AllReadyH.nil
                      rw [if_pos (by rfl)]
                      refine wp_append_rowsG _ (.tmp 55) (.tmp 59) 24 (by rfl) i0 (Value.int .i64 0) Tryz.underlying24 hi hz0 hz1 hz2 rfl _ _ _ _ _ (by rfl) hO1 _ _ _ (by rfl) hO2 (ints_oneG _) (by unfold maxLen; omega) (by omega) hza ?_
                      intro v3 wE hO3 hg3
                      rw [← List.map_append, ← List.length_append, HL3.out] at hO3
                      obtain ⟨a3, k3, rfl, -⟩ := row_open hO3
                      try (replace hT := hT.grown hg3 (ne_apartG hap1))
                      refine hK.out _ _ (HK.out _ ((hHeld3).2.2.grown hg3 (hHeld3).2.2.size (fun j hj => Nat.le_trans hzb (hO1.lt j hj).1))) (fun hHeld4 => ?_)
                      clear hK K
                      (try simp only [Act.put, List.setIfInBounds_toArray, List.set_cons_zero, List.set_cons_succ, List.getElem_toArray, List.getElem_cons_succ, List.getElem_cons_zero])
                      refine wpAnyH_ready (rs := [9]) (by kernel_rfl) (by simp) ?_
                      refine AllReadyH.cons rfl (fun K hK => ?_) AllReadyH.nil
                      rw [if_pos (by rfl)]
                      go_wp2_with (first | (go_at_call 19; (with_reducible refine (spec_FromGens L3 _ _ _ (own_slvG hO3) (by omega)).mono ?_); rintro e wF ⟨v6, rfl, hO6, hb6⟩; obtain ⟨a6, k6, rfl, -⟩ := row_open hO6; have hz6 := (hHeld4).2.2.size; try (have hap6 := own_apart hO6 (.inl hT.lt); replace hT := hT.below hb6)))
                      refine hK.out _ _ (HK.out _ ((hHeld4).2.2.trans (hb6.mono (hHeld4).2.2.size))) (fun hHeld5 => ?_)
                      clear hK K
                      (try simp only [Act.put, List.setIfInBounds_toArray, List.set_cons_zero, List.set_cons_succ, List.getElem_toArray, List.getElem_cons_succ, List.getElem_cons_zero])
                      refine held_take 10 _ _ rfl (by kernel_rfl) (by kernel_rfl) (by kernel_rfl) (fun _ _ _ h => h) (by rfl) hHeld5 (fun w hSw => by (try dsimp only at hSw); go_simp; try with_reducible rfl) ?_
                      (try simp only [Act.put, List.setIfInBounds_toArray, List.set_cons_zero, List.set_cons_succ, List.getElem_toArray, List.getElem_cons_succ, List.getElem_cons_zero])
                      refine held_take 11 _ _ rfl (by kernel_rfl) (by kernel_rfl) (by kernel_rfl) (fun _ _ _ h => h) (by rfl) hHeld5 (fun w hSw => by (try dsimp only at hSw); go_simp; try with_reducible rfl) ?_
                      (try simp only [Act.put, List.setIfInBounds_toArray, List.set_cons_zero, List.set_cons_succ, List.getElem_toArray, List.getElem_cons_succ, List.getElem_cons_zero])
                      refine held_take 12 _ _ rfl (by kernel_rfl) (by kernel_rfl) (by kernel_rfl) (fun _ _ _ h => h) (by rfl) hHeld5 (fun w hSw => by (try dsimp only at hSw); go_simp; try with_reducible rfl) ?_
                      (try simp only [Act.put, List.setIfInBounds_toArray, List.set_cons_zero, List.set_cons_succ, List.getElem_toArray, List.getElem_cons_succ, List.getElem_cons_zero])
                      refine wpAnyH_ready (rs := [14]) (by kernel_rfl) (by simp) ?_
                      refine AllReadyH.cons rfl (fun K hK => ?_) AllReadyH.nil
                      rw [if_pos (by rfl)]
                      refine wp_store_arrG 26 (.tmp 10) (.tmp 62) _ [Value.slice none 0 0] [Value.slice a6 (fromL L3).length k6] (by rfl) (by rfl) (by rfl) hT rfl sizeSg (by simp [Value.oneCell']) ?_
                      intro wS hN7 hg7
                      refine hK.out _ _ (HK.out _ ((hHeld5).2.2.grown hg7 (hHeld5).2.2.size (fun j hj => by cases hj; exact htV))) (fun hHeld6 => ?_)
                      clear hK K
                      (try simp only [Act.put, List.getElem_toArray, List.getElem_cons_succ, List.getElem_cons_zero])
                      refine held_take 15 _ _ rfl (by kernel_rfl) (by kernel_rfl) (by kernel_rfl) (fun _ _ _ h => h) (by rfl) hHeld6 (fun w hSw => by (try dsimp only at hSw); go_simp; try with_reducible rfl) ?_
                      (try simp only [Act.put, List.setIfInBounds_toArray, List.set_cons_zero, List.set_cons_succ, List.getElem_toArray, List.getElem_cons_succ, List.getElem_cons_zero])
                      refine wpAnyH_done (by kernel_rfl) ?_ _
                      have hbF := (hHeld6).2.2
                      have hO7 := hO6.kept hg7 hap6
                      have hcN := hN7.cell 0
                      have hA7 := HAV.out.below hbF
                      have hn9 := own_apart hO7 (g := w.heap.size + 2) (.inl (by omega))
                      have hbw := hbV.trans (hbF.mono hbV.size)
                      clear hS0 hO6 hN7 hg7 hap6 hb6 hT
                      go_wp2_with (first | (refine wpList_store_arr 26 (.tmp 8) (.tmp 64) (w.heap.size + 2) [Value.slice none 0 0] [Value.slice a6 (fromL L3).length k6] rfl rfl rfl rfl hA7 rfl sizeSg (by simp [Value.oneCell']) ?_; intro w9 hA9 hg9 hz9; clear hz9))
                      have hb9 := hbw.grown hg9 hbw.size (fun k hk => by cases hk; omega)
                      exact bodyPost_ret (results_arr_tmp rfl _ _ (w.heap.size + 2) [Value.slice a6 (fromL L3).length k6] dS rfl hA9 hdS hrS sizeSg) rfl ⟨_, by rw [HB.out]; rfl, by rw [HL.out]; exact ownsBase (hO7.kept hg9 hn9) (by omega), hb9⟩
                  · rw [if_pos (by rfl)]
                    try have hap1 := own_apart hO1 (.inr (Nat.le_refl _))
                    try have hap6 := own_apart hO6 (.inr (Nat.le_refl _))
                    try replace hO1 := hO1.alloc (.cells [Value.slice none 0 0].toArray 26)
                    try replace hO2 := hO2.alloc (.cells [Value.slice none 0 0].toArray 26)
                    try replace hO3 := hO3.alloc (.cells [Value.slice none 0 0].toArray 26)
                    try replace hO6 := hO6.alloc (.cells [Value.slice none 0 0].toArray 26)
                    try replace hza := le_allocG hza (.cells [Value.slice none 0 0].toArray 26)
                    obtain ⟨hT, htV⟩ := newSgAtG (hHeld1).2.2
                    refine wp_alloc_arrG 26 [Value.slice none 0 0] zeroSg (by rfl) ?_
                    refine hK.out _ _ (HK.out _ ((hHeld1).2.2.alloc (hHeld1).2.2.size _)) (fun hHeld2 => ?_)
                    clear hK K
                    (try simp only [Act.put, List.setIfInBounds_toArray, List.set_cons_zero, List.set_cons_succ, List.getElem_toArray, List.getElem_cons_succ, List.getElem_cons_zero])
                    refine wpAnyH_ready (rs := [7]) (by kernel_rfl) (by simp) ?_
                    refine AllReadyH.cons rfl (fun K hK => ?_) AllReadyH.nil
                    rw [if_pos (by rfl)]
                    go_wp2_with (first | (go_at_call 42; (with_reducible refine (ch2 _ hHeld2.2.2).mono ?_); rintro e wC ⟨v2, rfl, hO2, hbC⟩; replace hza := Nat.le_trans hza hbC.size; replace hO1 := owns_below hO1 hbC; try (replace hT := hT.below hbC)))
                    refine hK.out _ _ (HK.out _ ((hHeld2).2.2.trans (hbC.mono (hHeld2).2.2.size))) (fun hHeld3 => ?_)
                    clear hK K
                    (try simp only [Act.put, List.setIfInBounds_toArray, List.set_cons_zero, List.set_cons_succ, List.getElem_toArray, List.getElem_cons_succ, List.getElem_cons_zero])
                    refine wpAnyH_ready (rs := [8]) (by kernel_rfl) (by simp) ?_
                    refine AllReadyH.cons rfl (fun K hK => ?_) AllReadyH.nil
                    rw [if_pos (by rfl)]
                    refine wp_append_rowsG _ (.tmp 55) (.tmp 59) 24 (by rfl) i0 (Value.int .i64 0) Tryz.underlying24 hi hz0 hz1 hz2 rfl _ _ _ _ _ (by rfl) hO1 _ _ _ (by rfl) hO2 (ints_oneG _) (by unfold maxLen; omega) (by omega) hza ?_
                    intro v3 wE hO3 hg3
                    rw [← List.map_append, ← List.length_append, HL3.out] at hO3
                    obtain ⟨a3, k3, rfl, -⟩ := row_open hO3
                    try (replace hT := hT.grown hg3 (ne_apartG hap1))
                    refine hK.out _ _ (HK.out _ ((hHeld3).2.2.grown hg3 (hHeld3).2.2.size (fun j hj => Nat.le_trans hzb (hO1.lt j hj).1))) (fun hHeld4 => ?_)
                    clear hK K
                    (try simp only [Act.put, List.setIfInBounds_toArray, List.set_cons_zero, List.set_cons_succ, List.getElem_toArray, List.getElem_cons_succ, List.getElem_cons_zero])
                    refine wpAnyH_ready (rs := [9]) (by kernel_rfl) (by simp) ?_
                    refine AllReadyH.cons rfl (fun K hK => ?_) AllReadyH.nil
                    rw [if_pos (by rfl)]
                    go_wp2_with (first | (go_at_call 19; (with_reducible refine (spec_FromGens L3 _ _ _ (own_slvG hO3) (by omega)).mono ?_); rintro e wF ⟨v6, rfl, hO6, hb6⟩; obtain ⟨a6, k6, rfl, -⟩ := row_open hO6; have hz6 := (hHeld4).2.2.size; try (have hap6 := own_apart hO6 (.inl hT.lt); replace hT := hT.below hb6)))
                    refine hK.out _ _ (HK.out _ ((hHeld4).2.2.trans (hb6.mono (hHeld4).2.2.size))) (fun hHeld5 => ?_)
                    clear hK K
                    (try simp only [Act.put, List.setIfInBounds_toArray, List.set_cons_zero, List.set_cons_succ, List.getElem_toArray, List.getElem_cons_succ, List.getElem_cons_zero])
                    refine held_take 10 _ _ rfl (by kernel_rfl) (by kernel_rfl) (by kernel_rfl) (fun _ _ _ h => h) (by rfl) hHeld5 (fun w hSw => by (try dsimp only at hSw); go_simp; try with_reducible rfl) ?_
                    (try simp only [Act.put, List.setIfInBounds_toArray, List.set_cons_zero, List.set_cons_succ, List.getElem_toArray, List.getElem_cons_succ, List.getElem_cons_zero])
                    refine held_take 11 _ _ rfl (by kernel_rfl) (by kernel_rfl) (by kernel_rfl) (fun _ _ _ h => h) (by rfl) hHeld5 (fun w hSw => by (try dsimp only at hSw); go_simp; try with_reducible rfl) ?_
                    (try simp only [Act.put, List.setIfInBounds_toArray, List.set_cons_zero, List.set_cons_succ, List.getElem_toArray, List.getElem_cons_succ, List.getElem_cons_zero])
                    refine held_take 12 _ _ rfl (by kernel_rfl) (by kernel_rfl) (by kernel_rfl) (fun _ _ _ h => h) (by rfl) hHeld5 (fun w hSw => by (try dsimp only at hSw); go_simp; try with_reducible rfl) ?_
                    (try simp only [Act.put, List.setIfInBounds_toArray, List.set_cons_zero, List.set_cons_succ, List.getElem_toArray, List.getElem_cons_succ, List.getElem_cons_zero])
                    refine wpAnyH_ready (rs := [14]) (by kernel_rfl) (by simp) ?_
                    refine AllReadyH.cons rfl (fun K hK => ?_) AllReadyH.nil
                    rw [if_pos (by rfl)]
                    refine wp_store_arrG 26 (.tmp 10) (.tmp 62) _ [Value.slice none 0 0] [Value.slice a6 (fromL L3).length k6] (by rfl) (by rfl) (by rfl) hT rfl sizeSg (by simp [Value.oneCell']) ?_
                    intro wS hN7 hg7
                    refine hK.out _ _ (HK.out _ ((hHeld5).2.2.grown hg7 (hHeld5).2.2.size (fun j hj => by cases hj; exact htV))) (fun hHeld6 => ?_)
                    clear hK K
                    (try simp only [Act.put, List.getElem_toArray, List.getElem_cons_succ, List.getElem_cons_zero])
                    refine held_take 15 _ _ rfl (by kernel_rfl) (by kernel_rfl) (by kernel_rfl) (fun _ _ _ h => h) (by rfl) hHeld6 (fun w hSw => by (try dsimp only at hSw); go_simp; try with_reducible rfl) ?_
                    (try simp only [Act.put, List.setIfInBounds_toArray, List.set_cons_zero, List.set_cons_succ, List.getElem_toArray, List.getElem_cons_succ, List.getElem_cons_zero])
                    refine wpAnyH_done (by kernel_rfl) ?_ _
                    have hbF := (hHeld6).2.2
                    have hO7 := hO6.kept hg7 hap6
                    have hcN := hN7.cell 0
                    have hA7 := HAV.out.below hbF
                    have hn9 := own_apart hO7 (g := w.heap.size + 2) (.inl (by omega))
                    have hbw := hbV.trans (hbF.mono hbV.size)
                    clear hS0 hO6 hN7 hg7 hap6 hb6 hT
                    go_wp2_with (first | (refine wpList_store_arr 26 (.tmp 8) (.tmp 64) (w.heap.size + 2) [Value.slice none 0 0] [Value.slice a6 (fromL L3).length k6] rfl rfl rfl rfl hA7 rfl sizeSg (by simp [Value.oneCell']) ?_; intro w9 hA9 hg9 hz9; clear hz9))
                    have hb9 := hbw.grown hg9 hbw.size (fun k hk => by cases hk; omega)
                    exact bodyPost_ret (results_arr_tmp rfl _ _ (w.heap.size + 2) [Value.slice a6 (fromL L3).length k6] dS rfl hA9 hdS hrS sizeSg) rfl ⟨_, by rw [HB.out]; rfl, by rw [HL.out]; exact ownsBase (hO7.kept hg9 hn9) (by omega), hb9⟩
                · rw [if_pos (by rfl)]
                  try have hap1 := own_apart hO1 (.inr (Nat.le_refl _))
                  try have hap6 := own_apart hO6 (.inr (Nat.le_refl _))
                  try replace hO1 := hO1.alloc (.cells [Value.slice none 0 0].toArray 26)
                  try replace hO2 := hO2.alloc (.cells [Value.slice none 0 0].toArray 26)
                  try replace hO3 := hO3.alloc (.cells [Value.slice none 0 0].toArray 26)
                  try replace hO6 := hO6.alloc (.cells [Value.slice none 0 0].toArray 26)
                  try replace hza := le_allocG hza (.cells [Value.slice none 0 0].toArray 26)
                  obtain ⟨hT, htV⟩ := newSgAtG (hHeld).2.2
                  refine wp_alloc_arrG 26 [Value.slice none 0 0] zeroSg (by rfl) ?_
                  refine hK.out _ _ (HK.out _ ((hHeld).2.2.alloc (hHeld).2.2.size _)) (fun hHeld1 => ?_)
                  clear hK K
                  (try simp only [Act.put, List.setIfInBounds_toArray, List.set_cons_zero, List.set_cons_succ, List.getElem_toArray, List.getElem_cons_succ, List.getElem_cons_zero])
                  refine wpAnyH_ready (rs := [3]) (by kernel_rfl) (by simp) ?_
                  refine AllReadyH.cons rfl (fun K hK => ?_) AllReadyH.nil
                  rw [if_pos (by rfl)]
                  go_wp2_with (first | (go_at_call 42; (with_reducible refine (ch1 _ hHeld1.2.2).mono ?_); rintro e wA ⟨v1, rfl, hO1, hbA⟩; have hzb := (hHeld1).2.2.size; have hza := hbA.size; try (have hap1 := own_apart hO1 (.inl hT.lt); replace hT := hT.below hbA)))
                  refine hK.out _ _ (HK.out _ ((hHeld1).2.2.trans (hbA.mono (hHeld1).2.2.size))) (fun hHeld2 => ?_)
                  clear hK K
                  (try simp only [Act.put, List.setIfInBounds_toArray, List.set_cons_zero, List.set_cons_succ, List.getElem_toArray, List.getElem_cons_succ, List.getElem_cons_zero])
                  refine wpAnyH_ready (rs := [7]) (by kernel_rfl) (by simp) ?_
                  refine AllReadyH.cons rfl (fun K hK => ?_) AllReadyH.nil
                  rw [if_pos (by rfl)]
                  go_wp2_with (first | (go_at_call 42; (with_reducible refine (ch2 _ hHeld2.2.2).mono ?_); rintro e wC ⟨v2, rfl, hO2, hbC⟩; replace hza := Nat.le_trans hza hbC.size; replace hO1 := owns_below hO1 hbC; try (replace hT := hT.below hbC)))
                  refine hK.out _ _ (HK.out _ ((hHeld2).2.2.trans (hbC.mono (hHeld2).2.2.size))) (fun hHeld3 => ?_)
                  clear hK K
                  (try simp only [Act.put, List.setIfInBounds_toArray, List.set_cons_zero, List.set_cons_succ, List.getElem_toArray, List.getElem_cons_succ, List.getElem_cons_zero])
                  refine wpAnyH_ready (rs := [8]) (by kernel_rfl) (by simp) ?_
                  refine AllReadyH.cons rfl (fun K hK => ?_) AllReadyH.nil
                  rw [if_pos (by rfl)]
                  refine wp_append_rowsG _ (.tmp 55) (.tmp 59) 24 (by rfl) i0 (Value.int .i64 0) Tryz.underlying24 hi hz0 hz1 hz2 rfl _ _ _ _ _ (by rfl) hO1 _ _ _ (by rfl) hO2 (ints_oneG _) (by unfold maxLen; omega) (by omega) hza ?_
                  intro v3 wE hO3 hg3
                  rw [← List.map_append, ← List.length_append, HL3.out] at hO3
                  obtain ⟨a3, k3, rfl, -⟩ := row_open hO3
                  try (replace hT := hT.grown hg3 (ne_apartG hap1))
                  refine hK.out _ _ (HK.out _ ((hHeld3).2.2.grown hg3 (hHeld3).2.2.size (fun j hj => Nat.le_trans hzb (hO1.lt j hj).1))) (fun hHeld4 => ?_)
                  clear hK K
                  (try simp only [Act.put, List.setIfInBounds_toArray, List.set_cons_zero, List.set_cons_succ, List.getElem_toArray, List.getElem_cons_succ, List.getElem_cons_zero])
                  refine wpAnyH_ready (rs := [9]) (by kernel_rfl) (by simp) ?_
                  refine AllReadyH.cons rfl (fun K hK => ?_) AllReadyH.nil
                  rw [if_pos (by rfl)]
                  go_wp2_with (first | (go_at_call 19; (with_reducible refine (spec_FromGens L3 _ _ _ (own_slvG hO3) (by omega)).mono ?_); rintro e wF ⟨v6, rfl, hO6, hb6⟩; obtain ⟨a6, k6, rfl, -⟩ := row_open hO6; have hz6 := (hHeld4).2.2.size; try (have hap6 := own_apart hO6 (.inl hT.lt); replace hT := hT.below hb6)))
                  refine hK.out _ _ (HK.out _ ((hHeld4).2.2.trans (hb6.mono (hHeld4).2.2.size))) (fun hHeld5 => ?_)
                  clear hK K
                  (try simp only [Act.put, List.setIfInBounds_toArray, List.set_cons_zero, List.set_cons_succ, List.getElem_toArray, List.getElem_cons_succ, List.getElem_cons_zero])
                  refine held_take 10 _ _ rfl (by kernel_rfl) (by kernel_rfl) (by kernel_rfl) (fun _ _ _ h => h) (by rfl) hHeld5 (fun w hSw => by (try dsimp only at hSw); go_simp; try with_reducible rfl) ?_
                  (try simp only [Act.put, List.setIfInBounds_toArray, List.set_cons_zero, List.set_cons_succ, List.getElem_toArray, List.getElem_cons_succ, List.getElem_cons_zero])
                  refine held_take 11 _ _ rfl (by kernel_rfl) (by kernel_rfl) (by kernel_rfl) (fun _ _ _ h => h) (by rfl) hHeld5 (fun w hSw => by (try dsimp only at hSw); go_simp; try with_reducible rfl) ?_
                  (try simp only [Act.put, List.setIfInBounds_toArray, List.set_cons_zero, List.set_cons_succ, List.getElem_toArray, List.getElem_cons_succ, List.getElem_cons_zero])
                  refine held_take 12 _ _ rfl (by kernel_rfl) (by kernel_rfl) (by kernel_rfl) (fun _ _ _ h => h) (by rfl) hHeld5 (fun w hSw => by (try dsimp only at hSw); go_simp; try with_reducible rfl) ?_
                  (try simp only [Act.put, List.setIfInBounds_toArray, List.set_cons_zero, List.set_cons_succ, List.getElem_toArray, List.getElem_cons_succ, List.getElem_cons_zero])
                  refine wpAnyH_ready (rs := [14]) (by kernel_rfl) (by simp) ?_
                  refine AllReadyH.cons rfl (fun K hK => ?_) AllReadyH.nil
                  rw [if_pos (by rfl)]
                  refine wp_store_arrG 26 (.tmp 10) (.tmp 62) _ [Value.slice none 0 0] [Value.slice a6 (fromL L3).length k6] (by rfl) (by rfl) (by rfl) hT rfl sizeSg (by simp [Value.oneCell']) ?_
                  intro wS hN7 hg7
                  refine hK.out _ _ (HK.out _ ((hHeld5).2.2.grown hg7 (hHeld5).2.2.size (fun j hj => by cases hj; exact htV))) (fun hHeld6 => ?_)
                  clear hK K
                  (try simp only [Act.put, List.getElem_toArray, List.getElem_cons_succ, List.getElem_cons_zero])
                  refine held_take 15 _ _ rfl (by kernel_rfl) (by kernel_rfl) (by kernel_rfl) (fun _ _ _ h => h) (by rfl) hHeld6 (fun w hSw => by (try dsimp only at hSw); go_simp; try with_reducible rfl) ?_
                  (try simp only [Act.put, List.setIfInBounds_toArray, List.set_cons_zero, List.set_cons_succ, List.getElem_toArray, List.getElem_cons_succ, List.getElem_cons_zero])
                  refine wpAnyH_done (by kernel_rfl) ?_ _
                  have hbF := (hHeld6).2.2
                  have hO7 := hO6.kept hg7 hap6
                  have hcN := hN7.cell 0
                  have hA7 := HAV.out.below hbF
                  have hn9 := own_apart hO7 (g := w.heap.size + 2) (.inl (by omega))
                  have hbw := hbV.trans (hbF.mono hbV.size)
                  clear hS0 hO6 hN7 hg7 hap6 hb6 hT
                  go_wp2_with (first | (refine wpList_store_arr 26 (.tmp 8) (.tmp 64) (w.heap.size + 2) [Value.slice none 0 0] [Value.slice a6 (fromL L3).length k6] rfl rfl rfl rfl hA7 rfl sizeSg (by simp [Value.oneCell']) ?_; intro w9 hA9 hg9 hz9; clear hz9))
                  have hb9 := hbw.grown hg9 hbw.size (fun k hk => by cases hk; omega)
                  exact bodyPost_ret (results_arr_tmp rfl _ _ (w.heap.size + 2) [Value.slice a6 (fromL L3).length k6] dS rfl hA9 hdS hrS sizeSg) rfl ⟨_, by rw [HB.out]; rfl, by rw [HL.out]; exact ownsBase (hO7.kept hg9 hn9) (by omega), hb9⟩
              · have hgb : (gcdOf x y != 1) = true := by rw [bne_iff_ne]; exact hg
                have HB : Hid (gluB A B x y = false) := Lib.hid (by unfold gluB gluQ; rw [decide_eq_false hg]; simp)
                have HL : Hid (gluL A B x y = []) := Lib.hid (by unfold gluL gluQ; rw [decide_eq_false hg]; simp)
                clear h1 h2 h3 h4 h5 h6 hg
                generalize gcdOf x y = g at *
                go_enter Tryz.func8, Tryz.ntmps8
                go_wp2_with (first | (refine wpList_alloc_arr 26 [Value.slice none 0 0] zeroSg rfl rfl ?_; rw [← HV.out]))
                go_wp2_with fail
                refine (c1 _ hb0).mono ?_
                rintro e w1 ⟨rfl, hb1'⟩
                have hb1 := hb0.trans (hb1'.mono hb0.size)
                have hk1 := HK0.out _ hb1
                obtain ⟨hkA1, hkB1⟩ := hk1
                go_wp2_with fail
                refine (c2 _ hb1).mono ?_
                rintro e w2 ⟨rfl, hb2'⟩
                have hb2 := hb1.trans (hb2'.mono hb1.size)
                have hk2 := HK0.out _ hb2
                obtain ⟨hkA2, hkB2⟩ := hk2
                go_wp2_with fail
                refine (c3 _ hb2).mono ?_
                rintro e w3 ⟨rfl, hww⟩
                rw [hww]
                clear hww
                go_wp2_with fail
                refine (c4 _ hb2).mono ?_
                rintro e w4 ⟨rfl, hww⟩
                rw [hww]
                clear hww
                go_wp2_with fail
                refine (c5 _ hb2).mono ?_
                rintro e w5 ⟨rfl, hww⟩
                rw [hww]
                clear hww
                go_wp2_with fail
                refine (c6 _ hb2).mono ?_
                rintro e w6 ⟨rfl, hww⟩
                rw [hww]
                clear hww
                go_wp2_with fail
                refine (c7 _).mono ?_
                rintro e w7 ⟨rfl, hww⟩
                rw [hww]
                clear hww
                have hA9' := HAV.out.below hb2
                have hbw9 := hbV.trans (hb2.mono hbV.size)
                go_wp2_with (first | (refine wpList_store_arr 26 (.tmp 8) (.tmp 50) (w.heap.size + 2) [Value.slice none 0 0] [Value.slice none 0 0] rfl rfl rfl rfl hA9' rfl sizeSg (by simp [Value.oneCell']) ?_; intro w9 hA9 hg9 hz9; clear hz9))
                have hb9 := hbw9.grown hg9 hbw9.size (fun k hk => by cases hk; omega)
                exact bodyPost_ret (results_arr_tmp rfl _ _ (w.heap.size + 2) [Value.slice none 0 0] dS rfl hA9 hdS hrS sizeSg) rfl ⟨_, by rw [HB.out]; rfl, by rw [HL.out]; exact World.ownsRow_nil _ _ _ _, hb9⟩
        · rw [h4] at c4
          have HB : Hid (gluB A B x y = false) := Lib.hid (by unfold gluB gluQ; rw [h4]; simp)
          have HL : Hid (gluL A B x y = []) := Lib.hid (by unfold gluL gluQ; rw [h4]; simp)
          go_enter Tryz.func8, Tryz.ntmps8
          go_wp2_with (first | (refine wpList_alloc_arr 26 [Value.slice none 0 0] zeroSg rfl rfl ?_; rw [← HV.out]))
          go_wp2_with fail
          refine (c1 _ hb0).mono ?_
          rintro e w1 ⟨rfl, hb1'⟩
          have hb1 := hb0.trans (hb1'.mono hb0.size)
          have hk1 := HK0.out _ hb1
          obtain ⟨hkA1, hkB1⟩ := hk1
          go_wp2_with fail
          refine (c2 _ hb1).mono ?_
          rintro e w2 ⟨rfl, hb2'⟩
          have hb2 := hb1.trans (hb2'.mono hb1.size)
          have hk2 := HK0.out _ hb2
          obtain ⟨hkA2, hkB2⟩ := hk2
          go_wp2_with fail
          refine (c3 _ hb2).mono ?_
          rintro e w3 ⟨rfl, hww⟩
          rw [hww]
          clear hww
          go_wp2_with fail
          refine (c4 _ hb2).mono ?_
          rintro e w4 ⟨rfl, hww⟩
          rw [hww]
          clear hww
          have hA9' := HAV.out.below hb2
          have hbw9 := hbV.trans (hb2.mono hbV.size)
          go_wp2_with (first | (refine wpList_store_arr 26 (.tmp 8) (.tmp 50) (w.heap.size + 2) [Value.slice none 0 0] [Value.slice none 0 0] rfl rfl rfl rfl hA9' rfl sizeSg (by simp [Value.oneCell']) ?_; intro w9 hA9 hg9 hz9; clear hz9))
          have hb9 := hbw9.grown hg9 hbw9.size (fun k hk => by cases hk; omega)
          exact bodyPost_ret (results_arr_tmp rfl _ _ (w.heap.size + 2) [Value.slice none 0 0] dS rfl hA9 hdS hrS sizeSg) rfl ⟨_, by rw [HB.out]; rfl, by rw [HL.out]; exact World.ownsRow_nil _ _ _ _, hb9⟩
      · rw [h3] at c3
        have HB : Hid (gluB A B x y = false) := Lib.hid (by unfold gluB gluQ; rw [h3]; simp)
        have HL : Hid (gluL A B x y = []) := Lib.hid (by unfold gluL gluQ; rw [h3]; simp)
        go_enter Tryz.func8, Tryz.ntmps8
        go_wp2_with (first | (refine wpList_alloc_arr 26 [Value.slice none 0 0] zeroSg rfl rfl ?_; rw [← HV.out]))
        go_wp2_with fail
        refine (c1 _ hb0).mono ?_
        rintro e w1 ⟨rfl, hb1'⟩
        have hb1 := hb0.trans (hb1'.mono hb0.size)
        have hk1 := HK0.out _ hb1
        obtain ⟨hkA1, hkB1⟩ := hk1
        go_wp2_with fail
        refine (c2 _ hb1).mono ?_
        rintro e w2 ⟨rfl, hb2'⟩
        have hb2 := hb1.trans (hb2'.mono hb1.size)
        have hk2 := HK0.out _ hb2
        obtain ⟨hkA2, hkB2⟩ := hk2
        go_wp2_with fail
        refine (c3 _ hb2).mono ?_
        rintro e w3 ⟨rfl, hww⟩
        rw [hww]
        clear hww
        have hA9' := HAV.out.below hb2
        have hbw9 := hbV.trans (hb2.mono hbV.size)
        go_wp2_with (first | (refine wpList_store_arr 26 (.tmp 8) (.tmp 50) (w.heap.size + 2) [Value.slice none 0 0] [Value.slice none 0 0] rfl rfl rfl rfl hA9' rfl sizeSg (by simp [Value.oneCell']) ?_; intro w9 hA9 hg9 hz9; clear hz9))
        have hb9 := hbw9.grown hg9 hbw9.size (fun k hk => by cases hk; omega)
        exact bodyPost_ret (results_arr_tmp rfl _ _ (w.heap.size + 2) [Value.slice none 0 0] dS rfl hA9 hdS hrS sizeSg) rfl ⟨_, by rw [HB.out]; rfl, by rw [HL.out]; exact World.ownsRow_nil _ _ _ _, hb9⟩

end Go.Proofs.YtipfonpaaebjjaaGreat
