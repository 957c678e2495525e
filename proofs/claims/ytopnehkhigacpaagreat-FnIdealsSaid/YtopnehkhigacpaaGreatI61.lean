/-
  CONTRACTS of the program's chapter 16: idealOf, has, InIdeal. (Own work: mkI61.py.)
-/
import Derived.Test.YtopnehkhigacpaaGreatI60
import Derived.Test.YtopnehkhigacpaaGreatI51
import Derived.Test.YtopnehkhigacpaaGreatHta
namespace Go.Proofs.YtopnehkhigacpaaGreat
open Go Go.RowKit
attribute [local go_sem] Oper.semAt_some

theorem wpList_box_int {P : Program} {w : World} {ops : Array Oper} {rest : List Oper} {o : Oper} {a : Act} {Q : Exit → Act → World → Prop} (t : TypeId) (x : Operand) (n : Int) (hg : o.guard = none) (ho : o.op = .box t x) (hx : a.eval x = .int .i64 n)
    (h : wpList P ops Q rest (a.put o.dst (.pointer (some ⟨w.heap.size, 0, none⟩))) (w.alloc (.cells #[.int .i64 n] t))) : wpList P ops Q (o :: rest) a w := by
  refine wpList_plain hg fun K hK => ?_
  unfold Oper.wp execOp
  simp only [ho, hx, Sem.run_bind, Instr.box, newVar, newRow, run_newObj_alloc, Sem.run_pure, Result.andThen_ok, Value.cells]
  exact hK _ _ h
/-- The cells of an ideal: the generators, the table, the list. -/
def idC (f : Nat → Bool) (a : Option Addr) (n c : Nat) (b : Option Addr) (m d : Nat) : List Value := .slice a n c :: (tabB f 260 ++ [.slice b m d])
theorem idC_len (f : Nat → Bool) (a : Option Addr) (n c : Nat) (b : Option Addr) (m d : Nat) : (idC f a n c b m d).length = 262 := by unfold idC; simp [tabB_length]
theorem idC_one (f : Nat → Bool) (a : Option Addr) (n c : Nat) (b : Option Addr) (m d : Nat) : ∀ v ∈ idC f a n c b m d, v.oneCell' = true := by
  intro v hv
  unfold idC at hv
  rcases List.mem_cons.1 hv with rfl | hv
  · rfl
  · rcases List.mem_append.1 hv with hv | hv
    · exact tabB_one f 260 v hv
    · simp at hv; subst hv; rfl
theorem idC_tab (f : Nat → Bool) (a : Option Addr) (n c : Nat) (b : Option Addr) (m d : Nat) (j : Nat) (v : Value) (h : (tabB f 260)[j]? = some v) : (idC f a n c b m d)[1 + j]? = some v := by
  unfold idC
  have hj : j < (tabB f 260).length := (List.getElem?_eq_some_iff.1 h).1
  rw [Nat.add_comm, List.getElem?_cons_succ, List.getElem?_append_left hj]; exact h
theorem idC_last (f : Nat → Bool) (a : Option Addr) (n c : Nat) (b : Option Addr) (m d : Nat) : (idC f a n c b m d)[261]? = some (.slice b m d) := by
  unfold idC
  rw [List.getElem?_cons_succ, List.getElem?_append_right (by rw [tabB_length]; omega), tabB_length]; rfl
theorem zeroId : (Tryz.prog.info? 51).map (·.zero) = some (some (.agg (idC (fun _ => false) none 0 0 none 0 0).toArray)) := by kernel_rfl
theorem sizeId0 : (Tryz.prog.info? 51).map (·.size) = some 262 := by kernel_rfl
theorem sizeId (f : Nat → Bool) (a : Option Addr) (n c : Nat) (b : Option Addr) (m d : Nat) : (Tryz.prog.info? 51).map (·.size) = some (idC f a n c b m d).length := by rw [idC_len]; exact sizeId0
theorem undId : ∃ d, Tryz.prog.underlying 51 = some d ∧ d.isRow = true := by
  have h : ((Tryz.prog.underlying 51).map (·.isRow)) = some true := by kernel_rfl
  cases hd : Tryz.prog.underlying 51 with
  | none => rw [hd] at h; cases h
  | some d => rw [hd] at h; exact ⟨d, rfl, Option.some.inj h⟩
theorem builtId0 : Tryz.prog.built 51 [] = some (idC (fun _ => false) none 0 0 none 0 0).toArray := by kernel_rfl
theorem builtId (f : Nat → Bool) (a : Option Addr) (n c : Nat) (b : Option Addr) (m d : Nat) : Tryz.prog.built 51 [(0, .agg #[.slice a n c]), (1, .agg (tabB f 260).toArray), (2, .slice b m d)] = some (idC f a n c b m d).toArray := by kernel_rfl
theorem id_tab {w : World} {g : Nat} {f : Nat → Bool} {a b : Option Addr} {n c m d : Nat} (h : Arr w g 51 (idC f a n c b m d)) : w.rangeAt g 1 (tabB f 260) := fun j v hv => h.range (1 + j) v (idC_tab f a n c b m d j v hv) |> fun k => by rw [Nat.zero_add] at k; exact k
theorem id_list {w : World} {g : Nat} {f : Nat → Bool} {a b : Option Addr} {n c m d : Nat} (h : Arr w g 51 (idC f a n c b m d)) : w.cell? ⟨g, 261, none⟩ = some (.slice b m d) := by
  have k := h.range 261 _ (idC_last f a n c b m d)
  rw [Nat.zero_add] at k; exact k
theorem id_gens {w : World} {g : Nat} {f : Nat → Bool} {a b : Option Addr} {n c m d : Nat} (h : Arr w g 51 (idC f a n c b m d)) : w.cell? ⟨g, 0, none⟩ = some (.slice a n c) := h.range 0 _ rfl

/-- What idealOf hands back. -/
noncomputable def idPost (G L : List Int) (a : Option Addr) (cap : Nat) (al : Option Addr) (cl : Nat) : Value := if isSgB G && validB L then .tuple #[.agg (idC (elF G) a G.length cap al L.length cl).toArray, .bool true] else .tuple #[.agg (idC (fun _ => false) none 0 0 none 0 0).toArray, .bool false]

set_option maxRecDepth 100000 in
set_option maxHeartbeats 1600000 in
theorem impl_idealOf (G L : List Int) (a : Option Addr) (cap : Nat) (al : Option Addr) (cl : Nat) (w : World) (hr : SlV w a (G.map (Value.int .i64))) (hrl : SlV w al (L.map (Value.int .i64))) (hb : G.length ≤ 1048576) (hbl : L.length ≤ 1048576) :
    Calls Tryz.prog 29 #[.agg #[.slice a G.length cap], .slice al L.length cl] w fun e w' => e = .returned (idPost G L a cap al cl) ∧ Below w.heap.size w w' := by
  obtain ⟨dI, hdI, hrI⟩ := undId
  obtain ⟨U, hU⟩ : ∃ U, U = w.alloc (.cells #[.slice a G.length cap] 26) := ⟨_, rfl⟩
  obtain ⟨V, hV⟩ : ∃ V, V = U.alloc (.cells (idC (fun _ => false) none 0 0 none 0 0).toArray 51) := ⟨_, rfl⟩
  have hbU : Below w.heap.size w U := by rw [hU]; exact box_below _ _
  have hUe : U.heap.size = w.heap.size + 1 := by rw [hU]; simp
  have hcU : U.cell? ⟨w.heap.size, 0, none⟩ = some (.slice a G.length cap) := by rw [hU]; exact box_cell w _
  have hbUV : Below U.heap.size U V := by rw [hV]; exact box_below _ _
  have hbV := hbU.trans (hbUV.mono hbU.size)
  have hAV : Arr V (w.heap.size + 1) 51 (idC (fun _ => false) none 0 0 none 0 0) := by rw [hV, ← hUe]; exact Arr.new _ _ _
  have hVs : w.heap.size + 1 < V.heap.size := hAV.lt
  have HAV := Lib.hid hAV
  have HV : Hid (V = ((w.alloc (.cells #[.slice a G.length cap] 26)).alloc (.cells (idC (fun _ => false) none 0 0 none 0 0).toArray 51))) := Lib.hid (by rw [hV, hU])
  have HKV : Hid (∀ w2, Below V.heap.size V w2 → w2.cell? ⟨w.heap.size, 0, none⟩ = some (.slice a G.length cap)) := Lib.hid fun w2 h => ((h.cell (p := ⟨w.heap.size, 0, none⟩) (show w.heap.size < V.heap.size by omega)).trans (hbUV.cell (p := ⟨w.heap.size, 0, none⟩) (show w.heap.size < U.heap.size by omega))).trans hcU
  have hk0 := HKV.out V (Below.refl _ _)
  clear hU hV hbU hbUV hcU hAV hUe
  have c1 := impl_elementsOf G a cap V (hr.below hbV) hb
  have HT := fun f => Lib.hid (tabB_one f 260)
  unfold ElPost at c1
  have ci := fun W (h : Below V.heap.size V W) => impl_isIdealList L al cl W (hrl.below (hbV.trans (h.mono hbV.size))) hbl
  cases hs : isSgB G
  · have HE : Hid (idPost G L a cap al cl = .tuple #[.agg (idC (fun _ => false) none 0 0 none 0 0).toArray, .bool false]) := Lib.hid (by unfold idPost; rw [hs]; rfl)
    rw [hs] at c1
    clear hs hr hrl ci
    go_enter Tryz.func29, Tryz.ntmps29
    go_wp2_with (first | (refine wpList_alloc_arr 51 (idC (fun _ => false) none 0 0 none 0 0) zeroId rfl rfl ?_; rw [← HV.out]))
    refine c1.mono ?_
    rintro e w1 ⟨rfl, hb1⟩
    have hA := Arr.new w1 49 (tabB (fun _ => false) 260)
    have hbA := hb1.alloc (o := .cells (tabB (fun _ => false) 260).toArray 49) hb1.size
    clear c1 hk0
    go_wp2_with (first | (refine wpList_alloc_arr 49 (tabB (fun _ => false) 260) zeroT rfl rfl ?_) | (refine wpList_store_arr 49 (.tmp 6) (.tmp 11) w1.heap.size (tabB (fun _ => false) 260) (tabB (elF G) 260) rfl rfl rfl rfl hA (by rw [tabB_length, tabB_length]) (sizeTl _) (HT _).out ?_; intro w3 hB hg3 hz3; clear hz3; have hb3 := hbA.grown hg3 hbA.size (fun k hk => by cases hk; exact hb1.size); have hc3 := HKV.out _ hb3; have hA9' := HAV.out.below hb3; clear hg3 hA hbA) | (refine wpList_build_arr 51 _ (idC (fun _ => false) none 0 0 none 0 0) rfl rfl (by simpa [Act.eval] using builtId0) ?_) | (refine wpList_store_arr 51 (.tmp 4) (.tmp 20) (w.heap.size + 1) (idC (fun _ => false) none 0 0 none 0 0) (idC (fun _ => false) none 0 0 none 0 0) rfl rfl rfl rfl hA9' rfl (sizeId _ _ _ _ _ _ _) (idC_one _ _ _ _ _ _ _) ?_; intro w9 hA9 hg9 hz9; clear hz9))
    have hb9 := (hbV.trans (hb3.mono hbV.size)).grown hg9 (hbV.trans (hb3.mono hbV.size)).size (fun k hk => by cases hk; omega)
    exact bodyPost_ret (results_arr_tmp rfl _ _ (w.heap.size + 1) (idC (fun _ => false) none 0 0 none 0 0) dI rfl hA9 hdI hrI (sizeId _ _ _ _ _ _ _)) rfl ⟨by rw [HE.out]; rfl, hb9⟩
  · rw [hs] at c1
    cases hv : validB L
    · have HE : Hid (idPost G L a cap al cl = .tuple #[.agg (idC (fun _ => false) none 0 0 none 0 0).toArray, .bool false]) := Lib.hid (by unfold idPost; rw [hs, hv]; rfl)
      rw [hv] at ci
      clear hs hv hr hrl
      go_enter Tryz.func29, Tryz.ntmps29
      go_wp2_with (first | (refine wpList_alloc_arr 51 (idC (fun _ => false) none 0 0 none 0 0) zeroId rfl rfl ?_; rw [← HV.out]))
      refine c1.mono ?_
      rintro e w1 ⟨rfl, hb1⟩
      have hA := Arr.new w1 49 (tabB (fun _ => false) 260)
      have hbA := hb1.alloc (o := .cells (tabB (fun _ => false) 260).toArray 49) hb1.size
      clear c1 hk0
      go_wp2_with (first | (refine wpList_alloc_arr 49 (tabB (fun _ => false) 260) zeroT rfl rfl ?_) | (refine wpList_store_arr 49 (.tmp 6) (.tmp 11) w1.heap.size (tabB (fun _ => false) 260) (tabB (elF G) 260) rfl rfl rfl rfl hA (by rw [tabB_length, tabB_length]) (sizeTl _) (HT _).out ?_; intro w3 hB hg3 hz3; clear hz3; have hb3 := hbA.grown hg3 hbA.size (fun k hk => by cases hk; exact hb1.size); have hc3 := HKV.out _ hb3; have hA9' := HAV.out.below hb3; clear hg3 hA hbA))
      refine (ci _ hb3).mono ?_
      rintro e w4 ⟨rfl, hww⟩
      rw [hww]
      clear hww ci
      go_wp2_with (first | (refine wpList_build_arr 51 _ (idC (fun _ => false) none 0 0 none 0 0) rfl rfl (by simpa [Act.eval] using builtId0) ?_) | (refine wpList_store_arr 51 (.tmp 4) (.tmp 20) (w.heap.size + 1) (idC (fun _ => false) none 0 0 none 0 0) (idC (fun _ => false) none 0 0 none 0 0) rfl rfl rfl rfl hA9' rfl (sizeId _ _ _ _ _ _ _) (idC_one _ _ _ _ _ _ _) ?_; intro w9 hA9 hg9 hz9; clear hz9))
      have hb9 := (hbV.trans (hb3.mono hbV.size)).grown hg9 (hbV.trans (hb3.mono hbV.size)).size (fun k hk => by cases hk; omega)
      exact bodyPost_ret (results_arr_tmp rfl _ _ (w.heap.size + 1) (idC (fun _ => false) none 0 0 none 0 0) dI rfl hA9 hdI hrI (sizeId _ _ _ _ _ _ _)) rfl ⟨by rw [HE.out]; rfl, hb9⟩
    · have HE : Hid (idPost G L a cap al cl = .tuple #[.agg (idC (elF G) a G.length cap al L.length cl).toArray, .bool true]) := Lib.hid (by unfold idPost; rw [hs, hv]; rfl)
      rw [hv] at ci
      clear hs hv hr hrl
      go_enter Tryz.func29, Tryz.ntmps29
      go_wp2_with (first | (refine wpList_alloc_arr 51 (idC (fun _ => false) none 0 0 none 0 0) zeroId rfl rfl ?_; rw [← HV.out]))
      refine c1.mono ?_
      rintro e w1 ⟨rfl, hb1⟩
      have hA := Arr.new w1 49 (tabB (fun _ => false) 260)
      have hbA := hb1.alloc (o := .cells (tabB (fun _ => false) 260).toArray 49) hb1.size
      clear c1 hk0
      go_wp2_with (first | (refine wpList_alloc_arr 49 (tabB (fun _ => false) 260) zeroT rfl rfl ?_) | (refine wpList_store_arr 49 (.tmp 6) (.tmp 11) w1.heap.size (tabB (fun _ => false) 260) (tabB (elF G) 260) rfl rfl rfl rfl hA (by rw [tabB_length, tabB_length]) (sizeTl _) (HT _).out ?_; intro w3 hB hg3 hz3; clear hz3; have hb3 := hbA.grown hg3 hbA.size (fun k hk => by cases hk; exact hb1.size); have hc3 := HKV.out _ hb3; have hA9' := HAV.out.below hb3; clear hg3 hA hbA))
      refine (ci _ hb3).mono ?_
      rintro e w4 ⟨rfl, hww⟩
      rw [hww]
      clear hww ci
      have hbu := builtId (elF G) a G.length cap al L.length cl
      have hsT := sizeTl (elF G)
      have hsI := sizeId (elF G) a G.length cap al L.length cl
      have hoI := idC_one (elF G) a G.length cap al L.length cl
      have hlI : (idC (fun _ => false) none 0 0 none 0 0).length = (idC (elF G) a G.length cap al L.length cl).length := by simp only [idC_len]
      generalize tabB (elF G) 260 = TB at *
      generalize idC (elF G) a G.length cap al L.length cl = ID at *
      go_wp2_with (first | (refine wpList_load_arr 49 (.tmp 6) w1.heap.size TB (.array 260 4) rfl rfl rfl hB undT rfl hsT ?_) | (refine wpList_build_arr 51 _ ID rfl rfl (by simpa [Act.eval] using hbu) ?_) | (refine wpList_store_arr 51 (.tmp 4) (.tmp 24) (w.heap.size + 1) (idC (fun _ => false) none 0 0 none 0 0) ID rfl rfl rfl rfl hA9' hlI hsI hoI ?_; intro w9 hA9 hg9 hz9; clear hz9))
      have hb9 := (hbV.trans (hb3.mono hbV.size)).grown hg9 (hbV.trans (hb3.mono hbV.size)).size (fun k hk => by cases hk; omega)
      exact bodyPost_ret (results_arr_tmp rfl _ _ (w.heap.size + 1) ID dI rfl hA9 hdI hrI hsI) rfl ⟨by rw [HE.out]; rfl, hb9⟩

set_option maxRecDepth 100000 in
set_option maxHeartbeats 1600000 in
theorem impl_has1 (G : List Int) (hs : isSgB G = true) (f1 f2 : Option Addr) (n1 c1 n2 c2 : Nat) (x y : Int) (p1 p2 : Nat) (w : World) (hx : -2000000 ≤ x ∧ x ≤ 2000000) (hy : -2000000 ≤ y ∧ y ≤ 2000000) (hA : Arr w p1 51 (idC (elF G) f1 n1 c1 f2 n2 c2)) (hc : w.cell? ⟨p2, 0, none⟩ = some (.int .i64 x)) :
    Calls Tryz.prog 62 #[.int .i64 y, .pointer (some ⟨p1, 0, none⟩), .pointer (some ⟨p2, 0, none⟩)] w fun e w' => e = .returned (.bool (hasN G (x - y))) ∧ Below w.heap.size w w' := by
  have c := impl_has (elF G) (x - y) _ w (hasN_way G (x - y) hs)
  have hw : IntKind.i64.wrap (x - y) = x - y := IntWalk.i64_in _ (by omega)
  have hR := id_tab hA
  clear hs hA
  go_enter Tryz.func62, Tryz.ntmps62
  go_wp2_with (first | (refine wpList_load_mid rfl 49 (.tmp 5) rfl p1 1 rfl (tabB (elF G) 260) (.array 260 4) hR undT rfl (sizeTl _) ?_))
  refine c.mono ?_
  rintro e w5 ⟨rfl, hb5⟩
  go_wp2_with fail
  go_ret
  exact ⟨rfl, hb5⟩

set_option maxRecDepth 100000 in
set_option maxHeartbeats 800000 in
theorem index_two (φ : Int → Bool) (K : List Int) (a : Option Addr) (c p1 p2 : Nat) (w : World) (hr : SlV w a (K.map (Value.int .i64))) (hb : K.length ≤ 1048576)
    (hf : ∀ x ∈ K, ∀ W, Below w.heap.size w W → Calls Tryz.prog 62 #[.int .i64 x, .pointer (some ⟨p1, 0, none⟩), .pointer (some ⟨p2, 0, none⟩)] W fun e w' => e = .returned (.bool (φ x)) ∧ Below W.heap.size W w') :
    Calls Tryz.prog 94 #[.slice a K.length c, .func (.func 62) #[] #[.pointer (some ⟨p1, 0, none⟩), .pointer (some ⟨p2, 0, none⟩)]] w fun e w' => ∃ r : Int, e = .returned (.int .i64 r) ∧ -1 ≤ r ∧ r ≤ 1048576 ∧ decide (0 ≤ r) = K.any φ ∧ Below w.heap.size w w' := by
  have HF := Lib.hid hf
  clear hf
  go_enter Tryz.func94, Tryz.ntmps94
  go_wp2_with fail
  go_loopw [8] (fun i wr => ∃ k : Nat, k ≤ K.length ∧ i = .int .i64 (k : Int) ∧ Hid ((K.take k).any φ = false) ∧ Below w.heap.size w wr) (fun i _ => K.length - (intOf i).toNat)
  case atStart => exact ⟨0, Nat.zero_le _, rfl, Lib.hid (by simp), Below.refl _ _⟩
  case round =>
    obtain ⟨k, hk, rfl, HA, hbel⟩ := hrel
    by_cases hlt : k < K.length
    · have hlti : (k : Int) < (K.length : Int) := by omega
      obtain ⟨b, off, rfl, hbs, hc⟩ := (hr.below hbel).open (by intro h; rw [List.map_eq_nil_iff] at h; subst h; simp at hlt)
      have hcell : wr.cell? ⟨b, off + k, none⟩ = some (.int .i64 K[k]) := hc k _ (by simp [hlt])
      have cf := HF.out K[k] (List.getElem_mem hlt) wr hbel
      have HT : Hid ((K.take (k + 1)).any φ = φ K[k]) := Lib.hid (by rw [List.take_add_one, List.getElem?_eq_getElem hlt, Option.toList_some, List.any_append, HA.out]; simp)
      have HY : Hid (φ K[k] = true → K.any φ = true) := Lib.hid fun h => List.any_eq_true.2 ⟨K[k], List.getElem_mem hlt, h⟩
      have hk0 : (0 : Int) ≤ (k : Int) := by omega
      clear hc
      generalize K[k] = x at *
      generalize φ x = q at *
      go_wp2_with fail
      refine cf.mono ?_
      rintro e w1 ⟨rfl, hb1⟩
      have hbel1 := hbel.trans (hb1.mono hbel.size)
      clear cf hcell hb1
      cases q
      · clear HY
        go_wp2_with fail
        go_roundw
        case rel => exact ⟨k + 1, by omega, by go_num, HT, hbel1⟩
        case measure => simp [intOf]; omega
      · have HR := Lib.hid (HY.out rfl)
        clear HY HT
        go_wp2_with fail
        go_ret
        exact ⟨(k : Int), rfl, by omega, by omega, by rw [HR.out]; exact decide_eq_true hk0, hbel1⟩
    · have hke : k = K.length := by omega
      rw [hke, List.take_of_length_le (Nat.le_refl _)] at HA
      clear hke
      go_wp2_with fail
      go_ret
      exact ⟨-1, rfl, by omega, by omega, by rw [HA.out]; rfl, hbel⟩

set_option maxRecDepth 100000 in
set_option maxHeartbeats 400000 in
theorem contains_two (φ : Int → Bool) (K : List Int) (a : Option Addr) (c p1 p2 : Nat) (w : World) (hr : SlV w a (K.map (Value.int .i64))) (hb : K.length ≤ 1048576)
    (hf : ∀ x ∈ K, ∀ W, Below w.heap.size w W → Calls Tryz.prog 62 #[.int .i64 x, .pointer (some ⟨p1, 0, none⟩), .pointer (some ⟨p2, 0, none⟩)] W fun e w' => e = .returned (.bool (φ x)) ∧ Below W.heap.size W w') :
    Calls Tryz.prog 61 #[.slice a K.length c, .func (.func 62) #[] #[.pointer (some ⟨p1, 0, none⟩), .pointer (some ⟨p2, 0, none⟩)]] w fun e w' => e = .returned (.bool (K.any φ)) ∧ Below w.heap.size w w' := by
  have c1 := index_two φ K a c p1 p2 w hr hb hf
  clear hr hf
  generalize K.any φ = q at *
  go_enter Tryz.func61, Tryz.ntmps61
  go_wp2_with fail
  refine c1.mono ?_
  rintro e w1 ⟨r, rfl, h1, h2, hq, hb1⟩
  by_cases h0 : 0 ≤ r
  · rw [decide_eq_true h0] at hq
    have hd := decide_eq_true h0
    subst hq
    go_wp2_with fail
    go_ret
    exact ⟨rfl, hb1⟩
  · rw [decide_eq_false h0] at hq
    have hd := decide_eq_false h0
    subst hq
    go_wp2_with fail
    go_ret
    exact ⟨rfl, hb1⟩

set_option maxRecDepth 100000 in
set_option maxHeartbeats 1600000 in
theorem impl_idHas (G L : List Int) (hs : isSgB G = true) (x : Int) (hx : -2000000 ≤ x ∧ x ≤ 2000000) (hL : ∀ y ∈ L, -2000000 ≤ y ∧ y ≤ 2000000) (a : Option Addr) (cap : Nat) (al : Option Addr) (cl : Nat) (w : World) (hrl : SlV w al (L.map (Value.int .i64))) (hbl : L.length ≤ 1048576) :
    Calls Tryz.prog 31 #[.agg (idC (elF G) a G.length cap al L.length cl).toArray, .int .i64 x] w fun e w' => e = .returned (.bool (L.any fun y => hasN G (x - y))) ∧ Below w.heap.size w w' := by
  obtain ⟨V, hV⟩ : ∃ V, V = ((w.alloc (.cells (idC (elF G) a G.length cap al L.length cl).toArray 51)).alloc (.cells #[.int .i64 x] 3)) := ⟨_, rfl⟩
  have hbV : Below w.heap.size w V := by rw [hV]; exact (box_below _ _).alloc (by simp) _
  have hAV : Arr V w.heap.size 51 (idC (elF G) a G.length cap al L.length cl) := by rw [hV]; exact (Arr.new _ _ _).alloc _
  have hcx : V.cell? ⟨w.heap.size + 1, 0, none⟩ = some (.int .i64 x) := by rw [hV]; have := (Arr.new (w.alloc (.cells (idC (elF G) a G.length cap al L.length cl).toArray 51)) 3 [.int .i64 x]).cell 0; rw [show (w.alloc (.cells (idC (elF G) a G.length cap al L.length cl).toArray 51)).heap.size = w.heap.size + 1 by simp] at this; exact this
  have hcl := id_list hAV
  have hlt : w.heap.size + 1 < V.heap.size := by rw [hV]; simp
  have c := contains_two (fun y => hasN G (x - y)) L al cl w.heap.size (w.heap.size + 1) V (hrl.below hbV) hbl (fun y hy W h => impl_has1 G hs a al G.length cap L.length cl x y _ _ W hx (hL y hy) (hAV.below h) ((h.cell (p := ⟨w.heap.size + 1, 0, none⟩) hlt).trans hcx))
  have HV := Lib.hid hV
  clear hV hs hrl hAV hcx
  generalize (L.any fun y => hasN G (x - y)) = q at *
  go_enter Tryz.func31, Tryz.ntmps31
  go_wp2_with (first | (refine wpList_box_arr 51 (.tmp 0) (idC (elF G) a G.length cap al L.length cl) rfl rfl rfl ?_) | (refine wpList_box_int 3 (.tmp 1) x rfl rfl rfl ?_; rw [← HV.out]))
  refine c.mono ?_
  rintro e w1 ⟨rfl, hb1⟩
  go_wp2_with fail
  go_ret
  exact ⟨rfl, hbV.trans (hb1.mono hbV.size)⟩

set_option maxRecDepth 100000 in
set_option maxHeartbeats 1600000 in
theorem impl_InIdeal (G L : List Int) (x : Int) (a : Option Addr) (cap : Nat) (al : Option Addr) (cl : Nat) (w : World) (hr : SlV w a (G.map (Value.int .i64))) (hrl : SlV w al (L.map (Value.int .i64))) (hb : G.length ≤ 1048576) (hbl : L.length ≤ 1048576) :
    Calls Tryz.prog 6 #[.agg #[.slice a G.length cap], .slice al L.length cl, .int .i64 x] w fun e w' => e = .returned (.bool (inIdB G L x)) ∧ Below w.heap.size w w' := by
  obtain ⟨dI, hdI, hrI⟩ := undId
  obtain ⟨V, hV⟩ : ∃ V, V = w.alloc (.cells #[.slice a G.length cap] 26) := ⟨_, rfl⟩
  have hbV : Below w.heap.size w V := by rw [hV]; exact box_below _ _
  have hc0 : V.cell? ⟨w.heap.size, 0, none⟩ = some (.slice a G.length cap) := by rw [hV]; exact box_cell w _
  have hVs : w.heap.size < V.heap.size := by rw [hV]; simp
  have HV := Lib.hid hV
  have HKV : Hid (∀ w2, Below V.heap.size V w2 → w2.cell? ⟨w.heap.size, 0, none⟩ = some (.slice a G.length cap)) := Lib.hid fun w2 h => (h.cell (p := ⟨w.heap.size, 0, none⟩) hVs).trans hc0
  clear hV
  have c1 := impl_idealOf G L a cap al cl V (hr.below hbV) (hrl.below hbV) hb hbl
  cases hq : isSgB G && validB L
  · have HE : Hid (inIdB G L x = false) := Lib.hid (by unfold inIdB; rw [hq]; rfl)
    unfold idPost at c1
    rw [hq, if_neg Bool.false_ne_true] at c1
    clear hq hr hrl
    go_enter Tryz.func6, Tryz.ntmps6
    go_wp2_with fail
    rw [← HV.out]
    refine c1.mono ?_
    rintro e w1 ⟨rfl, hb1⟩
    have hA := Arr.new w1 51 (idC (fun _ => false) none 0 0 none 0 0)
    have hbA := hb1.alloc (o := .cells (idC (fun _ => false) none 0 0 none 0 0).toArray 51) hb1.size
    clear c1 hc0
    go_wp2_with (first | (refine wpList_alloc_arr 51 (idC (fun _ => false) none 0 0 none 0 0) zeroId rfl rfl ?_) | (refine wpList_store_arr 51 (.tmp 7) (.tmp 13) w1.heap.size (idC (fun _ => false) none 0 0 none 0 0) (idC (fun _ => false) none 0 0 none 0 0) rfl rfl rfl rfl hA (by simp only [idC_len]) (sizeId _ _ _ _ _ _ _) (idC_one _ _ _ _ _ _ _) ?_; intro w3 hB hg3 hz3; clear hz3; have hb3 := hbA.grown hg3 hbA.size (fun k hk => by cases hk; exact hb1.size); clear hg3 hA hbA))
    go_ret
    exact ⟨by rw [HE.out]; rfl, hbV.trans (hb3.mono hbV.size)⟩
  · have HQ := Lib.hid hq
    unfold idPost at c1
    rw [hq, if_pos (by rfl)] at c1
    have cw := fun w => impl_isWithinMax x w
    obtain ⟨hs, hv⟩ := Bool.and_eq_true_iff.1 hq
    cases hx : small x
    · have HE : Hid (inIdB G L x = false) := Lib.hid (by unfold inIdB; rw [hq, hx]; rfl)
      rw [hx] at cw
      clear hq hs hv hx hr hrl
      go_enter Tryz.func6, Tryz.ntmps6
      go_wp2_with fail
      rw [← HV.out]
      refine c1.mono ?_
      rintro e w1 ⟨rfl, hb1⟩
      have hA := Arr.new w1 51 (idC (fun _ => false) none 0 0 none 0 0)
      have hbA := hb1.alloc (o := .cells (idC (fun _ => false) none 0 0 none 0 0).toArray 51) hb1.size
      clear c1 hc0
      go_wp2_with (first | (refine wpList_alloc_arr 51 (idC (fun _ => false) none 0 0 none 0 0) zeroId rfl rfl ?_) | (refine wpList_store_arr 51 (.tmp 7) (.tmp 13) w1.heap.size (idC (fun _ => false) none 0 0 none 0 0) (idC (elF G) a G.length cap al L.length cl) rfl rfl rfl rfl hA (by simp only [idC_len]) (sizeId _ _ _ _ _ _ _) (idC_one _ _ _ _ _ _ _) ?_; intro w3 hB hg3 hz3; clear hz3; have hb3 := hbA.grown hg3 hbA.size (fun k hk => by cases hk; exact hb1.size); clear hg3 hA hbA))
      refine (cw _).mono ?_
      rintro e w4 ⟨rfl, hww⟩
      rw [hww]
      clear hww cw
      go_wp2_with fail
      go_ret
      exact ⟨by rw [HE.out]; rfl, hbV.trans (hb3.mono hbV.size)⟩
    · have HE : Hid (inIdB G L x = L.any fun y => hasN G (x - y)) := Lib.hid (by unfold inIdB; rw [hq, hx]; rfl)
      rw [hx] at cw
      have hxb := small_iff.1 hx
      have hvb := validB_iff.1 hv
      have ch := fun W (h : Below V.heap.size V W) => impl_idHas G L hs x (by omega) (fun y hy => by have := hvb.1 y hy; omega) a cap al cl W (hrl.below (hbV.trans (h.mono hbV.size))) hbl
      clear hq hs hv hx hr hrl hvb HQ
      generalize (L.any fun y => hasN G (x - y)) = q at *
      go_enter Tryz.func6, Tryz.ntmps6
      go_wp2_with fail
      rw [← HV.out]
      refine c1.mono ?_
      rintro e w1 ⟨rfl, hb1⟩
      have hA := Arr.new w1 51 (idC (fun _ => false) none 0 0 none 0 0)
      have hbA := hb1.alloc (o := .cells (idC (fun _ => false) none 0 0 none 0 0).toArray 51) hb1.size
      clear c1 hc0
      go_wp2_with (first | (refine wpList_alloc_arr 51 (idC (fun _ => false) none 0 0 none 0 0) zeroId rfl rfl ?_) | (refine wpList_store_arr 51 (.tmp 7) (.tmp 13) w1.heap.size (idC (fun _ => false) none 0 0 none 0 0) (idC (elF G) a G.length cap al L.length cl) rfl rfl rfl rfl hA (by simp only [idC_len]) (sizeId _ _ _ _ _ _ _) (idC_one _ _ _ _ _ _ _) ?_; intro w3 hB hg3 hz3; clear hz3; have hb3 := hbA.grown hg3 hbA.size (fun k hk => by cases hk; exact hb1.size); clear hg3 hA hbA))
      refine (cw _).mono ?_
      rintro e w4 ⟨rfl, hww⟩
      rw [hww]
      clear hww cw
      go_wp2_with fail
      refine wp_load_mid 51 (.tmp 7) rfl w1.heap.size 0 rfl (idC (elF G) a G.length cap al L.length cl) dI hB.range hdI hrI (sizeId _ _ _ _ _ _ _) ?_
      go_wp2_with fail
      refine (ch _ hb3).mono ?_
      rintro e w5 ⟨rfl, hb5⟩
      have hb35 := hb3.trans (hb5.mono hb3.size)
      go_wp2_with fail
      go_ret
      exact ⟨by rw [HE.out]; rfl, hbV.trans (hb35.mono hbV.size)⟩
end Go.Proofs.YtopnehkhigacpaaGreat
