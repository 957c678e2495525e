/-
  CONTRACTS of the program's chapter 9, first part: kindOf, IsSymmetric, IsPseudoSymmetric, IsIrreducible, hasSums. (Own work.)
-/
import Derived.Test.YtglonnfagnlmjaaL28
import Derived.Test.YtglonnfagnlmjaaCh4I
namespace Go.Proofs.Ytglonnfagnlmjaa
open Go Go.RowKit
attribute [local go_sem] Oper.semAt_some

/-- A load of a whole array in a region that draws its order. -/
theorem held_take_arr {P : Program} {ops : Array Oper} {Q : Exit → Act → World → Prop} {md : Region.Mode} {S : World → Prop} (i : Nat) (oi : Oper) (t : TypeId) (x : Operand) (g : Nat) (cs : List Value) (d : TypeDesc) {fuel : Nat} {listed : Array Bool} {a : Act} {w : World}
    (hu : P.underlying t = some d) (hd : d.isRow = true) (hz : (P.info? t).map (·.size) = some cs.length) (hA : ∀ w, S w → Arr w g t cs) (hi : ops[i]? = some oi)
    (hs : Region.noSelect ops = true) (hf : Region.free md ops listed i = true) (hr : (Region.ready md ops listed).contains i = true)
    (hQ : ∀ c a w, Q (.panic c) (a.put oi.dst (.agg cs.toArray)) w → Q (.panic c) a w) (hw : Region.wanted oi (yielded ops a.tmps) = true) (ho : oi.op = .load t x) (hx : a.eval x = .pointer (some ⟨g, 0, none⟩)) (hS : S w)
    (h : wpAnyH P md ops Q S fuel (listed.setIfInBounds i true) (a.put oi.dst (.agg cs.toArray)) w) : wpAnyH P md ops Q S (fuel + 1) listed a w :=
  wpAnyH_take hi hs hf hr hQ (yieldsIf_load_mid hw t x ho g 0 hx cs d (fun w h => (hA w h).range) hu hd hz) hS h

/-- The kind of symmetry: 0 for what is no semigroup, 1 neither, 2 symmetric, 3 pseudo-symmetric. -/
noncomputable def kindN (G : List Int) : Int := if isSgB G then (if symB G then 2 else if psymB G then 3 else 1) else 0
theorem kindN_no {G : List Int} (h : isSgB G = false) : kindN G = 0 := by unfold kindN; rw [h]; rfl
theorem sym_psym {G : List Int} (h : symB G = true) : psymB G = false := by
  cases hs : isSgB G
  · rw [symB_no hs] at h; cases h
  · cases hp : psymB G
    · rfl
    · have h1 := (sym_genus hs).1 h
      have h2 := ((psym_genus hs).1 hp).2
      omega
theorem kind_spec (G : List Int) : (kindN G = 0 ∧ symB G = false ∧ psymB G = false) ∨ (kindN G = 1 ∧ symB G = false ∧ psymB G = false) ∨ (kindN G = 2 ∧ symB G = true ∧ psymB G = false) ∨ (kindN G = 3 ∧ symB G = false ∧ psymB G = true) := by
  cases hs : isSgB G
  · exact .inl ⟨kindN_no hs, symB_no hs, psymB_no hs⟩
  · right
    unfold kindN
    rw [hs, if_pos rfl]
    cases h : symB G
    · cases hp : psymB G
      · exact .inl ⟨rfl, rfl, rfl⟩
      · exact .inr (.inr ⟨rfl, rfl, rfl⟩)
    · exact .inr (.inl ⟨rfl, rfl, sym_psym h⟩)
theorem mir_fail {G : List Int} (mid : Bool) {x : Nat} (hx : 2 * x + 1 < condNat G) (h : sumB G x = sumB G (condNat G - 1 - x)) : mirB G mid = false :=
  mirB_no (x := x) (by omega) (by unfold mirAt; rw [h, decide_eq_false (by omega)]; simp)
theorem mir_half {G : List Int} (mid : Bool) (h : ∀ x, 2 * x + 1 < condNat G → sumB G x ≠ sumB G (condNat G - 1 - x)) (hm : mid = true ∨ condNat G % 2 = 0) : mirB G mid = true :=
  mirB_yes fun x hx => by
    unfold mirAt
    rcases Nat.lt_trichotomy (2 * x + 1) (condNat G) with h1 | h1 | h1
    · have := h x h1
      rw [Bool.or_eq_true]; right; simpa using this
    · rcases hm with rfl | hm
      · rw [decide_eq_true h1]; rfl
      · omega
    · have := h (condNat G - 1 - x) (by omega)
      rw [show condNat G - 1 - (condNat G - 1 - x) = x by omega] at this
      rw [Bool.or_eq_true]; right; simpa using this.symm
theorem cond_one (G : List Int) : condNat G ≠ 1 := fun h => by
  have h0 : sumB G (condNat G - 1) = false := end_gap (by omega)
  rw [h] at h0
  have : sumB G 0 = true := sumB_iff.2 .zero
  rw [this] at h0; cases h0
theorem kindN_red {G : List Int} {x : Nat} (hs : isSgB G = true) (hx : 2 * x + 1 < condNat G) (h : sumB G x = sumB G (condNat G - 1 - x)) : kindN G = 1 := by
  unfold kindN symB psymB
  rw [hs, mir_fail false hx h, mir_fail true hx h]
  simp
theorem kindN_fine {G : List Int} (hs : isSgB G = true) (h : ∀ x, 2 * x + 1 < condNat G → sumB G x ≠ sumB G (condNat G - 1 - x)) : kindN G = if condNat G % 2 = 1 then 3 else 2 := by
  have hf := frob_cond hs
  have h1 := cond_one G
  by_cases ho : condNat G % 2 = 1
  · rw [if_pos ho]
    have hsy : symB G = false := by
      unfold symB
      rw [hs, Bool.true_and]
      refine mirB_no (x := (condNat G - 1) / 2) (by omega) ?_
      unfold mirAt
      rw [show condNat G - 1 - (condNat G - 1) / 2 = (condNat G - 1) / 2 by omega]
      simp
    have hps : psymB G = true := by
      unfold psymB
      rw [hs, mir_half true h (.inl rfl), decide_eq_true (show 0 < frobN G by omega), decide_eq_true (show frobN G % 2 = 0 by omega)]
      rfl
    unfold kindN
    rw [hs, hsy, hps]; rfl
  · rw [if_neg ho]
    have hsy : symB G = true := by
      unfold symB
      rw [hs, mir_half false h (.inr (by omega))]; rfl
    unfold kindN
    rw [hs, hsy]; rfl

set_option maxRecDepth 100000 in
set_option maxHeartbeats 3200000 in
theorem impl_kindOf (G : List Int) (a : Option Addr) (cap : Nat) (w : World) (hr : SlV w a (G.map (Value.int .i64))) (hb : G.length ≤ 1048576) :
    Calls Try.prog 43 #[.agg #[.slice a G.length cap]] w fun e w' => e = .returned (.int .i64 (kindN G)) ∧ Below w.heap.size w w' := by
  have hb0 := box_below w (.cells #[.slice a G.length cap] 26)
  have hc0 := box_cell w (.slice a G.length cap)
  have c1 := impl_elementsOf G a cap _ (hr.below hb0) hb
  have HT := fun f => Lib.hid (tabB_one f 260)
  cases hs : isSgB G
  · have HR := Lib.hid (kindN_no hs)
    unfold ElPost at c1
    rw [hs] at c1
    clear hs
    go_enter Try.func43, Try.ntmps43
    go_wp2_with fail
    refine c1.mono ?_
    rintro e w1 ⟨rfl, hb1⟩
    have hbz := hb0.trans (hb1.mono hb0.size)
    have hA := Arr.new w1 44 (tabB (fun _ => false) 260)
    have hbz2 := hbz.alloc (o := .cells (tabB (fun _ => false) 260).toArray 44) hbz.size
    have hzw := hb1.size
    rw [World.size_alloc] at hzw
    clear c1 hc0 hb1 hb0
    go_wp2_with (first
      | (refine wpList_alloc_arr 44 (tabB (fun _ => false) 260) zeroT rfl rfl ?_)
      | (refine wpList_store_arr 44 (.tmp 3) (.tmp 10) w1.heap.size (tabB (fun _ => false) 260) (tabB (elF G) 260) rfl rfl rfl rfl hA (by rw [tabB_length, tabB_length]) (sizeTl _) (HT _).out ?_; intro w3 hB hg3 hz3))
    have hb3 := hbz2.grown hg3 hbz2.size (fun k hk => by cases hk; exact hbz.size)
    go_ret
    exact ⟨by rw [HR.out]; rfl, hb3⟩
  · have c2 : ∀ W, Below w.heap.size w W → Calls Try.prog 65 #[.agg #[.slice a G.length cap]] W fun e w' => e = .returned (.int .i64 ((condNat G : Int) - 1)) ∧ Below W.heap.size W w' := fun W h => by
      have h := impl_FrobeniusOf G a cap W (hr.below h) hb
      rw [show frobN G = (condNat G : Int) - 1 by have := frob_cond hs; omega] at h
      exact h
    have hC := condNat_le G
    have ch : ∀ (k : Nat) W, k < 200 → Calls Try.prog 64 #[.agg (tabB (elF G) 260).toArray, .int .i64 (k : Int)] W fun e w' => e = .returned (.bool (sumB G k)) ∧ Below W.heap.size W w' := fun k W hk =>
      impl_has (elF G) (k : Int) (sumB G k) W (by rw [if_neg (by omega), if_pos (by omega), Int.toNat_natCast, elF_at hs])
    have HK1 := Lib.hid (fun x => kindN_red (x := x) hs)
    have HK2 := Lib.hid (kindN_fine hs)
    clear hr
    generalize condNat G = C at *
    generalize hsum : sumB G = p at *
    clear hsum
    unfold ElPost at c1
    rw [hs] at c1
    clear hs
    go_enter Try.func43, Try.ntmps43
    go_wp2_with fail
    refine c1.mono ?_
    rintro e w1 ⟨rfl, hb1⟩
    have hbz := hb0.trans (hb1.mono hb0.size)
    have hA := Arr.new w1 44 (tabB (fun _ => false) 260)
    have hbz2 := hbz.alloc (o := .cells (tabB (fun _ => false) 260).toArray 44) hbz.size
    have hzw := hb1.size
    rw [World.size_alloc] at hzw
    have hc1 : (w1.alloc (.cells (tabB (fun _ => false) 260).toArray 44)).cell? ⟨w.heap.size, 0, none⟩ = some (.slice a G.length cap) := ((box_below w1 _).cell (p := ⟨w.heap.size, 0, none⟩) (by show w.heap.size < w1.heap.size; omega)).trans ((hb1.cell (p := ⟨w.heap.size, 0, none⟩) (by simp)).trans hc0)
    clear c1 hc0 hb1 hb0
    go_wp2_with (first
      | (refine wpList_alloc_arr 44 (tabB (fun _ => false) 260) zeroT rfl rfl ?_)
      | (refine wpList_store_arr 44 (.tmp 3) (.tmp 10) w1.heap.size (tabB (fun _ => false) 260) (tabB (elF G) 260) rfl rfl rfl rfl hA (by rw [tabB_length, tabB_length]) (sizeTl _) (HT _).out ?_; intro w3 hB hg3 hz3; have hc3 := hg3.cell hc1 (by simp; omega)))
    have hb3 := hbz2.grown hg3 hbz2.size (fun k hk => by cases hk; exact hbz.size)
    refine (c2 _ hb3).mono ?_
    rintro e w4 ⟨rfl, hb4⟩
    have hB4 := hB.below hb4
    have hbz4 := hb3.trans (hb4.mono hb3.size)
    clear c2 hc3 hc1 hB hg3 hz3 hA hbz2 hb3 hb4
    go_wp2_with fail
    go_loopw [6] (fun i wr => ∃ x : Nat, x ≤ 200 ∧ i = .int .i64 (x : Int) ∧ Hid (∀ y, y < x → 2 * y + 1 < C → p y ≠ p (C - 1 - y)) ∧ Arr wr w1.heap.size 44 (tabB (elF G) 260) ∧ Below w.heap.size w wr) (fun i _ => 200 - (intOf i).toNat)
    case atStart => exact ⟨0, by omega, rfl, Lib.hid (fun y h => by omega), hB4, hbz4⟩
    case round =>
      clear hB4 hbz4
      obtain ⟨x, hx, rfl, HP, hB, hbel⟩ := hrel
      by_cases hlt : 2 * x + 1 < C
      · have hlti : (x : Int) < (C : Int) - 1 - (x : Int) := by omega
        have c5 := fun W => ch x W (by omega)
        have c6 := fun W => ch (C - 1 - x) W (by omega)
        rw [show ((C - 1 - x : Nat) : Int) = (C : Int) - 1 - (x : Int) by omega] at c6
        have HE : Hid (p x = p (C - 1 - x) → kindN G = 1) := Lib.hid fun h => HK1.out x hlt h
        have HN : Hid (p x ≠ p (C - 1 - x) → ∀ y, y < x + 1 → 2 * y + 1 < C → p y ≠ p (C - 1 - y)) := Lib.hid fun h y hy h2 => by
          rcases Nat.lt_or_ge y x with h' | h'
          · exact HP.out y h' h2
          · obtain rfl : y = x := (by omega)
            exact h
        generalize p x = q1 at *
        generalize p (C - 1 - x) = q2 at *
        have hS0 : Arr wr.drew w1.heap.size 44 (tabB (elF G) 260) ∧ Below wr.heap.size wr wr.drew := ⟨hB, (Below.refl _ _).drew⟩
        go_wp2_with fail
        refine wp_region_held_drew (S := fun w' => Arr w' w1.heap.size 44 (tabB (elF G) 260) ∧ Below wr.heap.size wr w') (by kernel_rfl) hS0 (fun hHeld => ?_)
        refine held_take_arr 0 _ 44 (.tmp 3) w1.heap.size (tabB (elF G) 260) (.array 260 4) undT rfl (sizeTl _) (fun _ h => h.1) rfl (by kernel_rfl) (by kernel_rfl) (by kernel_rfl) (fun _ _ _ h => h) (by rfl) rfl rfl hHeld ?_
        (try simp only [Act.put, List.setIfInBounds_toArray, List.set_cons_zero, List.set_cons_succ, List.getElem_toArray, List.getElem_cons_zero])
        refine held_take 1 _ _ rfl (by kernel_rfl) (by kernel_rfl) (by kernel_rfl) (fun _ _ _ h => h) (by rfl) hHeld (fun w hSw => by (try dsimp only at hSw); go_simp; try with_reducible rfl) ?_
        (try simp only [Act.put, List.setIfInBounds_toArray, List.set_cons_zero, List.set_cons_succ, List.getElem_toArray, List.getElem_cons_succ, List.getElem_cons_zero])
        refine held_take_arr 3 _ 44 (.tmp 3) w1.heap.size (tabB (elF G) 260) (.array 260 4) undT rfl (sizeTl _) (fun _ h => h.1) rfl (by kernel_rfl) (by kernel_rfl) (by kernel_rfl) (fun _ _ _ h => h) (by rfl) rfl rfl hHeld ?_
        (try simp only [Act.put, List.setIfInBounds_toArray, List.set_cons_zero, List.set_cons_succ, List.getElem_toArray, List.getElem_cons_succ, List.getElem_cons_zero])
        refine held_take 4 _ _ rfl (by kernel_rfl) (by kernel_rfl) (by kernel_rfl) (fun _ _ _ h => h) (by rfl) hHeld (fun w hSw => by (try dsimp only at hSw); go_simp; try with_reducible rfl) ?_
        (try simp only [Act.put, List.setIfInBounds_toArray, List.set_cons_zero, List.set_cons_succ, List.getElem_toArray, List.getElem_cons_succ, List.getElem_cons_zero])
        refine held_take 5 _ _ rfl (by kernel_rfl) (by kernel_rfl) (by kernel_rfl) (fun _ _ _ h => h) (by rfl) hHeld (fun w hSw => by (try dsimp only at hSw); go_simp; try with_reducible rfl) ?_
        (try simp only [Act.put, List.setIfInBounds_toArray, List.set_cons_zero, List.set_cons_succ, List.getElem_toArray, List.getElem_cons_succ, List.getElem_cons_zero])
        refine held_take 6 _ _ rfl (by kernel_rfl) (by kernel_rfl) (by kernel_rfl) (fun _ _ _ h => h) (by rfl) hHeld (fun w hSw => by (try dsimp only at hSw); go_simp; try with_reducible rfl) ?_
        (try simp only [Act.put, List.setIfInBounds_toArray, List.set_cons_zero, List.set_cons_succ, List.getElem_toArray, List.getElem_cons_succ, List.getElem_cons_zero])
        refine wpAnyH_ready (rs := [2]) (by kernel_rfl) (by simp) ?_
        refine AllReadyH.cons rfl (fun K hK => ?_) AllReadyH.nil
        rw [if_pos (by rfl)]
        go_wp2_with (first | (go_at_call 64; (with_reducible refine (c5 _).mono ?_); rintro e wk ⟨rfl, hbk⟩))
        refine hK.out _ _ (⟨(hHeld.1).below hbk, (hHeld.2).trans (hbk.mono (hHeld.2).size)⟩) (fun hHeld1 => ?_)
        clear hK K
        (try simp only [Act.put, List.setIfInBounds_toArray, List.set_cons_zero, List.set_cons_succ, List.getElem_toArray, List.getElem_cons_succ, List.getElem_cons_zero])
        refine wpAnyH_ready (rs := [7]) (by kernel_rfl) (by simp) ?_
        refine AllReadyH.cons rfl (fun K hK => ?_) AllReadyH.nil
        rw [if_pos (by rfl)]
        go_wp2_with (first | (go_at_call 64; (with_reducible refine (c6 _).mono ?_); rintro e wk ⟨rfl, hbk⟩))
        refine hK.out _ _ (⟨(hHeld1.1).below hbk, (hHeld1.2).trans (hbk.mono (hHeld1.2).size)⟩) (fun hHeld2 => ?_)
        clear hK K
        (try simp only [Act.put, List.setIfInBounds_toArray, List.set_cons_zero, List.set_cons_succ, List.getElem_toArray, List.getElem_cons_succ, List.getElem_cons_zero])
        refine held_take 8 _ _ rfl (by kernel_rfl) (by kernel_rfl) (by kernel_rfl) (fun _ _ _ h => h) (by rfl) hHeld2 (fun w hSw => by (try dsimp only at hSw); go_simp; try with_reducible rfl) ?_
        (try simp only [Act.put, List.setIfInBounds_toArray, List.set_cons_zero, List.set_cons_succ, List.getElem_toArray, List.getElem_cons_succ, List.getElem_cons_zero])
        refine wpAnyH_done (by kernel_rfl) ?_ _
        have hB2 := hHeld2.1
        have hbel2 := hbel.trans ((hHeld2.2).mono hbel.size)
        clear hS0 hHeld2 c5 c6 hB hbel HP
        cases q1 <;> cases q2
        · have HR := Lib.hid (HE.out rfl)
          clear HE HN
          go_wp2_with fail
          go_ret
          exact ⟨by rw [HR.out]; rfl, hbel2⟩
        · have HP2 := Lib.hid (HN.out (by decide))
          clear HE HN
          go_wp2_with fail
          go_roundw
          case rel => exact ⟨x + 1, by omega, by go_num, HP2.out, hB2, hbel2⟩
          case measure => simp [intOf]; omega
        · have HP2 := Lib.hid (HN.out (by decide))
          clear HE HN
          go_wp2_with fail
          go_roundw
          case rel => exact ⟨x + 1, by omega, by go_num, HP2.out, hB2, hbel2⟩
          case measure => simp [intOf]; omega
        · have HR := Lib.hid (HE.out rfl)
          clear HE HN
          go_wp2_with fail
          go_ret
          exact ⟨by rw [HR.out]; rfl, hbel2⟩
      · have hlti : ¬ (x : Int) < (C : Int) - 1 - (x : Int) := by omega
        have HF := Lib.hid (HK2.out (fun y h => HP.out y (by omega) h))
        clear HP HK1 HK2
        by_cases hodd : C % 2 = 1
        · rw [if_pos hodd] at HF
          have hm1 : (((C : Int) - 1) % 2 == 0) = true := by rw [beq_iff_eq]; omega
          have hm2 : (((C : Int) - 1).tmod 2 == 0) = true := by rw [beq_iff_eq, Int.tmod_eq_emod_of_nonneg (by omega)]; omega
          go_wp2_with fail
          go_ret
          exact ⟨by rw [HF.out]; rfl, hbel⟩
        · rw [if_neg hodd] at HF
          have hm2 : (((C : Int) - 1).tmod 2 == 0) = false := by
            rw [beq_eq_false_iff_ne]
            by_cases h0 : C = 0
            · subst h0; decide
            · rw [Int.tmod_eq_emod_of_nonneg (by omega)]; omega
          have hm1 : (((C : Int) - 1) % 2 == 0) = false := by rw [beq_eq_false_iff_ne]; omega
          go_wp2_with fail
          go_ret
          exact ⟨by rw [HF.out]; rfl, hbel⟩

set_option maxRecDepth 100000 in
set_option maxHeartbeats 1600000 in
theorem impl_IsSymmetric (G : List Int) (a : Option Addr) (cap : Nat) (w : World) (hr : SlV w a (G.map (Value.int .i64))) (hb : G.length ≤ 1048576) :
    Calls Try.prog 15 #[.agg #[.slice a G.length cap]] w fun e w' => e = .returned (.bool (symB G)) ∧ Below w.heap.size w w' := by
  have hb0 := box_below w (.cells #[.slice a G.length cap] 26)
  have hc0 := box_cell w (.slice a G.length cap)
  have c1 := impl_kindOf G a cap _ (hr.below hb0) hb
  clear hr
  rcases kind_spec G with ⟨hk, h1, h2⟩ | ⟨hk, h1, h2⟩ | ⟨hk, h1, h2⟩ | ⟨hk, h1, h2⟩
  · rw [hk] at c1
    have HR := Lib.hid h1
    clear hk h1 h2
    go_enter Try.func15, Try.ntmps15
    go_wp2_with fail
    refine c1.mono ?_
    rintro e w1 ⟨rfl, hb1⟩
    go_wp2_with fail
    go_ret
    exact ⟨by rw [HR.out]; rfl, hb0.trans (hb1.mono hb0.size)⟩
  · rw [hk] at c1
    have HR := Lib.hid h1
    clear hk h1 h2
    go_enter Try.func15, Try.ntmps15
    go_wp2_with fail
    refine c1.mono ?_
    rintro e w1 ⟨rfl, hb1⟩
    go_wp2_with fail
    go_ret
    exact ⟨by rw [HR.out]; rfl, hb0.trans (hb1.mono hb0.size)⟩
  · rw [hk] at c1
    have HR := Lib.hid h1
    clear hk h1 h2
    go_enter Try.func15, Try.ntmps15
    go_wp2_with fail
    refine c1.mono ?_
    rintro e w1 ⟨rfl, hb1⟩
    go_wp2_with fail
    go_ret
    exact ⟨by rw [HR.out]; rfl, hb0.trans (hb1.mono hb0.size)⟩
  · rw [hk] at c1
    have HR := Lib.hid h1
    clear hk h1 h2
    go_enter Try.func15, Try.ntmps15
    go_wp2_with fail
    refine c1.mono ?_
    rintro e w1 ⟨rfl, hb1⟩
    go_wp2_with fail
    go_ret
    exact ⟨by rw [HR.out]; rfl, hb0.trans (hb1.mono hb0.size)⟩

set_option maxRecDepth 100000 in
set_option maxHeartbeats 1600000 in
theorem impl_IsPseudoSymmetric (G : List Int) (a : Option Addr) (cap : Nat) (w : World) (hr : SlV w a (G.map (Value.int .i64))) (hb : G.length ≤ 1048576) :
    Calls Try.prog 16 #[.agg #[.slice a G.length cap]] w fun e w' => e = .returned (.bool (psymB G)) ∧ Below w.heap.size w w' := by
  have hb0 := box_below w (.cells #[.slice a G.length cap] 26)
  have hc0 := box_cell w (.slice a G.length cap)
  have c1 := impl_kindOf G a cap _ (hr.below hb0) hb
  clear hr
  rcases kind_spec G with ⟨hk, h1, h2⟩ | ⟨hk, h1, h2⟩ | ⟨hk, h1, h2⟩ | ⟨hk, h1, h2⟩
  · rw [hk] at c1
    have HR := Lib.hid h2
    clear hk h1 h2
    go_enter Try.func16, Try.ntmps16
    go_wp2_with fail
    refine c1.mono ?_
    rintro e w1 ⟨rfl, hb1⟩
    go_wp2_with fail
    go_ret
    exact ⟨by rw [HR.out]; rfl, hb0.trans (hb1.mono hb0.size)⟩
  · rw [hk] at c1
    have HR := Lib.hid h2
    clear hk h1 h2
    go_enter Try.func16, Try.ntmps16
    go_wp2_with fail
    refine c1.mono ?_
    rintro e w1 ⟨rfl, hb1⟩
    go_wp2_with fail
    go_ret
    exact ⟨by rw [HR.out]; rfl, hb0.trans (hb1.mono hb0.size)⟩
  · rw [hk] at c1
    have HR := Lib.hid h2
    clear hk h1 h2
    go_enter Try.func16, Try.ntmps16
    go_wp2_with fail
    refine c1.mono ?_
    rintro e w1 ⟨rfl, hb1⟩
    go_wp2_with fail
    go_ret
    exact ⟨by rw [HR.out]; rfl, hb0.trans (hb1.mono hb0.size)⟩
  · rw [hk] at c1
    have HR := Lib.hid h2
    clear hk h1 h2
    go_enter Try.func16, Try.ntmps16
    go_wp2_with fail
    refine c1.mono ?_
    rintro e w1 ⟨rfl, hb1⟩
    go_wp2_with fail
    go_ret
    exact ⟨by rw [HR.out]; rfl, hb0.trans (hb1.mono hb0.size)⟩

set_option maxRecDepth 100000 in
set_option maxHeartbeats 1600000 in
theorem impl_IsIrreducible (G : List Int) (a : Option Addr) (cap : Nat) (w : World) (hr : SlV w a (G.map (Value.int .i64))) (hb : G.length ≤ 1048576) :
    Calls Try.prog 23 #[.agg #[.slice a G.length cap]] w fun e w' => e = .returned (.bool (irrB G)) ∧ Below w.heap.size w w' := by
  obtain ⟨W, hW⟩ : ∃ W, W = w.alloc (.cells #[.slice a G.length cap] 26) := ⟨_, rfl⟩
  have hbW : Below w.heap.size w W := by rw [hW]; exact box_below _ _
  have hc0 : W.cell? ⟨w.heap.size, 0, none⟩ = some (.slice a G.length cap) := by rw [hW]; exact box_cell w _
  have hWs : w.heap.size < W.heap.size := by rw [hW]; simp
  have HW := Lib.hid hW
  clear hW
  have c1 := impl_IsSymmetric G a cap W (hr.below hbW) hb
  have c2 := fun w' (h : SlV w' a (G.map (Value.int .i64))) => impl_IsPseudoSymmetric G a cap w' h hb
  have HR := Lib.hid (show irrB G = (symB G || psymB G) from rfl)
  go_enter Try.func23, Try.ntmps23
  generalize symB G = p at *
  generalize psymB G = q at *
  cases p
  · go_wp2_with fail
    rw [← HW.out]
    refine c1.mono ?_
    rintro e w1 ⟨rfl, hb1⟩
    have hb01 := hbW.trans (hb1.mono hbW.size)
    have hk1 : w1.cell? ⟨w.heap.size, 0, none⟩ = some (.slice a G.length cap) := by rw [hb1.cell (p := ⟨w.heap.size, 0, none⟩) hWs]; exact hc0
    have c3 := c2 w1 (hr.below hb01)
    have hs01 := hb01.size
    clear hr c1 c2 hc0 hWs hb1 hbW
    go_wp2_with fail
    refine c3.mono ?_
    rintro e w2 ⟨rfl, hb2⟩
    have hb02 := hb01.trans (hb2.mono hs01)
    clear c3
    go_wp2_with fail
    go_ret
    exact ⟨by rw [HR.out]; rfl, hb02⟩
  · clear c2
    go_wp2_with fail
    rw [← HW.out]
    refine c1.mono ?_
    rintro e w1 ⟨rfl, hb1⟩
    have hb01 := hbW.trans (hb1.mono hbW.size)
    clear c1
    go_wp2_with fail
    go_ret
    exact ⟨by rw [HR.out]; rfl, hb01⟩

set_option maxRecDepth 100000 in
set_option maxHeartbeats 1600000 in
theorem impl_hasSums (G : List Int) (hs : isSgB G = true) (n : Nat) (hn : n < 200) (a : Option Addr) (cap : Nat) (w : World) (hr : SlV w a (G.map (Value.int .i64))) :
    Calls Try.prog 40 #[.agg (tabB (elF G) 260).toArray, .int .i64 (n : Int), .slice a G.length cap] w fun e w' => e = .returned (.bool (G.all fun g => sumB G (n + g.toNat))) ∧ Below w.heap.size w w' := by
  have HGG := Lib.hid (isSgB_iff.1 hs).bounds
  have hlen := (isSgB_iff.1 hs).len
  have ch : ∀ (x : Int) W, 1 ≤ x → x ≤ 60 → Calls Try.prog 64 #[.agg (tabB (elF G) 260).toArray, .int .i64 ((n : Int) + x)] W fun e w' => e = .returned (.bool (sumB G (n + x.toNat))) ∧ Below W.heap.size W w' := fun x W h1 h2 =>
    impl_has (elF G) ((n : Int) + x) _ W (by
      rw [elF_at hs]
      by_cases h : 200 ≤ (n : Int) + x
      · rw [if_pos h]; exact sg_from hs _ (by have := condNat_le G; omega)
      · rw [if_neg h, if_pos (by omega), show ((n : Int) + x).toNat = n + x.toNat by omega])
  have hA := Arr.new w 44 (tabB (elF G) 260)
  have hB := box_below w (.cells (tabB (elF G) 260).toArray 44)
  generalize hW : w.alloc (.cells (tabB (elF G) 260).toArray 44) = W1 at hA hB
  have hr1 := hr.below hB
  have HQ : Hid (∀ k (hk : k < G.length), (G.take (k + 1)).all (fun g => sumB G (n + g.toNat)) = ((G.take k).all (fun g => sumB G (n + g.toNat)) && sumB G (n + G[k].toNat))) := Lib.hid fun k hk => all_take (fun g => sumB G (n + g.toNat)) hk
  have HNO : Hid (∀ k (hk : k < G.length), sumB G (n + G[k].toNat) = false → (G.all fun g => sumB G (n + g.toNat)) = false) := Lib.hid fun k hk h => List.all_eq_false.2 ⟨G[k], List.getElem_mem hk, by simpa using h⟩
  clear hr hs
  go_enter Try.func40, Try.ntmps40
  go_wp2_with (first | (refine wpList_box_arr 44 (.tmp 0) (tabB (elF G) 260) rfl rfl rfl ?_; rw [hW]))
  go_loopw [11] (fun i wr => ∃ k : Nat, k ≤ G.length ∧ i = .int .i64 (k : Int) ∧ Hid ((G.take k).all (fun g => sumB G (n + g.toNat)) = true) ∧ Arr wr w.heap.size 44 (tabB (elF G) 260) ∧ Below w.heap.size w wr ∧ Below W1.heap.size W1 wr) (fun i _ => G.length - (intOf i).toNat)
  case atStart => exact ⟨0, Nat.zero_le _, rfl, Lib.hid (by simp), hA, hB, Below.refl _ _⟩
  case round =>
    clear hA hB
    obtain ⟨k, hk, rfl, HA, hA, hB, hbel⟩ := hrel
    by_cases hlt : k < G.length
    · have hlti : (k : Int) < (G.length : Int) := by omega
      obtain ⟨b, off, rfl, hbs, hc⟩ := (hr1.below hbel).open (by intro h; rw [List.map_eq_nil_iff] at h; subst h; simp at hlt)
      have hcell : wr.cell? ⟨b, off + k, none⟩ = some (.int .i64 G[k]) := hc k _ (by simp [hlt])
      obtain ⟨hx0, hx1⟩ := HGG.out G[k] (List.getElem_mem hlt)
      have c := ch G[k] wr hx0 hx1
      have HQk := HQ.out k hlt
      rw [HA.out, Bool.true_and] at HQk
      have HQ2 := Lib.hid HQk
      have HN := Lib.hid (HNO.out k hlt)
      clear hc ch HQk
      generalize hX : G[k] = x at *
      clear hX
      have hwx : IntKind.i64.wrap ((n : Int) + x) = (n : Int) + x := IntWalk.i64_in _ (by omega)
      generalize sumB G (n + x.toNat) = q at *
      go_wp2_with (first | (refine wpList_load_arr 44 (.tmp 3) w.heap.size (tabB (elF G) 260) (.array 260 4) rfl rfl rfl hA undT rfl (sizeTl _) ?_))
      refine c.mono ?_
      rintro e w2 ⟨rfl, hb2⟩
      have hA2 := hA.below hb2
      have hB2 := hB.trans (hb2.mono hB.size)
      have hbel2 := hbel.trans (hb2.mono hbel.size)
      clear c hA hB hbel hb2
      cases q
      · have HR := Lib.hid (HN.out rfl)
        clear HN HQ2 HQ HNO
        go_wp2_with fail
        go_ret
        exact ⟨by rw [HR.out]; rfl, hB2⟩
      · clear HN
        go_wp2_with fail
        go_roundw
        case rel => exact ⟨k + 1, by omega, by go_num, HQ2, hA2, hB2, hbel2⟩
        case measure => simp [intOf]; omega
    · have hke : k = G.length := by omega
      rw [hke, List.take_of_length_le (Nat.le_refl _)] at HA
      clear hke HQ HNO
      go_wp2_with fail
      go_ret
      exact ⟨by rw [HA.out]; rfl, hB⟩

end Go.Proofs.Ytglonnfagnlmjaa
