/-
  CONTRACTS of the program's chapter 9, second part: PseudoFrobenius, TypeOf, SpecialGaps. (Own work.)
-/
import Derived.Test.YtekeaigdphicaaaL34
import Derived.Test.YtekeaigdphicaaaI34
namespace Go.Proofs.Ytekeaigdphicaaa
open Go Go.RowKit
attribute [local go_sem] Oper.semAt_some

/-- A load of a whole array inside the body of a range over a function. -/
theorem wpListIn_load_arr {F : Fence} {n : Nat} {P : Program} {ops : Array Oper} {rest : List Oper} {o : Oper} {a : Act} {w : World} {Q : Exit → Act → World → Prop} (t : TypeId) (x : Operand) (g : Nat) (cs : List Value) (d : TypeDesc) (hg : o.guard = none) (ho : o.op = .load t x) (hx : a.eval x = .pointer (some ⟨g, 0, none⟩)) (hc : Arr w g t cs)
    (hu : P.underlying t = some d) (hd : d.isRow = true) (hi : (P.info? t).map (·.size) = some cs.length)
    (h : wpListIn F n P ops Q rest (a.put o.dst (.agg cs.toArray)) w) : wpListIn F n P ops Q (o :: rest) a w := by
  refine wpListIn_plain hg fun K hK' => ?_
  unfold Oper.wpIn
  refine ⟨by simp [Oper.about, ho], ?_⟩
  rw [Oper.semAt_plain F _ _ (by rw [ho]; intro c hc'; cases hc')]
  simp only [execOp, ho, hx, Instr.loadAt, Instr.sureAddr, Sem.run_bind, Sem.run_pure, Result.andThen_ok, run_loadVar_mid w g 0 t cs d hc.range hu hd hi]
  exact hK' _ _ h
theorem own_arr {W W' : World} {row : Option Nat} {B g : Nat} {t : TypeId} {cs : List Value} (h : Arr W g t cs) (hg : W.grownBy W' row) (hr : ∀ r, row = some r → B ≤ r ∧ ∃ o : Obj, W.heap[r]? = some o ∧ o.isCells = false) : Arr W' g t cs :=
  h.grown hg fun e => by
    obtain ⟨-, o, ho, hc⟩ := hr g e.symm
    rw [show W.heap[g]? = _ from h] at ho
    cases ho; cases hc
theorem arr_other {W : World} {g b : Nat} {t : TypeId} {cs : List Value} (h : Arr W g t cs) (hne : g ≠ b) (v : Value) : Arr (W.setCell ⟨b, 0, none⟩ v) g t cs :=
  h.grown (grownBy_setCell' W b v) fun e => hne (Option.some.inj e)
theorem row_not {W : World} {s e k : Nat} {v : Value} {xs : List Value} (h : W.ownsRow s e 1 v k xs) : ∀ r, v.ownBlock = some r → s ≤ r := by
  intro r hr
  rcases h.2 with ⟨rfl, _⟩ | ⟨g, cap, cur, rfl, hle, _⟩
  · simp [Value.ownBlock] at hr
  · simp [Value.ownBlock] at hr; omega
theorem psfL_gaps {G : List Int} (hs : isSgB G = true) : psfL G = (gapsL G).filter fun x => G.all fun g => sumB G (x.toNat + g.toNat) := by
  have e : psfL G = (upB (psf G) 200).map Int.ofNat := by unfold psfL; rw [if_pos hs]
  have e2 : gapsL G = (upB (fun n => !sumB G n) 200).map Int.ofNat := by unfold gapsL; rw [if_pos hs]
  have e3 : upB (psf G) 200 = (upB (fun n => !sumB G n) 200).filter fun k => G.all fun g => sumB G (k + g.toNat) := upB_and (fun n => !sumB G n) (fun k => G.all fun g => sumB G (k + g.toNat)) 200
  rw [e, e3, e2, filter_cast]
  rfl

set_option maxRecDepth 100000 in
set_option maxHeartbeats 3200000 in
theorem impl_PseudoFrobenius (G : List Int) (a : Option Addr) (cap : Nat) (w : World) (hr : SlV w a (G.map (Value.int .i64))) (hb : G.length ≤ 1048576) :
    Calls Try.prog 72 #[.agg #[.slice a G.length cap]] w (SlPost (psfL G) w) := by
  obtain ⟨i0, hi, hz0, hz1, hz2⟩ := info_parts infoIntL
  have hb0 := box_below w (.cells #[.slice a G.length cap] 42)
  have hc0 := box_cell w (.slice a G.length cap)
  have c1 := impl_elementsOf G a cap _ (hr.below hb0) hb
  have HT := fun f => Lib.hid (tabB_one f 260)
  cases hs : isSgB G
  · have HR := Lib.hid (psfL_no hs)
    clear hr
    unfold ElPost at c1
    rw [hs] at c1
    clear hs
    refine (callsIn_wide (n := 3)).1 (callsIn_of_wp_marks Try.func72 rfl trivial (wpIn_wide.2 ?_) rfl)
    simp only [Try.ntmps72, List.size_toArray, List.length_cons, List.length_nil, Nat.reduceAdd, Nat.reduceSub, Array.replicate_succ, Array.replicate_zero, List.push_toArray, List.append_toArray, List.nil_append, List.cons_append]
    go_wp2_with fail
    refine c1.mono ?_
    rintro e w1 ⟨rfl, hb1⟩
    have hbz := hb0.trans (hb1.mono hb0.size)
    have hA := Arr.new w1 61 (tabB (fun _ => false) 260)
    have hbz2 := hbz.alloc (o := .cells (tabB (fun _ => false) 260).toArray 61) hbz.size
    have hzw := hb1.size
    rw [World.size_alloc] at hzw
    clear c1 hc0 hb1 hb0
    go_wp2_with (first
      | (refine wpList_alloc_arr 61 (tabB (fun _ => false) 260) zeroT rfl rfl ?_)
      | (refine wpList_store_arr 61 (.tmp 3) (.tmp 10) w1.heap.size (tabB (fun _ => false) 260) (tabB (elF G) 260) rfl rfl rfl rfl hA (by rw [tabB_length, tabB_length]) (sizeTl _) (HT _).out ?_; intro w3 hB hg3 hz3))
    have hb3 := hbz2.grown hg3 hbz2.size (fun k hk => by cases hk; exact hbz.size)
    exact ⟨_, results_tmp rfl _ _ _, _, rfl, by rw [HR.out]; exact World.ownsRow_nil _ _ _ _, hb3⟩
  · have HG := Lib.hid (gaps_el200 hs)
    have HF := Lib.hid (psfL_gaps hs)
    have hlenL : (gapsL G).length ≤ 200 := by rw [← HG.out]; exact gapsB_len_le _ _
    have HBN := Lib.hid (gapsL_bnd (G := G))
    have ch := fun (n : Nat) (hn : n < 200) (W : World) (h : SlV W a (G.map (Value.int .i64))) => impl_hasSums G hs n hn a cap W h
    generalize hφ : (fun x : Int => G.all fun g => sumB G (x.toNat + g.toNat)) = φ at HF
    have ch2 : ∀ (n : Nat), n < 200 → ∀ W : World, SlV W a (G.map (Value.int .i64)) → Calls Try.prog 78 #[.agg (tabB (elF G) 260).toArray, .int .i64 (n : Int), .slice a G.length cap] W fun e w' => e = .returned (.bool (φ (n : Int))) ∧ Below W.heap.size W w' := fun n hn W h => by
      rw [← hφ]; exact ch n hn W h
    clear ch hφ
    unfold ElPost at c1
    rw [hs] at c1
    clear hs
    refine (callsIn_wide (n := 3)).1 (callsIn_of_wp_marks Try.func72 rfl trivial (wpIn_wide.2 ?_) rfl)
    simp only [Try.ntmps72, List.size_toArray, List.length_cons, List.length_nil, Nat.reduceAdd, Nat.reduceSub, Array.replicate_succ, Array.replicate_zero, List.push_toArray, List.append_toArray, List.nil_append, List.cons_append]
    go_wp2_with fail
    refine c1.mono ?_
    rintro e w1 ⟨rfl, hb1⟩
    have hbz := hb0.trans (hb1.mono hb0.size)
    have hA := Arr.new w1 61 (tabB (fun _ => false) 260)
    have hbz2 := hbz.alloc (o := .cells (tabB (fun _ => false) 260).toArray 61) hbz.size
    have hzw := hb1.size
    rw [World.size_alloc] at hzw
    have hc1 : (w1.alloc (.cells (tabB (fun _ => false) 260).toArray 61)).cell? ⟨w.heap.size, 0, none⟩ = some (.slice a G.length cap) := ((box_below w1 _).cell (p := ⟨w.heap.size, 0, none⟩) (by show w.heap.size < w1.heap.size; omega)).trans ((hb1.cell (p := ⟨w.heap.size, 0, none⟩) (by simp)).trans hc0)
    have hAS : Arr (w.alloc (.cells #[.slice a G.length cap] 42)) w.heap.size 42 [.slice a G.length cap] := Arr.new w 42 [.slice a G.length cap]
    have hSA := (hAS.below hb1).alloc (.cells (tabB (fun _ => false) 260).toArray 61)
    clear hAS
    clear c1 hc0 hb1 hb0
    go_wp2_with (first
      | (refine wpList_alloc_arr 61 (tabB (fun _ => false) 260) zeroT rfl rfl ?_)
      | (refine wpList_store_arr 61 (.tmp 3) (.tmp 10) w1.heap.size (tabB (fun _ => false) 260) (tabB (elF G) 260) rfl rfl rfl rfl hA (by rw [tabB_length, tabB_length]) (sizeTl _) (HT _).out ?_; intro w3 hB hg3 hz3; have hc3 := hg3.cell hc1 (by simp; omega))
      | (refine wpList_load_arr 61 (.tmp 3) w1.heap.size (tabB (elF G) 260) (.array 260 4) rfl rfl rfl (hB.alloc _) undT rfl (sizeTl _) ?_))
    have hb3 := hbz2.grown hg3 hbz2.size (fun k hk => by cases hk; exact hbz.size)
    have hz4 : w3.heap.size = w1.heap.size + 1 := by rw [hz3]; simp
    have bC := Boxed.new w3 22 (.slice none 0 0)
    rw [hz4] at bC
    have hb4 := hb3.alloc (o := .cells #[.slice none 0 0] 22) hb3.size
    have hB4 := hB.alloc (.cells #[.slice none 0 0] 22)
    have hS3 : Arr w3 w.heap.size 42 [.slice a G.length cap] := hSA.grown hg3 (fun e => by have := Option.some.inj e; omega)
    have hS4 := hS3.alloc (.cells #[.slice none 0 0] 22)
    generalize hW4 : w3.alloc (.cells #[.slice none 0 0] 22) = W4 at bC hb4 hB4 hS4 ⊢
    have hzz : W4.heap.size = w1.heap.size + 2 := by rw [← hW4]; simp [hz4]
    have hit := impl_gaps (elF G)
    rw [HG.out] at hit
    have hsw := hbz.size
    clear hW4 hB hg3 hz3 hA hbz2 hb3 hbz hz4 hS3 hc3 hc1
    refine wp_range_method 60 (.agg (tabB (elF G) 260).toArray) (gapsL G) 0 rfl (enters_of Try.func60 (by kernel_rfl) rfl) hit
      (fun pre W => (∃ v, Boxed W (w1.heap.size + 1) 22 v ∧ W.ownsRow (w1.heap.size + 2 + 3) 3 1 v (pre.filter φ).length ((pre.filter φ).map (Value.int .i64))) ∧ Arr W w.heap.size 42 [.slice a G.length cap] ∧ Arr W w1.heap.size 61 (tabB (elF G) 260) ∧ Below w.heap.size w W)
      (fun pre W => False)
      (fun pre A B row ⟨⟨v, h1, h3⟩, h4, h5, h2⟩ hg hr => ⟨⟨v, own_boxed h1 hg hr, row_abides h3 hg hr⟩, own_arr h4 hg hr, own_arr h5 hg hr, own_below h2 hg hr (Nat.le_refl _) (by omega)⟩)
      (fun _ _ _ _ h _ _ => h)
      ⟨⟨_, bC, World.ownsRow_nil _ _ _ _⟩, hS4, hB4, hb4⟩
      (fun x => { tmps := #[.agg #[.slice a G.length cap], .pointer (some ⟨w.heap.size, 0, none⟩), .slice none 0 0, .pointer (some ⟨w1.heap.size, 0, none⟩), .bool true, .pointer (some ⟨w1.heap.size + 1, 0, none⟩), .int .i64 x, .tuple #[.agg (tabB (elF G) 260).toArray, .bool true], .agg #[.slice a G.length cap], .tuple #[.agg (tabB (elF G) 260).toArray, .bool true], .agg (tabB (elF G) 260).toArray, .bool true, .bool true, .bool false, .agg (tabB (elF G) 260).toArray, .func (.func 60) #[.agg (tabB (elF G) 260).toArray] #[], .int .i64 x, undef, undef, undef, undef, undef, undef, undef, undef, undef, undef], defers := [] }) ?assign ?body ?done ?stop
    case assign =>
      intro l x W K hK
      gi_wp2
      exact hK
    case body =>
      rintro l pre x W hsz ⟨⟨v, hv, hrow⟩, hS, hT, hB⟩ hp
      have hc := hv.cell
      have hcS := hS.cell 0
      have hlen : pre.length < 200 := by
        have h1 := hp.length_le
        simp at h1; omega
      have hsz' : w1.heap.size + 2 + 2 < W.heap.size := by omega
      have hfl : (pre.filter φ).length ≤ pre.length := List.length_filter_le _ _
      obtain ⟨hx0, hx1⟩ := HBN.out x (hp.subset (by simp))
      obtain ⟨n, rfl⟩ := Int.eq_ofNat_of_zero_le hx0
      have ch := ch2 n (by omega) W (hr.below hB)
      have hφ : (pre ++ [(n : Int)]).filter φ = pre.filter φ ++ if φ (n : Int) then [(n : Int)] else [] := by rw [List.filter_append]; congr 1; cases h : φ (n : Int) <;> simp [h]
      have HPH := Lib.hid hφ
      clear hφ
      generalize φ (n : Int) = q at *
      generalize hM : pre.filter φ = M at *
      clear hM
      gi_wp2_with (first | (refine wpListIn_load_arr 61 (.tmp 3) w1.heap.size (tabB (elF G) 260) (.array 260 4) rfl rfl rfl hT undT rfl (sizeTl _) ?_))
      refine ⟨trivial, ((callsIn_wide.2 ch).inRound l).mono ?_⟩
      rintro e W5 ⟨rfl, hb5⟩
      have hv5 : Boxed W5 (w1.heap.size + 1) 22 v := (hb5.block _ (by omega)).trans hv
      have hrow5 := owns_below hrow hb5
      have hS5 := hS.below hb5
      have hT5 := hT.below hb5
      have hB5 := hB.trans (hb5.mono hB.size)
      have hl5 : Lies3 (w1.heap.size + 2) W W5 := ⟨hb5.size, fun k _ _ h => hb5.block k h⟩
      have hsz5 : w1.heap.size + 2 + 2 < W5.heap.size := Nat.lt_of_lt_of_le hsz' hb5.size
      have hc5 := hv5.cell
      clear ch ch2 hv hrow hS hT hB hc hcS hb5
      cases q
      · gi_wp2
        refine ⟨by rw [hzz]; exact hl5, ⟨v, hv5, ?_⟩, hS5, hT5, hB5⟩
        rw [HPH.out]
        simpa using hrow5
      · gi_wp2_with (gi_at_builtin; refine wpListIn_append_own _ rfl _ _ 22 rfl (w1.heap.size + 2 + 3) 3 i0 (.int .i64 0) 1 8 Try.underlying22 hi hz0 hz1 hz2 rfl (by decide) _ _ _ rfl (hrow5.alloc _) ⟨W5.heap.size, 0, none⟩ 1 1 [.int .i64 (n : Int)] rfl rfl (cell_one_new _ _ _) (by simp [Value.oneCell']) (by unfold maxLen; omega) (by omega) (by simp; omega) ?_; intro v' w5 hown' hgrow _; obtain ⟨g', cap', rfl⟩ := ownsRow_succ hown'; obtain ⟨hv1, hv2, hr2, hl2, hb2⟩ := box_collects hv5 hrow5 (by omega) hsz5 hown' hgrow (show w.heap.size ≤ w1.heap.size + 1 by omega); have hc1 := hv1.cell; have hf1 := hv1.frozen; have hne := row_not hrow5)
        refine ⟨by rw [hzz]; exact hl5.trans hl2, ⟨_, hv2, ?_⟩, ?_, ?_, hB5.trans hb2⟩
        · rw [HPH.out, if_pos (by first | trivial | rfl), List.length_append, List.length_singleton, List.map_append]
          exact hr2
        · exact arr_other ((hS5.alloc _).grown hgrow (fun e => by have := hne w.heap.size e.symm; omega)) (by omega) _
        · exact arr_other ((hT5.alloc _).grown hgrow (fun e => by have := hne w1.heap.size e.symm; omega)) (by omega) _
    case done =>
      rintro W ⟨⟨v, hv, hrow⟩, hS, hT, hB⟩ hK
      have hc := hv.cell
      rw [hzz] at hK
      rw [← HF.out] at hrow
      go_wp2_with fail
      refine leave_mark hK ?_
      exact ⟨_, results_tmp rfl _ _ _, v, rfl, owns_wider (own_mark hrow _ hK rfl) (by omega), below_mark hB (by omega)⟩
    case stop =>
      rintro pre W hp h hK
      exact h.elim


set_option maxRecDepth 100000 in
set_option maxHeartbeats 3200000 in
theorem impl_SpecialGaps (G : List Int) (a : Option Addr) (cap : Nat) (w : World) (hr : SlV w a (G.map (Value.int .i64))) (hb : G.length ≤ 1048576) :
    Calls Try.prog 62 #[.agg #[.slice a G.length cap]] w (SlPost (specL G) w) := by
  obtain ⟨i0, hi, hz0, hz1, hz2⟩ := info_parts infoIntL
  have hb0 := box_below w (.cells #[.slice a G.length cap] 42)
  have hc0 := box_cell w (.slice a G.length cap)
  have c1 := impl_PseudoFrobenius G a cap _ (hr.below hb0) hb
  have hS0 : w.heap.size < (w.alloc (.cells #[.slice a G.length cap] 42)).heap.size := by simp
  have HT := Lib.hid (specL_way G)
  have HP := Lib.hid (psfL_bnd (G := G))
  have hlen := psfL_len_le G
  have cC := fun (x : Int) w' (h : SlV w' a (G.map (Value.int .i64))) => impl_Contains G x a cap w' h hb
  go_enter Try.func62, Try.ntmps62
  go_wp2_with fail
  refine c1.mono ?_
  rintro e w1 ⟨v1, rfl, ho1, hb1⟩
  generalize psfL G = P at *
  obtain ⟨ag, k1, rfl, rX⟩ := row_open ho1
  have hb01 := hb0.trans (hb1.mono hb0.size)
  have hk1 : w1.cell? ⟨w.heap.size, 0, none⟩ = some (.slice a G.length cap) := (hb1.cell (p := ⟨w.heap.size, 0, none⟩) hS0).trans hc0
  have hz1' := Nat.lt_of_lt_of_le hS0 hb1.size
  have hS1 := Lib.hid rX.slv
  have hrW := Lib.hid (hr.below hb01)
  clear c1 hr hc0 hb1 hb0 hS0 ho1 rX
  go_wp2_with fail
  go_loopw [3, 9] (fun v i wr => ∃ (k : Nat) (M : List Int), k ≤ P.length ∧ i = .int .i64 (k : Int) ∧ Hid (M = (P.take k).filter fun x => hasN G (2 * x)) ∧ M.length ≤ k ∧ wr.ownsRow w1.heap.size 3 1 v M.length (M.map (Value.int .i64)) ∧ Below w1.heap.size w1 wr) (fun _ i _ => P.length - (intOf i).toNat)
  case atStart => exact ⟨0, [], Nat.zero_le _, rfl, Lib.hid (by simp), by simp, World.ownsRow_nil _ _ _ _, Below.refl _ _⟩
  case round =>
    obtain ⟨k, M, hk, rfl, HMe, hML, hown, hbel⟩ := hrel
    by_cases hlt : k < P.length
    · have hlti : (k : Int) < (P.length : Int) := by omega
      obtain ⟨b, off, rfl, hbs, hcl⟩ := (hS1.out.below hbel).open (by intro h; rw [List.map_eq_nil_iff] at h; subst h; simp at hlt)
      have hcell : wr.cell? ⟨b, off + k, none⟩ = some (.int .i64 P[k]) := hcl k _ (by rw [List.getElem?_map, List.getElem?_eq_getElem hlt]; rfl)
      obtain ⟨hx0, hx1⟩ := HP.out P[k] (List.getElem_mem hlt)
      have HFT := filter_take (fun x => hasN G (2 * x)) hlt
      rw [← HMe.out] at HFT
      have hk0 : (0 : Int) ≤ (k : Int) := by omega
      clear hcl
      generalize P[k] = x at *
      have hwx : IntKind.i64.wrap (2 * x) = 2 * x := IntWalk.i64_in _ (by omega)
      have c2 := cC (2 * x) wr (hrW.out.below hbel)
      generalize hasN G (2 * x) = hh at *
      replace HFT := Lib.hid HFT
      have hkr : wr.cell? ⟨w.heap.size, 0, none⟩ = some (.slice a G.length cap) := (hbel.cell (p := ⟨w.heap.size, 0, none⟩) hz1').trans hk1
      go_wp2_with fail
      refine c2.mono ?_
      rintro e w2 ⟨rfl, hb2⟩
      have hown2 := owns_below hown hb2
      have hbel2 := hbel.trans (hb2.mono hbel.size)
      have hsz2 := hbel2.size
      clear c2 hown hbel hb2 hcell hkr
      cases hh
      · go_wp2_with fail
        go_roundw
        case rel => exact ⟨k + 1, M, by omega, by go_num, Lib.hid (by rw [HFT.out]; simp), by omega, hown2, hbel2⟩
        case measure => simp [intOf]; omega
      · go_wp2_with (first
          | (at_builtin; refine wpList_append_own _ rfl (.tmp 17) (.tmp 19) 22 rfl w1.heap.size 3 i0 (Value.int .i64 0) 1 8 Try.underlying22 hi hz0 hz1 hz2 rfl (by decide) _ _ _ rfl (hown2.alloc _) ⟨_, 0, none⟩ 1 1 [.int .i64 x] rfl rfl (World.news_of_block (cs := #[.int .i64 x]) (t := 3) (fr := (0, 0)) (heap_alloc_new _ _)) (by simp [Value.oneCell']) (by unfold maxLen; omega) (by omega) (by simp; omega) ?_; intro v6 w6 hown6 hg6 _))
        have hbel6 := (hbel2.alloc hsz2 (.cells #[.int .i64 x] 3)).grown hg6 (by simp; omega) (fun j hj => (hown2.lt j hj).1)
        have HO := Lib.hid hown6
        clear hown6 hg6 hown2
        go_roundw
        case rel => exact ⟨k + 1, M ++ [x], by omega, by go_num, Lib.hid (by rw [HFT.out]; simp), by rw [List.length_append, List.length_singleton]; omega, by rw [List.length_append, List.length_singleton, List.map_append]; exact HO.out, hbel6⟩
        case measure => simp [intOf]; omega
    · obtain rfl : k = P.length := by omega
      have HE : Hid (specL G = M) := Lib.hid (by rw [HMe.out, List.take_length, HT.out])
      have hb9 := hb01.trans (hbel.mono hb01.size)
      have hsz9 := hb01.size
      go_wp2_with fail
      go_ret
      exact ⟨_, rfl, by rw [HE.out]; exact owns_wider hown hsz9, hb9⟩

end Go.Proofs.Ytekeaigdphicaaa
