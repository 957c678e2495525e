/-
  CONTRACTS of the program's chapter 4, third part: FrobeniusOf, Gaps, ElementAt, GenusOf, ConductorOf, IndexOfElement, SmallElements. (Own work.)
-/
import Derived.Test.YtdjjagpecbflnaaGreatDoorI16
import Derived.Test.YtdjjagpecbflnaaGreatDoorI12
import Derived.Test.YtdjjagpecbflnaaGreatDoorL13
namespace Go.Proofs.YtdjjagpecbflnaaGreatDoor
open Go Go.RowKit
attribute [local go_sem] Oper.semAt_some

theorem gaps_el {G : List Int} (h : isSgB G = true) (m : Nat) : gapsB (elF G) m = (upB (fun n => !sumB G n) m).map Int.ofNat := by
  unfold gapsB
  rw [show (fun j => !elF G j) = (fun n => !sumB G n) from funext fun j => by unfold elF; rw [h, Bool.true_and]]
theorem gaps_el200 {G : List Int} (h : isSgB G = true) : gapsB (elF G) 200 = gapsL G := by rw [gaps_el h]; unfold gapsL; rw [if_pos h]
theorem elF_at {G : List Int} (h : isSgB G = true) : elF G = sumB G := funext fun j => by unfold elF; rw [h, Bool.true_and]
theorem getLast_snoc (pre : List Int) (x : Int) : ((pre ++ [x]).getLast?).getD (-1) = x := by simp

/-- A variable's box collects: the new value, the longer row, what lies as it lay. -/
theorem box_collects {W w1 : World} {B s e t n : Nat} {v v' : Value} {k : Nat} {xs ys : List Value} {o : Obj} (hv : Boxed W B t v) (hrow : W.ownsRow (s + 3) e 1 v k xs) (hB : B < s) (hsz : s + 2 < W.heap.size)
    (hown : w1.ownsRow (s + 3) e 1 v' (k + 1) ys) (hg : (W.alloc o).grownBy w1 v.ownBlock) (hn : n ≤ B) :
    Boxed w1 B t v ∧ Boxed (w1.setCell ⟨B, 0, none⟩ v') B t v' ∧ (w1.setCell ⟨B, 0, none⟩ v').ownsRow (s + 3) e 1 v' (k + 1) ys ∧ Lies3 s W (w1.setCell ⟨B, 0, none⟩ v') ∧ Below n W (w1.setCell ⟨B, 0, none⟩ v') := by
  have hr : ∀ r, v.ownBlock = some r → s + 3 ≤ r := by
    intro r hr
    rcases hrow.2 with ⟨rfl, _⟩ | ⟨g, cap, cur, rfl, hle, _⟩
    · simp [Value.ownBlock] at hr
    · simp [Value.ownBlock] at hr; omega
  have h1 : Boxed w1 B t v := (hv.alloc o).kept hg fun e => by have := hr B e.symm; omega
  have hl : Lies3 s W w1 := (Lies3.grown (World.grownBy_alloc W o none) (fun r e => by cases e)).trans (Lies3.grown hg fun r e => by have := hr r e; omega)
  have hb : Below n W w1 := ((Below.refl n W).alloc (by omega) o).grown hg (by simp; omega) fun r e => by have := hr r e; omega
  refine ⟨h1, h1.set v', hown.kept (grownBy_setCell' w1 B v') ?_, hl.trans (Lies3.grown (grownBy_setCell' w1 B v') fun r e => by cases e; exact .inl hB), hb.setCell (p := ⟨B, 0, none⟩) hn _⟩
  rcases hown.2 with ⟨rfl, _⟩ | ⟨g, cap, cur, rfl, hle, _⟩
  · exact .inl rfl
  · refine .inr ?_
    simp [Value.ownBlock]; omega

theorem row_abides {W W' : World} {row : Option Nat} {B base e k : Nat} {v : Value} {xs : List Value} (h : W.ownsRow base e 1 v k xs) (hg : W.grownBy W' row) (hr : ∀ r, row = some r → B ≤ r ∧ ∃ o : Obj, W.heap[r]? = some o ∧ o.isCells = false) : W'.ownsRow base e 1 v k xs := by
  refine h.kept hg ?_
  rcases h.2 with ⟨rfl, _⟩ | ⟨g, cap, cur, rfl, _, hgb, _⟩
  · exact .inl rfl
  · refine .inr fun e' => ?_
    obtain ⟨-, o, ho, hc⟩ := hr g (by simpa [Value.ownBlock] using e'.symm)
    rw [hgb] at ho
    cases ho; cases hc
theorem own_mark {W : World} {s base e k : Nat} {v : Value} {xs : List Value} (h : W.ownsRow base e 1 v k xs) {o : Obj} (o' : Obj) (hk : W.heap[s]? = some o) (ho : o.isCells = false) : (W.putObj s o').ownsRow base e 1 v k xs :=
  row_abides (B := 0) h (grownBy_putObj' W s o') fun r e => by cases e; exact ⟨Nat.zero_le _, o, hk, ho⟩

/-- Where an upward walk over the gaps stops stands the element with the index k. -/
theorem elem_stop {p : Nat → Bool} (hp : ∀ n, 200 ≤ n → p n = true) {q : List Int} {k : Nat} (hl : ∀ y ∈ q, y < (k : Int) + (q.length : Int))
    (hq : q = gapsB p 200 ∨ ∃ x, q ++ [x] <+: gapsB p 200 ∧ (k : Int) + (q.length : Int) < x) : p (k + q.length) = true ∧ (upB p (k + q.length)).length = k := by
  have hself : ∀ n : Int, (∀ y ∈ q, y < n) → q = gapsB p 200 → (gapsB p 200).filter (fun y => decide (y < n)) = q := fun n h e => by
    rw [← e]; exact List.filter_eq_self.2 fun y hy => decide_eq_true (h y hy)
  have hf : (gapsB p 200).filter (fun y => decide (y < ((k + q.length : Nat) : Int))) = q := by
    rw [Int.natCast_add]
    rcases hq with e | ⟨x, hx, hn⟩
    · exact hself _ hl e
    · exact stop_filter (gapsB_asc p 200) hx hl (by omega)
  have hg : gapsB p (k + q.length) = q := by
    by_cases h : k + q.length ≤ 200
    · rw [← gapsB_below p h]; exact hf
    · have e : gapsB p (k + q.length) = gapsB p 200 := by unfold gapsB; rw [upB_not_from hp (by omega)]
      rw [e]
      rcases hq with e' | ⟨x, hx, hn⟩
      · exact e'.symm
      · have := (mem_gapsB.1 (hx.subset (by simp : x ∈ q ++ [x]))).2.1
        omega
  have hlen := upB_not_add p (k + q.length)
  have hgl : (upB (fun j => !p j) (k + q.length)).length = q.length := by
    have := congrArg List.length hg
    unfold gapsB at this; rw [List.length_map] at this; exact this
  refine ⟨?_, by omega⟩
  rcases Bool.eq_false_or_eq_true (p (k + q.length)) with h | h
  · exact h
  · exfalso
    have h2 : k + q.length < 200 := by
      rcases Nat.lt_or_ge (k + q.length) 200 with h' | h'
      · exact h'
      · rw [hp _ h'] at h; cases h
    have hm : ((k + q.length : Nat) : Int) ∈ gapsB p 200 := mem_gapsB.2 ⟨by omega, by omega, by rw [Int.toNat_natCast]; exact h⟩
    have hin : ((k + q.length : Nat) : Int) ∈ q := by
      obtain ⟨N, hN⟩ : ∃ N : Int, N = ((k + q.length : Nat) : Int) := ⟨_, rfl⟩
      rw [← hN] at hm ⊢
      rcases hq with e | ⟨x, hx, hn⟩
      · rw [e]; exact hm
      · rw [← stop_filter (gapsB_asc p 200) hx (fun y hy => by have := hl y hy; omega) (Int.le_refl x), List.mem_filter]
        exact ⟨hm, by simp; omega⟩
    have := hl _ hin
    omega

set_option maxRecDepth 100000 in
set_option maxHeartbeats 1600000 in
theorem impl_Gaps (G : List Int) (a : Option Addr) (cap : Nat) (w : World) (hr : SlV w a (G.map (Value.int .i64))) (hb : G.length ≤ 1048576) :
    Calls Tryz.prog 35 #[.agg #[.slice a G.length cap]] w (SlPost (gapsL G) w) := by
  have hb0 := box_below w (.cells #[.slice a G.length cap] 26)
  have hc0 := box_cell w (.slice a G.length cap)
  have c1 := impl_elementsOf G a cap _ (hr.below hb0) hb
  have HT := fun f => Lib.hid (tabB_one f 260)
  clear hr
  obtain ⟨i0, hi, hz0, hz1, hz2⟩ := info_parts infoIntL
  refine (callsIn_wide (n := 3)).1 (callsIn_of_wp_marks Tryz.func35 rfl trivial (wpIn_wide.2 ?_) rfl)
  simp only [Tryz.ntmps35, List.size_toArray, List.length_cons, List.length_nil, Nat.reduceAdd, Nat.reduceSub, Array.replicate_succ, Array.replicate_zero, List.push_toArray, List.append_toArray, List.nil_append, List.cons_append]
  cases hs : isSgB G
  · have HR := Lib.hid (show gapsL G = [] by unfold gapsL; rw [hs]; rfl)
    unfold ElPost at c1
    rw [hs] at c1
    clear hs
    go_wp2_with fail
    refine c1.mono ?_
    rintro e w1 ⟨rfl, hb1⟩
    have hbz := hb0.trans (hb1.mono hb0.size)
    have hA := Arr.new w1 62 (tabB (fun _ => false) 260)
    have hbz2 := hbz.alloc (o := .cells (tabB (fun _ => false) 260).toArray 62) hbz.size
    have hzw := hb1.size
    rw [World.size_alloc] at hzw
    clear c1 hc0 hb1 hb0
    go_wp2_with (first
      | (refine wpList_alloc_arr 62 (tabB (fun _ => false) 260) zeroT rfl rfl ?_)
      | (refine wpList_store_arr 62 (.tmp 3) (.tmp 10) w1.heap.size (tabB (fun _ => false) 260) (tabB (elF G) 260) rfl rfl rfl rfl hA (by rw [tabB_length, tabB_length]) (sizeTl _) (HT _).out ?_; intro w3 hB hg3 hz3))
    have hb3 := hbz2.grown hg3 hbz2.size (fun k hk => by cases hk; exact hbz.size)
    exact ⟨_, results_tmp rfl _ _ _, _, rfl, by rw [HR.out]; exact World.ownsRow_nil _ _ _ _, hb3⟩
  · have HG := Lib.hid (gaps_el200 hs)
    have hlenL : (gapsL G).length ≤ 200 := by rw [← HG.out]; exact gapsB_len_le _ _
    unfold ElPost at c1
    rw [hs] at c1
    clear hs
    go_wp2_with fail
    refine c1.mono ?_
    rintro e w1 ⟨rfl, hb1⟩
    have hbz := hb0.trans (hb1.mono hb0.size)
    have hA := Arr.new w1 62 (tabB (fun _ => false) 260)
    have hbz2 := hbz.alloc (o := .cells (tabB (fun _ => false) 260).toArray 62) hbz.size
    have hzw := hb1.size
    rw [World.size_alloc] at hzw
    clear c1 hc0 hb1 hb0
    go_wp2_with (first
      | (refine wpList_alloc_arr 62 (tabB (fun _ => false) 260) zeroT rfl rfl ?_)
      | (refine wpList_store_arr 62 (.tmp 3) (.tmp 10) w1.heap.size (tabB (fun _ => false) 260) (tabB (elF G) 260) rfl rfl rfl rfl hA (by rw [tabB_length, tabB_length]) (sizeTl _) (HT _).out ?_; intro w3 hB hg3 hz3)
      | (refine wpList_load_arr 62 (.tmp 3) w1.heap.size (tabB (elF G) 260) (.array 260 4) rfl rfl rfl (hB.alloc _) undT rfl (sizeTl _) ?_))
    have hb3 := hbz2.grown hg3 hbz2.size (fun k hk => by cases hk; exact hbz.size)
    have hz4 : w3.heap.size = w1.heap.size + 1 := by rw [hz3]; simp
    have bC := Boxed.new w3 24 (.slice none 0 0)
    rw [hz4] at bC
    have hb4 := hb3.alloc (o := .cells #[.slice none 0 0] 24) hb3.size
    generalize hW4 : w3.alloc (.cells #[.slice none 0 0] 24) = W4 at bC hb4 ⊢
    have hzz : W4.heap.size = w1.heap.size + 2 := by rw [← hW4]; simp [hz4]
    have hit := impl_gaps (elF G)
    rw [HG.out] at hit
    have hsw := hbz.size
    clear hW4 hB hg3 hz3 hA hbz2 hb3 hbz hz4
    refine wp_range_method 64 (.agg (tabB (elF G) 260).toArray) (gapsL G) 0 rfl (enters_of Tryz.func64 (by kernel_rfl) rfl) hit
      (fun pre W => (∃ v, Boxed W (w1.heap.size + 1) 24 v ∧ W.ownsRow (w1.heap.size + 2 + 3) 3 1 v pre.length (pre.map (Value.int .i64))) ∧ Below w.heap.size w W)
      (fun pre W => False)
      (fun pre A B row ⟨⟨v, h1, h3⟩, h2⟩ hg hr => ⟨⟨v, own_boxed h1 hg hr, row_abides h3 hg hr⟩, own_below h2 hg hr (Nat.le_refl _) (by omega)⟩)
      (fun _ _ _ _ h _ _ => h)
      ⟨⟨_, bC, World.ownsRow_nil _ _ _ _⟩, hb4⟩
      (fun x => { tmps := #[.agg #[.slice a G.length cap], .pointer (some ⟨w.heap.size, 0, none⟩), .slice none 0 0, .pointer (some ⟨w1.heap.size, 0, none⟩), .bool true, .pointer (some ⟨w1.heap.size + 1, 0, none⟩), .int .i64 x, .tuple #[.agg (tabB (elF G) 260).toArray, .bool true], .agg #[.slice a G.length cap], .tuple #[.agg (tabB (elF G) 260).toArray, .bool true], .agg (tabB (elF G) 260).toArray, .bool true, .bool true, .bool false, .agg (tabB (elF G) 260).toArray, .func (.func 64) #[.agg (tabB (elF G) 260).toArray] #[], .int .i64 x, undef, undef, undef, undef, undef], defers := [] }) ?assign ?body ?done ?stop
    case assign =>
      intro l x W K hK
      gi_wp2
      exact hK
    case body =>
      rintro l pre x W hsz ⟨⟨v, hv, hrow⟩, hB⟩ hp
      have hc := hv.cell
      have hlen : pre.length < 200 := by
        have h1 := hp.length_le
        simp at h1; omega
      have hsz' : w1.heap.size + 2 + 2 < W.heap.size := by omega
      gi_wp2_with (gi_at_builtin; refine wpListIn_append_own _ rfl _ _ 24 rfl (w1.heap.size + 2 + 3) 3 i0 (.int .i64 0) 1 8 Tryz.underlying24 hi hz0 hz1 hz2 rfl (by decide) _ _ _ rfl (hrow.alloc _) ⟨W.heap.size, 0, none⟩ 1 1 [.int .i64 x] rfl rfl (cell_one_new _ _ _) (by simp [Value.oneCell']) (by unfold maxLen; omega) (by omega) (by simp; omega) ?_; intro v' w5 hown' hgrow _; obtain ⟨g', cap', rfl⟩ := ownsRow_succ hown'; obtain ⟨hv1, hv2, hr2, hl2, hb2⟩ := box_collects hv hrow (by omega) hsz' hown' hgrow (show w.heap.size ≤ w1.heap.size + 1 by omega); have hc1 := hv1.cell; have hf1 := hv1.frozen)
      refine ⟨by rw [hzz]; exact hl2, ⟨_, hv2, ?_⟩, hB.trans hb2⟩
      rw [List.length_append, List.length_singleton, List.map_append]
      exact hr2
    case done =>
      rintro W ⟨⟨v, hv, hrow⟩, hB⟩ hK
      have hc := hv.cell
      rw [hzz] at hK
      go_wp2_with fail
      refine leave_mark hK ?_
      exact ⟨_, results_tmp rfl _ _ _, v, rfl, owns_wider (own_mark hrow _ hK rfl) (by omega), below_mark hB (by omega)⟩
    case stop =>
      rintro pre W hp h hK
      exact h.elim
end Go.Proofs.YtdjjagpecbflnaaGreatDoor
