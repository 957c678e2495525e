/-
  CONTRACTS of the program's chapters 11, 12.
-/
import Derived.Test.YtlinlmmcgifloaaDoorCh11M
import Derived.Test.YtlinlmmcgifloaaDoorCh3I
import Derived.Test.YtlinlmmcgifloaaDoorSgA
import Derived.Test.YtlinlmmcgifloaaDoorSgL
import Derived.WalkMore
import Derived.ScopeJumps
import Derived.StillTailTactics
import Derived.Maps.AppendAt

/-
  CONTRACTS of the program's chapter 11: the search for factorizations. (Own work: mkI40.py.)
-/
namespace Go.Proofs.YtlinlmmcgifloaaDoor
open Go Go.RowKit
attribute [local go_sem] Oper.semAt_some

theorem exists_least {p : Nat → Prop} (h : ∃ n, p n) : ∃ n, p n ∧ ∀ m, m < n → ¬ p m := by
  obtain ⟨n, hn⟩ := h
  induction n using Nat.strongRecOn with
  | ind n ih =>
    by_cases hm : ∃ m, m < n ∧ p m
    · obtain ⟨m, h1, h2⟩ := hm
      exact ih m h1 h2
    · exact ⟨n, hn, fun m h1 h2 => hm ⟨m, h1, h2⟩⟩
/-- A scope in which the run jumps back to one label: J at every jump, its number less each time. -/
theorem wp_scope_down {P : Program} {c rest : Code} {a : Act} {w : World} {Q : Exit → Act → World → Prop} (l : Nat) (J : Nat → Act → World → Prop) (hf : findLabel c l = some (Code.skip.seq rest))
    (first : ∀ K : Exit → Act → World → Prop, (∀ n a w, J n a w → rest.wp P K a w) → c.wp P K a w)
    (pass : ∀ n a w, J n a w → rest.wp P (Exit.jump l (fun a' w' => ∃ m, m < n ∧ J m a' w') Q) a w) : (Code.scope c).wp P Q a w := by
  have key : ∀ (a : Act) (w : World), ∃ μ : Nat, (∃ n, J n a w) → J μ a w ∧ ∀ m, m < μ → ¬ J m a w := fun a w => by
    by_cases h : ∃ n, J n a w
    · obtain ⟨n, h1, h2⟩ := exists_least h
      exact ⟨n, fun _ => ⟨h1, h2⟩⟩
    · exact ⟨0, fun h' => absurd h' h⟩
  have sk : ∀ {K : Exit → Act → World → Prop} {a : Act} {w : World}, rest.wp P K a w → (Code.skip.seq rest).wp P K a w := fun h => wp_seq (wp_skip h)
  refine wp_scope_jumps l (fun a w => ∃ n, J n a w) (fun a w => Classical.choose (key a w)) hf (first _ fun n a w hJ => ?_) fun a w hJ => sk ?_
  · refine wp_mono (pass n a w hJ) ?_
    intro e a' w' hq
    cases e with
    | goto l' => obtain ⟨rfl, m, -, hj⟩ := hq; exact ⟨rfl, m, hj⟩
    | normal => exact hq
    | exit id => exact hq
    | ret => exact hq
    | panic ch => exact hq
    | outgrown => exact hq
  · have hs := Classical.choose_spec (key a w) hJ
    refine wp_mono (pass _ a w hs.1) ?_
    intro e a' w' hq
    cases e with
    | goto l' =>
      obtain ⟨rfl, m, hm, hj⟩ := hq
      have hs' := Classical.choose_spec (key a' w') ⟨m, hj⟩
      exact ⟨rfl, ⟨m, hj⟩, Nat.lt_of_le_of_lt (Nat.le_of_not_lt fun h => hs'.2 m h hj) hm⟩
    | normal => exact hq
    | exit id => exact hq
    | ret => exact hq
    | panic ch => exact hq
    | outgrown => exact hq

theorem infoSlL : (Tryd.prog.info? 24).map (fun i => (i.zero, i.size, i.bytes)) = some (some (Value.slice none 0 0), 1, 24) := by kernel_rfl

/-- How much the numbers on the stack (the last first) take. -/
def dotS (G : List Int) : List Nat → Nat
  | [] => 0
  | a :: S => a * (G.getD S.length 0).toNat + dotS G S
/-- The state of the search: what was found, the stack in a row of its own. -/
structure Fact (w W : World) (G : List Int) (n : Nat) (S : List Nat) (m : Nat) (F : List (List Int)) (v : Value) (vs : List Value) (tv : Value) : Prop where
  rows : Rows2 W w.heap.size W.heap.size v vs (F.map fun L => L.map (Value.int .i64))
  own : W.ownsRow w.heap.size 3 1 tv S.length ((S.reverse.map Int.ofNat).map (Value.int .i64))
  free : ∀ b, tv.ownBlock = some b → v.ownBlock ≠ some b ∧ ∀ i (h : i < vs.length), vs[i].ownBlock ≠ some b
  dot : m + dotS G S = n
  le : S.length ≤ G.length
  bel : Below w.heap.size w W
theorem dotS_cons (G : List Int) (a : Nat) (S : List Nat) : dotS G (a :: S) = a * (G.getD S.length 0).toNat + dotS G S := rfl
theorem dotS_le {G : List Int} {S : List Nat} (hG : ∀ g ∈ G, 1 ≤ g) (h : S.length ≤ G.length) : ∀ x ∈ S, x ≤ dotS G S := by
  induction S with
  | nil => intro x hx; cases hx
  | cons a S ih =>
    intro x hx
    have hl : S.length < G.length := h
    have hg : 1 ≤ (G.getD S.length 0).toNat := by
      rw [List.getD_eq_getElem?_getD, List.getElem?_eq_getElem hl]
      have := hG _ (List.getElem_mem hl)
      simp; omega
    have ha : a ≤ a * (G.getD S.length 0).toNat := Nat.le_mul_of_pos_right a hg
    unfold dotS
    rcases List.mem_cons.1 hx with rfl | hx
    · omega
    · have := ih (Nat.le_of_lt hl) x hx; omega
theorem Rows2.keepU {w w' : World} {lo hi : Nat} {v : Value} {vs : List Value} {xss : List (List Value)} (h : Rows2 w lo hi v vs xss) (hs : w.heap.size ≤ w'.heap.size)
    (hb : ∀ b, b < hi → (v.ownBlock = some b ∨ ∃ i, ∃ h : i < vs.length, vs[i].ownBlock = some b) → w'.heap[b]? = w.heap[b]?) : Rows2 w' lo hi v vs xss :=
  ⟨row_kept h.own fun j hj => hb j (h.blk j hj) (.inl hj), h.len, fun i h1 h2 => by
    have r := h.inn i h1 h2
    exact ⟨row_kept r.own fun j hj => hb j (r.blk j hj) (.inr ⟨i, h1, hj⟩), r.blk, Nat.le_trans r.hi_le hs⟩, h.blk, Nat.le_trans h.hi_le hs, h.apart, h.outer⟩
theorem Rows2.used {w : World} {lo hi : Nat} {v : Value} {vs : List Value} {xss : List (List Value)} (h : Rows2 w lo hi v vs xss) {b : Nat} (hb : v.ownBlock = some b ∨ ∃ i, ∃ h : i < vs.length, vs[i].ownBlock = some b) : b < hi := by
  rcases hb with hb | ⟨i, hi', hb⟩
  · exact h.blk b hb
  · exact (h.inn i hi' (by rw [← h.len]; exact hi')).blk b hb
section
variable {w W W' : World} {G : List Int} {n : Nat} {S : List Nat} {m : Nat} {F : List (List Int)} {v : Value} {vs : List Value} {tv : Value}
theorem Fact.not (h : Fact w W G n S m F v vs tv) {b : Nat} (hb : v.ownBlock = some b ∨ ∃ i, ∃ h : i < vs.length, vs[i].ownBlock = some b) : tv.ownBlock ≠ some b := fun e => by
  obtain ⟨h1, h2⟩ := h.free b e
  rcases hb with hb | ⟨i, hi', hb⟩
  · exact h1 hb
  · exact h2 i hi' hb
theorem Fact.drew (h : Fact w W G n S m F v vs tv) : Fact w W.drew G n S m F v vs tv :=
  ⟨h.rows.keep (Nat.le_refl _) fun _ _ _ => rfl, h.own, h.free, h.dot, h.le, h.bel.drew⟩
/-- A number more on the stack. -/
theorem Fact.pushed (h : Fact w W G n S m F v vs tv) (o : Obj) (q m' : Nat) {g c : Nat} (ho : W'.ownsRow w.heap.size 3 1 (.slice (some ⟨g, 0, none⟩) (S.length + 1) c) (S.length + 1) ((S.reverse.map Int.ofNat).map (Value.int .i64) ++ [.int .i64 (q : Int)])) (hg : (W.alloc o).grownBy W' tv.ownBlock)
    (hat : tv.ownBlock = some g ∨ g = (W.alloc o).heap.size) (hd : m' + dotS G (q :: S) = n) (hl : S.length + 1 ≤ G.length) : Fact w W' G n (q :: S) m' F v vs (.slice (some ⟨g, 0, none⟩) (S.length + 1) c) := by
  have hz : (W.alloc o).heap.size = W.heap.size + 1 := by simp
  have hsz := hg.size
  refine ⟨?_, by rw [List.length_cons, rev_ofNat, List.map_append]; exact ho, fun b hb => ?_, hd, by rw [List.length_cons]; exact hl, (h.bel.alloc h.bel.size o).grown hg (by simp; have := h.bel.size; omega) fun j hj => (h.own.lt j hj).1⟩
  · exact (h.rows.keepU (by omega) fun b hb hu => by
      rw [hg.block b (by omega) fun e => h.not hu e.symm]
      exact Below.heap_alloc W o b hb).wider (Nat.le_refl _) (by omega) (Nat.le_refl _)
  · have e : b = g := by simp [Value.ownBlock] at hb; exact hb.symm
    subst e
    rcases hat with ht | ht
    · exact h.free b ht
    · constructor
      · intro e'; have := h.rows.used (.inl e'); omega
      · intro i hi' e'; have := h.rows.used (.inr ⟨i, hi', e'⟩); omega
theorem owns_put2 {w : World} {base : Nat} {e : TypeId} {g n cap : Nat} {xs : List Value} (h : w.ownsRow base e 1 (.slice (some ⟨g, 0, none⟩) n cap) n xs) (j : Nat) (u : Value) :
    (w.setCell ⟨g, j, none⟩ u).ownsRow base e 1 (.slice (some ⟨g, 0, none⟩) n cap) n (xs.set j u) := by
  obtain ⟨hx, hv | ⟨g', cap', cur, hv, h1, h2, h3, h4, h5, h6⟩⟩ := h
  · cases hv.1
  · injection hv with hv hv2 hv3
    injection hv with hv
    injection hv with hv
    subst hv hv3
    refine ⟨by rw [List.length_set]; exact hx, .inr ⟨g, cap, cur.setIfInBounds j u, rfl, h1, heap_setCell_same w g j cur e u h2, h3, h4, by rw [Array.size_setIfInBounds]; exact h5, ?_⟩⟩
    rw [Array.toList_setIfInBounds, List.take_set, h6]
theorem owns_cut {w : World} {base : Nat} {e : TypeId} {g n k cap : Nat} {xs : List Value} (h : w.ownsRow base e 1 (.slice (some ⟨g, 0, none⟩) n cap) n xs) (hk : k ≤ n) :
    w.ownsRow base e 1 (.slice (some ⟨g, 0, none⟩) k cap) k (xs.take k) := by
  obtain ⟨hx, hv | ⟨g', cap', cur, hv, h1, h2, h3, h4, h5, h6⟩⟩ := h
  · cases hv.1
  · injection hv with hv hv2 hv3
    injection hv with hv
    injection hv with hv
    subst hv hv3
    refine ⟨by rw [List.length_take]; omega, .inr ⟨g, cap, cur, rfl, h1, h2, by omega, h4, h5, ?_⟩⟩
    rw [← h6, List.take_take]
    congr 1; omega
/-- The last number on the stack is one less. -/
theorem Fact.less {g c a' b : Nat} (h : Fact w W G n (a' :: S) m F v vs (.slice (some ⟨g, 0, none⟩) (S.length + 1) c)) (m' : Nat) (hd : m' + dotS G (b :: S) = n) :
    Fact w (W.setCell ⟨g, S.length, none⟩ (.int .i64 (b : Int))) G n (b :: S) m' F v vs (.slice (some ⟨g, 0, none⟩) (S.length + 1) c) := by
  have hg : (Value.slice (some ⟨g, 0, none⟩) (S.length + 1) c).ownBlock = some g := by simp [Value.ownBlock]
  have hp := owns_put2 h.own S.length (.int .i64 (b : Int))
  have hgr := grownBy_setCell W g S.length (.int .i64 (b : Int))
  refine ⟨?_, ?_, h.free, hd, h.le, h.bel.setCell (p := ⟨g, S.length, none⟩) (h.own.lt g hg).1 _⟩
  · exact (h.rows.keepU hgr.size fun b' hb' hu => hgr.block b' hb' fun e => h.not hu (by rw [hg]; exact e.symm)).wider (Nat.le_refl _) hgr.size (Nat.le_refl _)
  · have e : ((a' :: S).reverse.map Int.ofNat).map (Value.int .i64) = (S.reverse.map Int.ofNat).map (Value.int .i64) ++ [.int .i64 (a' : Int)] := by rw [rev_ofNat, List.map_append]; rfl
    have e2 : ((b :: S).reverse.map Int.ofNat).map (Value.int .i64) = (S.reverse.map Int.ofNat).map (Value.int .i64) ++ [.int .i64 (b : Int)] := by rw [rev_ofNat, List.map_append]; rfl
    rw [e, List.set_append_right _ _ (by simp)] at hp
    rw [e2]
    simpa using hp
/-- The last number leaves the stack. -/
theorem Fact.popped {g c a' : Nat} (h : Fact w W G n (a' :: S) m F v vs (.slice (some ⟨g, 0, none⟩) (S.length + 1) c)) (m' : Nat) (hd : m' + dotS G S = n) :
    Fact w W G n S m' F v vs (.slice (some ⟨g, 0, none⟩) S.length c) := by
  have ho := owns_cut (k := S.length) h.own (by simp)
  have e : ((a' :: S).reverse.map Int.ofNat).map (Value.int .i64) = (S.reverse.map Int.ofNat).map (Value.int .i64) ++ [.int .i64 (a' : Int)] := by rw [rev_ofNat, List.map_append]; rfl
  rw [e, List.take_left' (by simp)] at ho
  exact ⟨h.rows, ho, fun b hb => h.free b (by simpa [Value.ownBlock] using hb), hd, Nat.le_of_succ_le h.le, h.bel⟩
/-- What was found: the stack's copy goes behind the others. -/
theorem Fact.found {W1 : World} {u : Value} {g c : Nat} (h : Fact w W G n S m F v vs tv) (hb1 : Below W.heap.size W W1) (hu : W1.ownsRow W.heap.size 3 1 u S.length ((S.reverse.map Int.ofNat).map (Value.int .i64))) (o : Obj)
    (ho : W'.ownsRow w.heap.size 24 1 (.slice (some ⟨g, 0, none⟩) (vs.length + 1) c) (vs.length + 1) (vs ++ [u])) (hg : (W1.alloc o).grownBy W' v.ownBlock) (hat : v.ownBlock = some g ∨ g = (W1.alloc o).heap.size) :
    Fact w W' G n S m (F ++ [S.reverse.map Int.ofNat]) (.slice (some ⟨g, 0, none⟩) (vs.length + 1) c) (vs ++ [u]) tv := by
  have hz : (W1.alloc o).heap.size = W1.heap.size + 1 := by simp
  have hs1 := hb1.size
  have hbz := h.bel.size
  have hr2 : Rows2 (W1.alloc o) w.heap.size W.heap.size v vs (F.map fun L => L.map (Value.int .i64)) := (h.rows.below hb1).below (box_below W1 o)
  have hu2 : (W1.alloc o).ownsRow W.heap.size 3 1 u ((S.reverse.map Int.ofNat).map (Value.int .i64)).length ((S.reverse.map Int.ofNat).map (Value.int .i64)) := by
    have e : ((S.reverse.map Int.ofNat).map (Value.int .i64)).length = S.length := by simp
    rw [e]; exact owns_below hu (box_below W1 o)
  have ht : ∀ b, tv.ownBlock = some b → b < W.heap.size := fun b hb => (h.own.lt b hb).2
  refine ⟨?_, row_kept h.own fun j hj => ?_, fun b hb => ⟨fun e => ?_, fun i hi' e => ?_⟩, h.dot, h.le, ((h.bel.trans (hb1.mono hbz)).trans ((box_below W1 o).mono (Nat.le_trans hbz hs1))).grown hg (by omega) fun j hj => (h.rows.own.lt j hj).1⟩
  · rw [List.map_append]
    exact hr2.snoc ho hg hu2 hbz fun b hb => by
      have e : b = g := by simp [Value.ownBlock] at hb; exact hb.symm
      subst e
      rcases hat with h1 | h1
      · exact .inl h1
      · exact .inr (by omega)
  · have hj' := ht j hj
    rw [hg.block j (by omega) fun e => (h.free j hj).1 e.symm, Below.heap_alloc W1 o j (by omega)]
    exact hb1.block j hj'
  · have e' : b = g := by simp [Value.ownBlock] at e; exact e.symm
    have hb' := ht b hb
    rcases hat with h1 | h1
    · exact (h.free b hb).1 (by rw [e']; exact h1)
    · omega
  · have hb' := ht b hb
    by_cases hi2 : i < vs.length
    · rw [List.getElem_append_left hi2] at e
      exact (h.free b hb).2 i hi2 e
    · have e2 : i = vs.length := by simp at hi'; omega
      subst e2
      rw [List.getElem_append_right (Nat.le_refl _)] at e
      simp only [Nat.sub_self, List.getElem_cons_zero] at e
      have := (hu.lt b e).1
      omega
end
theorem clone_any2 (L : List Int) (a : Option Addr) (c : Nat) (w : World) (hr : SlV w a (L.map (Value.int .i64))) (hb : L.length ≤ 1048576) :
    Calls Tryd.prog 48 #[.slice a L.length c] w fun e w' => ∃ v, e = .returned v ∧ w'.ownsRow w.heap.size 3 1 v L.length (L.map (Value.int .i64)) ∧ Below w.heap.size w w' := by
  by_cases hn : L = []
  · subst hn
    cases a with
    | none =>
      refine (Tryd.slices_Clone_int_nil 0 c w).mono ?_
      rintro e w' ⟨rfl, rfl⟩
      exact ⟨_, rfl, World.ownsRow_nil _ _ _ _, Below.refl _ _⟩
    | some ad =>
      refine (Tryd.slices_Clone_int_zero ad c w).mono ?_
      rintro e w' ⟨v, rfl, ho, -, hb⟩
      exact ⟨v, rfl, ho, hb⟩
  · obtain ⟨b, off, rfl, hbs, hc⟩ := hr.open (by intro h; rw [List.map_eq_nil_iff] at h; exact hn h)
    refine (Tryd.slices_Clone_int b off L.length c L w (Nat.le_refl _) (by omega) (fun j hj => ?_)).mono ?_
    · rw [List.getD_eq_getElem?_getD, List.getElem?_eq_getElem hj]
      exact hc j _ (by simp [hj])
    · rintro e w' ⟨v, rfl, ho, -, hb⟩
      rw [List.take_length] at ho
      exact ⟨v, rfl, ho, hb⟩
theorem own_one {w : World} {base n : Nat} {u : Value} {xs : List Value} (h : w.ownsRow base 3 1 u n xs) : ∀ y ∈ [u], y.oneCell' = true := by
  intro y hy
  rw [List.mem_singleton] at hy
  subst hy
  rcases h.2 with ⟨rfl, _⟩ | ⟨g, cap, cur, rfl, _⟩ <;> rfl
theorem cell_last {W : World} {g x : Nat} {S : List Nat} (hH : Sort.Holds (Value.int .i64) W g 0 ((x :: S).reverse.map Int.ofNat).toArray) : W.cell? ⟨g, S.length, none⟩ = some (.int .i64 (x : Int)) ∧ W.frozen? ⟨g, S.length, none⟩ = false := by
  obtain ⟨h1, h2⟩ := hH S.length (by simp)
  have e : ((x :: S).reverse.map Int.ofNat).toArray[S.length]! = (x : Int) := by
    rw [getElem!_def]
    have : ((x :: S).reverse.map Int.ofNat)[S.length]? = some (x : Int) := by
      rw [rev_ofNat, List.getElem?_append_right (by simp)]; simp
    simp only [List.getElem?_toArray, this]
  rw [e, Nat.zero_add] at h1
  rw [Nat.zero_add] at h2
  exact ⟨h1, h2⟩
def lenOf : Value → Nat
  | .slice _ n _ => n
  | _ => 0

set_option maxRecDepth 100000 in
set_option maxHeartbeats 3200000 in
theorem impl_search (G : List Int) (n : Nat) (a : Option Addr) (cap : Nat) (w : World) (hr : SlV w a (G.map (Value.int .i64))) (hs : isSgB G = true) (hn : n ≤ 100) :
    Calls Tryd.prog 26 #[.slice a G.length cap, .int .i64 (n : Int)] w (SsPost (findF G n) w) := by
  have HL := Lib.hid hs
  have hG := (isSgB_iff.1 hs).bounds
  have hGl := (isSgB_iff.1 hs).len
  have HB := Lib.hid (fun k m hm => findF_bound hs k m hm)
  have HB0 : (findF G n).length ≤ 31381059609 := HB.out 0 n hn
  obtain ⟨i0, hi, hz0, hz1, hz2⟩ := info_parts infoIntL
  obtain ⟨j0, ji, jz0, jz1, jz2⟩ := info_parts infoSlL
  go_enter Tryd.func26, Tryd.ntmps26
  go_wp2_with fail
  refine wp_scope_down 0 (fun (μ : Nat) (a' : Act) (w' : World) => ∃ (S : List Nat) (m : Nat) (F : List (List Int)) (v : Value) (vs : List Value) (tv : Value), Fact w w' G n S m F v vs tv ∧ Hid (F ++ (todo G S m).filterMap okF = findF G n) ∧ Hid ((todo G S m).length = μ) ∧ ∃ u8 u9 u10 u11 u12 u13 u14 u15 u16 u17 u18 u19 u20 u21 u22 u23 u24 u25 u26 u27 u28 u29 u30 u31 u32 u33 u34 u35 u36 u37 u38 u39 u40 u41 u42 u43 u44 u45 u46 u47 u48 u49 u50 u51 u52 u53 u54 u55 u56 u57 u58 u59 u60 u61 u62 u63 u64 u65 u66 u67 u68 u69 u70 u71 u72 u73 u74 u75 u76 u77 u78 u79 u80 u81 : Value, a' = { tmps := #[.slice a G.length cap, .int .i64 (n : Int), undef, undef, .slice none 0 0, v, tv, .int .i64 (m : Int), u8, u9, u10, u11, u12, u13, u14, u15, u16, u17, u18, u19, u20, u21, u22, u23, u24, u25, u26, u27, u28, u29, u30, u31, u32, u33, u34, u35, u36, u37, u38, u39, u40, u41, u42, u43, u44, u45, u46, u47, u48, u49, u50, u51, u52, u53, u54, u55, u56, u57, u58, u59, u60, u61, u62, u63, u64, u65, u66, u67, u68, u69, u70, u71, u72, u73, u74, u75, u76, u77, u78, u79, u80, u81], defers := [] }) rfl ?first ?pass
  case first =>
    intro K hK
    go_wp2_with fail
    go_step3
    rename_i K1 h1
    refine h1 _ _ (hK _ _ _ ⟨[], n, [], .slice none 0 0, [], .slice none 0 0, ⟨Rows2.nil _ _ _ (Nat.le_refl _), World.ownsRow_nil _ _ _ _, fun b hb => by simp [Value.ownBlock] at hb, by simp [dotS], Nat.zero_le _, Below.refl _ _⟩, Lib.hid (by rw [todo_start]; rfl), Lib.hid rfl, _, _, _, _, _, _, _, _, _, _, _, _, _, _, _, _, _, _, _, _, _, _, _, _, _, _, _, _, _, _, _, _, _, _, _, _, _, _, _, _, _, _, _, _, _, _, _, _, _, _, _, _, _, _, _, _, _, _, _, _, _, _, _, _, _, _, _, _, _, _, _, _, _, _, rfl⟩)
  case pass =>
    rintro μ a' w' ⟨S, m, F, v, vs, tv, hF, HT, HM, u8, u9, u10, u11, u12, u13, u14, u15, u16, u17, u18, u19, u20, u21, u22, u23, u24, u25, u26, u27, u28, u29, u30, u31, u32, u33, u34, u35, u36, u37, u38, u39, u40, u41, u42, u43, u44, u45, u46, u47, u48, u49, u50, u51, u52, u53, u54, u55, u56, u57, u58, u59, u60, u61, u62, u63, u64, u65, u66, u67, u68, u69, u70, u71, u72, u73, u74, u75, u76, u77, u78, u79, u80, u81, rfl⟩
    have hFl : (F.map fun L => L.map (Value.int .i64)).length = vs.length := hF.rows.len.symm
    have hvl : vs.length ≤ 31381059609 := by have h := congrArg List.length HT.out; rw [List.length_append] at h; rw [List.length_map] at hFl; omega
    clear hFl
    go_wp2_with fail
    go_loopw [6, 7] (fun tv l wr => ∃ (S : List Nat) (m : Nat), l = .int .i64 (m : Int) ∧ Fact w wr G n S m F v vs tv ∧ Hid (F ++ (todo G S m).filterMap okF = findF G n) ∧ Hid ((todo G S m).length = μ)) (fun tv _ _ => G.length - lenOf tv)
    case atStart => exact ⟨S, m, rfl, hF, HT, HM⟩
    case round =>
      clear hF HT HM
      obtain ⟨S, m, rfl, hF, HT, HM⟩ := hrel
      obtain ⟨at_, ct, rfl, rT⟩ := row_open hF.own
      clear rT
      have hbz := hF.bel.size
      have hSle := hF.le
      have hdot := hF.dot
      by_cases hlt : S.length < G.length
      · have hlti : (S.length : Int) < (G.length : Int) := by omega
        obtain ⟨b, off, rfl, hbs, hcl⟩ := hr.open (by intro h; rw [List.map_eq_nil_iff] at h; subst h; simp at hlt)
        have hcg : wr.cell? ⟨b, off + S.length, none⟩ = some (.int .i64 G[S.length]) := (hF.bel.cell (p := ⟨b, off + S.length, none⟩) hbs).trans (hcl _ _ (by simp [hlt]))
        obtain ⟨hg1, hg60⟩ := hG G[S.length] (List.getElem_mem hlt)
        obtain ⟨gn, hgn⟩ := Int.eq_ofNat_of_zero_le (show 0 ≤ G[S.length] by omega)
        have hgd : (G.getD S.length 0).toNat = gn := by rw [List.getD_eq_getElem?_getD, List.getElem?_eq_getElem hlt]; simp [hgn]
        have HTF := Lib.hid (todo_fill m hlt hg1)
        have hk0 : (0 : Int) ≤ (S.length : Int) := by omega
        have hgn1 : 1 ≤ gn := by omega
        rw [hgn] at hcg HTF
        rw [Int.toNat_natCast] at HTF
        have HD : Hid (m % gn + dotS G (m / gn :: S) = n) := Lib.hid (by rw [dotS_cons, hgd]; have h1 := Nat.mod_add_div m gn; rw [Nat.mul_comm] at h1; omega)
        have hqz : ((gn : Int) == 0) = false := by rw [beq_eq_false_iff_ne]; omega
        have hmq : m / gn ≤ 100 := Nat.le_trans (Nat.div_le_self m gn) (by omega)
        have hwq : wrap64 ((m : Int) / (gn : Int)) = ((m / gn : Nat) : Int) := by rw [show (m : Int) / (gn : Int) = ((m / gn : Nat) : Int) from (Int.natCast_ediv m gn).symm]; generalize m / gn = q at hmq ⊢; unfold wrap64; omega
        have hwr : (m : Int) % (gn : Int) = ((m % gn : Nat) : Int) := (Int.natCast_emod m gn).symm
        clear hcl hgn hgd hdot
        go_wp2_with (first | (at_builtin; refine wpList_append_lies _ rfl _ _ 24 rfl w.heap.size 3 i0 (Value.int .i64 0) 1 8 Tryd.underlying24 hi hz0 hz1 hz2 rfl (by decide) (.slice at_ S.length ct) S.length _ rfl (hF.own.alloc _) ⟨wr.heap.size, 0, none⟩ 1 1 [.int .i64 ((m / gn : Nat) : Int)] rfl rfl (World.news_of_block (cs := #[.int .i64 ((m / gn : Nat) : Int)]) (t := 3) (fr := (0, 0)) (heap_alloc_new wr _)) (by simp [Value.oneCell']) (by omega) (by unfold maxLen; omega) (by omega) (by simp; omega) _ rfl ?_; intro g6 c6 w6 hown6 hg6 hat6 hlt6))
        have hF6 := hF.pushed _ (m / gn) (m % gn) hown6 hg6 hat6 HD.out (by omega)
        clear hown6 hg6 hat6 hF hcg
        go_roundw
        case rel => exact ⟨m / gn :: S, m % gn, by go_num, hF6, by rw [← HTF.out]; exact HT, by rw [← HTF.out]; exact HM⟩
        case measure => simp [lenOf]; omega
      · have hle : S.length = G.length := by omega
        have HFU := Lib.hid (todo_full m hle)
        rw [HFU.out] at HT HM
        clear HFU
        have hlti : ¬ (S.length : Int) < (G.length : Int) := by omega
        have hlS : (S.reverse.map Int.ofNat).length = S.length := by simp
        by_cases hm0 : m = 0
        · have hmz : ((m : Int) == 0) = true := by rw [beq_iff_eq]; omega
          have HT8 : Hid ((F ++ [S.reverse.map Int.ofNat]) ++ (backs G S m).filterMap okF = findF G n) := Lib.hid (by have h := HT.out; rw [List.filterMap_cons_some (b := S.reverse.map Int.ofNat) (by unfold okF; rw [if_pos hm0])] at h; rw [List.append_assoc]; exact h)
          have HM8 : Hid ((backs G S m).length < μ) := Lib.hid (by have h := HM.out; rw [List.length_cons] at h; omega)
          obtain ⟨at2, ct2, e2, rT⟩ := row_open hF.own
          cases e2
          have cC := clone_any2 (S.reverse.map Int.ofNat) at_ ct wr rT.slv (by omega)
          rw [hlS] at cC
          obtain ⟨av, cv, rfl⟩ := rows2_open hF.rows
          clear HT HM hle hm0 rT hlS
          go_wp2_with fail
          refine cC.mono ?_
          rintro e w7 ⟨u, rfl, hu, hb7⟩
          obtain ⟨au, cu, rfl, rU⟩ := row_open hu
          clear rU
          have hown7 := owns_below (hF.rows.own) hb7
          have hbz7 := hb7.size
          clear cC
          go_wp2_with (first | (at_builtin; refine wpList_append_lies _ rfl _ _ 29 rfl w.heap.size 24 j0 (Value.slice none 0 0) 1 24 Tryd.underlying29 ji jz0 jz1 jz2 rfl (by decide) (.slice av vs.length cv) vs.length vs rfl (hown7.alloc _) ⟨w7.heap.size, 0, none⟩ 1 1 [.slice au S.length cu] rfl rfl (World.news_of_block (cs := #[.slice au S.length cu]) (t := 24) (fr := (0, 0)) (heap_alloc_new w7 _)) (own_one hu) (by omega) (by unfold maxLen; omega) (by omega) (by simp; omega) _ rfl ?_; intro g8 c8 w8 hown8 hg8 hat8 hlt8))
          have hF8 := hF.found hb7 hu _ hown8 hg8 hat8
          clear hown8 hg8 hat8 hown7 hu hb7 hF
          obtain ⟨FF, hFF⟩ : ∃ FF, FF = (F ++ [S.reverse.map Int.ofNat]) := ⟨_, rfl⟩
          obtain ⟨VS, hVS⟩ : ∃ VS, VS = (vs ++ [.slice au S.length cu]) := ⟨_, rfl⟩
          rw [← hFF] at hF8 HT8
          rw [← hVS] at hF8
          clear hFF hVS
          go_loopw [6, 7] (fun tv l wr => ∃ (S : List Nat) (m : Nat), l = .int .i64 (m : Int) ∧ Fact w wr G n S m FF (.slice (some ⟨g8, 0, none⟩) (vs.length + 1) c8) VS tv ∧ Hid (FF ++ (backs G S m).filterMap okF = findF G n) ∧ Hid ((backs G S m).length < μ)) (fun tv _ _ => lenOf tv)
          case atStart => exact ⟨S, m, rfl, hF8, HT8, HM8⟩
          case round =>
            clear hF8 HT8 HM8
            obtain ⟨S, m, rfl, hF, HT, HM⟩ := hrel
            have hbz := hF.bel.size
            have hSle := hF.le
            have hdot := hF.dot
            cases S with
            | nil =>
              obtain ⟨at_, ct, rfl, rT⟩ := row_open hF.own
              clear rT
              have HE : Hid (FF = findF G n) := Lib.hid (by have h := HT.out; rw [backs_nil, List.filterMap_nil, List.append_nil] at h; exact h)
              go_wp2_with fail
              simp only [Exit.jump]
              go_ret
              exact ⟨_, VS, rfl, by rw [← HE.out]; exact hF.rows, hF.bel⟩
            | cons x S =>
              have hlt : S.length < G.length := hSle
              obtain ⟨gT, cT, rfl, hgT, hgl, hnc, hcm, -, hH⟩ := Lib.holds_of_ownsRow hF.own (by rintro rfl; rcases hF.own.2 with ⟨-, h⟩ | ⟨g, cap, cur, e, -⟩; simp at h; cases e)
              have hcx := cell_last hH
              clear hH
              obtain ⟨b, off, rfl, hbs, hcl⟩ := hr.open (by intro h; rw [List.map_eq_nil_iff] at h; subst h; simp at hlt)
              have hcg : wr.cell? ⟨b, off + S.length, none⟩ = some (.int .i64 G[S.length]) := (hF.bel.cell (p := ⟨b, off + S.length, none⟩) hbs).trans (hcl _ _ (by simp [hlt]))
              obtain ⟨hg1, hg60⟩ := hG G[S.length] (List.getElem_mem hlt)
              obtain ⟨gn, hgn⟩ := Int.eq_ofNat_of_zero_le (show 0 ≤ G[S.length] by omega)
              have hgd : (G.getD S.length 0).toNat = gn := by rw [List.getD_eq_getElem?_getD, List.getElem?_eq_getElem hlt]; simp [hgn]
              rw [List.length_cons] at hF hnc ⊢
              have hx100 : x ≤ 100 := by have h1 := dotS_le (fun g hg => (hG g hg).1) hSle x (by simp); omega
              have hgd2 : dotS G (x :: S) = x * gn + dotS G S := by rw [dotS_cons, hgd]
              have hxg : x * gn ≤ 100 := by omega
              obtain ⟨hcx1, hcx2⟩ := hcx
              rw [hgn] at hcg
              have hk0 : (0 : Int) ≤ (S.length : Int) := by omega
              have hk1 : (S.length : Int) < (S.length : Int) + 1 := by omega
              by_cases hc : S.length + 1 < G.length ∧ 0 < x
              · obtain ⟨hc1, hc2⟩ := hc
                obtain ⟨y, rfl⟩ : ∃ y, x = y + 1 := ⟨x - 1, by omega⟩
                have hbk := backs_less (G := G) (S := S) y m hc1
                rw [hgd] at hbk
                have HT2 : Hid (FF ++ (todo G (y :: S) (m + gn)).filterMap okF = findF G n) := Lib.hid (by rw [← hbk]; exact HT.out)
                have HM2 : Hid ((todo G (y :: S) (m + gn)).length < μ) := Lib.hid (by rw [← hbk]; exact HM.out)
                have hD2 : m + gn + dotS G (y :: S) = n := by
                  have h1 : dotS G (y :: S) = y * gn + dotS G S := by rw [dotS_cons, hgd]
                  rw [Nat.add_mul, Nat.one_mul] at hgd2
                  omega
                have hF2 := hF.less (b := y) (m + gn) hD2
                have hci : (S.length : Int) < (G.length : Int) - 1 := by omega
                have hyi : (0 : Int) < ((y + 1 : Nat) : Int) := by omega
                have hcg2 : (wr.setCell ⟨gT, S.length, none⟩ (.int .i64 (y : Int))).cell? ⟨b, off + S.length, none⟩ = some (.int .i64 (gn : Int)) := (World.cell?_setCell_far wr ⟨gT, S.length, none⟩ ⟨b, off + S.length, none⟩ _ (by dsimp only; omega)).trans hcg
                clear HT HM hbk hcl hgd hgn hgd2 hdot hF hxg
                go_wp2_with fail
                go_step3
                refine And.intro rfl ?_
                refine Exists.intro (todo G (y :: S) (m + gn)).length (And.intro HM2.out ?_)
                exact ⟨y :: S, m + gn, FF, _, VS, _, hF2, HT2, Lib.hid rfl, _, _, _, _, _, _, _, _, _, _, _, _, _, _, _, _, _, _, _, _, _, _, _, _, _, _, _, _, _, _, _, _, _, _, _, _, _, _, _, _, _, _, _, _, _, _, _, _, _, _, _, _, _, _, _, _, _, _, _, _, _, _, _, _, _, _, _, _, _, _, _, _, _, _, rfl⟩
              · have hbk := backs_pop (G := G) (S := S) x m (by omega)
                rw [hgd] at hbk
                rw [hbk] at HT HM
                have hF2 := hF.drew.popped (m + x * gn) (by omega)
                have hS0 : wr.drew.cell? ⟨gT, S.length, none⟩ = some (.int .i64 (x : Int)) ∧ wr.drew.cell? ⟨b, off + S.length, none⟩ = some (.int .i64 (gn : Int)) := ⟨hcx1, hcg⟩
                have hp : (x : Int) * (gn : Int) = ((x * gn : Nat) : Int) := by simp
                have hp0 : 0 ≤ (x : Int) * (gn : Int) := by omega
                have hp1 : (x : Int) * (gn : Int) ≤ 100 := by omega
                clear hp
                have hw3 : IntKind.i64.wrap ((x : Int) * (gn : Int)) = (x : Int) * (gn : Int) := IntWalk.i64_in _ (by omega)
                have hw4 : IntKind.i64.wrap ((m : Int) + (x : Int) * (gn : Int)) = (m : Int) + (x : Int) * (gn : Int) := IntWalk.i64_in _ (by omega)
                clear hbk hcl hgd hgn hgd2 hdot hF
                by_cases hc1 : S.length + 1 < G.length
                · have hx0 : x = 0 := by omega
                  have hci : (S.length : Int) < (G.length : Int) - 1 := by omega
                  have hxi2 : ¬ (0 : Int) < (x : Int) := by omega
                  have hxd : decide ((0 : Int) < (x : Int)) = false := decide_eq_false hxi2
                  replace hx0 := Lib.hid hx0
                  go_wp2_with fail
                  refine wp_region_held_drew (S := fun w' => w'.cell? ⟨gT, S.length, none⟩ = some (.int .i64 (x : Int)) ∧ w'.cell? ⟨b, off + S.length, none⟩ = some (.int .i64 (gn : Int))) (by kernel_rfl) hS0 (fun hHeld => ?_)
                  refine held_take 0 _ _ rfl (by kernel_rfl) (by kernel_rfl) (by kernel_rfl) (fun _ _ _ h => h) (by rfl) hHeld (fun w hSw => by (try dsimp only at hSw); go_simp; try with_reducible rfl) ?_
                  (try simp only [Act.put, List.setIfInBounds_toArray, List.set_cons_zero, List.set_cons_succ, List.getElem_toArray, List.getElem_cons_zero])
                  refine held_take 1 _ _ rfl (by kernel_rfl) (by kernel_rfl) (by kernel_rfl) (fun _ _ _ h => h) (by rfl) hHeld (fun w hSw => by (try dsimp only at hSw); go_simp; try with_reducible rfl) ?_
                  (try simp only [Act.put, List.setIfInBounds_toArray, List.set_cons_zero, List.set_cons_succ, List.getElem_toArray, List.getElem_cons_succ, List.getElem_cons_zero])
                  refine held_take 2 _ _ rfl (by kernel_rfl) (by kernel_rfl) (by kernel_rfl) (fun _ _ _ h => h) (by rfl) hHeld (fun w hSw => by (try dsimp only at hSw); go_simp; try with_reducible rfl) ?_
                  (try simp only [Act.put, List.setIfInBounds_toArray, List.set_cons_zero, List.set_cons_succ, List.getElem_toArray, List.getElem_cons_succ, List.getElem_cons_zero])
                  refine held_take 3 _ _ rfl (by kernel_rfl) (by kernel_rfl) (by kernel_rfl) (fun _ _ _ h => h) (by rfl) hHeld (fun w hSw => by (try dsimp only at hSw); go_simp; try with_reducible rfl) ?_
                  (try simp only [Act.put, List.setIfInBounds_toArray, List.set_cons_zero, List.set_cons_succ, List.getElem_toArray, List.getElem_cons_succ, List.getElem_cons_zero])
                  refine held_take 4 _ _ rfl (by kernel_rfl) (by kernel_rfl) (by kernel_rfl) (fun _ _ _ h => h) (by rfl) hHeld (fun w hSw => by (try dsimp only at hSw); go_simp; try with_reducible rfl) ?_
                  (try simp only [Act.put, List.setIfInBounds_toArray, List.set_cons_zero, List.set_cons_succ, List.getElem_toArray, List.getElem_cons_succ, List.getElem_cons_zero])
                  refine held_take 5 _ _ rfl (by kernel_rfl) (by kernel_rfl) (by kernel_rfl) (fun _ _ _ h => h) (by rfl) hHeld (fun w hSw => by (try dsimp only at hSw); go_simp; try with_reducible rfl) ?_
                  (try simp only [Act.put, List.setIfInBounds_toArray, List.set_cons_zero, List.set_cons_succ, List.getElem_toArray, List.getElem_cons_succ, List.getElem_cons_zero])
                  refine held_take 6 _ _ rfl (by kernel_rfl) (by kernel_rfl) (by kernel_rfl) (fun _ _ _ h => h) (by rfl) hHeld (fun w hSw => by (try dsimp only at hSw); go_simp; try with_reducible rfl) ?_
                  (try simp only [Act.put, List.setIfInBounds_toArray, List.set_cons_zero, List.set_cons_succ, List.getElem_toArray, List.getElem_cons_succ, List.getElem_cons_zero])
                  refine held_take 7 _ _ rfl (by kernel_rfl) (by kernel_rfl) (by kernel_rfl) (fun _ _ _ h => h) (by rfl) hHeld (fun w hSw => by (try dsimp only at hSw); go_simp; try with_reducible rfl) ?_
                  (try simp only [Act.put, List.setIfInBounds_toArray, List.set_cons_zero, List.set_cons_succ, List.getElem_toArray, List.getElem_cons_succ, List.getElem_cons_zero])
                  refine held_take 8 _ _ rfl (by kernel_rfl) (by kernel_rfl) (by kernel_rfl) (fun _ _ _ h => h) (by rfl) hHeld (fun w hSw => by (try dsimp only at hSw); go_simp; try with_reducible rfl) ?_
                  (try simp only [Act.put, List.setIfInBounds_toArray, List.set_cons_zero, List.set_cons_succ, List.getElem_toArray, List.getElem_cons_succ, List.getElem_cons_zero])
                  refine held_take 9 _ _ rfl (by kernel_rfl) (by kernel_rfl) (by kernel_rfl) (fun _ _ _ h => h) (by rfl) hHeld (fun w hSw => by (try dsimp only at hSw); go_simp; try with_reducible rfl) ?_
                  (try simp only [Act.put, List.setIfInBounds_toArray, List.set_cons_zero, List.set_cons_succ, List.getElem_toArray, List.getElem_cons_succ, List.getElem_cons_zero])
                  refine held_take 10 _ _ rfl (by kernel_rfl) (by kernel_rfl) (by kernel_rfl) (fun _ _ _ h => h) (by rfl) hHeld (fun w hSw => by (try dsimp only at hSw); go_simp; try with_reducible rfl) ?_
                  (try simp only [Act.put, List.setIfInBounds_toArray, List.set_cons_zero, List.set_cons_succ, List.getElem_toArray, List.getElem_cons_succ, List.getElem_cons_zero])
                  refine held_take 11 _ _ rfl (by kernel_rfl) (by kernel_rfl) (by kernel_rfl) (fun _ _ _ h => h) (by rfl) hHeld (fun w hSw => by (try dsimp only at hSw); go_simp; try with_reducible rfl) ?_
                  (try simp only [Act.put, List.setIfInBounds_toArray, List.set_cons_zero, List.set_cons_succ, List.getElem_toArray, List.getElem_cons_succ, List.getElem_cons_zero])
                  refine wpAnyH_done (by kernel_rfl) ?_ _
                  go_wp2_with fail
                  go_roundw
                  case rel => exact ⟨S, m + x * gn, by first | go_num | simp, hF2, HT, HM⟩
                  case measure => simp [lenOf]
                · have hci : ¬ (S.length : Int) < (G.length : Int) - 1 := by omega
                  have hcd : decide ((S.length : Int) < (G.length : Int) - 1) = false := decide_eq_false hci
                  go_wp2_with fail
                  refine wp_region_held_drew (S := fun w' => w'.cell? ⟨gT, S.length, none⟩ = some (.int .i64 (x : Int)) ∧ w'.cell? ⟨b, off + S.length, none⟩ = some (.int .i64 (gn : Int))) (by kernel_rfl) hS0 (fun hHeld => ?_)
                  refine held_take 0 _ _ rfl (by kernel_rfl) (by kernel_rfl) (by kernel_rfl) (fun _ _ _ h => h) (by rfl) hHeld (fun w hSw => by (try dsimp only at hSw); go_simp; try with_reducible rfl) ?_
                  (try simp only [Act.put, List.setIfInBounds_toArray, List.set_cons_zero, List.set_cons_succ, List.getElem_toArray, List.getElem_cons_zero])
                  refine held_take 1 _ _ rfl (by kernel_rfl) (by kernel_rfl) (by kernel_rfl) (fun _ _ _ h => h) (by rfl) hHeld (fun w hSw => by (try dsimp only at hSw); go_simp; try with_reducible rfl) ?_
                  (try simp only [Act.put, List.setIfInBounds_toArray, List.set_cons_zero, List.set_cons_succ, List.getElem_toArray, List.getElem_cons_succ, List.getElem_cons_zero])
                  refine held_take 2 _ _ rfl (by kernel_rfl) (by kernel_rfl) (by kernel_rfl) (fun _ _ _ h => h) (by rfl) hHeld (fun w hSw => by (try dsimp only at hSw); go_simp; try with_reducible rfl) ?_
                  (try simp only [Act.put, List.setIfInBounds_toArray, List.set_cons_zero, List.set_cons_succ, List.getElem_toArray, List.getElem_cons_succ, List.getElem_cons_zero])
                  refine held_take 3 _ _ rfl (by kernel_rfl) (by kernel_rfl) (by kernel_rfl) (fun _ _ _ h => h) (by rfl) hHeld (fun w hSw => by (try dsimp only at hSw); go_simp; try with_reducible rfl) ?_
                  (try simp only [Act.put, List.setIfInBounds_toArray, List.set_cons_zero, List.set_cons_succ, List.getElem_toArray, List.getElem_cons_succ, List.getElem_cons_zero])
                  refine held_take 4 _ _ rfl (by kernel_rfl) (by kernel_rfl) (by kernel_rfl) (fun _ _ _ h => h) (by rfl) hHeld (fun w hSw => by (try dsimp only at hSw); go_simp; try with_reducible rfl) ?_
                  (try simp only [Act.put, List.setIfInBounds_toArray, List.set_cons_zero, List.set_cons_succ, List.getElem_toArray, List.getElem_cons_succ, List.getElem_cons_zero])
                  refine held_take 5 _ _ rfl (by kernel_rfl) (by kernel_rfl) (by kernel_rfl) (fun _ _ _ h => h) (by rfl) hHeld (fun w hSw => by (try dsimp only at hSw); go_simp; try with_reducible rfl) ?_
                  (try simp only [Act.put, List.setIfInBounds_toArray, List.set_cons_zero, List.set_cons_succ, List.getElem_toArray, List.getElem_cons_succ, List.getElem_cons_zero])
                  refine held_take 6 _ _ rfl (by kernel_rfl) (by kernel_rfl) (by kernel_rfl) (fun _ _ _ h => h) (by rfl) hHeld (fun w hSw => by (try dsimp only at hSw); go_simp; try with_reducible rfl) ?_
                  (try simp only [Act.put, List.setIfInBounds_toArray, List.set_cons_zero, List.set_cons_succ, List.getElem_toArray, List.getElem_cons_succ, List.getElem_cons_zero])
                  refine held_take 7 _ _ rfl (by kernel_rfl) (by kernel_rfl) (by kernel_rfl) (fun _ _ _ h => h) (by rfl) hHeld (fun w hSw => by (try dsimp only at hSw); go_simp; try with_reducible rfl) ?_
                  (try simp only [Act.put, List.setIfInBounds_toArray, List.set_cons_zero, List.set_cons_succ, List.getElem_toArray, List.getElem_cons_succ, List.getElem_cons_zero])
                  refine held_take 8 _ _ rfl (by kernel_rfl) (by kernel_rfl) (by kernel_rfl) (fun _ _ _ h => h) (by rfl) hHeld (fun w hSw => by (try dsimp only at hSw); go_simp; try with_reducible rfl) ?_
                  (try simp only [Act.put, List.setIfInBounds_toArray, List.set_cons_zero, List.set_cons_succ, List.getElem_toArray, List.getElem_cons_succ, List.getElem_cons_zero])
                  refine held_take 9 _ _ rfl (by kernel_rfl) (by kernel_rfl) (by kernel_rfl) (fun _ _ _ h => h) (by rfl) hHeld (fun w hSw => by (try dsimp only at hSw); go_simp; try with_reducible rfl) ?_
                  (try simp only [Act.put, List.setIfInBounds_toArray, List.set_cons_zero, List.set_cons_succ, List.getElem_toArray, List.getElem_cons_succ, List.getElem_cons_zero])
                  refine held_take 10 _ _ rfl (by kernel_rfl) (by kernel_rfl) (by kernel_rfl) (fun _ _ _ h => h) (by rfl) hHeld (fun w hSw => by (try dsimp only at hSw); go_simp; try with_reducible rfl) ?_
                  (try simp only [Act.put, List.setIfInBounds_toArray, List.set_cons_zero, List.set_cons_succ, List.getElem_toArray, List.getElem_cons_succ, List.getElem_cons_zero])
                  refine held_take 11 _ _ rfl (by kernel_rfl) (by kernel_rfl) (by kernel_rfl) (fun _ _ _ h => h) (by rfl) hHeld (fun w hSw => by (try dsimp only at hSw); go_simp; try with_reducible rfl) ?_
                  (try simp only [Act.put, List.setIfInBounds_toArray, List.set_cons_zero, List.set_cons_succ, List.getElem_toArray, List.getElem_cons_succ, List.getElem_cons_zero])
                  refine wpAnyH_done (by kernel_rfl) ?_ _
                  go_wp2_with fail
                  go_roundw
                  case rel => exact ⟨S, m + x * gn, by first | go_num | simp, hF2, HT, HM⟩
                  case measure => simp [lenOf]
        · have hmz : ((m : Int) == 0) = false := by rw [beq_eq_false_iff_ne]; omega
          have HT8 : Hid (F ++ (backs G S m).filterMap okF = findF G n) := Lib.hid (by have h := HT.out; rw [List.filterMap_cons_none (by unfold okF; rw [if_neg hm0])] at h; exact h)
          have HM8 : Hid ((backs G S m).length < μ) := Lib.hid (by have h := HM.out; rw [List.length_cons] at h; omega)
          have hF8 := hF
          clear HT HM hle hF hlS
          go_wp2_with fail
          obtain ⟨FF, hFF⟩ : ∃ FF, FF = F := ⟨_, rfl⟩
          obtain ⟨VS, hVS⟩ : ∃ VS, VS = vs := ⟨_, rfl⟩
          rw [← hFF] at hF8 HT8
          rw [← hVS] at hF8
          clear hFF hVS
          go_loopw [6, 7] (fun tv l wr => ∃ (S : List Nat) (m : Nat), l = .int .i64 (m : Int) ∧ Fact w wr G n S m FF v VS tv ∧ Hid (FF ++ (backs G S m).filterMap okF = findF G n) ∧ Hid ((backs G S m).length < μ)) (fun tv _ _ => lenOf tv)
          case atStart => exact ⟨S, m, rfl, hF8, HT8, HM8⟩
          case round =>
            clear hF8 HT8 HM8
            obtain ⟨S, m, rfl, hF, HT, HM⟩ := hrel
            have hbz := hF.bel.size
            have hSle := hF.le
            have hdot := hF.dot
            cases S with
            | nil =>
              obtain ⟨at_, ct, rfl, rT⟩ := row_open hF.own
              clear rT
              have HE : Hid (FF = findF G n) := Lib.hid (by have h := HT.out; rw [backs_nil, List.filterMap_nil, List.append_nil] at h; exact h)
              go_wp2_with fail
              simp only [Exit.jump]
              go_ret
              exact ⟨_, VS, rfl, by rw [← HE.out]; exact hF.rows, hF.bel⟩
            | cons x S =>
              have hlt : S.length < G.length := hSle
              obtain ⟨gT, cT, rfl, hgT, hgl, hnc, hcm, -, hH⟩ := Lib.holds_of_ownsRow hF.own (by rintro rfl; rcases hF.own.2 with ⟨-, h⟩ | ⟨g, cap, cur, e, -⟩; simp at h; cases e)
              have hcx := cell_last hH
              clear hH
              obtain ⟨b, off, rfl, hbs, hcl⟩ := hr.open (by intro h; rw [List.map_eq_nil_iff] at h; subst h; simp at hlt)
              have hcg : wr.cell? ⟨b, off + S.length, none⟩ = some (.int .i64 G[S.length]) := (hF.bel.cell (p := ⟨b, off + S.length, none⟩) hbs).trans (hcl _ _ (by simp [hlt]))
              obtain ⟨hg1, hg60⟩ := hG G[S.length] (List.getElem_mem hlt)
              obtain ⟨gn, hgn⟩ := Int.eq_ofNat_of_zero_le (show 0 ≤ G[S.length] by omega)
              have hgd : (G.getD S.length 0).toNat = gn := by rw [List.getD_eq_getElem?_getD, List.getElem?_eq_getElem hlt]; simp [hgn]
              rw [List.length_cons] at hF hnc ⊢
              have hx100 : x ≤ 100 := by have h1 := dotS_le (fun g hg => (hG g hg).1) hSle x (by simp); omega
              have hgd2 : dotS G (x :: S) = x * gn + dotS G S := by rw [dotS_cons, hgd]
              have hxg : x * gn ≤ 100 := by omega
              obtain ⟨hcx1, hcx2⟩ := hcx
              rw [hgn] at hcg
              have hk0 : (0 : Int) ≤ (S.length : Int) := by omega
              have hk1 : (S.length : Int) < (S.length : Int) + 1 := by omega
              by_cases hc : S.length + 1 < G.length ∧ 0 < x
              · obtain ⟨hc1, hc2⟩ := hc
                obtain ⟨y, rfl⟩ : ∃ y, x = y + 1 := ⟨x - 1, by omega⟩
                have hbk := backs_less (G := G) (S := S) y m hc1
                rw [hgd] at hbk
                have HT2 : Hid (FF ++ (todo G (y :: S) (m + gn)).filterMap okF = findF G n) := Lib.hid (by rw [← hbk]; exact HT.out)
                have HM2 : Hid ((todo G (y :: S) (m + gn)).length < μ) := Lib.hid (by rw [← hbk]; exact HM.out)
                have hD2 : m + gn + dotS G (y :: S) = n := by
                  have h1 : dotS G (y :: S) = y * gn + dotS G S := by rw [dotS_cons, hgd]
                  rw [Nat.add_mul, Nat.one_mul] at hgd2
                  omega
                have hF2 := hF.less (b := y) (m + gn) hD2
                have hci : (S.length : Int) < (G.length : Int) - 1 := by omega
                have hyi : (0 : Int) < ((y + 1 : Nat) : Int) := by omega
                have hcg2 : (wr.setCell ⟨gT, S.length, none⟩ (.int .i64 (y : Int))).cell? ⟨b, off + S.length, none⟩ = some (.int .i64 (gn : Int)) := (World.cell?_setCell_far wr ⟨gT, S.length, none⟩ ⟨b, off + S.length, none⟩ _ (by dsimp only; omega)).trans hcg
                clear HT HM hbk hcl hgd hgn hgd2 hdot hF hxg
                go_wp2_with fail
                go_step3
                refine And.intro rfl ?_
                refine Exists.intro (todo G (y :: S) (m + gn)).length (And.intro HM2.out ?_)
                exact ⟨y :: S, m + gn, FF, _, VS, _, hF2, HT2, Lib.hid rfl, _, _, _, _, _, _, _, _, _, _, _, _, _, _, _, _, _, _, _, _, _, _, _, _, _, _, _, _, _, _, _, _, _, _, _, _, _, _, _, _, _, _, _, _, _, _, _, _, _, _, _, _, _, _, _, _, _, _, _, _, _, _, _, _, _, _, _, _, _, _, _, _, _, _, rfl⟩
              · have hbk := backs_pop (G := G) (S := S) x m (by omega)
                rw [hgd] at hbk
                rw [hbk] at HT HM
                have hF2 := hF.drew.popped (m + x * gn) (by omega)
                have hS0 : wr.drew.cell? ⟨gT, S.length, none⟩ = some (.int .i64 (x : Int)) ∧ wr.drew.cell? ⟨b, off + S.length, none⟩ = some (.int .i64 (gn : Int)) := ⟨hcx1, hcg⟩
                have hp : (x : Int) * (gn : Int) = ((x * gn : Nat) : Int) := by simp
                have hp0 : 0 ≤ (x : Int) * (gn : Int) := by omega
                have hp1 : (x : Int) * (gn : Int) ≤ 100 := by omega
                clear hp
                have hw3 : IntKind.i64.wrap ((x : Int) * (gn : Int)) = (x : Int) * (gn : Int) := IntWalk.i64_in _ (by omega)
                have hw4 : IntKind.i64.wrap ((m : Int) + (x : Int) * (gn : Int)) = (m : Int) + (x : Int) * (gn : Int) := IntWalk.i64_in _ (by omega)
                clear hbk hcl hgd hgn hgd2 hdot hF
                by_cases hc1 : S.length + 1 < G.length
                · have hx0 : x = 0 := by omega
                  have hci : (S.length : Int) < (G.length : Int) - 1 := by omega
                  have hxi2 : ¬ (0 : Int) < (x : Int) := by omega
                  have hxd : decide ((0 : Int) < (x : Int)) = false := decide_eq_false hxi2
                  replace hx0 := Lib.hid hx0
                  go_wp2_with fail
                  refine wp_region_held_drew (S := fun w' => w'.cell? ⟨gT, S.length, none⟩ = some (.int .i64 (x : Int)) ∧ w'.cell? ⟨b, off + S.length, none⟩ = some (.int .i64 (gn : Int))) (by kernel_rfl) hS0 (fun hHeld => ?_)
                  refine held_take 0 _ _ rfl (by kernel_rfl) (by kernel_rfl) (by kernel_rfl) (fun _ _ _ h => h) (by rfl) hHeld (fun w hSw => by (try dsimp only at hSw); go_simp; try with_reducible rfl) ?_
                  (try simp only [Act.put, List.setIfInBounds_toArray, List.set_cons_zero, List.set_cons_succ, List.getElem_toArray, List.getElem_cons_zero])
                  refine held_take 1 _ _ rfl (by kernel_rfl) (by kernel_rfl) (by kernel_rfl) (fun _ _ _ h => h) (by rfl) hHeld (fun w hSw => by (try dsimp only at hSw); go_simp; try with_reducible rfl) ?_
                  (try simp only [Act.put, List.setIfInBounds_toArray, List.set_cons_zero, List.set_cons_succ, List.getElem_toArray, List.getElem_cons_succ, List.getElem_cons_zero])
                  refine held_take 2 _ _ rfl (by kernel_rfl) (by kernel_rfl) (by kernel_rfl) (fun _ _ _ h => h) (by rfl) hHeld (fun w hSw => by (try dsimp only at hSw); go_simp; try with_reducible rfl) ?_
                  (try simp only [Act.put, List.setIfInBounds_toArray, List.set_cons_zero, List.set_cons_succ, List.getElem_toArray, List.getElem_cons_succ, List.getElem_cons_zero])
                  refine held_take 3 _ _ rfl (by kernel_rfl) (by kernel_rfl) (by kernel_rfl) (fun _ _ _ h => h) (by rfl) hHeld (fun w hSw => by (try dsimp only at hSw); go_simp; try with_reducible rfl) ?_
                  (try simp only [Act.put, List.setIfInBounds_toArray, List.set_cons_zero, List.set_cons_succ, List.getElem_toArray, List.getElem_cons_succ, List.getElem_cons_zero])
                  refine held_take 4 _ _ rfl (by kernel_rfl) (by kernel_rfl) (by kernel_rfl) (fun _ _ _ h => h) (by rfl) hHeld (fun w hSw => by (try dsimp only at hSw); go_simp; try with_reducible rfl) ?_
                  (try simp only [Act.put, List.setIfInBounds_toArray, List.set_cons_zero, List.set_cons_succ, List.getElem_toArray, List.getElem_cons_succ, List.getElem_cons_zero])
                  refine held_take 5 _ _ rfl (by kernel_rfl) (by kernel_rfl) (by kernel_rfl) (fun _ _ _ h => h) (by rfl) hHeld (fun w hSw => by (try dsimp only at hSw); go_simp; try with_reducible rfl) ?_
                  (try simp only [Act.put, List.setIfInBounds_toArray, List.set_cons_zero, List.set_cons_succ, List.getElem_toArray, List.getElem_cons_succ, List.getElem_cons_zero])
                  refine held_take 6 _ _ rfl (by kernel_rfl) (by kernel_rfl) (by kernel_rfl) (fun _ _ _ h => h) (by rfl) hHeld (fun w hSw => by (try dsimp only at hSw); go_simp; try with_reducible rfl) ?_
                  (try simp only [Act.put, List.setIfInBounds_toArray, List.set_cons_zero, List.set_cons_succ, List.getElem_toArray, List.getElem_cons_succ, List.getElem_cons_zero])
                  refine held_take 7 _ _ rfl (by kernel_rfl) (by kernel_rfl) (by kernel_rfl) (fun _ _ _ h => h) (by rfl) hHeld (fun w hSw => by (try dsimp only at hSw); go_simp; try with_reducible rfl) ?_
                  (try simp only [Act.put, List.setIfInBounds_toArray, List.set_cons_zero, List.set_cons_succ, List.getElem_toArray, List.getElem_cons_succ, List.getElem_cons_zero])
                  refine held_take 8 _ _ rfl (by kernel_rfl) (by kernel_rfl) (by kernel_rfl) (fun _ _ _ h => h) (by rfl) hHeld (fun w hSw => by (try dsimp only at hSw); go_simp; try with_reducible rfl) ?_
                  (try simp only [Act.put, List.setIfInBounds_toArray, List.set_cons_zero, List.set_cons_succ, List.getElem_toArray, List.getElem_cons_succ, List.getElem_cons_zero])
                  refine held_take 9 _ _ rfl (by kernel_rfl) (by kernel_rfl) (by kernel_rfl) (fun _ _ _ h => h) (by rfl) hHeld (fun w hSw => by (try dsimp only at hSw); go_simp; try with_reducible rfl) ?_
                  (try simp only [Act.put, List.setIfInBounds_toArray, List.set_cons_zero, List.set_cons_succ, List.getElem_toArray, List.getElem_cons_succ, List.getElem_cons_zero])
                  refine held_take 10 _ _ rfl (by kernel_rfl) (by kernel_rfl) (by kernel_rfl) (fun _ _ _ h => h) (by rfl) hHeld (fun w hSw => by (try dsimp only at hSw); go_simp; try with_reducible rfl) ?_
                  (try simp only [Act.put, List.setIfInBounds_toArray, List.set_cons_zero, List.set_cons_succ, List.getElem_toArray, List.getElem_cons_succ, List.getElem_cons_zero])
                  refine held_take 11 _ _ rfl (by kernel_rfl) (by kernel_rfl) (by kernel_rfl) (fun _ _ _ h => h) (by rfl) hHeld (fun w hSw => by (try dsimp only at hSw); go_simp; try with_reducible rfl) ?_
                  (try simp only [Act.put, List.setIfInBounds_toArray, List.set_cons_zero, List.set_cons_succ, List.getElem_toArray, List.getElem_cons_succ, List.getElem_cons_zero])
                  refine wpAnyH_done (by kernel_rfl) ?_ _
                  go_wp2_with fail
                  go_roundw
                  case rel => exact ⟨S, m + x * gn, by first | go_num | simp, hF2, HT, HM⟩
                  case measure => simp [lenOf]
                · have hci : ¬ (S.length : Int) < (G.length : Int) - 1 := by omega
                  have hcd : decide ((S.length : Int) < (G.length : Int) - 1) = false := decide_eq_false hci
                  go_wp2_with fail
                  refine wp_region_held_drew (S := fun w' => w'.cell? ⟨gT, S.length, none⟩ = some (.int .i64 (x : Int)) ∧ w'.cell? ⟨b, off + S.length, none⟩ = some (.int .i64 (gn : Int))) (by kernel_rfl) hS0 (fun hHeld => ?_)
                  refine held_take 0 _ _ rfl (by kernel_rfl) (by kernel_rfl) (by kernel_rfl) (fun _ _ _ h => h) (by rfl) hHeld (fun w hSw => by (try dsimp only at hSw); go_simp; try with_reducible rfl) ?_
                  (try simp only [Act.put, List.setIfInBounds_toArray, List.set_cons_zero, List.set_cons_succ, List.getElem_toArray, List.getElem_cons_zero])
                  refine held_take 1 _ _ rfl (by kernel_rfl) (by kernel_rfl) (by kernel_rfl) (fun _ _ _ h => h) (by rfl) hHeld (fun w hSw => by (try dsimp only at hSw); go_simp; try with_reducible rfl) ?_
                  (try simp only [Act.put, List.setIfInBounds_toArray, List.set_cons_zero, List.set_cons_succ, List.getElem_toArray, List.getElem_cons_succ, List.getElem_cons_zero])
                  refine held_take 2 _ _ rfl (by kernel_rfl) (by kernel_rfl) (by kernel_rfl) (fun _ _ _ h => h) (by rfl) hHeld (fun w hSw => by (try dsimp only at hSw); go_simp; try with_reducible rfl) ?_
                  (try simp only [Act.put, List.setIfInBounds_toArray, List.set_cons_zero, List.set_cons_succ, List.getElem_toArray, List.getElem_cons_succ, List.getElem_cons_zero])
                  refine held_take 3 _ _ rfl (by kernel_rfl) (by kernel_rfl) (by kernel_rfl) (fun _ _ _ h => h) (by rfl) hHeld (fun w hSw => by (try dsimp only at hSw); go_simp; try with_reducible rfl) ?_
                  (try simp only [Act.put, List.setIfInBounds_toArray, List.set_cons_zero, List.set_cons_succ, List.getElem_toArray, List.getElem_cons_succ, List.getElem_cons_zero])
                  refine held_take 4 _ _ rfl (by kernel_rfl) (by kernel_rfl) (by kernel_rfl) (fun _ _ _ h => h) (by rfl) hHeld (fun w hSw => by (try dsimp only at hSw); go_simp; try with_reducible rfl) ?_
                  (try simp only [Act.put, List.setIfInBounds_toArray, List.set_cons_zero, List.set_cons_succ, List.getElem_toArray, List.getElem_cons_succ, List.getElem_cons_zero])
                  refine held_take 5 _ _ rfl (by kernel_rfl) (by kernel_rfl) (by kernel_rfl) (fun _ _ _ h => h) (by rfl) hHeld (fun w hSw => by (try dsimp only at hSw); go_simp; try with_reducible rfl) ?_
                  (try simp only [Act.put, List.setIfInBounds_toArray, List.set_cons_zero, List.set_cons_succ, List.getElem_toArray, List.getElem_cons_succ, List.getElem_cons_zero])
                  refine held_take 6 _ _ rfl (by kernel_rfl) (by kernel_rfl) (by kernel_rfl) (fun _ _ _ h => h) (by rfl) hHeld (fun w hSw => by (try dsimp only at hSw); go_simp; try with_reducible rfl) ?_
                  (try simp only [Act.put, List.setIfInBounds_toArray, List.set_cons_zero, List.set_cons_succ, List.getElem_toArray, List.getElem_cons_succ, List.getElem_cons_zero])
                  refine held_take 7 _ _ rfl (by kernel_rfl) (by kernel_rfl) (by kernel_rfl) (fun _ _ _ h => h) (by rfl) hHeld (fun w hSw => by (try dsimp only at hSw); go_simp; try with_reducible rfl) ?_
                  (try simp only [Act.put, List.setIfInBounds_toArray, List.set_cons_zero, List.set_cons_succ, List.getElem_toArray, List.getElem_cons_succ, List.getElem_cons_zero])
                  refine held_take 8 _ _ rfl (by kernel_rfl) (by kernel_rfl) (by kernel_rfl) (fun _ _ _ h => h) (by rfl) hHeld (fun w hSw => by (try dsimp only at hSw); go_simp; try with_reducible rfl) ?_
                  (try simp only [Act.put, List.setIfInBounds_toArray, List.set_cons_zero, List.set_cons_succ, List.getElem_toArray, List.getElem_cons_succ, List.getElem_cons_zero])
                  refine held_take 9 _ _ rfl (by kernel_rfl) (by kernel_rfl) (by kernel_rfl) (fun _ _ _ h => h) (by rfl) hHeld (fun w hSw => by (try dsimp only at hSw); go_simp; try with_reducible rfl) ?_
                  (try simp only [Act.put, List.setIfInBounds_toArray, List.set_cons_zero, List.set_cons_succ, List.getElem_toArray, List.getElem_cons_succ, List.getElem_cons_zero])
                  refine held_take 10 _ _ rfl (by kernel_rfl) (by kernel_rfl) (by kernel_rfl) (fun _ _ _ h => h) (by rfl) hHeld (fun w hSw => by (try dsimp only at hSw); go_simp; try with_reducible rfl) ?_
                  (try simp only [Act.put, List.setIfInBounds_toArray, List.set_cons_zero, List.set_cons_succ, List.getElem_toArray, List.getElem_cons_succ, List.getElem_cons_zero])
                  refine held_take 11 _ _ rfl (by kernel_rfl) (by kernel_rfl) (by kernel_rfl) (fun _ _ _ h => h) (by rfl) hHeld (fun w hSw => by (try dsimp only at hSw); go_simp; try with_reducible rfl) ?_
                  (try simp only [Act.put, List.setIfInBounds_toArray, List.set_cons_zero, List.set_cons_succ, List.getElem_toArray, List.getElem_cons_succ, List.getElem_cons_zero])
                  refine wpAnyH_done (by kernel_rfl) ?_ _
                  go_wp2_with fail
                  go_roundw
                  case rel => exact ⟨S, m + x * gn, by first | go_num | simp, hF2, HT, HM⟩
                  case measure => simp [lenOf]

theorem factL_no {G : List Int} {n : Int} (h : isSgB G = false ∨ inB n 0 100 = false) : factL G n = [] := by
  unfold factL
  rcases h with h | h
  · rw [h]; rfl
  · rw [h, Bool.and_false]; rfl
theorem factL_yes {G : List Int} {n : Nat} (hs : isSgB G = true) (hn : n ≤ 100) : factL G (n : Int) = findF G n := by
  have h : inB (n : Int) 0 100 = true := by unfold inB; rw [decide_eq_true (by omega : (0 : Int) ≤ (n : Int)), decide_eq_true (by omega : (n : Int) ≤ 100)]; rfl
  unfold factL; rw [hs, h, Int.toNat_natCast]; rfl
set_option maxRecDepth 100000 in
set_option maxHeartbeats 800000 in
theorem impl_isFactored (G : List Int) (n : Int) (a : Option Addr) (cap : Nat) (w : World) (hr : SlV w a (G.map (Value.int .i64))) (hb : G.length ≤ 1048576) :
    Calls Tryd.prog 25 #[.agg #[.slice a G.length cap], .int .i64 n] w fun e w' => e = .returned (.bool (isSgB G && inB n 0 100)) ∧ Below w.heap.size w w' := by
  have hb0 := box_below w (.cells #[.slice a G.length cap] 26)
  have hc0 := box_cell w (.slice a G.length cap)
  have c1 := impl_IsSemigroup G a cap _ (hr.below hb0) hb
  clear hr
  cases hs : isSgB G
  · have HR : Hid ((false && inB n 0 100) = false) := Lib.hid rfl
    rw [hs] at c1
    clear hs
    go_enter Tryd.func25, Tryd.ntmps25
    go_wp2_with fail
    refine c1.mono ?_
    rintro e w1 ⟨rfl, hb1⟩
    have hb01 := hb0.trans (hb1.mono hb0.size)
    clear c1
    go_wp2_with fail
    go_ret
    exact ⟨by rw [HR.out]; rfl, hb01⟩
  · rw [hs] at c1
    clear hs
    by_cases h0 : 0 ≤ n
    · have hd := decide_eq_true h0
      by_cases h1 : n ≤ 100
      · have hd1 := decide_eq_true h1
        have HR : Hid ((true && inB n 0 100) = true) := Lib.hid (by unfold inB; rw [hd, hd1]; rfl)
        clear h0 h1
        go_enter Tryd.func25, Tryd.ntmps25
        go_wp2_with fail
        refine c1.mono ?_
        rintro e w1 ⟨rfl, hb1⟩
        have hb01 := hb0.trans (hb1.mono hb0.size)
        clear c1
        go_wp2_with fail
        go_ret
        exact ⟨by rw [HR.out]; rfl, hb01⟩
      · have hd1 := decide_eq_false h1
        have HR : Hid ((true && inB n 0 100) = false) := Lib.hid (by unfold inB; rw [hd1, Bool.and_false, Bool.and_false])
        clear h0 h1
        go_enter Tryd.func25, Tryd.ntmps25
        go_wp2_with fail
        refine c1.mono ?_
        rintro e w1 ⟨rfl, hb1⟩
        have hb01 := hb0.trans (hb1.mono hb0.size)
        clear c1
        go_wp2_with fail
        go_ret
        exact ⟨by rw [HR.out]; rfl, hb01⟩
    · have hd := decide_eq_false h0
      have HR : Hid ((true && inB n 0 100) = false) := Lib.hid (by unfold inB; rw [hd]; rfl)
      clear h0
      go_enter Tryd.func25, Tryd.ntmps25
      go_wp2_with fail
      refine c1.mono ?_
      rintro e w1 ⟨rfl, hb1⟩
      have hb01 := hb0.trans (hb1.mono hb0.size)
      clear c1
      go_wp2_with fail
      go_ret
      exact ⟨by rw [HR.out]; rfl, hb01⟩
set_option maxRecDepth 100000 in
set_option maxHeartbeats 1600000 in
theorem impl_Factorizations (G : List Int) (n : Int) (a : Option Addr) (cap : Nat) (w : World) (hr : SlV w a (G.map (Value.int .i64))) (hb : G.length ≤ 1048576) :
    Calls Tryd.prog 6 #[.agg #[.slice a G.length cap], .int .i64 n] w (SsPost (factL G n) w) := by
  have hb0 := box_below w (.cells #[.slice a G.length cap] 26)
  have hc0 := box_cell w (.slice a G.length cap)
  have hWs : w.heap.size < (w.alloc (.cells #[.slice a G.length cap] 26)).heap.size := by simp
  have c1 := impl_isFactored G n a cap _ (hr.below hb0) hb
  cases hs : isSgB G && inB n 0 100
  · have HR := Lib.hid (factL_no (G := G) (n := n) (Bool.and_eq_false_iff.1 hs))
    rw [hs] at c1
    clear hs hr
    go_enter Tryd.func6, Tryd.ntmps6
    go_wp2_with fail
    refine c1.mono ?_
    rintro e w1 ⟨rfl, hb1⟩
    have hb01 := hb0.trans (hb1.mono hb0.size)
    go_wp2_with fail
    go_ret
    exact ⟨_, [], rfl, by rw [HR.out]; exact Rows2.nil _ _ _ (Nat.le_refl _), hb01⟩
  · rw [hs] at c1
    obtain ⟨hs1, hn⟩ := Bool.and_eq_true_iff.1 hs
    obtain ⟨hn0, hn1⟩ := inB_true hn
    obtain ⟨k, rfl⟩ := Int.eq_ofNat_of_zero_le hn0
    have hk : k ≤ 100 := by omega
    have HR := Lib.hid (factL_yes hs1 hk)
    have c2 := fun w' (h : SlV w' a (G.map (Value.int .i64))) => impl_search G k a cap w' h hs1 hk
    clear hs hs1 hn hn0 hn1
    go_enter Tryd.func6, Tryd.ntmps6
    go_wp2_with fail
    refine c1.mono ?_
    rintro e w1 ⟨rfl, hb1⟩
    have hb01 := hb0.trans (hb1.mono hb0.size)
    have hk1 : w1.cell? ⟨w.heap.size, 0, none⟩ = some (.slice a G.length cap) := (hb1.cell (p := ⟨w.heap.size, 0, none⟩) hWs).trans hc0
    have c3 := c2 w1 (hr.below hb01)
    have hs01 := hb01.size
    clear c1 c2 hb1 hc0 hWs hr hb0
    go_wp2_with fail
    refine c3.mono ?_
    rintro e w2 ⟨v, vs, rfl, hR, hb2⟩
    have hb02 := hb01.trans (hb2.mono hs01)
    have HRR := Lib.hid (hR.wider hs01 (Nat.le_refl _) (Nat.le_refl _))
    clear c3 hR
    go_wp2_with fail
    go_ret
    exact ⟨_, vs, rfl, by rw [HR.out]; exact HRR.out, hb02⟩
end Go.Proofs.YtlinlmmcgifloaaDoor

/-
  CONTRACTS of chapter 11: ValueOf, IsFactorization (impl). (Own work: mkVal.py.)
-/
namespace Go.Proofs.YtlinlmmcgifloaaDoor
open Go Go.RowKit

private theorem dot_take_bnd {L G : List Int} (hl : L.length = G.length) (hG : ∀ g ∈ G, 1 ≤ g ∧ g ≤ 60) {k : Nat} (ha : (L.take k).all (fun x => inB x 0 1000000) = true) (hk : k ≤ L.length) : 0 ≤ dotL (L.take k) (G.take k) ∧ dotL (L.take k) (G.take k) ≤ 60000000 * (k : Int) := by
  have h := dot_bnd (L := L.take k) (G := G.take k) (by rw [List.length_take, List.length_take]; omega) (fun g hg => hG g (List.mem_of_mem_take hg)) (fun x hx => inB_true (List.all_eq_true.1 ha x hx)) k (by rw [List.length_take]; omega)
  rw [List.take_take, List.take_take, Nat.min_self] at h
  exact h
set_option maxRecDepth 100000 in
set_option maxHeartbeats 1600000 in
theorem impl_ValueOf (G L : List Int) (a : Option Addr) (cap : Nat) (al : Option Addr) (cl : Nat) (w : World) (hr : SlV w a (G.map (Value.int .i64))) (hrl : SlV w al (L.map (Value.int .i64))) (hb : G.length ≤ 1048576) (hbl : L.length ≤ 1048576) :
    Calls Tryd.prog 16 #[.agg #[.slice a G.length cap], .slice al L.length cl] w fun e w' => e = .returned (.int .i64 (valueN G L)) ∧ Below w.heap.size w w' := by
  obtain ⟨W, hW⟩ : ∃ W, W = w.alloc (.cells #[.slice a G.length cap] 26) := ⟨_, rfl⟩
  have hbW : Below w.heap.size w W := by rw [hW]; exact box_below _ _
  have hc0 : W.cell? ⟨w.heap.size, 0, none⟩ = some (.slice a G.length cap) := by rw [hW]; exact box_cell w _
  have hWs : w.heap.size < W.heap.size := by rw [hW]; simp
  have HW := Lib.hid hW
  clear hW
  have c1 := impl_IsSemigroup G a cap W (hr.below hbW) hb
  cases hs : isSgB G
  · have HR := Lib.hid (valueN_sg L hs)
    rw [hs] at c1
    clear hs hr hrl
    go_enter Tryd.func16, Tryd.ntmps16
    go_wp2_with fail
    rw [← HW.out]
    refine c1.mono ?_
    rintro e w1 ⟨rfl, hb1⟩
    have hb01 := hbW.trans (hb1.mono hbW.size)
    go_wp2_with fail
    go_ret
    exact ⟨by rw [HR.out]; rfl, hb01⟩
  · rw [hs] at c1
    have HS := Lib.hid (isSgB_iff.1 hs).bounds
    have HS20 := Lib.hid (isSgB_iff.1 hs).len
    have HSG := Lib.hid hs
    clear hs
    by_cases hl : L.length = G.length
    · have HLG := Lib.hid hl
      obtain ⟨n, hn⟩ : ∃ n, n = G.length := ⟨_, rfl⟩
      have hn20 : n ≤ 12 := by rw [hn]; exact HS20.out
      rw [← hn] at c1 hc0 hb HW
      rw [hl, ← hn] at hbl
      rw [hl, ← hn]
      have HN := Lib.hid hn
      clear hn hl
      go_enter Tryd.func16, Tryd.ntmps16
      go_wp2_with fail
      rw [← HW.out]
      refine c1.mono ?_
      rintro e w1 ⟨rfl, hb1⟩
      have hb01 := hbW.trans (hb1.mono hbW.size)
      have hk1 : w1.cell? ⟨w.heap.size, 0, none⟩ = some (.slice a n cap) := by rw [hb1.cell (p := ⟨w.heap.size, 0, none⟩) hWs]; exact hc0
      have hz1 : w.heap.size < w1.heap.size := Nat.lt_of_lt_of_le hWs hb1.size
      clear c1 hb1 hc0 hWs hbW
      go_wp2_with fail
      go_loopw [5, 21] (fun s i wr => ∃ k : Nat, k ≤ n ∧ i = .int .i64 (k : Int) ∧ s = .int .i64 (dotL (L.take k) (G.take k)) ∧ Hid ((L.take k).all (fun x => inB x 0 1000000) = true) ∧ w.heap.size < wr.heap.size ∧ wr.cell? ⟨w.heap.size, 0, none⟩ = some (.slice a n cap) ∧ Below w.heap.size w wr) (fun _ i _ => n - (intOf i).toNat)
      case atStart => exact ⟨0, Nat.zero_le _, rfl, rfl, Lib.hid rfl, hz1, hk1, hb01⟩
      case round =>
        clear hz1 hk1 hb01
        obtain ⟨k, hk, rfl, rfl, HA, hzr, hkb, hbel⟩ := hrel
        by_cases hlt : k < n
        · have hlti : (k : Int) < (n : Int) := by omega
          have hkL : k < L.length := by rw [HLG.out, ← HN.out]; exact hlt
          have hkG : k < G.length := by rw [← HN.out]; exact hlt
          obtain ⟨bl, ol, rfl, hbs, hcl⟩ := (hrl.below hbel).open (by intro h; rw [List.map_eq_nil_iff] at h; subst h; simp at hkL)
          obtain ⟨bg, og, rfl, hgs, hcg⟩ := (hr.below hbel).open (by intro h; rw [List.map_eq_nil_iff] at h; subst h; simp at hkG)
          have hcx : wr.cell? ⟨bl, ol + k, none⟩ = some (.int .i64 L[k]) := hcl k _ (by simp [hkL])
          have hcy : wr.cell? ⟨bg, og + k, none⟩ = some (.int .i64 G[k]) := hcg k _ (by simp [hkG])
          obtain ⟨hg0, hg1⟩ := HS.out G[k] (List.getElem_mem hkG)
          obtain ⟨hd0, hd1⟩ := dot_take_bnd HLG.out HS.out HA.out (Nat.le_of_lt hkL)
          have HT := Lib.hid (dotL_take HLG.out hkL)
          have HT2 : Hid ((L.take (k + 1)).all (fun x => inB x 0 1000000) = inB L[k] 0 1000000) := Lib.hid (by rw [List.take_add_one, List.getElem?_eq_getElem hkL, List.all_append, HA.out]; simp)
          have HM := Lib.hid (List.getElem_mem hkL)
          have hk0 : (0 : Int) ≤ (k : Int) := by omega
          have hkb3 := hkb
          clear hcl hcg
          generalize G[k] = g at *
          generalize dotL (L.take k) (G.take k) = d at *
          cases hin : inB L[k] 0 1000000
          · have HR : Hid (valueN G L = -1) := Lib.hid (valueN_out (by rw [List.all_eq_false]; exact ⟨L[k], HM.out, by rw [hin]; simp⟩))
            have hx : L[k] < 0 ∨ 1000000 < L[k] := by simp [inB] at hin; omega
            clear hin HM HT2 HT
            generalize L[k] = x at *
            rcases hx with hx | hx
            · have hd2 : decide (x < 0) = true := decide_eq_true hx
              go_wp2_with fail
              go_ret
              exact ⟨by rw [HR.out]; rfl, hbel⟩
            · have hd2 : decide (x < 0) = false := decide_eq_false (by omega)
              go_wp2_with fail
              go_ret
              exact ⟨by rw [HR.out]; rfl, hbel⟩
          · obtain ⟨hx0, hx1⟩ := inB_true hin
            rw [hin] at HT2
            clear hin HM
            generalize L[k] = x at *
            have hp0 : 0 ≤ x * g := Int.mul_nonneg hx0 (by omega)
            have hp1 : x * g ≤ 1000000 * 60 := Int.mul_le_mul hx1 hg1 (by omega) (by omega)
            obtain ⟨p, hp⟩ : ∃ p, p = x * g := ⟨_, rfl⟩
            rw [← hp] at hp0 hp1 HT
            have hw1 : IntKind.i64.wrap (x * g) = p := by rw [← hp]; exact IntWalk.i64_in _ (by omega)
            have hw2 : IntKind.i64.wrap (d + p) = d + p := IntWalk.i64_in _ (by omega)
            clear hp
            have hd2 : decide (x < 0) = false := decide_eq_false (by omega)
            have hd3 : decide (1000000 < x) = false := decide_eq_false (by omega)
            go_wp2_with fail
            go_roundw
            case rel => exact ⟨k + 1, by omega, by go_num, by rw [HT.out], HT2, hzr, hkb, hbel⟩
            case measure => simp [intOf]; omega
        · obtain rfl : k = n := by omega
          have HR : Hid (valueN G L = dotL L G) := Lib.hid (valueN_yes HSG.out HLG.out (by have := HA.out; rw [HN.out, ← HLG.out, List.take_length] at this; exact this))
          have HD : Hid (dotL (L.take k) (G.take k) = dotL L G) := Lib.hid (by rw [HN.out, List.take_length, ← HLG.out, List.take_length])
          generalize dotL (L.take k) (G.take k) = d at *
          go_wp2_with fail
          go_ret
          exact ⟨by rw [HR.out, ← HD.out]; rfl, hbel⟩
    · have HR := Lib.hid (valueN_len (G := G) (L := L) hl)
      obtain ⟨n, hn⟩ : ∃ n, n = G.length := ⟨_, rfl⟩
      obtain ⟨m, hm⟩ : ∃ m, m = L.length := ⟨_, rfl⟩
      rw [← hn] at c1 hc0 hb hl HW
      rw [← hm] at hl hbl
      rw [← hn, ← hm]
      clear hn hm
      have hd1 : ((m : Int) != (n : Int)) = true := by rw [bne_iff_ne]; omega
      go_enter Tryd.func16, Tryd.ntmps16
      go_wp2_with fail
      rw [← HW.out]
      refine c1.mono ?_
      rintro e w1 ⟨rfl, hb1⟩
      have hb01 := hbW.trans (hb1.mono hbW.size)
      have hk1 : w1.cell? ⟨w.heap.size, 0, none⟩ = some (.slice a n cap) := by rw [hb1.cell (p := ⟨w.heap.size, 0, none⟩) hWs]; exact hc0
      have hz1 : w.heap.size < w1.heap.size := Nat.lt_of_lt_of_le hWs hb1.size
      clear c1 hb1 hc0 hWs hbW hr hrl
      go_wp2_with fail
      go_ret
      exact ⟨by rw [HR.out]; rfl, hb01⟩

set_option maxRecDepth 100000 in
set_option maxHeartbeats 800000 in
theorem impl_IsFactorization (G L : List Int) (x : Int) (a : Option Addr) (cap : Nat) (al : Option Addr) (cl : Nat) (w : World) (hr : SlV w a (G.map (Value.int .i64))) (hrl : SlV w al (L.map (Value.int .i64))) (hb : G.length ≤ 1048576) (hbl : L.length ≤ 1048576) :
    Calls Tryd.prog 14 #[.agg #[.slice a G.length cap], .int .i64 x, .slice al L.length cl] w fun e w' => e = .returned (.bool (isFacB G x L)) ∧ Below w.heap.size w w' := by
  have hb0 := box_below w (.cells #[.slice a G.length cap] 26)
  have hc0 := box_cell w (.slice a G.length cap)
  by_cases hx : 0 ≤ x
  · have c1 := impl_ValueOf G L a cap al cl _ (hr.below hb0) (hrl.below hb0) hb hbl
    have HR : Hid (isFacB G x L = decide (valueN G L = x)) := Lib.hid (by unfold isFacB; rw [decide_eq_true hx, Bool.true_and])
    clear hr hrl
    have hd : decide (x < 0) = false := decide_eq_false (by omega)
    generalize valueN G L = v at *
    go_enter Tryd.func14, Tryd.ntmps14
    go_wp2_with fail
    refine c1.mono ?_
    rintro e w1 ⟨rfl, hb1⟩
    have hb01 := hb0.trans (hb1.mono hb0.size)
    clear c1
    by_cases hvx : v = x
    · have hq : (v == x) = true := by rw [beq_iff_eq]; exact hvx
      replace HR : Hid (isFacB G x L = true) := Lib.hid (by rw [HR.out]; exact decide_eq_true hvx)
      clear hvx
      go_wp2_with fail
      go_ret
      exact ⟨by rw [HR.out]; rfl, hb01⟩
    · have hq : (v == x) = false := by rw [beq_eq_false_iff_ne]; exact hvx
      replace HR : Hid (isFacB G x L = false) := Lib.hid (by rw [HR.out]; exact decide_eq_false hvx)
      clear hvx
      go_wp2_with fail
      go_ret
      exact ⟨by rw [HR.out]; rfl, hb01⟩
  · have HR : Hid (isFacB G x L = false) := Lib.hid (by unfold isFacB; rw [decide_eq_false hx, Bool.false_and])
    have hd : x < 0 := by omega
    clear hr hrl hx
    go_enter Tryd.func14, Tryd.ntmps14
    go_wp2_with fail
    go_ret
    exact ⟨by rw [HR.out]; rfl, hb0⟩
end Go.Proofs.YtlinlmmcgifloaaDoor

/-
  CONTRACTS of the program's chapter 11: CountFactorizations. (Own work: mkCntI.py.)
-/
namespace Go.Proofs.YtlinlmmcgifloaaDoor
open Go Go.RowKit

private def tabI (f : Nat → Int) (m : Nat) : List Value := (List.range m).map fun i => Value.int .i64 (f i)
private theorem tabI_len (f : Nat → Int) (m : Nat) : (tabI f m).length = m := by unfold tabI; simp
private theorem tabI_get (f : Nat → Int) {m j : Nat} (h : j < m) : (tabI f m)[j]? = some (.int .i64 (f j)) := by unfold tabI; simp [h]
private theorem tabI_congr {f g : Nat → Int} {m : Nat} (h : ∀ i, i < m → f i = g i) : tabI f m = tabI g m := by
  unfold tabI; exact List.map_congr_left fun i hi => by rw [h i (by simpa using hi)]
private theorem tabI_set {f g : Nat → Int} {m j : Nat} (u : Int) (hj : g j = u) (h : ∀ i, i ≠ j → f i = g i) : (tabI f m).set j (.int .i64 u) = tabI g m := by
  apply List.ext_getElem?
  intro i
  by_cases hi : i < m
  · rw [tabI_get g hi]
    by_cases e : i = j
    · subst e; rw [List.getElem?_set_self (by rw [tabI_len]; exact hi), hj]
    · rw [List.getElem?_set_ne (Ne.symm e), tabI_get f hi, h i e]
  · rw [List.getElem?_eq_none (by rw [List.length_set, tabI_len]; omega), List.getElem?_eq_none (by rw [tabI_len]; omega)]
private theorem mixW_at (g : Nat) (T : Nat → Int) (j : Nat) : mixW g T j j = T j := by unfold mixW; simp
private theorem mixW_back {g : Nat} (T : Nat → Int) {j i : Nat} (h : i < j) : mixW g T j i = stepW g T i := by unfold mixW; simp [h]
private theorem mixW_far {g : Nat} (T : Nat → Int) {j m : Nat} (h : m ≤ j) : tabI (mixW g T j) m = tabI (stepW g T) m := tabI_congr fun i hi => mixW_back T (by omega)
private theorem mixW_set {g : Nat} (T : Nat → Int) {j m : Nat} : (tabI (mixW g T j) m).set j (.int .i64 (stepW g T j)) = tabI (mixW g T (j + 1)) m :=
  tabI_set _ (mixW_back T (Nat.lt_succ_self j)) fun i hi => by
    unfold mixW
    by_cases h : i < j
    · rw [if_pos h, if_pos (by omega)]
    · rw [if_neg h, if_neg (by omega)]
private theorem countN_no {G : List Int} {n : Int} (h : isSgB G = false ∨ inB n 0 1000 = false) : countN G n = -1 := by
  unfold countN; rcases h with h | h <;> simp [h]
private theorem countN_yes {G : List Int} {m : Nat} (hs : isSgB G = true) (h : inB (m : Int) 0 1000 = true) : countN G (m : Int) = waysT G m := by
  unfold countN; simp [hs, h]
private def clipW (m : Nat) (T : Nat → Int) (i : Nat) : Int := if i ≤ m then T i else 0
private theorem clipW_in {m i : Nat} (T : Nat → Int) (h : i ≤ m) : clipW m T i = T i := by unfold clipW; rw [if_pos h]
private theorem clipW_nil (m n : Nat) : tabI (fun i => if i = 0 then 1 else 0) n = tabI (clipW m (waysT [])) n := tabI_congr fun i _ => by
  unfold clipW waysT
  split
  · rename_i h; subst h; simp
  · rename_i h; simp [h]
private theorem clipW_far {g m j n : Nat} (T : Nat → Int) (h : m < j) : tabI (clipW m (mixW g T j)) n = tabI (clipW m (stepW g T)) n := tabI_congr fun i _ => by
  unfold clipW
  by_cases hi : i ≤ m
  · rw [if_pos hi, if_pos hi, mixW_back T (by omega)]
  · rw [if_neg hi, if_neg hi]
private theorem clipW_set {g m j n : Nat} (T : Nat → Int) (h : j ≤ m) : (tabI (clipW m (mixW g T j)) n).set j (.int .i64 (stepW g T j)) = tabI (clipW m (mixW g T (j + 1))) n :=
  tabI_set _ (by rw [clipW_in _ h, mixW_back T (Nat.lt_succ_self j)]) fun i hi => by
    unfold clipW mixW
    by_cases h2 : i < j
    · rw [if_pos h2, if_pos (show i < j + 1 by omega)]
    · rw [if_neg h2, if_neg (show ¬ i < j + 1 by omega)]
private theorem zeroW : (Tryd.prog.info? 52).map (·.zero) = some (some (.agg (tabI (fun _ => 0) 1001).toArray)) := by kernel_rfl
private theorem builtW : Tryd.prog.built 52 [(0, .int .i64 1)] = some (tabI (fun i => if i = 0 then 1 else 0) 1001).toArray := by kernel_rfl
private theorem sizeW (f : Nat → Int) : (Tryd.prog.info? 52).map (·.size) = some (tabI f 1001).length := by rw [tabI_len]; kernel_rfl
private theorem tabI_one (f : Nat → Int) (m : Nat) : ∀ v ∈ tabI f m, v.oneCell' = true := by
  intro v hv
  unfold tabI at hv
  obtain ⟨i, -, rfl⟩ := List.mem_map.1 hv
  rfl
set_option maxRecDepth 100000 in
set_option maxHeartbeats 1600000 in
theorem impl_CountFactorizations (G : List Int) (x : Int) (a : Option Addr) (cap : Nat) (w : World) (hr : SlV w a (G.map (Value.int .i64))) (hb : G.length ≤ 1048576) :
    Calls Tryd.prog 12 #[.agg #[.slice a G.length cap], .int .i64 x] w fun e w' => e = .returned (.int .i64 (countN G x)) ∧ Below w.heap.size w w' := by
  obtain ⟨W, hW⟩ : ∃ W, W = w.alloc (.cells #[.slice a G.length cap] 26) := ⟨_, rfl⟩
  have hbW : Below w.heap.size w W := by rw [hW]; exact box_below _ _
  have hc0 : W.cell? ⟨w.heap.size, 0, none⟩ = some (.slice a G.length cap) := by rw [hW]; exact box_cell w _
  have hWs : w.heap.size < W.heap.size := by rw [hW]; simp
  have HW := Lib.hid hW
  clear hW
  have c1 := impl_IsSemigroup G a cap W (hr.below hbW) hb
  cases hs : isSgB G
  · have HR := Lib.hid (countN_no (n := x) (.inl hs))
    rw [hs] at c1
    clear hs hr
    go_enter Tryd.func12, Tryd.ntmps12
    go_wp2_with fail
    rw [← HW.out]
    refine c1.mono ?_
    rintro e w1 ⟨rfl, hb1⟩
    have hb01 := hbW.trans (hb1.mono hbW.size)
    go_wp2_with fail
    go_ret
    exact ⟨by rw [HR.out]; rfl, hb01⟩
  · rw [hs] at c1
    have HS := Lib.hid (isSgB_iff.1 hs).bounds
    have HSG := Lib.hid hs
    clear hs
    cases hx : inB x 0 1000
    · have HR := Lib.hid (countN_no (G := G) (.inr hx))
      have hx2 : x < 0 ∨ 1000 < x := by simp [inB] at hx; omega
      clear hx hr
      rcases hx2 with hx2 | hx2
      · have hd2 : decide (x < 0) = true := decide_eq_true hx2
        go_enter Tryd.func12, Tryd.ntmps12
        go_wp2_with fail
        rw [← HW.out]
        refine c1.mono ?_
        rintro e w1 ⟨rfl, hb1⟩
        have hb01 := hbW.trans (hb1.mono hbW.size)
        go_wp2_with fail
        go_ret
        exact ⟨by rw [HR.out]; rfl, hb01⟩
      · have hd2 : decide (x < 0) = false := decide_eq_false (by omega)
        go_enter Tryd.func12, Tryd.ntmps12
        go_wp2_with fail
        rw [← HW.out]
        refine c1.mono ?_
        rintro e w1 ⟨rfl, hb1⟩
        have hb01 := hbW.trans (hb1.mono hbW.size)
        go_wp2_with fail
        go_ret
        exact ⟨by rw [HR.out]; rfl, hb01⟩
    · obtain ⟨hx0, hx1⟩ := inB_true hx
      obtain ⟨m, rfl⟩ := Int.eq_ofNat_of_zero_le hx0
      have HR := Lib.hid (countN_yes HSG.out hx)
      have hd2 : decide ((m : Int) < 0) = false := decide_eq_false (by omega)
      have hd3 : decide (1000 < (m : Int)) = false := decide_eq_false (by omega)
      clear hx
      go_enter Tryd.func12, Tryd.ntmps12
      go_wp2_with fail
      rw [← HW.out]
      refine c1.mono ?_
      rintro e w1 ⟨rfl, hb1⟩
      have hb01 := hbW.trans (hb1.mono hbW.size)
      have hk1 : w1.cell? ⟨w.heap.size, 0, none⟩ = some (.slice a G.length cap) := by rw [hb1.cell (p := ⟨w.heap.size, 0, none⟩) hWs]; exact hc0
      have hz1' : w.heap.size < w1.heap.size := Nat.lt_of_lt_of_le hWs hb1.size
      clear c1 hb1 hc0 hWs hbW
      have hA0 := Arr.new w1 52 (tabI (fun _ => 0) 1001)
      have HBA := Lib.hid (((Below.refl w1.heap.size w1).alloc (Nat.le_refl _)) (.cells (tabI (fun _ => 0) 1001).toArray 52))
      have HT := fun f => Lib.hid (tabI_one f 1001)
      go_wp2_with (first | (refine wpList_alloc_arr 52 (tabI (fun _ => 0) 1001) zeroW rfl rfl ?_) | (refine wpList_build_arr 52 _ (tabI (fun i => if i = 0 then 1 else 0) 1001) rfl rfl (by simpa [Act.eval] using builtW) ?_) | (refine wpList_store_arr 52 (.tmp 5) (.tmp 20) w1.heap.size (tabI (fun _ => 0) 1001) (tabI (fun i => if i = 0 then 1 else 0) 1001) rfl rfl rfl rfl hA0 (by rw [tabI_len, tabI_len]) (sizeW _) (HT _).out ?_; intro w2 hA hg2 hz2; have hb2 := HBA.out.grown hg2 (by simp) (fun j hj => by cases hj; exact Nat.le_refl _); have hk2 := (hb2.cell (p := ⟨w.heap.size, 0, none⟩) hz1').trans hk1; clear hg2 hz2 hA0 HBA))
      go_loopw [24] (fun i wr => ∃ k : Nat, k ≤ G.length ∧ i = .int .i64 (k : Int) ∧ Arr wr w1.heap.size 52 (tabI (clipW m (waysT (G.take k))) 1001) ∧ Below w1.heap.size w1 wr) (fun i _ => G.length - (intOf i).toNat)
      case atStart => exact ⟨0, Nat.zero_le _, rfl, by rw [List.take_zero, ← clipW_nil]; exact hA, hb2⟩
      case round =>
        clear hA hb2 hk2
        obtain ⟨k, hk, rfl, hA, hbel⟩ := hrel
        by_cases hlt : k < G.length
        · have hlti : (k : Int) < (G.length : Int) := by omega
          have HTT := Lib.hid (waysT_take hlt)
          obtain ⟨hg0, hg1⟩ := HS.out G[k] (List.getElem_mem hlt)
          obtain ⟨g, hg⟩ : ∃ g : Nat, G[k] = (g : Int) := ⟨G[k].toNat, by omega⟩
          obtain ⟨b, off, rfl, hbs, hc⟩ := hr.open (by intro h; rw [List.map_eq_nil_iff] at h; subst h; simp at hlt)
          have hgk : wr.cell? ⟨b, off + k, none⟩ = some (.int .i64 (g : Int)) := ((hb01.trans (hbel.mono hb01.size)).cell (p := ⟨b, off + k, none⟩) hbs).trans (hc k _ (by simp [hlt, hg]))
          have hk0 : (0 : Int) ≤ (k : Int) := by omega
          rw [hg] at HTT hg0 hg1
          rw [Int.toNat_natCast] at HTT
          clear hc hg
          have HA := Lib.hid hA
          have HB := Lib.hid hbel
          clear hA hbel
          generalize waysT (G.take k) = T at *
          go_wp2_with fail
          go_loopw [8] (fun i wq => ∃ j : Nat, i = .int .i64 (j : Int) ∧ g ≤ j ∧ (j ≤ m + 1 ∨ j = g) ∧ Arr wq w1.heap.size 52 (tabI (clipW m (mixW g T j)) 1001) ∧ Below w1.heap.size w1 wq) (fun i _ => m + 1 - (intOf i).toNat)
          case atStart => exact ⟨g, rfl, Nat.le_refl _, .inr rfl, by rw [mixW_start]; exact HA.out, HB.out⟩
          case round =>
            clear hgk HA HB
            rename World => wq
            obtain ⟨j, rfl, hgj, hjm, hA, hbel⟩ := hrel
            by_cases hle : j ≤ m
            · have hlei : (j : Int) ≤ (m : Int) := by omega
              have hcjd : wq.drew.cell? ⟨w1.heap.size, j, none⟩ = some (.int .i64 (T j)) := by rw [hA.drew.cell, tabI_get _ (by omega), clipW_in _ hle, mixW_at]
              obtain ⟨t, ht⟩ : ∃ t : Nat, j = t + g := ⟨j - g, by omega⟩
              have hctd : wq.drew.cell? ⟨w1.heap.size, t, none⟩ = some (.int .i64 (stepW g T t)) := by rw [hA.drew.cell, tabI_get _ (by omega), clipW_in _ (by omega), mixW_back T (by omega)]
              have hw1 : IntKind.i64.wrap ((j : Int) - (g : Int)) = (t : Int) := by rw [IntWalk.i64_in _ (by omega)]; omega
              have hw2 : IntKind.i64.wrap (T j + stepW g T t) = stepW g T j := by rw [stepW_ge T (by omega) hgj, show j - g = t by omega]
              have hst := hA.drew.set j (.int .i64 (stepW g T j))
              rw [clipW_set T hle] at hst
              have HST := Lib.hid hst
              have hfz : wq.drew.frozen? ⟨w1.heap.size, j, none⟩ = false := hA.drew.frozen j
              have HB2 := Lib.hid (hbel.drew.setCell (p := ⟨w1.heap.size, j, none⟩) (Nat.le_refl _) (.int .i64 (stepW g T j)))
              have hj0 : (0 : Int) ≤ (j : Int) := by omega
              have ht0 : (0 : Int) ≤ (t : Int) := by omega
              have htm : (t : Int) < 1001 := by omega
              have hjm1 : (j : Int) < 1001 := by omega
              clear hst hA hbel ht
              generalize T j = tj at *
              generalize stepW g T t = st at *
              generalize stepW g T j = sj at *
              go_wp2_with fail
              refine wp_region_still_tail 10 (by kernel_rfl) (by kernel_rfl) ?_
              change wpStill _ _ wq.drew _ _ _
              simp only [List.take_succ_cons, List.take_zero, List.drop_succ_cons, List.drop_zero]
              repeat still_step
              refine wpStill_nil ?_
              change wpList _ _ _ _ _ wq.drew
              generalize wq.drew = wd at *
              go_wp2_with fail
              go_roundw
              case rel => exact ⟨j + 1, by go_num, by omega, .inl (by omega), HST.out, HB2.out⟩
              case measure => simp [intOf]; omega
            · rw [clipW_far (g := g) T (show m < j by omega)] at hA
              have HA := Lib.hid hA
              clear hA
              go_wp2_with fail
              go_roundw
              case rel => exact ⟨k + 1, by omega, by go_num, by rw [HTT.out]; exact HA.out, hbel⟩
              case measure => simp [intOf]; omega
        · obtain rfl : k = G.length := by omega
          have hcm : wr.cell? ⟨w1.heap.size, m, none⟩ = some (.int .i64 (waysT G m)) := by rw [hA.cell, tabI_get _ (by omega), clipW_in _ (Nat.le_refl _), List.take_length]
          have hb02 := hb01.trans (hbel.mono hb01.size)
          have hm0 : (0 : Int) ≤ (m : Int) := by omega
          have hm1 : (m : Int) < 1001 := by omega
          clear hA hr
          go_wp2_with fail
          go_ret
          exact ⟨by rw [HR.out]; rfl, hb02⟩
end Go.Proofs.YtlinlmmcgifloaaDoor

/-
  CONTRACTS of chapter 12: GreatestElasticity (impl). (Own work: mkGr.py.)
-/
namespace Go.Proofs.YtlinlmmcgifloaaDoor
open Go Go.RowKit

theorem keepG {W wr w1 : World} {b1 b2 o2 o3 : Nat} {v1 v2 v3 : Value} (h1 : b1 < W.heap.size) (h2 : b2 < W.heap.size)
    (h : wr.cell? ⟨b1, 0, none⟩ = some v1 ∧ wr.cell? ⟨b2, o2, none⟩ = some v2 ∧ wr.cell? ⟨b2, o3, none⟩ = some v3 ∧ Below W.heap.size W wr) (hb : Below wr.heap.size wr w1) : w1.cell? ⟨b1, 0, none⟩ = some v1 ∧ w1.cell? ⟨b2, o2, none⟩ = some v2 ∧ w1.cell? ⟨b2, o3, none⟩ = some v3 ∧ Below W.heap.size W w1 := by
  obtain ⟨e1, e2, e3, hB⟩ := h
  have hs := hB.size
  exact ⟨(hb.cell (p := ⟨b1, 0, none⟩) (Nat.lt_of_lt_of_le h1 hs)).trans e1, (hb.cell (p := ⟨b2, o2, none⟩) (Nat.lt_of_lt_of_le h2 hs)).trans e2, (hb.cell (p := ⟨b2, o3, none⟩) (Nat.lt_of_lt_of_le h2 hs)).trans e3, hB.trans (hb.mono hs)⟩

end Go.Proofs.YtlinlmmcgifloaaDoor

/-
  CONTRACTS of the program's chapter 12: sumOf, LengthsOf. (Own work.)
-/
namespace Go.Proofs.YtlinlmmcgifloaaDoor
open Go Go.RowKit

end Go.Proofs.YtlinlmmcgifloaaDoor

/-
  CONTRACTS of chapter 12: DeltaOf (impl). (Own work: mkDel.py.)
-/
namespace Go.Proofs.YtlinlmmcgifloaaDoor
open Go Go.RowKit

end Go.Proofs.YtlinlmmcgifloaaDoor

/-
  CONTRACTS of chapter 12: ElasticityOf (impl). (Own work: mkEla.py.)
-/
namespace Go.Proofs.YtlinlmmcgifloaaDoor
open Go Go.RowKit

end Go.Proofs.YtlinlmmcgifloaaDoor

/-
  CONTRACTS of the program's chapter 12: DeltaSet. (Own work.)
-/
namespace Go.Proofs.YtlinlmmcgifloaaDoor
open Go Go.RowKit

end Go.Proofs.YtlinlmmcgifloaaDoor
