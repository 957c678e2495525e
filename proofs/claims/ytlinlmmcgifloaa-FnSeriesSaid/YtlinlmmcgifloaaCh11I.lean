/-
  CONTRACTS of the program's chapters 11, 12.
-/
import Derived.Test.YtlinlmmcgifloaaCh11M
import Derived.Test.YtlinlmmcgifloaaCh3I
import Derived.Test.YtlinlmmcgifloaaSgA
import Derived.Test.YtlinlmmcgifloaaSgL
import Derived.WalkMore
import Derived.ScopeJumps
import Derived.StillTailTactics
import Derived.Maps.AppendAt

/-
  CONTRACTS of the program's chapter 11: the search for factorizations. (Own work: mkI40.py.)
-/
namespace Go.Proofs.Ytlinlmmcgifloaa
open Go Go.RowKit
attribute [local go_sem] Oper.semAt_some

theorem exists_least {p : Nat → Prop} (h : ∃ n, p n) : ∃ n, p n ∧ ∀ m, m < n → ¬ p m := by
  obtain ⟨n, hn⟩ := h
  induction n using Nat.strongRecOn with
  | ind n ih =>
    by_cases hm : ∃ m, m < n ∧ p m
    · obtain ⟨m, h1, h2⟩ := hm
      exact ih m h1 h2
    · exact ⟨n, hn, fun m h1 h2 => hm ⟨m, h1, h2⟩⟩
/-- A scope in which the run jumps back to one label: J at every jump, its number less each time. -/
theorem wp_scope_down {P : Program} {c rest : Code} {a : Act} {w : World} {Q : Exit → Act → World → Prop} (l : Nat) (J : Nat → Act → World → Prop) (hf : findLabel c l = some (Code.skip.seq rest))
    (first : ∀ K : Exit → Act → World → Prop, (∀ n a w, J n a w → rest.wp P K a w) → c.wp P K a w)
    (pass : ∀ n a w, J n a w → rest.wp P (Exit.jump l (fun a' w' => ∃ m, m < n ∧ J m a' w') Q) a w) : (Code.scope c).wp P Q a w := by
  have key : ∀ (a : Act) (w : World), ∃ μ : Nat, (∃ n, J n a w) → J μ a w ∧ ∀ m, m < μ → ¬ J m a w := fun a w => by
    by_cases h : ∃ n, J n a w
    · obtain ⟨n, h1, h2⟩ := exists_least h
      exact ⟨n, fun _ => ⟨h1, h2⟩⟩
    · exact ⟨0, fun h' => absurd h' h⟩
  have sk : ∀ {K : Exit → Act → World → Prop} {a : Act} {w : World}, rest.wp P K a w → (Code.skip.seq rest).wp P K a w := fun h => wp_seq (wp_skip h)
  refine wp_scope_jumps l (fun a w => ∃ n, J n a w) (fun a w => Classical.choose (key a w)) hf (first _ fun n a w hJ => ?_) fun a w hJ => sk ?_
  · refine wp_mono (pass n a w hJ) ?_
    intro e a' w' hq
    cases e with
    | goto l' => obtain ⟨rfl, m, -, hj⟩ := hq; exact ⟨rfl, m, hj⟩
    | normal => exact hq
    | exit id => exact hq
    | ret => exact hq
    | panic ch => exact hq
    | outgrown => exact hq
  · have hs := Classical.choose_spec (key a w) hJ
    refine wp_mono (pass _ a w hs.1) ?_
    intro e a' w' hq
    cases e with
    | goto l' =>
      obtain ⟨rfl, m, hm, hj⟩ := hq
      have hs' := Classical.choose_spec (key a' w') ⟨m, hj⟩
      exact ⟨rfl, ⟨m, hj⟩, Nat.lt_of_le_of_lt (Nat.le_of_not_lt fun h => hs'.2 m h hj) hm⟩
    | normal => exact hq
    | exit id => exact hq
    | ret => exact hq
    | panic ch => exact hq
    | outgrown => exact hq

theorem infoSlL : (Try.prog.info? 24).map (fun i => (i.zero, i.size, i.bytes)) = some (some (Value.slice none 0 0), 1, 24) := by kernel_rfl

/-- How much the numbers on the stack (the last first) take. -/
def dotS (G : List Int) : List Nat → Nat
  | [] => 0
  | a :: S => a * (G.getD S.length 0).toNat + dotS G S
/-- The state of the search: what was found, the stack in a row of its own. -/
structure Fact (w W : World) (G : List Int) (n : Nat) (S : List Nat) (m : Nat) (F : List (List Int)) (v : Value) (vs : List Value) (tv : Value) : Prop where
  rows : Rows2 W w.heap.size W.heap.size v vs (F.map fun L => L.map (Value.int .i64))
  own : W.ownsRow w.heap.size 3 1 tv S.length ((S.reverse.map Int.ofNat).map (Value.int .i64))
  free : ∀ b, tv.ownBlock = some b → v.ownBlock ≠ some b ∧ ∀ i (h : i < vs.length), vs[i].ownBlock ≠ some b
  dot : m + dotS G S = n
  le : S.length ≤ G.length
  bel : Below w.heap.size w W
theorem dotS_cons (G : List Int) (a : Nat) (S : List Nat) : dotS G (a :: S) = a * (G.getD S.length 0).toNat + dotS G S := rfl
theorem dotS_le {G : List Int} {S : List Nat} (hG : ∀ g ∈ G, 1 ≤ g) (h : S.length ≤ G.length) : ∀ x ∈ S, x ≤ dotS G S := by
  induction S with
  | nil => intro x hx; cases hx
  | cons a S ih =>
    intro x hx
    have hl : S.length < G.length := h
    have hg : 1 ≤ (G.getD S.length 0).toNat := by
      rw [List.getD_eq_getElem?_getD, List.getElem?_eq_getElem hl]
      have := hG _ (List.getElem_mem hl)
      simp; omega
    have ha : a ≤ a * (G.getD S.length 0).toNat := Nat.le_mul_of_pos_right a hg
    unfold dotS
    rcases List.mem_cons.1 hx with rfl | hx
    · omega
    · have := ih (Nat.le_of_lt hl) x hx; omega
theorem Rows2.keepU {w w' : World} {lo hi : Nat} {v : Value} {vs : List Value} {xss : List (List Value)} (h : Rows2 w lo hi v vs xss) (hs : w.heap.size ≤ w'.heap.size)
    (hb : ∀ b, b < hi → (v.ownBlock = some b ∨ ∃ i, ∃ h : i < vs.length, vs[i].ownBlock = some b) → w'.heap[b]? = w.heap[b]?) : Rows2 w' lo hi v vs xss :=
  ⟨row_kept h.own fun j hj => hb j (h.blk j hj) (.inl hj), h.len, fun i h1 h2 => by
    have r := h.inn i h1 h2
    exact ⟨row_kept r.own fun j hj => hb j (r.blk j hj) (.inr ⟨i, h1, hj⟩), r.blk, Nat.le_trans r.hi_le hs⟩, h.blk, Nat.le_trans h.hi_le hs, h.apart, h.outer⟩
theorem Rows2.used {w : World} {lo hi : Nat} {v : Value} {vs : List Value} {xss : List (List Value)} (h : Rows2 w lo hi v vs xss) {b : Nat} (hb : v.ownBlock = some b ∨ ∃ i, ∃ h : i < vs.length, vs[i].ownBlock = some b) : b < hi := by
  rcases hb with hb | ⟨i, hi', hb⟩
  · exact h.blk b hb
  · exact (h.inn i hi' (by rw [← h.len]; exact hi')).blk b hb
section
variable {w W W' : World} {G : List Int} {n : Nat} {S : List Nat} {m : Nat} {F : List (List Int)} {v : Value} {vs : List Value} {tv : Value}
theorem Fact.not (h : Fact w W G n S m F v vs tv) {b : Nat} (hb : v.ownBlock = some b ∨ ∃ i, ∃ h : i < vs.length, vs[i].ownBlock = some b) : tv.ownBlock ≠ some b := fun e => by
  obtain ⟨h1, h2⟩ := h.free b e
  rcases hb with hb | ⟨i, hi', hb⟩
  · exact h1 hb
  · exact h2 i hi' hb
theorem Fact.drew (h : Fact w W G n S m F v vs tv) : Fact w W.drew G n S m F v vs tv :=
  ⟨h.rows.keep (Nat.le_refl _) fun _ _ _ => rfl, h.own, h.free, h.dot, h.le, h.bel.drew⟩
/-- A number more on the stack. -/
theorem Fact.pushed (h : Fact w W G n S m F v vs tv) (o : Obj) (q m' : Nat) {g c : Nat} (ho : W'.ownsRow w.heap.size 3 1 (.slice (some ⟨g, 0, none⟩) (S.length + 1) c) (S.length + 1) ((S.reverse.map Int.ofNat).map (Value.int .i64) ++ [.int .i64 (q : Int)])) (hg : (W.alloc o).grownBy W' tv.ownBlock)
    (hat : tv.ownBlock = some g ∨ g = (W.alloc o).heap.size) (hd : m' + dotS G (q :: S) = n) (hl : S.length + 1 ≤ G.length) : Fact w W' G n (q :: S) m' F v vs (.slice (some ⟨g, 0, none⟩) (S.length + 1) c) := by
  have hz : (W.alloc o).heap.size = W.heap.size + 1 := by simp
  have hsz := hg.size
  refine ⟨?_, by rw [List.length_cons, rev_ofNat, List.map_append]; exact ho, fun b hb => ?_, hd, by rw [List.length_cons]; exact hl, (h.bel.alloc h.bel.size o).grown hg (by simp; have := h.bel.size; omega) fun j hj => (h.own.lt j hj).1⟩
  · exact (h.rows.keepU (by omega) fun b hb hu => by
      rw [hg.block b (by omega) fun e => h.not hu e.symm]
      exact Below.heap_alloc W o b hb).wider (Nat.le_refl _) (by omega) (Nat.le_refl _)
  · have e : b = g := by simp [Value.ownBlock] at hb; exact hb.symm
    subst e
    rcases hat with ht | ht
    · exact h.free b ht
    · constructor
      · intro e'; have := h.rows.used (.inl e'); omega
      · intro i hi' e'; have := h.rows.used (.inr ⟨i, hi', e'⟩); omega
theorem owns_put2 {w : World} {base : Nat} {e : TypeId} {g n cap : Nat} {xs : List Value} (h : w.ownsRow base e 1 (.slice (some ⟨g, 0, none⟩) n cap) n xs) (j : Nat) (u : Value) :
    (w.setCell ⟨g, j, none⟩ u).ownsRow base e 1 (.slice (some ⟨g, 0, none⟩) n cap) n (xs.set j u) := by
  obtain ⟨hx, hv | ⟨g', cap', cur, hv, h1, h2, h3, h4, h5, h6⟩⟩ := h
  · cases hv.1
  · injection hv with hv hv2 hv3
    injection hv with hv
    injection hv with hv
    subst hv hv3
    refine ⟨by rw [List.length_set]; exact hx, .inr ⟨g, cap, cur.setIfInBounds j u, rfl, h1, heap_setCell_same w g j cur e u h2, h3, h4, by rw [Array.size_setIfInBounds]; exact h5, ?_⟩⟩
    rw [Array.toList_setIfInBounds, List.take_set, h6]
theorem owns_cut {w : World} {base : Nat} {e : TypeId} {g n k cap : Nat} {xs : List Value} (h : w.ownsRow base e 1 (.slice (some ⟨g, 0, none⟩) n cap) n xs) (hk : k ≤ n) :
    w.ownsRow base e 1 (.slice (some ⟨g, 0, none⟩) k cap) k (xs.take k) := by
  obtain ⟨hx, hv | ⟨g', cap', cur, hv, h1, h2, h3, h4, h5, h6⟩⟩ := h
  · cases hv.1
  · injection hv with hv hv2 hv3
    injection hv with hv
    injection hv with hv
    subst hv hv3
    refine ⟨by rw [List.length_take]; omega, .inr ⟨g, cap, cur, rfl, h1, h2, by omega, h4, h5, ?_⟩⟩
    rw [← h6, List.take_take]
    congr 1; omega
/-- The last number on the stack is one less. -/
theorem Fact.less {g c a' b : Nat} (h : Fact w W G n (a' :: S) m F v vs (.slice (some ⟨g, 0, none⟩) (S.length + 1) c)) (m' : Nat) (hd : m' + dotS G (b :: S) = n) :
    Fact w (W.setCell ⟨g, S.length, none⟩ (.int .i64 (b : Int))) G n (b :: S) m' F v vs (.slice (some ⟨g, 0, none⟩) (S.length + 1) c) := by
  have hg : (Value.slice (some ⟨g, 0, none⟩) (S.length + 1) c).ownBlock = some g := by simp [Value.ownBlock]
  have hp := owns_put2 h.own S.length (.int .i64 (b : Int))
  have hgr := grownBy_setCell W g S.length (.int .i64 (b : Int))
  refine ⟨?_, ?_, h.free, hd, h.le, h.bel.setCell (p := ⟨g, S.length, none⟩) (h.own.lt g hg).1 _⟩
  · exact (h.rows.keepU hgr.size fun b' hb' hu => hgr.block b' hb' fun e => h.not hu (by rw [hg]; exact e.symm)).wider (Nat.le_refl _) hgr.size (Nat.le_refl _)
  · have e : ((a' :: S).reverse.map Int.ofNat).map (Value.int .i64) = (S.reverse.map Int.ofNat).map (Value.int .i64) ++ [.int .i64 (a' : Int)] := by rw [rev_ofNat, List.map_append]; rfl
    have e2 : ((b :: S).reverse.map Int.ofNat).map (Value.int .i64) = (S.reverse.map Int.ofNat).map (Value.int .i64) ++ [.int .i64 (b : Int)] := by rw [rev_ofNat, List.map_append]; rfl
    rw [e, List.set_append_right _ _ (by simp)] at hp
    rw [e2]
    simpa using hp
/-- The last number leaves the stack. -/
theorem Fact.popped {g c a' : Nat} (h : Fact w W G n (a' :: S) m F v vs (.slice (some ⟨g, 0, none⟩) (S.length + 1) c)) (m' : Nat) (hd : m' + dotS G S = n) :
    Fact w W G n S m' F v vs (.slice (some ⟨g, 0, none⟩) S.length c) := by
  have ho := owns_cut (k := S.length) h.own (by simp)
  have e : ((a' :: S).reverse.map Int.ofNat).map (Value.int .i64) = (S.reverse.map Int.ofNat).map (Value.int .i64) ++ [.int .i64 (a' : Int)] := by rw [rev_ofNat, List.map_append]; rfl
  rw [e, List.take_left' (by simp)] at ho
  exact ⟨h.rows, ho, fun b hb => h.free b (by simpa [Value.ownBlock] using hb), hd, Nat.le_of_succ_le h.le, h.bel⟩
/-- What was found: the stack's copy goes behind the others. -/
theorem Fact.found {W1 : World} {u : Value} {g c : Nat} (h : Fact w W G n S m F v vs tv) (hb1 : Below W.heap.size W W1) (hu : W1.ownsRow W.heap.size 3 1 u S.length ((S.reverse.map Int.ofNat).map (Value.int .i64))) (o : Obj)
    (ho : W'.ownsRow w.heap.size 24 1 (.slice (some ⟨g, 0, none⟩) (vs.length + 1) c) (vs.length + 1) (vs ++ [u])) (hg : (W1.alloc o).grownBy W' v.ownBlock) (hat : v.ownBlock = some g ∨ g = (W1.alloc o).heap.size) :
    Fact w W' G n S m (F ++ [S.reverse.map Int.ofNat]) (.slice (some ⟨g, 0, none⟩) (vs.length + 1) c) (vs ++ [u]) tv := by
  have hz : (W1.alloc o).heap.size = W1.heap.size + 1 := by simp
  have hs1 := hb1.size
  have hbz := h.bel.size
  have hr2 : Rows2 (W1.alloc o) w.heap.size W.heap.size v vs (F.map fun L => L.map (Value.int .i64)) := (h.rows.below hb1).below (box_below W1 o)
  have hu2 : (W1.alloc o).ownsRow W.heap.size 3 1 u ((S.reverse.map Int.ofNat).map (Value.int .i64)).length ((S.reverse.map Int.ofNat).map (Value.int .i64)) := by
    have e : ((S.reverse.map Int.ofNat).map (Value.int .i64)).length = S.length := by simp
    rw [e]; exact owns_below hu (box_below W1 o)
  have ht : ∀ b, tv.ownBlock = some b → b < W.heap.size := fun b hb => (h.own.lt b hb).2
  refine ⟨?_, row_kept h.own fun j hj => ?_, fun b hb => ⟨fun e => ?_, fun i hi' e => ?_⟩, h.dot, h.le, ((h.bel.trans (hb1.mono hbz)).trans ((box_below W1 o).mono (Nat.le_trans hbz hs1))).grown hg (by omega) fun j hj => (h.rows.own.lt j hj).1⟩
  · rw [List.map_append]
    exact hr2.snoc ho hg hu2 hbz fun b hb => by
      have e : b = g := by simp [Value.ownBlock] at hb; exact hb.symm
      subst e
      rcases hat with h1 | h1
      · exact .inl h1
      · exact .inr (by omega)
  · have hj' := ht j hj
    rw [hg.block j (by omega) fun e => (h.free j hj).1 e.symm, Below.heap_alloc W1 o j (by omega)]
    exact hb1.block j hj'
  · have e' : b = g := by simp [Value.ownBlock] at e; exact e.symm
    have hb' := ht b hb
    rcases hat with h1 | h1
    · exact (h.free b hb).1 (by rw [e']; exact h1)
    · omega
  · have hb' := ht b hb
    by_cases hi2 : i < vs.length
    · rw [List.getElem_append_left hi2] at e
      exact (h.free b hb).2 i hi2 e
    · have e2 : i = vs.length := by simp at hi'; omega
      subst e2
      rw [List.getElem_append_right (Nat.le_refl _)] at e
      simp only [Nat.sub_self, List.getElem_cons_zero] at e
      have := (hu.lt b e).1
      omega
end
theorem clone_any2 (L : List Int) (a : Option Addr) (c : Nat) (w : World) (hr : SlV w a (L.map (Value.int .i64))) (hb : L.length ≤ 1048576) :
    Calls Try.prog 151 #[.slice a L.length c] w fun e w' => ∃ v, e = .returned v ∧ w'.ownsRow w.heap.size 3 1 v L.length (L.map (Value.int .i64)) ∧ Below w.heap.size w w' := by
  by_cases hn : L = []
  · subst hn
    cases a with
    | none =>
      refine (Try.slices_Clone_int_nil 0 c w).mono ?_
      rintro e w' ⟨rfl, rfl⟩
      exact ⟨_, rfl, World.ownsRow_nil _ _ _ _, Below.refl _ _⟩
    | some ad =>
      refine (Try.slices_Clone_int_zero ad c w).mono ?_
      rintro e w' ⟨v, rfl, ho, -, hb⟩
      exact ⟨v, rfl, ho, hb⟩
  · obtain ⟨b, off, rfl, hbs, hc⟩ := hr.open (by intro h; rw [List.map_eq_nil_iff] at h; exact hn h)
    refine (Try.slices_Clone_int b off L.length c L w (Nat.le_refl _) (by omega) (fun j hj => ?_)).mono ?_
    · rw [List.getD_eq_getElem?_getD, List.getElem?_eq_getElem hj]
      exact hc j _ (by simp [hj])
    · rintro e w' ⟨v, rfl, ho, -, hb⟩
      rw [List.take_length] at ho
      exact ⟨v, rfl, ho, hb⟩
theorem own_one {w : World} {base n : Nat} {u : Value} {xs : List Value} (h : w.ownsRow base 3 1 u n xs) : ∀ y ∈ [u], y.oneCell' = true := by
  intro y hy
  rw [List.mem_singleton] at hy
  subst hy
  rcases h.2 with ⟨rfl, _⟩ | ⟨g, cap, cur, rfl, _⟩ <;> rfl
theorem cell_last {W : World} {g x : Nat} {S : List Nat} (hH : Sort.Holds (Value.int .i64) W g 0 ((x :: S).reverse.map Int.ofNat).toArray) : W.cell? ⟨g, S.length, none⟩ = some (.int .i64 (x : Int)) ∧ W.frozen? ⟨g, S.length, none⟩ = false := by
  obtain ⟨h1, h2⟩ := hH S.length (by simp)
  have e : ((x :: S).reverse.map Int.ofNat).toArray[S.length]! = (x : Int) := by
    rw [getElem!_def]
    have : ((x :: S).reverse.map Int.ofNat)[S.length]? = some (x : Int) := by
      rw [rev_ofNat, List.getElem?_append_right (by simp)]; simp
    simp only [List.getElem?_toArray, this]
  rw [e, Nat.zero_add] at h1
  rw [Nat.zero_add] at h2
  exact ⟨h1, h2⟩
def lenOf : Value → Nat
  | .slice _ n _ => n
  | _ => 0

set_option maxRecDepth 100000 in
set_option maxHeartbeats 3200000 in
theorem impl_search (G : List Int) (n : Nat) (a : Option Addr) (cap : Nat) (w : World) (hr : SlV w a (G.map (Value.int .i64))) (hs : isSgB G = true) (hn : n ≤ 100) :
    Calls Try.prog 131 #[.slice a G.length cap, .int .i64 (n : Int)] w (SsPost (findF G n) w) := by
  have HL := Lib.hid hs
  have hG := (isSgB_iff.1 hs).bounds
  have hGl := (isSgB_iff.1 hs).len
  have HB := Lib.hid (fun k m hm => findF_bound hs k m hm)
  have HB0 : (findF G n).length ≤ 31381059609 := HB.out 0 n hn
  obtain ⟨i0, hi, hz0, hz1, hz2⟩ := info_parts infoIntL
  obtain ⟨j0, ji, jz0, jz1, jz2⟩ := info_parts infoSlL
  go_enter Try.func131, Try.ntmps131
  go_wp2_with fail
  refine wp_scope_down 0 (fun (μ : Nat) (a' : Act) (w' : World) => ∃ (S : List Nat) (m : Nat) (F : List (List Int)) (v : Value) (vs : List Value) (tv : Value), Fact w w' G n S m F v vs tv ∧ Hid (F ++ (todo G S m).filterMap okF = findF G n) ∧ Hid ((todo G S m).length = μ) ∧ ∃ u8 u9 u10 u11 u12 u13 u14 u15 u16 u17 u18 u19 u20 u21 u22 u23 u24 u25 u26 u27 u28 u29 u30 u31 u32 u33 u34 u35 u36 u37 u38 u39 u40 u41 u42 u43 u44 u45 u46 u47 u48 u49 u50 u51 u52 u53 u54 u55 u56 u57 u58 u59 u60 u61 u62 u63 u64 u65 u66 u67 u68 u69 u70 u71 u72 u73 u74 u75 u76 u77 u78 u79 u80 u81 : Value, a' = { tmps := #[.slice a G.length cap, .int .i64 (n : Int), undef, undef, .slice none 0 0, v, tv, .int .i64 (m : Int), u8, u9, u10, u11, u12, u13, u14, u15, u16, u17, u18, u19, u20, u21, u22, u23, u24, u25, u26, u27, u28, u29, u30, u31, u32, u33, u34, u35, u36, u37, u38, u39, u40, u41, u42, u43, u44, u45, u46, u47, u48, u49, u50, u51, u52, u53, u54, u55, u56, u57, u58, u59, u60, u61, u62, u63, u64, u65, u66, u67, u68, u69, u70, u71, u72, u73, u74, u75, u76, u77, u78, u79, u80, u81], defers := [] }) rfl ?first ?pass
  case first =>
    intro K hK
    go_wp2_with fail
    go_step3
    rename_i K1 h1
    refine h1 _ _ (hK _ _ _ ⟨[], n, [], .slice none 0 0, [], .slice none 0 0, ⟨Rows2.nil _ _ _ (Nat.le_refl _), World.ownsRow_nil _ _ _ _, fun b hb => by simp [Value.ownBlock] at hb, by simp [dotS], Nat.zero_le _, Below.refl _ _⟩, Lib.hid (by rw [todo_start]; rfl), Lib.hid rfl, _, _, _, _, _, _, _, _, _, _, _, _, _, _, _, _, _, _, _, _, _, _, _, _, _, _, _, _, _, _, _, _, _, _, _, _, _, _, _, _, _, _, _, _, _, _, _, _, _, _, _, _, _, _, _, _, _, _, _, _, _, _, _, _, _, _, _, _, _, _, _, _, _, _, rfl⟩)
  case pass =>
    rintro μ a' w' ⟨S, m, F, v, vs, tv, hF, HT, HM, u8, u9, u10, u11, u12, u13, u14, u15, u16, u17, u18, u19, u20, u21, u22, u23, u24, u25, u26, u27, u28, u29, u30, u31, u32, u33, u34, u35, u36, u37, u38, u39, u40, u41, u42, u43, u44, u45, u46, u47, u48, u49, u50, u51, u52, u53, u54, u55, u56, u57, u58, u59, u60, u61, u62, u63, u64, u65, u66, u67, u68, u69, u70, u71, u72, u73, u74, u75, u76, u77, u78, u79, u80, u81, rfl⟩
    have hFl : (F.map fun L => L.map (Value.int .i64)).length = vs.length := hF.rows.len.symm
    have hvl : vs.length ≤ 31381059609 := by have h := congrArg List.length HT.out; rw [List.length_append] at h; rw [List.length_map] at hFl; omega
    clear hFl
    go_wp2_with fail
    go_loopw [6, 7] (fun tv l wr => ∃ (S : List Nat) (m : Nat), l = .int .i64 (m : Int) ∧ Fact w wr G n S m F v vs tv ∧ Hid (F ++ (todo G S m).filterMap okF = findF G n) ∧ Hid ((todo G S m).length = μ)) (fun tv _ _ => G.length - lenOf tv)
    case atStart => exact ⟨S, m, rfl, hF, HT, HM⟩
    case round =>
      clear hF HT HM
      obtain ⟨S, m, rfl, hF, HT, HM⟩ := hrel
      obtain ⟨at_, ct, rfl, rT⟩ := row_open hF.own
      clear rT
      have hbz := hF.bel.size
      have hSle := hF.le
      have hdot := hF.dot
      by_cases hlt : S.length < G.length
      · have hlti : (S.length : Int) < (G.length : Int) := by omega
        obtain ⟨b, off, rfl, hbs, hcl⟩ := hr.open (by intro h; rw [List.map_eq_nil_iff] at h; subst h; simp at hlt)
        have hcg : wr.cell? ⟨b, off + S.length, none⟩ = some (.int .i64 G[S.length]) := (hF.bel.cell (p := ⟨b, off + S.length, none⟩) hbs).trans (hcl _ _ (by simp [hlt]))
        obtain ⟨hg1, hg60⟩ := hG G[S.length] (List.getElem_mem hlt)
        obtain ⟨gn, hgn⟩ := Int.eq_ofNat_of_zero_le (show 0 ≤ G[S.length] by omega)
        have hgd : (G.getD S.length 0).toNat = gn := by rw [List.getD_eq_getElem?_getD, List.getElem?_eq_getElem hlt]; simp [hgn]
        have HTF := Lib.hid (todo_fill m hlt hg1)
        have hk0 : (0 : Int) ≤ (S.length : Int) := by omega
        have hgn1 : 1 ≤ gn := by omega
        rw [hgn] at hcg HTF
        rw [Int.toNat_natCast] at HTF
        have HD : Hid (m % gn + dotS G (m / gn :: S) = n) := Lib.hid (by rw [dotS_cons, hgd]; have h1 := Nat.mod_add_div m gn; rw [Nat.mul_comm] at h1; omega)
        have hqz : ((gn : Int) == 0) = false := by rw [beq_eq_false_iff_ne]; omega
        have hmq : m / gn ≤ 100 := Nat.le_trans (Nat.div_le_self m gn) (by omega)
        have hwq : wrap64 ((m : Int) / (gn : Int)) = ((m / gn : Nat) : Int) := by rw [show (m : Int) / (gn : Int) = ((m / gn : Nat) : Int) from (Int.natCast_ediv m gn).symm]; generalize m / gn = q at hmq ⊢; unfold wrap64; omega
        have hwr : (m : Int) % (gn : Int) = ((m % gn : Nat) : Int) := (Int.natCast_emod m gn).symm
        clear hcl hgn hgd hdot
        go_wp2_with (first | (at_builtin; refine wpList_append_lies _ rfl _ _ 24 rfl w.heap.size 3 i0 (Value.int .i64 0) 1 8 Try.underlying24 hi hz0 hz1 hz2 rfl (by decide) (.slice at_ S.length ct) S.length _ rfl (hF.own.alloc _) ⟨wr.heap.size, 0, none⟩ 1 1 [.int .i64 ((m / gn : Nat) : Int)] rfl rfl (World.news_of_block (cs := #[.int .i64 ((m / gn : Nat) : Int)]) (t := 3) (fr := (0, 0)) (heap_alloc_new wr _)) (by simp [Value.oneCell']) (by omega) (by unfold maxLen; omega) (by omega) (by simp; omega) _ rfl ?_; intro g6 c6 w6 hown6 hg6 hat6 hlt6))
        have hF6 := hF.pushed _ (m / gn) (m % gn) hown6 hg6 hat6 HD.out (by omega)
        clear hown6 hg6 hat6 hF hcg
        go_roundw
        case rel => exact ⟨m / gn :: S, m % gn, by go_num, hF6, by rw [← HTF.out]; exact HT, by rw [← HTF.out]; exact HM⟩
        case measure => simp [lenOf]; omega
      · have hle : S.length = G.length := by omega
        have HFU := Lib.hid (todo_full m hle)
        rw [HFU.out] at HT HM
        clear HFU
        have hlti : ¬ (S.length : Int) < (G.length : Int) := by omega
        have hlS : (S.reverse.map Int.ofNat).length = S.length := by simp
        by_cases hm0 : m = 0
        · have hmz : ((m : Int) == 0) = true := by rw [beq_iff_eq]; omega
          have HT8 : Hid ((F ++ [S.reverse.map Int.ofNat]) ++ (backs G S m).filterMap okF = findF G n) := Lib.hid (by have h := HT.out; rw [List.filterMap_cons_some (b := S.reverse.map Int.ofNat) (by unfold okF; rw [if_pos hm0])] at h; rw [List.append_assoc]; exact h)
          have HM8 : Hid ((backs G S m).length < μ) := Lib.hid (by have h := HM.out; rw [List.length_cons] at h; omega)
          obtain ⟨at2, ct2, e2, rT⟩ := row_open hF.own
          cases e2
          have cC := clone_any2 (S.reverse.map Int.ofNat) at_ ct wr rT.slv (by omega)
          rw [hlS] at cC
          obtain ⟨av, cv, rfl⟩ := rows2_open hF.rows
          clear HT HM hle hm0 rT hlS
          go_wp2_with fail
          refine cC.mono ?_
          rintro e w7 ⟨u, rfl, hu, hb7⟩
          obtain ⟨au, cu, rfl, rU⟩ := row_open hu
          clear rU
          have hown7 := owns_below (hF.rows.own) hb7
          have hbz7 := hb7.size
          clear cC
          go_wp2_with (first | (at_builtin; refine wpList_append_lies _ rfl _ _ 64 rfl w.heap.size 24 j0 (Value.slice none 0 0) 1 24 Try.underlying64 ji jz0 jz1 jz2 rfl (by decide) (.slice av vs.length cv) vs.length vs rfl (hown7.alloc _) ⟨w7.heap.size, 0, none⟩ 1 1 [.slice au S.length cu] rfl rfl (World.news_of_block (cs := #[.slice au S.length cu]) (t := 24) (fr := (0, 0)) (heap_alloc_new w7 _)) (own_one hu) (by omega) (by unfold maxLen; omega) (by omega) (by simp; omega) _ rfl ?_; intro g8 c8 w8 hown8 hg8 hat8 hlt8))
          have hF8 := hF.found hb7 hu _ hown8 hg8 hat8
          clear hown8 hg8 hat8 hown7 hu hb7 hF
          obtain ⟨FF, hFF⟩ : ∃ FF, FF = (F ++ [S.reverse.map Int.ofNat]) := ⟨_, rfl⟩
          obtain ⟨VS, hVS⟩ : ∃ VS, VS = (vs ++ [.slice au S.length cu]) := ⟨_, rfl⟩
          rw [← hFF] at hF8 HT8
          rw [← hVS] at hF8
          clear hFF hVS
          go_loopw [6, 7] (fun tv l wr => ∃ (S : List Nat) (m : Nat), l = .int .i64 (m : Int) ∧ Fact w wr G n S m FF (.slice (some ⟨g8, 0, none⟩) (vs.length + 1) c8) VS tv ∧ Hid (FF ++ (backs G S m).filterMap okF = findF G n) ∧ Hid ((backs G S m).length < μ)) (fun tv _ _ => lenOf tv)
          case atStart => exact ⟨S, m, rfl, hF8, HT8, HM8⟩
          case round =>
            clear hF8 HT8 HM8
            obtain ⟨S, m, rfl, hF, HT, HM⟩ := hrel
            have hbz := hF.bel.size
            have hSle := hF.le
            have hdot := hF.dot
            cases S with
            | nil =>
              obtain ⟨at_, ct, rfl, rT⟩ := row_open hF.own
              clear rT
              have HE : Hid (FF = findF G n) := Lib.hid (by have h := HT.out; rw [backs_nil, List.filterMap_nil, List.append_nil] at h; exact h)
              go_wp2_with fail
              simp only [Exit.jump]
              go_ret
              exact ⟨_, VS, rfl, by rw [← HE.out]; exact hF.rows, hF.bel⟩
            | cons x S =>
              have hlt : S.length < G.length := hSle
              obtain ⟨gT, cT, rfl, hgT, hgl, hnc, hcm, -, hH⟩ := Lib.holds_of_ownsRow hF.own (by rintro rfl; rcases hF.own.2 with ⟨-, h⟩ | ⟨g, cap, cur, e, -⟩; simp at h; cases e)
              have hcx := cell_last hH
              clear hH
              obtain ⟨b, off, rfl, hbs, hcl⟩ := hr.open (by intro h; rw [List.map_eq_nil_iff] at h; subst h; simp at hlt)
              have hcg : wr.cell? ⟨b, off + S.length, none⟩ = some (.int .i64 G[S.length]) := (hF.bel.cell (p := ⟨b, off + S.length, none⟩) hbs).trans (hcl _ _ (by simp [hlt]))
              obtain ⟨hg1, hg60⟩ := hG G[S.length] (List.getElem_mem hlt)
              obtain ⟨gn, hgn⟩ := Int.eq_ofNat_of_zero_le (show 0 ≤ G[S.length] by omega)
              have hgd : (G.getD S.length 0).toNat = gn := by rw [List.getD_eq_getElem?_getD, List.getElem?_eq_getElem hlt]; simp [hgn]
              rw [List.length_cons] at hF hnc ⊢
              have hx100 : x ≤ 100 := by have h1 := dotS_le (fun g hg => (hG g hg).1) hSle x (by simp); omega
              have hgd2 : dotS G (x :: S) = x * gn + dotS G S := by rw [dotS_cons, hgd]
              have hxg : x * gn ≤ 100 := by omega
              obtain ⟨hcx1, hcx2⟩ := hcx
              rw [hgn] at hcg
              have hk0 : (0 : Int) ≤ (S.length : Int) := by omega
              have hk1 : (S.length : Int) < (S.length : Int) + 1 := by omega
              by_cases hc : S.length + 1 < G.length ∧ 0 < x
              · obtain ⟨hc1, hc2⟩ := hc
                obtain ⟨y, rfl⟩ : ∃ y, x = y + 1 := ⟨x - 1, by omega⟩
                have hbk := backs_less (G := G) (S := S) y m hc1
                rw [hgd] at hbk
                have HT2 : Hid (FF ++ (todo G (y :: S) (m + gn)).filterMap okF = findF G n) := Lib.hid (by rw [← hbk]; exact HT.out)
                have HM2 : Hid ((todo G (y :: S) (m + gn)).length < μ) := Lib.hid (by rw [← hbk]; exact HM.out)
                have hD2 : m + gn + dotS G (y :: S) = n := by
                  have h1 : dotS G (y :: S) = y * gn + dotS G S := by rw [dotS_cons, hgd]
                  rw [Nat.add_mul, Nat.one_mul] at hgd2
                  omega
                have hF2 := hF.less (b := y) (m + gn) hD2
                have hci : (S.length : Int) < (G.length : Int) - 1 := by omega
                have hyi : (0 : Int) < ((y + 1 : Nat) : Int) := by omega
                have hcg2 : (wr.setCell ⟨gT, S.length, none⟩ (.int .i64 (y : Int))).cell? ⟨b, off + S.length, none⟩ = some (.int .i64 (gn : Int)) := (World.cell?_setCell_far wr ⟨gT, S.length, none⟩ ⟨b, off + S.length, none⟩ _ (by dsimp only; omega)).trans hcg
                clear HT HM hbk hcl hgd hgn hgd2 hdot hF hxg
                go_wp2_with fail
                go_step3
                refine And.intro rfl ?_
                refine Exists.intro (todo G (y :: S) (m + gn)).length (And.intro HM2.out ?_)
                exact ⟨y :: S, m + gn, FF, _, VS, _, hF2, HT2, Lib.hid rfl, _, _, _, _, _, _, _, _, _, _, _, _, _, _, _, _, _, _, _, _, _, _, _, _, _, _, _, _, _, _, _, _, _, _, _, _, _, _, _, _, _, _, _, _, _, _, _, _, _, _, _, _, _, _, _, _, _, _, _, _, _, _, _, _, _, _, _, _, _, _, _, _, _, _, rfl⟩
              · have hbk := backs_pop (G := G) (S := S) x m (by omega)
                rw [hgd] at hbk
                rw [hbk] at HT HM
                have hF2 := hF.drew.popped (m + x * gn) (by omega)
                have hS0 : wr.drew.cell? ⟨gT, S.length, none⟩ = some (.int .i64 (x : Int)) ∧ wr.drew.cell? ⟨b, off + S.length, none⟩ = some (.int .i64 (gn : Int)) := ⟨hcx1, hcg⟩
                have hp : (x : Int) * (gn : Int) = ((x * gn : Nat) : Int) := by simp
                have hp0 : 0 ≤ (x : Int) * (gn : Int) := by omega
                have hp1 : (x : Int) * (gn : Int) ≤ 100 := by omega
                clear hp
                have hw3 : IntKind.i64.wrap ((x : Int) * (gn : Int)) = (x : Int) * (gn : Int) := IntWalk.i64_in _ (by omega)
                have hw4 : IntKind.i64.wrap ((m : Int) + (x : Int) * (gn : Int)) = (m : Int) + (x : Int) * (gn : Int) := IntWalk.i64_in _ (by omega)
                clear hbk hcl hgd hgn hgd2 hdot hF
                by_cases hc1 : S.length + 1 < G.length
                · have hx0 : x = 0 := by omega
                  have hci : (S.length : Int) < (G.length : Int) - 1 := by omega
                  have hxi2 : ¬ (0 : Int) < (x : Int) := by omega
                  have hxd : decide ((0 : Int) < (x : Int)) = false := decide_eq_false hxi2
                  replace hx0 := Lib.hid hx0
                  go_wp2_with fail
                  refine wp_region_held_drew (S := fun w' => w'.cell? ⟨gT, S.length, none⟩ = some (.int .i64 (x : Int)) ∧ w'.cell? ⟨b, off + S.length, none⟩ = some (.int .i64 (gn : Int))) (by kernel_rfl) hS0 (fun hHeld => ?_)
                  refine held_take 0 _ _ rfl (by kernel_rfl) (by kernel_rfl) (by kernel_rfl) (fun _ _ _ h => h) (by rfl) hHeld (fun w hSw => by (try dsimp only at hSw); go_simp; try with_reducible rfl) ?_
                  (try simp only [Act.put, List.setIfInBounds_toArray, List.set_cons_zero, List.set_cons_succ, List.getElem_toArray, List.getElem_cons_zero])
                  refine held_take 1 _ _ rfl (by kernel_rfl) (by kernel_rfl) (by kernel_rfl) (fun _ _ _ h => h) (by rfl) hHeld (fun w hSw => by (try dsimp only at hSw); go_simp; try with_reducible rfl) ?_
                  (try simp only [Act.put, List.setIfInBounds_toArray, List.set_cons_zero, List.set_cons_succ, List.getElem_toArray, List.getElem_cons_succ, List.getElem_cons_zero])
                  refine held_take 2 _ _ rfl (by kernel_rfl) (by kernel_rfl) (by kernel_rfl) (fun _ _ _ h => h) (by rfl) hHeld (fun w hSw => by (try dsimp only at hSw); go_simp; try with_reducible rfl) ?_
                  (try simp only [Act.put, List.setIfInBounds_toArray, List.set_cons_zero, List.set_cons_succ, List.getElem_toArray, List.getElem_cons_succ, List.getElem_cons_zero])
                  refine held_take 3 _ _ rfl (by kernel_rfl) (by kernel_rfl) (by kernel_rfl) (fun _ _ _ h => h) (by rfl) hHeld (fun w hSw => by (try dsimp only at hSw); go_simp; try with_reducible rfl) ?_
                  (try simp only [Act.put, List.setIfInBounds_toArray, List.set_cons_zero, List.set_cons_succ, List.getElem_toArray, List.getElem_cons_succ, List.getElem_cons_zero])
                  refine held_take 4 _ _ rfl (by kernel_rfl) (by kernel_rfl) (by kernel_rfl) (fun _ _ _ h => h) (by rfl) hHeld (fun w hSw => by (try dsimp only at hSw); go_simp; try with_reducible rfl) ?_
                  (try simp only [Act.put, List.setIfInBounds_toArray, List.set_cons_zero, List.set_cons_succ, List.getElem_toArray, List.getElem_cons_succ, List.getElem_cons_zero])
                  refine held_take 5 _ _ rfl (by kernel_rfl) (by kernel_rfl) (by kernel_rfl) (fun _ _ _ h => h) (by rfl) hHeld (fun w hSw => by (try dsimp only at hSw); go_simp; try with_reducible rfl) ?_
                  (try simp only [Act.put, List.setIfInBounds_toArray, List.set_cons_zero, List.set_cons_succ, List.getElem_toArray, List.getElem_cons_succ, List.getElem_cons_zero])
                  refine held_take 6 _ _ rfl (by kernel_rfl) (by kernel_rfl) (by kernel_rfl) (fun _ _ _ h => h) (by rfl) hHeld (fun w hSw => by (try dsimp only at hSw); go_simp; try with_reducible rfl) ?_
                  (try simp only [Act.put, List.setIfInBounds_toArray, List.set_cons_zero, List.set_cons_succ, List.getElem_toArray, List.getElem_cons_succ, List.getElem_cons_zero])
                  refine held_take 7 _ _ rfl (by kernel_rfl) (by kernel_rfl) (by kernel_rfl) (fun _ _ _ h => h) (by rfl) hHeld (fun w hSw => by (try dsimp only at hSw); go_simp; try with_reducible rfl) ?_
                  (try simp only [Act.put, List.setIfInBounds_toArray, List.set_cons_zero, List.set_cons_succ, List.getElem_toArray, List.getElem_cons_succ, List.getElem_cons_zero])
                  refine held_take 8 _ _ rfl (by kernel_rfl) (by kernel_rfl) (by kernel_rfl) (fun _ _ _ h => h) (by rfl) hHeld (fun w hSw => by (try dsimp only at hSw); go_simp; try with_reducible rfl) ?_
                  (try simp only [Act.put, List.setIfInBounds_toArray, List.set_cons_zero, List.set_cons_succ, List.getElem_toArray, List.getElem_cons_succ, List.getElem_cons_zero])
                  refine held_take 9 _ _ rfl (by kernel_rfl) (by kernel_rfl) (by kernel_rfl) (fun _ _ _ h => h) (by rfl) hHeld (fun w hSw => by (try dsimp only at hSw); go_simp; try with_reducible rfl) ?_
                  (try simp only [Act.put, List.setIfInBounds_toArray, List.set_cons_zero, List.set_cons_succ, List.getElem_toArray, List.getElem_cons_succ, List.getElem_cons_zero])
                  refine held_take 10 _ _ rfl (by kernel_rfl) (by kernel_rfl) (by kernel_rfl) (fun _ _ _ h => h) (by rfl) hHeld (fun w hSw => by (try dsimp only at hSw); go_simp; try with_reducible rfl) ?_
                  (try simp only [Act.put, List.setIfInBounds_toArray, List.set_cons_zero, List.set_cons_succ, List.getElem_toArray, List.getElem_cons_succ, List.getElem_cons_zero])
                  refine held_take 11 _ _ rfl (by kernel_rfl) (by kernel_rfl) (by kernel_rfl) (fun _ _ _ h => h) (by rfl) hHeld (fun w hSw => by (try dsimp only at hSw); go_simp; try with_reducible rfl) ?_
                  (try simp only [Act.put, List.setIfInBounds_toArray, List.set_cons_zero, List.set_cons_succ, List.getElem_toArray, List.getElem_cons_succ, List.getElem_cons_zero])
                  refine wpAnyH_done (by kernel_rfl) ?_ _
                  go_wp2_with fail
                  go_roundw
                  case rel => exact ⟨S, m + x * gn, by first | go_num | simp, hF2, HT, HM⟩
                  case measure => simp [lenOf]
                · have hci : ¬ (S.length : Int) < (G.length : Int) - 1 := by omega
                  have hcd : decide ((S.length : Int) < (G.length : Int) - 1) = false := decide_eq_false hci
                  go_wp2_with fail
                  refine wp_region_held_drew (S := fun w' => w'.cell? ⟨gT, S.length, none⟩ = some (.int .i64 (x : Int)) ∧ w'.cell? ⟨b, off + S.length, none⟩ = some (.int .i64 (gn : Int))) (by kernel_rfl) hS0 (fun hHeld => ?_)
                  refine held_take 0 _ _ rfl (by kernel_rfl) (by kernel_rfl) (by kernel_rfl) (fun _ _ _ h => h) (by rfl) hHeld (fun w hSw => by (try dsimp only at hSw); go_simp; try with_reducible rfl) ?_
                  (try simp only [Act.put, List.setIfInBounds_toArray, List.set_cons_zero, List.set_cons_succ, List.getElem_toArray, List.getElem_cons_zero])
                  refine held_take 1 _ _ rfl (by kernel_rfl) (by kernel_rfl) (by kernel_rfl) (fun _ _ _ h => h) (by rfl) hHeld (fun w hSw => by (try dsimp only at hSw); go_simp; try with_reducible rfl) ?_
                  (try simp only [Act.put, List.setIfInBounds_toArray, List.set_cons_zero, List.set_cons_succ, List.getElem_toArray, List.getElem_cons_succ, List.getElem_cons_zero])
                  refine held_take 2 _ _ rfl (by kernel_rfl) (by kernel_rfl) (by kernel_rfl) (fun _ _ _ h => h) (by rfl) hHeld (fun w hSw => by (try dsimp only at hSw); go_simp; try with_reducible rfl) ?_
                  (try simp only [Act.put, List.setIfInBounds_toArray, List.set_cons_zero, List.set_cons_succ, List.getElem_toArray, List.getElem_cons_succ, List.getElem_cons_zero])
                  refine held_take 3 _ _ rfl (by kernel_rfl) (by kernel_rfl) (by kernel_rfl) (fun _ _ _ h => h) (by rfl) hHeld (fun w hSw => by (try dsimp only at hSw); go_simp; try with_reducible rfl) ?_
                  (try simp only [Act.put, List.setIfInBounds_toArray, List.set_cons_zero, List.set_cons_succ, List.getElem_toArray, List.getElem_cons_succ, List.getElem_cons_zero])
                  refine held_take 4 _ _ rfl (by kernel_rfl) (by kernel_rfl) (by kernel_rfl) (fun _ _ _ h => h) (by rfl) hHeld (fun w hSw => by (try dsimp only at hSw); go_simp; try with_reducible rfl) ?_
                  (try simp only [Act.put, List.setIfInBounds_toArray, List.set_cons_zero, List.set_cons_succ, List.getElem_toArray, List.getElem_cons_succ, List.getElem_cons_zero])
                  refine held_take 5 _ _ rfl (by kernel_rfl) (by kernel_rfl) (by kernel_rfl) (fun _ _ _ h => h) (by rfl) hHeld (fun w hSw => by (try dsimp only at hSw); go_simp; try with_reducible rfl) ?_
                  (try simp only [Act.put, List.setIfInBounds_toArray, List.set_cons_zero, List.set_cons_succ, List.getElem_toArray, List.getElem_cons_succ, List.getElem_cons_zero])
                  refine held_take 6 _ _ rfl (by kernel_rfl) (by kernel_rfl) (by kernel_rfl) (fun _ _ _ h => h) (by rfl) hHeld (fun w hSw => by (try dsimp only at hSw); go_simp; try with_reducible rfl) ?_
                  (try simp only [Act.put, List.setIfInBounds_toArray, List.set_cons_zero, List.set_cons_succ, List.getElem_toArray, List.getElem_cons_succ, List.getElem_cons_zero])
                  refine held_take 7 _ _ rfl (by kernel_rfl) (by kernel_rfl) (by kernel_rfl) (fun _ _ _ h => h) (by rfl) hHeld (fun w hSw => by (try dsimp only at hSw); go_simp; try with_reducible rfl) ?_
                  (try simp only [Act.put, List.setIfInBounds_toArray, List.set_cons_zero, List.set_cons_succ, List.getElem_toArray, List.getElem_cons_succ, List.getElem_cons_zero])
                  refine held_take 8 _ _ rfl (by kernel_rfl) (by kernel_rfl) (by kernel_rfl) (fun _ _ _ h => h) (by rfl) hHeld (fun w hSw => by (try dsimp only at hSw); go_simp; try with_reducible rfl) ?_
                  (try simp only [Act.put, List.setIfInBounds_toArray, List.set_cons_zero, List.set_cons_succ, List.getElem_toArray, List.getElem_cons_succ, List.getElem_cons_zero])
                  refine held_take 9 _ _ rfl (by kernel_rfl) (by kernel_rfl) (by kernel_rfl) (fun _ _ _ h => h) (by rfl) hHeld (fun w hSw => by (try dsimp only at hSw); go_simp; try with_reducible rfl) ?_
                  (try simp only [Act.put, List.setIfInBounds_toArray, List.set_cons_zero, List.set_cons_succ, List.getElem_toArray, List.getElem_cons_succ, List.getElem_cons_zero])
                  refine held_take 10 _ _ rfl (by kernel_rfl) (by kernel_rfl) (by kernel_rfl) (fun _ _ _ h => h) (by rfl) hHeld (fun w hSw => by (try dsimp only at hSw); go_simp; try with_reducible rfl) ?_
                  (try simp only [Act.put, List.setIfInBounds_toArray, List.set_cons_zero, List.set_cons_succ, List.getElem_toArray, List.getElem_cons_succ, List.getElem_cons_zero])
                  refine held_take 11 _ _ rfl (by kernel_rfl) (by kernel_rfl) (by kernel_rfl) (fun _ _ _ h => h) (by rfl) hHeld (fun w hSw => by (try dsimp only at hSw); go_simp; try with_reducible rfl) ?_
                  (try simp only [Act.put, List.setIfInBounds_toArray, List.set_cons_zero, List.set_cons_succ, List.getElem_toArray, List.getElem_cons_succ, List.getElem_cons_zero])
                  refine wpAnyH_done (by kernel_rfl) ?_ _
                  go_wp2_with fail
                  go_roundw
                  case rel => exact ⟨S, m + x * gn, by first | go_num | simp, hF2, HT, HM⟩
                  case measure => simp [lenOf]
        · have hmz : ((m : Int) == 0) = false := by rw [beq_eq_false_iff_ne]; omega
          have HT8 : Hid (F ++ (backs G S m).filterMap okF = findF G n) := Lib.hid (by have h := HT.out; rw [List.filterMap_cons_none (by unfold okF; rw [if_neg hm0])] at h; exact h)
          have HM8 : Hid ((backs G S m).length < μ) := Lib.hid (by have h := HM.out; rw [List.length_cons] at h; omega)
          have hF8 := hF
          clear HT HM hle hF hlS
          go_wp2_with fail
          obtain ⟨FF, hFF⟩ : ∃ FF, FF = F := ⟨_, rfl⟩
          obtain ⟨VS, hVS⟩ : ∃ VS, VS = vs := ⟨_, rfl⟩
          rw [← hFF] at hF8 HT8
          rw [← hVS] at hF8
          clear hFF hVS
          go_loopw [6, 7] (fun tv l wr => ∃ (S : List Nat) (m : Nat), l = .int .i64 (m : Int) ∧ Fact w wr G n S m FF v VS tv ∧ Hid (FF ++ (backs G S m).filterMap okF = findF G n) ∧ Hid ((backs G S m).length < μ)) (fun tv _ _ => lenOf tv)
          case atStart => exact ⟨S, m, rfl, hF8, HT8, HM8⟩
          case round =>
            clear hF8 HT8 HM8
            obtain ⟨S, m, rfl, hF, HT, HM⟩ := hrel
            have hbz := hF.bel.size
            have hSle := hF.le
            have hdot := hF.dot
            cases S with
            | nil =>
              obtain ⟨at_, ct, rfl, rT⟩ := row_open hF.own
              clear rT
              have HE : Hid (FF = findF G n) := Lib.hid (by have h := HT.out; rw [backs_nil, List.filterMap_nil, List.append_nil] at h; exact h)
              go_wp2_with fail
              simp only [Exit.jump]
              go_ret
              exact ⟨_, VS, rfl, by rw [← HE.out]; exact hF.rows, hF.bel⟩
            | cons x S =>
              have hlt : S.length < G.length := hSle
              obtain ⟨gT, cT, rfl, hgT, hgl, hnc, hcm, -, hH⟩ := Lib.holds_of_ownsRow hF.own (by rintro rfl; rcases hF.own.2 with ⟨-, h⟩ | ⟨g, cap, cur, e, -⟩; simp at h; cases e)
              have hcx := cell_last hH
              clear hH
              obtain ⟨b, off, rfl, hbs, hcl⟩ := hr.open (by intro h; rw [List.map_eq_nil_iff] at h; subst h; simp at hlt)
              have hcg : wr.cell? ⟨b, off + S.length, none⟩ = some (.int .i64 G[S.length]) := (hF.bel.cell (p := ⟨b, off + S.length, none⟩) hbs).trans (hcl _ _ (by simp [hlt]))
              obtain ⟨hg1, hg60⟩ := hG G[S.length] (List.getElem_mem hlt)
              obtain ⟨gn, hgn⟩ := Int.eq_ofNat_of_zero_le (show 0 ≤ G[S.length] by omega)
              have hgd : (G.getD S.length 0).toNat = gn := by rw [List.getD_eq_getElem?_getD, List.getElem?_eq_getElem hlt]; simp [hgn]
              rw [List.length_cons] at hF hnc ⊢
              have hx100 : x ≤ 100 := by have h1 := dotS_le (fun g hg => (hG g hg).1) hSle x (by simp); omega
              have hgd2 : dotS G (x :: S) = x * gn + dotS G S := by rw [dotS_cons, hgd]
              have hxg : x * gn ≤ 100 := by omega
              obtain ⟨hcx1, hcx2⟩ := hcx
              rw [hgn] at hcg
              have hk0 : (0 : Int) ≤ (S.length : Int) := by omega
              have hk1 : (S.length : Int) < (S.length : Int) + 1 := by omega
              by_cases hc : S.length + 1 < G.length ∧ 0 < x
              · obtain ⟨hc1, hc2⟩ := hc
                obtain ⟨y, rfl⟩ : ∃ y, x = y + 1 := ⟨x - 1, by omega⟩
                have hbk := backs_less (G := G) (S := S) y m hc1
                rw [hgd] at hbk
                have HT2 : Hid (FF ++ (todo G (y :: S) (m + gn)).filterMap okF = findF G n) := Lib.hid (by rw [← hbk]; exact HT.out)
                have HM2 : Hid ((todo G (y :: S) (m + gn)).length < μ) := Lib.hid (by rw [← hbk]; exact HM.out)
                have hD2 : m + gn + dotS G (y :: S) = n := by
                  have h1 : dotS G (y :: S) = y * gn + dotS G S := by rw [dotS_cons, hgd]
                  rw [Nat.add_mul, Nat.one_mul] at hgd2
                  omega
                have hF2 := hF.less (b := y) (m + gn) hD2
                have hci : (S.length : Int) < (G.length : Int) - 1 := by omega
                have hyi : (0 : Int) < ((y + 1 : Nat) : Int) := by omega
                have hcg2 : (wr.setCell ⟨gT, S.length, none⟩ (.int .i64 (y : Int))).cell? ⟨b, off + S.length, none⟩ = some (.int .i64 (gn : Int)) := (World.cell?_setCell_far wr ⟨gT, S.length, none⟩ ⟨b, off + S.length, none⟩ _ (by dsimp only; omega)).trans hcg
                clear HT HM hbk hcl hgd hgn hgd2 hdot hF hxg
                go_wp2_with fail
                go_step3
                refine And.intro rfl ?_
                refine Exists.intro (todo G (y :: S) (m + gn)).length (And.intro HM2.out ?_)
                exact ⟨y :: S, m + gn, FF, _, VS, _, hF2, HT2, Lib.hid rfl, _, _, _, _, _, _, _, _, _, _, _, _, _, _, _, _, _, _, _, _, _, _, _, _, _, _, _, _, _, _, _, _, _, _, _, _, _, _, _, _, _, _, _, _, _, _, _, _, _, _, _, _, _, _, _, _, _, _, _, _, _, _, _, _, _, _, _, _, _, _, _, _, _, _, rfl⟩
              · have hbk := backs_pop (G := G) (S := S) x m (by omega)
                rw [hgd] at hbk
                rw [hbk] at HT HM
                have hF2 := hF.drew.popped (m + x * gn) (by omega)
                have hS0 : wr.drew.cell? ⟨gT, S.length, none⟩ = some (.int .i64 (x : Int)) ∧ wr.drew.cell? ⟨b, off + S.length, none⟩ = some (.int .i64 (gn : Int)) := ⟨hcx1, hcg⟩
                have hp : (x : Int) * (gn : Int) = ((x * gn : Nat) : Int) := by simp
                have hp0 : 0 ≤ (x : Int) * (gn : Int) := by omega
                have hp1 : (x : Int) * (gn : Int) ≤ 100 := by omega
                clear hp
                have hw3 : IntKind.i64.wrap ((x : Int) * (gn : Int)) = (x : Int) * (gn : Int) := IntWalk.i64_in _ (by omega)
                have hw4 : IntKind.i64.wrap ((m : Int) + (x : Int) * (gn : Int)) = (m : Int) + (x : Int) * (gn : Int) := IntWalk.i64_in _ (by omega)
                clear hbk hcl hgd hgn hgd2 hdot hF
                by_cases hc1 : S.length + 1 < G.length
                · have hx0 : x = 0 := by omega
                  have hci : (S.length : Int) < (G.length : Int) - 1 := by omega
                  have hxi2 : ¬ (0 : Int) < (x : Int) := by omega
                  have hxd : decide ((0 : Int) < (x : Int)) = false := decide_eq_false hxi2
                  replace hx0 := Lib.hid hx0
                  go_wp2_with fail
                  refine wp_region_held_drew (S := fun w' => w'.cell? ⟨gT, S.length, none⟩ = some (.int .i64 (x : Int)) ∧ w'.cell? ⟨b, off + S.length, none⟩ = some (.int .i64 (gn : Int))) (by kernel_rfl) hS0 (fun hHeld => ?_)
                  refine held_take 0 _ _ rfl (by kernel_rfl) (by kernel_rfl) (by kernel_rfl) (fun _ _ _ h => h) (by rfl) hHeld (fun w hSw => by (try dsimp only at hSw); go_simp; try with_reducible rfl) ?_
                  (try simp only [Act.put, List.setIfInBounds_toArray, List.set_cons_zero, List.set_cons_succ, List.getElem_toArray, List.getElem_cons_zero])
                  refine held_take 1 _ _ rfl (by kernel_rfl) (by kernel_rfl) (by kernel_rfl) (fun _ _ _ h => h) (by rfl) hHeld (fun w hSw => by (try dsimp only at hSw); go_simp; try with_reducible rfl) ?_
                  (try simp only [Act.put, List.setIfInBounds_toArray, List.set_cons_zero, List.set_cons_succ, List.getElem_toArray, List.getElem_cons_succ, List.getElem_cons_zero])
                  refine held_take 2 _ _ rfl (by kernel_rfl) (by kernel_rfl) (by kernel_rfl) (fun _ _ _ h => h) (by rfl) hHeld (fun w hSw => by (try dsimp only at hSw); go_simp; try with_reducible rfl) ?_
                  (try simp only [Act.put, List.setIfInBounds_toArray, List.set_cons_zero, List.set_cons_succ, List.getElem_toArray, List.getElem_cons_succ, List.getElem_cons_zero])
                  refine held_take 3 _ _ rfl (by kernel_rfl) (by kernel_rfl) (by kernel_rfl) (fun _ _ _ h => h) (by rfl) hHeld (fun w hSw => by (try dsimp only at hSw); go_simp; try with_reducible rfl) ?_
                  (try simp only [Act.put, List.setIfInBounds_toArray, List.set_cons_zero, List.set_cons_succ, List.getElem_toArray, List.getElem_cons_succ, List.getElem_cons_zero])
                  refine held_take 4 _ _ rfl (by kernel_rfl) (by kernel_rfl) (by kernel_rfl) (fun _ _ _ h => h) (by rfl) hHeld (fun w hSw => by (try dsimp only at hSw); go_simp; try with_reducible rfl) ?_
                  (try simp only [Act.put, List.setIfInBounds_toArray, List.set_cons_zero, List.set_cons_succ, List.getElem_toArray, List.getElem_cons_succ, List.getElem_cons_zero])
                  refine held_take 5 _ _ rfl (by kernel_rfl) (by kernel_rfl) (by kernel_rfl) (fun _ _ _ h => h) (by rfl) hHeld (fun w hSw => by (try dsimp only at hSw); go_simp; try with_reducible rfl) ?_
                  (try simp only [Act.put, List.setIfInBounds_toArray, List.set_cons_zero, List.set_cons_succ, List.getElem_toArray, List.getElem_cons_succ, List.getElem_cons_zero])
                  refine held_take 6 _ _ rfl (by kernel_rfl) (by kernel_rfl) (by kernel_rfl) (fun _ _ _ h => h) (by rfl) hHeld (fun w hSw => by (try dsimp only at hSw); go_simp; try with_reducible rfl) ?_
                  (try simp only [Act.put, List.setIfInBounds_toArray, List.set_cons_zero, List.set_cons_succ, List.getElem_toArray, List.getElem_cons_succ, List.getElem_cons_zero])
                  refine held_take 7 _ _ rfl (by kernel_rfl) (by kernel_rfl) (by kernel_rfl) (fun _ _ _ h => h) (by rfl) hHeld (fun w hSw => by (try dsimp only at hSw); go_simp; try with_reducible rfl) ?_
                  (try simp only [Act.put, List.setIfInBounds_toArray, List.set_cons_zero, List.set_cons_succ, List.getElem_toArray, List.getElem_cons_succ, List.getElem_cons_zero])
                  refine held_take 8 _ _ rfl (by kernel_rfl) (by kernel_rfl) (by kernel_rfl) (fun _ _ _ h => h) (by rfl) hHeld (fun w hSw => by (try dsimp only at hSw); go_simp; try with_reducible rfl) ?_
                  (try simp only [Act.put, List.setIfInBounds_toArray, List.set_cons_zero, List.set_cons_succ, List.getElem_toArray, List.getElem_cons_succ, List.getElem_cons_zero])
                  refine held_take 9 _ _ rfl (by kernel_rfl) (by kernel_rfl) (by kernel_rfl) (fun _ _ _ h => h) (by rfl) hHeld (fun w hSw => by (try dsimp only at hSw); go_simp; try with_reducible rfl) ?_
                  (try simp only [Act.put, List.setIfInBounds_toArray, List.set_cons_zero, List.set_cons_succ, List.getElem_toArray, List.getElem_cons_succ, List.getElem_cons_zero])
                  refine held_take 10 _ _ rfl (by kernel_rfl) (by kernel_rfl) (by kernel_rfl) (fun _ _ _ h => h) (by rfl) hHeld (fun w hSw => by (try dsimp only at hSw); go_simp; try with_reducible rfl) ?_
                  (try simp only [Act.put, List.setIfInBounds_toArray, List.set_cons_zero, List.set_cons_succ, List.getElem_toArray, List.getElem_cons_succ, List.getElem_cons_zero])
                  refine held_take 11 _ _ rfl (by kernel_rfl) (by kernel_rfl) (by kernel_rfl) (fun _ _ _ h => h) (by rfl) hHeld (fun w hSw => by (try dsimp only at hSw); go_simp; try with_reducible rfl) ?_
                  (try simp only [Act.put, List.setIfInBounds_toArray, List.set_cons_zero, List.set_cons_succ, List.getElem_toArray, List.getElem_cons_succ, List.getElem_cons_zero])
                  refine wpAnyH_done (by kernel_rfl) ?_ _
                  go_wp2_with fail
                  go_roundw
                  case rel => exact ⟨S, m + x * gn, by first | go_num | simp, hF2, HT, HM⟩
                  case measure => simp [lenOf]
                · have hci : ¬ (S.length : Int) < (G.length : Int) - 1 := by omega
                  have hcd : decide ((S.length : Int) < (G.length : Int) - 1) = false := decide_eq_false hci
                  go_wp2_with fail
                  refine wp_region_held_drew (S := fun w' => w'.cell? ⟨gT, S.length, none⟩ = some (.int .i64 (x : Int)) ∧ w'.cell? ⟨b, off + S.length, none⟩ = some (.int .i64 (gn : Int))) (by kernel_rfl) hS0 (fun hHeld => ?_)
                  refine held_take 0 _ _ rfl (by kernel_rfl) (by kernel_rfl) (by kernel_rfl) (fun _ _ _ h => h) (by rfl) hHeld (fun w hSw => by (try dsimp only at hSw); go_simp; try with_reducible rfl) ?_
                  (try simp only [Act.put, List.setIfInBounds_toArray, List.set_cons_zero, List.set_cons_succ, List.getElem_toArray, List.getElem_cons_zero])
                  refine held_take 1 _ _ rfl (by kernel_rfl) (by kernel_rfl) (by kernel_rfl) (fun _ _ _ h => h) (by rfl) hHeld (fun w hSw => by (try dsimp only at hSw); go_simp; try with_reducible rfl) ?_
                  (try simp only [Act.put, List.setIfInBounds_toArray, List.set_cons_zero, List.set_cons_succ, List.getElem_toArray, List.getElem_cons_succ, List.getElem_cons_zero])
                  refine held_take 2 _ _ rfl (by kernel_rfl) (by kernel_rfl) (by kernel_rfl) (fun _ _ _ h => h) (by rfl) hHeld (fun w hSw => by (try dsimp only at hSw); go_simp; try with_reducible rfl) ?_
                  (try simp only [Act.put, List.setIfInBounds_toArray, List.set_cons_zero, List.set_cons_succ, List.getElem_toArray, List.getElem_cons_succ, List.getElem_cons_zero])
                  refine held_take 3 _ _ rfl (by kernel_rfl) (by kernel_rfl) (by kernel_rfl) (fun _ _ _ h => h) (by rfl) hHeld (fun w hSw => by (try dsimp only at hSw); go_simp; try with_reducible rfl) ?_
                  (try simp only [Act.put, List.setIfInBounds_toArray, List.set_cons_zero, List.set_cons_succ, List.getElem_toArray, List.getElem_cons_succ, List.getElem_cons_zero])
                  refine held_take 4 _ _ rfl (by kernel_rfl) (by kernel_rfl) (by kernel_rfl) (fun _ _ _ h => h) (by rfl) hHeld (fun w hSw => by (try dsimp only at hSw); go_simp; try with_reducible rfl) ?_
                  (try simp only [Act.put, List.setIfInBounds_toArray, List.set_cons_zero, List.set_cons_succ, List.getElem_toArray, List.getElem_cons_succ, List.getElem_cons_zero])
                  refine held_take 5 _ _ rfl (by kernel_rfl) (by kernel_rfl) (by kernel_rfl) (fun _ _ _ h => h) (by rfl) hHeld (fun w hSw => by (try dsimp only at hSw); go_simp; try with_reducible rfl) ?_
                  (try simp only [Act.put, List.setIfInBounds_toArray, List.set_cons_zero, List.set_cons_succ, List.getElem_toArray, List.getElem_cons_succ, List.getElem_cons_zero])
                  refine held_take 6 _ _ rfl (by kernel_rfl) (by kernel_rfl) (by kernel_rfl) (fun _ _ _ h => h) (by rfl) hHeld (fun w hSw => by (try dsimp only at hSw); go_simp; try with_reducible rfl) ?_
                  (try simp only [Act.put, List.setIfInBounds_toArray, List.set_cons_zero, List.set_cons_succ, List.getElem_toArray, List.getElem_cons_succ, List.getElem_cons_zero])
                  refine held_take 7 _ _ rfl (by kernel_rfl) (by kernel_rfl) (by kernel_rfl) (fun _ _ _ h => h) (by rfl) hHeld (fun w hSw => by (try dsimp only at hSw); go_simp; try with_reducible rfl) ?_
                  (try simp only [Act.put, List.setIfInBounds_toArray, List.set_cons_zero, List.set_cons_succ, List.getElem_toArray, List.getElem_cons_succ, List.getElem_cons_zero])
                  refine held_take 8 _ _ rfl (by kernel_rfl) (by kernel_rfl) (by kernel_rfl) (fun _ _ _ h => h) (by rfl) hHeld (fun w hSw => by (try dsimp only at hSw); go_simp; try with_reducible rfl) ?_
                  (try simp only [Act.put, List.setIfInBounds_toArray, List.set_cons_zero, List.set_cons_succ, List.getElem_toArray, List.getElem_cons_succ, List.getElem_cons_zero])
                  refine held_take 9 _ _ rfl (by kernel_rfl) (by kernel_rfl) (by kernel_rfl) (fun _ _ _ h => h) (by rfl) hHeld (fun w hSw => by (try dsimp only at hSw); go_simp; try with_reducible rfl) ?_
                  (try simp only [Act.put, List.setIfInBounds_toArray, List.set_cons_zero, List.set_cons_succ, List.getElem_toArray, List.getElem_cons_succ, List.getElem_cons_zero])
                  refine held_take 10 _ _ rfl (by kernel_rfl) (by kernel_rfl) (by kernel_rfl) (fun _ _ _ h => h) (by rfl) hHeld (fun w hSw => by (try dsimp only at hSw); go_simp; try with_reducible rfl) ?_
                  (try simp only [Act.put, List.setIfInBounds_toArray, List.set_cons_zero, List.set_cons_succ, List.getElem_toArray, List.getElem_cons_succ, List.getElem_cons_zero])
                  refine held_take 11 _ _ rfl (by kernel_rfl) (by kernel_rfl) (by kernel_rfl) (fun _ _ _ h => h) (by rfl) hHeld (fun w hSw => by (try dsimp only at hSw); go_simp; try with_reducible rfl) ?_
                  (try simp only [Act.put, List.setIfInBounds_toArray, List.set_cons_zero, List.set_cons_succ, List.getElem_toArray, List.getElem_cons_succ, List.getElem_cons_zero])
                  refine wpAnyH_done (by kernel_rfl) ?_ _
                  go_wp2_with fail
                  go_roundw
                  case rel => exact ⟨S, m + x * gn, by first | go_num | simp, hF2, HT, HM⟩
                  case measure => simp [lenOf]

theorem factL_no {G : List Int} {n : Int} (h : isSgB G = false ∨ inB n 0 100 = false) : factL G n = [] := by
  unfold factL
  rcases h with h | h
  · rw [h]; rfl
  · rw [h, Bool.and_false]; rfl
theorem factL_yes {G : List Int} {n : Nat} (hs : isSgB G = true) (hn : n ≤ 100) : factL G (n : Int) = findF G n := by
  have h : inB (n : Int) 0 100 = true := by unfold inB; rw [decide_eq_true (by omega : (0 : Int) ≤ (n : Int)), decide_eq_true (by omega : (n : Int) ≤ 100)]; rfl
  unfold factL; rw [hs, h, Int.toNat_natCast]; rfl
set_option maxRecDepth 100000 in
set_option maxHeartbeats 800000 in
theorem impl_isFactored (G : List Int) (n : Int) (a : Option Addr) (cap : Nat) (w : World) (hr : SlV w a (G.map (Value.int .i64))) (hb : G.length ≤ 1048576) :
    Calls Try.prog 130 #[.agg #[.slice a G.length cap], .int .i64 n] w fun e w' => e = .returned (.bool (isSgB G && inB n 0 100)) ∧ Below w.heap.size w w' := by
  have hb0 := box_below w (.cells #[.slice a G.length cap] 26)
  have hc0 := box_cell w (.slice a G.length cap)
  have c1 := impl_IsSemigroup G a cap _ (hr.below hb0) hb
  clear hr
  cases hs : isSgB G
  · have HR : Hid ((false && inB n 0 100) = false) := Lib.hid rfl
    rw [hs] at c1
    clear hs
    go_enter Try.func130, Try.ntmps130
    go_wp2_with fail
    refine c1.mono ?_
    rintro e w1 ⟨rfl, hb1⟩
    have hb01 := hb0.trans (hb1.mono hb0.size)
    clear c1
    go_wp2_with fail
    go_ret
    exact ⟨by rw [HR.out]; rfl, hb01⟩
  · rw [hs] at c1
    clear hs
    by_cases h0 : 0 ≤ n
    · have hd := decide_eq_true h0
      by_cases h1 : n ≤ 100
      · have hd1 := decide_eq_true h1
        have HR : Hid ((true && inB n 0 100) = true) := Lib.hid (by unfold inB; rw [hd, hd1]; rfl)
        clear h0 h1
        go_enter Try.func130, Try.ntmps130
        go_wp2_with fail
        refine c1.mono ?_
        rintro e w1 ⟨rfl, hb1⟩
        have hb01 := hb0.trans (hb1.mono hb0.size)
        clear c1
        go_wp2_with fail
        go_ret
        exact ⟨by rw [HR.out]; rfl, hb01⟩
      · have hd1 := decide_eq_false h1
        have HR : Hid ((true && inB n 0 100) = false) := Lib.hid (by unfold inB; rw [hd1, Bool.and_false, Bool.and_false])
        clear h0 h1
        go_enter Try.func130, Try.ntmps130
        go_wp2_with fail
        refine c1.mono ?_
        rintro e w1 ⟨rfl, hb1⟩
        have hb01 := hb0.trans (hb1.mono hb0.size)
        clear c1
        go_wp2_with fail
        go_ret
        exact ⟨by rw [HR.out]; rfl, hb01⟩
    · have hd := decide_eq_false h0
      have HR : Hid ((true && inB n 0 100) = false) := Lib.hid (by unfold inB; rw [hd]; rfl)
      clear h0
      go_enter Try.func130, Try.ntmps130
      go_wp2_with fail
      refine c1.mono ?_
      rintro e w1 ⟨rfl, hb1⟩
      have hb01 := hb0.trans (hb1.mono hb0.size)
      clear c1
      go_wp2_with fail
      go_ret
      exact ⟨by rw [HR.out]; rfl, hb01⟩
set_option maxRecDepth 100000 in
set_option maxHeartbeats 1600000 in
theorem impl_Factorizations (G : List Int) (n : Int) (a : Option Addr) (cap : Nat) (w : World) (hr : SlV w a (G.map (Value.int .i64))) (hb : G.length ≤ 1048576) :
    Calls Try.prog 72 #[.agg #[.slice a G.length cap], .int .i64 n] w (SsPost (factL G n) w) := by
  have hb0 := box_below w (.cells #[.slice a G.length cap] 26)
  have hc0 := box_cell w (.slice a G.length cap)
  have hWs : w.heap.size < (w.alloc (.cells #[.slice a G.length cap] 26)).heap.size := by simp
  have c1 := impl_isFactored G n a cap _ (hr.below hb0) hb
  cases hs : isSgB G && inB n 0 100
  · have HR := Lib.hid (factL_no (G := G) (n := n) (Bool.and_eq_false_iff.1 hs))
    rw [hs] at c1
    clear hs hr
    go_enter Try.func72, Try.ntmps72
    go_wp2_with fail
    refine c1.mono ?_
    rintro e w1 ⟨rfl, hb1⟩
    have hb01 := hb0.trans (hb1.mono hb0.size)
    go_wp2_with fail
    go_ret
    exact ⟨_, [], rfl, by rw [HR.out]; exact Rows2.nil _ _ _ (Nat.le_refl _), hb01⟩
  · rw [hs] at c1
    obtain ⟨hs1, hn⟩ := Bool.and_eq_true_iff.1 hs
    obtain ⟨hn0, hn1⟩ := inB_true hn
    obtain ⟨k, rfl⟩ := Int.eq_ofNat_of_zero_le hn0
    have hk : k ≤ 100 := by omega
    have HR := Lib.hid (factL_yes hs1 hk)
    have c2 := fun w' (h : SlV w' a (G.map (Value.int .i64))) => impl_search G k a cap w' h hs1 hk
    clear hs hs1 hn hn0 hn1
    go_enter Try.func72, Try.ntmps72
    go_wp2_with fail
    refine c1.mono ?_
    rintro e w1 ⟨rfl, hb1⟩
    have hb01 := hb0.trans (hb1.mono hb0.size)
    have hk1 : w1.cell? ⟨w.heap.size, 0, none⟩ = some (.slice a G.length cap) := (hb1.cell (p := ⟨w.heap.size, 0, none⟩) hWs).trans hc0
    have c3 := c2 w1 (hr.below hb01)
    have hs01 := hb01.size
    clear c1 c2 hb1 hc0 hWs hr hb0
    go_wp2_with fail
    refine c3.mono ?_
    rintro e w2 ⟨v, vs, rfl, hR, hb2⟩
    have hb02 := hb01.trans (hb2.mono hs01)
    have HRR := Lib.hid (hR.wider hs01 (Nat.le_refl _) (Nat.le_refl _))
    clear c3 hR
    go_wp2_with fail
    go_ret
    exact ⟨_, vs, rfl, by rw [HR.out]; exact HRR.out, hb02⟩
end Go.Proofs.Ytlinlmmcgifloaa

/-
  CONTRACTS of chapter 11: ValueOf, IsFactorization (impl). (Own work: mkVal.py.)
-/
namespace Go.Proofs.Ytlinlmmcgifloaa
open Go Go.RowKit


end Go.Proofs.Ytlinlmmcgifloaa

/-
  CONTRACTS of the program's chapter 11: CountFactorizations. (Own work: mkCntI.py.)
-/
namespace Go.Proofs.Ytlinlmmcgifloaa
open Go Go.RowKit

end Go.Proofs.Ytlinlmmcgifloaa

/-
  CONTRACTS of chapter 12: GreatestElasticity (impl). (Own work: mkGr.py.)
-/
namespace Go.Proofs.Ytlinlmmcgifloaa
open Go Go.RowKit

theorem keepG {W wr w1 : World} {b1 b2 o2 o3 : Nat} {v1 v2 v3 : Value} (h1 : b1 < W.heap.size) (h2 : b2 < W.heap.size)
    (h : wr.cell? ⟨b1, 0, none⟩ = some v1 ∧ wr.cell? ⟨b2, o2, none⟩ = some v2 ∧ wr.cell? ⟨b2, o3, none⟩ = some v3 ∧ Below W.heap.size W wr) (hb : Below wr.heap.size wr w1) : w1.cell? ⟨b1, 0, none⟩ = some v1 ∧ w1.cell? ⟨b2, o2, none⟩ = some v2 ∧ w1.cell? ⟨b2, o3, none⟩ = some v3 ∧ Below W.heap.size W w1 := by
  obtain ⟨e1, e2, e3, hB⟩ := h
  have hs := hB.size
  exact ⟨(hb.cell (p := ⟨b1, 0, none⟩) (Nat.lt_of_lt_of_le h1 hs)).trans e1, (hb.cell (p := ⟨b2, o2, none⟩) (Nat.lt_of_lt_of_le h2 hs)).trans e2, (hb.cell (p := ⟨b2, o3, none⟩) (Nat.lt_of_lt_of_le h2 hs)).trans e3, hB.trans (hb.mono hs)⟩
set_option maxRecDepth 100000 in
set_option maxHeartbeats 800000 in
theorem impl_lowestTerms (x y : Nat) (w : World) (hx : x ≤ 1000000) (hy : y ≤ 1000000) :
    Calls Try.prog 75 #[.int .i64 (x : Int), .int .i64 (y : Int)] w fun e w' => e = .returned (.tuple #[.int .i64 (lowA x y), .int .i64 (lowB x y)]) ∧ Below w.heap.size w w' := by
  obtain ⟨d, hd, hd1⟩ := gcd_nat x y
  have c1 := impl_GcdOf (x : Int) (y : Int) w
  rw [hd] at c1
  by_cases hdz : d = 0
  · subst hdz
    have HR := Lib.hid (low_no hd)
    clear hd
    go_enter Try.func75, Try.ntmps75
    go_wp2_with fail
    refine c1.mono ?_
    rintro e w1 ⟨rfl, hb1⟩
    go_wp2_with fail
    go_ret2
    exact ⟨by rw [HR.out.1, HR.out.2]; rfl, hb1⟩
  · obtain ⟨hlA, hlB⟩ := low_yes hd hdz
    have HR : Hid (lowA x y = ((x / d : Nat) : Int) ∧ lowB x y = ((y / d : Nat) : Int)) := Lib.hid ⟨hlA, hlB⟩
    have hqz : ((d : Int) == 0) = false := by rw [beq_eq_false_iff_ne]; omega
    have hqx := Lib.hid (wrapk x d hx)
    have hqy := Lib.hid (wrapk y d hy)
    clear hlA hlB hd
    generalize x / d = qx at *
    generalize y / d = qy at *
    go_enter Try.func75, Try.ntmps75
    go_wp2_with fail
    refine c1.mono ?_
    rintro e w1 ⟨rfl, hb1⟩
    clear c1
    have hS0 : Below w1.heap.size w1 w1.drew := (Below.refl _ _).drew
    go_wp2_with fail
    refine wp_region_held_drew (S := fun w' => Below w1.heap.size w1 w') (by kernel_rfl) hS0 (fun hHeld => ?_)
    refine held_take 0 _ _ rfl (by kernel_rfl) (by kernel_rfl) (by kernel_rfl) (fun _ _ _ h => h) (by rfl) hHeld (fun w hSw => by (try dsimp only at hSw); go_simp; try with_reducible rfl) ?_
    (try simp only [Act.put, List.setIfInBounds_toArray, List.set_cons_zero, List.set_cons_succ, List.getElem_toArray, List.getElem_cons_zero])
    refine held_take 1 _ _ rfl (by kernel_rfl) (by kernel_rfl) (by kernel_rfl) (fun _ _ _ h => h) (by rfl) hHeld (fun w hSw => by (try dsimp only at hSw); go_simp; try with_reducible rfl) ?_
    (try simp only [Act.put, List.setIfInBounds_toArray, List.set_cons_zero, List.set_cons_succ, List.getElem_toArray, List.getElem_cons_succ, List.getElem_cons_zero])
    refine held_take 2 _ _ rfl (by kernel_rfl) (by kernel_rfl) (by kernel_rfl) (fun _ _ _ h => h) (by rfl) hHeld (fun w hSw => by (try dsimp only at hSw); go_simp; try with_reducible rfl) ?_
    (try simp only [Act.put, List.setIfInBounds_toArray, List.set_cons_zero, List.set_cons_succ, List.getElem_toArray, List.getElem_cons_succ, List.getElem_cons_zero])
    refine held_take 3 _ _ rfl (by kernel_rfl) (by kernel_rfl) (by kernel_rfl) (fun _ _ _ h => h) (by rfl) hHeld (fun w hSw => by (try dsimp only at hSw); go_simp; try with_reducible rfl) ?_
    (try simp only [Act.put, List.setIfInBounds_toArray, List.set_cons_zero, List.set_cons_succ, List.getElem_toArray, List.getElem_cons_succ, List.getElem_cons_zero])
    refine held_take 4 _ _ rfl (by kernel_rfl) (by kernel_rfl) (by kernel_rfl) (fun _ _ _ h => h) (by rfl) hHeld (fun w hSw => by (try dsimp only at hSw); go_simp; try with_reducible rfl) ?_
    (try simp only [Act.put, List.setIfInBounds_toArray, List.set_cons_zero, List.set_cons_succ, List.getElem_toArray, List.getElem_cons_succ, List.getElem_cons_zero])
    refine held_take 5 _ _ rfl (by kernel_rfl) (by kernel_rfl) (by kernel_rfl) (fun _ _ _ h => h) (by rfl) hHeld (fun w hSw => by (try dsimp only at hSw); go_simp; try with_reducible rfl) ?_
    (try simp only [Act.put, List.setIfInBounds_toArray, List.set_cons_zero, List.set_cons_succ, List.getElem_toArray, List.getElem_cons_succ, List.getElem_cons_zero])
    refine held_take 6 _ _ rfl (by kernel_rfl) (by kernel_rfl) (by kernel_rfl) (fun _ _ _ h => h) (by rfl) hHeld (fun w hSw => by (try dsimp only at hSw); go_simp; try with_reducible rfl) ?_
    (try simp only [Act.put, List.setIfInBounds_toArray, List.set_cons_zero, List.set_cons_succ, List.getElem_toArray, List.getElem_cons_succ, List.getElem_cons_zero])
    refine held_take 7 _ _ rfl (by kernel_rfl) (by kernel_rfl) (by kernel_rfl) (fun _ _ _ h => h) (by rfl) hHeld (fun w hSw => by (try dsimp only at hSw); go_simp; try with_reducible rfl) ?_
    (try simp only [Act.put, List.setIfInBounds_toArray, List.set_cons_zero, List.set_cons_succ, List.getElem_toArray, List.getElem_cons_succ, List.getElem_cons_zero])
    refine wpAnyH_done (by kernel_rfl) ?_ _
    have hb3 := hb1.trans ((hHeld).mono hb1.size)
    clear hS0 hHeld
    go_wp2_with fail
    go_ret2
    exact ⟨by rw [HR.out.1, HR.out.2, ← hqx.out, ← hqy.out]; rfl, hb3⟩

set_option maxRecDepth 100000 in
set_option maxHeartbeats 1600000 in
theorem impl_GreatestElasticity (G : List Int) (a : Option Addr) (cap : Nat) (w : World) (hr : SlV w a (G.map (Value.int .i64))) (hb : G.length ≤ 1048576) :
    Calls Try.prog 14 #[.agg #[.slice a G.length cap]] w fun e w' => e = .returned (.tuple #[.int .i64 (greatA G), .int .i64 (greatB G)]) ∧ Below w.heap.size w w' := by
  obtain ⟨W, hW⟩ : ∃ W, W = w.alloc (.cells #[.slice a G.length cap] 26) := ⟨_, rfl⟩
  have hbW : Below w.heap.size w W := by rw [hW]; exact box_below _ _
  have hc0 : W.cell? ⟨w.heap.size, 0, none⟩ = some (.slice a G.length cap) := by rw [hW]; exact box_cell w _
  have hWs : w.heap.size < W.heap.size := by rw [hW]; simp
  have HW := Lib.hid hW
  clear hW
  have c1 := impl_IsSemigroup G a cap W (hr.below hbW) hb
  cases hs : isSgB G
  · have HR := Lib.hid (great_no hs)
    rw [hs] at c1
    clear hs hr
    go_enter Try.func14, Try.ntmps14
    go_wp2_with fail
    rw [← HW.out]
    refine c1.mono ?_
    rintro e w1 ⟨rfl, hb1⟩
    have hb01 := hbW.trans (hb1.mono hbW.size)
    go_wp2_with fail
    go_ret2
    exact ⟨by rw [HR.out.1, HR.out.2]; rfl, hb01⟩
  · rw [hs] at c1
    obtain ⟨p, x, y, hp1, hp2, hgp, hg0, hx0, hx1, hy0, hy1, hRA, hRB⟩ := great_ends hs
    clear hs
    obtain ⟨d, hd, hd1⟩ := gcd_nat x y
    have hdz : d ≠ 0 := fun e => gcd_pos hx0 (by omega) (by omega : y ≤ 1000000) (by rw [hd, e])
    obtain ⟨hlA, hlB⟩ := low_yes hd hdz
    have hn : ∃ n, n = G.length := ⟨_, rfl⟩
    obtain ⟨n, hn⟩ := hn
    rw [← hn] at c1 hc0 hb HW hp1 hp2
    rw [← hn]
    obtain ⟨b, off, rfl, hbs, hcl⟩ := hr.open (by intro h; rw [List.map_eq_nil_iff] at h; subst h; simp at hn; omega)
    have HP : Hid (∀ w', Below w.heap.size w w' → w'.cell? ⟨b, off + p, none⟩ = some (.int .i64 (x : Int)) ∧ w'.cell? ⟨b, off, none⟩ = some (.int .i64 (y : Int))) := Lib.hid fun w' h => ⟨(h.cell (p := ⟨b, off + p, none⟩) hbs).trans (hcl p _ (by rw [List.getElem?_map, hgp]; rfl)), (h.cell (p := ⟨b, off, none⟩) hbs).trans (by have := hcl 0 _ (by rw [List.getElem?_map, hg0]; rfl); rwa [Nat.add_zero] at this)⟩
    have hwp : IntKind.i64.wrap ((n : Int) - 1) = (p : Int) := by rw [IntWalk.i64_in _ (by omega)]; omega
    have hpn : (p : Int) < (n : Int) := by omega
    have hp0 : (0 : Int) ≤ (p : Int) := by omega
    have h0n : (0 : Int) < (n : Int) := by omega
    have h0n2 : 0 < n := by omega
    have hqz : ((d : Int) == 0) = false := by rw [beq_eq_false_iff_ne]; omega
    have hqx := Lib.hid (wrapk x d (by omega))
    have hqy := Lib.hid (wrapk y d (by omega))
    have HR : Hid (greatA G = lowA x y ∧ greatB G = lowB x y) := Lib.hid ⟨hRA, hRB⟩
    have cG := fun w => impl_lowestTerms x y w (by omega) (by omega)
    clear hn hgp hg0 hRA hRB hlA hlB hd hr hcl hdz hqx hqy hqz
    generalize lowA x y = qx at *
    generalize lowB x y = qy at *
    go_enter Try.func14, Try.ntmps14
    go_wp2_with fail
    rw [← HW.out]
    refine c1.mono ?_
    rintro e w1 ⟨rfl, hb1⟩
    have hb01 := hbW.trans (hb1.mono hbW.size)
    have hk1 : w1.cell? ⟨w.heap.size, 0, none⟩ = some (.slice (some ⟨b, off, none⟩) n cap) := by rw [hb1.cell (p := ⟨w.heap.size, 0, none⟩) hWs]; exact hc0
    have hz1 : w.heap.size < w1.heap.size := Nat.lt_of_lt_of_le hWs hb1.size
    clear c1 hb1 hc0 hWs hbW
    obtain ⟨hcx, hcy⟩ := HP.out w1 hb01
    have hl1 : b < w1.heap.size := Nat.lt_of_lt_of_le hbs hb01.size
    clear HP
    have hS0 : w1.drew.cell? ⟨w.heap.size, 0, none⟩ = some (.slice (some ⟨b, off, none⟩) n cap) ∧ w1.drew.cell? ⟨b, off + p, none⟩ = some (.int .i64 (x : Int)) ∧ w1.drew.cell? ⟨b, off, none⟩ = some (.int .i64 (y : Int)) ∧ Below w1.heap.size w1 w1.drew := ⟨hk1, hcx, hcy, (Below.refl _ _).drew⟩
    go_wp2_with fail
    refine wp_region_held_drew (S := fun w' => w'.cell? ⟨w.heap.size, 0, none⟩ = some (.slice (some ⟨b, off, none⟩) n cap) ∧ w'.cell? ⟨b, off + p, none⟩ = some (.int .i64 (x : Int)) ∧ w'.cell? ⟨b, off, none⟩ = some (.int .i64 (y : Int)) ∧ Below w1.heap.size w1 w') (by kernel_rfl) hS0 (fun hHeld => ?_)
    refine held_take 0 _ _ rfl (by kernel_rfl) (by kernel_rfl) (by kernel_rfl) (fun _ _ _ h => h) (by rfl) hHeld (fun w hSw => by (try dsimp only at hSw); go_simp; try with_reducible rfl) ?_
    (try simp only [Act.put, List.setIfInBounds_toArray, List.set_cons_zero, List.set_cons_succ, List.getElem_toArray, List.getElem_cons_zero])
    refine held_take 1 _ _ rfl (by kernel_rfl) (by kernel_rfl) (by kernel_rfl) (fun _ _ _ h => h) (by rfl) hHeld (fun w hSw => by (try dsimp only at hSw); go_simp; try with_reducible rfl) ?_
    (try simp only [Act.put, List.setIfInBounds_toArray, List.set_cons_zero, List.set_cons_succ, List.getElem_toArray, List.getElem_cons_succ, List.getElem_cons_zero])
    refine held_take 2 _ _ rfl (by kernel_rfl) (by kernel_rfl) (by kernel_rfl) (fun _ _ _ h => h) (by rfl) hHeld (fun w hSw => by (try dsimp only at hSw); go_simp; try with_reducible rfl) ?_
    (try simp only [Act.put, List.setIfInBounds_toArray, List.set_cons_zero, List.set_cons_succ, List.getElem_toArray, List.getElem_cons_succ, List.getElem_cons_zero])
    refine held_take 3 _ _ rfl (by kernel_rfl) (by kernel_rfl) (by kernel_rfl) (fun _ _ _ h => h) (by rfl) hHeld (fun w hSw => by (try dsimp only at hSw); go_simp; try with_reducible rfl) ?_
    (try simp only [Act.put, List.setIfInBounds_toArray, List.set_cons_zero, List.set_cons_succ, List.getElem_toArray, List.getElem_cons_succ, List.getElem_cons_zero])
    refine held_take 4 _ _ rfl (by kernel_rfl) (by kernel_rfl) (by kernel_rfl) (fun _ _ _ h => h) (by rfl) hHeld (fun w hSw => by (try dsimp only at hSw); go_simp; try with_reducible rfl) ?_
    (try simp only [Act.put, List.setIfInBounds_toArray, List.set_cons_zero, List.set_cons_succ, List.getElem_toArray, List.getElem_cons_succ, List.getElem_cons_zero])
    refine held_take 5 _ _ rfl (by kernel_rfl) (by kernel_rfl) (by kernel_rfl) (fun _ _ _ h => h) (by rfl) hHeld (fun w hSw => by (try dsimp only at hSw); go_simp; try with_reducible rfl) ?_
    (try simp only [Act.put, List.setIfInBounds_toArray, List.set_cons_zero, List.set_cons_succ, List.getElem_toArray, List.getElem_cons_succ, List.getElem_cons_zero])
    refine held_take 6 _ _ rfl (by kernel_rfl) (by kernel_rfl) (by kernel_rfl) (fun _ _ _ h => h) (by rfl) hHeld (fun w hSw => by (try dsimp only at hSw); go_simp; try with_reducible rfl) ?_
    (try simp only [Act.put, List.setIfInBounds_toArray, List.set_cons_zero, List.set_cons_succ, List.getElem_toArray, List.getElem_cons_succ, List.getElem_cons_zero])
    refine held_take 7 _ _ rfl (by kernel_rfl) (by kernel_rfl) (by kernel_rfl) (fun _ _ _ h => h) (by rfl) hHeld (fun w hSw => by (try dsimp only at hSw); go_simp; try with_reducible rfl) ?_
    (try simp only [Act.put, List.setIfInBounds_toArray, List.set_cons_zero, List.set_cons_succ, List.getElem_toArray, List.getElem_cons_succ, List.getElem_cons_zero])
    refine held_take 8 _ _ rfl (by kernel_rfl) (by kernel_rfl) (by kernel_rfl) (fun _ _ _ h => h) (by rfl) hHeld (fun w hSw => by (try dsimp only at hSw); go_simp; try with_reducible rfl) ?_
    (try simp only [Act.put, List.setIfInBounds_toArray, List.set_cons_zero, List.set_cons_succ, List.getElem_toArray, List.getElem_cons_succ, List.getElem_cons_zero])
    refine held_take 9 _ _ rfl (by kernel_rfl) (by kernel_rfl) (by kernel_rfl) (fun _ _ _ h => h) (by rfl) hHeld (fun w hSw => by (try dsimp only at hSw); go_simp; try with_reducible rfl) ?_
    (try simp only [Act.put, List.setIfInBounds_toArray, List.set_cons_zero, List.set_cons_succ, List.getElem_toArray, List.getElem_cons_succ, List.getElem_cons_zero])
    refine held_take 10 _ _ rfl (by kernel_rfl) (by kernel_rfl) (by kernel_rfl) (fun _ _ _ h => h) (by rfl) hHeld (fun w hSw => by (try dsimp only at hSw); go_simp; try with_reducible rfl) ?_
    (try simp only [Act.put, List.setIfInBounds_toArray, List.set_cons_zero, List.set_cons_succ, List.getElem_toArray, List.getElem_cons_succ, List.getElem_cons_zero])
    refine held_take 11 _ _ rfl (by kernel_rfl) (by kernel_rfl) (by kernel_rfl) (fun _ _ _ h => h) (by rfl) hHeld (fun w hSw => by (try dsimp only at hSw); go_simp; try with_reducible rfl) ?_
    (try simp only [Act.put, List.setIfInBounds_toArray, List.set_cons_zero, List.set_cons_succ, List.getElem_toArray, List.getElem_cons_succ, List.getElem_cons_zero])
    refine wpAnyH_ready (rs := [12]) (by kernel_rfl) (by simp) ?_
    refine AllReadyH.cons rfl (fun K hK => ?_) AllReadyH.nil
    rw [if_pos (by rfl)]
    go_wp2_with (first | (go_at_call 75; (with_reducible refine (cG _).mono ?_); rintro e wk ⟨rfl, hbk⟩))
    refine hK.out _ _ (keepG hz1 hl1 hHeld hbk) (fun hHeld1 => ?_)
    clear hK K
    (try simp only [Act.put, List.setIfInBounds_toArray, List.set_cons_zero, List.set_cons_succ, List.getElem_toArray, List.getElem_cons_succ, List.getElem_cons_zero])
    refine held_take 13 _ _ rfl (by kernel_rfl) (by kernel_rfl) (by kernel_rfl) (fun _ _ _ h => h) (by rfl) hHeld1 (fun w hSw => by (try dsimp only at hSw); go_simp; try with_reducible rfl) ?_
    (try simp only [Act.put, List.setIfInBounds_toArray, List.set_cons_zero, List.set_cons_succ, List.getElem_toArray, List.getElem_cons_succ, List.getElem_cons_zero])
    refine held_take 14 _ _ rfl (by kernel_rfl) (by kernel_rfl) (by kernel_rfl) (fun _ _ _ h => h) (by rfl) hHeld1 (fun w hSw => by (try dsimp only at hSw); go_simp; try with_reducible rfl) ?_
    (try simp only [Act.put, List.setIfInBounds_toArray, List.set_cons_zero, List.set_cons_succ, List.getElem_toArray, List.getElem_cons_succ, List.getElem_cons_zero])
    refine held_take 15 _ _ rfl (by kernel_rfl) (by kernel_rfl) (by kernel_rfl) (fun _ _ _ h => h) (by rfl) hHeld1 (fun w hSw => by (try dsimp only at hSw); go_simp; try with_reducible rfl) ?_
    (try simp only [Act.put, List.setIfInBounds_toArray, List.set_cons_zero, List.set_cons_succ, List.getElem_toArray, List.getElem_cons_succ, List.getElem_cons_zero])
    refine held_take 16 _ _ rfl (by kernel_rfl) (by kernel_rfl) (by kernel_rfl) (fun _ _ _ h => h) (by rfl) hHeld1 (fun w hSw => by (try dsimp only at hSw); go_simp; try with_reducible rfl) ?_
    (try simp only [Act.put, List.setIfInBounds_toArray, List.set_cons_zero, List.set_cons_succ, List.getElem_toArray, List.getElem_cons_succ, List.getElem_cons_zero])
    refine wpAnyH_done (by kernel_rfl) ?_ _
    have hb3 := hb01.trans ((hHeld1.2.2.2).mono hb01.size)
    clear hS0 hHeld1 cG
    go_wp2_with fail
    go_ret2
    exact ⟨by rw [HR.out.1, HR.out.2]; rfl, hb3⟩
end Go.Proofs.Ytlinlmmcgifloaa

/-
  CONTRACTS of the program's chapter 12: sumOf, LengthsOf. (Own work.)
-/
namespace Go.Proofs.Ytlinlmmcgifloaa
open Go Go.RowKit

set_option maxRecDepth 100000 in
set_option maxHeartbeats 800000 in
theorem impl_sumOf (L : List Int) (a : Option Addr) (cap : Nat) (w : World) (hr : SlV w a (L.map (Value.int .i64))) (hb : L.length ≤ 12) (hL : ∀ x ∈ L, 0 ≤ x ∧ x ≤ 100) :
    Calls Try.prog 73 #[.slice a L.length cap] w fun e w' => e = .returned (.int .i64 L.sum) ∧ w' = w := by
  have HL := Lib.hid hL
  clear hL
  go_enter Try.func73, Try.ntmps73
  go_wp2_with fail
  go_loop [3, 8] (fun s i => ∃ k : Nat, k ≤ L.length ∧ i = .int .i64 (k : Int) ∧ s = .int .i64 (L.take k).sum) (fun _ i => L.length - (intOf i).toNat)
  case atStart => exact ⟨0, Nat.zero_le _, rfl, rfl⟩
  case round =>
    obtain ⟨k, hk, rfl, rfl⟩ := hrel
    by_cases hlt : k < L.length
    · obtain ⟨b, off, rfl, hbs, hc⟩ := hr.open (by intro h; rw [List.map_eq_nil_iff] at h; subst h; simp at hlt)
      have hcell : w.cell? ⟨b, off + k, none⟩ = some (.int .i64 L[k]) := hc k _ (by simp [hlt])
      have HT := Lib.hid (sum_take1 hlt)
      have hs := sum_bnd (L := L.take k) fun x hx => HL.out x (List.mem_of_mem_take hx)
      have hl1 : (L.take k).length ≤ 12 := by rw [List.length_take]; omega
      have hx := HL.out L[k] (List.getElem_mem hlt)
      clear hc hr
      generalize L[k] = x at *
      generalize (L.take k).sum = s at *
      have hw1 : IntKind.i64.wrap (s + x) = s + x := IntWalk.i64_in _ (by omega)
      go_wp2_with fail
      go_round
      case rel => exact ⟨k + 1, by omega, by go_num, by rw [HT.out]⟩
      case measure => simp [intOf]; omega
    · obtain rfl : k = L.length := by omega
      have HT := Lib.hid (List.take_of_length_le (Nat.le_refl L.length))
      clear hr
      go_wp2_with fail
      go_ret
      exact ⟨by rw [← HT.out]; simp, rfl⟩
set_option maxRecDepth 100000 in
set_option maxHeartbeats 1600000 in
theorem impl_LengthsOf (G : List Int) (n : Int) (a : Option Addr) (cap : Nat) (w : World) (hr : SlV w a (G.map (Value.int .i64))) (hb : G.length ≤ 1048576) :
    Calls Try.prog 10 #[.agg #[.slice a G.length cap], .int .i64 n] w (SlPost (lenL G n) w) := by
  obtain ⟨i0, hi, hz0, hz1, hz2⟩ := info_parts infoIntL
  obtain ⟨W, hW⟩ : ∃ W, W = w.alloc (.cells #[.slice a G.length cap] 26) := ⟨_, rfl⟩
  have hbW : Below w.heap.size w W := by rw [hW]; exact box_below _ _
  have hc0 : W.cell? ⟨w.heap.size, 0, none⟩ = some (.slice a G.length cap) := by rw [hW]; exact box_cell w _
  have c1 := impl_Factorizations G n a cap W (hr.below hbW) hb
  have HW := Lib.hid hW
  have HLE := Lib.hid (factL_len G n)
  have HWD := Lib.hid (factL_width G n)
  have HEN := Lib.hid (fun (L : List Int) (h : L ∈ factL G n) => fact_ent h)
  have HF : Hid (lenL G n = sortL ((factL G n).map List.sum)) := Lib.hid rfl
  clear hW
  go_enter Try.func10, Try.ntmps10
  go_wp2_with fail
  rw [← HW.out]
  refine c1.mono ?_
  intro e w1 hp
  obtain ⟨a1, k1, vs, rfl, -, hR, hb1⟩ := hp.opened
  have hb01 := hbW.trans (hb1.mono hbW.size)
  have hB0 : Beside w W.heap.size w1.heap.size (factL G n) a1 k1 vs w1 (.slice none 0 0) [] :=
    ⟨World.ownsRow_nil _ _ _ _, fun b hb => by simp [Value.ownBlock] at hb, hR, hb01⟩
  have HB0 := Lib.hid hB0
  clear hB0 hR hb1 hb01 hp c1 hc0 hr HW hbW
  generalize factL G n = F at *
  have hle := HLE.out
  go_wp2_with fail
  go_loopw [5, 12] (fun v i wr => ∃ k : Nat, k ≤ F.length ∧ i = .int .i64 (k : Int) ∧ Beside w W.heap.size w1.heap.size F a1 k1 vs wr v ((F.take k).map List.sum)) (fun _ i _ => F.length - (intOf i).toNat)
  case atStart => exact ⟨0, Nat.zero_le _, rfl, HB0.out⟩
  case round =>
    clear HB0
    obtain ⟨k, hk, rfl, hB⟩ := hrel
    have hsz := hB.bel.size
    by_cases hlt : k < F.length
    · obtain ⟨b, o, u, d, rfl, hcell, hsl⟩ := hB.at hlt
      have cs := impl_sumOf F[k] u d wr hsl (HWD.out _ (List.getElem_mem hlt)) (HEN.out _ (List.getElem_mem hlt))
      have HT : Hid ((F.take (k + 1)).map List.sum = (F.take k).map List.sum ++ [F[k].sum]) := Lib.hid (by rw [List.take_add_one, List.getElem?_eq_getElem hlt, List.map_append]; rfl)
      have hMl : ((F.take k).map List.sum).length ≤ k := by rw [List.length_map, List.length_take]; omega
      generalize F[k].sum = x at *
      generalize F[k].length = m at *
      generalize (F.take k).map List.sum = M at *
      have HB := Lib.hid hB
      have hlt0 := fun j hj => (hB.own.lt j hj).1
      have hown := hB.own
      clear hB hsl
      go_wp2_with fail
      refine cs.mono ?_
      rintro e w' ⟨rfl, rfl⟩
      clear cs
      go_wp2_with (at_builtin; refine wpList_append_own_at _ rfl _ _ 24 rfl w.heap.size 3 i0 (Value.int .i64 0) 1 8 Try.underlying24 hi hz0 hz1 hz2 rfl (by decide) _ _ _ rfl (hown.alloc _) ⟨_, 0, none⟩ 1 1 [.int .i64 x] rfl rfl (World.news_of_block (cs := #[.int .i64 x]) (t := 3) (fr := (0, 0)) (heap_alloc_new _ _)) (by simp [Value.oneCell']) (by unfold maxLen; omega) (by omega) (by simp; omega) ?_; intro v2 w2 hown2 hgrow2 _ hat2)
      have HB2 := Lib.hid (HB.out.grow _ x hown2 hgrow2 hat2)
      clear hown hown2 hgrow2 hat2 HB hlt0 hcell
      go_wp2_with fail
      go_roundw
      case rel => exact ⟨k + 1, by omega, by go_num, by rw [HT.out]; exact HB2.out⟩
      case measure => simp [intOf]; omega
    · obtain rfl : k = F.length := by omega
      rw [List.take_of_length_le (Nat.le_refl _)] at hB
      have hs := impl_sortOnce w.heap.size _ _ wr hB.own (by rw [List.length_map]; omega) hsz
      rw [← HF.out] at hs
      have hbel := hB.bel
      clear hB
      go_wp2_with fail
      refine hs.mono ?_
      rintro e w2 ⟨u, rfl, ho, hb2⟩
      have HO := Lib.hid ho
      have hb3 := hbel.trans hb2
      clear hs ho
      go_wp2_with fail
      go_ret
      exact ⟨_, rfl, HO.out, hb3⟩
end Go.Proofs.Ytlinlmmcgifloaa

/-
  CONTRACTS of chapter 12: DeltaOf (impl). (Own work: mkDel.py.)
-/
namespace Go.Proofs.Ytlinlmmcgifloaa
open Go Go.RowKit

set_option maxRecDepth 100000 in
set_option maxHeartbeats 1600000 in
theorem impl_DeltaOf (G : List Int) (n : Int) (a : Option Addr) (cap : Nat) (w : World) (hr : SlV w a (G.map (Value.int .i64))) (hb : G.length ≤ 1048576) :
    Calls Try.prog 11 #[.agg #[.slice a G.length cap], .int .i64 n] w (SlPost (deltaL G n) w) := by
  obtain ⟨i0, hi, hz0, hz1, hz2⟩ := info_parts infoIntL
  obtain ⟨W, hW⟩ : ∃ W, W = w.alloc (.cells #[.slice a G.length cap] 26) := ⟨_, rfl⟩
  have hbW : Below w.heap.size w W := by rw [hW]; exact box_below _ _
  have hc0 : W.cell? ⟨w.heap.size, 0, none⟩ = some (.slice a G.length cap) := by rw [hW]; exact box_cell w _
  have c1 := impl_LengthsOf G n a cap W (hr.below hbW) hb
  have HW := Lib.hid hW
  have HLB := Lib.hid (fun (x : Int) (h : x ∈ lenL G n) => lenL_bnd h)
  have hle := lenL_len G n
  have HF : Hid (deltaL G n = sortL (diffsL (lenL G n))) := Lib.hid rfl
  clear hW
  go_enter Try.func11, Try.ntmps11
  go_wp2_with fail
  rw [← HW.out]
  refine c1.mono ?_
  rintro e w1 ⟨v, rfl, ho, hb1⟩
  obtain ⟨a1, k1, rfl, rX⟩ := row_open ho
  have hb01 := hbW.trans (hb1.mono hbW.size)
  have hB0 : Beside1 w W.heap.size w1.heap.size (lenL G n) a1 k1 w1 (.slice none 0 0) [] := ⟨World.ownsRow_nil _ _ _ _, fun b hb => by simp [Value.ownBlock] at hb, rX, hb01⟩
  have HB0 := Lib.hid hB0
  clear hB0 rX ho hb1 hb01 c1 hc0 hr HW hbW
  generalize lenL G n = L at *
  go_wp2_with fail
  go_loopw [6, 7] (fun v i wr => ∃ k : Nat, (k ≤ L.length ∨ k = 1) ∧ 1 ≤ k ∧ i = .int .i64 (k : Int) ∧ Beside1 w W.heap.size w1.heap.size L a1 k1 wr v (diffsK L (k - 1))) (fun _ i _ => L.length - (intOf i).toNat)
  case atStart => exact ⟨1, .inr rfl, Nat.le_refl _, rfl, HB0.out⟩
  case round =>
    clear HB0
    obtain ⟨k, hk, hk1, rfl, hB⟩ := hrel
    have hsz := hB.bel.size
    by_cases hlt : k < L.length
    · obtain ⟨b, o, rfl, hbs, hne, hc⟩ := hB.at (by intro h; rw [h] at hlt; simp at hlt)
      have hx0 : (0 : Int) ≤ (k : Int) := by omega
      have hx1 : (k : Int) < (L.length : Int) := by omega
      have hx2 : (0 : Int) ≤ (k : Int) - 1 := by omega
      have hx4 : (1 : Int) ≤ (k : Int) := by omega
      have hx3 : (k : Int) - 1 < (L.length : Int) := by omega
      have hw1 : IntKind.i64.wrap ((k : Int) - 1) = (k : Int) - 1 := IntWalk.i64_in _ (by omega)
      have ht1 : ((k : Int) - 1).toNat = k - 1 := by omega
      have hk' : k - 1 < L.length := by omega
      have hS0 : wr.drew.cell? ⟨b, o + k, none⟩ = some (.int .i64 L[k]) ∧ wr.drew.cell? ⟨b, o + (k - 1), none⟩ = some (.int .i64 L[k - 1]) := ⟨hc k hlt, hc (k - 1) hk'⟩
      have hX := HLB.out L[k] (List.getElem_mem hlt)
      have hY := HLB.out L[k - 1] (List.getElem_mem hk')
      have HT : Hid (diffsK L (k + 1 - 1) = diffsK L (k - 1) ++ [L[k] - L[k - 1]]) := Lib.hid (by
        obtain ⟨j, rfl⟩ : ∃ j, k = j + 1 := ⟨k - 1, by omega⟩
        exact diffsK_succ (M := L) (k := j) hlt)
      have hMl : (diffsK L (k - 1)).length ≤ 1200 := by rw [diffsK_len]; omega
      generalize L[k] = x at *
      generalize L[k - 1] = y at *
      generalize diffsK L (k - 1) = M at *
      have hw2 : IntKind.i64.wrap (x - y) = x - y := IntWalk.i64_in _ (by omega)
      have HB := Lib.hid hB.drew
      have hown : wr.drew.ownsRow w.heap.size 3 1 _ M.length (M.map (Value.int .i64)) := hB.own
      have hbsd : b < wr.drew.heap.size := hbs
      clear hB hc
      go_wp2_with fail
      refine wp_region_held_drew (S := fun w' => w'.cell? ⟨b, o + k, none⟩ = some (.int .i64 x) ∧ w'.cell? ⟨b, o + (k - 1), none⟩ = some (.int .i64 y)) (by kernel_rfl) hS0 (fun hHeld => ?_)
      refine held_take 0 _ _ rfl (by kernel_rfl) (by kernel_rfl) (by kernel_rfl) (fun _ _ _ h => h) (by rfl) hHeld (fun w hSw => by (try dsimp only at hSw); go_simp; try with_reducible rfl) ?_
      (try simp only [Act.put, List.setIfInBounds_toArray, List.set_cons_zero, List.set_cons_succ, List.getElem_toArray, List.getElem_cons_zero])
      refine held_take 1 _ _ rfl (by kernel_rfl) (by kernel_rfl) (by kernel_rfl) (fun _ _ _ h => h) (by rfl) hHeld (fun w hSw => by (try dsimp only at hSw); go_simp; try with_reducible rfl) ?_
      (try simp only [Act.put, List.setIfInBounds_toArray, List.set_cons_zero, List.set_cons_succ, List.getElem_toArray, List.getElem_cons_succ, List.getElem_cons_zero])
      refine held_take 2 _ _ rfl (by kernel_rfl) (by kernel_rfl) (by kernel_rfl) (fun _ _ _ h => h) (by rfl) hHeld (fun w hSw => by (try dsimp only at hSw); go_simp; try with_reducible rfl) ?_
      (try simp only [Act.put, List.setIfInBounds_toArray, List.set_cons_zero, List.set_cons_succ, List.getElem_toArray, List.getElem_cons_succ, List.getElem_cons_zero])
      refine held_take 3 _ _ rfl (by kernel_rfl) (by kernel_rfl) (by kernel_rfl) (fun _ _ _ h => h) (by rfl) hHeld (fun w hSw => by (try dsimp only at hSw); go_simp; try with_reducible rfl) ?_
      (try simp only [Act.put, List.setIfInBounds_toArray, List.set_cons_zero, List.set_cons_succ, List.getElem_toArray, List.getElem_cons_succ, List.getElem_cons_zero])
      refine held_take 4 _ _ rfl (by kernel_rfl) (by kernel_rfl) (by kernel_rfl) (fun _ _ _ h => h) (by rfl) hHeld (fun w hSw => by (try dsimp only at hSw); go_simp; try with_reducible rfl) ?_
      (try simp only [Act.put, List.setIfInBounds_toArray, List.set_cons_zero, List.set_cons_succ, List.getElem_toArray, List.getElem_cons_succ, List.getElem_cons_zero])
      refine held_take 5 _ _ rfl (by kernel_rfl) (by kernel_rfl) (by kernel_rfl) (fun _ _ _ h => h) (by rfl) hHeld (fun w hSw => by (try dsimp only at hSw); go_simp; try with_reducible rfl) ?_
      (try simp only [Act.put, List.setIfInBounds_toArray, List.set_cons_zero, List.set_cons_succ, List.getElem_toArray, List.getElem_cons_succ, List.getElem_cons_zero])
      refine held_take 6 _ _ rfl (by kernel_rfl) (by kernel_rfl) (by kernel_rfl) (fun _ _ _ h => h) (by rfl) hHeld (fun w hSw => by (try dsimp only at hSw); go_simp; try with_reducible rfl) ?_
      (try simp only [Act.put, List.setIfInBounds_toArray, List.set_cons_zero, List.set_cons_succ, List.getElem_toArray, List.getElem_cons_succ, List.getElem_cons_zero])
      refine held_take 7 _ _ rfl (by kernel_rfl) (by kernel_rfl) (by kernel_rfl) (fun _ _ _ h => h) (by rfl) hHeld (fun w hSw => by (try dsimp only at hSw); go_simp; try with_reducible rfl) ?_
      (try simp only [Act.put, List.setIfInBounds_toArray, List.set_cons_zero, List.set_cons_succ, List.getElem_toArray, List.getElem_cons_succ, List.getElem_cons_zero])
      refine held_take 8 _ _ rfl (by kernel_rfl) (by kernel_rfl) (by kernel_rfl) (fun _ _ _ h => h) (by rfl) hHeld (fun w hSw => by (try dsimp only at hSw); go_simp; try with_reducible rfl) ?_
      (try simp only [Act.put, List.setIfInBounds_toArray, List.set_cons_zero, List.set_cons_succ, List.getElem_toArray, List.getElem_cons_succ, List.getElem_cons_zero])
      refine held_take 9 _ _ rfl (by kernel_rfl) (by kernel_rfl) (by kernel_rfl) (fun _ _ _ h => h) (by rfl) hHeld (fun w hSw => by (try dsimp only at hSw); go_simp; try with_reducible rfl) ?_
      (try simp only [Act.put, List.setIfInBounds_toArray, List.set_cons_zero, List.set_cons_succ, List.getElem_toArray, List.getElem_cons_succ, List.getElem_cons_zero])
      refine held_take 10 _ _ rfl (by kernel_rfl) (by kernel_rfl) (by kernel_rfl) (fun _ _ _ h => h) (by rfl) hHeld (fun w hSw => by (try dsimp only at hSw); go_simp; try with_reducible rfl) ?_
      (try simp only [Act.put, List.setIfInBounds_toArray, List.set_cons_zero, List.set_cons_succ, List.getElem_toArray, List.getElem_cons_succ, List.getElem_cons_zero])
      refine wpAnyH_ready (rs := [11]) (by kernel_rfl) (by simp) ?_
      refine AllReadyH.cons rfl (fun K hK => ?_) AllReadyH.nil
      rw [if_pos (by rfl)]
      have hownA := hown.alloc (.cells #[.int .i64 (x - y)] 3)
      have hszA : w.heap.size ≤ (wr.drew.alloc (.cells #[.int .i64 (x - y)] 3)).heap.size := Nat.le_trans hsz (by rw [World.size_alloc]; exact Nat.le_succ _)
      go_wp2_with fail
      refine hK.out _ _ (keepC hHeld hbsd _) (fun hHeld1 => ?_)
      clear hK K
      (try simp only [Act.put, List.setIfInBounds_toArray, List.set_cons_zero, List.set_cons_succ, List.getElem_toArray, List.getElem_cons_succ, List.getElem_cons_zero])
      refine wpAnyH_ready (rs := [12]) (by kernel_rfl) (by simp) ?_
      refine AllReadyH.cons rfl (fun K hK => ?_) AllReadyH.nil
      rw [if_pos (by rfl)]
      refine wp_append_own_at _ (.tmp 17) (.tmp 28) 24 (by rfl) w.heap.size 3 i0 (Value.int .i64 0) 1 8 Try.underlying24 hi hz0 hz1 hz2 rfl (by decide) _ M.length (M.map (Value.int .i64)) (by rfl) hownA _ 1 _ [.int .i64 (x - y)] (by rfl) rfl (World.news_of_block (cs := #[.int .i64 (x - y)]) (t := 3) (fr := (0, 0)) (heap_alloc_new _ _)) (by simp [Value.oneCell']) (by unfold maxLen; omega) (by omega) hszA ?_; intro v2 w2 hown2 hg2 _ hat2
      have HB2 := Lib.hid (HB.out.grow _ (x - y) hown2 hg2 hat2)
      refine hK.out _ _ (keepGr hHeld1 hg2 hne) (fun hHeld2 => ?_)
      clear hK K
      (try simp only [Act.put, List.setIfInBounds_toArray, List.set_cons_zero, List.set_cons_succ, List.getElem_toArray, List.getElem_cons_succ, List.getElem_cons_zero])
      refine held_take 13 _ _ rfl (by kernel_rfl) (by kernel_rfl) (by kernel_rfl) (fun _ _ _ h => h) (by rfl) hHeld2 (fun w hSw => by (try dsimp only at hSw); go_simp; try with_reducible rfl) ?_
      (try simp only [Act.put, List.setIfInBounds_toArray, List.set_cons_zero, List.set_cons_succ, List.getElem_toArray, List.getElem_cons_succ, List.getElem_cons_zero])
      refine wpAnyH_done (by kernel_rfl) ?_ _
      clear hown hownA hszA hown2 hg2 hat2 HB hS0 hx2 hx3 hw1 ht1 hw2
      go_wp2_with fail
      go_roundw
      case rel => exact ⟨k + 1, .inl (by omega), by omega, by go_num, by rw [HT.out]; exact HB2.out⟩
      case measure => simp [intOf]; omega
    · have hje : k - 1 = L.length - 1 := by omega
      rw [hje, diffs_all] at hB
      have hml : (diffsL L).length ≤ 1201 := by rw [← diffs_all, diffsK_len]; omega
      have hlti : ¬ (k : Int) < (L.length : Int) := by omega
      clear hje
      have hs := impl_sortOnce w.heap.size _ _ wr hB.own (by omega) hsz
      rw [← HF.out] at hs
      have hbel := hB.bel
      clear hB
      go_wp2_with fail
      refine hs.mono ?_
      rintro e w2 ⟨u, rfl, ho, hb2⟩
      have HO := Lib.hid ho
      have hb3 := hbel.trans hb2
      clear hs ho
      go_wp2_with fail
      go_ret
      exact ⟨_, rfl, HO.out, hb3⟩
end Go.Proofs.Ytlinlmmcgifloaa

/-
  CONTRACTS of chapter 12: ElasticityOf (impl). (Own work: mkEla.py.)
-/
namespace Go.Proofs.Ytlinlmmcgifloaa
open Go Go.RowKit

set_option maxRecDepth 100000 in
set_option maxHeartbeats 1600000 in
theorem impl_ElasticityOf (G : List Int) (n : Int) (a : Option Addr) (cap : Nat) (w : World) (hr : SlV w a (G.map (Value.int .i64))) (hb : G.length ≤ 1048576) :
    Calls Try.prog 12 #[.agg #[.slice a G.length cap], .int .i64 n] w fun e w' => e = .returned (.tuple #[.int .i64 (elaA G n), .int .i64 (elaB G n)]) ∧ Below w.heap.size w w' := by
  obtain ⟨W, hW⟩ : ∃ W, W = w.alloc (.cells #[.slice a G.length cap] 26) := ⟨_, rfl⟩
  have hbW : Below w.heap.size w W := by rw [hW]; exact box_below _ _
  have hc0 : W.cell? ⟨w.heap.size, 0, none⟩ = some (.slice a G.length cap) := by rw [hW]; exact box_cell w _
  have c1 := impl_LengthsOf G n a cap W (hr.below hbW) hb
  have HW := Lib.hid hW
  clear hW
  by_cases hz : (lenL G n).length = 0
  · have HR := Lib.hid (ela_none hz)
    have hlz : (((lenL G n).length : Int) == 0) = true := by rw [beq_iff_eq]; omega
    clear hz hr
    go_enter Try.func12, Try.ntmps12
    go_wp2_with fail
    rw [← HW.out]
    refine c1.mono ?_
    rintro e w1 ⟨v, rfl, ho, hb1⟩
    obtain ⟨a1, k1, rfl, rX⟩ := row_open ho
    have hb01 := hbW.trans (hb1.mono hbW.size)
    clear c1 rX ho hb1 hbW hc0
    generalize (lenL G n).length = m at *
    go_wp2_with fail
    go_ret2
    exact ⟨by rw [HR.out.1, HR.out.2]; rfl, hb01⟩
  · obtain ⟨p, x, y, hp1, hp2, hgp, hg0, hx1, hy1, hRA, hRB, hpos, hzer⟩ := ela_ends hz
    have HR : Hid (elaA G n = lowA x y ∧ elaB G n = lowB x y) := Lib.hid ⟨hRA, hRB⟩
    have cG := fun w => impl_lowestTerms x y w (by omega) (by omega)
    clear hRA hRB hpos hzer
    have HG := Lib.hid (And.intro hgp hg0)
    clear hgp hg0 hr
    have HWP : Hid (IntKind.i64.wrap (((lenL G n).length : Int) - 1) = (p : Int)) := Lib.hid (by rw [IntWalk.i64_in _ (by have := lenL_len G n; omega)]; omega)
    have hpn : (p : Int) < ((lenL G n).length : Int) := by omega
    have hp0 : (0 : Int) ≤ (p : Int) := by omega
    have h0n : (0 : Int) < ((lenL G n).length : Int) := by omega
    have h0n2 : 0 < (lenL G n).length := by omega
    generalize lowA x y = qx at *
    generalize lowB x y = qy at *
    go_enter Try.func12, Try.ntmps12
    go_wp2_with fail
    rw [← HW.out]
    refine c1.mono ?_
    rintro e w1 ⟨v, rfl, ho, hb1⟩
    obtain ⟨a1, k1, rfl, rX⟩ := row_open ho
    have hb01 := hbW.trans (hb1.mono hbW.size)
    obtain ⟨b, off, rfl, hbs, hcl⟩ := rX.slv.open (by intro h; rw [List.map_eq_nil_iff] at h; rw [h] at hz; exact hz rfl)
    have hcx : w1.cell? ⟨b, off + p, none⟩ = some (.int .i64 (x : Int)) := hcl p _ (by rw [List.getElem?_map, HG.out.1]; rfl)
    have hcy : w1.cell? ⟨b, off, none⟩ = some (.int .i64 (y : Int)) := by have := hcl 0 _ (by rw [List.getElem?_map, HG.out.2]; rfl); rwa [Nat.add_zero] at this
    have hwp := HWP.out
    clear c1 rX ho hb1 hbW hc0 hcl HG HWP
    have hlz : (((lenL G n).length : Int) == 0) = false := by rw [beq_eq_false_iff_ne]; omega
    clear hz
    generalize (lenL G n).length = m at *
    have hS0 : w1.drew.cell? ⟨b, off + p, none⟩ = some (.int .i64 (x : Int)) ∧ w1.drew.cell? ⟨b, off, none⟩ = some (.int .i64 (y : Int)) ∧ Below w1.heap.size w1 w1.drew := ⟨hcx, hcy, (Below.refl _ _).drew⟩
    go_wp2_with fail
    refine wp_region_held_drew (S := fun w' => w'.cell? ⟨b, off + p, none⟩ = some (.int .i64 (x : Int)) ∧ w'.cell? ⟨b, off, none⟩ = some (.int .i64 (y : Int)) ∧ Below w1.heap.size w1 w') (by kernel_rfl) hS0 (fun hHeld => ?_)
    refine held_take 0 _ _ rfl (by kernel_rfl) (by kernel_rfl) (by kernel_rfl) (fun _ _ _ h => h) (by rfl) hHeld (fun w hSw => by (try dsimp only at hSw); go_simp; try with_reducible rfl) ?_
    (try simp only [Act.put, List.setIfInBounds_toArray, List.set_cons_zero, List.set_cons_succ, List.getElem_toArray, List.getElem_cons_zero])
    refine held_take 1 _ _ rfl (by kernel_rfl) (by kernel_rfl) (by kernel_rfl) (fun _ _ _ h => h) (by rfl) hHeld (fun w hSw => by (try dsimp only at hSw); go_simp; try with_reducible rfl) ?_
    (try simp only [Act.put, List.setIfInBounds_toArray, List.set_cons_zero, List.set_cons_succ, List.getElem_toArray, List.getElem_cons_succ, List.getElem_cons_zero])
    refine held_take 2 _ _ rfl (by kernel_rfl) (by kernel_rfl) (by kernel_rfl) (fun _ _ _ h => h) (by rfl) hHeld (fun w hSw => by (try dsimp only at hSw); go_simp; try with_reducible rfl) ?_
    (try simp only [Act.put, List.setIfInBounds_toArray, List.set_cons_zero, List.set_cons_succ, List.getElem_toArray, List.getElem_cons_succ, List.getElem_cons_zero])
    refine held_take 3 _ _ rfl (by kernel_rfl) (by kernel_rfl) (by kernel_rfl) (fun _ _ _ h => h) (by rfl) hHeld (fun w hSw => by (try dsimp only at hSw); go_simp; try with_reducible rfl) ?_
    (try simp only [Act.put, List.setIfInBounds_toArray, List.set_cons_zero, List.set_cons_succ, List.getElem_toArray, List.getElem_cons_succ, List.getElem_cons_zero])
    refine held_take 4 _ _ rfl (by kernel_rfl) (by kernel_rfl) (by kernel_rfl) (fun _ _ _ h => h) (by rfl) hHeld (fun w hSw => by (try dsimp only at hSw); go_simp; try with_reducible rfl) ?_
    (try simp only [Act.put, List.setIfInBounds_toArray, List.set_cons_zero, List.set_cons_succ, List.getElem_toArray, List.getElem_cons_succ, List.getElem_cons_zero])
    refine held_take 5 _ _ rfl (by kernel_rfl) (by kernel_rfl) (by kernel_rfl) (fun _ _ _ h => h) (by rfl) hHeld (fun w hSw => by (try dsimp only at hSw); go_simp; try with_reducible rfl) ?_
    (try simp only [Act.put, List.setIfInBounds_toArray, List.set_cons_zero, List.set_cons_succ, List.getElem_toArray, List.getElem_cons_succ, List.getElem_cons_zero])
    refine held_take 6 _ _ rfl (by kernel_rfl) (by kernel_rfl) (by kernel_rfl) (fun _ _ _ h => h) (by rfl) hHeld (fun w hSw => by (try dsimp only at hSw); go_simp; try with_reducible rfl) ?_
    (try simp only [Act.put, List.setIfInBounds_toArray, List.set_cons_zero, List.set_cons_succ, List.getElem_toArray, List.getElem_cons_succ, List.getElem_cons_zero])
    refine held_take 7 _ _ rfl (by kernel_rfl) (by kernel_rfl) (by kernel_rfl) (fun _ _ _ h => h) (by rfl) hHeld (fun w hSw => by (try dsimp only at hSw); go_simp; try with_reducible rfl) ?_
    (try simp only [Act.put, List.setIfInBounds_toArray, List.set_cons_zero, List.set_cons_succ, List.getElem_toArray, List.getElem_cons_succ, List.getElem_cons_zero])
    refine held_take 8 _ _ rfl (by kernel_rfl) (by kernel_rfl) (by kernel_rfl) (fun _ _ _ h => h) (by rfl) hHeld (fun w hSw => by (try dsimp only at hSw); go_simp; try with_reducible rfl) ?_
    (try simp only [Act.put, List.setIfInBounds_toArray, List.set_cons_zero, List.set_cons_succ, List.getElem_toArray, List.getElem_cons_succ, List.getElem_cons_zero])
    refine wpAnyH_ready (rs := [9]) (by kernel_rfl) (by simp) ?_
    refine AllReadyH.cons rfl (fun K hK => ?_) AllReadyH.nil
    rw [if_pos (by rfl)]
    go_wp2_with (first | (go_at_call 75; (with_reducible refine (cG _).mono ?_); rintro e wk ⟨rfl, hbk⟩))
    refine hK.out _ _ (held_keep2 hbs hbs hHeld hbk) (fun hHeld1 => ?_)
    clear hK K
    (try simp only [Act.put, List.setIfInBounds_toArray, List.set_cons_zero, List.set_cons_succ, List.getElem_toArray, List.getElem_cons_succ, List.getElem_cons_zero])
    refine held_take 10 _ _ rfl (by kernel_rfl) (by kernel_rfl) (by kernel_rfl) (fun _ _ _ h => h) (by rfl) hHeld1 (fun w hSw => by (try dsimp only at hSw); go_simp; try with_reducible rfl) ?_
    (try simp only [Act.put, List.setIfInBounds_toArray, List.set_cons_zero, List.set_cons_succ, List.getElem_toArray, List.getElem_cons_succ, List.getElem_cons_zero])
    refine held_take 11 _ _ rfl (by kernel_rfl) (by kernel_rfl) (by kernel_rfl) (fun _ _ _ h => h) (by rfl) hHeld1 (fun w hSw => by (try dsimp only at hSw); go_simp; try with_reducible rfl) ?_
    (try simp only [Act.put, List.setIfInBounds_toArray, List.set_cons_zero, List.set_cons_succ, List.getElem_toArray, List.getElem_cons_succ, List.getElem_cons_zero])
    refine held_take 12 _ _ rfl (by kernel_rfl) (by kernel_rfl) (by kernel_rfl) (fun _ _ _ h => h) (by rfl) hHeld1 (fun w hSw => by (try dsimp only at hSw); go_simp; try with_reducible rfl) ?_
    (try simp only [Act.put, List.setIfInBounds_toArray, List.set_cons_zero, List.set_cons_succ, List.getElem_toArray, List.getElem_cons_succ, List.getElem_cons_zero])
    refine held_take 13 _ _ rfl (by kernel_rfl) (by kernel_rfl) (by kernel_rfl) (fun _ _ _ h => h) (by rfl) hHeld1 (fun w hSw => by (try dsimp only at hSw); go_simp; try with_reducible rfl) ?_
    (try simp only [Act.put, List.setIfInBounds_toArray, List.set_cons_zero, List.set_cons_succ, List.getElem_toArray, List.getElem_cons_succ, List.getElem_cons_zero])
    refine wpAnyH_done (by kernel_rfl) ?_ _
    have hb3 := hb01.trans ((hHeld1.2.2).mono hb01.size)
    clear hS0 hHeld1 cG
    go_wp2_with fail
    go_ret2
    exact ⟨by rw [HR.out.1, HR.out.2]; rfl, hb3⟩
end Go.Proofs.Ytlinlmmcgifloaa

/-
  CONTRACTS of the program's chapter 12: DeltaSet. (Own work.)
-/
namespace Go.Proofs.Ytlinlmmcgifloaa
open Go Go.RowKit

set_option maxRecDepth 100000 in
set_option maxHeartbeats 1600000 in
theorem impl_DeltaSet (G : List Int) (x : Int) (a : Option Addr) (cap : Nat) (w : World) (hr : SlV w a (G.map (Value.int .i64))) (hb : G.length ≤ 1048576) :
    Calls Try.prog 20 #[.agg #[.slice a G.length cap], .int .i64 x] w (SlPost (deltasL G x) w) := by
  obtain ⟨i0, hi, hz0, hz1, hz2⟩ := info_parts infoIntL
  obtain ⟨W, hW⟩ : ∃ W, W = w.alloc (.cells #[.slice a G.length cap] 26) := ⟨_, rfl⟩
  have hbW : Below w.heap.size w W := by rw [hW]; exact box_below _ _
  have hc0 : W.cell? ⟨w.heap.size, 0, none⟩ = some (.slice a G.length cap) := by rw [hW]; exact box_cell w _
  have hWs : w.heap.size < W.heap.size := by rw [hW]; simp
  have HW := Lib.hid hW
  clear hW
  cases hx : inB x 0 100
  · have HR := Lib.hid (deltasL_out (G := G) hx)
    by_cases h0 : x < 0
    · clear hx hr hi hz0 hz1 hz2
      go_enter Try.func20, Try.ntmps20
      go_wp2_with fail
      rw [← HW.out]
      go_ret
      exact ⟨_, rfl, by rw [HR.out]; exact World.ownsRow_nil _ _ _ _, hbW⟩
    · have h1 : ¬ x ≤ 100 := by
        intro h; unfold inB at hx; rw [decide_eq_true (by omega : 0 ≤ x), decide_eq_true h] at hx; cases hx
      have h2 : 100 < x := by omega
      have hd0 := decide_eq_false h0
      have hd1 := decide_eq_true h2
      clear hx hr hi hz0 hz1 hz2 h1
      go_enter Try.func20, Try.ntmps20
      go_wp2_with fail
      rw [← HW.out]
      go_ret
      exact ⟨_, rfl, by rw [HR.out]; exact World.ownsRow_nil _ _ _ _, hbW⟩
  · obtain ⟨hx0, hx1⟩ := inB_true hx
    obtain ⟨m, rfl⟩ := Int.eq_ofNat_of_zero_le hx0
    have HR := Lib.hid (deltasL_yes (G := G) hx)
    have hd0 : decide ((m : Int) < 0) = false := decide_eq_false (by omega)
    have hd1 : decide (100 < (m : Int)) = false := decide_eq_false (by omega)
    clear hx
    go_enter Try.func20, Try.ntmps20
    go_wp2_with fail
    rw [← HW.out]
    go_loopw [5, 15] (fun v i wr => ∃ k : Nat, k ≤ m + 1 ∧ i = .int .i64 (k : Int) ∧ wr.ownsRow W.heap.size 3 1 v (upD G k).length ((upD G k).map (Value.int .i64)) ∧ Below W.heap.size W wr) (fun _ i _ => m + 1 - (intOf i).toNat)
    case atStart => exact ⟨0, Nat.zero_le _, rfl, World.ownsRow_nil _ _ _ _, Below.refl _ _⟩
    case round =>
      obtain ⟨k, hk, rfl, hown, hbel⟩ := hrel
      have hsz := hbel.size
      have hul := upD_len G k
      by_cases hlt : k < m + 1
      · have hk0 : wr.cell? ⟨w.heap.size, 0, none⟩ = some (.slice a G.length cap) := (hbel.cell (p := ⟨w.heap.size, 0, none⟩) hWs).trans hc0
        have c1 := impl_DeltaOf G (k : Int) a cap wr (hr.below (hbW.trans (hbel.mono hbW.size))) hb
        have HU := Lib.hid (upD_succ G k)
        have hlti : (k : Int) < (m : Int) + 1 := by omega
        have hdl := deltaL_len G (k : Int)
        generalize upD G k = Q at *
        go_wp2_with fail
        refine c1.mono ?_
        rintro e w1 ⟨u, rfl, ho, hb1⟩
        have hown1 := owns_below hown hb1
        have hbel1 := hbel.trans (hb1.mono hsz)
        have hsz1 := hbel1.size
        have hoc := own_cases ho
        clear c1 ho hown hbel hb1 hk0
        generalize deltaL G (k : Int) = D at *
        rcases hoc with ⟨rfl, hD⟩ | ⟨g1, k1, rfl, hnews⟩
        · obtain rfl := List.eq_nil_of_length_eq_zero hD
          rw [List.append_nil] at HU
          clear hD
          go_wp2_with (at_builtin; refine wpList_append_own_none rfl _ _ 24 rfl W.heap.size 3 i0 1 Try.underlying24 hi _ _ _ rfl hown1 rfl ?_)
          have HO := Lib.hid hown1
          clear hown1
          go_wp2_with fail
          go_roundw
          case rel => exact ⟨k + 1, by omega, by go_num, by rw [HU.out]; exact HO.out, hbel1⟩
          case measure => simp [intOf]; omega
        · go_wp2_with (at_builtin; refine wpList_append_own _ rfl _ _ 24 rfl W.heap.size 3 i0 (Value.int .i64 0) 1 8 Try.underlying24 hi hz0 hz1 hz2 rfl (by decide) _ _ _ rfl hown1 ⟨g1, 0, none⟩ D.length k1 (D.map (Value.int .i64)) rfl (by rw [List.length_map]; omega) hnews (fun u hu => by obtain ⟨x, -, rfl⟩ := List.mem_map.1 hu; rfl) (by unfold maxLen; omega) (by omega) hsz1 ?_; intro v2 w2 hown2 hgrow2 _)
          have hb2 := hbel1.grown hgrow2 hsz1 (fun j hj => (hown1.lt j hj).1)
          have HO : Hid (w2.ownsRow W.heap.size 3 1 v2 (Q ++ D).length ((Q ++ D).map (Value.int .i64))) := Lib.hid (by rw [List.length_append, List.map_append]; exact hown2)
          clear hown1 hown2 hgrow2 hnews hbel1
          go_wp2_with fail
          go_roundw
          case rel => exact ⟨k + 1, by omega, by go_num, by rw [HU.out]; exact HO.out, hb2⟩
          case measure => simp [intOf]; omega
      · obtain rfl : k = m + 1 := by omega
        have hlti : ¬ ((m + 1 : Nat) : Int) < (m : Int) + 1 := by omega
        have hs := impl_sortOnce W.heap.size _ _ wr hown (by omega) hsz
        rw [← HR.out] at hs
        clear hown
        go_wp2_with fail
        refine hs.mono ?_
        rintro e w2 ⟨u, rfl, ho, hb2⟩
        have HO := Lib.hid (ownsBase ho hbW.size)
        have hb3 := hbW.trans ((hbel.trans hb2).mono hbW.size)
        clear hs ho
        go_wp2_with fail
        go_ret
        exact ⟨_, rfl, HO.out, hb3⟩
end Go.Proofs.Ytlinlmmcgifloaa
