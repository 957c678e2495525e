/-
  CONTRACTS of the program's chapters 11, 12.
-/
import Derived.Test.YtikfaogopjinaaaCh11M
import Derived.Test.YtikfaogopjinaaaCh3I
import Derived.Test.YtikfaogopjinaaaSgA
import Derived.Test.YtikfaogopjinaaaSgL
import Derived.WalkMore
import Derived.ScopeJumps
import Derived.StillTailTactics
import Derived.Maps.AppendAt

/-
  CONTRACTS of the program's chapter 11: the search for factorizations. (Own work: mkI40.py.)
-/
namespace Go.Proofs.Ytikfaogopjinaaa
open Go Go.RowKit
attribute [local go_sem] Oper.semAt_some

theorem exists_least {p : Nat → Prop} (h : ∃ n, p n) : ∃ n, p n ∧ ∀ m, m < n → ¬ p m := by
  obtain ⟨n, hn⟩ := h
  induction n using Nat.strongRecOn with
  | ind n ih =>
    by_cases hm : ∃ m, m < n ∧ p m
    · obtain ⟨m, h1, h2⟩ := hm
      exact ih m h1 h2
    · exact ⟨n, hn, fun m h1 h2 => hm ⟨m, h1, h2⟩⟩
/-- A scope in which the run jumps back to one label: J at every jump, its number less each time. -/
theorem wp_scope_down {P : Program} {c rest : Code} {a : Act} {w : World} {Q : Exit → Act → World → Prop} (l : Nat) (J : Nat → Act → World → Prop) (hf : findLabel c l = some (Code.skip.seq rest))
    (first : ∀ K : Exit → Act → World → Prop, (∀ n a w, J n a w → rest.wp P K a w) → c.wp P K a w)
    (pass : ∀ n a w, J n a w → rest.wp P (Exit.jump l (fun a' w' => ∃ m, m < n ∧ J m a' w') Q) a w) : (Code.scope c).wp P Q a w := by
  have key : ∀ (a : Act) (w : World), ∃ μ : Nat, (∃ n, J n a w) → J μ a w ∧ ∀ m, m < μ → ¬ J m a w := fun a w => by
    by_cases h : ∃ n, J n a w
    · obtain ⟨n, h1, h2⟩ := exists_least h
      exact ⟨n, fun _ => ⟨h1, h2⟩⟩
    · exact ⟨0, fun h' => absurd h' h⟩
  have sk : ∀ {K : Exit → Act → World → Prop} {a : Act} {w : World}, rest.wp P K a w → (Code.skip.seq rest).wp P K a w := fun h => wp_seq (wp_skip h)
  refine wp_scope_jumps l (fun a w => ∃ n, J n a w) (fun a w => Classical.choose (key a w)) hf (first _ fun n a w hJ => ?_) fun a w hJ => sk ?_
  · refine wp_mono (pass n a w hJ) ?_
    intro e a' w' hq
    cases e with
    | goto l' => obtain ⟨rfl, m, -, hj⟩ := hq; exact ⟨rfl, m, hj⟩
    | normal => exact hq
    | exit id => exact hq
    | ret => exact hq
    | panic ch => exact hq
    | outgrown => exact hq
  · have hs := Classical.choose_spec (key a w) hJ
    refine wp_mono (pass _ a w hs.1) ?_
    intro e a' w' hq
    cases e with
    | goto l' =>
      obtain ⟨rfl, m, hm, hj⟩ := hq
      have hs' := Classical.choose_spec (key a' w') ⟨m, hj⟩
      exact ⟨rfl, ⟨m, hj⟩, Nat.lt_of_le_of_lt (Nat.le_of_not_lt fun h => hs'.2 m h hj) hm⟩
    | normal => exact hq
    | exit id => exact hq
    | ret => exact hq
    | panic ch => exact hq
    | outgrown => exact hq

theorem infoSlL : (Try.prog.info? 22).map (fun i => (i.zero, i.size, i.bytes)) = some (some (Value.slice none 0 0), 1, 24) := by kernel_rfl

/-- How much the numbers on the stack (the last first) take. -/
def dotS (G : List Int) : List Nat → Nat
  | [] => 0
  | a :: S => a * (G.getD S.length 0).toNat + dotS G S
/-- The state of the search: what was found, the stack in a row of its own. -/
structure Fact (w W : World) (G : List Int) (n : Nat) (S : List Nat) (m : Nat) (F : List (List Int)) (v : Value) (vs : List Value) (tv : Value) : Prop where
  rows : Rows2 W w.heap.size W.heap.size v vs (F.map fun L => L.map (Value.int .i64))
  own : W.ownsRow w.heap.size 3 1 tv S.length ((S.reverse.map Int.ofNat).map (Value.int .i64))
  free : ∀ b, tv.ownBlock = some b → v.ownBlock ≠ some b ∧ ∀ i (h : i < vs.length), vs[i].ownBlock ≠ some b
  dot : m + dotS G S = n
  le : S.length ≤ G.length
  bel : Below w.heap.size w W
theorem dotS_cons (G : List Int) (a : Nat) (S : List Nat) : dotS G (a :: S) = a * (G.getD S.length 0).toNat + dotS G S := rfl
theorem dotS_le {G : List Int} {S : List Nat} (hG : ∀ g ∈ G, 1 ≤ g) (h : S.length ≤ G.length) : ∀ x ∈ S, x ≤ dotS G S := by
  induction S with
  | nil => intro x hx; cases hx
  | cons a S ih =>
    intro x hx
    have hl : S.length < G.length := h
    have hg : 1 ≤ (G.getD S.length 0).toNat := by
      rw [List.getD_eq_getElem?_getD, List.getElem?_eq_getElem hl]
      have := hG _ (List.getElem_mem hl)
      simp; omega
    have ha : a ≤ a * (G.getD S.length 0).toNat := Nat.le_mul_of_pos_right a hg
    unfold dotS
    rcases List.mem_cons.1 hx with rfl | hx
    · omega
    · have := ih (Nat.le_of_lt hl) x hx; omega
theorem Rows2.keepU {w w' : World} {lo hi : Nat} {v : Value} {vs : List Value} {xss : List (List Value)} (h : Rows2 w lo hi v vs xss) (hs : w.heap.size ≤ w'.heap.size)
    (hb : ∀ b, b < hi → (v.ownBlock = some b ∨ ∃ i, ∃ h : i < vs.length, vs[i].ownBlock = some b) → w'.heap[b]? = w.heap[b]?) : Rows2 w' lo hi v vs xss :=
  ⟨row_kept h.own fun j hj => hb j (h.blk j hj) (.inl hj), h.len, fun i h1 h2 => by
    have r := h.inn i h1 h2
    exact ⟨row_kept r.own fun j hj => hb j (r.blk j hj) (.inr ⟨i, h1, hj⟩), r.blk, Nat.le_trans r.hi_le hs⟩, h.blk, Nat.le_trans h.hi_le hs, h.apart, h.outer⟩
theorem Rows2.used {w : World} {lo hi : Nat} {v : Value} {vs : List Value} {xss : List (List Value)} (h : Rows2 w lo hi v vs xss) {b : Nat} (hb : v.ownBlock = some b ∨ ∃ i, ∃ h : i < vs.length, vs[i].ownBlock = some b) : b < hi := by
  rcases hb with hb | ⟨i, hi', hb⟩
  · exact h.blk b hb
  · exact (h.inn i hi' (by rw [← h.len]; exact hi')).blk b hb
section
variable {w W W' : World} {G : List Int} {n : Nat} {S : List Nat} {m : Nat} {F : List (List Int)} {v : Value} {vs : List Value} {tv : Value}
theorem Fact.not (h : Fact w W G n S m F v vs tv) {b : Nat} (hb : v.ownBlock = some b ∨ ∃ i, ∃ h : i < vs.length, vs[i].ownBlock = some b) : tv.ownBlock ≠ some b := fun e => by
  obtain ⟨h1, h2⟩ := h.free b e
  rcases hb with hb | ⟨i, hi', hb⟩
  · exact h1 hb
  · exact h2 i hi' hb
theorem Fact.drew (h : Fact w W G n S m F v vs tv) : Fact w W.drew G n S m F v vs tv :=
  ⟨h.rows.keep (Nat.le_refl _) fun _ _ _ => rfl, h.own, h.free, h.dot, h.le, h.bel.drew⟩
/-- A number more on the stack. -/
theorem Fact.pushed (h : Fact w W G n S m F v vs tv) (o : Obj) (q m' : Nat) {g c : Nat} (ho : W'.ownsRow w.heap.size 3 1 (.slice (some ⟨g, 0, none⟩) (S.length + 1) c) (S.length + 1) ((S.reverse.map Int.ofNat).map (Value.int .i64) ++ [.int .i64 (q : Int)])) (hg : (W.alloc o).grownBy W' tv.ownBlock)
    (hat : tv.ownBlock = some g ∨ g = (W.alloc o).heap.size) (hd : m' + dotS G (q :: S) = n) (hl : S.length + 1 ≤ G.length) : Fact w W' G n (q :: S) m' F v vs (.slice (some ⟨g, 0, none⟩) (S.length + 1) c) := by
  have hz : (W.alloc o).heap.size = W.heap.size + 1 := by simp
  have hsz := hg.size
  refine ⟨?_, by rw [List.length_cons, rev_ofNat, List.map_append]; exact ho, fun b hb => ?_, hd, by rw [List.length_cons]; exact hl, (h.bel.alloc h.bel.size o).grown hg (by simp; have := h.bel.size; omega) fun j hj => (h.own.lt j hj).1⟩
  · exact (h.rows.keepU (by omega) fun b hb hu => by
      rw [hg.block b (by omega) fun e => h.not hu e.symm]
      exact Below.heap_alloc W o b hb).wider (Nat.le_refl _) (by omega) (Nat.le_refl _)
  · have e : b = g := by simp [Value.ownBlock] at hb; exact hb.symm
    subst e
    rcases hat with ht | ht
    · exact h.free b ht
    · constructor
      · intro e'; have := h.rows.used (.inl e'); omega
      · intro i hi' e'; have := h.rows.used (.inr ⟨i, hi', e'⟩); omega
theorem owns_put2 {w : World} {base : Nat} {e : TypeId} {g n cap : Nat} {xs : List Value} (h : w.ownsRow base e 1 (.slice (some ⟨g, 0, none⟩) n cap) n xs) (j : Nat) (u : Value) :
    (w.setCell ⟨g, j, none⟩ u).ownsRow base e 1 (.slice (some ⟨g, 0, none⟩) n cap) n (xs.set j u) := by
  obtain ⟨hx, hv | ⟨g', cap', cur, hv, h1, h2, h3, h4, h5, h6⟩⟩ := h
  · cases hv.1
  · injection hv with hv hv2 hv3
    injection hv with hv
    injection hv with hv
    subst hv hv3
    refine ⟨by rw [List.length_set]; exact hx, .inr ⟨g, cap, cur.setIfInBounds j u, rfl, h1, heap_setCell_same w g j cur e u h2, h3, h4, by rw [Array.size_setIfInBounds]; exact h5, ?_⟩⟩
    rw [Array.toList_setIfInBounds, List.take_set, h6]
theorem owns_cut {w : World} {base : Nat} {e : TypeId} {g n k cap : Nat} {xs : List Value} (h : w.ownsRow base e 1 (.slice (some ⟨g, 0, none⟩) n cap) n xs) (hk : k ≤ n) :
    w.ownsRow base e 1 (.slice (some ⟨g, 0, none⟩) k cap) k (xs.take k) := by
  obtain ⟨hx, hv | ⟨g', cap', cur, hv, h1, h2, h3, h4, h5, h6⟩⟩ := h
  · cases hv.1
  · injection hv with hv hv2 hv3
    injection hv with hv
    injection hv with hv
    subst hv hv3
    refine ⟨by rw [List.length_take]; omega, .inr ⟨g, cap, cur, rfl, h1, h2, by omega, h4, h5, ?_⟩⟩
    rw [← h6, List.take_take]
    congr 1; omega
/-- The last number on the stack is one less. -/
theorem Fact.less {g c a' b : Nat} (h : Fact w W G n (a' :: S) m F v vs (.slice (some ⟨g, 0, none⟩) (S.length + 1) c)) (m' : Nat) (hd : m' + dotS G (b :: S) = n) :
    Fact w (W.setCell ⟨g, S.length, none⟩ (.int .i64 (b : Int))) G n (b :: S) m' F v vs (.slice (some ⟨g, 0, none⟩) (S.length + 1) c) := by
  have hg : (Value.slice (some ⟨g, 0, none⟩) (S.length + 1) c).ownBlock = some g := by simp [Value.ownBlock]
  have hp := owns_put2 h.own S.length (.int .i64 (b : Int))
  have hgr := grownBy_setCell W g S.length (.int .i64 (b : Int))
  refine ⟨?_, ?_, h.free, hd, h.le, h.bel.setCell (p := ⟨g, S.length, none⟩) (h.own.lt g hg).1 _⟩
  · exact (h.rows.keepU hgr.size fun b' hb' hu => hgr.block b' hb' fun e => h.not hu (by rw [hg]; exact e.symm)).wider (Nat.le_refl _) hgr.size (Nat.le_refl _)
  · have e : ((a' :: S).reverse.map Int.ofNat).map (Value.int .i64) = (S.reverse.map Int.ofNat).map (Value.int .i64) ++ [.int .i64 (a' : Int)] := by rw [rev_ofNat, List.map_append]; rfl
    have e2 : ((b :: S).reverse.map Int.ofNat).map (Value.int .i64) = (S.reverse.map Int.ofNat).map (Value.int .i64) ++ [.int .i64 (b : Int)] := by rw [rev_ofNat, List.map_append]; rfl
    rw [e, List.set_append_right _ _ (by simp)] at hp
    rw [e2]
    simpa using hp
/-- The last number leaves the stack. -/
theorem Fact.popped {g c a' : Nat} (h : Fact w W G n (a' :: S) m F v vs (.slice (some ⟨g, 0, none⟩) (S.length + 1) c)) (m' : Nat) (hd : m' + dotS G S = n) :
    Fact w W G n S m' F v vs (.slice (some ⟨g, 0, none⟩) S.length c) := by
  have ho := owns_cut (k := S.length) h.own (by simp)
  have e : ((a' :: S).reverse.map Int.ofNat).map (Value.int .i64) = (S.reverse.map Int.ofNat).map (Value.int .i64) ++ [.int .i64 (a' : Int)] := by rw [rev_ofNat, List.map_append]; rfl
  rw [e, List.take_left' (by simp)] at ho
  exact ⟨h.rows, ho, fun b hb => h.free b (by simpa [Value.ownBlock] using hb), hd, Nat.le_of_succ_le h.le, h.bel⟩
/-- What was found: the stack's copy goes behind the others. -/
theorem Fact.found {W1 : World} {u : Value} {g c : Nat} (h : Fact w W G n S m F v vs tv) (hb1 : Below W.heap.size W W1) (hu : W1.ownsRow W.heap.size 3 1 u S.length ((S.reverse.map Int.ofNat).map (Value.int .i64))) (o : Obj)
    (ho : W'.ownsRow w.heap.size 22 1 (.slice (some ⟨g, 0, none⟩) (vs.length + 1) c) (vs.length + 1) (vs ++ [u])) (hg : (W1.alloc o).grownBy W' v.ownBlock) (hat : v.ownBlock = some g ∨ g = (W1.alloc o).heap.size) :
    Fact w W' G n S m (F ++ [S.reverse.map Int.ofNat]) (.slice (some ⟨g, 0, none⟩) (vs.length + 1) c) (vs ++ [u]) tv := by
  have hz : (W1.alloc o).heap.size = W1.heap.size + 1 := by simp
  have hs1 := hb1.size
  have hbz := h.bel.size
  have hr2 : Rows2 (W1.alloc o) w.heap.size W.heap.size v vs (F.map fun L => L.map (Value.int .i64)) := (h.rows.below hb1).below (box_below W1 o)
  have hu2 : (W1.alloc o).ownsRow W.heap.size 3 1 u ((S.reverse.map Int.ofNat).map (Value.int .i64)).length ((S.reverse.map Int.ofNat).map (Value.int .i64)) := by
    have e : ((S.reverse.map Int.ofNat).map (Value.int .i64)).length = S.length := by simp
    rw [e]; exact owns_below hu (box_below W1 o)
  have ht : ∀ b, tv.ownBlock = some b → b < W.heap.size := fun b hb => (h.own.lt b hb).2
  refine ⟨?_, row_kept h.own fun j hj => ?_, fun b hb => ⟨fun e => ?_, fun i hi' e => ?_⟩, h.dot, h.le, ((h.bel.trans (hb1.mono hbz)).trans ((box_below W1 o).mono (Nat.le_trans hbz hs1))).grown hg (by omega) fun j hj => (h.rows.own.lt j hj).1⟩
  · rw [List.map_append]
    exact hr2.snoc ho hg hu2 hbz fun b hb => by
      have e : b = g := by simp [Value.ownBlock] at hb; exact hb.symm
      subst e
      rcases hat with h1 | h1
      · exact .inl h1
      · exact .inr (by omega)
  · have hj' := ht j hj
    rw [hg.block j (by omega) fun e => (h.free j hj).1 e.symm, Below.heap_alloc W1 o j (by omega)]
    exact hb1.block j hj'
  · have e' : b = g := by simp [Value.ownBlock] at e; exact e.symm
    have hb' := ht b hb
    rcases hat with h1 | h1
    · exact (h.free b hb).1 (by rw [e']; exact h1)
    · omega
  · have hb' := ht b hb
    by_cases hi2 : i < vs.length
    · rw [List.getElem_append_left hi2] at e
      exact (h.free b hb).2 i hi2 e
    · have e2 : i = vs.length := by simp at hi'; omega
      subst e2
      rw [List.getElem_append_right (Nat.le_refl _)] at e
      simp only [Nat.sub_self, List.getElem_cons_zero] at e
      have := (hu.lt b e).1
      omega
end
theorem own_one {w : World} {base n : Nat} {u : Value} {xs : List Value} (h : w.ownsRow base 3 1 u n xs) : ∀ y ∈ [u], y.oneCell' = true := by
  intro y hy
  rw [List.mem_singleton] at hy
  subst hy
  rcases h.2 with ⟨rfl, _⟩ | ⟨g, cap, cur, rfl, _⟩ <;> rfl
theorem cell_last {W : World} {g x : Nat} {S : List Nat} (hH : Sort.Holds (Value.int .i64) W g 0 ((x :: S).reverse.map Int.ofNat).toArray) : W.cell? ⟨g, S.length, none⟩ = some (.int .i64 (x : Int)) ∧ W.frozen? ⟨g, S.length, none⟩ = false := by
  obtain ⟨h1, h2⟩ := hH S.length (by simp)
  have e : ((x :: S).reverse.map Int.ofNat).toArray[S.length]! = (x : Int) := by
    rw [getElem!_def]
    have : ((x :: S).reverse.map Int.ofNat)[S.length]? = some (x : Int) := by
      rw [rev_ofNat, List.getElem?_append_right (by simp)]; simp
    simp only [List.getElem?_toArray, this]
  rw [e, Nat.zero_add] at h1
  rw [Nat.zero_add] at h2
  exact ⟨h1, h2⟩
def lenOf : Value → Nat
  | .slice _ n _ => n
  | _ => 0


theorem factL_no {G : List Int} {n : Int} (h : isSgB G = false ∨ inB n 0 100 = false) : factL G n = [] := by
  unfold factL
  rcases h with h | h
  · rw [h]; rfl
  · rw [h, Bool.and_false]; rfl
theorem factL_yes {G : List Int} {n : Nat} (hs : isSgB G = true) (hn : n ≤ 100) : factL G (n : Int) = findF G n := by
  have h : inB (n : Int) 0 100 = true := by unfold inB; rw [decide_eq_true (by omega : (0 : Int) ≤ (n : Int)), decide_eq_true (by omega : (n : Int) ≤ 100)]; rfl
  unfold factL; rw [hs, h, Int.toNat_natCast]; rfl
end Go.Proofs.Ytikfaogopjinaaa

/-
  CONTRACTS of chapter 11: ValueOf, IsFactorization (impl). (Own work: mkVal.py.)
-/
namespace Go.Proofs.Ytikfaogopjinaaa
open Go Go.RowKit


end Go.Proofs.Ytikfaogopjinaaa

/-
  CONTRACTS of the program's chapter 11: CountFactorizations. (Own work: mkCntI.py.)
-/
namespace Go.Proofs.Ytikfaogopjinaaa
open Go Go.RowKit

end Go.Proofs.Ytikfaogopjinaaa

/-
  CONTRACTS of chapter 12: GreatestElasticity (impl). (Own work: mkGr.py.)
-/
namespace Go.Proofs.Ytikfaogopjinaaa
open Go Go.RowKit

theorem keepG {W wr w1 : World} {b1 b2 o2 o3 : Nat} {v1 v2 v3 : Value} (h1 : b1 < W.heap.size) (h2 : b2 < W.heap.size)
    (h : wr.cell? ⟨b1, 0, none⟩ = some v1 ∧ wr.cell? ⟨b2, o2, none⟩ = some v2 ∧ wr.cell? ⟨b2, o3, none⟩ = some v3 ∧ Below W.heap.size W wr) (hb : Below wr.heap.size wr w1) : w1.cell? ⟨b1, 0, none⟩ = some v1 ∧ w1.cell? ⟨b2, o2, none⟩ = some v2 ∧ w1.cell? ⟨b2, o3, none⟩ = some v3 ∧ Below W.heap.size W w1 := by
  obtain ⟨e1, e2, e3, hB⟩ := h
  have hs := hB.size
  exact ⟨(hb.cell (p := ⟨b1, 0, none⟩) (Nat.lt_of_lt_of_le h1 hs)).trans e1, (hb.cell (p := ⟨b2, o2, none⟩) (Nat.lt_of_lt_of_le h2 hs)).trans e2, (hb.cell (p := ⟨b2, o3, none⟩) (Nat.lt_of_lt_of_le h2 hs)).trans e3, hB.trans (hb.mono hs)⟩

end Go.Proofs.Ytikfaogopjinaaa

/-
  CONTRACTS of the program's chapter 12: sumOf, LengthsOf. (Own work.)
-/
namespace Go.Proofs.Ytikfaogopjinaaa
open Go Go.RowKit

set_option maxRecDepth 100000 in
set_option maxHeartbeats 800000 in
theorem impl_sumOf (L : List Int) (a : Option Addr) (cap : Nat) (w : World) (hr : SlV w a (L.map (Value.int .i64))) (hb : L.length ≤ 12) (hL : ∀ x ∈ L, 0 ≤ x ∧ x ≤ 100) :
    Calls Try.prog 62 #[.slice a L.length cap] w fun e w' => e = .returned (.int .i64 L.sum) ∧ w' = w := by
  have HL := Lib.hid hL
  clear hL
  go_enter Try.func62, Try.ntmps62
  go_wp2_with fail
  go_loop [3, 8] (fun s i => ∃ k : Nat, k ≤ L.length ∧ i = .int .i64 (k : Int) ∧ s = .int .i64 (L.take k).sum) (fun _ i => L.length - (intOf i).toNat)
  case atStart => exact ⟨0, Nat.zero_le _, rfl, rfl⟩
  case round =>
    obtain ⟨k, hk, rfl, rfl⟩ := hrel
    by_cases hlt : k < L.length
    · obtain ⟨b, off, rfl, hbs, hc⟩ := hr.open (by intro h; rw [List.map_eq_nil_iff] at h; subst h; simp at hlt)
      have hcell : w.cell? ⟨b, off + k, none⟩ = some (.int .i64 L[k]) := hc k _ (by simp [hlt])
      have HT := Lib.hid (sum_take1 hlt)
      have hs := sum_bnd (L := L.take k) fun x hx => HL.out x (List.mem_of_mem_take hx)
      have hl1 : (L.take k).length ≤ 12 := by rw [List.length_take]; omega
      have hx := HL.out L[k] (List.getElem_mem hlt)
      clear hc hr
      generalize L[k] = x at *
      generalize (L.take k).sum = s at *
      have hw1 : IntKind.i64.wrap (s + x) = s + x := IntWalk.i64_in _ (by omega)
      go_wp2_with fail
      go_round
      case rel => exact ⟨k + 1, by omega, by go_num, by rw [HT.out]⟩
      case measure => simp [intOf]; omega
    · obtain rfl : k = L.length := by omega
      have HT := Lib.hid (List.take_of_length_le (Nat.le_refl L.length))
      clear hr
      go_wp2_with fail
      go_ret
      exact ⟨by rw [← HT.out]; simp, rfl⟩
end Go.Proofs.Ytikfaogopjinaaa

/-
  CONTRACTS of chapter 12: DeltaOf (impl). (Own work: mkDel.py.)
-/
namespace Go.Proofs.Ytikfaogopjinaaa
open Go Go.RowKit

end Go.Proofs.Ytikfaogopjinaaa

/-
  CONTRACTS of chapter 12: ElasticityOf (impl). (Own work: mkEla.py.)
-/
namespace Go.Proofs.Ytikfaogopjinaaa
open Go Go.RowKit

end Go.Proofs.Ytikfaogopjinaaa

/-
  CONTRACTS of the program's chapter 12: DeltaSet. (Own work.)
-/
namespace Go.Proofs.Ytikfaogopjinaaa
open Go Go.RowKit

end Go.Proofs.Ytikfaogopjinaaa
