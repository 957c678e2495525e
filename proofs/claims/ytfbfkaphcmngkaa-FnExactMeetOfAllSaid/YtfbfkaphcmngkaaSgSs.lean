/-
  LISTS OF SEMIGROUPS IN MEMORY OF THE CALL's OWN: the headers lie in one row, each list of generators in a block of its own; what the laws' helpers do with them. (Own work; mkSs.py.)
-/
import Derived.Test.YtfbfkaphcmngkaaCh11M
import Derived.Test.YtfbfkaphcmngkaaSgL
namespace Go.Proofs.Ytfbfkaphcmngkaa
open Go Go.RowKit

/-- A list of lists in memory of the call's own. -/
structure RowsG (w : World) (lo hi : Nat) (v : Value) (vs : List Value) (xss : List (List Value)) : Prop where
  own : w.ownsRow lo 26 1 v vs.length vs
  len : vs.length = xss.length
  inn : ∀ i (h : i < vs.length) (h' : i < xss.length), Row w lo hi vs[i] xss[i].length xss[i]
  blk : ∀ j, v.ownBlock = some j → j < hi
  hi_le : hi ≤ w.heap.size
  apart : ∀ i j (hi : i < vs.length) (hj : j < vs.length), i ≠ j → ∀ b, vs[i].ownBlock = some b → vs[j].ownBlock ≠ some b
  outer : ∀ i (h : i < vs.length), ∀ b, vs[i].ownBlock = some b → v.ownBlock ≠ some b
theorem RowsG.keep {w w' : World} {lo hi : Nat} {v : Value} {vs : List Value} {xss : List (List Value)} (h : RowsG w lo hi v vs xss) (hs : w.heap.size ≤ w'.heap.size) (hb : ∀ j, lo ≤ j → j < hi → w'.heap[j]? = w.heap[j]?) : RowsG w' lo hi v vs xss :=
  ⟨row_kept h.own fun j hj => hb j (h.own.lt j hj).1 (h.blk j hj), h.len, fun i h1 h2 => by
    have r := h.inn i h1 h2
    exact ⟨row_kept r.own fun j hj => hb j (r.own.lt j hj).1 (r.blk j hj), r.blk, Nat.le_trans r.hi_le hs⟩, h.blk, Nat.le_trans h.hi_le hs, h.apart, h.outer⟩
theorem RowsG.below {w w' : World} {lo hi : Nat} {v : Value} {vs : List Value} {xss : List (List Value)} (h : RowsG w lo hi v vs xss) (hb : Below w.heap.size w w') : RowsG w' lo hi v vs xss :=
  h.keep hb.size fun j _ hj => hb.block j (Nat.lt_of_lt_of_le hj h.hi_le)
theorem RowsG.grown {w w' : World} {lo hi : Nat} {v : Value} {vs : List Value} {xss : List (List Value)} {row : Option Nat} (h : RowsG w lo hi v vs xss) (hg : w.grownBy w' row) (hd : ∀ j, row = some j → j < lo ∨ hi ≤ j) : RowsG w' lo hi v vs xss :=
  h.keep hg.size fun j h1 h2 => hg.block j (Nat.lt_of_lt_of_le h2 h.hi_le) fun e => by have := hd j e.symm; omega
theorem RowsG.far {lo hi l h' : Nat} {w w' : World} {v : Value} {vs : List Value} {xss : List (List Value)} (h : RowsG w l h' v vs xss) (hg : Apart lo hi w w') (hd : h' ≤ lo ∨ hi ≤ l) : RowsG w' l h' v vs xss :=
  h.keep hg.size fun j h1 h2 => hg.block j (Nat.lt_of_lt_of_le h2 h.hi_le) (by omega)
theorem RowsG.wider {w : World} {lo lo' hi hi' : Nat} {v : Value} {vs : List Value} {xss : List (List Value)} (h : RowsG w lo hi v vs xss) (hl : lo' ≤ lo) (hh : hi ≤ hi') (hs : hi' ≤ w.heap.size) : RowsG w lo' hi' v vs xss :=
  ⟨ownsBase h.own hl, h.len, fun i h1 h2 => by have r := h.inn i h1 h2; exact ⟨ownsBase r.own hl, fun j hj => Nat.lt_of_lt_of_le (r.blk j hj) hh, hs⟩, fun j hj => Nat.lt_of_lt_of_le (h.blk j hj) hh, hs, h.apart, h.outer⟩
theorem RowsG.nil (w : World) (lo hi : Nat) (hh : hi ≤ w.heap.size) : RowsG w lo hi (.slice none 0 0) [] [] :=
  ⟨World.ownsRow_nil _ _ _ _, rfl, fun i h => absurd h (by simp), fun j hj => by simp [Value.ownBlock] at hj, hh, fun i j h => absurd h (by simp), fun i h => absurd h (by simp)⟩
theorem rowsG_open {w : World} {lo hi : Nat} {v : Value} {vs : List Value} {xss : List (List Value)} (h : RowsG w lo hi v vs xss) : ∃ a c, v = .slice a vs.length c := by
  obtain ⟨a, c, e, -⟩ := SlV.of_owns h.own
  exact ⟨a, c, e⟩
theorem RowsG.sl2 {w : World} {lo hi : Nat} {a : Option Addr} {n c : Nat} {vs : List Value} {LL : List (List Int)} (h : RowsG w lo hi (.slice a n c) vs (LL.map fun L => L.map (Value.int .i64))) : Sl2 w a LL := by
  obtain ⟨a', c', e, -, -, hs, -⟩ := SlV.of_owns h.own
  cases e
  refine ⟨vs, hs, by rw [h.len, List.length_map], fun i hi hi' => ?_⟩
  have r := h.inn i hi (by rw [List.length_map]; exact hi')
  rw [List.getElem_map] at r
  obtain ⟨p, c2, e2, h2, -, hs2, -⟩ := SlV.of_owns r.own
  rw [List.length_map] at e2
  exact ⟨p, c2, e2, hs2⟩
/-- One of the lists is written anew in its place. -/
theorem RowsG.remade {w w' : World} {lo hi : Nat} {v : Value} {vs : List Value} {xss : List (List Value)} (h : RowsG w lo hi v vs xss) {i : Nat} (hi' : i < vs.length) {ys : List Value} (ho : w'.ownsRow lo 3 1 vs[i] ys.length ys) (hg : w.grownBy w' vs[i].ownBlock) :
    RowsG w' lo hi v vs (xss.set i ys) := by
  refine ⟨row_kept h.own fun j hj => hg.block j (h.own.lt j hj).2 fun e => h.outer i hi' j e.symm hj, by rw [List.length_set]; exact h.len, fun k hk hk' => ?_, h.blk, Nat.le_trans h.hi_le hg.size, h.apart, h.outer⟩
  rw [List.length_set] at hk'
  have r := h.inn k hk hk'
  by_cases e : i = k
  · subst e
    simp only [List.getElem_set_self]
    exact ⟨ho, r.blk, Nat.le_trans r.hi_le hg.size⟩
  · simp only [List.getElem_set_ne e]
    exact ⟨row_kept r.own fun j hj => hg.block j (r.own.lt j hj).2 fun e' => h.apart i k hi' hk e j e'.symm hj, r.blk, Nat.le_trans r.hi_le hg.size⟩
/-- A list more: its header goes behind the others. -/
theorem RowsG.snoc {w w' : World} {lo hi : Nat} {v v' u : Value} {vs : List Value} {xss : List (List Value)} {ys : List Value} (h : RowsG w lo hi v vs xss) (ho : w'.ownsRow lo 26 1 v' (vs.length + 1) (vs ++ [u])) (hg : w.grownBy w' v.ownBlock)
    (hu : w.ownsRow hi 3 1 u ys.length ys) (hlo : lo ≤ hi) (hv' : ∀ b, v'.ownBlock = some b → v.ownBlock = some b ∨ w.heap.size ≤ b) : RowsG w' lo w'.heap.size v' (vs ++ [u]) (xss ++ [ys]) := by
  have hub : ∀ b, u.ownBlock = some b → hi ≤ b ∧ b < w.heap.size := fun b hb => hu.lt b hb
  have hvb : ∀ b, v.ownBlock = some b → b < hi := h.blk
  have hin : ∀ i (hi' : i < vs.length) b, vs[i].ownBlock = some b → lo ≤ b ∧ b < hi := fun i hi' b hb => by
    have r := h.inn i hi' (by rw [← h.len]; exact hi')
    exact ⟨(r.own.lt b hb).1, r.blk b hb⟩
  have hou : ∀ i (hi' : i < (vs ++ [u]).length) b, (vs ++ [u])[i].ownBlock = some b → b < w.heap.size ∧ v.ownBlock ≠ some b := fun i hi' b hb => by
    by_cases e : i < vs.length
    · rw [List.getElem_append_left e] at hb
      exact ⟨Nat.lt_of_lt_of_le (hin i e b hb).2 h.hi_le, h.outer i e b hb⟩
    · have e2 : i = vs.length := by simp at hi'; omega
      subst e2
      rw [List.getElem_append_right (Nat.le_refl _)] at hb
      simp only [Nat.sub_self, List.getElem_cons_zero] at hb
      exact ⟨(hub b hb).2, fun hq => by have := hvb b hq; have := (hub b hb).1; omega⟩
  refine ⟨by rw [List.length_append, List.length_singleton]; exact ho, by simp [h.len], fun i h1 h2 => ?_, fun j hj => (ho.lt j hj).2, Nat.le_refl _, fun i j hi' hj hne b hb hb2 => ?_, fun i hi' b hb hb2 => ?_⟩
  · by_cases e : i < vs.length
    · have r := h.inn i e (by rw [← h.len]; exact e)
      simp only [List.getElem_append_left e, List.getElem_append_left (show i < xss.length by rw [← h.len]; exact e)]
      exact ⟨row_kept r.own fun j hj => hg.block j (r.own.lt j hj).2 fun e' => h.outer i e j hj e'.symm, fun j hj => Nat.lt_of_lt_of_le (r.blk j hj) (Nat.le_trans h.hi_le hg.size), Nat.le_refl _⟩
    · have e2 : i = vs.length := by simp at h1; omega
      subst e2
      simp only [List.getElem_append_right (Nat.le_refl vs.length), Nat.sub_self, List.getElem_cons_zero]
      have e3 : (xss ++ [ys])[vs.length]'h2 = ys := by rw [List.getElem_append_right (by rw [h.len]; exact Nat.le_refl _)]; simp [h.len]
      rw [e3]
      refine ⟨ownsBase (row_kept hu fun j hj => hg.block j (hub j hj).2 fun e' => by have h1 := hvb j e'.symm; have h2 := (hub j hj).1; omega) hlo, fun j hj => Nat.lt_of_lt_of_le (hub j hj).2 hg.size, Nat.le_refl _⟩
  · by_cases e : i < vs.length
    · rw [List.getElem_append_left e] at hb
      by_cases e' : j < vs.length
      · rw [List.getElem_append_left e'] at hb2
        exact h.apart i j e e' hne b hb hb2
      · have e2 : j = vs.length := by simp at hj; omega
        subst e2
        rw [List.getElem_append_right (Nat.le_refl _)] at hb2
        simp only [Nat.sub_self, List.getElem_cons_zero] at hb2
        have := (hin i e b hb).2; have := (hub b hb2).1; omega
    · have e2 : i = vs.length := by simp at hi'; omega
      subst e2
      rw [List.getElem_append_right (Nat.le_refl _)] at hb
      simp only [Nat.sub_self, List.getElem_cons_zero] at hb
      have e' : j < vs.length := by simp at hj; omega
      rw [List.getElem_append_left e'] at hb2
      have := (hin j e' b hb2).2; have := (hub b hb).1; omega
  · obtain ⟨h1, h2⟩ := hou i hi' b hb
    rcases hv' b hb2 with h3 | h3
    · exact h2 h3
    · omega


/-- It stays where none of its own blocks turns. -/
theorem RowsG.kept {w w' : World} {lo hi : Nat} {v : Value} {vs : List Value} {xss : List (List Value)} (h : RowsG w lo hi v vs xss) (hs : w.heap.size ≤ w'.heap.size) (h1 : ∀ j, v.ownBlock = some j → w'.heap[j]? = w.heap[j]?) (h2 : ∀ u ∈ vs, ∀ j, u.ownBlock = some j → w'.heap[j]? = w.heap[j]?) : RowsG w' lo hi v vs xss :=
  ⟨row_kept h.own h1, h.len, fun i g1 g2 => by
    have r := h.inn i g1 g2
    exact ⟨row_kept r.own (h2 _ (List.getElem_mem g1)), r.blk, Nat.le_trans r.hi_le hs⟩, h.blk, Nat.le_trans h.hi_le hs, h.apart, h.outer⟩
/-- A block that none of them owns may turn. -/
theorem RowsG.beside {w w' : World} {lo hi g : Nat} {v : Value} {vs : List Value} {xss : List (List Value)} (h : RowsG w lo hi v vs xss) (hg : w.grownBy w' (some g)) (h1 : v.ownBlock ≠ some g) (h2 : ∀ u ∈ vs, u.ownBlock ≠ some g) : RowsG w' lo hi v vs xss := by
  refine h.kept hg.size (fun j hj => hg.block j ?_ (fun e => ?_)) (fun u hu j hj => hg.block j ?_ (fun e => ?_))
  · exact Nat.lt_of_lt_of_le (h.blk j hj) h.hi_le
  · cases e; exact h1 hj
  · obtain ⟨i, hi', rfl⟩ := List.getElem_of_mem hu
    have r := h.inn i hi' (by rw [← h.len]; exact hi')
    exact Nat.lt_of_lt_of_le (r.blk j hj) r.hi_le
  · cases e; exact h2 u hu hj
/-- One semigroup, its header in a new block. -/
theorem RowsG.one {w : World} {lo : Nat} {u : Value} {ys : List Value} (hu : w.ownsRow lo 3 1 u ys.length ys) (hlo : lo ≤ w.heap.size) : RowsG (w.alloc (.cells #[u] 26)) lo (w.heap.size + 1) (.slice (some ⟨w.heap.size, 0, none⟩) 1 1) [u] [ys] := by
  have ho := World.ownsRow_lit (e := 26) (size := 1) w #[u] 1 hlo (by unfold maxLen; omega) rfl
  have hz : (w.alloc (.cells #[u] 26)).heap.size = w.heap.size + 1 := by simp
  have hin : ∀ b, u.ownBlock = some b → lo ≤ b ∧ b < w.heap.size := fun b hb => hu.lt b hb
  refine ⟨ho, rfl, fun i h1 h2 => ?_, fun j hj => ?_, by omega, fun i j h1 h2 hne => ?_, fun i h1 b hb hb2 => ?_⟩
  · have : i = 0 := by simp at h1; omega
    subst this
    exact ⟨hu.alloc _, fun j hj => by have := (hin j hj).2; omega, by omega⟩
  · cases hj; exact Nat.lt_succ_self _
  · simp at h1 h2; omega
  · have : i = 0 := by simp at h1; omega
    subst this
    have h3 := (hin b hb).2
    cases hb2
    exact Nat.lt_irrefl _ h3
/-- The headers of a second list of lists go behind those of the first. -/
theorem RowsG.join {w w' : World} {lo hi h2 : Nat} {v v' u : Value} {vs us : List Value} {xss yss : List (List Value)} (h : RowsG w lo hi v vs xss) (k : RowsG w hi h2 u us yss) (hlo : lo ≤ hi)
    (ho : w'.ownsRow lo 26 1 v' (vs.length + us.length) (vs ++ us)) (hg : w.grownBy w' v.ownBlock) (hv' : ∀ b, v'.ownBlock = some b → v.ownBlock = some b ∨ w.heap.size ≤ b) : RowsG w' lo w'.heap.size v' (vs ++ us) (xss ++ yss) := by
  have hvb : ∀ b, v.ownBlock = some b → b < hi := h.blk
  have hin : ∀ i (hi' : i < vs.length) b, vs[i].ownBlock = some b → lo ≤ b ∧ b < hi := fun i hi' b hb => by
    have r := h.inn i hi' (by rw [← h.len]; exact hi')
    exact ⟨(r.own.lt b hb).1, r.blk b hb⟩
  have kin : ∀ i (hi' : i < us.length) b, us[i].ownBlock = some b → hi ≤ b ∧ b < w.heap.size := fun i hi' b hb => by
    have r := k.inn i hi' (by rw [← k.len]; exact hi')
    exact ⟨(r.own.lt b hb).1, (r.own.lt b hb).2⟩
  have hlen : (vs ++ us).length = vs.length + us.length := List.length_append
  have both : ∀ i (hi' : i < (vs ++ us).length) b, (vs ++ us)[i].ownBlock = some b → b < w.heap.size ∧ v.ownBlock ≠ some b := fun i hi' b hb => by
    by_cases e : i < vs.length
    · rw [List.getElem_append_left e] at hb
      exact ⟨Nat.lt_of_lt_of_le (hin i e b hb).2 h.hi_le, h.outer i e b hb⟩
    · rw [List.getElem_append_right (by omega)] at hb
      have := kin (i - vs.length) (by omega) b hb
      exact ⟨this.2, fun hq => by have := hvb b hq; omega⟩
  refine ⟨by rw [hlen]; exact ho, by rw [hlen, List.length_append, h.len, k.len], fun i h1 h2' => ?_, fun j hj => (ho.lt j hj).2, Nat.le_refl _, fun i j hi' hj hne b hb hb2 => ?_, fun i hi' b hb hb2 => ?_⟩
  · by_cases e : i < vs.length
    · have r := h.inn i e (by rw [← h.len]; exact e)
      simp only [List.getElem_append_left e, List.getElem_append_left (show i < xss.length by rw [← h.len]; exact e)]
      exact ⟨row_kept r.own fun j hj => hg.block j (r.own.lt j hj).2 fun e' => h.outer i e j hj e'.symm, fun j hj => Nat.lt_of_lt_of_le (r.blk j hj) (Nat.le_trans h.hi_le hg.size), Nat.le_refl _⟩
    · have hl := h.len
      have e1 : (vs ++ us)[i] = us[i - vs.length]'(by omega) := List.getElem_append_right (by omega)
      have hk : i - vs.length < yss.length := by rw [← k.len]; omega
      have e2 : (xss ++ yss)[i] = yss[i - vs.length] := by rw [List.getElem_append_right (by omega)]; simp only [hl]
      have r := k.inn (i - vs.length) (by omega) hk
      rw [e1, e2]
      exact ⟨ownsBase (row_kept r.own fun j hj => hg.block j (r.own.lt j hj).2 fun e' => by have h3 := hvb j e'.symm; have h4 := (r.own.lt j hj).1; omega) hlo, fun j hj => Nat.lt_of_lt_of_le (r.own.lt j hj).2 hg.size, Nat.le_refl _⟩
  · by_cases e : i < vs.length
    · rw [List.getElem_append_left e] at hb
      by_cases e' : j < vs.length
      · rw [List.getElem_append_left e'] at hb2
        exact h.apart i j e e' hne b hb hb2
      · rw [List.getElem_append_right (by omega)] at hb2
        have := (hin i e b hb).2; have := (kin (j - vs.length) (by omega) b hb2).1; omega
    · rw [List.getElem_append_right (by omega)] at hb
      by_cases e' : j < vs.length
      · rw [List.getElem_append_left e'] at hb2
        have := (hin j e' b hb2).2; have := (kin (i - vs.length) (by omega) b hb).1; omega
      · rw [List.getElem_append_right (by omega)] at hb2
        exact k.apart (i - vs.length) (j - vs.length) (by omega) (by omega) (by omega) b hb hb2
  · obtain ⟨h3, h4⟩ := both i hi' b hb
    rcases hv' b hb2 with h5 | h5
    · exact h4 h5
    · omega

/-- A semigroup more ahead of the others: their headers are copied behind its own, into a new block. -/
theorem RowsG.ahead {w w1 w' : World} {lo hi : Nat} {v v1 v' u : Value} {vs : List Value} {xss : List (List Value)} {ys : List Value} (h : RowsG w lo hi v vs xss) (hu : w.ownsRow hi 3 1 u ys.length ys) (hlo : lo ≤ hi) (h1 : ∀ j, j < w.heap.size → w1.heap[j]? = w.heap[j]?) (h1s : w.heap.size ≤ w1.heap.size)
    (ho : w'.ownsRow lo 26 1 v' (1 + vs.length) ([u] ++ vs)) (hg : w1.grownBy w' v1.ownBlock) (hv1 : ∀ b, v1.ownBlock = some b → w.heap.size ≤ b) (hv' : ∀ b, v'.ownBlock = some b → w.heap.size ≤ b) : RowsG w' lo w'.heap.size v' (u :: vs) (ys :: xss) := by
  have hub : ∀ b, u.ownBlock = some b → hi ≤ b ∧ b < w.heap.size := fun b hb => hu.lt b hb
  have hin : ∀ i (hi' : i < vs.length) b, vs[i].ownBlock = some b → lo ≤ b ∧ b < hi := fun i hi' b hb => by
    have r := h.inn i hi' (by rw [← h.len]; exact hi')
    exact ⟨(r.own.lt b hb).1, r.blk b hb⟩
  have hst : ∀ j, j < w.heap.size → w'.heap[j]? = w.heap[j]? := fun j hj => (hg.block j (by omega) (fun e => by have := hv1 j e.symm; omega)).trans (h1 j hj)
  have hsz : w.heap.size ≤ w'.heap.size := Nat.le_trans h1s hg.size
  refine ⟨by rw [show (u :: vs).length = 1 + vs.length by simp [Nat.add_comm]]; exact ho, by simp [h.len], fun i g1 g2 => ?_, fun j hj => (ho.lt j hj).2, Nat.le_refl _, fun i j g1 g2 hne b hb hb2 => ?_, fun i g1 b hb hb2 => ?_⟩
  · cases i with
    | zero =>
      simp only [List.getElem_cons_zero]
      exact ⟨ownsBase (row_kept hu fun j hj => hst j (hub j hj).2) hlo, fun j hj => Nat.lt_of_lt_of_le (hub j hj).2 hsz, Nat.le_refl _⟩
    | succ i =>
      simp only [List.getElem_cons_succ]
      simp only [List.length_cons] at g1 g2
      have r := h.inn i (by omega) (by omega)
      exact ⟨row_kept r.own fun j hj => hst j (r.own.lt j hj).2, fun j hj => Nat.lt_of_lt_of_le (r.own.lt j hj).2 hsz, Nat.le_refl _⟩
  · cases i with
    | zero =>
      cases j with
      | zero => exact hne rfl
      | succ j =>
        simp only [List.getElem_cons_zero] at hb
        simp only [List.getElem_cons_succ] at hb2
        simp only [List.length_cons] at g2
        have := (hin j (by omega) b hb2).2; have := (hub b hb).1; omega
    | succ i =>
      simp only [List.getElem_cons_succ] at hb
      simp only [List.length_cons] at g1
      cases j with
      | zero =>
        simp only [List.getElem_cons_zero] at hb2
        have := (hin i (by omega) b hb).2; have := (hub b hb2).1; omega
      | succ j =>
        simp only [List.getElem_cons_succ] at hb2
        simp only [List.length_cons] at g2
        exact h.apart i j (by omega) (by omega) (by omega) b hb hb2
  · have h5 := hv' b hb2
    cases i with
    | zero => simp only [List.getElem_cons_zero] at hb; have := (hub b hb).2; omega
    | succ i =>
      simp only [List.getElem_cons_succ] at hb
      simp only [List.length_cons] at g1
      have := (hin i (by omega) b hb).2; have := h.hi_le; omega
/-- Turned round in its place. -/
theorem RowsG.turned {w w' : World} {lo hi : Nat} {v : Value} {vs : List Value} {xss : List (List Value)} (h : RowsG w lo hi v vs xss) (ho : w'.ownsRow lo 26 1 v vs.length vs.reverse) (hg : w.grownBy w' v.ownBlock) : RowsG w' lo hi v vs.reverse xss.reverse := by
  have hl := h.len
  refine ⟨by rw [List.length_reverse]; exact ho, by rw [List.length_reverse, List.length_reverse]; exact hl, fun i g1 g2 => ?_, h.blk, Nat.le_trans h.hi_le hg.size, fun i j g1 g2 hne b hb hb2 => ?_, fun i g1 b hb => ?_⟩
  · rw [List.length_reverse] at g1 g2
    have r := h.inn (vs.length - 1 - i) (by omega) (by omega)
    simp only [List.getElem_reverse]
    have e : xss.length - 1 - i = vs.length - 1 - i := by omega
    simp only [e]
    exact ⟨row_kept r.own fun j hj => hg.block j (r.own.lt j hj).2 fun e' => h.outer _ (by omega) j hj e'.symm, r.blk, Nat.le_trans r.hi_le hg.size⟩
  · rw [List.length_reverse] at g1 g2
    simp only [List.getElem_reverse] at hb hb2
    exact h.apart (vs.length - 1 - i) (vs.length - 1 - j) (by omega) (by omega) (by omega) b hb hb2
  · rw [List.length_reverse] at g1
    simp only [List.getElem_reverse] at hb
    exact h.outer (vs.length - 1 - i) (by omega) b hb
/-- The headers of a list of lists, as cells behind its address. -/
theorem rowG_cells {w : World} {lo hi n c : Nat} {ad : Addr} {vs : List Value} {xss : List (List Value)} (h : RowsG w lo hi (.slice (some ad) n c) vs xss) : ∀ j u, vs[j]? = some u → w.cell? (ad.add j) = some u := by
  intro j u hj
  have hj' : j < vs.length := (List.getElem?_eq_some_iff.1 hj).1
  obtain ⟨hx, hv | ⟨g', cap', cur, hv, h1, h2, h3, h4, h5, h6⟩⟩ := h.own
  · cases hv.1
  · have ho := h.own
    injection hv with hv hv2 hv3
    injection hv with hv
    subst hv hv2 hv3
    have e : (⟨g', 0, none⟩ : Addr).add j = ⟨g', j, none⟩ := by
      unfold Addr.add
      split
      · next h => subst h; rfl
      · simp
    rw [e, ho.cellAt j (by omega), hj]
/-- Each header is one cell. -/
theorem rowG_one {w : World} {lo hi : Nat} {v : Value} {vs : List Value} {xss : List (List Value)} (h : RowsG w lo hi v vs xss) : ∀ u ∈ vs, u.oneCell' = true := by
  intro u hu
  obtain ⟨i, hi', rfl⟩ := List.getElem_of_mem hu
  have r := h.inn i hi' (by rw [← h.len]; exact hi')
  obtain ⟨p, c, e, -⟩ := SlV.of_owns r.own
  rw [e]; rfl

/-- A call made a list of semigroups, and says whether it is one. -/
def SsbPost (LL : List (List Int)) (b : Bool) (w : World) (e : Ending) (w' : World) : Prop :=
  ∃ v vs, e = .returned (.tuple #[v, .bool b]) ∧ RowsG w' w.heap.size w'.heap.size v vs (LL.map fun L => L.map (Value.int .i64)) ∧ Below w.heap.size w w'
theorem SsbPost.opened {LL : List (List Int)} {b : Bool} {w w' : World} {e : Ending} (h : SsbPost LL b w e w') :
    ∃ a c vs, e = .returned (.tuple #[.slice a LL.length c, .bool b]) ∧ vs.length ≤ LL.length ∧ RowsG w' w.heap.size w'.heap.size (.slice a LL.length c) vs (LL.map fun L => L.map (Value.int .i64)) ∧ Below w.heap.size w w' := by
  obtain ⟨v, vs, rfl, hr, hb⟩ := h
  obtain ⟨a, c, rfl⟩ := rowsG_open hr
  have hn : vs.length = LL.length := by rw [hr.len, List.length_map]
  rw [hn] at hr ⊢
  exact ⟨a, c, vs, rfl, Nat.le_of_eq hn, hr, hb⟩

set_option maxRecDepth 100000 in
set_option maxHeartbeats 800000 in
theorem ce_SemigroupS (LL : List (List Int)) (a b : Option Addr) (ca cb : Nat) (w : World) (ha : Sl2 w a LL) (hb : Sl2 w b LL) (hl : LL.length ≤ 4611686018427387904) (hi : ∀ L ∈ LL, L.length ≤ 1048576) :
    Calls Try.prog 9 #[.slice a LL.length ca, .slice b LL.length cb] w fun e w' => e = .returned (.bool true) ∧ Below w.heap.size w w' := by
  have HI := Lib.hid hi
  clear hi
  go_enter Try.func9, Try.ntmps9
  go_wp2_with fail
  go_loopw [5] (fun i wr => ∃ k : Nat, k ≤ LL.length ∧ i = .int .i64 (k : Int) ∧ Below w.heap.size w wr) (fun i _ => LL.length - (intOf i).toNat)
  case atStart => exact ⟨0, Nat.zero_le _, rfl, Below.refl _ _⟩
  case round =>
    obtain ⟨k, hk, rfl, hbel⟩ := hrel
    by_cases hlt : k < LL.length
    · have hlti : (k : Int) < (LL.length : Int) := by omega
      have hk0 : (0 : Int) ≤ (k : Int) := by omega
      obtain ⟨ba, oa, pa, ca2, rfl, hl1, hc1, hs1⟩ := (ha.below hbel).at hlt
      obtain ⟨bb, ob, pb, cb2, rfl, hl2, hc2, hs2⟩ := (hb.below hbel).at hlt
      have hn := HI.out LL[k] (List.getElem_mem hlt)
      have c3 : ∀ w', Below wr.heap.size wr w' → Calls Try.prog 8 #[.agg #[.slice pa LL[k].length ca2], .agg #[.slice pb LL[k].length cb2]] w' fun e w2 => e = .returned (.bool true) ∧ Below w'.heap.size w' w2 := fun w' h => by
        have := ce_Semigroup LL[k] LL[k] pa pb ca2 cb2 w' (hs1.below h) (hs2.below h) (by omega) (by omega)
        rw [decide_eq_true (rfl : LL[k] = LL[k])] at this
        exact this
      clear hs1 hs2
      generalize LL[k].length = n at *
      have hS0 : wr.drew.cell? ⟨ba, oa + k, none⟩ = some (.slice pa n ca2) ∧ wr.drew.cell? ⟨bb, ob + k, none⟩ = some (.slice pb n cb2) ∧ Below wr.heap.size wr wr.drew := ⟨hc1, hc2, (Below.refl _ _).drew⟩
      go_wp2_with fail
      refine wp_region_held_drew (S := fun w' => w'.cell? ⟨ba, oa + k, none⟩ = some (.slice pa n ca2) ∧ w'.cell? ⟨bb, ob + k, none⟩ = some (.slice pb n cb2) ∧ Below wr.heap.size wr w') (by kernel_rfl) hS0 (fun hHeld => ?_)
      refine held_take 0 _ _ rfl (by kernel_rfl) (by kernel_rfl) (by kernel_rfl) (fun _ _ _ h => h) (by rfl) hHeld (fun w hSw => by (try dsimp only at hSw); go_simp; try with_reducible rfl) ?_
      (try simp only [Act.put, List.setIfInBounds_toArray, List.set_cons_zero, List.set_cons_succ, List.getElem_toArray, List.getElem_cons_zero])
      refine held_take 1 _ _ rfl (by kernel_rfl) (by kernel_rfl) (by kernel_rfl) (fun _ _ _ h => h) (by rfl) hHeld (fun w hSw => by (try dsimp only at hSw); go_simp; try with_reducible rfl) ?_
      (try simp only [Act.put, List.setIfInBounds_toArray, List.set_cons_zero, List.set_cons_succ, List.getElem_toArray, List.getElem_cons_succ, List.getElem_cons_zero])
      refine held_take 2 _ _ rfl (by kernel_rfl) (by kernel_rfl) (by kernel_rfl) (fun _ _ _ h => h) (by rfl) hHeld (fun w hSw => by (try dsimp only at hSw); go_simp; try with_reducible rfl) ?_
      (try simp only [Act.put, List.setIfInBounds_toArray, List.set_cons_zero, List.set_cons_succ, List.getElem_toArray, List.getElem_cons_succ, List.getElem_cons_zero])
      refine held_take 3 _ _ rfl (by kernel_rfl) (by kernel_rfl) (by kernel_rfl) (fun _ _ _ h => h) (by rfl) hHeld (fun w hSw => by (try dsimp only at hSw); go_simp; try with_reducible rfl) ?_
      (try simp only [Act.put, List.setIfInBounds_toArray, List.set_cons_zero, List.set_cons_succ, List.getElem_toArray, List.getElem_cons_succ, List.getElem_cons_zero])
      refine held_take 4 _ _ rfl (by kernel_rfl) (by kernel_rfl) (by kernel_rfl) (fun _ _ _ h => h) (by rfl) hHeld (fun w hSw => by (try dsimp only at hSw); go_simp; try with_reducible rfl) ?_
      (try simp only [Act.put, List.setIfInBounds_toArray, List.set_cons_zero, List.set_cons_succ, List.getElem_toArray, List.getElem_cons_succ, List.getElem_cons_zero])
      refine held_take 5 _ _ rfl (by kernel_rfl) (by kernel_rfl) (by kernel_rfl) (fun _ _ _ h => h) (by rfl) hHeld (fun w hSw => by (try dsimp only at hSw); go_simp; try with_reducible rfl) ?_
      (try simp only [Act.put, List.setIfInBounds_toArray, List.set_cons_zero, List.set_cons_succ, List.getElem_toArray, List.getElem_cons_succ, List.getElem_cons_zero])
      refine held_take 6 _ _ rfl (by kernel_rfl) (by kernel_rfl) (by kernel_rfl) (fun _ _ _ h => h) (by rfl) hHeld (fun w hSw => by (try dsimp only at hSw); go_simp; try with_reducible rfl) ?_
      (try simp only [Act.put, List.setIfInBounds_toArray, List.set_cons_zero, List.set_cons_succ, List.getElem_toArray, List.getElem_cons_succ, List.getElem_cons_zero])
      refine held_take 7 _ _ rfl (by kernel_rfl) (by kernel_rfl) (by kernel_rfl) (fun _ _ _ h => h) (by rfl) hHeld (fun w hSw => by (try dsimp only at hSw); go_simp; try with_reducible rfl) ?_
      (try simp only [Act.put, List.setIfInBounds_toArray, List.set_cons_zero, List.set_cons_succ, List.getElem_toArray, List.getElem_cons_succ, List.getElem_cons_zero])
      refine wpAnyH_ready (rs := [8]) (by kernel_rfl) (by simp) ?_
      refine AllReadyH.cons rfl (fun K hK => ?_) AllReadyH.nil
      rw [if_pos (by rfl)]
      go_wp2_with (first | (go_at_call 8; (with_reducible refine (c3 _ hHeld.2.2).mono ?_); rintro e w2 ⟨rfl, hbk⟩))
      refine hK.out _ _ (keep2b hl1 hl2 hHeld hbk) (fun hHeld1 => ?_)
      clear hK K
      (try simp only [Act.put, List.setIfInBounds_toArray, List.set_cons_zero, List.set_cons_succ, List.getElem_toArray, List.getElem_cons_succ, List.getElem_cons_zero])
      refine held_take 9 _ _ rfl (by kernel_rfl) (by kernel_rfl) (by kernel_rfl) (fun _ _ _ h => h) (by rfl) hHeld1 (fun w hSw => by (try dsimp only at hSw); go_simp; try with_reducible rfl) ?_
      (try simp only [Act.put, List.setIfInBounds_toArray, List.set_cons_zero, List.set_cons_succ, List.getElem_toArray, List.getElem_cons_succ, List.getElem_cons_zero])
      refine wpAnyH_done (by kernel_rfl) ?_ _
      have hb3 := hbel.trans ((hHeld1.2.2).mono hbel.size)
      clear hS0 hHeld1 c3 hc1 hc2
      go_wp2_with fail
      go_roundw
      case rel => exact ⟨k + 1, by omega, by go_num, hb3⟩
      case measure => simp [intOf]; omega
    · obtain rfl : k = LL.length := by omega
      go_wp2_with fail
      go_ret
      exact ⟨rfl, hbel⟩

set_option maxRecDepth 100000 in
set_option maxHeartbeats 1600000 in
theorem cm_SemigroupS (k0 : Int) (lo hi : Nat) (a : Option Addr) (c : Nat) (vs : List Value) (xss : List (List Value)) (w : World) (h : RowsG w lo hi (.slice a vs.length c) vs xss) (h0 : 0 ≤ k0) (hsum : k0 + ((xss.map List.length).sum : Int) ≤ 1152921504606846976) (hl : vs.length ≤ 4611686018427387904) :
    Calls Try.prog 10 #[.slice a vs.length c, .int .i64 k0] w fun e w' => e = .returned (.int .i64 (k0 + ((xss.map List.length).sum : Int))) ∧ RowsG w' lo hi (.slice a vs.length c) vs (marksSS k0 (xss.map List.length)) ∧ Apart lo hi w w' := by
  obtain ⟨ns, hns⟩ : ∃ ns, ns = xss.map List.length := ⟨_, rfl⟩
  have hlen1 : vs.length ≤ xss.length := Nat.le_of_eq h.len
  have hlen2 : xss.length ≤ vs.length := Nat.le_of_eq h.len.symm
  have hnl1 : ns.length ≤ xss.length := by rw [hns, List.length_map]; exact Nat.le_refl _
  have hnl2 : xss.length ≤ ns.length := by rw [hns, List.length_map]; exact Nat.le_refl _
  have HST := Lib.hid (fun (i : Nat) (h : i < xss.length) => mixSS_set k0 xss h)
  have HAT := Lib.hid (fun (i : Nat) (h : i < xss.length) => mixSS_at k0 xss h)
  have HSM := Lib.hid (fun (i : Nat) (h : i < ns.length) => sum_take_succ ns h)
  have HSL := Lib.hid (sum_take_le ns)
  have HNA : Hid (∀ i (h : i < xss.length), ns[i]'(by omega) = xss[i].length) := Lib.hid fun i h => by subst hns; rw [List.getElem_map]
  have HZ : Hid (mixSS k0 xss xss.length = marksSS k0 ns) := Lib.hid (by rw [hns]; exact mixSS_all _ _)
  rw [← hns] at hsum ⊢
  rw [← hns] at HST
  have hM := h
  rw [← mixSS_zero k0 xss] at hM
  clear h
  replace hns := Lib.hid hns
  go_enter Try.func10, Try.ntmps10
  go_wp2_with fail
  go_loopw [1, 5] (fun k i wr => ∃ j : Nat, j ≤ xss.length ∧ i = .int .i64 (j : Int) ∧ k = .int .i64 (k0 + ((ns.take j).sum : Int)) ∧ RowsG wr lo hi (.slice a vs.length c) vs (mixSS k0 xss j) ∧ Apart lo hi w wr) (fun _ i _ => xss.length - (intOf i).toNat)
  case atStart => exact ⟨0, Nat.zero_le _, rfl, by simp, hM, Apart.refl _ _ _⟩
  case round =>
    clear hM
    obtain ⟨j, hj, rfl, rfl, hM, hA⟩ := hrel
    by_cases hlt : j < xss.length
    · have hlti : (j : Int) < (vs.length : Int) := by omega
      have hj0 : (0 : Int) ≤ (j : Int) := by omega
      have hjv : j < vs.length := by omega
      obtain ⟨a', c', e, -, -, hs, -⟩ := SlV.of_owns hM.own
      cases e
      obtain ⟨b, off, rfl, hbs, hc⟩ := hs.open (by intro h; rw [h] at hjv; simp at hjv)
      have hcell : wr.cell? ⟨b, off + j, none⟩ = some vs[j] := hc j _ (List.getElem?_eq_getElem hjv)
      have r := hM.inn j hjv (by rw [mixSS_length]; exact hlt)
      have hat := HAT.out j hlt
      rw [hat] at r
      have hn := HNA.out j hlt
      have hsl := HSL.out (j + 1)
      have hsm := HSM.out j (by omega)
      rw [hn] at hsm
      have c1 := cm_IntS (k0 + ((ns.take j).sum : Int)) lo xss[j].length vs[j] xss[j] wr r.own (by omega) (by omega) (by omega)
      have HRM : Hid (∀ w', w'.ownsRow lo 3 1 vs[j] xss[j].length (marksK (k0 + ((ns.take j).sum : Int)) xss[j].length) → wr.grownBy w' vs[j].ownBlock → RowsG w' lo hi (.slice (some ⟨b, off, none⟩) vs.length c) vs (mixSS k0 xss (j + 1)) ∧ Apart lo hi wr w') := Lib.hid fun w' ho hg => by
        refine ⟨?_, Apart.of_grown hg fun q hq => ⟨(r.own.lt q hq).1, r.blk q hq⟩⟩
        rw [← HST.out j hlt]
        exact hM.remade hjv (by rw [marksK_length]; exact ho) hg
      have HS2 : Hid (k0 + ((ns.take j).sum : Int) + (xss[j].length : Int) = k0 + ((ns.take (j + 1)).sum : Int)) := Lib.hid (by omega)
      clear hM r hat hn hsl hsm hc hs
      generalize xss[j].length = n at *
      generalize vs[j] = u at *
      generalize ((ns.take j).sum : Int) = q at *
      go_wp2_with fail
      refine c1.mono ?_
      rintro e w2 ⟨rfl, ho2, hg2⟩
      obtain ⟨hM2, hA2⟩ := HRM.out w2 ho2 hg2
      have hA3 := hA.trans hA2
      clear c1 ho2 hg2 hA2 hcell HRM hA
      go_wp2_with fail
      go_roundw
      case rel => exact ⟨j + 1, by omega, by go_num, by rw [← HS2.out], hM2, hA3⟩
      case measure => simp [intOf]; omega
    · have hje : j = xss.length := by omega
      have hjv : ¬ (j : Int) < (vs.length : Int) := by omega
      have HT : Hid ((ns.take j).sum = ns.sum) := Lib.hid (by rw [List.take_of_length_le (by omega)])
      rw [hje, HZ.out] at hM
      clear hje
      go_wp2_with fail
      go_ret
      exact ⟨by rw [← HT.out]; rfl, hM, hA⟩

theorem RowsG.sl2n {w : World} {lo hi : Nat} {a : Option Addr} {n c : Nat} {vs : List Value} {LL : List (List Int)} (h : RowsG w lo hi (.slice a n c) vs (LL.map fun L => L.map (Value.int .i64))) : Sl2 w a LL := h.sl2
theorem RowsG.num {w : World} {lo hi : Nat} {a : Option Addr} {n c : Nat} {vs : List Value} {xss : List (List Value)} (h : RowsG w lo hi (.slice a n c) vs xss) : vs.length = n := by
  obtain ⟨a', c', e, -⟩ := SlV.of_owns h.own
  injection e with h1 h2 h3
  exact h2.symm
theorem cmr_SemigroupS (k0 : Int) (lo hi : Nat) (a : Option Addr) (n c : Nat) (vs : List Value) (xss : List (List Value)) (w : World) (h : RowsG w lo hi (.slice a n c) vs xss) (h0 : 0 ≤ k0) (hsum : k0 + ((xss.map List.length).sum : Int) ≤ 1152921504606846976) (hl : n ≤ 4611686018427387904) :
    Calls Try.prog 10 #[.slice a n c, .int .i64 k0] w fun e w' => e = .returned (.int .i64 (k0 + ((xss.map List.length).sum : Int))) ∧ RowsG w' lo hi (.slice a n c) vs (marksSS k0 (xss.map List.length)) ∧ Apart lo hi w w' := by
  obtain rfl := h.num
  exact cm_SemigroupS k0 lo hi a c vs xss w h h0 hsum hl
end Go.Proofs.Ytfbfkaphcmngkaa
