/-
  LISTS OF LISTS OF INTS IN MEMORY OF THE CALL's OWN: the headers lie in one row, each list in a block of its own; what the laws' helpers do with them. (Own work.)
-/
import Derived.Test.YthalbmlgkkgheaaDoorKitA
import Derived.Test.YthalbmlgkkgheaaDoorCh3L
namespace Go.Proofs.YthalbmlgkkgheaaDoor
open Go Go.RowKit

/-- A list of lists as it is read. -/
def Sl2 (w : World) (a : Option Addr) (LL : List (List Int)) : Prop :=
  ∃ vs : List Value, SlV w a vs ∧ vs.length = LL.length ∧ ∀ i (h : i < vs.length) (h' : i < LL.length), ∃ p c, vs[i] = .slice p LL[i].length c ∧ SlV w p (LL[i].map (Value.int .i64))
theorem Sl2.below {w w' : World} {a : Option Addr} {LL : List (List Int)} (h : Sl2 w a LL) (hb : Below w.heap.size w w') : Sl2 w' a LL := by
  obtain ⟨vs, h1, h2, h3⟩ := h
  exact ⟨vs, h1.below hb, h2, fun i hi hi' => by obtain ⟨p, c, e, hs⟩ := h3 i hi hi'; exact ⟨p, c, e, hs.below hb⟩⟩
theorem Sl2.at {w : World} {a : Option Addr} {LL : List (List Int)} (h : Sl2 w a LL) {k : Nat} (hk : k < LL.length) :
    ∃ b o p c, a = some ⟨b, o, none⟩ ∧ b < w.heap.size ∧ w.cell? ⟨b, o + k, none⟩ = some (.slice p LL[k].length c) ∧ SlV w p (LL[k].map (Value.int .i64)) := by
  obtain ⟨vs, h1, h2, h3⟩ := h
  have hk' : k < vs.length := by omega
  obtain ⟨p, c, e, hs⟩ := h3 k hk' hk
  rcases h1 with h1 | ⟨b, off, rfl, hlt, hc⟩
  · subst h1; simp at hk'
  · exact ⟨b, off, p, c, rfl, hlt, hc k _ (by rw [List.getElem?_eq_getElem hk', e]), hs⟩

/-- What lies from lo on and below hi may have turned; nothing else. -/
structure Apart (lo hi : Nat) (w w' : World) : Prop where
  os : w'.os = w.os
  tape : w'.tape = w.tape
  output : w'.output = w.output
  size : w.heap.size ≤ w'.heap.size
  block : ∀ k, k < w.heap.size → k < lo ∨ hi ≤ k → w'.heap[k]? = w.heap[k]?
theorem Apart.refl (lo hi : Nat) (w : World) : Apart lo hi w w := ⟨rfl, rfl, rfl, Nat.le_refl _, fun _ _ _ => rfl⟩
theorem Apart.trans {lo hi : Nat} {a b c : World} (h : Apart lo hi a b) (k : Apart lo hi b c) : Apart lo hi a c :=
  ⟨k.os.trans h.os, k.tape.trans h.tape, k.output.trans h.output, Nat.le_trans h.size k.size, fun j h1 h2 => (k.block j (Nat.lt_of_lt_of_le h1 h.size) h2).trans (h.block j h1 h2)⟩
theorem Apart.of_grown {lo hi : Nat} {w w' : World} {row : Option Nat} (hg : w.grownBy w' row) (hr : ∀ j, row = some j → lo ≤ j ∧ j < hi) : Apart lo hi w w' :=
  ⟨hg.os, hg.tape, hg.output, hg.size, fun k h1 h2 => hg.block k h1 fun e => by have := hr k e.symm; omega⟩
theorem Apart.below {lo hi n : Nat} {w0 w w' : World} (h : Apart lo hi w w') (hB : Below n w0 w) (hn : n ≤ w.heap.size) (hl : n ≤ lo) : Below n w0 w' :=
  ⟨h.os.trans hB.os, h.tape.trans hB.tape, h.output.trans hB.output, Nat.le_trans hB.size h.size, fun k hk => (h.block k (by omega) (.inl (by omega))).trans (hB.block k hk)⟩
theorem Row.apart {lo hi l h' : Nat} {w w' : World} {v : Value} {n : Nat} {xs : List Value} (h : Row w l h' v n xs) (hg : Apart lo hi w w') (hd : h' ≤ lo ∨ hi ≤ l) : Row w' l h' v n xs :=
  ⟨row_kept h.own fun j hj => hg.block j (h.own.lt j hj).2 (by have h1 := h.blk j hj; have h2 := (h.own.lt j hj).1; omega), h.blk, Nat.le_trans h.hi_le hg.size⟩
theorem Arr.apart {lo hi g : Nat} {w w' : World} {t : TypeId} {cs : List Value} (h : Arr w g t cs) (hg : Apart lo hi w w') (hd : g < lo ∨ hi ≤ g) : Arr w' g t cs := (hg.block g h.lt hd).trans h

/-- A list of lists in memory of the call's own. -/
structure Rows2 (w : World) (lo hi : Nat) (v : Value) (vs : List Value) (xss : List (List Value)) : Prop where
  own : w.ownsRow lo 24 1 v vs.length vs
  len : vs.length = xss.length
  inn : ∀ i (h : i < vs.length) (h' : i < xss.length), Row w lo hi vs[i] xss[i].length xss[i]
  blk : ∀ j, v.ownBlock = some j → j < hi
  hi_le : hi ≤ w.heap.size
  apart : ∀ i j (hi : i < vs.length) (hj : j < vs.length), i ≠ j → ∀ b, vs[i].ownBlock = some b → vs[j].ownBlock ≠ some b
  outer : ∀ i (h : i < vs.length), ∀ b, vs[i].ownBlock = some b → v.ownBlock ≠ some b
theorem Rows2.keep {w w' : World} {lo hi : Nat} {v : Value} {vs : List Value} {xss : List (List Value)} (h : Rows2 w lo hi v vs xss) (hs : w.heap.size ≤ w'.heap.size) (hb : ∀ j, lo ≤ j → j < hi → w'.heap[j]? = w.heap[j]?) : Rows2 w' lo hi v vs xss :=
  ⟨row_kept h.own fun j hj => hb j (h.own.lt j hj).1 (h.blk j hj), h.len, fun i h1 h2 => by
    have r := h.inn i h1 h2
    exact ⟨row_kept r.own fun j hj => hb j (r.own.lt j hj).1 (r.blk j hj), r.blk, Nat.le_trans r.hi_le hs⟩, h.blk, Nat.le_trans h.hi_le hs, h.apart, h.outer⟩
theorem Rows2.below {w w' : World} {lo hi : Nat} {v : Value} {vs : List Value} {xss : List (List Value)} (h : Rows2 w lo hi v vs xss) (hb : Below w.heap.size w w') : Rows2 w' lo hi v vs xss :=
  h.keep hb.size fun j _ hj => hb.block j (Nat.lt_of_lt_of_le hj h.hi_le)
theorem Rows2.grown {w w' : World} {lo hi : Nat} {v : Value} {vs : List Value} {xss : List (List Value)} {row : Option Nat} (h : Rows2 w lo hi v vs xss) (hg : w.grownBy w' row) (hd : ∀ j, row = some j → j < lo ∨ hi ≤ j) : Rows2 w' lo hi v vs xss :=
  h.keep hg.size fun j h1 h2 => hg.block j (Nat.lt_of_lt_of_le h2 h.hi_le) fun e => by have := hd j e.symm; omega
theorem Rows2.far {lo hi l h' : Nat} {w w' : World} {v : Value} {vs : List Value} {xss : List (List Value)} (h : Rows2 w l h' v vs xss) (hg : Apart lo hi w w') (hd : h' ≤ lo ∨ hi ≤ l) : Rows2 w' l h' v vs xss :=
  h.keep hg.size fun j h1 h2 => hg.block j (Nat.lt_of_lt_of_le h2 h.hi_le) (by omega)
theorem Rows2.wider {w : World} {lo lo' hi hi' : Nat} {v : Value} {vs : List Value} {xss : List (List Value)} (h : Rows2 w lo hi v vs xss) (hl : lo' ≤ lo) (hh : hi ≤ hi') (hs : hi' ≤ w.heap.size) : Rows2 w lo' hi' v vs xss :=
  ⟨ownsBase h.own hl, h.len, fun i h1 h2 => by have r := h.inn i h1 h2; exact ⟨ownsBase r.own hl, fun j hj => Nat.lt_of_lt_of_le (r.blk j hj) hh, hs⟩, fun j hj => Nat.lt_of_lt_of_le (h.blk j hj) hh, hs, h.apart, h.outer⟩
theorem Rows2.nil (w : World) (lo hi : Nat) (hh : hi ≤ w.heap.size) : Rows2 w lo hi (.slice none 0 0) [] [] :=
  ⟨World.ownsRow_nil _ _ _ _, rfl, fun i h => absurd h (by simp), fun j hj => by simp [Value.ownBlock] at hj, hh, fun i j h => absurd h (by simp), fun i h => absurd h (by simp)⟩
theorem rows2_open {w : World} {lo hi : Nat} {v : Value} {vs : List Value} {xss : List (List Value)} (h : Rows2 w lo hi v vs xss) : ∃ a c, v = .slice a vs.length c := by
  obtain ⟨a, c, e, -⟩ := SlV.of_owns h.own
  exact ⟨a, c, e⟩
theorem Rows2.sl2 {w : World} {lo hi : Nat} {a : Option Addr} {n c : Nat} {vs : List Value} {LL : List (List Int)} (h : Rows2 w lo hi (.slice a n c) vs (LL.map fun L => L.map (Value.int .i64))) : Sl2 w a LL := by
  obtain ⟨a', c', e, -, -, hs, -⟩ := SlV.of_owns h.own
  cases e
  refine ⟨vs, hs, by rw [h.len, List.length_map], fun i hi hi' => ?_⟩
  have r := h.inn i hi (by rw [List.length_map]; exact hi')
  rw [List.getElem_map] at r
  obtain ⟨p, c2, e2, h2, -, hs2, -⟩ := SlV.of_owns r.own
  rw [List.length_map] at e2
  exact ⟨p, c2, e2, hs2⟩
/-- One of the lists is written anew in its place. -/
theorem Rows2.remade {w w' : World} {lo hi : Nat} {v : Value} {vs : List Value} {xss : List (List Value)} (h : Rows2 w lo hi v vs xss) {i : Nat} (hi' : i < vs.length) {ys : List Value} (ho : w'.ownsRow lo 3 1 vs[i] ys.length ys) (hg : w.grownBy w' vs[i].ownBlock) :
    Rows2 w' lo hi v vs (xss.set i ys) := by
  refine ⟨row_kept h.own fun j hj => hg.block j (h.own.lt j hj).2 fun e => h.outer i hi' j e.symm hj, by rw [List.length_set]; exact h.len, fun k hk hk' => ?_, h.blk, Nat.le_trans h.hi_le hg.size, h.apart, h.outer⟩
  rw [List.length_set] at hk'
  have r := h.inn k hk hk'
  by_cases e : i = k
  · subst e
    simp only [List.getElem_set_self]
    exact ⟨ho, r.blk, Nat.le_trans r.hi_le hg.size⟩
  · simp only [List.getElem_set_ne e]
    exact ⟨row_kept r.own fun j hj => hg.block j (r.own.lt j hj).2 fun e' => h.apart i k hi' hk e j e'.symm hj, r.blk, Nat.le_trans r.hi_le hg.size⟩
/-- A list more: its header goes behind the others. -/
theorem Rows2.snoc {w w' : World} {lo hi : Nat} {v v' u : Value} {vs : List Value} {xss : List (List Value)} {ys : List Value} (h : Rows2 w lo hi v vs xss) (ho : w'.ownsRow lo 24 1 v' (vs.length + 1) (vs ++ [u])) (hg : w.grownBy w' v.ownBlock)
    (hu : w.ownsRow hi 3 1 u ys.length ys) (hlo : lo ≤ hi) (hv' : ∀ b, v'.ownBlock = some b → v.ownBlock = some b ∨ w.heap.size ≤ b) : Rows2 w' lo w'.heap.size v' (vs ++ [u]) (xss ++ [ys]) := by
  have hub : ∀ b, u.ownBlock = some b → hi ≤ b ∧ b < w.heap.size := fun b hb => hu.lt b hb
  have hvb : ∀ b, v.ownBlock = some b → b < hi := h.blk
  have hin : ∀ i (hi' : i < vs.length) b, vs[i].ownBlock = some b → lo ≤ b ∧ b < hi := fun i hi' b hb => by
    have r := h.inn i hi' (by rw [← h.len]; exact hi')
    exact ⟨(r.own.lt b hb).1, r.blk b hb⟩
  have hou : ∀ i (hi' : i < (vs ++ [u]).length) b, (vs ++ [u])[i].ownBlock = some b → b < w.heap.size ∧ v.ownBlock ≠ some b := fun i hi' b hb => by
    by_cases e : i < vs.length
    · rw [List.getElem_append_left e] at hb
      exact ⟨Nat.lt_of_lt_of_le (hin i e b hb).2 h.hi_le, h.outer i e b hb⟩
    · have e2 : i = vs.length := by simp at hi'; omega
      subst e2
      rw [List.getElem_append_right (Nat.le_refl _)] at hb
      simp only [Nat.sub_self, List.getElem_cons_zero] at hb
      exact ⟨(hub b hb).2, fun hq => by have := hvb b hq; have := (hub b hb).1; omega⟩
  refine ⟨by rw [List.length_append, List.length_singleton]; exact ho, by simp [h.len], fun i h1 h2 => ?_, fun j hj => (ho.lt j hj).2, Nat.le_refl _, fun i j hi' hj hne b hb hb2 => ?_, fun i hi' b hb hb2 => ?_⟩
  · by_cases e : i < vs.length
    · have r := h.inn i e (by rw [← h.len]; exact e)
      simp only [List.getElem_append_left e, List.getElem_append_left (show i < xss.length by rw [← h.len]; exact e)]
      exact ⟨row_kept r.own fun j hj => hg.block j (r.own.lt j hj).2 fun e' => h.outer i e j hj e'.symm, fun j hj => Nat.lt_of_lt_of_le (r.blk j hj) (Nat.le_trans h.hi_le hg.size), Nat.le_refl _⟩
    · have e2 : i = vs.length := by simp at h1; omega
      subst e2
      simp only [List.getElem_append_right (Nat.le_refl vs.length), Nat.sub_self, List.getElem_cons_zero]
      have e3 : (xss ++ [ys])[vs.length]'h2 = ys := by rw [List.getElem_append_right (by rw [h.len]; exact Nat.le_refl _)]; simp [h.len]
      rw [e3]
      refine ⟨ownsBase (row_kept hu fun j hj => hg.block j (hub j hj).2 fun e' => by have h1 := hvb j e'.symm; have h2 := (hub j hj).1; omega) hlo, fun j hj => Nat.lt_of_lt_of_le (hub j hj).2 hg.size, Nat.le_refl _⟩
  · by_cases e : i < vs.length
    · rw [List.getElem_append_left e] at hb
      by_cases e' : j < vs.length
      · rw [List.getElem_append_left e'] at hb2
        exact h.apart i j e e' hne b hb hb2
      · have e2 : j = vs.length := by simp at hj; omega
        subst e2
        rw [List.getElem_append_right (Nat.le_refl _)] at hb2
        simp only [Nat.sub_self, List.getElem_cons_zero] at hb2
        have := (hin i e b hb).2; have := (hub b hb2).1; omega
    · have e2 : i = vs.length := by simp at hi'; omega
      subst e2
      rw [List.getElem_append_right (Nat.le_refl _)] at hb
      simp only [Nat.sub_self, List.getElem_cons_zero] at hb
      have e' : j < vs.length := by simp at hj; omega
      rw [List.getElem_append_left e'] at hb2
      have := (hin j e' b hb2).2; have := (hub b hb).1; omega
  · obtain ⟨h1, h2⟩ := hou i hi' b hb
    rcases hv' b hb2 with h3 | h3
    · exact h2 h3
    · omega

/-- A call made a list of lists. -/
def SsPost (LL : List (List Int)) (w : World) (e : Ending) (w' : World) : Prop :=
  ∃ v vs, e = .returned v ∧ Rows2 w' w.heap.size w'.heap.size v vs (LL.map fun L => L.map (Value.int .i64)) ∧ Below w.heap.size w w'
theorem keep2b {W wr w1 : World} {b1 b2 o1 o2 : Nat} {v1 v2 : Value} (h1 : b1 < W.heap.size) (h2 : b2 < W.heap.size)
    (h : wr.cell? ⟨b1, o1, none⟩ = some v1 ∧ wr.cell? ⟨b2, o2, none⟩ = some v2 ∧ Below W.heap.size W wr) (hb : Below wr.heap.size wr w1) : w1.cell? ⟨b1, o1, none⟩ = some v1 ∧ w1.cell? ⟨b2, o2, none⟩ = some v2 ∧ Below W.heap.size W w1 := by
  obtain ⟨e1, e2, hB⟩ := h
  have hs := hB.size
  exact ⟨(hb.cell (p := ⟨b1, o1, none⟩) (Nat.lt_of_lt_of_le h1 hs)).trans e1, (hb.cell (p := ⟨b2, o2, none⟩) (Nat.lt_of_lt_of_le h2 hs)).trans e2, hB.trans (hb.mono hs)⟩

/-! ### Marks over lists of lists -/
def marksSS : Int → List Nat → List (List Value)
  | _, [] => []
  | k, n :: r => marksK k n :: marksSS (k + (n : Int)) r
def sumSz (ns : List Nat) : Nat := ns.sum
theorem marksSS_length (k : Int) (ns : List Nat) : (marksSS k ns).length = ns.length := by
  induction ns generalizing k with
  | nil => rfl
  | cons n r ih => simp [marksSS, ih]
theorem marksSS_at (k : Int) (ns : List Nat) (i : Nat) (h : i < ns.length) : (marksSS k ns)[i]'(by rw [marksSS_length]; exact h) = marksK (k + ((ns.take i).sum : Int)) ns[i] := by
  induction ns generalizing k i with
  | nil => simp at h
  | cons n r ih =>
    cases i with
    | zero => simp [marksSS]
    | succ i =>
      simp only [marksSS, List.getElem_cons_succ, List.take_succ_cons, List.sum_cons]
      rw [ih _ _ (by simpa using h)]
      congr 1; omega
def mixSS (k : Int) (xss : List (List Value)) (i : Nat) : List (List Value) := (marksSS k (xss.map List.length)).take i ++ xss.drop i
theorem mixSS_zero (k : Int) (xss : List (List Value)) : mixSS k xss 0 = xss := by simp [mixSS]
theorem mixSS_all (k : Int) (xss : List (List Value)) : mixSS k xss xss.length = marksSS k (xss.map List.length) := by
  unfold mixSS
  rw [List.take_of_length_le (by rw [marksSS_length, List.length_map]; exact Nat.le_refl _), List.drop_length, List.append_nil]
theorem mixSS_length (k : Int) (xss : List (List Value)) (i : Nat) : (mixSS k xss i).length = xss.length := by simp [mixSS, marksSS_length]; omega
theorem mixSS_set (k : Int) (xss : List (List Value)) {i : Nat} (h : i < xss.length) : (mixSS k xss i).set i (marksK (k + (((xss.map List.length).take i).sum : Int)) xss[i].length) = mixSS k xss (i + 1) := by
  have hm := marksSS_at k (xss.map List.length) i (by rw [List.length_map]; exact h)
  rw [List.getElem_map] at hm
  unfold mixSS
  apply List.ext_getElem?
  intro j
  rw [List.getElem?_set]
  by_cases hj : i = j
  · subst hj
    rw [if_pos rfl, if_pos (by simp [marksSS_length]; omega), List.getElem?_append_left (by simp [marksSS_length]; omega), List.getElem?_take_of_lt (by omega), List.getElem?_eq_getElem (by rw [marksSS_length, List.length_map]; exact h), hm]
  · rw [if_neg hj]
    rcases Nat.lt_or_ge j i with h1 | h1
    · rw [List.getElem?_append_left (by simp [marksSS_length]; omega), List.getElem?_append_left (by simp [marksSS_length]; omega), List.getElem?_take_of_lt h1, List.getElem?_take_of_lt (by omega)]
    · rw [List.getElem?_append_right (by simp [marksSS_length]; omega), List.getElem?_append_right (by simp [marksSS_length]; omega), List.getElem?_drop, List.getElem?_drop]
      simp only [List.length_take, marksSS_length, List.length_map]
      congr 1; omega
theorem mixSS_at (k : Int) (xss : List (List Value)) {i : Nat} (h : i < xss.length) : (mixSS k xss i)[i]'(by rw [mixSS_length]; exact h) = xss[i] := by
  have : (mixSS k xss i)[i]? = some xss[i] := by
    unfold mixSS
    rw [List.getElem?_append_right (by simp [marksSS_length]; omega), List.getElem?_drop, List.getElem?_eq_getElem (by simp [marksSS_length]; omega)]
    congr 1
    simp [marksSS_length, Nat.min_eq_left (Nat.le_of_lt h)]
  rw [List.getElem?_eq_getElem (by rw [mixSS_length]; exact h)] at this
  exact Option.some.inj this
theorem sum_take_succ (ns : List Nat) {i : Nat} (h : i < ns.length) : (ns.take (i + 1)).sum = (ns.take i).sum + ns[i] := by
  rw [List.take_add_one, List.getElem?_eq_getElem h, Option.toList_some, List.sum_append]; simp
theorem sum_take_le (ns : List Nat) (i : Nat) : (ns.take i).sum ≤ ns.sum := by
  conv => rhs; rw [← List.take_append_drop i ns, List.sum_append]
  omega



end Go.Proofs.YthalbmlgkkgheaaDoor
