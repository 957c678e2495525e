/-
  A LIST OF SEMIGROUPS THAT CAME IN: how it is opened; szSemigroupS, toSemigroupS. (Own work; mkMs.py.)
-/
import Derived.Test.YtfbfkaphcmngkaaSgSs
import Derived.Deep.Slices
import Derived.WalkMore
import Derived.OwnWalk
namespace Go.Proofs.Ytfbfkaphcmngkaa
open Go Go.RowKit Go.ChangeShapes Go.WideShapes Go.ChangeAt
attribute [local go_sem] Oper.semAt_some

theorem addr_addM (b o j : Nat) : (⟨b, o, none⟩ : Addr).add j = ⟨b, o + j, none⟩ := by
  unfold Addr.add
  split
  · next h => subst h; rfl
  · rfl
set_option maxRecDepth 100000 in
theorem isRow_cellS {H : Type} {enc : TypeId × Value → H} {W : World} {c : Value} {n : Nat} {y0 : DataW H × List MemPlace} (h1 : DataW.trod enc Try.prog W 0 (fun _ => true) true n 24 [c] = some y0) : ∃ p len cap z, c = .slice p len cap ∧ IsRow .i64 W p len cap z := by
  have hu : Try.prog.underlying 24 = some (.slice 3) := Try.underlying24
  rcases open_ints hu Try.underlying3 (by kernel_rfl) h1 with ⟨hcs, _⟩ | ⟨p, l, cp, zs, hcs, _⟩
  · simp only [List.cons.injEq, and_true] at hcs
    subst hcs
    obtain ⟨zs, hz⟩ := isRow_open (a := none) (len := 0) (cap := 0) hu Try.underlying3 (by kernel_rfl) h1
    exact ⟨none, 0, 0, zs, rfl, hz⟩
  · simp only [List.cons.injEq, and_true] at hcs
    subst hcs
    obtain ⟨zs', hz⟩ := isRow_open (a := some p) (len := l) (cap := cp) hu Try.underlying3 (by kernel_rfl) h1
    exact ⟨some p, l, cp, zs', rfl, hz⟩
/-- A list of lists as a callee is told of it. -/
def Sl2W (w : World) (a : Option Addr) (LL : List (List Int)) : Prop :=
  ∃ vs : List Value, SlV w a vs ∧ vs.length = LL.length ∧ ∀ i (h : i < vs.length) (h' : i < LL.length), ∃ p c, vs[i] = .slice p LL[i].length c ∧ SlW w p c (LL[i].map (Value.int .i64))
theorem Sl2W.sl2 {w : World} {a : Option Addr} {LL : List (List Int)} (h : Sl2W w a LL) : Sl2 w a LL := by
  obtain ⟨vs, h1, h2, h3⟩ := h
  exact ⟨vs, h1, h2, fun i hi hi' => by obtain ⟨p, c, e, hs⟩ := h3 i hi hi'; exact ⟨p, c, e, hs.sl⟩⟩
theorem Sl2W.below {w w' : World} {a : Option Addr} {LL : List (List Int)} (h : Sl2W w a LL) (hb : Below w.heap.size w w') : Sl2W w' a LL := by
  obtain ⟨vs, h1, h2, h3⟩ := h
  exact ⟨vs, h1.below hb, h2, fun i hi hi' => by obtain ⟨p, c, e, hs⟩ := h3 i hi hi'; exact ⟨p, c, e, hs.below hb⟩⟩
theorem Sl2W.at {w : World} {a : Option Addr} {LL : List (List Int)} (h : Sl2W w a LL) {k : Nat} (hk : k < LL.length) :
    ∃ b o p c, a = some ⟨b, o, none⟩ ∧ b < w.heap.size ∧ w.cell? ⟨b, o + k, none⟩ = some (.slice p LL[k].length c) ∧ SlW w p c (LL[k].map (Value.int .i64)) := by
  obtain ⟨vs, h1, h2, h3⟩ := h
  have hk' : k < vs.length := by omega
  obtain ⟨p, c, e, hs⟩ := h3 k hk' hk
  rcases h1 with h1 | ⟨b, off, rfl, hlt, hc⟩
  · subst h1; simp at hk'
  · exact ⟨b, off, p, c, rfl, hlt, hc k _ (by rw [List.getElem?_eq_getElem hk', e]), hs⟩
theorem RowsG.sl2w {w : World} {lo hi : Nat} {a : Option Addr} {n c : Nat} {vs : List Value} {LL : List (List Int)} (h : RowsG w lo hi (.slice a n c) vs (LL.map fun L => L.map (Value.int .i64))) : Sl2W w a LL := by
  obtain ⟨a', c', e, -, -, hs, -⟩ := SlV.of_owns h.own
  cases e
  refine ⟨vs, hs, by rw [h.len, List.length_map], fun i hi hi' => ?_⟩
  have r := h.inn i hi (by rw [List.length_map]; exact hi')
  rw [List.getElem_map] at r
  obtain ⟨p, c2, e2, -⟩ := SlV.of_owns r.own
  rw [e2] at r
  rw [List.length_map] at e2 r
  exact ⟨p, c2, e2, r.slw⟩
/-- What a list of semigroups that came in is: as it is read, and within the model's sizes. -/
structure IsSems (W : World) (a : Option Addr) (n : Nat) (LL : List (List Int)) : Prop where
  sl : Sl2 W a LL
  num : LL.length = n
  mx : n ≤ maxLen
  wid : ∀ L ∈ LL, L.length ≤ maxLen
set_option maxRecDepth 100000 in
theorem isSems_open {H : Type} {enc : TypeId × Value → H} {W : World} {base : Nat} {v : Value} {x : DataW H × List MemPlace} (t : TypeId) (hv : Value.okWide Try.prog W .any base t v) (ht : Try.prog.underlying t = some (.slice 37))
    (h : ∃ fuel, DataW.trod enc Try.prog W 0 (fun _ => true) true fuel t v.cells.toList = some x) {f0 : Field} (hs : Try.prog.underlying 37 = some (.struct #[f0])) (hf : f0.type = 24) (ho : f0.offset = 0) :
    ∃ a n c LL, v = .slice a n c ∧ IsSems W a n LL := by
  obtain ⟨a, n, c, rfl⟩ := okWide_slice ht hv
  obtain ⟨fuel, h⟩ := h
  have hc : Try.prog.cellsOf 37 = 1 := by kernel_rfl
  have hc1 : Try.prog.cellsOf 24 = 1 := by kernel_rfl
  rcases Go.Deep.open_slice1 ht hc h with ⟨hcs, _⟩ | ⟨p, len, cap, m, q, V, D, Pl, hcs, -, hl, hm, hmm, -, hx⟩
  · simp [Value.cells] at hcs
    obtain ⟨rfl, rfl, rfl⟩ := hcs
    exact ⟨none, 0, 0, [], rfl, ⟨[], .inl rfl, rfl, fun i hi => absurd hi (by simp)⟩, rfl, Nat.zero_le _, fun L hL => absurd hL (by simp)⟩
  · simp [Value.cells] at hcs
    obtain ⟨rfl, rfl, rfl⟩ := hcs
    have hm' : m = c := by simpa using hmm
    subst hm'
    have one : ∀ i, i < m → ∃ p' l' c' z, V i = .slice p' l' c' ∧ IsRow .i64 W p' l' c' z := fun i hi => by
      obtain ⟨-, h2⟩ := hx i hi
      obtain ⟨y0, k, -, -, h0⟩ := trod_struct1 hs h2
      rw [hf, ho, hc1] at h0
      exact isRow_cellS h0
    have two : ∀ i, ∃ L : List Int, i < n → ∃ p' c', V i = .slice p' L.length c' ∧ L.length ≤ maxLen ∧ SlV W p' (L.map (Value.int .i64)) := fun i => by
      by_cases hi : i < n
      · obtain ⟨p', l', c', z, e, hr⟩ := one i (by omega)
        obtain ⟨h1, h2⟩ := SlV.of_row hr
        exact ⟨z.take l', fun _ => ⟨p', c', by rw [h2]; exact e, by rw [h2]; exact row_maxLen' hr, h1⟩⟩
      · exact ⟨[], fun h => absurd h hi⟩
    obtain ⟨f, hf'⟩ := Classical.axiomOfChoice two
    refine ⟨some p, n, m, (List.range n).map f, rfl, ?_, by simp, Nat.le_trans hl hm, fun L hL => ?_⟩
    · refine ⟨(List.range n).map V, ?_, by simp, fun i h1 h2 => ?_⟩
      · rcases Nat.eq_zero_or_pos n with h0 | h0
        · left; rw [h0]; rfl
        · right
          obtain ⟨b, off, spot⟩ := p
          have hc0 := (hx 0 (by omega)).1
          have hspot : spot = none := by simpa [Addr.add] using World.cell?_spot hc0
          subst hspot
          have hadd : ∀ i, (⟨b, off, none⟩ : Addr).add i = ⟨b, off + i, none⟩ := addr_addM b off
          refine ⟨b, off, rfl, lt_of_cell' (by rw [← hadd 0]; exact hc0), fun i u hi => ?_⟩
          have hin : i < n := by
            rcases Nat.lt_or_ge i n with h | h
            · exact h
            · rw [List.getElem?_eq_none (by simpa using h)] at hi; cases hi
          rw [List.getElem?_map, List.getElem?_range hin] at hi
          cases hi
          rw [← hadd i]
          exact (hx i (by omega)).1
      · have hin : i < n := by simpa using h1
        obtain ⟨p', c', e, -, hs'⟩ := hf' i hin
        refine ⟨p', c', ?_, ?_⟩
        · simp only [List.getElem_map, List.getElem_range]; exact e
        · simp only [List.getElem_map, List.getElem_range]; exact hs'
    · obtain ⟨i, hi, rfl⟩ := List.mem_map.1 hL
      obtain ⟨-, -, -, hw, -⟩ := hf' i (List.mem_range.1 hi)
      exact hw
/-- One of the headers is set anew, to a list of its own. -/
theorem RowsG.put {w w' : World} {lo hi k : Nat} {v u : Value} {vs : List Value} {xss : List (List Value)} {ys : List Value} (h : RowsG w lo hi v vs xss) (_ : k < vs.length) (ho : w'.ownsRow lo 26 1 v vs.length (vs.set k u)) (hg : w.grownBy w' v.ownBlock)
    (hu : w.ownsRow hi 3 1 u ys.length ys) (hlo : lo ≤ hi) : RowsG w' lo w'.heap.size v (vs.set k u) (xss.set k ys) := by
  have hub : ∀ b, u.ownBlock = some b → hi ≤ b ∧ b < w.heap.size := fun b hb => hu.lt b hb
  have hvb : ∀ b, v.ownBlock = some b → b < hi := h.blk
  have hin : ∀ i (hi' : i < vs.length) b, vs[i].ownBlock = some b → lo ≤ b ∧ b < hi := fun i hi' b hb => by
    have r := h.inn i hi' (by rw [← h.len]; exact hi')
    exact ⟨(r.own.lt b hb).1, r.blk b hb⟩
  refine ⟨by rw [List.length_set]; exact ho, by rw [List.length_set, List.length_set]; exact h.len, fun i h1 h2 => ?_, fun j hj => (ho.lt j hj).2, Nat.le_refl _, fun i j h1 h2 hne b hb hb2 => ?_, fun i h1 b hb hb2 => ?_⟩
  · rw [List.length_set] at h1 h2
    by_cases e : k = i
    · subst e
      simp only [List.getElem_set_self]
      exact ⟨ownsBase (row_kept hu fun j hj => hg.block j (hub j hj).2 fun e' => by have h3 := hvb j e'.symm; have h4 := (hub j hj).1; omega) hlo, fun j hj => Nat.lt_of_lt_of_le (hub j hj).2 hg.size, Nat.le_refl _⟩
    · simp only [List.getElem_set_ne e]
      have r := h.inn i h1 h2
      exact ⟨row_kept r.own fun j hj => hg.block j (r.own.lt j hj).2 fun e' => h.outer i h1 j hj e'.symm, fun j hj => Nat.lt_of_lt_of_le (r.own.lt j hj).2 hg.size, Nat.le_refl _⟩
  · rw [List.length_set] at h1 h2
    by_cases e : k = i
    · subst e
      simp only [List.getElem_set_self] at hb
      simp only [List.getElem_set_ne hne] at hb2
      have := (hin j h2 b hb2).2; have := (hub b hb).1; omega
    · simp only [List.getElem_set_ne e] at hb
      by_cases e2 : k = j
      · subst e2
        simp only [List.getElem_set_self] at hb2
        have := (hin i h1 b hb).2; have := (hub b hb2).1; omega
      · simp only [List.getElem_set_ne e2] at hb2
        exact h.apart i j h1 h2 hne b hb hb2
  · rw [List.length_set] at h1
    by_cases e : k = i
    · subst e
      simp only [List.getElem_set_self] at hb
      have := (hub b hb).1; have := hvb b hb2; omega
    · simp only [List.getElem_set_ne e] at hb
      exact h.outer i h1 b hb hb2
/-- What is left of a bound behind a list of lists. -/
def totS (LL : List (List Int)) : Nat := LL.length + (LL.map List.length).sum
def szS (left : Int) (LL : List (List Int)) : Int := if (totS LL : Int) ≤ left then left - (totS LL : Int) else -1
theorem szS_in {left : Int} {LL : List (List Int)} (h : (totS LL : Int) ≤ left) : szS left LL = left - (totS LL : Int) := by unfold szS; rw [if_pos h]
theorem szS_out {left : Int} {LL : List (List Int)} (h : left < (totS LL : Int)) : szS left LL = -1 := by unfold szS; rw [if_neg (by omega)]

set_option maxRecDepth 100000 in
set_option maxHeartbeats 1600000 in
theorem cz_SemigroupS (LL : List (List Int)) (a : Option Addr) (cap : Nat) (left : Int) (w : World) (hs : Sl2 w a LL) (hn : LL.length ≤ maxLen) (hw : ∀ L ∈ LL, L.length ≤ maxLen) (h0 : 0 ≤ left) (h1 : left ≤ 1048576) :
    Calls Try.prog 4 #[.slice a LL.length cap, .int .i64 left] w fun e w' => e = .returned (.int .i64 (szS left LL)) ∧ Below w.heap.size w w' := by
  have HW := Lib.hid hw
  clear hw
  unfold maxLen at hn
  obtain ⟨ns, hns⟩ : ∃ ns, ns = LL.map List.length := ⟨_, rfl⟩
  have hnl : ns.length = LL.length := by rw [hns, List.length_map]
  have HNA : Hid (∀ i (h : i < LL.length), ns[i]'(by omega) = LL[i].length) := Lib.hid fun i h => by subst hns; rw [List.getElem_map]
  have HSM := Lib.hid (fun (i : Nat) (h : i < ns.length) => sum_take_succ ns h)
  have HSL := Lib.hid (sum_take_le ns)
  have HT : Hid (totS LL = LL.length + ns.sum) := Lib.hid (by unfold totS; rw [hns])
  have HNL := Lib.hid hnl
  clear hns
  by_cases hn0 : left < (LL.length : Int)
  · have HR : Hid (szS left LL = -1) := Lib.hid (szS_out (by have := HT.out; omega))
    have hneg : left - (LL.length : Int) < 0 := by omega
    have hw1 : IntKind.i64.wrap (left - (LL.length : Int)) = left - (LL.length : Int) := IntWalk.i64_in _ (by omega)
    go_enter Try.func4, Try.ntmps4
    go_wp2_with fail
    go_ret
    exact ⟨by rw [HR.out]; rfl, Below.refl _ _⟩
  · have hneg : ¬ left - (LL.length : Int) < 0 := by omega
    have hd := decide_eq_false hneg
    have hw1 : IntKind.i64.wrap (left - (LL.length : Int)) = left - (LL.length : Int) := IntWalk.i64_in _ (by omega)
    go_enter Try.func4, Try.ntmps4
    go_wp2_with fail
    go_loopw [1, 5] (fun l i wr => ∃ k : Nat, k ≤ LL.length ∧ i = .int .i64 (k : Int) ∧ l = .int .i64 (left - (LL.length : Int) - ((ns.take k).sum : Int)) ∧ 0 ≤ left - (LL.length : Int) - ((ns.take k).sum : Int) ∧ Below w.heap.size w wr) (fun _ i _ => LL.length - (intOf i).toNat)
    case atStart => exact ⟨0, Nat.zero_le _, rfl, by simp, by simp; omega, Below.refl _ _⟩
    case round =>
      rename World => wr
      obtain ⟨k, hk, rfl, rfl, hpos, hbel⟩ := hrel
      by_cases hlt : k < LL.length
      · have hlti : (k : Int) < (LL.length : Int) := by omega
        have hk0 : (0 : Int) ≤ (k : Int) := by omega
        obtain ⟨b, o, p, c, rfl, hl1, hc1, hs1⟩ := (hs.below hbel).at hlt
        have hwn := HW.out LL[k] (List.getElem_mem hlt)
        have c1 := cz_Semigroup LL[k].length p c (left - (LL.length : Int) - ((ns.take k).sum : Int)) wr hwn hpos (by omega)
        have hsm := HSM.out k (by have := HNL.out; omega)
        have hna := HNA.out k hlt
        rw [hna] at hsm
        have hsl := HSL.out (k + 1)
        have htt := HT.out
        clear hna hs1 hwn
        generalize LL[k].length = m at *
        by_cases hfit : left - (LL.length : Int) - ((ns.take k).sum : Int) < (m : Int)
        · rw [szI_out hfit] at c1
          have HR : Hid (szS left LL = -1) := Lib.hid (szS_out (by omega))
          clear hsm hsl htt
          generalize ((ns.take k).sum : Int) = q at *
          go_wp2_with fail
          refine c1.mono ?_
          rintro e w2 ⟨rfl, hb2⟩
          have hbF := hbel.trans (hb2.mono hbel.size)
          clear c1 hc1
          go_wp2_with fail
          go_ret
          exact ⟨by rw [HR.out]; rfl, hbF⟩
        · rw [szI_in (by omega)] at c1
          have HN : Hid (left - (LL.length : Int) - ((ns.take k).sum : Int) - (m : Int) = left - (LL.length : Int) - ((ns.take (k + 1)).sum : Int)) := Lib.hid (by omega)
          have hp2 : 0 ≤ left - (LL.length : Int) - ((ns.take k).sum : Int) - (m : Int) := by omega
          have hp3 : 0 ≤ left - (LL.length : Int) - ((ns.take (k + 1)).sum : Int) := by omega
          clear hsm hsl htt
          generalize left - (LL.length : Int) - ((ns.take k).sum : Int) - (m : Int) = r at *
          generalize left - (LL.length : Int) - ((ns.take k).sum : Int) = q at *
          have hd2 : decide (r < 0) = false := decide_eq_false (by omega)
          go_wp2_with fail
          refine c1.mono ?_
          rintro e w2 ⟨rfl, hb2⟩
          have hbF := hbel.trans (hb2.mono hbel.size)
          clear c1 hc1
          go_wp2_with fail
          go_roundw
          case rel => exact ⟨k + 1, by omega, by go_num, by rw [← HN.out], hp3, hbF⟩
          case measure => simp [intOf]; omega
      · have HR : Hid (szS left LL = left - (LL.length : Int) - ((ns.take k).sum : Int)) := Lib.hid (by
          have h1 := HNL.out
          have h2 := HT.out
          rw [List.take_of_length_le (by omega)] at hpos ⊢
          rw [szS_in (by omega)]; omega)
        have hlti : ¬ (k : Int) < (LL.length : Int) := by omega
        go_wp2_with fail
        go_ret
        exact ⟨by rw [HR.out]; rfl, hbel⟩
/-- None of them filled yet. -/
theorem RowsG.blank {w : World} {lo n : Nat} {v : Value} (ho : w.ownsRow lo 26 1 v n (List.replicate n (.slice none 0 0))) : RowsG w lo w.heap.size v (List.replicate n (.slice none 0 0)) (List.replicate n []) := by
  refine ⟨by rw [List.length_replicate]; exact ho, by rw [List.length_replicate, List.length_replicate], fun i h1 h2 => ?_, fun j hj => (ho.lt j hj).2, Nat.le_refl _, fun i j h1 h2 hne b hb hb2 => ?_, fun i h1 b hb hb2 => ?_⟩
  · simp only [List.getElem_replicate]
    exact ⟨World.ownsRow_nil _ _ _ _, fun j hj => by simp [Value.ownBlock] at hj, Nat.le_refl _⟩
  · simp [Value.ownBlock] at hb
  · simp [Value.ownBlock] at hb
def mixE (LL : List (List Int)) (k : Nat) : List (List Value) := ((LL.take k).map fun L => L.map (Value.int .i64)) ++ List.replicate (LL.length - k) []
theorem mixE_zero (LL : List (List Int)) : mixE LL 0 = List.replicate LL.length [] := by simp [mixE]
theorem mixE_all (LL : List (List Int)) : mixE LL LL.length = LL.map fun L => L.map (Value.int .i64) := by simp [mixE]
theorem mixE_len {LL : List (List Int)} {k : Nat} (hk : k ≤ LL.length) : (mixE LL k).length = LL.length := by simp [mixE]; omega
theorem mixE_set {LL : List (List Int)} {k : Nat} (hk : k < LL.length) : (mixE LL k).set k (LL[k].map (Value.int .i64)) = mixE LL (k + 1) := by
  unfold mixE
  apply List.ext_getElem?
  intro j
  have e1 : (List.map (fun L => List.map (Value.int .i64) L) (LL.take k)).length = k := by simp; omega
  have e2 : (List.map (fun L => List.map (Value.int .i64) L) (LL.take (k + 1))).length = k + 1 := by simp; omega
  rw [List.getElem?_set]
  by_cases hj : k = j
  · subst hj
    rw [if_pos rfl, if_pos (by rw [List.length_append, e1, List.length_replicate]; omega), List.getElem?_append_left (by rw [e2]; omega), List.getElem?_map, List.getElem?_take_of_lt (by omega), List.getElem?_eq_getElem hk]; rfl
  · rw [if_neg hj]
    rcases Nat.lt_or_ge j k with h1 | h1
    · rw [List.getElem?_append_left (by rw [e1]; exact h1), List.getElem?_append_left (by rw [e2]; omega), List.getElem?_map, List.getElem?_map, List.getElem?_take_of_lt h1, List.getElem?_take_of_lt (by omega)]
    · rw [List.getElem?_append_right (by rw [e1]; exact h1), List.getElem?_append_right (by rw [e2]; omega), e1, e2]
      rcases Nat.lt_or_ge j LL.length with h2 | h2
      · rw [List.getElem?_replicate, List.getElem?_replicate, if_pos (by omega), if_pos (by omega)]
      · rw [List.getElem?_replicate, List.getElem?_replicate, if_neg (by omega), if_neg (by omega)]
theorem infoSg3 : (Try.prog.info? 26).map (fun i => (i.zero, i.size, i.bytes)) = some (some (.agg #[Value.slice none 0 0]), 1, 24) := by kernel_rfl
theorem blankG {w w1 : World} (M : Nat) (hown : w1.ownsRow w.heap.size 26 1 (.slice (some ⟨w.heap.size, 0, none⟩) M M) M (madeCells (Value.agg #[Value.slice none 0 0]).cells (M * 1)).toList) (hgrow : w.grownBy w1 none) :
    Hid (RowsG w1 w.heap.size w1.heap.size (.slice (some ⟨w.heap.size, 0, none⟩) M M) (List.replicate M (.slice none 0 0)) (List.replicate M [])) ∧ Hid (Below w.heap.size w w1) := by
  refine ⟨Lib.hid (RowsG.blank ?_), Lib.hid ((Below.refl _ w).grown hgrow (Nat.le_refl _) (fun k h => by cases h))⟩
  have e : (madeCells (Value.agg #[Value.slice none 0 0]).cells (M * 1)).toList = List.replicate M (Value.slice none 0 0) := by rw [Nat.mul_one]; exact toList_madeCells_one _ _
  rw [← e]; exact hown

set_option maxRecDepth 100000 in
set_option maxHeartbeats 1600000 in
theorem ct_SemigroupS (LL : List (List Int)) (a : Option Addr) (cap : Nat) (w : World) (hs : Sl2 w a LL) (hn : LL.length ≤ 1048576) (hw : ∀ L ∈ LL, L.length ≤ 1048576) :
    Calls Try.prog 6 #[.slice a LL.length cap] w fun e w' => ∃ v vs, e = .returned v ∧ RowsG w' w.heap.size w'.heap.size v vs (LL.map fun L => L.map (Value.int .i64)) ∧ Below w.heap.size w w' := by
  obtain ⟨i0, hi, hz0, hz1, hz2⟩ := info_parts infoSg3
  have HW := Lib.hid hw
  clear hw
  go_enter Try.func6, Try.ntmps6
  go_wp2_with (at_make; refine wpList_make_full _ rfl _ _ 29 rfl w.heap.size 26 i0 (.agg #[Value.slice none 0 0]) 1 Try.underlying29 hi hz0 hz1 .i64 .i64 _ _ LL.length rfl rfl (by first | rfl | (simp; done) | omega) (by first | rfl | (simp; done) | omega) (by rw [hz2]; omega) (by unfold maxLen; omega) (Nat.le_refl _) ?_; intro w1 hown hgrow; obtain ⟨HO, HB⟩ := blankG LL.length hown hgrow; clear hown hgrow)
  clear hi hz0 hz1 hz2
  go_loopw [4] (fun i wr => ∃ (k : Nat) (vs : List Value), k ≤ LL.length ∧ i = .int .i64 (k : Int) ∧ Hid (RowsG wr w.heap.size wr.heap.size (.slice (some ⟨w.heap.size, 0, none⟩) LL.length LL.length) vs (mixE LL k)) ∧ Below w.heap.size w wr) (fun i _ => LL.length - (intOf i).toNat)
  case atStart => exact ⟨0, _, Nat.zero_le _, rfl, Lib.hid (by rw [mixE_zero]; exact HO.out), HB.out⟩
  case round =>
    clear HO HB
    rename World => wr
    obtain ⟨k, vs, hk, rfl, HR, hbel⟩ := hrel
    by_cases hlt : k < LL.length
    · have hlti : (k : Int) < (LL.length : Int) := by omega
      have hk0 : (0 : Int) ≤ (k : Int) := by omega
      have hvl : vs.length = LL.length := by rw [HR.out.len, mixE_len hk]
      have hkv : k < vs.length := by omega
      obtain ⟨b, o, p, c, rfl, hl1, hc1, hs1⟩ := (hs.below hbel).at hlt
      have c1 := ct_Semigroup LL[k] p c wr hs1 (HW.out _ (List.getElem_mem hlt))
      have HSET := Lib.hid (mixE_set hlt)
      have hsz := hbel.size
      clear hs1
      generalize LL[k] = G at *
      go_wp2_with fail
      refine c1.mono ?_
      rintro e w2 ⟨v, rfl, ho, hb2⟩
      obtain ⟨a3, k3, rfl, -⟩ := row_open ho
      have hR2 := HR.out.below hb2
      have hown := hR2.own
      rw [hvl] at hown
      have hck : w2.cell? ⟨w.heap.size, k, none⟩ = some (vs[k]'hkv) := by rw [hown.cellAt k (by omega)]; exact List.getElem?_eq_getElem hkv
      have hfz : w2.frozen? ⟨w.heap.size, k, none⟩ = false := hown.frozenAt k
      have hst := hown.stored k (.slice a3 G.length k3)
      have HP := Lib.hid (hR2.put (by omega) (by rw [hvl]; exact hst.1) hst.2 (by rw [List.length_map]; exact ho) hsz)
      have HB2 := Lib.hid ((hbel.trans (hb2.mono hsz)).setCell (p := ⟨w.heap.size, k, none⟩) (Nat.le_refl _) (.slice a3 G.length k3))
      rw [HSET.out] at HP
      generalize vs[k]'hkv = u at hck
      clear c1 ho hR2 hown hst hc1
      go_wp2_with fail
      go_roundw
      case rel => exact ⟨k + 1, _, by omega, by go_num, HP, HB2.out⟩
      case measure => simp [intOf]; omega
    · obtain rfl : k = LL.length := by omega
      have hlti : ¬ ((LL.length : Nat) : Int) < (LL.length : Int) := by omega
      have HR2 := Lib.hid (mixE_all LL ▸ HR.out)
      clear HR
      go_wp2_with fail
      go_ret
      exact ⟨_, rfl, ⟨vs, HR2.out⟩, hbel⟩
end Go.Proofs.Ytfbfkaphcmngkaa
