/-
  SEMIGROUPS FROM THEIR GAPS: no program. What clashes in a list of gaps, the semigroup with given gaps, the semigroup with given small elements and conductor. (Own work.)
-/
import Derived.Test.YtljfiiohiolbnaaSgK
namespace Go.Proofs.Ytljfiiohiolbnaa
open Go

/-! ### Clashes -/
noncomputable def okGp (L : List Int) : Bool := L.all (fun x => inB x 1 199) && ascB L
theorem okGp_iff {L : List Int} : okGp L = true ↔ (∀ x ∈ L, 1 ≤ x ∧ x ≤ 199) ∧ ascB L = true := by
  unfold okGp
  rw [Bool.and_eq_true, List.all_eq_true]
  exact and_congr_left fun _ => ⟨fun h x hx => inB_iff.1 (h x hx), fun h x hx => inB_iff.2 (h x hx)⟩
/-- Whether a number is one of the list. -/
def isIn (L : List Int) (n : Nat) : Bool := decide ((n : Int) ∈ L)
theorem isIn_iff {L : List Int} {n : Nat} : isIn L n = true ↔ (n : Int) ∈ L := by unfold isIn; rw [decide_eq_true_eq]
theorem isIn_false {L : List Int} {n : Nat} : isIn L n = false ↔ (n : Int) ∉ L := by unfold isIn; rw [decide_eq_false_iff_not]
def clash8 (L : List Int) (a b : Nat) : Bool := !isIn L a && !isIn L b && isIn L (a + b)
def inRow8 (L : List Int) (a b : Nat) : Bool := decide (a ≤ b) && clash8 L a b
def row8 (L : List Int) (a : Nat) : Bool := decide (1 ≤ a) && (List.range 200).any (inRow8 L a)
/-- The first two numbers that are not in the list and whose sum is. -/
noncomputable def gapR (L : List Int) : Option (Nat × Nat) :=
  if okGp L then match (List.range 200).find? (row8 L) with
    | none => none
    | some a => ((List.range 200).find? (inRow8 L a)).map fun b => (a, b)
  else none
noncomputable def gapA (L : List Int) : Int := match gapR L with | some (a, _) => (a : Int) | none => 0
noncomputable def gapB' (L : List Int) : Int := match gapR L with | some (_, b) => (b : Int) | none => 0
noncomputable def gapQ (L : List Int) : Bool := (gapR L).isSome

theorem gapR_no {L : List Int} (h : okGp L = false) : gapR L = none := by unfold gapR; rw [h]; rfl
theorem okGp_lt {L : List Int} (h : okGp L = true) {n : Nat} (hn : isIn L n = true) : 1 ≤ n ∧ n < 200 := by
  have := (okGp_iff.1 h).1 _ (isIn_iff.1 hn); omega
theorem row8_false {L : List Int} {a : Nat} (h : ∀ b, b < 200 → a ≤ b → clash8 L a b = false) : row8 L a = false := by
  unfold row8
  by_cases h1 : 1 ≤ a
  · rw [decide_eq_true h1, Bool.true_and, List.any_eq_false]
    intro b hb
    unfold inRow8
    by_cases hab : a ≤ b
    · rw [h b (List.mem_range.1 hb) hab]; simp
    · rw [decide_eq_false hab]; simp
  · rw [decide_eq_false h1]; rfl
theorem gapR_pair {L : List Int} (hok : okGp L = true) {a b : Nat} (ha : 1 ≤ a) (hab : a ≤ b) (hc : clash8 L a b = true)
    (hlo : ∀ x y, 1 ≤ x → x < a → x ≤ y → clash8 L x y = false) (hrow : ∀ y, a ≤ y → y < b → clash8 L a y = false) : gapR L = some (a, b) := by
  have hb : a + b < 200 := by
    unfold clash8 at hc
    rw [Bool.and_eq_true] at hc
    exact (okGp_lt hok hc.2).2
  unfold gapR
  rw [if_pos hok]
  have hr : row8 L a = true := by
    unfold row8
    rw [decide_eq_true ha, Bool.true_and, List.any_eq_true]
    exact ⟨b, List.mem_range.2 (by omega), by unfold inRow8; rw [decide_eq_true hab, hc]; rfl⟩
  rw [find_range (show a < 200 by omega) hr (fun j hj => by
    by_cases h1 : 1 ≤ j
    · exact row8_false fun y _ hjy => hlo j y h1 hj hjy
    · unfold row8; rw [decide_eq_false h1]; rfl)]
  show Option.map _ _ = _
  rw [find_range (show b < 200 by omega) (by unfold inRow8; rw [decide_eq_true hab, hc]; rfl) (fun j hj => by
    unfold inRow8
    by_cases h1 : a ≤ j
    · rw [hrow j h1 hj]; simp
    · rw [decide_eq_false h1]; rfl)]
  rfl
theorem gapR_none {L : List Int} (hc : ∀ x y, 1 ≤ x → x ≤ y → clash8 L x y = false) : gapR L = none := by
  unfold gapR
  split
  · have h : (List.range 200).find? (row8 L) = none := find_range_none fun j hj => by
      by_cases h1 : 1 ≤ j
      · exact row8_false fun y _ hjy => hc j y h1 hjy
      · unfold row8; rw [decide_eq_false h1]; rfl
    rw [h]
  · rfl
/-- What a clash is. -/
theorem gapR_some {L : List Int} {a b : Nat} (h : gapR L = some (a, b)) : okGp L = true ∧ 1 ≤ a ∧ a ≤ b ∧ a + b < 200 ∧ isIn L a = false ∧ isIn L b = false ∧ isIn L (a + b) = true := by
  cases hok : okGp L
  · rw [gapR_no hok] at h; cases h
  · unfold gapR at h
    rw [if_pos hok] at h
    cases hf : (List.range 200).find? (row8 L) with
    | none => simp only [hf] at h; cases h
    | some x =>
      have hx := List.find?_some hf
      simp only [hf] at h
      cases hg : (List.range 200).find? (inRow8 L x) with
      | none => rw [hg] at h; cases h
      | some y =>
        have hy := List.find?_some hg
        rw [hg] at h
        injection h with h
        injection h with h1 h2
        subst h1 h2
        unfold row8 at hx
        unfold inRow8 clash8 at hy
        simp only [Bool.and_eq_true, decide_eq_true_eq, Bool.not_eq_true'] at hx hy
        obtain ⟨h1, ⟨h2, h3⟩, h4⟩ := hy
        exact ⟨rfl, hx.1, h1, (okGp_lt hok h4).2, h2, h3, h4⟩
/-- Nothing clashes: the numbers that are not in the list are closed under addition. -/
theorem gapR_closed {L : List Int} (hok : okGp L = true) (h : gapR L = none) {x y : Nat} (hx : isIn L x = false) (hy : isIn L y = false) : isIn L (x + y) = false := by
  suffices H : ∀ a b : Nat, a ≤ b → isIn L a = false → isIn L b = false → isIn L (a + b) = false by
    rcases Nat.le_total x y with e | e
    · exact H x y e hx hy
    · rw [Nat.add_comm]; exact H y x e hy hx
  intro a b hab ha hb
  rcases Nat.eq_zero_or_pos a with rfl | ha1
  · rw [Nat.zero_add]; exact hb
  cases hs : isIn L (a + b)
  · rfl
  · have hlt := (okGp_lt hok hs).2
    unfold gapR at h
    rw [if_pos hok] at h
    have hc : inRow8 L a b = true := by unfold inRow8 clash8; rw [decide_eq_true hab, ha, hb, hs]; rfl
    have hr : row8 L a = true := by
      unfold row8
      rw [decide_eq_true (show 1 ≤ a from ha1), Bool.true_and, List.any_eq_true]
      exact ⟨b, List.mem_range.2 (by omega), hc⟩
    cases hf : (List.range 200).find? (row8 L) with
    | none => have := List.find?_eq_none.1 hf a (List.mem_range.2 (by omega)); exact absurd hr this
    | some c =>
      have hcr := List.find?_some hf
      simp only [hf] at h
      unfold row8 at hcr
      rw [Bool.and_eq_true, List.any_eq_true] at hcr
      obtain ⟨-, d, hd, he⟩ := hcr
      cases hg : (List.range 200).find? (inRow8 L c) with
      | none => have := List.find?_eq_none.1 hg d hd; exact absurd he this
      | some d' => rw [hg] at h; cases h

/-! ### The semigroup with given gaps -/
theorem mem_gapsL {G : List Int} (h : isSgB G = true) (n : Nat) : (n : Int) ∈ gapsL G ↔ sumB G n = false := by
  unfold gapsL
  rw [if_pos h, List.mem_map]
  constructor
  · rintro ⟨a, ha, e⟩
    obtain rfl : a = n := Int.ofNat_inj.1 e
    simpa using (mem_upB.1 ha).2
  · intro hn
    refine ⟨n, mem_upB.2 ⟨?_, by rw [hn]; rfl⟩, rfl⟩
    rcases Nat.lt_or_ge n 200 with h1 | h1
    · exact h1
    · rw [sumB_iff.2 (endsB_iff.1 (isSgB_iff.1 h).ends n h1)] at hn; cases hn
theorem isIn_gaps {G : List Int} (h : isSgB G = true) (n : Nat) : isIn (gapsL G) n = !sumB G n := by
  cases hs : sumB G n
  · exact isIn_iff.2 ((mem_gapsL h n).2 hs)
  · refine isIn_false.2 fun e => ?_
    rw [(mem_gapsL h n).1 e] at hs; cases hs
theorem sg_pos {G : List Int} (h : isSgB G = true) : Pos G := fun x hx => ((isSgB_iff.1 h).bounds x hx).1
theorem sg_unique {G H : List Int} (hG : isSgB G = true) (hH : isSgB H = true) (h : ∀ n, sumB G n = sumB H n) : G = H := by
  have := minL_sg hH (sg_pos hG) fun n => by rw [← sumB_iff, ← sumB_iff, h]
  rw [(isSgB_iff.1 hG).min] at this
  exact this
theorem gaps_unique {G H : List Int} (hG : isSgB G = true) (hH : isSgB H = true) (h : gapsL G = gapsL H) : G = H :=
  sg_unique hG hH fun n => by
    have e := isIn_gaps hG n
    rw [h, isIn_gaps hH n] at e
    cases hg : sumB G n <;> cases hh : sumB H n <;> rw [hg, hh] at e <;> first | rfl | cases e
theorem gapsL_okGp {G : List Int} (h : isSgB G = true) : okGp (gapsL G) = true := by
  refine okGp_iff.2 ⟨fun x hx => ?_, ?_⟩
  · unfold gapsL at hx
    rw [if_pos h, List.mem_map] at hx
    obtain ⟨a, ha, rfl⟩ := hx
    obtain ⟨h1, h2⟩ := mem_upB.1 ha
    have h0 : a ≠ 0 := fun e => by rw [e, sumB_zero] at h2; cases h2
    simp only [Int.ofNat_eq_natCast]
    omega
  · refine ascB_true fun k hk => ?_
    have hp : (gapsL G).Pairwise (· < ·) := by
      unfold gapsL upB
      rw [if_pos h, List.pairwise_map]
      exact (List.Pairwise.filter _ List.pairwise_lt_range).imp fun h => by simp only [Int.ofNat_eq_natCast]; omega
    exact List.pairwise_iff_getElem.1 hp k (k + 1) (by omega) hk (by omega)
theorem gaps_no_clash {G : List Int} (h : isSgB G = true) : gapR (gapsL G) = none := by
  cases hr : gapR (gapsL G) with
  | none => rfl
  | some p =>
    obtain ⟨a, b⟩ := p
    obtain ⟨-, -, -, -, h1, h2, h3⟩ := gapR_some hr
    rw [isIn_gaps h] at h1 h2 h3
    simp at h1 h2 h3
    rw [sumB_iff.2 ((sumB_iff.1 h1).plus (sumB_iff.1 h2))] at h3; cases h3

open Classical in
noncomputable def fromGpB (L : List Int) : Bool := if ∃ G, isSgB G = true ∧ gapsL G = L then true else false
open Classical in
noncomputable def fromGpL (L : List Int) : List Int := if h : ∃ G, isSgB G = true ∧ gapsL G = L then h.choose else []
theorem fromGp_iff {L G : List Int} : (fromGpB L = true ∧ fromGpL L = G) ↔ isSgB G = true ∧ gapsL G = L := by
  unfold fromGpB fromGpL
  constructor
  · rintro ⟨h, rfl⟩
    have hx : ∃ G, isSgB G = true ∧ gapsL G = L := by
      rcases Classical.em (∃ G, isSgB G = true ∧ gapsL G = L) with hx | hx
      · exact hx
      · rw [if_neg hx] at h; cases h
    rw [dif_pos hx]; exact hx.choose_spec
  · rintro ⟨h1, h2⟩
    have hx : ∃ G, isSgB G = true ∧ gapsL G = L := ⟨G, h1, h2⟩
    rw [if_pos hx, dif_pos hx]
    exact ⟨rfl, gaps_unique hx.choose_spec.1 h1 (by rw [hx.choose_spec.2, h2])⟩
theorem fromGpL_no {L : List Int} (h : fromGpB L = false) : fromGpL L = [] := by
  unfold fromGpB at h
  unfold fromGpL
  have hx : ¬ ∃ G, isSgB G = true ∧ gapsL G = L := fun hx => by rw [if_pos hx] at h; cases h
  rw [dif_neg hx]
theorem fromGp_none {L : List Int} (h : ∀ G, isSgB G = true → gapsL G ≠ L) : fromGpB L = false := by
  cases hb : fromGpB L
  · rfl
  · obtain ⟨h1, h2⟩ := fromGp_iff.1 ⟨hb, rfl⟩
    exact absurd h2 (h _ h1)
theorem fromGpL_len (L : List Int) : (fromGpL L).length ≤ 12 := by
  cases h : fromGpB L
  · rw [fromGpL_no h]; exact Nat.zero_le _
  · exact (isSgB_iff.1 (fromGp_iff.1 ⟨h, rfl⟩).1).len
theorem fromGp_clash {L : List Int} (h : fromGpB L = true) : okGp L = true ∧ gapR L = none := by
  obtain ⟨h1, h2⟩ := fromGp_iff.1 ⟨h, rfl⟩
  rw [← h2]
  exact ⟨gapsL_okGp h1, gaps_no_clash h1⟩

/-! ### The numbers that are not in a list without a clash, as sums -/
/-- Not in the list, and no sum of two positive numbers that are not in it. -/
structure Prim (L : List Int) (x : Nat) : Prop where
  pos : 1 ≤ x
  out : isIn L x = false
  no : ∀ a b, 1 ≤ a → 1 ≤ b → a + b = x → isIn L a = false → isIn L b = true
/-- Sums of numbers below n that are not in the list and that make all of these. -/
theorem prim_sum {L M : List Int} {n : Nat} (hM : ∀ x : Nat, x < n → ((x : Int) ∈ M ↔ Prim L x)) :
    ∀ x, x < n → isIn L x = false → IsSum M x := by
  intro x
  induction x using Nat.strongRecOn with
  | ind x ih =>
    intro hx ho
    rcases Nat.eq_zero_or_pos x with rfl | h1
    · exact .zero
    · rcases Classical.em (Prim L x) with hp | hp
      · exact IsSum.gen ((hM x hx).2 hp)
      · have : ∃ a b, 1 ≤ a ∧ 1 ≤ b ∧ a + b = x ∧ isIn L a = false ∧ isIn L b = false := by
          refine Classical.byContradiction fun hn => hp ⟨h1, ho, fun a b ha hb e hia => ?_⟩
          cases hib : isIn L b
          · exact absurd ⟨a, b, ha, hb, e, hia, hib⟩ hn
          · rfl
        obtain ⟨a, b, ha, hb, rfl, hia, hib⟩ := this
        exact (ih a (by omega) (by omega) hia).plus (ih b (by omega) (by omega) hib)
theorem sum_out {L M : List Int} (h0 : isIn L 0 = false) (hM : ∀ x : Nat, (x : Int) ∈ M → isIn L x = false) (hcl : ∀ x y, isIn L x = false → isIn L y = false → isIn L (x + y) = false) {n : Nat} (h : IsSum M n) : isIn L n = false := by
  induction h with
  | zero => exact h0
  | add hg _ ih => exact hcl _ _ ih (hM _ hg)
/-! ### The semigroup with given small elements and conductor -/
theorem mem_smallL {G : List Int} (h : isSgB G = true) (n : Nat) : (n : Int) ∈ smallL G ↔ sumB G n = true ∧ n < condNat G := by
  unfold smallL
  rw [if_pos h, List.mem_map]
  constructor
  · rintro ⟨a, ha, e⟩
    obtain rfl : a = n := Int.ofNat_inj.1 e
    exact ⟨(mem_upB.1 ha).2, (mem_upB.1 ha).1⟩
  · rintro ⟨h1, h2⟩
    exact ⟨n, mem_upB.2 ⟨h2, h1⟩, rfl⟩
theorem small_unique {G H : List Int} (hG : isSgB G = true) (hH : isSgB H = true) (hc : condN G = condN H) (hs : smallL G = smallL H) : G = H := by
  rw [condN_yes hG, condN_yes hH] at hc
  have hc : condNat G = condNat H := by omega
  refine sg_unique hG hH fun n => ?_
  rcases Nat.lt_or_ge n (condNat G) with h | h
  · have h1 := mem_smallL hG n
    have h2 := mem_smallL hH n
    rw [hs, h2, ← hc] at h1
    cases hg : sumB G n <;> cases hh : sumB H n
    · rfl
    · rw [hg, hh] at h1; have := (h1.1 ⟨rfl, h⟩).1; cases this
    · rw [hg, hh] at h1; have := (h1.2 ⟨rfl, h⟩).1; cases this
    · rfl
  · rw [sg_from hG n h, sg_from hH n (by omega)]
open Classical in
noncomputable def fromElB (S : List Int) (c : Int) : Bool := if ∃ G, isSgB G = true ∧ condN G = c ∧ smallL G = S then true else false
open Classical in
noncomputable def fromElL (S : List Int) (c : Int) : List Int := if h : ∃ G, isSgB G = true ∧ condN G = c ∧ smallL G = S then h.choose else []
theorem fromEl_iff {S G : List Int} {c : Int} : (fromElB S c = true ∧ fromElL S c = G) ↔ isSgB G = true ∧ condN G = c ∧ smallL G = S := by
  unfold fromElB fromElL
  constructor
  · rintro ⟨h, rfl⟩
    have hx : ∃ G, isSgB G = true ∧ condN G = c ∧ smallL G = S := by
      rcases Classical.em (∃ G, isSgB G = true ∧ condN G = c ∧ smallL G = S) with hx | hx
      · exact hx
      · rw [if_neg hx] at h; cases h
    rw [dif_pos hx]; exact hx.choose_spec
  · rintro ⟨h1, h2, h3⟩
    have hx : ∃ G, isSgB G = true ∧ condN G = c ∧ smallL G = S := ⟨G, h1, h2, h3⟩
    rw [if_pos hx, dif_pos hx]
    obtain ⟨k1, k2, k3⟩ := hx.choose_spec
    exact ⟨rfl, small_unique k1 h1 (by rw [k2, h2]) (by rw [k3, h3])⟩
theorem fromElL_no {S : List Int} {c : Int} (h : fromElB S c = false) : fromElL S c = [] := by
  unfold fromElB at h
  unfold fromElL
  have hx : ¬ ∃ G, isSgB G = true ∧ condN G = c ∧ smallL G = S := fun hx => by rw [if_pos hx] at h; cases h
  rw [dif_neg hx]
theorem fromElL_len (S : List Int) (c : Int) : (fromElL S c).length ≤ 12 := by
  cases h : fromElB S c
  · rw [fromElL_no h]; exact Nat.zero_le _
  · exact (isSgB_iff.1 (fromEl_iff.1 ⟨h, rfl⟩).1).len
theorem fromEl_cond {S : List Int} {c : Int} (h : fromElB S c = true) : 0 ≤ c ∧ c ≤ 200 := by
  obtain ⟨h1, h2, -⟩ := fromEl_iff.1 ⟨h, rfl⟩
  rw [condN_yes h1] at h2
  have := condNat_le (fromElL S c)
  omega
/-- The positive numbers below n that are not in a list. -/
def missL (S : List Int) (n : Nat) : List Int := (upB (fun k => decide (1 ≤ k) && !isIn S k) n).map Int.ofNat
theorem missL_succ (S : List Int) (n : Nat) : missL S (n + 1) = missL S n ++ (if decide (1 ≤ n) && !isIn S n then [(n : Int)] else []) := by
  unfold missL
  rw [upB_succ]
  split
  · rw [List.map_append]; rfl
  · rw [List.append_nil]
theorem missL_gaps {G : List Int} (h : isSgB G = true) : missL (smallL G) (condNat G) = gapsL G := by
  unfold missL gapsL
  rw [if_pos h, upB_not_from (sg_from h) (condNat_le G)]
  congr 1
  unfold upB
  refine List.filter_congr fun n hn => ?_
  have hn := List.mem_range.1 hn
  have hm := mem_smallL h n
  cases hs : sumB G n
  · have h0 : 1 ≤ n := by
      rcases Nat.eq_zero_or_pos n with rfl | h0
      · rw [sumB_zero] at hs; cases hs
      · exact h0
    have hi : isIn (smallL G) n = false := isIn_false.2 fun e => by rw [(hm.1 e).1] at hs; cases hs
    rw [decide_eq_true h0, hi]; rfl
  · have hi : isIn (smallL G) n = true := isIn_iff.2 (hm.2 ⟨hs, hn⟩)
    rw [hi]; simp
/-- The way by the gaps. -/
theorem fromEl_way {S : List Int} {C : Nat} : fromElB S (C : Int) = (fromGpB (missL S C) && decide (condN (fromGpL (missL S C)) = (C : Int)) && decide (smallL (fromGpL (missL S C)) = S)) ∧ (fromElB S (C : Int) = true → fromElL S (C : Int) = fromGpL (missL S C)) := by
  have hyes : fromElB S (C : Int) = true → fromGpB (missL S C) = true ∧ fromGpL (missL S C) = fromElL S (C : Int) := fun h => by
    obtain ⟨h1, h2, h3⟩ := fromEl_iff.1 ⟨h, rfl⟩
    have h4 : condNat (fromElL S (C : Int)) = C := by rw [condN_yes h1] at h2; omega
    refine fromGp_iff.2 ⟨h1, ?_⟩
    rw [← missL_gaps h1, h3, h4]
  refine ⟨?_, fun h => (hyes h).2.symm⟩
  cases h : fromElB S (C : Int)
  · refine Eq.symm (Bool.not_eq_true _ ▸ fun h' => ?_)
    rw [Bool.and_eq_true, Bool.and_eq_true, decide_eq_true_eq, decide_eq_true_eq] at h'
    obtain ⟨⟨h1, h2⟩, h3⟩ := h'
    have := (fromEl_iff.2 ⟨(fromGp_iff.1 ⟨h1, rfl⟩).1, h2, h3⟩).1
    rw [h] at this; cases this
  · obtain ⟨h1, h2⟩ := hyes h
    obtain ⟨-, k2, k3⟩ := fromEl_iff.1 ⟨h, rfl⟩
    rw [h1, h2, decide_eq_true k2, decide_eq_true k3]; rfl
end Go.Proofs.Ytljfiiohiolbnaa
