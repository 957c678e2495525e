/-
  PLAIN LEMMAS on numerical semigroups, second half: generators that are no sums of lesser ones; the numbers behind the greatest conductor; what a semigroup is. No program in this text.
-/
import Derived.Test.YtdjjagpecbflnaaGreatDoorSgM
namespace Go.Proofs.YtdjjagpecbflnaaGreatDoor
open Go

/-- The numbers of an ascending list that are no sums of lesser ones. -/
noncomputable def minOf (S : List Int) : List Int := S.filter fun x => !sumB (S.filter fun y => decide (y < x)) x.toNat
/-- The numbers of G that are no sums of lesser ones. -/
noncomputable def minL (G : List Int) : List Int := minOf (sortL G)

theorem minOf_mem {S : List Int} {x : Int} (h : x ∈ minOf S) : x ∈ S := (List.mem_filter.1 h).1
theorem minL_mem {G : List Int} {x : Int} (h : x ∈ minL G) : x ∈ G := (sortL_spec G).2 x |>.1 (minOf_mem h)
theorem minOf_length_le (S : List Int) : (minOf S).length ≤ S.length := List.length_filter_le _ _
theorem minL_length_le (G : List Int) : (minL G).length ≤ G.length := Nat.le_trans (minOf_length_le _) (sortL_length_le G)
theorem sortL_of_asc {G : List Int} (h : Asc G) : sortL G = G := (sortL_eq h fun _ => Iff.rfl).symm
theorem minL_of_asc {G : List Int} (h : Asc G) : minL G = minOf G := by unfold minL; rw [sortL_of_asc h]

/-- What lies ahead of place k of an ascending list are its lesser numbers. -/
theorem mem_take_lesser {S : List Int} (hS : Asc S) (k : Nat) (hk : k < S.length) (x : Int) : x ∈ S.take k ↔ x ∈ S.filter fun y => decide (y < S[k]) := by
  rw [List.mem_filter, decide_eq_true_eq]
  constructor
  · intro h
    obtain ⟨i, hi, rfl⟩ := List.mem_take_iff_getElem.1 h
    exact ⟨List.getElem_mem _, hS i k hk (by omega)⟩
  · rintro ⟨h1, h2⟩
    obtain ⟨i, hi, rfl⟩ := List.getElem_of_mem h1
    refine List.mem_take_iff_getElem.2 ⟨i, ?_, rfl⟩
    have hik : i < k := by
      rcases Nat.lt_or_ge i k with h | h
      · exact h
      · rcases Nat.lt_or_ge k i with h3 | h3
        · have := hS k i hi h3; omega
        · have : i = k := by omega
          subst this; omega
    omega
theorem take_lesser {S : List Int} (hS : Asc S) (k : Nat) (hk : k < S.length) (n : Nat) : sumB (S.take k) n = sumB (S.filter fun y => decide (y < S[k])) n :=
  sumB_congr (mem_take_lesser hS k hk) n

/-- One round: place k of the list is kept where it is no sum of what lies ahead. -/
theorem minOf_take {S : List Int} (hS : Asc S) (k : Nat) (hk : k < S.length) : (S.take (k + 1)).filter (fun x => !sumB (S.filter fun y => decide (y < x)) x.toNat)
    = (S.take k).filter (fun x => !sumB (S.filter fun y => decide (y < x)) x.toNat) ++ (if sumB (S.take k) S[k].toNat then [] else [S[k]]) := by
  rw [List.take_add_one, List.getElem?_eq_getElem hk, List.filter_append]
  congr 1
  show List.filter _ [S[k]] = _
  rw [List.filter_cons, ← take_lesser hS k hk]
  cases sumB (S.take k) S[k].toNat <;> rfl

theorem asc_sub {S : List Int} (hS : Asc S) (p : Int → Bool) : Asc (S.filter p) := by
  have hp : S.Pairwise (· < ·) := List.pairwise_iff_getElem.2 fun i j hi hj hij => hS i j hj hij
  have hq := hp.filter p
  intro i j hj hij
  exact List.pairwise_iff_getElem.1 hq i j (Nat.lt_trans hij hj) hj hij
theorem minOf_asc {S : List Int} (hS : Asc S) : Asc (minOf S) := asc_sub hS _
theorem minL_asc (G : List Int) : Asc (minL G) := minOf_asc (sortL_spec G).1

/-! ### A number more -/
theorem sum_more {G : List Int} {x n : Nat} (h : IsSum G n) : IsSum (G ++ [(x : Int)]) n := h.mono fun _ hy => List.mem_append_left _ hy
theorem sum_snoc {G : List Int} {x n : Nat} : IsSum (G ++ [(x : Int)]) n ↔ IsSum G n ∨ (x ≤ n ∧ 1 ≤ x ∧ IsSum (G ++ [(x : Int)]) (n - x)) ∨ (x = 0 ∧ IsSum G n) := by
  constructor
  · intro h
    induction h with
    | zero => exact .inl .zero
    | @add m g hg h ih =>
      rcases List.mem_append.1 hg with hg | hg
      · rcases ih with h1 | ⟨h1, h2, h3⟩ | ⟨h1, h2⟩
        · exact .inl (.add hg h1)
        · refine .inr (.inl ⟨by omega, h2, ?_⟩)
          have e : m + g - x = (m - x) + g := by omega
          rw [e]
          exact .add (List.mem_append_left _ hg) h3
        · exact .inl (.add hg h2)
      · obtain rfl : g = x := by have := List.mem_singleton.1 hg; omega
        by_cases hx : g = 0
        · subst hx
          rcases ih with h1 | ⟨h1, h2, h3⟩ | ⟨h1, h2⟩
          · exact .inl h1
          · omega
          · exact .inl h2
        · refine .inr (.inl ⟨by omega, by omega, ?_⟩)
          rw [Nat.add_sub_cancel]; exact h
  · rintro (h | ⟨h1, h2, h3⟩ | ⟨_, h⟩)
    · exact sum_more h
    · have e : n = (n - x) + x := by omega
      rw [e]
      exact .add (by simp) h3
    · exact sum_more h
theorem sumB_snoc {G : List Int} {x n : Nat} (hx : 1 ≤ x) (hn : x ≤ n) : sumB (G ++ [(x : Int)]) n = (sumB G n || sumB (G ++ [(x : Int)]) (n - x)) := by
  rw [Bool.eq_iff_iff, Bool.or_eq_true, sumB_iff, sumB_iff, sumB_iff, sum_snoc]
  constructor
  · rintro (h | ⟨_, _, h⟩ | ⟨h, _⟩)
    · exact .inl h
    · exact .inr h
    · omega
  · rintro (h | h)
    · exact .inl h
    · exact .inr (.inl ⟨hn, hx, h⟩)
theorem sumB_snoc_small {G : List Int} {x n : Nat} (hn : n < x) : sumB (G ++ [(x : Int)]) n = sumB G n := by
  rw [Bool.eq_iff_iff, sumB_iff, sumB_iff, sum_snoc]
  constructor
  · rintro (h | ⟨h, _⟩ | ⟨h, _⟩)
    · exact h
    · omega
    · omega
  · exact .inl
/-- A number that is a sum already adds none. -/
theorem sum_idle {G : List Int} {x n : Nat} (hx : IsSum G x) (h : IsSum (G ++ [(x : Int)]) n) : IsSum G n := by
  induction h with
  | zero => exact .zero
  | @add m g hg _ ih =>
    rcases List.mem_append.1 hg with hg | hg
    · exact .add hg ih
    · obtain rfl : g = x := by have := List.mem_singleton.1 hg; omega
      exact ih.plus hx
theorem sumB_idle {G : List Int} {x : Nat} (hx : sumB G x = true) (n : Nat) : sumB (G ++ [(x : Int)]) n = sumB G n := by
  rw [Bool.eq_iff_iff, sumB_iff, sumB_iff]
  exact ⟨sum_idle (sumB_iff.1 hx), sum_more⟩
theorem sumB_own {G : List Int} {x : Nat} : sumB (G ++ [(x : Int)]) x = true := sumB_iff.2 (IsSum.gen (by simp))

/-! ### Every number is a sum of those that are no sums of lesser ones -/
theorem sum_minOf {S : List Int} (hS : ∀ x ∈ S, 1 ≤ x) {n : Nat} (h : IsSum S n) : IsSum (minOf S) n := by
  suffices hs : ∀ (m : Nat) (x : Int), x.toNat = m → x ∈ S → IsSum (minOf S) x.toNat by
    induction h with
    | zero => exact .zero
    | @add m g hg _ ih =>
      have := hs g (g : Int) (by omega) hg
      rw [Int.toNat_natCast] at this
      exact ih.plus this
  intro m
  induction m using Nat.strongRecOn with
  | _ m ih =>
    intro x hx hxS
    have h1 := hS x hxS
    cases hb : sumB (S.filter fun y => decide (y < x)) x.toNat
    · have hmem : ((x.toNat : Nat) : Int) ∈ minOf S := by
        rw [show ((x.toNat : Nat) : Int) = x by omega]
        exact List.mem_filter.2 ⟨hxS, by rw [hb]; rfl⟩
      exact IsSum.gen hmem
    · have hsum := sumB_iff.1 hb
      generalize x.toNat = k at hsum
      clear hb
      induction hsum with
      | zero => exact .zero
      | @add p g hg _ ih2 =>
        obtain ⟨h2, h3⟩ := List.mem_filter.1 hg
        have h4 : (g : Int) < x := by simpa using h3
        have := ih ((g : Int)).toNat (by omega) (g : Int) rfl h2
        rw [Int.toNat_natCast] at this
        exact ih2.plus this
theorem sumB_minL {G : List Int} (hG : ∀ x ∈ G, 1 ≤ x) (n : Nat) : sumB (minL G) n = sumB G n := by
  rw [Bool.eq_iff_iff, sumB_iff, sumB_iff]
  constructor
  · exact IsSum.mono fun x hx => minL_mem hx
  · intro h
    refine sum_minOf (fun x hx => hG x (((sortL_spec G).2 x).1 hx)) (h.mono fun x hx => ((sortL_spec G).2 x).2 hx)
theorem le_sum_of (g : Nat) : ∀ l : List Nat, g ∈ l → g ≤ l.sum
  | [], h => by simp at h
  | x :: l, h => by
    rw [List.sum_cons]
    rcases List.mem_cons.1 h with rfl | h
    · omega
    · have := le_sum_of g l h; omega
/-- None of them is a sum of the others. -/
theorem minOf_sole {S : List Int} (hm : minOf S = S) {x : Int} (hx : x ∈ S) (h1 : 1 ≤ x) (R : List Int) (hR : ∀ y ∈ R, y ∈ S ∧ y ≠ x) : ¬ IsSum R x.toNat := by
  intro h
  rw [← hm] at hx
  have hb := (List.mem_filter.1 hx).2
  have hlt : IsSum (R.filter fun y => decide (y < x)) x.toNat := by
    -- each summand is at most the sum, and none is x itself
    obtain ⟨l, hl, hs⟩ := isSum_list h
    have hall : ∀ g ∈ l, g ≤ l.sum := fun g hg => le_sum_of g l hg
    rw [← hs]
    refine list_isSum l fun g hg => List.mem_filter.2 ⟨hl g hg, ?_⟩
    have h2 := hR _ (hl g hg)
    have h3 := hall g hg
    rw [hs] at h3
    simp only [decide_eq_true_eq]
    have h4 := h2.2
    omega
  have : sumB (S.filter fun y => decide (y < x)) x.toNat = true := sumB_iff.2 (hlt.mono fun y hy => by
    obtain ⟨h2, h3⟩ := List.mem_filter.1 hy
    exact List.mem_filter.2 ⟨(hR y h2).1, h3⟩)
  rw [this] at hb
  cases hb

/-! ### All numbers from 200 on -/
open Classical in
noncomputable def endsB (G : List Int) : Bool := if ∀ n, 200 ≤ n → IsSum G n then true else false
theorem endsB_iff {G : List Int} : endsB G = true ↔ ∀ n, 200 ≤ n → IsSum G n := by unfold endsB; split <;> simp_all
theorem ends_of_window {G : List Int} {m : Nat} (hm : (m : Int) ∈ G) (h1 : 1 ≤ m) (h : ∀ n, 200 ≤ n → n < 200 + m → IsSum G n) : ∀ n, 200 ≤ n → IsSum G n := by
  intro n
  induction n using Nat.strongRecOn with
  | _ n ih =>
    intro hn
    by_cases hlt : n < 200 + m
    · exact h n hn hlt
    · have e : n = (n - m) + m := by omega
      rw [e]
      exact .add hm (ih (n - m) (by omega) (by omega))
theorem endsB_window {G : List Int} {m : Nat} (hm : (m : Int) ∈ G) (h1 : 1 ≤ m) : endsB G = true ↔ ∀ n, 200 ≤ n → n < 200 + m → sumB G n = true := by
  rw [endsB_iff]
  exact ⟨fun h n hn _ => sumB_iff.2 (h n hn), fun h => ends_of_window hm h1 fun n hn hlt => sumB_iff.1 (h n hn hlt)⟩
theorem gcd_one_of_ends {G : List Int} (hok : okG G = true) (h : endsB G = true) : gcdL G = 1 := by
  have hd := gcdL_dvd (okG_iff.1 hok).1
  have hp := gcdL_pos hok
  have hda : dvd_all (gcdL G).natAbs G := fun g hg => by simpa using hd _ hg
  have h1 := isSum_dvd hda (endsB_iff.1 h 200 (by omega))
  have h2 := isSum_dvd hda (endsB_iff.1 h 201 (by omega))
  have h3 : (gcdL G).natAbs ∣ 1 := by simpa using Nat.dvd_sub h2 h1
  have h4 := Nat.le_of_dvd (by omega) h3
  omega

/-! ### What a semigroup is -/
noncomputable def isSgB (G : List Int) : Bool := okG G && decide (G.length ≤ 12) && ascB G && decide (gcdL G = 1) && decide (minL G = G) && endsB G
structure IsSg (G : List Int) : Prop where
  ok : okG G = true
  len : G.length ≤ 12
  asc : ascB G = true
  gcd : gcdL G = 1
  min : minL G = G
  ends : endsB G = true
theorem isSgB_iff {G : List Int} : isSgB G = true ↔ IsSg G := by
  unfold isSgB
  simp only [Bool.and_eq_true, decide_eq_true_eq]
  exact ⟨fun ⟨⟨⟨⟨⟨h1, h2⟩, h3⟩, h4⟩, h5⟩, h6⟩ => ⟨h1, h2, h3, h4, h5, h6⟩, fun h => ⟨⟨⟨⟨⟨h.ok, h.len⟩, h.asc⟩, h.gcd⟩, h.min⟩, h.ends⟩⟩
theorem IsSg.Asc {G : List Int} (h : IsSg G) : Asc G := asc_of_ascB h.asc
theorem IsSg.bounds {G : List Int} (h : IsSg G) : ∀ x ∈ G, 1 ≤ x ∧ x ≤ 60 := (okG_iff.1 h.ok).1
theorem IsSg.pos {G : List Int} (h : IsSg G) : 1 ≤ G.length := (okG_iff.1 h.ok).2.1
theorem IsSg.ne {G : List Int} (h : IsSg G) : G ≠ [] := fun e => by have := h.pos; rw [e] at this; simp at this
theorem isSgB_nil : isSgB [] = false := by
  rw [Bool.eq_false_iff]; intro h; exact (isSgB_iff.1 h).ne rfl

/-- By the program's way: as many numbers as are kept, and sums from 200 to 259. -/
theorem isSgB_way {G : List Int} (hok : okG G = true) (hl : G.length ≤ 12) (ha : ascB G = true) : isSgB G = true ↔ G.length ≤ (minOf G).length ∧ ∀ n, 200 ≤ n → n < 260 → sumB G n = true := by
  have hA := asc_of_ascB ha
  obtain ⟨hb, hp, -⟩ := okG_iff.1 hok
  rw [isSgB_iff]
  constructor
  · intro h
    have h1 := h.min
    rw [minL_of_asc hA] at h1
    exact ⟨by rw [h1]; exact Nat.le_refl _, fun n hn _ => sumB_iff.2 (endsB_iff.1 h.ends n hn)⟩
  · rintro ⟨h1, h2⟩
    have hmin : minOf G = G := (List.filter_sublist (l := G)).eq_of_length_le h1
    obtain ⟨x, r, rfl⟩ : ∃ x r, G = x :: r := by
      cases G with
      | nil => simp at hp
      | cons x r => exact ⟨x, r, rfl⟩
    have hx := hb x (by simp)
    have he : endsB (x :: r) = true := (endsB_window (m := x.toNat) (by rw [show ((x.toNat : Nat) : Int) = x by omega]; simp) (by omega)).2 fun n hn hlt => h2 n hn (by omega)
    exact ⟨hok, hl, ha, gcd_one_of_ends hok he, by rw [minL_of_asc hA]; exact hmin, he⟩

/-- Whether n is an element. -/
noncomputable def hasN (G : List Int) (n : Int) : Bool := isSgB G && decide (0 ≤ n) && sumB G n.toNat
theorem hasN_far {G : List Int} (h : isSgB G = true) {n : Int} (hn : 200 ≤ n) : hasN G n = true := by
  unfold hasN
  rw [h, decide_eq_true (by omega : 0 ≤ n), sumB_iff.2 (endsB_iff.1 (isSgB_iff.1 h).ends n.toNat (by omega))]; rfl
theorem hasN_neg {G : List Int} {n : Int} (hn : n < 0) : hasN G n = false := by
  unfold hasN; rw [decide_eq_false (by omega : ¬ 0 ≤ n), Bool.and_false, Bool.false_and]
theorem hasN_not {G : List Int} (h : isSgB G = false) (n : Int) : hasN G n = false := by
  unfold hasN; rw [h]; rfl
theorem hasN_in {G : List Int} (h : isSgB G = true) (n : Nat) : hasN G (n : Int) = sumB G n := by
  unfold hasN; rw [h, decide_eq_true (by omega : (0 : Int) ≤ n)]; simp

/-! ### FromGens -/
noncomputable def fromB (L : List Int) : Bool := okG L && isSgB (minL L)
noncomputable def fromL (L : List Int) : List Int := if fromB L then minL L else []
theorem fromL_yes {L : List Int} (h : fromB L = true) : fromL L = minL L := by unfold fromL; rw [if_pos h]
theorem fromL_no {L : List Int} (h : fromB L = false) : fromL L = [] := by unfold fromL; rw [h]; rfl
theorem fromL_length_le (L : List Int) : (fromL L).length ≤ 12 := by
  cases h : fromB L
  · rw [fromL_no h]; simp
  · rw [fromL_yes h]
    unfold fromB at h
    exact (isSgB_iff.1 (Bool.and_eq_true_iff.1 h).2).len
theorem fromL_isSg {L : List Int} (h : fromB L = true) : isSgB (fromL L) = true := by
  rw [fromL_yes h]; unfold fromB at h; exact (Bool.and_eq_true_iff.1 h).2

noncomputable def multN (G : List Int) : Int := if isSgB G then G.headD 0 else 0
noncomputable def dimN (G : List Int) : Int := if isSgB G then (G.length : Int) else 0
end Go.Proofs.YtdjjagpecbflnaaGreatDoor
