/-
  THE ORDER OF A SEMIGROUP: no program. Below, the greatest and the least numbers of a list, the walk that keeps them, and what exceeds the modulus. (Own work.)
-/
import Derived.Test.YtljfiiohiolbnaaSgS
import Derived.Test.YtljfiiohiolbnaaSgE
namespace Go.Proofs.Ytljfiiohiolbnaa
open Go

/-- How far b stands behind a: upwards, or downwards. -/
def behN (dn : Bool) (a b : Int) : Int := if dn then a - b else b - a
noncomputable def belowB (G : List Int) (a b : Int) : Bool := small a && small b && hasN G (b - a)
noncomputable def topB (G L : List Int) (dn : Bool) (a : Int) : Bool := L.all fun b => decide (a = b) || !hasN G (behN dn a b)
noncomputable def topL (G L : List Int) (dn : Bool) : List Int := if isSgB G && L.all small then sortL (L.filter (topB G L dn)) else []
noncomputable def excL (G : List Int) (n : Int) : List Int := (topL G (aperyL G n) false).map fun x => x - n

theorem behN_self (dn : Bool) (a : Int) : behN dn a a = 0 := by unfold behN; split <;> omega
theorem behN_neg (dn : Bool) (a b : Int) : behN dn b a = -behN dn a b := by unfold behN; split <;> omega
theorem behN_add (dn : Bool) (a b c : Int) : behN dn a c = behN dn a b + behN dn b c := by unfold behN; split <;> omega
theorem behN_zero {dn : Bool} {a b : Int} (h : behN dn a b = 0) : a = b := by unfold behN at h; split at h <;> omega
theorem hasN_add {G : List Int} {a b : Int} (ha : hasN G a = true) (hb : hasN G b = true) : hasN G (a + b) = true := by
  obtain ⟨hs, h0, h1⟩ := hasN_sg ha
  obtain ⟨-, h2, h3⟩ := hasN_sg hb
  obtain ⟨m, rfl⟩ := Int.eq_ofNat_of_zero_le h0
  obtain ⟨n, rfl⟩ := Int.eq_ofNat_of_zero_le h2
  rw [← Int.natCast_add, hasN_in hs, sumB_iff]
  simpa using h1.plus h3
theorem hasN_zero {G : List Int} (h : isSgB G = true) : hasN G 0 = true := by
  have := hasN_in h 0
  rw [show ((0 : Nat) : Int) = 0 from rfl] at this
  rw [this, sumB_iff]; exact .zero
theorem hasN_nn {G : List Int} {n : Int} (h : hasN G n = true) : 0 ≤ n := (hasN_sg h).2.1
theorem topB_iff {G L : List Int} {dn : Bool} {a : Int} : topB G L dn a = true ↔ ∀ b ∈ L, a = b ∨ hasN G (behN dn a b) = false := by
  unfold topB
  rw [List.all_eq_true]
  refine forall_congr' fun b => forall_congr' fun _ => ?_
  rw [Bool.or_eq_true, decide_eq_true_eq]
  cases hasN G (behN dn a b) <;> simp
theorem topL_in {G L : List Int} {dn : Bool} (hs : isSgB G = true) (hL : L.all small = true) : topL G L dn = sortL (L.filter (topB G L dn)) := by unfold topL; rw [hs, hL]; rfl
theorem topL_no {G L : List Int} {dn : Bool} (h : isSgB G = false ∨ L.all small = false) : topL G L dn = [] := by
  unfold topL
  rcases h with h | h
  · rw [h]; rfl
  · rw [h, Bool.and_false]; rfl
theorem topL_len (G L : List Int) (dn : Bool) : (topL G L dn).length ≤ L.length := by
  unfold topL
  split
  · exact Nat.le_trans (sortL_length_le _) (List.length_filter_le _ _)
  · exact Nat.zero_le _
theorem mem_topL {G L : List Int} {dn : Bool} (hs : isSgB G = true) (hL : L.all small = true) {x : Int} : x ∈ topL G L dn ↔ x ∈ L ∧ ∀ b ∈ L, x = b ∨ hasN G (behN dn x b) = false := by
  rw [topL_in hs hL, (sortL_spec _).2, List.mem_filter, topB_iff]

/-! ### The walk that keeps those that stand behind none -/
structure Keeps (G P K : List Int) (dn : Bool) : Prop where
  sub : ∀ k ∈ K, k ∈ P
  top : ∀ k ∈ K, ∀ p ∈ P, k = p ∨ hasN G (behN dn k p) = false
  some : ∀ p ∈ P, ∃ k ∈ K, hasN G (behN dn p k) = true
theorem Keeps.nil (G : List Int) (dn : Bool) : Keeps G [] [] dn := ⟨by simp, by simp, by simp⟩
theorem Keeps.hit {G P K : List Int} {dn : Bool} {n : Int} (h : Keeps G P K dn) (ho : ∀ p ∈ P, 0 ≤ behN dn n p) (hk : ∃ k ∈ K, hasN G (behN dn n k) = true) : Keeps G (P ++ [n]) K dn := by
  refine ⟨fun k hk => List.mem_append.2 (.inl (h.sub k hk)), fun k hkK p hp => ?_, fun p hp => ?_⟩
  · rcases List.mem_append.1 hp with hp | hp
    · exact h.top k hkK p hp
    · rw [List.mem_singleton] at hp
      subst hp
      have h1 := ho k (h.sub k hkK)
      have h2 := behN_neg dn p k
      cases hq : hasN G (behN dn k p)
      · exact .inr rfl
      · have := hasN_nn hq
        exact .inl (behN_zero (dn := dn) (by omega))
  · rcases List.mem_append.1 hp with hp | hp
    · exact h.some p hp
    · rw [List.mem_singleton] at hp; subst hp; exact hk
theorem Keeps.miss {G P K : List Int} {dn : Bool} {n : Int} (hs : isSgB G = true) (h : Keeps G P K dn) (ho : ∀ p ∈ P, 0 ≤ behN dn n p) (hk : ∀ k ∈ K, hasN G (behN dn n k) = false) : Keeps G (P ++ [n]) (K ++ [n]) dn := by
  have hnp : ∀ p ∈ P, hasN G (behN dn n p) = false := fun p hp => by
    cases hq : hasN G (behN dn n p)
    · rfl
    · obtain ⟨k, hkK, hpk⟩ := h.some p hp
      have := hasN_add hq hpk
      rw [← behN_add, hk k hkK] at this; cases this
  refine ⟨fun k hk' => ?_, fun k hk' p hp => ?_, fun p hp => ?_⟩
  · rcases List.mem_append.1 hk' with h1 | h1
    · exact List.mem_append.2 (.inl (h.sub k h1))
    · exact List.mem_append.2 (.inr h1)
  · rcases List.mem_append.1 hk' with h1 | h1
    · rcases List.mem_append.1 hp with h2 | h2
      · exact h.top k h1 p h2
      · rw [List.mem_singleton] at h2
        subst h2
        have h3 := ho k (h.sub k h1)
        have h4 := behN_neg dn p k
        cases hq : hasN G (behN dn k p)
        · exact .inr rfl
        · have := hasN_nn hq
          exact .inl (behN_zero (dn := dn) (by omega))
    · rw [List.mem_singleton] at h1
      subst h1
      rcases List.mem_append.1 hp with h2 | h2
      · exact .inr (hnp p h2)
      · rw [List.mem_singleton] at h2; exact .inl h2.symm
  · rcases List.mem_append.1 hp with h1 | h1
    · obtain ⟨k, hkK, hpk⟩ := h.some p h1
      exact ⟨k, List.mem_append.2 (.inl hkK), hpk⟩
    · rw [List.mem_singleton] at h1
      subst h1
      exact ⟨p, by simp, by rw [behN_self]; exact hasN_zero hs⟩
theorem Keeps.done {G P K L : List Int} {dn : Bool} (hs : isSgB G = true) (hL : L.all small = true) (h : Keeps G P K dn) (hm : ∀ x, x ∈ P ↔ x ∈ L) : sortL K = topL G L dn := by
  rw [topL_in hs hL]
  refine sortL_eq (sortL_spec K).1 fun x => ?_
  rw [(sortL_spec K).2, List.mem_filter, topB_iff]
  constructor
  · exact fun hx => ⟨(hm x).1 (h.sub x hx), fun b hb => h.top x hx b ((hm b).2 hb)⟩
  · rintro ⟨hx, ht⟩
    obtain ⟨k, hk, hxk⟩ := h.some x ((hm x).2 hx)
    rcases ht k ((hm k).1 (h.sub k hk)) with rfl | h'
    · exact hk
    · rw [hxk] at h'; cases h'

/-! ### Every number of a list stands behind one that is kept -/
theorem top_over {G L : List Int} {dn : Bool} (hs : isSgB G = true) (hL : L.all small = true) {x : Int} (hx : x ∈ L) : ∃ k ∈ topL G L dn, hasN G (behN dn x k) = true := by
  have main : ∀ (m : Nat) (y : Int), y ∈ L → hasN G (behN dn x y) = true → behN dn x y + (m : Int) = 4000000 → ∃ k ∈ topL G L dn, hasN G (behN dn x k) = true := by
    intro m
    induction m using Nat.strongRecOn with
    | ind m ih =>
      intro y hy hxy hm
      by_cases ht : ∀ b ∈ L, y = b ∨ hasN G (behN dn y b) = false
      · exact ⟨y, (mem_topL hs hL).2 ⟨hy, ht⟩, hxy⟩
      · rw [Classical.not_forall] at ht
        obtain ⟨b, hb⟩ := ht
        rw [Classical.not_imp, not_or] at hb
        obtain ⟨hbL, hne, hyb⟩ := hb
        have hyb' : hasN G (behN dn y b) = true := by simpa using hyb
        have h0 := hasN_nn hyb'
        have h1 : behN dn y b ≠ 0 := fun h => hne (behN_zero h)
        have h2 := behN_add dn x y b
        have h3 := hasN_add hxy hyb'
        rw [← h2] at h3
        have sx := small_iff.1 (List.all_eq_true.1 hL x hx)
        have sb := small_iff.1 (List.all_eq_true.1 hL b hbL)
        have hbnd : behN dn x b ≤ 2000000 := by unfold behN; split <;> omega
        exact ih (m - (behN dn y b).toNat) (by omega) b hbL h3 (by omega)
  have hz : behN dn x x = 0 := behN_self dn x
  exact main 4000000 x hx (by rw [hz]; exact hasN_zero hs) (by omega)

/-! ### What exceeds the modulus -/
theorem aperyL_small {G : List Int} (n : Int) : (aperyL G n).all small = true := by
  rw [List.all_eq_true]
  intro x hx
  rcases aperyL_cases G n with h | ⟨N, rfl, hA, he⟩
  · rw [h] at hx; cases hx
  · obtain ⟨i, hi, rfl⟩ := List.getElem_of_mem hx
    have hl := aperyL_length hA
    obtain ⟨y, h1, -, -, h2, -⟩ := aperyL_at hA i (by omega)
    rw [List.getElem?_eq_getElem hi] at h1
    rw [Option.some.inj h1]
    exact small_iff.2 ⟨by omega, by omega⟩
theorem mem_aperyL {G : List Int} {N : Nat} (hA : ApIn G N) {x : Int} : x ∈ aperyL G (N : Int) ↔ ∃ y : Nat, x = (y : Int) ∧ sumB G y = true ∧ (N ≤ y → sumB G (y - N) = false) := by
  have hn : 1 ≤ N := hA.pos
  constructor
  · intro hx
    obtain ⟨i, hi, rfl⟩ := List.getElem_of_mem hx
    have hl := aperyL_length hA
    obtain ⟨y, h1, -, h3, -, h4⟩ := aperyL_at hA i (by omega)
    rw [List.getElem?_eq_getElem hi] at h1
    exact ⟨y, Option.some.inj h1, h3, h4⟩
  · rintro ⟨y, rfl, hy, hl⟩
    rw [aperyL_in hA, mem_apL]
    refine ⟨y % N, Nat.mod_lt _ (by omega), ?_⟩
    have h1 := (has_iff hA.far hn hA.step y).1 hy
    obtain ⟨j, hj⟩ := class_form (n := N) (r := apOf (sumB G) N (y % N) % N) (y := y) (by
      have := (apOf_least hA.far hn (Nat.mod_lt y (by omega))).cls
      rw [this])
    have hcls := (apOf_least hA.far hn (Nat.mod_lt y (show 0 < N by omega))).cls
    rcases Nat.eq_or_lt_of_le h1 with h2 | h2
    · exact congrArg _ h2.symm
    · exfalso
      have hge : N ≤ y - apOf (sumB G) N (y % N) := by
        have e : (y - apOf (sumB G) N (y % N)) % N = 0 := by
          have h5 : apOf (sumB G) N (y % N) % N = y % N := hcls
          have h6 := Nat.div_add_mod y N
          have h7 := Nat.div_add_mod (apOf (sumB G) N (y % N)) N
          rw [h5] at h7
          have h8 : y - apOf (sumB G) N (y % N) = N * (y / N - apOf (sumB G) N (y % N) / N) := by rw [Nat.mul_sub]; omega
          rw [h8]; exact Nat.mul_mod_right _ _
        have := Nat.le_of_dvd (by omega) (Nat.dvd_of_mod_eq_zero e)
        exact this
      have hh := hl (by omega)
      have := (has_iff hA.far hn hA.step (y - N)).2 (by rw [← Nat.mod_eq_sub_mod (show N ≤ y by omega)]; omega)
      rw [this] at hh; cases hh
theorem exc_mem {G : List Int} {N : Nat} (hA : ApIn G N) (x : Int) : x ∈ excL G (N : Int) ↔ ∃ y : Nat, x = (y : Int) - (N : Int) ∧ sumB G y = true ∧ (N ≤ y → sumB G (y - N) = false) ∧ ∀ s : Nat, 1 ≤ s → sumB G s = true → N ≤ y + s ∧ sumB G (y + s - N) = true := by
  unfold excL
  rw [List.mem_map]
  constructor
  · rintro ⟨a, ha, rfl⟩
    obtain ⟨h1, h2⟩ := (mem_topL hA.sg (aperyL_small _)).1 ha
    obtain ⟨y, rfl, hy, hl⟩ := (mem_aperyL hA).1 h1
    refine ⟨y, rfl, hy, hl, fun s hs1 hs => ?_⟩
    have hys : sumB G (y + s) = true := sumB_iff.2 ((sumB_iff.1 hy).plus (sumB_iff.1 hs))
    have hno : ¬ (N ≤ y + s → sumB G (y + s - N) = false) := fun h => by
      rcases h2 ((y + s : Nat) : Int) ((mem_aperyL hA).2 ⟨y + s, rfl, hys, h⟩) with h3 | h3
      · omega
      · have : behN false (y : Int) ((y + s : Nat) : Int) = (s : Int) := by unfold behN; simp; omega
        rw [this, hasN_in hA.sg, hs] at h3; cases h3
    rw [Classical.not_imp] at hno
    exact ⟨hno.1, by simpa using hno.2⟩
  · rintro ⟨y, rfl, hy, hl, ht⟩
    refine ⟨(y : Int), (mem_topL hA.sg (aperyL_small _)).2 ⟨(mem_aperyL hA).2 ⟨y, rfl, hy, hl⟩, fun b hb => ?_⟩, rfl⟩
    obtain ⟨z, rfl, hz, hzl⟩ := (mem_aperyL hA).1 hb
    by_cases he : y = z
    · exact .inl (by rw [he])
    · right
      cases hq : hasN G (behN false (y : Int) (z : Int))
      · rfl
      · have h0 := hasN_nn hq
        have hbz : behN false (y : Int) (z : Int) = ((z - y : Nat) : Int) := by unfold behN at h0 ⊢; simp at h0 ⊢; omega
        rw [hbz, hasN_in hA.sg] at hq
        have hle : y ≤ z := by unfold behN at h0; simp at h0; omega
        obtain ⟨h1, h2⟩ := ht (z - y) (by omega) hq
        rw [show y + (z - y) = z by omega] at h1 h2
        rw [hzl h1] at h2; cases h2
theorem excL_asc {G : List Int} {n : Int} : Asc (excL G n) := by
  unfold excL
  have h : Asc (topL G (aperyL G n) false) := by
    unfold topL
    split
    · exact (sortL_spec _).1
    · exact (by simp [Asc])
  intro i j hj hij
  simp only [List.length_map] at hj
  have := h i j hj hij
  simp only [List.getElem_map]
  omega
end Go.Proofs.Ytljfiiohiolbnaa
